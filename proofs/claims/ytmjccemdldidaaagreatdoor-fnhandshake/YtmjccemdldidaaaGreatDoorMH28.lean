import Derived.Test.YtmjccemdldidaaaGreatDoorMH27
import Derived.LaidEql
namespace Go.Proofs.YtmjccemdldidaaaGreatDoor
open Go.RowKit
open Go.Proofs.Tryz
open Go.RowKit Go.Extern.Stop Go.Stop Go.Extern
open Go renaming heap_alloc_new → hAN, wpList_load_row → wpLr, wpQuiet_nil → wqN
open List renaming drop_zero → dY, length_append → lQ, length_map → lU, mem_append → mY
open Nat renaming le_refl → nQ, le_trans → nU, lt_of_lt_of_le → nJ
set_option linter.unusedVariables false
set_option maxHeartbeats 2000000
set_option maxRecDepth 10000
def dF (c h:LI) (r:List Value):List Value:=c.map (Value.int .u8)++(h.map (Value.int .u8)++r)
theorem iO (c h:LI) (r:List Value) (hc:c.length=32) (hh:h.length=32):(dF c h r).length=64+r.length:=by simp[dF,hc,hh];omega
theorem aj3 (c h:LI) (r:List Value) (hc:c.length=32):((dF c h r).drop 0).take 32=c.map (Value.int .u8):=by
 show(dF c h r).take 32=_
 unfold dF
 rw[show 32=(c.map (Value.int .u8)).length by rw[lU,hc]]
 exact List.take_left
theorem aj4 (c h:LI) (r:List Value) (hc:c.length=32) (hh:h.length=32):((dF c h r).drop 32).take 32=h.map (Value.int .u8):=by
 have e:(dF c h r).drop 32=h.map (Value.int .u8)++r:=by
  unfold dF
  rw[show 32=(c.map (Value.int .u8)).length by rw[lU,hc]]
  exact List.drop_left
 rw[e,show 32=(h.map (Value.int .u8)).length by rw[lU,hh]]
 exact List.take_left
theorem mH {α:Type} (A p q C:List α) (i:Nat) (hA:A.length=i) (hp:p.length=q.length):(A++(p++C)).take i++q++(A++(p++C)).drop (i+q.length)=A++(q++C):=by
 subst hA
 rw[List.take_left,←hp,←List.drop_drop,List.drop_left,List.drop_left,List.append_assoc]
theorem adJ (c h h':LI) (r:List Value) (hc:c.length=32) (hh:h.length=32) (hh':h'.length=32):(dF c h r).take 32++h'.map (Value.int .u8)++(dF c h r).drop (32+(h'.map (Value.int .u8)).length)=dF c h' r:=
 mH _ _ _ _ 32 (by rw[lU,hc]) (by rw[lU,lU,hh,hh'])
theorem SM (c c' h:LI) (r:List Value) (hc:c.length=32) (hc':c'.length=32):(dF c h r).take 0++c'.map (Value.int .u8)++(dF c h r).drop (0+(c'.map (Value.int .u8)).length)=dF c' h r:=
 mH [] (c.map (Value.int .u8)) (c'.map (Value.int .u8)) (h.map (Value.int .u8)++r) 0 rfl (by rw[lU,lU,hc,hc'])
theorem V8 (l:LI):(l.map (Value.int .u8)).all (·.oneCell')=true:=by simp[Value.oneCell']
theorem slR {W:World} {b o:Nat} {l:LI} (h:W.rangeAt b o (l.map (Value.int .u8))):∀j,j<l.length→W.cell? ⟨b,o+j,none⟩=some (.int .u8 (l.getD j 0)):=fun j hj=>h j _ (by simp[hj])
theorem DE {w:World} {b o:Nat} {l:LI} (h:w.rangeAt b o (l.map (Value.int .u8))) (hl:l.length=32) (hb:aC l):eJ w (.slice (some ⟨b,o,none⟩) 32 32) l:=
 ⟨_,_,_,rfl,hl,nQ _,by decide,hb,.inr ⟨b,o,rfl,fun j hj=>slR h j (by omega)⟩⟩
theorem dK {l:LI} (h:l.length=32):(prog.info? 25).map (·.size)=some (l.map (Value.int .u8)).length:=by rw[lU,h];exact iD
section
variable {c h:LI} {r:List Value} {b:Nat} {t:TypeId} {fr:Nat×Nat} {W:World}
theorem adK (hr:W.heap[b]? =some (.cells (dF c h r).toArray t fr)) (hc:c.length=32) (hh:h.length=32):W.rangeAt b 32 (h.map (Value.int .u8)):=by
 have:=gZ hr 32 32
 rwa[aj4 c h r hc hh]at this
theorem afO (hr:W.heap[b]? =some (.cells (dF c h r).toArray t fr)) (hc:c.length=32):W.rangeAt b 0 (c.map (Value.int .u8)):=by
 have:=gZ hr 0 32
 rwa[aj3 c h r hc]at this
end
structure Tn (w:World) (b:Nat) (cs:List Value) (t:TypeId) (w':World):Prop where
 os:w'.os=w.os
 tape:w'.tape=w.tape
 output:w'.output=w.output
 size:w.heap.size≤w'.heap.size
 far:∀g,g<w.heap.size→g≠b→w'.heap[g]? =w.heap[g]?
 here:w'.heap[b]? =some (.cells cs.toArray t)
theorem Tn.of {w W w':World} {b:Nat} {cs:List Value} {t:TypeId} (hb:Below w.heap.size w W) (hP:nE W b cs.toArray t w'):Tn w b cs t w':=by
 have h1:=hP.below b W (Below.refl _ _) (nQ _)
 exact⟨h1.os.trans hb.os,h1.tape.trans hb.tape,h1.output.trans hb.output,by rw[hP.size];exact hb.size,fun g hg hne=>(hP.far g hne).trans (hb.block g hg),hP.here⟩
theorem Tn.then {w w1 w2:World} {b:Nat} {cs cs2:List Value} {t:TypeId} (h:Tn w b cs t w1) (h2:Tn w1 b cs2 t w2):Tn w b cs2 t w2:=
 ⟨h2.os.trans h.os,h2.tape.trans h.tape,h2.output.trans h.output,nU h.size h2.size,fun g hg hne=>(h2.far g (nJ hg h.size) hne).trans (h.far g hg hne),h2.here⟩
theorem Tn.after {w w1 w2:World} {b:Nat} {cs2:List Value} {t:TypeId} (h:Below w.heap.size w w1) (h2:Tn w1 b cs2 t w2):Tn w b cs2 t w2:=
 ⟨h2.os.trans h.os,h2.tape.trans h.tape,h2.output.trans h.output,nU h.size h2.size,fun g hg hne=>(h2.far g (nJ hg h.size) hne).trans (h.block g hg),h2.here⟩
theorem Tn.more {w w1 w2:World} {b:Nat} {cs:List Value} {t:TypeId} (h:Tn w b cs t w1) (hb:Below w1.heap.size w1 w2):Tn w b cs t w2:=
 ⟨hb.os.trans h.os,hb.tape.trans h.tape,hb.output.trans h.output,nU h.size hb.size,fun g hg hne=>(hb.block g (nJ hg h.size)).trans (h.far g hg hne),(hb.block b (Array.getElem?_eq_some_iff.1 h.here).1).trans h.here⟩
theorem Tn.below {B:Nat} {a w w':World} {b:Nat} {cs:List Value} {t:TypeId} (h:Tn w b cs t w') (hb:Below B a w) (hB:B≤w.heap.size) (hl:B≤b):Below B a w':=
 ⟨h.os.trans hb.os,h.tape.trans hb.tape,h.output.trans hb.output,nU hb.size h.size,fun k hk=>(h.far k (by omega) (by omega)).trans (hb.block k hk)⟩
theorem sI (c h p:LI) (r:List Value) (hc:c.length=32) (hh:h.length=32) (hhb:aC h) (a:Option Addr) (n cap:Nat) (hpl:p.length≤100000) (b:Nat) (t:TypeId) (w:World) (hp:eJ w (.slice a n cap) p) (hr:w.heap[b]? =some (.cells (dF c h r).toArray t)) (ht:cN w):
 Calls prog 39 #[.pointer (some ⟨b,0,none⟩),.slice a n cap] w fun e w'=>e=.returned (.tuple #[])∧Tn w b (dF c (dC (h++p)) r) t w':=by
 obtain⟨H,eH⟩:∃H,dC (h++p)=H:=⟨_,rfl⟩
 have hHl:H.length=32:=by rw[←eH];exact bC _
 have HH:Hid (∀x,dC [h,p].flatten=x→x=H):=fun x hx=>by rw[←hx,←eH];simp
 rw[eH]
 have HP:Hid (eJ w (.slice a n cap) p):=hp
 have HR:Hid _:=hr
 have HT:Hid (cN w):=ht
 have HC:Hid _:=hc
 have H32:Hid _:=hh
 have HHB:Hid _:=hhb
 have HPL:Hid _:=hpl
 clear eH hp hr ht hc hh hhb hpl
 go_enter func39,ntmps39
 go_wp2_with fail
 have HPP:eO (w.alloc (.cells #[.slice (some ⟨b,32,none⟩) 32 32,.slice a n cap] 22)) w.heap.size 0 2 [.slice (some ⟨b,32,none⟩) 32 32,.slice a n cap] [h,p]:=eO.two (DE (adK HR.out HC.out H32.out) H32.out HHB.out) HP.out
 obtain⟨W2,hW2⟩:∃x,x=w.alloc (.cells #[.slice (some ⟨b,32,none⟩) 32 32,.slice a n cap] 22):=⟨_,rfl⟩
 have HB2:Hid (Below w.heap.size w W2):=by show Below _ _ _;rw[hW2];exact(Below.refl _ _).alloc (nQ _) _
 rw[←hW2]at HPP⊢
 clear hW2
 refine(qR [h,p] _ 2 2 w.heap.size 0 W2 HPP (by have h1:=HPL.out;have h2:=H32.out;simp;omega) (HT.out.later HB2.out (nQ _)) H HH).mono ?_
 rintro e w3 ⟨rfl,hb3⟩
 have HB3:Hid (Below w.heap.size w w3):=HB2.out.trans (hb3.mono HB2.out.size)
 have HR3:Hid _:=(HB3.out.block b (Array.getElem?_eq_some_iff.1 HR.out).1).trans HR.out
 clear hb3 HB2 HPP
 have hfit:Hid (32+(H.map (Value.int .u8)).length≤(dF c h r).length):=by show _≤_;rw[lU,hHl,iO _ _ _ HC.out H32.out];omega
 go_wp2_with(refine wpPp rfl 25 _ _ rfl b 32 (H.map (Value.int .u8)) rfl rfl (dF c h r) t HR3.out (dF c H r) (dK hHl) hfit.out (V8 _) (adJ c h H r HC.out H32.out hHl) ?_)
 intro w4 hP
 have P4:Hid _:=hP
 clear hP
 go_wp2_with fail
 exact bodyPost_end (results_none rfl _ _ _) rfl ⟨rfl,Tn.of HB3.out P4.out⟩
theorem dE:prog.follows .mixedOrders=true:=by kernel_rfl
theorem tM {W:World} {b:Nat} {l:LI} {t:TypeId} {fr:Nat×Nat} (h:W.heap[b]? =some (.cells (Iv .u8 l) t fr)):W.rangeAt b 0 (l.map (Value.int .u8)):=by
 have:=gZ (l:=l.map (Value.int .u8)) h 0 l.length
 rwa[dY,List.take_of_length_le (by rw[lU];exact nQ _)]at this
theorem aeY (R:LI):eU R 1 1=fF R 0:=by simp[eU,zK,aA]
theorem aeZ (R:LI):eU R 2 2=fF R 0++fF R 1:=by simp[eU,zK,aA]
theorem Rn.turnK {w0 W W':World} {R1 R2:List (Nat×Array Value×TypeId)} {b:Nat} {cs:Array Value} {cs':List Value} {t:TypeId} (h:Rn w0 (R1++(b,cs,t)::R2) W) (hT:Tn W b cs' t W'):Rn w0 (R1++(b,cs'.toArray,t)::R2) W':=by
 have hb:=(h.rw.row (b,cs,t) (by simp)).1
 have hnd:=h.nd
 simp only[List.map_append,List.map_cons]at hnd
 have hnb:=List.nodup_append.1 hnd
 refine⟨⟨hT.below h.bel h.bel.size hb,fun r hr=>?_⟩,by simp only[List.map_append,List.map_cons];exact hnd⟩
 simp only[mY,List.mem_cons]at hr
 rcases hr with hr|rfl|hr
 ·have h1:=h.rw.row r (by simp[hr])
  refine⟨h1.1,nJ h1.2.1 hT.size,(hT.far r.1 h1.2.1 (fun e=>?_)).trans h1.2.2⟩
  exact hnb.2.2 r.1 (List.mem_map_of_mem hr) b (by simp) e
 ·exact⟨hb,(Array.getElem?_eq_some_iff.1 hT.here).1,hT.here⟩
 ·have h1:=h.rw.row r (by simp[hr])
  refine⟨h1.1,nJ h1.2.1 hT.size,(hT.far r.1 h1.2.1 (fun e=>?_)).trans h1.2.2⟩
  exact(List.nodup_cons.1 hnb.2.1).1 (by rw[←e];exact List.mem_map_of_mem hr)
theorem cN.low {w w':World} (h:cN w) (hb:Below 4 w w'):cN w':=by
 refine⟨fun i hi=>?_,fun i hi=>?_,fun r i hr hi=>?_⟩
 ·obtain⟨t0,t1,t2,t3⟩:=h.mix i hi
  exact⟨(hb.cell (p:=⟨2,_,none⟩) (by simp)).trans t0,(hb.cell (p:=⟨2,_,none⟩) (by simp)).trans t1,(hb.cell (p:=⟨2,_,none⟩) (by simp)).trans t2,(hb.cell (p:=⟨2,_,none⟩) (by simp)).trans t3⟩
 ·exact(hb.cell (p:=⟨1,_,none⟩) (by simp)).trans (h.iv i hi)
 ·exact(hb.cell (p:=⟨3,_,none⟩) (by simp)).trans (h.order r i hr hi)
theorem cN.turn {w w':World} {b:Nat} {cs:List Value} {t:TypeId} (h:cN w) (hT:Tn w b cs t w') (hb:3<b) (hw:3<w.heap.size):cN w':=h.low (hT.below (Below.refl 4 w) hw hb)
theorem QQ (K D:LI) (hK:K.length=32) (hKb:aC K) (hD:D.length=32) (hDb:aC D) (n:Nat) (hn1:1≤n) (hn2:n≤2) (kb ko db dO:Nat) (w:World) (hk:w.rangeAt kb ko (K.map (Value.int .u8))) (hkb:kb<w.heap.size) (hd:w.rangeAt db dO (D.map (Value.int .u8))) (ht:cN w):
 Calls prog 60 #[.int .i64 n,.slice (some ⟨kb,ko,none⟩) 32 32,.slice (some ⟨db,dO,none⟩) 32 32] w fun e w'=>∃g,e=.returned (.slice (some ⟨g,0,none⟩) n n)∧w.heap.size≤g∧w'.heap[g]? =some (.cells (Iv .u8 (eU (fJ K D) n n)) 25)∧Below w.heap.size w w':=
 QF K D 32 (by decide) hK hKb (by decide) kb ko 32 (nQ _) (by decide) (some ⟨db,dO,none⟩) 32 32 w (fun j hj=>slR hk j (by omega)) hkb (DE hd hD hDb) (by omega) ht n hn1 hn2 (fJ K D) (fun x hx=>hx.symm)
theorem tT (c h e:LI) (r:List Value) (hc:c.length=32) (hh:h.length=32) (he:e.length=32) (hcb:aC c) (hhb:aC h) (heb:aC e) (b:Nat) (hb3:3<b) (t:TypeId) (w:World) (hr:w.heap[b]? =some (.cells (dF c h r).toArray t)) (ht:cN w):
 Calls prog 41 #[.pointer (some ⟨b,0,none⟩),.agg (Iv .u8 e)] w fun x w'=>x=.returned (.tuple #[])∧Tn w b (dF (fF (fJ c e) 0) (dC (h++e)) r) t w':=by
 obtain⟨C,eC⟩:∃C,fF (fJ c e) 0=C:=⟨_,rfl⟩
 have hCl:C.length=32:=by rw[←eC];exact aY _ _
 rw[eC]
 have EC:Hid _:=eC
 have HC:Hid _:=hc
 have H32:Hid _:=hh
 have HE:Hid _:=he
 have HCB:Hid _:=hcb
 have HHB:Hid _:=hhb
 have HEB:Hid _:=heb
 have HT:Hid (cN w):=ht
 have HR:Hid _:=hr
 clear eC hc hh he hcb hhb heb ht hr
 go_enter func41,ntmps41
 go_wp2_with fail
 obtain⟨W,hW⟩:∃W,w.alloc (.cells (Iv .u8 e) 25)=W:=⟨_,rfl⟩
 have hbW:Below w.heap.size w W:=by rw[←hW];exact(Below.refl _ _).alloc (nQ _) _
 have hRe:W.heap[w.heap.size]? =some (.cells (Iv .u8 e) 25):=by rw[←hW];exact hAN _ _
 rw[hW]
 clear hW
 have lb:b<w.heap.size:=(Array.getElem?_eq_some_iff.1 HR.out).1
 have le_:w.heap.size<W.heap.size:=(Array.getElem?_eq_some_iff.1 hRe).1
 have HBW:Hid _:=hbW
 have BR:Hid (∀y,Below W.heap.size W y→y.heap[b]? =some (.cells (dF c h r).toArray t)):=fun y hy=>(hy.block b (by omega)).trans ((hbW.block b lb).trans HR.out)
 have BE:Hid (∀y,Below W.heap.size W y→y.heap[w.heap.size]? =some (.cells (Iv .u8 e) 25)):=fun y hy=>(hy.block _ le_).trans hRe
 have BT:Hid (∀y,Below W.heap.size W y→cN y):=fun y hy=>(HT.out.later hbW (nQ _)).later hy (nQ _)
 clear hbW hRe
 have hb0:Below W.heap.size W W.drew:=bDr (Below.refl _ _) 1
 have Hy0:Hid _:=hb0
 refine wRt 11 (fun w'=>∃x:yM W.heap.size W,w'=x.w) (.held [0,1,5] (.tail 2 (.held [3,4] (.tail 6 (.tail 7 (.tail 8 (.tail 9 (.tail 10 (.last 11 .done))))))))) dE (by kernel_rfl) ⟨⟨_,hb0⟩,rfl⟩ ?_
 clear hb0
 obtain⟨y0,ey⟩:∃y,y=W.drew:=⟨_,rfl⟩
 rw[←ey]at Hy0⊢
 clear ey
 refine wTh ?_
 simp only[oS]
 refine aB rfl (.pointer (some ⟨b,0,none⟩)) (fun w'=>by kernel_rfl) ?_
 simp only[pS]
 refine aB rfl (.pointer (some ⟨b,0,none⟩)) (fun w'=>by kernel_rfl) ?_
 simp only[pS]
 refine aB rfl (.slice (some ⟨w.heap.size,0,none⟩) 32 32) (fun w'=>by kernel_rfl) ?_
 simp only[pS]
 refine wqN ?_
 refine wTt ?_
 simp only[oS]
 go_wp2_with fail
 refine⟨⟨⟨_,Hy0.out⟩,rfl⟩,?_⟩
 refine wTh ?_
 simp only[oS]
 refine aB rfl (.pointer (some ⟨b,0,none⟩)) (fun w'=>by kernel_rfl) ?_
 simp only[pS]
 refine aB rfl (.slice (some ⟨b,0,none⟩) 32 32) (fun w'=>by kernel_rfl) ?_
 simp only[pS]
 refine wqN ?_
 refine wTt ?_
 simp only[oS]
 go_wp2_with fail
 refine(QQ c e HC.out HCB.out HE.out HEB.out 1 (by decide) (by decide) b 0 w.heap.size 0 y0 (afO (BR.out _ Hy0.out) HC.out) (by have:=Hy0.out.size;omega) (tM (BE.out _ Hy0.out)) (BT.out _ Hy0.out)).mono ?_
 rintro x y1 ⟨g,rfl,hg,hrow,hb1⟩
 rw[aeY,EC.out]at hrow
 have Hy1:Hid (Below W.heap.size W y1):=Hy0.out.trans (hb1.mono Hy0.out.size)
 have HG:Hid _:=hrow
 clear hb1 hrow
 go_wp2_with fail
 refine⟨⟨⟨_,Hy1.out⟩,rfl⟩,?_⟩
 refine wTt ?_
 simp only[oS]
 go_wp2_with fail
 refine⟨⟨⟨_,Hy1.out⟩,rfl⟩,?_⟩
 refine wTt ?_
 simp only[oS]
 go_wp2_with(refine wpLr rfl 25 _ rfl g rfl _ (Iv .u8 C) _ _ HG.out underlying25 rfl (by rw[aD,hCl];exact iD) ?_)
 refine⟨⟨⟨_,Hy1.out⟩,rfl⟩,?_⟩
 refine wTt ?_
 simp only[oS]
 go_wp2_with fail
 refine⟨⟨⟨_,Hy1.out⟩,rfl⟩,?_⟩
 refine wTt ?_
 simp only[oS]
 go_wp2_with fail
 refine⟨⟨⟨_,Hy1.out⟩,rfl⟩,?_⟩
 refine wTl ?_
 simp only[oS]
 have hfit:Hid (0+(C.map (Value.int .u8)).length≤(dF c h r).length):=by show _≤_;rw[lU,hCl,iO _ _ _ HC.out H32.out];omega
 have HRb:Hid _:=BR.out _ Hy1.out
 go_wp2_with(refine wpPp rfl 25 _ _ rfl b 0 (C.map (Value.int .u8)) rfl rfl (dF c h r) t HRb.out (dF C h r) (dK hCl) hfit.out (V8 _) (SM c C h r HC.out hCl) ?_)
 intro y2 hP
 have T2:Hid (Tn w b (dF C h r) t y2):=Tn.of (HBW.out.trans (Hy1.out.mono HBW.out.size)) hP
 have HE2:Hid _:=(hP.far w.heap.size (by omega)).trans (BE.out _ Hy1.out)
 have HT2:Hid (cN y2):=HT.out.turn T2.out hb3 (by omega)
 clear hP
 refine aQ ?_
 go_wp2_with fail
 refine(sI C h e r hCl H32.out HHB.out (some ⟨w.heap.size,0,none⟩) 32 32 (by have:=HE.out;omega) b t y2 (DE (tM HE2.out) HE.out HEB.out) T2.out.here HT2.out).mono ?_
 rintro x y3 ⟨rfl,hT⟩
 have T3:Hid _:=T2.out.then hT
 clear hT
 go_wp2_with fail
 exact bodyPost_end (results_none rfl _ _ _) rfl ⟨rfl,T3.out⟩
abbrev Rs:=List (Nat×Array Value×TypeId)
structure Sx (w:World) (b:Nat) (cs:List Value) (t:TypeId) (R:Rs) (y:World):Prop where
 lb:b<w.heap.size
 tn:Tn w b cs t y
 row:∀r∈R,w.heap.size≤r.1∧r.1<y.heap.size∧y.heap[r.1]? =some (.cells r.2.1 r.2.2)
 nd:(R.map (·.1)).Nodup
section
variable {w y z:World} {b:Nat} {cs cs':List Value} {t:TypeId} {R R':Rs}
theorem Sx.start (hr:w.heap[b]? =some (.cells cs.toArray t)):Sx w b cs t [] w:=
 ⟨(Array.getElem?_eq_some_iff.1 hr).1,⟨rfl,rfl,rfl,nQ _,fun _ _ _=>rfl,hr⟩,fun r h=>(by cases h),List.nodup_nil⟩
theorem Sx.here (h:Sx w b cs t R y):y.heap[b]? =some (.cells cs.toArray t):=h.tn.here
theorem Sx.at (h:Sx w b cs t R y) {g:Nat} {v:Array Value} {u:TypeId} (hr:(g,v,u)∈R):y.heap[g]? =some (.cells v u):=(h.row _ hr).2.2
theorem Sx.later (h:Sx w b cs t R y) (hb:Below y.heap.size y z):Sx w b cs t R z:=
 ⟨h.lb,h.tn.more hb,fun r hr=>⟨(h.row r hr).1,nJ (h.row r hr).2.1 hb.size,(hb.block _ (h.row r hr).2.1).trans (h.row r hr).2.2⟩,h.nd⟩
theorem Sx.drew (h:Sx w b cs t R y):Sx w b cs t R y.drew:=h.later (bDr (Below.refl _ _) 1)
theorem Sx.alloc (h:Sx w b cs t R y) (n:Nat) (hn:y.heap.size=n) (v:Array Value) (u:TypeId):Sx w b cs t ((n,v,u)::R) (y.alloc (.cells v u)):=by
 subst hn
 have h1:=h.later ((Below.refl y.heap.size y).alloc (nQ _) (.cells v u))
 refine⟨h1.lb,h1.tn,fun r hr=>?_,?_⟩
 ·rcases List.mem_cons.1 hr with rfl|hr
  ·exact⟨h.tn.size,by simp,hAN _ _⟩
  ·exact h1.row r hr
 ·rw[List.map_cons,List.nodup_cons]
  refine⟨fun hm=>?_,h.nd⟩
  obtain⟨r,hr,e⟩:=List.mem_map.1 hm
  have:=(h.row r hr).2.1
  omega
theorem Sx.turn (h:Sx w b cs t R y) (hT:Tn y b cs' t z):Sx w b cs' t R z:=
 ⟨h.lb,h.tn.then hT,fun r hr=>⟨(h.row r hr).1,nJ (h.row r hr).2.1 hT.size,(hT.far r.1 (h.row r hr).2.1 (by have:=(h.row r hr).1;have:=h.lb;omega)).trans (h.row r hr).2.2⟩,h.nd⟩
theorem Sx.putR (h:Sx w b cs t R y) (hP:nE y b cs'.toArray t z):Sx w b cs' t R z:=h.turn (Tn.of (Below.refl _ _) hP)
theorem Sx.putK {R1 R2:Rs} {g:Nat} {v v':Array Value} {u:TypeId} (h:Sx w b cs t (R1++(g,v,u)::R2) y) (hP:nE y g v' u z):Sx w b cs t (R1++(g,v',u)::R2) z:=by
 have hg:=h.row (g,v,u) (by simp)
 have hnd:=h.nd
 simp only[List.map_append,List.map_cons]at hnd
 have hnb:=List.nodup_append.1 hnd
 have h1:=hP.below g y (Below.refl _ _) (nQ _)
 refine⟨h.lb,⟨h1.os.trans h.tn.os,h1.tape.trans h.tn.tape,h1.output.trans h.tn.output,by rw[hP.size];exact h.tn.size,fun k hk hne=>(hP.far k (by have:=hg.1;show k≠g;omega)).trans (h.tn.far k hk hne),(hP.far b (by have:=hg.1;have:=h.lb;show b≠g;omega)).trans h.tn.here⟩,fun r hr=>?_,by simp only[List.map_append,List.map_cons];exact hnd⟩
 simp only[mY,List.mem_cons]at hr
 rcases hr with hr|rfl|hr
 ·have h2:=h.row r (by simp[hr])
  refine⟨h2.1,by rw[hP.size];exact h2.2.1,(hP.far r.1 (fun e=>?_)).trans h2.2.2⟩
  exact hnb.2.2 r.1 (List.mem_map_of_mem hr) g (by simp) e
 ·exact⟨hg.1,by rw[hP.size];exact hg.2.1,hP.here⟩
 ·have h2:=h.row r (by simp[hr])
  refine⟨h2.1,by rw[hP.size];exact h2.2.1,(hP.far r.1 (fun e=>?_)).trans h2.2.2⟩
  exact(List.nodup_cons.1 hnb.2.1).1 (by rw[←e];exact List.mem_map_of_mem hr)
theorem Sx.put0 {R2:Rs} {g:Nat} {v v':Array Value} {u:TypeId} (h:Sx w b cs t ((g,v,u)::R2) y) (hP:nE y g v' u z):Sx w b cs t ((g,v',u)::R2) z:=Sx.putK (R1:=[]) h hP
theorem Sx.tail {r:Nat×Array Value×TypeId} (h:Sx w b cs t (r::R) y):Sx w b cs t R y:=⟨h.lb,h.tn,fun q hq=>h.row q (.tail _ hq),(List.nodup_cons.1 (by simpa using h.nd)).2⟩
theorem Sx.tabs (h:Sx w b cs t R y) (ht:cN w) (hb:3<b):cN y:=ht.turn h.tn hb (by have:=h.lb;omega)
end
theorem aI {l:LI} (h:l.length=32):(prog.info? 25).map (·.size)=some (Iv .u8 l).size:=by rw[aD,h];exact iD
theorem QU {W:World} {g:Nat} {A B:LI} {t:TypeId} (h:W.heap[g]? =some (.cells (Iv .u8 (A++B)) t)) (hA:A.length=32) (hB:B.length=32):W.rangeAt g 0 (A.map (Value.int .u8))∧W.rangeAt g 32 (B.map (Value.int .u8)):=by
 have h1:=gZ (l:=(A++B).map (Value.int .u8)) h 0 32
 have h2:=gZ (l:=(A++B).map (Value.int .u8)) h 32 32
 rw[List.map_append]at h1 h2
 have e1:(A.map (Value.int .u8)).length=32:=by rw[lU,hA]
 have e2:(B.map (Value.int .u8)).length=32:=by rw[lU,hB]
 rw[dY,←e1,List.take_left]at h1
 refine⟨h1,?_⟩
 have e3:(A.map (Value.int .u8)++B.map (Value.int .u8)).drop 32=B.map (Value.int .u8):=by rw[←e1];exact List.drop_left
 rw[e3,List.take_of_length_le (by rw[e2];exact nQ _)]at h2
 exact h2
theorem wE (c h p:LI) (r:List Value) (hc:c.length=32) (hh:h.length=32) (hp:p.length=32) (hcb:aC c) (hpb:aC p) (b:Nat) (hb3:3<b) (t:TypeId) (w:World) (hr:w.heap[b]? =some (.cells (dF c h r).toArray t)) (ht:cN w):
 Calls prog 63 #[.pointer (some ⟨b,0,none⟩),.agg (Iv .u8 p)] w fun x w'=>x=.returned (.agg (Iv .u8 (fF (fJ c p) 1)))∧Tn w b (dF (fF (fJ c p) 0) h r) t w':=by
 have hz:=dM
 obtain⟨A,eA⟩:∃A,fF (fJ c p) 0=A:=⟨_,rfl⟩
 obtain⟨K,eK⟩:∃K,fF (fJ c p) 1=K:=⟨_,rfl⟩
 have hA:A.length=32:=by rw[←eA];exact aY _ _
 have hK:K.length=32:=by rw[←eK];exact aY _ _
 rw[eA,eK]
 have EA:Hid _:=eA
 have EK:Hid _:=eK
 have HC:Hid _:=hc
 have H32:Hid _:=hh
 have HP:Hid _:=hp
 have HCB:Hid _:=hcb
 have HPB:Hid _:=hpb
 have HT:Hid (cN w):=ht
 have S0:Hid _:=Sx.start hr
 clear eA eK hc hh hp hcb hpb ht hr
 go_enter func63,ntmps63
 go_wp2_with fail
 obtain⟨n0,e0⟩:∃n,w.heap.size=n:=⟨_,rfl⟩
 have S1:=(S0.out.alloc n0 e0 (Iv .u8 p) 25).alloc (n0+1) (by simp[e0]) (Iv .u8 (aA 32)) 25
 rw[e0]
 obtain⟨W,hW⟩:∃W,(w.alloc (.cells (Iv .u8 p) 25)).alloc (.cells (Iv .u8 (aA 32)) 25)=W:=⟨_,rfl⟩
 rw[hW]at S1⊢
 have S:Hid _:=S1.drew
 clear hW S1 S0 e0
 refine wRt 6 _ (.held [0,4] (.tail 1 (.held [2,3] (.tail 5 (.last 6 .done))))) dE (by kernel_rfl) S.out ?_
 obtain⟨y0,ey⟩:∃y,y=W.drew:=⟨_,rfl⟩
 rw[←ey]at S⊢
 clear ey
 refine wTh ?_
 simp only[oS]
 refine aB rfl (.pointer (some ⟨b,0,none⟩)) (fun w'=>by kernel_rfl) ?_
 simp only[pS]
 refine aB rfl (.slice (some ⟨n0,0,none⟩) 32 32) (fun w'=>by kernel_rfl) ?_
 simp only[pS]
 refine wqN ?_
 refine wTt ?_
 simp only[oS]
 go_wp2_with fail
 refine⟨S.out,?_⟩
 refine wTh ?_
 simp only[oS]
 refine aB rfl (.pointer (some ⟨b,0,none⟩)) (fun w'=>by kernel_rfl) ?_
 simp only[pS]
 refine aB rfl (.slice (some ⟨b,0,none⟩) 32 32) (fun w'=>by kernel_rfl) ?_
 simp only[pS]
 refine wqN ?_
 refine wTt ?_
 simp only[oS]
 go_wp2_with fail
 refine(QQ c p HC.out HCB.out HP.out HPB.out 2 (by decide) (by decide) b 0 n0 0 y0 (afO S.out.here HC.out) (Array.getElem?_eq_some_iff.1 S.out.here).1 (tM (S.out.at (.tail _ (.head _)))) (S.out.tabs HT.out hb3)).mono ?_
 rintro x y1 ⟨g,rfl,hg,hrow,hb1⟩
 rw[aeZ,EA.out,EK.out]at hrow
 have S1:Hid _:=S.out.later hb1
 have G:Hid _:=hrow
 have GN:Hid (g≠b):=by show _≠_;have h1:=(Array.getElem?_eq_some_iff.1 S.out.here).1;omega
 have X:Hid _:=QU hrow hA hK
 clear hb1 hrow hg S
 go_wp2_with fail
 refine⟨S1.out,?_⟩
 refine wTl ?_
 simp only[oS]
 go_wp2_with fail
 refine aQ ?_
 have hfit:Hid (0+(A.map (Value.int .u8)).length≤(dF c h r).length):=by show _≤_;rw[lU,hA,iO _ _ _ HC.out H32.out];omega
 go_wp2_with(first
  | refine wpList_load_mid rfl 25 _ rfl g 0 rfl (A.map (Value.int .u8)) _ X.out.1 underlying25 rfl (dK hA) ?_
  | refine wpPp rfl 25 _ _ rfl b 0 (A.map (Value.int .u8)) rfl rfl (dF c h r) t S1.out.here (dF A h r) (dK hA) hfit.out (V8 _) (SM c A h r HC.out hA) ?_)
 intro y2 hP
 have X2:Hid (y2.rangeAt g 32 (K.map (Value.int .u8))):=(QU ((hP.far g GN.out).trans G.out) hA hK).2
 have S2:Hid _:=S1.out.putR hP
 clear hP S1 hfit X G GN
 go_wp2_with(first
  | refine wpList_load_mid rfl 25 _ rfl g 32 rfl (K.map (Value.int .u8)) _ X2.out underlying25 rfl (dK hK) ?_
  | refine wpPr rfl 25 _ _ rfl (n0+1) (Iv .u8 K) rfl rfl _ _ (S2.out.at (.head _)) (aI hK) (by rw[aD,aD,hK];rfl) (aG _ _) ?_)
 intro y3 hP
 have S3:Hid _:=S2.out.put0 hP
 clear hP S2
 go_wp2_with fail
 exact bodyPost_ret (v:=.agg (Iv .u8 K)) (results_cell_row rfl _ _ _ _ (Iv .u8 K) _ _ rfl (S3.out.at (.head _)) underlying25 rfl (aI hK)) rfl ⟨rfl,S3.out.tn⟩
theorem aa0 (B:Nat→LI) (E text:LI):(sL B E text).length=text.length+16:=by
 unfold sL FY
 rw[lQ,eF,qN]
theorem TL (key nonce:LI) (i:Nat):(blk key nonce i).length=64:=by simp[blk,iQ,pF9]
theorem NN (key nonce:LI) (i:Nat):aC (blk key nonce i):=by
 intro j
 unfold blk iQ
 simp only[List.getD_eq_getElem?_getD]
 rw[cX _ _ _ _ _ (by simp)]
 split
 ·simp only[Option.getD_some,jI]
  omega
 ·rw[List.getElem?_replicate]
  split<;>simp
theorem Sl.of_range {w:World} {g o:Nat} {l:LI} (hg:g<w.heap.size) (h:w.rangeAt g o (l.map (Value.int .u8))):Sl w g o l:=
 ⟨hg,fun i hi=>h i (.int .u8 (l.getD i 0)) (by simp[hi])⟩
theorem WN {w w':World} {g:Nat} (h:w'.heap[g]? =w.heap[g]?) (o:Nat):w'.cell? ⟨g,o,none⟩=w.cell? ⟨g,o,none⟩:=by
 unfold World.cell?
 simp only[h]
theorem Sl.turn {y z:World} {g o b:Nat} {l:LI} {cs:List Value} {t:TypeId} (h:Sl y g o l) (hT:Tn y b cs t z) (hne:g≠b):Sl z g o l:=
 ⟨nJ h.1 hT.size,fun i hi=>(WN (hT.far g h.1 hne) _).trans (h.2 i hi)⟩
def zn:LI:=aA 12
theorem oT (n:Nat):aC (aA n):=by
 intro i
 have e:(aA n).getD i 0=0:=by
  unfold aA
  simp only[List.getD_eq_getElem?_getD,List.getElem?_replicate]
  split<;>rfl
 rw[e];exact⟨by decide,by decide⟩
theorem aiS:aC zn:=oT 12
theorem wS (B:Nat→LI) (E text:LI):aC (sL B E text):=by
 unfold sL FY
 exact aV (zV _ _ _) (by unfold gQ fY;exact tO _ _ (fun i=>by omega))
def GZ (key h text:LI):LI:=sL (blk key zn) h text
theorem PK (key h text:LI):(GZ key h text).length=text.length+16:=aa0 _ _ _
theorem adC (c h key text:LI) (r:List Value) (hc:c.length=32) (hh:h.length=32) (hk:key.length=32) (hhb:aC h) (hkb:aC key) (htb:aC text) (n:Nat) (hn:text.length=n) (hn2:n≤65536) (tg to_ tc:Nat) (htc:n≤tc) (htc2:tc≤9223372036854775807) (b:Nat) (hb3:3<b) (t:TypeId) (w:World) (hr:w.heap[b]? =some (.cells (dF c h r).toArray t)) (ht:cN w) (hS:Sl w tg to_ text):
 Calls prog 62 #[.pointer (some ⟨b,0,none⟩),.agg (Iv .u8 key),.slice (some ⟨tg,to_,none⟩) n tc] w fun x w'=>∃g cap,x=.returned (.slice (some ⟨g,0,none⟩) (n+16) cap)∧w.heap.size≤g∧n+16≤cap∧cap≤9223372036854775807∧Sl w' g 0 (GZ key h text)∧Tn w b (dF c (dC (h++GZ key h text)) r) t w':=by
 obtain⟨X,eX⟩:∃X,GZ key h text=X:=⟨_,rfl⟩
 have hXl:X.length=n+16:=by rw[←eX,PK,hn]
 have hXb:aC X:=by rw[←eX];exact wS _ _ _
 rw[eX]
 have EX:Hid (sL (blk key zn) h text=X):=eX
 have HXL:Hid _:=hXl
 have HXB:Hid _:=hXb
 have HC:Hid _:=hc
 have H32:Hid _:=hh
 have Hkey:Hid _:=hk
 have HHB:Hid _:=hhb
 have HKB:Hid _:=hkb
 have HTB:Hid _:=htb
 have HN:Hid _:=hn
 have HTC:Hid (n≤tc∧tc≤9223372036854775807∧n≤65536):=⟨htc,htc2,hn2⟩
 have HT:Hid (cN w):=ht
 have HS:Hid _:=hS
 have S0:Hid _:=Sx.start hr
 have HLB:Hid _:=(Array.getElem?_eq_some_iff.1 hr).1
 clear eX hc hh hk hhb hkb htb hn hn2 htc htc2 ht hr hS hXl hXb
 go_enter func62,ntmps62
 go_wp2_with fail
 obtain⟨n0,e0⟩:∃n,w.heap.size=n:=⟨_,rfl⟩
 have S1:=S0.out.alloc n0 e0 (Iv .u8 key) 25
 rw[e0]
 obtain⟨W,hW⟩:∃W,w.alloc (.cells (Iv .u8 key) 25)=W:=⟨_,rfl⟩
 rw[hW]at S1⊢
 have S:Hid _:=S1.drew
 have HS2:Hid (Sl W.drew tg to_ text):=Sl.later HS.out (show Below w.heap.size w W.drew by rw[←hW];exact bDr ((Below.refl _ _).alloc (nQ _) _) 1) HS.out.1
 have E0:Hid _:=e0
 clear hW S1 S0 e0 HS
 refine wRt 8 _ (.held [0,1,2,3] (.tail 4 (.held [5,6] (.tail 7 (.last 8 .done))))) dE (by kernel_rfl) S.out ?_
 obtain⟨y0,ey⟩:∃y,y=W.drew:=⟨_,rfl⟩
 rw[←ey]at S HS2⊢
 clear ey
 refine wTh ?_
 simp only[oS]
 refine wqLr rfl 25 _ rfl n0 rfl _ (Iv .u8 key) _ _ (fun w' hw'=>hw'.at (.head _)) underlying25 rfl (aI Hkey.out) ?_
 simp only[pS]
 refine aB rfl (.agg (Iv .u8 zn)) (fun w'=>by kernel_rfl) ?_
 simp only[pS]
 refine aB rfl (.slice (some ⟨tg,to_,none⟩) n tc) (fun w'=>by kernel_rfl) ?_
 simp only[pS]
 refine aB rfl (.pointer (some ⟨b,0,none⟩)) (fun w'=>by kernel_rfl) ?_
 simp only[pS]
 refine wqN ?_
 refine wTt ?_
 simp only[oS]
 go_wp2_with fail
 refine⟨S.out,?_⟩
 refine wTh ?_
 simp only[oS]
 refine aB rfl (.pointer (some ⟨b,32,none⟩)) (fun w'=>by kernel_rfl) ?_
 simp only[pS]
 refine aB rfl (.slice (some ⟨b,32,none⟩) 32 32) (fun w'=>by kernel_rfl) ?_
 simp only[pS]
 refine wqN ?_
 refine wTt ?_
 simp only[oS]
 go_wp2_with fail
 refine(N9 JH key zn Hkey.out rfl (blk key zn) (TL key zn) (IB key zn Hkey.out rfl HKB.out aiS) (NN key zn) text h n 32 HN.out H32.out HTC.out.2.2 (by decide) HTB.out HHB.out tg to_ tc b 32 32 y0 HS2.out (Sl.of_range (Array.getElem?_eq_some_iff.1 S.out.here).1 (adK S.out.here HC.out H32.out)) HTC.out.1 HTC.out.2.1 (S.out.tabs HT.out hb3).mix).mono ?_
 rintro x y1 ⟨v,rfl,hO,hv,hb1⟩
 rw[EX.out]at hO
 obtain⟨g,cap,rfl,hg1,hg2,hg3,hg4,hg5, -⟩:=hO.held (n+16) HXL.out (by omega)
 have S1:Hid _:=S.out.later hb1
 have G:Hid (Sl y1 g 0 X):=Sl.of_own hO
 have hn0:=S.out.tn.size
 have GN:Hid (g≠b):=by show _≠_;have h1:=(Array.getElem?_eq_some_iff.1 S.out.here).1;omega
 have GC:Hid (w.heap.size≤g∧n+16≤cap∧cap≤9223372036854775807):=⟨by omega,hg3,hg4⟩
 clear hb1 hO hv hg1 hg2 hg3 hg4 hg5 hn0 S HS2
 go_wp2_with fail
 refine⟨S1.out,?_⟩
 refine wTl ?_
 simp only[oS]
 go_wp2_with fail
 refine aQ ?_
 go_wp2_with fail
 refine(sI c h X r HC.out H32.out HHB.out (some ⟨g,0,none⟩) (n+16) cap (by have h1:=HXL.out;have h2:=HTC.out.2.2;omega) b t y1 ⟨_,_,_,rfl,HXL.out,GC.out.2.1,GC.out.2.2,HXB.out,.inr ⟨g,0,rfl,fun j hj=>G.out.2 j (by rw[HXL.out];exact hj)⟩⟩ S1.out.here (S1.out.tabs HT.out hb3)).mono ?_
 rintro x y2 ⟨rfl,hT⟩
 have S2:Hid _:=S1.out.turn hT
 have G2:Hid _:=G.out.turn hT GN.out
 clear hT S1
 go_wp2_with fail
 exact bodyPost_ret (v:=.slice (some ⟨g,0,none⟩) (n+16) cap) (by kernel_rfl) rfl ⟨g,cap,rfl,GC.out.1,GC.out.2.1,GC.out.2.2,G2.out,S2.out.tn⟩
abbrev jU (c:Int):Value:=.iface 107 (.agg #[.int .i64 c])
abbrev zQ (s:ByteArray) (c:Int):Value:=.iface 105 (.agg #[.string s,jU c])
theorem IC (w:World):
 Calls prog 20 #[.nilIface] w fun e w'=>e=.returned (.int .i64 30)∧Below w.heap.size w w':=by
 go_enter func20,ntmps20
 go_wp2
 go_ret
 exact⟨rfl,(Below.refl _ _).alloc (nQ _) _⟩
theorem xVs:(Extern.find f64).isSome=true:=by kernel_rfl
noncomputable def xV:Array Value→Sem Value:=(Extern.find f64).get xVs
theorem xVf:Extern.find f64=some xV:=(Option.some_get xVs).symm
abbrev yF (t:Nat):Value:=.pointer (some ⟨4,t,none⟩)
theorem xV1 (g:Nat) (w:World):(xV #[.iface 109 (.pointer (some ⟨g,0,none⟩))]).run prog w=.ok (.agg #[yF 109,.pointer (some ⟨w.heap.size,0,none⟩),.int .u64 150]) (w.alloc (.cells #[.pointer (some ⟨g,0,none⟩)] 109)):=by kernel_rfl
theorem xV2 (c:Int) (w:World):(xV #[.iface 107 (.agg #[.int .i64 c])]).run prog w=.ok (.agg #[yF 107,.pointer (some ⟨w.heap.size,0,none⟩),.int .u64 153]) (w.alloc (.cells #[.int .i64 c] 107)):=by kernel_rfl
theorem xTs:(Extern.find f65).isSome=true:=by kernel_rfl
noncomputable def xT:Array Value→Sem Value:=(Extern.find f65).get xTs
theorem xTf:Extern.find f65=some xT:=(Option.some_get xTs).symm
theorem xT1 (b:Nat) (w:World):(xT #[.agg #[yF 109,.pointer (some ⟨b,0,none⟩),.int .u64 150]]).run prog w=.ok (.iface 162 (.agg #[yF 109])) w:=by kernel_rfl
theorem xAs:(Extern.find f164).isSome=true:=by kernel_rfl
noncomputable def xA:Array Value→Sem Value:=(Extern.find f164).get xAs
theorem xAf:Extern.find f164=some xA:=(Option.some_get xAs).symm
theorem xA1 (w:World):(xA #[.agg #[yF 107],.iface 162 (.agg #[yF 107])]).run prog w=.ok (.bool true) w:=by kernel_rfl
theorem xA0 (w:World):(xA #[.agg #[yF 105],.iface 162 (.agg #[yF 107])]).run prog w=.ok (.bool false) w:=by kernel_rfl
theorem xIs:(Extern.find f167).isSome=true:=by kernel_rfl
noncomputable def xI:Array Value→Sem Value:=(Extern.find f167).get xIs
theorem xIf:Extern.find f167=some xI:=(Option.some_get xIs).symm
theorem xI1 (w:World):(xI #[.agg #[yF 107],.iface 162 (.agg #[yF 64])]).run prog w=.ok (.bool true) w:=by kernel_rfl
theorem xLs:(Extern.find f166).isSome=true:=by kernel_rfl
noncomputable def xL:Array Value→Sem Value:=(Extern.find f166).get xLs
theorem xLf:Extern.find f166=some xL:=(Option.some_get xLs).symm
theorem xL1 (w:World):(xL #[.agg #[yF 109]]).run prog w=.ok (.iface 162 (.agg #[yF 107])) w:=by kernel_rfl
theorem xO1 (s:ByteArray) (c:Int) (w:World):(Extern.ReflectliteType.typeOf #[zQ s c]).run prog w=.ok (.iface 162 (.agg #[yF 105])) w:=by kernel_rfl
theorem xO2 (c:Int) (w:World):(Extern.ReflectliteType.typeOf #[jU c]).run prog w=.ok (.iface 162 (.agg #[yF 107])) w:=by kernel_rfl
theorem alO:Extern.find f66=some (Extern.ReflectliteValue.method (Extern.ReflectliteValue.valueError "reflectlite.Value.IsNil" 0) Extern.ReflectliteValue.isNil):=by kernel_rfl
theorem alN:Extern.find f85=some (Extern.ReflectliteValue.method (Extern.ReflectliteValue.valueError "reflectlite.Value.Elem" 0) Extern.ReflectliteValue.elem):=by kernel_rfl
theorem alP:Extern.find f86=some Extern.ReflectliteValue.set:=by kernel_rfl
theorem xP1 (b:Nat) (w:World):(Extern.ReflectliteValue.parts (.agg #[yF 109,.pointer (some ⟨b,0,none⟩),.int .u64 150])).run prog w=.ok (some (109,⟨b,0,none⟩,150)) w:=by kernel_rfl
theorem xP2 (b:Nat) (w:World):(Extern.ReflectliteValue.parts (.agg #[yF 107,.pointer (some ⟨b,0,none⟩),.int .u64 409])).run prog w=.ok (some (107,⟨b,0,none⟩,409)) w:=by kernel_rfl
theorem xP3 (b:Nat) (w:World):(Extern.ReflectliteValue.parts (.agg #[yF 107,.pointer (some ⟨b,0,none⟩),.int .u64 153])).run prog w=.ok (some (107,⟨b,0,none⟩,153)) w:=by kernel_rfl
theorem X6 (b:Nat) (v:Value) (w:World) (h:w.cell? ⟨b,0,none⟩=some v):(loadVar 109 ⟨b,0,none⟩).run prog w=.ok v w:=by
 simp only[loadVar,isAgg,run_underlying underlying109,Sem.run_bind,Sem.run_pure,Result.andThen_ok]
 simp[h]
theorem xMe (z:Sem Value) (f:TypeId→Addr→Nat→Nat→Sem Value) (v:Value):Extern.ReflectliteValue.method z f #[v]=(Extern.ReflectliteValue.parts v>>=fun r=>match r with|none=>z|some (t,a,fl)=>f t a fl (fl%32)):=rfl
theorem xN1 (g b:Nat) (w:World) (h:w.cell? ⟨b,0,none⟩=some (.pointer (some ⟨g,0,none⟩))):(Extern.ReflectliteValue.method (Extern.ReflectliteValue.valueError "reflectlite.Value.IsNil" 0) Extern.ReflectliteValue.isNil #[.agg #[yF 109,.pointer (some ⟨b,0,none⟩),.int .u64 150]]).run prog w=.ok (.bool false) w:=by
 rw[xMe]
 simp only[Sem.run_bind,xP1,Result.andThen_ok,Extern.ReflectliteValue.isNil]
 simp[X6 _ _ _ h,Sem.run_bind,Sem.run_pure,Result.andThen_ok]
theorem xM1 (g:Nat) (w:World):(Extern.ReflectliteValue.mk 107 ⟨g,0,none⟩ Extern.ReflectliteValue.flagAddr).run prog w=.ok (.agg #[yF 107,.pointer (some ⟨g,0,none⟩),.int .u64 409]) w:=by kernel_rfl
theorem xM2 (w:World):(Extern.Rtype.elem? 109).run prog w=.ok (some 107) w:=by kernel_rfl
theorem xE1 (g b:Nat) (w:World) (h:w.cell? ⟨b,0,none⟩=some (.pointer (some ⟨g,0,none⟩))):(Extern.ReflectliteValue.method (Extern.ReflectliteValue.valueError "reflectlite.Value.Elem" 0) Extern.ReflectliteValue.elem #[.agg #[yF 109,.pointer (some ⟨b,0,none⟩),.int .u64 150]]).run prog w=.ok (.agg #[yF 107,.pointer (some ⟨g,0,none⟩),.int .u64 409]) w:=by
 rw[xMe]
 simp only[Sem.run_bind,xP1,Result.andThen_ok,Extern.ReflectliteValue.elem]
 simp[X6 _ _ _ h,xM2,xM1,Sem.run_bind,Result.andThen_ok]
theorem xD1 (w:World):(Extern.Rtype.directlyAssignable 107 107).run prog w=.ok true w:=by kernel_rfl
theorem xS1 (c:Int) (g b:Nat) (w:World) (h:w.heap[b]? =some (.cells #[.int .i64 c] 107)) (hg:w.heap[g]? =some (.cells #[.int .i64 0] 107)):∃W,(Extern.ReflectliteValue.set #[.agg #[yF 107,.pointer (some ⟨g,0,none⟩),.int .u64 409],.agg #[yF 107,.pointer (some ⟨b,0,none⟩),.int .u64 153]]).run prog w=.ok (.tuple #[]) W∧nE w g #[.int .i64 c] 107 W:=by
 refine⟨w.setRow g #[.int .i64 c],?_,fT hg _⟩
 have hf:w.frozen? ⟨g,0,none⟩=false:=frozen_of_row _ _ _ _ _ hg
 have hc:w.cell? ⟨g,0,none⟩=some (.int .i64 0):=cell_of_row _ _ _ _ _ _ hg
 change Sem.run prog (Extern.ReflectliteValue.parts (.agg #[yF 107,.pointer (some ⟨g,0,none⟩),.int .u64 409])>>=_) w=_
 rw[Sem.run_bind,xP2,Result.andThen_ok]
 change Sem.run prog (Extern.ReflectliteValue.parts (.agg #[yF 107,.pointer (some ⟨b,0,none⟩),.int .u64 153])>>=_) w=_
 rw[Sem.run_bind,xP3,Result.andThen_ok]
 have hl:(loadVar 107 ⟨b,0,none⟩).run prog w=.ok (.agg #[.int .i64 c]) w:=run_loadVar_row w b _ _ _ _ _ h underlying107 rfl (by kernel_rfl)
 have hs:(storeVar 107 ⟨g,0,none⟩ (.agg #[.int .i64 c])).run prog w=.ok () (w.setRow g #[.int .i64 c]):=run_storeVar_row w g _ _ _ _ hg (by kernel_rfl) rfl (by simp[Value.oneCell'])
 change Sem.run prog (loadVar 107 ⟨b,0,none⟩>>=_) w=_
 rw[Sem.run_bind,hl,Result.andThen_ok]
 change Sem.run prog (Extern.Rtype.directlyAssignable 107 107>>=_) w=_
 rw[Sem.run_bind,xD1,Result.andThen_ok]
 change Sem.run prog (storeVar 107 ⟨g,0,none⟩ (.agg #[.int .i64 c])>>=_) w=_
 rw[Sem.run_bind,hs,Result.andThen_ok]
 rfl
end Go.Proofs.YtmjccemdldidaaaGreatDoor
