import Derived.Test.YtgcepckaolkeoaaGreatDoorMY11
import Derived.Laws.Externs
import Derived.Deep.RegionHeld
namespace Go.Proofs.YtgcepckaolkeoaaGreatDoor
open Go.RowKit
open Go.Proofs.Tryz
open Go renaming heap_alloc_new → hAN, heap_alloc_old → hAO, rounds_succ → rdS, wpList_load_row → wpLr, wpQuiet_nil → wqN
open Go.World renaming size_alloc → wU
open List renaming drop_succ_cons → dJ, drop_zero → dY, length_append → lQ, length_map → lU, mem_append → mY, take_succ_cons → tU, take_zero → tJ
open Nat renaming le_refl → nQ, lt_of_lt_of_le → nJ
set_option linter.unusedVariables false
set_option maxRecDepth 10000 in
set_option maxHeartbeats 2000000 in
theorem UH (HPO:Hid (IG 84)) (key nonce:List Int) (hk:key.length=32) (hr:nonce.length=12) (B:Nat→List Int) (hB:∀i,(B i).length=64) (HC:Hid (AN 81 key nonce B (fun _=>True))) (hBb:∀i,aE (B i))
 (H E:List Int) (n m:Nat) (hn:H.length=n) (hm:E.length=m) (hn2:n≤65536) (hm2:m≤65536) (hHb:aE H) (hEb:aE E) (hg ho hc eg eo ec:Nat) (w:World) (HSH:Hid (Sl w hg ho H)) (HSE:Hid (Sl w eg eo E))
 (T:List Int) (hT:Hid (OA B E H=T)):
 Calls prog 60 #[.agg (Iv .u8 key),.agg (Iv .u8 nonce),.slice (some ⟨hg,ho,none⟩) n hc,.slice (some ⟨eg,eo,none⟩) m ec] w fun e w'=>e=.returned (.agg (Iv .u8 T))∧Below w.heap.size w w':=by
 have hzv:=LW
 have hzw:=DK
 have hi32:Hid ((prog.info? 22).map (·.size)=some (Iv .u8 key).size):=by show _=_;rw[aD,hk];exact sZ
 have hi12:Hid ((prog.info? 24).map (·.size)=some (Iv .u8 nonce).size):=by show _=_;rw[aD,hr];exact vN
 have hi64:Hid (∀l:List Int,l.length=64→(prog.info? 147).map (·.size)=some (Iv .u8 l).size):=fun l hl=>by rw[aD,hl];exact DD
 have hi16:Hid (∀l:List Int,l.length=16→(prog.info? 27).map (·.size)=some (Iv .u8 l).size):=fun l hl=>by rw[aD,hl];exact DC
 have hz64:Hid (∀l:List Int,l.length=64→(Iv .u8 (aA 64)).size=(Iv .u8 l).size):=fun l hl=>by rw[aD,aD,hl];simp[aA]
 have hz16:Hid (∀l:List Int,l.length=16→(Iv .u8 (aA 16)).size=(Iv .u8 l).size):=fun l hl=>by rw[aD,aD,hl];simp[aA]
 obtain⟨W,hW,g0,g1,g2,hs,hBW⟩:=oF w (.cells (Iv .u8 key) 22) (.cells (Iv .u8 nonce) 24) (.cells (Iv .u8 (aA 16)) 27)
 have HW:Hid _:=hW
 have G0:Hid _:=g0
 have G1:Hid _:=g1
 have G2:Hid _:=g2
 have GB:Hid _:=hBW
 clear hW g0 g1 g2 hBW
 go_enter func60,ntmps60
 go_wp2_with(rw[HW.out];refine sH ?_)
 refine aH ?_
 clear hzv HW
 go_wp2_with(with_reducible refine aJ ?_;first
  | refine wpLr rfl 22 _ rfl w.heap.size rfl _ (Iv .u8 key) _ _ G0.out underlying22 rfl hi32.out ?_
  | refine wpLr rfl 24 _ rfl (w.heap.size+1) rfl _ (Iv .u8 nonce) _ _ G1.out underlying24 rfl hi12.out ?_)
 refine(HC.out 0 W (by decide) trivial).mono ?_
 rintro e w3 ⟨rfl,hb3⟩
 have hs3:=hb3.size
 have K3:Hid ((w3.alloc (.cells (Iv .u8 (aA 64)) 147)).heap[w3.heap.size]? =some (.cells (Iv .u8 (aA 64)) 147)):=hAN _ _
 go_wp2_with(with_reducible refine aJ ?_;refine wpPr rfl 147 _ _ rfl w3.heap.size (Iv .u8 (B 0)) rfl rfl _ _ K3.out (hi64.out _ (hB _)) (hz64.out _ (hB _)) (aG _ _) (fun X hX=>sH ?_))
 refine aH ?_
 have xs:X.heap.size=w3.heap.size+1:=by rw[hX.size];simp
 have X10:Hid (X.heap[w3.heap.size]? =some (.cells (Iv .u8 (B 0)) 147)):=hX.here
 have X2:Hid (X.heap[w.heap.size+1+1]? =some (.cells (Iv .u8 (aA 16)) 27)):=(hX.far _ (by omega)).trans ((hAO _ _ (by omega)).trans ((hb3.block _ (by omega)).trans G2.out))
 have XB:Hid (Below w.heap.size w X):=hX.below _ _ ((GB.out.trans (hb3.mono (by omega))).alloc (by omega) _) (by omega)
 obtain⟨gb,egb⟩:∃x,x=w3.heap.size:=⟨_,rfl⟩
 rw[←egb]at X10 xs hs3⊢
 clear egb hX hb3 K3 G0 G1 G2 GB hzw
 have XE:Hid _:=Sl.later HSE.out XB.out HSE.out.1
 have XH:Hid _:=Sl.later HSH.out XB.out HSH.out.1
 have hxw:=XB.out.size
 go_wp2_with fail
 refine(EM E m hm (by omega) eg eo ec X XE).mono ?_
 rintro e w4 ⟨v4,rfl,o4,n4,b4⟩
 obtain⟨g4,c4,rfl,hg4,_,_,hl4,_⟩:=sE o4 n4
 have S4:Hid _:=Sl.of_own o4
 have B4:Hid (Below X.heap.size X w4):=b4
 have XH4:Hid _:=Sl.later XH.out b4 XH.out.1
 clear o4 n4 b4
 rw[iV,hm]
 go_wp2_with fail
 refine(EM H n hn (by omega) hg ho hc w4 XH4).mono ?_
 rintro e w5 ⟨v5,rfl,o5,n5,b5⟩
 obtain⟨g5,c5,rfl,hg5,_,_,hl5,_⟩:=sE o5 n5
 have S5:Hid _:=Sl.of_own o5
 have S4':Hid _:=Sl.later S4.out b5 hl4
 have B5:Hid (Below X.heap.size X w5):=B4.out.trans (b5.mono B4.out.size)
 clear o5 n5 b5 S4 B4 XH4
 rw[iV,hn]
 go_wp2_with fail
 have hfm:=nV m
 have hfn:=nV n
 refine(XZ g4 0 c4 g5 0 c5 (gQ E) (gQ H) (m+mR m) (n+mR n) (by rw[iV,hm]) (by rw[iV,hn]) (by omega) w5 S4'.out S5.out).mono ?_
 rintro e w6 ⟨v6,rfl,o6,b6⟩
 have O6:Hid (cC .u8 5 X.heap.size w6 v6 (gQ E++gQ H)):=cC.mono o6 B5.out.size
 have B6:Hid (Below X.heap.size X w6):=B5.out.trans (b6.mono B5.out.size)
 clear o6 b6 S4' S5 B5
 go_wp2_with fail
 refine(AZ m (by omega) w6).mono ?_
 rintro e w7 ⟨v7,rfl,o7,b7⟩
 obtain⟨g7,c7,rfl,hg7,_,_,hl7,_⟩:=FI o7 (by rw[fG];decide)
 have S7:Hid _:=Sl.of_own o7
 have O7:Hid _:=cC.later O6.out b7
 have B7:Hid (Below X.heap.size X w7):=B6.out.trans (b7.mono B6.out.size)
 have hs7:=B7.out.size
 clear o7 b7 O6 B6
 rw[fG]
 have hlF:Hid ((gQ E++gQ H).length≤200000):=by show _≤_;rw[lQ,iV,iV,hm,hn];omega
 go_wp2_with(at_builtin;refine dG .u8 48 5 1 underlying48 pP (by decide) rfl (.tmp 19) (.tmp 22) rfl X.heap.size X w7 _ (gQ E++gQ H) g7 0 8 c7 (BZ m) (fG m) rfl rfl O7.out B7.out hs7 (by have:=hlF.out;omega) (fun j hj=>S7.out.2 j (by rw[fG];exact hj)) ?_;intro v8 w8 o8 b8 _ _;refine sH ?_)
 refine aH ?_
 have O8:Hid _:=o8
 have B8:Hid _:=b8
 have hs8:=b8.size
 clear o8 b8 O7 B7 S7
 go_wp2_with fail
 refine(AZ n (by omega) w8).mono ?_
 rintro e w9 ⟨v9,rfl,o9,b9⟩
 obtain⟨g9,c9,rfl,hg9,_,_,hl9,_⟩:=FI o9 (by rw[fG];decide)
 have S9:Hid _:=Sl.of_own o9
 have O9:Hid _:=cC.later O8.out b9
 have B9:Hid (Below X.heap.size X w9):=B8.out.trans (b9.mono B8.out.size)
 have hs9:=B9.out.size
 clear o9 b9 O8 B8
 rw[fG]
 have hlG:Hid ((gQ E++gQ H++BZ m).length≤200100):=by show _≤_;rw[lQ,fG];have:=hlF.out;omega
 go_wp2_with(at_builtin;refine dG .u8 48 5 1 underlying48 pP (by decide) rfl (.tmp 24) (.tmp 27) rfl X.heap.size X w9 _ (gQ E++gQ H++BZ m) g9 0 8 c9 (BZ n) (fG n) rfl rfl O9.out B9.out hs9 (by have:=hlG.out;omega) (fun j hj=>S9.out.2 j (by rw[fG];exact hj)) ?_;intro v10 w10 o10 b10 _ _;refine sH ?_)
 refine aH ?_
 have hmac:gQ E++gQ H++BZ m++BZ n=uL E H:=by unfold uL;rw[hn,hm];simp[List.append_assoc]
 rw[hmac]at o10
 have hml:(uL E H).length≤200000:=by rw[qV];have:=nV E.length;have:=nV H.length;omega
 have hml0:0<(uL E H).length:=by rw[qV];omega
 have hmb:=E9 hEb hHb
 obtain⟨K,eK⟩:∃K,K=(B 0).take 32:=⟨_,rfl⟩
 have hk32:K.length=32:=by rw[eK,List.length_take,hB];rfl
 have hKb:aE K:=by rw[eK];exact dB (hBb 0) 32
 have hT2:gR K (uL E H)=T:=by rw[eK];exact hT.out
 have hTl:T.length=16:=by rw[←hT2];exact vY _ _
 have SK:Hid (Sl w10 gb 0 K):=by show Sl _ _ _ _;rw[eK];exact Sl.take (Sl.of_row ((b10.block gb (by omega)).trans X10.out)) 32
 clear hmac hT eK
 obtain⟨D,hD⟩:∃D,D=uL E H:=⟨_,rfl⟩
 rw[←hD]at o10 hml hml0 hmb hT2
 clear hD
 obtain⟨gd,cd,rfl,hgd,hcd,hcd2,hgd2,_⟩:=FI o10 hml0
 have SD:Hid _:=Sl.of_own o10
 have B10:Hid _:=b10
 have hs10:=b10.size
 obtain⟨dl,hdl⟩:∃dl,dl=D.length:=⟨_,rfl⟩
 rw[←hdl]at hml hml0 hcd⊢
 have HDL:Hid _:=hdl
 clear hdl o10 b10 O9 B9 S9
 go_wp2_with fail
 refine(xW K hk32 gb 0 64 w10 SK.out.1 (fun j hj=>SK.out.2 j (by rw[hk32];exact hj))).mono ?_
 rintro e w11 ⟨rfl,b11⟩
 have SD11:Hid (Sl w11 gd 0 D):=Sl.later SD.out b11 SD.out.1
 have B11:Hid (Below X.heap.size X w11):=B10.out.trans (b11.mono B10.out.size)
 clear b11 SD B10 SK
 have HKP:Hid _:=HPO.out K D gd cd w11 hk32 hKb hmb (by rw[←HDL.out];exact hml) (by rw[←HDL.out];exact hcd) hcd2 SD11.out
 rw[hT2,←HDL.out]at HKP
 clear hT2 hmb HDL SD11
 go_wp2_with fail
 refine Calls.mono HKP.out ?_
 rintro e w12 ⟨rfl,b12⟩
 have B12:Below X.heap.size X w12:=B11.out.trans (b12.mono B11.out.size)
 have Z2:Hid _:=(B12.block (w.heap.size+1+1) (by omega)).trans X2.out
 have ZB:Hid (Below w.heap.size w w12):=XB.out.trans (B12.mono (by omega))
 clear B12 b12 HKP
 go_wp2_with(with_reducible refine aJ ?_;refine wpPr rfl 27 _ _ rfl (w.heap.size+1+1) (Iv .u8 T) rfl rfl _ _ Z2.out (hi16.out T hTl) (hz16.out T hTl) (aG _ _) (fun W9 hP9=>sH ?_))
 refine aH ?_
 have H9:Hid _:=hP9.here
 have BW9:Hid (Below w.heap.size w W9):=hP9.below _ _ ZB.out (by omega)
 clear hP9 Z2 ZB X2 X10 XB XE XH
 go_wp2
 exact bodyPost_ret (v:=.agg (Iv .u8 T)) (results_cell_row rfl _ _ _ _ (Iv .u8 T) _ _ rfl H9.out underlying27 rfl (hi16.out T hTl)) rfl ⟨rfl,BW9.out⟩
abbrev Rs:=List (Nat×Array Value×TypeId)
structure Sx (w:World) (b:Nat) (cs:List Value) (t:TypeId) (R:Rs) (y:World):Prop where
 lb:b<w.heap.size
 tn:Tn w b cs t y
 row:∀r∈R,w.heap.size≤r.1∧r.1<y.heap.size∧y.heap[r.1]? =some (.cells r.2.1 r.2.2)
 nd:(R.map (·.1)).Nodup
section
variable {w y z:World} {b:Nat} {cs cs':List Value} {t:TypeId} {R R':Rs}
theorem Sx.start (hr:w.heap[b]? =some (.cells cs.toArray t)):Sx w b cs t [] w:=
 ⟨(Array.getElem?_eq_some_iff.1 hr).1,⟨rfl,rfl,rfl,nQ _,fun _ _ _=>rfl,hr⟩,fun r h=>(by cases h),List.nodup_nil⟩
theorem Sx.here (h:Sx w b cs t R y):y.heap[b]? =some (.cells cs.toArray t):=h.tn.here
theorem Sx.at (h:Sx w b cs t R y) {g:Nat} {v:Array Value} {u:TypeId} (hr:(g,v,u)∈R):y.heap[g]? =some (.cells v u):=(h.row _ hr).2.2
theorem Sx.later (h:Sx w b cs t R y) (hb:Below y.heap.size y z):Sx w b cs t R z:=
 ⟨h.lb,h.tn.more hb,fun r hr=>⟨(h.row r hr).1,nJ (h.row r hr).2.1 hb.size,(hb.block _ (h.row r hr).2.1).trans (h.row r hr).2.2⟩,h.nd⟩
theorem Sx.drew (h:Sx w b cs t R y):Sx w b cs t R y.drew:=h.later (bDr (Below.refl _ _) 1)
theorem Sx.alloc (h:Sx w b cs t R y) (n:Nat) (hn:y.heap.size=n) (v:Array Value) (u:TypeId):Sx w b cs t ((n,v,u)::R) (y.alloc (.cells v u)):=by
 subst hn
 have h1:=h.later ((Below.refl y.heap.size y).alloc (nQ _) (.cells v u))
 refine⟨h1.lb,h1.tn,fun r hr=>?_,?_⟩
 ·rcases List.mem_cons.1 hr with rfl|hr
  ·exact⟨h.tn.size,by simp,hAN _ _⟩
  ·exact h1.row r hr
 ·rw[List.map_cons,List.nodup_cons]
  refine⟨fun hm=>?_,h.nd⟩
  obtain⟨r,hr,e⟩:=List.mem_map.1 hm
  have:=(h.row r hr).2.1
  omega
theorem Sx.turn (h:Sx w b cs t R y) (hT:Tn y b cs' t z):Sx w b cs' t R z:=
 ⟨h.lb,h.tn.then hT,fun r hr=>⟨(h.row r hr).1,nJ (h.row r hr).2.1 hT.size,(hT.far r.1 (h.row r hr).2.1 (by have:=(h.row r hr).1;have:=h.lb;omega)).trans (h.row r hr).2.2⟩,h.nd⟩
theorem Sx.putR (h:Sx w b cs t R y) (hP:wH y b cs'.toArray t z):Sx w b cs' t R z:=h.turn (Tn.of (Below.refl _ _) hP)
theorem Sx.putK {R1 R2:Rs} {g:Nat} {v v':Array Value} {u:TypeId} (h:Sx w b cs t (R1++(g,v,u)::R2) y) (hP:wH y g v' u z):Sx w b cs t (R1++(g,v',u)::R2) z:=by
 have hg:=h.row (g,v,u) (by simp)
 have hnd:=h.nd
 simp only[List.map_append,List.map_cons]at hnd
 have hnb:=List.nodup_append.1 hnd
 have h1:=hP.below g y (Below.refl _ _) (nQ _)
 refine⟨h.lb,⟨h1.os.trans h.tn.os,h1.tape.trans h.tn.tape,h1.output.trans h.tn.output,by rw[hP.size];exact h.tn.size,fun k hk hne=>(hP.far k (by have:=hg.1;show k≠g;omega)).trans (h.tn.far k hk hne),(hP.far b (by have:=hg.1;have:=h.lb;show b≠g;omega)).trans h.tn.here⟩,fun r hr=>?_,by simp only[List.map_append,List.map_cons];exact hnd⟩
 simp only[mY,List.mem_cons]at hr
 rcases hr with hr|rfl|hr
 ·have h2:=h.row r (by simp[hr])
  refine⟨h2.1,by rw[hP.size];exact h2.2.1,(hP.far r.1 (fun e=>?_)).trans h2.2.2⟩
  exact hnb.2.2 r.1 (List.mem_map_of_mem hr) g (by simp) e
 ·exact⟨hg.1,by rw[hP.size];exact hg.2.1,hP.here⟩
 ·have h2:=h.row r (by simp[hr])
  refine⟨h2.1,by rw[hP.size];exact h2.2.1,(hP.far r.1 (fun e=>?_)).trans h2.2.2⟩
  exact(List.nodup_cons.1 hnb.2.1).1 (by rw[←e];exact List.mem_map_of_mem hr)
theorem Sx.put0 {R2:Rs} {g:Nat} {v v':Array Value} {u:TypeId} (h:Sx w b cs t ((g,v,u)::R2) y) (hP:wH y g v' u z):Sx w b cs t ((g,v',u)::R2) z:=Sx.putK (R1:=[]) h hP
theorem Sx.tail {r:Nat×Array Value×TypeId} (h:Sx w b cs t (r::R) y):Sx w b cs t R y:=⟨h.lb,h.tn,fun q hq=>h.row q (.tail _ hq),(List.nodup_cons.1 (by simpa using h.nd)).2⟩
theorem Sx.tabs (h:Sx w b cs t R y) (ht:dR w) (hb:3<b):dR y:=ht.turn h.tn hb (by have:=h.lb;omega)
end
theorem aS {l:List Int} (h:l.length=32):(prog.info? 22).map (·.size)=some (Iv .u8 l).size:=by rw[aD,h];exact iB
theorem MY {W:World} {g:Nat} {A B:List Int} {t:TypeId} (h:W.heap[g]? =some (.cells (Iv .u8 (A++B)) t)) (hA:A.length=32) (hB:B.length=32):W.rangeAt g 0 (A.map (Value.int .u8))∧W.rangeAt g 32 (B.map (Value.int .u8)):=by
 have h1:=fE (l:=(A++B).map (Value.int .u8)) h 0 32
 have h2:=fE (l:=(A++B).map (Value.int .u8)) h 32 32
 rw[List.map_append]at h1 h2
 have e1:(A.map (Value.int .u8)).length=32:=by rw[lU,hA]
 have e2:(B.map (Value.int .u8)).length=32:=by rw[lU,hB]
 rw[dY,←e1,List.take_left]at h1
 refine⟨h1,?_⟩
 have e3:(A.map (Value.int .u8)++B.map (Value.int .u8)).drop 32=B.map (Value.int .u8):=by rw[←e1];exact List.drop_left
 rw[e3,List.take_of_length_le (by rw[e2];exact nQ _)]at h2
 exact h2
set_option maxRecDepth 10000 in
set_option maxHeartbeats 2000000 in
theorem FC (c h p:List Int) (r:List Value) (hc:c.length=32) (hh:h.length=32) (hp:p.length=32) (hcb:aE c) (hpb:aE p) (b:Nat) (hb3:3<b) (t:TypeId) (w:World) (hr:w.heap[b]? =some (.cells (fA c h r).toArray t)) (ht:dR w):
 Calls prog 90 #[.pointer (some ⟨b,0,none⟩),.agg (Iv .u8 p)] w fun x w'=>x=.returned (.agg (Iv .u8 (fB (gF c p) 1)))∧Tn w b (fA (fB (gF c p) 0) h r) t w':=by
 have hz:=fT
 obtain⟨A,eA⟩:∃A,fB (gF c p) 0=A:=⟨_,rfl⟩
 obtain⟨K,eK⟩:∃K,fB (gF c p) 1=K:=⟨_,rfl⟩
 have hA:A.length=32:=by rw[←eA];exact bA _ _
 have hK:K.length=32:=by rw[←eK];exact bA _ _
 rw[eA,eK]
 have EA:Hid _:=eA
 have EK:Hid _:=eK
 have HC:Hid _:=hc
 have H32:Hid _:=hh
 have HP:Hid _:=hp
 have HCB:Hid _:=hcb
 have HPB:Hid _:=hpb
 have HT:Hid (dR w):=ht
 have S0:Hid _:=Sx.start hr
 clear eA eK hc hh hp hcb hpb ht hr
 go_enter func90,ntmps90
 go_wp2_with fail
 obtain⟨n0,e0⟩:∃n,w.heap.size=n:=⟨_,rfl⟩
 have S1:=(S0.out.alloc n0 e0 (Iv .u8 p) 22).alloc (n0+1) (by simp[e0]) (Iv .u8 (aA 32)) 22
 rw[e0]
 obtain⟨W,hW⟩:∃W,(w.alloc (.cells (Iv .u8 p) 22)).alloc (.cells (Iv .u8 (aA 32)) 22)=W:=⟨_,rfl⟩
 rw[hW]at S1⊢
 have S:Hid _:=S1.drew
 clear hW S1 S0 e0
 refine wRt 6 (fun w'=>∃x:Wp (fun v=>Sx w b (fA c h r) t [(n0+1,Iv .u8 (aA 32),22),(n0,Iv .u8 p,22)] v),w'=x.w) (.held [0,4] (.tail 1 (.held [2,3] (.tail 5 (.last 6 .done))))) fH (by kernel_rfl) ⟨⟨_,S.out⟩,rfl⟩ ?_
 obtain⟨y0,ey⟩:∃y,y=W.drew:=⟨_,rfl⟩
 rw[←ey]at S⊢
 clear ey
 refine wTh ?_
 simp only[oS]
 refine aB rfl (.pointer (some ⟨b,0,none⟩)) (fun w'=>by kernel_rfl) ?_
 simp only[pS]
 refine aB rfl (.slice (some ⟨n0,0,none⟩) 32 32) (fun w'=>by kernel_rfl) ?_
 simp only[pS]
 refine wqN ?_
 refine wTt ?_
 simp only[oS]
 go_wp2_with fail
 refine⟨⟨⟨_,S.out⟩,rfl⟩,?_⟩
 refine wTh ?_
 simp only[oS]
 refine aB rfl (.pointer (some ⟨b,0,none⟩)) (fun w'=>by kernel_rfl) ?_
 simp only[pS]
 refine aB rfl (.slice (some ⟨b,0,none⟩) 32 32) (fun w'=>by kernel_rfl) ?_
 simp only[pS]
 refine wqN ?_
 refine wTt ?_
 simp only[oS]
 go_wp2_with fail
 refine(MX c p HC.out HCB.out HP.out HPB.out 2 (by decide) (by decide) b 0 n0 0 y0 (adT S.out.here HC.out) (Array.getElem?_eq_some_iff.1 S.out.here).1 (sB (S.out.at (.tail _ (.head _)))) (S.out.tabs HT.out hb3)).mono ?_
 rintro x y1 ⟨g,rfl,hg,hrow,hb1⟩
 rw[aaM,EA.out,EK.out]at hrow
 have S1:Hid _:=S.out.later hb1
 have G:Hid _:=hrow
 have GN:Hid (g≠b):=by show _≠_;have h1:=(Array.getElem?_eq_some_iff.1 S.out.here).1;omega
 have X:Hid _:=MY hrow hA hK
 clear hb1 hrow hg S
 go_wp2_with fail
 refine⟨⟨⟨_,S1.out⟩,rfl⟩,?_⟩
 refine wTl ?_
 simp only[oS]
 go_wp2_with fail
 refine bE ?_
 have hfit:Hid (0+(A.map (Value.int .u8)).length≤(fA c h r).length):=by show _≤_;rw[lU,hA,jU _ _ _ HC.out H32.out];omega
 go_wp2_with(first
  | refine wpList_load_mid rfl 22 _ rfl g 0 rfl (A.map (Value.int .u8)) _ X.out.1 underlying22 rfl (eM hA) ?_
  | refine wpPp rfl 22 _ _ rfl b 0 (A.map (Value.int .u8)) rfl rfl (fA c h r) t S1.out.here (fA A h r) (eM hA) hfit.out (LS _) (N9 c A h r HC.out hA) ?_)
 intro y2 hP
 have X2:Hid (y2.rangeAt g 32 (K.map (Value.int .u8))):=(MY ((hP.far g GN.out).trans G.out) hA hK).2
 have S2:Hid _:=S1.out.putR hP
 clear hP S1 hfit X G GN
 go_wp2_with(first
  | refine wpList_load_mid rfl 22 _ rfl g 32 rfl (K.map (Value.int .u8)) _ X2.out underlying22 rfl (eM hK) ?_
  | refine wpPr rfl 22 _ _ rfl (n0+1) (Iv .u8 K) rfl rfl _ _ (S2.out.at (.head _)) (aS hK) (by rw[aD,aD,hK];rfl) (aG _ _) ?_)
 intro y3 hP
 have S3:Hid _:=S2.out.put0 hP
 clear hP S2
 go_wp2_with fail
 exact bodyPost_ret (v:=.agg (Iv .u8 K)) (results_cell_row rfl _ _ _ _ (Iv .u8 K) _ _ rfl (S3.out.at (.head _)) underlying22 rfl (aS hK)) rfl ⟨rfl,S3.out.tn⟩
theorem m0:(prog.info? 240).map (·.size)=some 5:=by kernel_rfl
theorem eN:prog.follows .mixedOrders=true:=by kernel_rfl
set_option maxHeartbeats 4000000 in
theorem AQ (a0 a1 a2 a3 a4:Int) (w:World) (h0:0≤a0) (g0:a0≤576460752303423488) (h1:0≤a1) (g1:a1≤576460752303423488) (h2:0≤a2) (g2:a2≤576460752303423488) (h3:0≤a3) (g3:a3≤576460752303423488) (h4:0≤a4) (g4:a4≤576460752303423488):
 Calls prog 159 #[.agg #[.int .u64 a0,.int .u64 a1,.int .u64 a2,.int .u64 a3,.int .u64 a4]] w fun e w'=>∃r0 r1 r2 r3 r4,e=.returned (.agg #[.int .u64 r0,.int .u64 r1,.int .u64 r2,.int .u64 r3,.int .u64 r4])∧Car a0 a1 a2 a3 a4 r0 r1 r2 r3 r4∧Below w.heap.size w w':=by
 go_enter func159,ntmps159
 go_wp2
 refine wp_loop_rounds 6 ?_
 iterate 6 (rw[rdS];go_wp2)
 refine bodyPost_ret (v:=.agg #[.int .u64 _,.int .u64 _,.int .u64 _,.int .u64 _,.int .u64 _]) (by simp[results,results159,go_sem]) rfl ⟨_,_,_,_,_,rfl,ab3 a0 a1 a2 a3 a4 h0 g0 h1 g1 h2 g2 h3 g3 h4 g4,?_⟩
 exact((Below.refl _ _).alloc (by simp) _).alloc (by simp) _
theorem PL (a0 a1 a2 a3 a4:Int) (h0:0≤a0) (g0:a0<67108864) (h1:0≤a1) (g1:a1<67108864) (h2:0≤a2) (g2:a2<67108864) (h3:0≤a3) (g3:a3<67108864) (h4:0≤a4) (g4:a4<67108864):
 bits .or .u64 (bits .or .u64 a0 (IntKind.u64.wrap (a1*67108864))) (IntKind.u64.wrap (a2*4503599627370496))=a0+67108864*a1+4503599627370496*(a2%4096)∧
 bits .or .u64 (bits .or .u64 (a2 / 4096) (IntKind.u64.wrap (a3*16384))) (IntKind.u64.wrap (a4*1099511627776))=a2 / 4096+16384*a3+1099511627776*(a4%16777216):=by
 have e1:IntKind.u64.wrap (a1*67108864)=a1*67108864:=uJ _ (by omega) (by omega)
 have e2:IntKind.u64.wrap (a2*4503599627370496)=(a2%4096)*4503599627370496:=by rw[IntKind.wrap_u64];omega
 have e3:IntKind.u64.wrap (a3*16384)=a3*16384:=uJ _ (by omega) (by omega)
 have e4:IntKind.u64.wrap (a4*1099511627776)=(a4%16777216)*1099511627776:=by rw[IntKind.wrap_u64];omega
 rw[e1,e2,e3,e4]
 rw[zG 26 a0 (a1*67108864) (by decide) (by omega) (by omega) (by omega) (by omega) (by omega)]
 rw[zG 52 (a0+a1*67108864) ((a2%4096)*4503599627370496) (by decide) (by omega) (by omega) (by omega) (by omega) (by omega)]
 rw[zG 14 (a2 / 4096) (a3*16384) (by decide) (by omega) (by omega) (by omega) (by omega) (by omega)]
 rw[zG 40 (a2 / 4096+a3*16384) ((a4%16777216)*1099511627776) (by decide) (by omega) (by omega) (by omega) (by omega) (by omega)]
 omega
set_option maxHeartbeats 1000000 in
theorem PK (a0 a1 a2 a3 a4:Int) (w:World) (h0:0≤a0) (g0:a0<67108864) (h1:0≤a1) (g1:a1<67108864) (h2:0≤a2) (g2:a2<67108864) (h3:0≤a3) (g3:a3<67108864) (h4:0≤a4) (g4:a4<67108864):
 Calls prog 155 #[.agg #[.int .u64 a0,.int .u64 a1,.int .u64 a2,.int .u64 a3,.int .u64 a4]] w fun e w'=>
  e=.returned (.tuple #[.int .u64 (a0+67108864*a1+4503599627370496*(a2%4096)),.int .u64 (a2 / 4096+16384*a3+1099511627776*(a4%16777216))])∧Below w.heap.size w w':=by
 have H:=PL a0 a1 a2 a3 a4 h0 g0 h1 g1 h2 g2 h3 g3 h4 g4
 have H1:Hid (_∧_):=H
 clear H h0 g0 h1 g1 h2 g2 h3 g3 h4 g4
 go_enter func155,ntmps155
 go_wp2
 go_quiet (fail)
 go_wp2
 go_ret2
 obtain⟨H2,H3⟩:=H1.out
 rw[H2,H3]
 exact⟨rfl,bDr ((Below.refl _ _).alloc (by simp) _) _⟩
theorem UU (w0 w1 w2 w3 w4:Int) (h0:0≤w0) (g0:w0<4294967296) (h1:0≤w1) (g1:w1<4294967296) (h2:0≤w2) (g2:w2<4294967296) (h3:0≤w3) (g3:w3<4294967296) (h4:0≤w4) (g4:w4≤1):
 bits .and .u64 w0 67108863=w0%67108864∧
 bits .and .u64 (bits .or .u64 (w0 / 67108864) (w1*64)) 67108863=w0 / 67108864+64*(w1%1048576)∧
 bits .and .u64 (bits .or .u64 (w1 / 1048576) (w2*4096)) 67108863=w1 / 1048576+4096*(w2%16384)∧
 bits .and .u64 (bits .or .u64 (w2 / 16384) (w3*262144)) 67108863=w2 / 16384+262144*(w3%256)∧
 bits .or .u64 (w3 / 256) (w4*16777216)=w3 / 256+16777216*w4:=by
 rw[lA w0 h0 (by omega)]
 rw[zG 6 (w0 / 67108864) (w1*64) (by decide) (by omega) (by omega) (by omega) (by omega) (by omega),lA _ (by omega) (by omega)]
 rw[zG 12 (w1 / 1048576) (w2*4096) (by decide) (by omega) (by omega) (by omega) (by omega) (by omega),lA _ (by omega) (by omega)]
 rw[zG 18 (w2 / 16384) (w3*262144) (by decide) (by omega) (by omega) (by omega) (by omega) (by omega),lA _ (by omega) (by omega)]
 rw[zG 24 (w3 / 256) (w4*16777216) (by decide) (by omega) (by omega) (by omega) (by omega) (by omega)]
 omega
set_option maxHeartbeats 1000000 in
theorem UM (w0 w1 w2 w3 w4:Int) (w:World) (h0:0≤w0) (g0:w0<4294967296) (h1:0≤w1) (g1:w1<4294967296) (h2:0≤w2) (g2:w2<4294967296) (h3:0≤w3) (g3:w3<4294967296) (h4:0≤w4) (g4:w4≤1):
 Calls prog 158 #[.agg #[.int .u32 w0,.int .u32 w1,.int .u32 w2,.int .u32 w3,.int .u32 w4]] w fun e w'=>
  e=.returned (.agg #[.int .u64 (w0%67108864),.int .u64 (w0 / 67108864+64*(w1%1048576)),.int .u64 (w1 / 1048576+4096*(w2%16384)),.int .u64 (w2 / 16384+262144*(w3%256)),.int .u64 (w3 / 256+16777216*w4)])∧Below w.heap.size w w':=by
 have H:=UU w0 w1 w2 w3 w4 h0 g0 h1 g1 h2 g2 h3 g3 h4 g4
 have H1:Hid (_∧_∧_∧_∧_):=H
 clear H
 go_enter func158,ntmps158
 go_wp2
 obtain⟨H2,H3,H4,H5,H6⟩:=H1.out
 rw[H2,H3,H4,H5,H6]
 refine bodyPost_ret (v:=.agg #[.int .u64 _,.int .u64 _,.int .u64 _,.int .u64 _,.int .u64 _]) (by simp[results,results158,go_sem]) rfl ⟨rfl,?_⟩
 exact((Below.refl _ _).alloc (by simp) _).alloc (by simp) _
theorem I0 (w0 w1 w2 w3 w4:Int) (w:World) (h0:0≤w0) (g0:w0<4294967296) (h1:0≤w1) (g1:w1<4294967296) (h2:0≤w2) (g2:w2<4294967296) (h3:0≤w3) (g3:w3<4294967296) (h4:0≤w4) (g4:w4≤1):
 Calls prog 158 #[.agg #[.int .u32 w0,.int .u32 w1,.int .u32 w2,.int .u32 w3,.int .u32 w4]] w fun e w'=>
  ∃r0 r1 r2 r3 r4,e=.returned (.agg #[.int .u64 r0,.int .u64 r1,.int .u64 r2,.int .u64 r3,.int .u64 r4])∧oL r0 r1 r2 r3 r4∧
   V5 r0 r1 r2 r3 r4=w0+4294967296*w1+18446744073709551616*w2+79228162514264337593543950336*w3+340282366920938463463374607431768211456*w4∧Below w.heap.size w w':=by
 refine(UM w0 w1 w2 w3 w4 w h0 g0 h1 g1 h2 g2 h3 g3 h4 g4).mono ?_
 rintro e w' ⟨rfl,hb⟩
 obtain⟨hv,hl⟩:=M9 w0 w1 w2 w3 w4 h0 g0 h1 g1 h2 g2 h3 g3 h4 g4
 exact⟨_,_,_,_,_,rfl,hl,hv,hb⟩
theorem acH:(prog.info? 248).map (·.size)=some 5:=by kernel_rfl
set_option maxHeartbeats 4000000 in
theorem PD (l:List Int) (hl:l.length=32) (hz:aE l) (w:World):
 Calls prog 150 #[.agg (Iv .u8 l)] w fun e w'=>∃r0 r1 r2 r3 r4,e=.returned (.agg #[.int .u64 r0,.int .u64 r1,.int .u64 r2,.int .u64 r3,.int .u64 r4])∧oL r0 r1 r2 r3 r4∧V5 r0 r1 r2 r3 r4=kR l∧Below w.heap.size w w':=by
 have hinfo22:(prog.info? 22).map (·.size)=some 32:=by kernel_rfl
 go_enter func150,ntmps150
 go_wp2
 refine wRh 2 eN (by kernel_rfl) ?_
 simp only[tU,tJ,dJ,dY]
 repeat(go_big_quiet_step (fail))
 refine wqN ?_
 go_wp2_with fail
 refine(iY 16 (w.heap.size+1+1) 0 5 5 248 [0,0,0,0,0] w.heap.size 0 32 (l.take 16) _ (by simp[hl]) ?_ (by decide) (by decide) (by omega) (dB hz 16) (by decide) (by decide) ?_ (by decide) (by decide)).mono ?_
 ·simp only[heap_drew,bO,wU]
  simp
  rfl
 ·intro i hi
  have:=cN .u8 l i (by omega)
  simp only[World.cell?_drew]
  rw[World.cell?_alloc_past _ _ _ (by simp<;>omega),World.cell?_alloc_past _ _ _ (by simp<;>omega),World.cell?_alloc_at _ _ _ _ rfl,Nat.zero_add,this,cT,if_pos hi]
  simp[show i<l.length by omega]
 rintro e w1 ⟨rfl,d,rfl⟩
 rw[uZ,pG _ _ _ _ _ (by simp),show Iv .u32 (pF9 [0,0,0,0,0] 0 (aF (l.take 16)) (min (16 / 4+1) 5))=#[.int .u32 (aF (l.take 16) 0),.int .u32 (aF (l.take 16) 1),.int .u32 (aF (l.take 16) 2),.int .u32 (aF (l.take 16) 3),.int .u32 (aF (l.take 16) 4)]from rfl]
 rw[wE l 16 0 (by decide),wE l 16 1 (by decide),wE l 16 2 (by decide),wE l 16 3 (by decide),AK (l.take 16) 4 (by rw[List.length_take];omega)]
 obtain⟨h0,g0⟩:=kW hz 0
 obtain⟨h1,g1⟩:=kW hz 1
 obtain⟨h2,g2⟩:=kW hz 2
 obtain⟨h3,g3⟩:=kW hz 3
 have HR:Hid (kR l=aF l 0%268435456+4294967296*(4*(aF l 1 / 4%67108864))+18446744073709551616*(4*(aF l 2 / 4%67108864))+79228162514264337593543950336*(4*(aF l 3 / 4%67108864))):=rfl
 generalize aF l 0=x0 at*
 generalize aF l 1=x1 at*
 generalize aF l 2=x2 at*
 generalize aF l 3=x3 at*
 have e0:=ad5 x0 h0 g0
 have e1:=OM x1 h1 g1
 have e2:=OM x2 h2 g2
 have e3:=OM x3 h3 g3
 clear hz
 go_wp2
 refine wp_loop_rounds 4 ?_
 iterate 3 (rw[rdS];go_wp2)
 rw[rdS];go_wp2_with fail
 refine(I0 _ _ _ _ _ _ (by omega) (by omega) (by omega) (by omega) (by omega) (by omega) (by omega) (by omega) (by omega) (by omega)).mono ?_
 rintro e w1 ⟨r0,r1,r2,r3,r4,rfl,ll,lv,hb⟩
 have hbW:Below (w.heap.size+1+1) ((w.alloc (.cells (Iv .u8 l) 22)).alloc (.cells #[.int .u64 0,.int .u64 0,.int .u64 0,.int .u64 0,.int .u64 0] 240)) w1:=
  (((((bDr ((Below.refl _ _).alloc (by simp) _) (1+d)).setCell (by simp) _).setCell (by simp) _).setCell (by simp) _).setCell (by simp) _).trans (hb.mono (by simp<;>omega))
 have hg:w1.heap[w.heap.size+1]? =some (.cells #[.int .u64 0,.int .u64 0,.int .u64 0,.int .u64 0,.int .u64 0] 240):=by
  rw[hbW.block _ (by omega)]
  simp only[bO,wU]
  simp
 have hbb:Below w.heap.size w w1:=(((Below.refl w.heap.size w).alloc (by simp) _).alloc (by simp) _).trans (hbW.mono (by omega))
 have hv:=lv.trans (show _=kR l by rw[HR.out];omega)
 clear hb hbW lv e0 e1 e2 e3
 have HV:Hid (V5 r0 r1 r2 r3 r4=kR l):=hv
 clear hv
 go_wp2_with(refine wpList_store_row rfl 240 _ _ rfl _ _ rfl rfl _ _ hg m0 rfl (YD _ _ _ _ _ _) ?_)
 refine oT (cs:=#[.int .u64 r0,.int .u64 r1,.int .u64 r2,.int .u64 r3,.int .u64 r4]) results150 ?_ (setRow_heap _ _ _ _ _ _ hg) underlying240 m0 ?_
 ·rfl
 ·exact⟨_,_,_,_,_,rfl,ll,HV.out,aM hbb _ (by omega) _⟩
set_option maxHeartbeats 4000000 in
theorem JI (zs:List Int) (m:Nat) (hm:zs.length=m) (h1:1≤m) (h16:m≤16) (hz:aE zs) (b o cap:Nat) (w:World) (hb:b<w.heap.size) (hcap:m≤cap) (hcap2:cap≤9223372036854775807)
 (hc:∀i,i<m→w.cell? ⟨b,o+i,none⟩=some (.int .u8 (zs.getD i 0))):
 Calls prog 152 #[.slice (some ⟨b,o,none⟩) m cap] w fun e w'=>∃r0 r1 r2 r3 r4,e=.returned (.agg #[.int .u64 r0,.int .u64 r1,.int .u64 r2,.int .u64 r3,.int .u64 r4])∧oL r0 r1 r2 r3 r4∧V5 r0 r1 r2 r3 r4=aR zs+256^m∧Below w.heap.size w w':=by
 have hP:=YI zs hz (by omega) (by omega)
 go_enter func152,ntmps152
 go_wp2_with fail
 refine(iY m (w.heap.size+1) 0 5 5 248 [0,0,0,0,0] b o cap zs _ hm ?_ (by decide) (by decide) (by omega) hz (by omega) (by omega) ?_ hcap hcap2).mono ?_
 ·simp only[bO,wU]
  simp
  rfl
 ·intro i hi
  rw[World.cell?_alloc_past _ _ _ (by simp<;>omega),World.cell?_alloc_past _ _ _ hb]
  exact hc i hi
 rintro e w1 ⟨rfl,d,rfl⟩
 have hput:pF9 [0,0,0,0,0] 0 (aF zs) (min (m / 4+1) 5)=[aF zs 0,aF zs 1,aF zs 2,aF zs 3,aF zs 4]:=by
  apply List.ext_getElem?
  intro i
  rw[cV _ _ _ _ _ (by simp<;>omega)]
  by_cases hi:i<5
  ·by_cases hi2:i<m / 4+1
   ·rw[if_pos (by omega)]
    match i,hi with
    | 0,_=>rfl
    | 1,_=>rfl
    | 2,_=>rfl
    | 3,_=>rfl
    | 4,_=>rfl
   ·rw[if_neg (by omega)]
    have:=AK zs i (by omega)
    match i,hi,this with
    | 0,_,h=>simp[h]
    | 1,_,h=>simp[h]
    | 2,_,h=>simp[h]
    | 3,_,h=>simp[h]
    | 4,_,h=>simp[h]
  ·rw[if_neg (by omega),List.getElem?_eq_none (by simp<;>omega),List.getElem?_eq_none (by simp<;>omega)]
 rw[pG _ _ _ _ _ (by simp),hput]
 have hc4:(Iv .u32 [aF zs 0,aF zs 1,aF zs 2,aF zs 3,aF zs 4])[m / 4]? =some (.int .u32 (aF zs (m / 4))):=by
  have h5:m / 4<5:=by omega
  generalize m / 4=q at h5
  match q,h5 with
  | 0,_=>rfl
  | 1,_=>rfl
  | 2,_=>rfl
  | 3,_=>rfl
  | 4,_=>rfl
 have hpow:(2:Int)^(8*(m%4))%4294967296=2^(8*(m%4)):=by
  have h4:m%4<4:=by omega
  generalize m%4=q at h4
  match q,h4 with
  | 0,_=>rfl
  | 1,_=>rfl
  | 2,_=>rfl
  | 3,_=>rfl
 obtain⟨v0,v1,v2,v3,v4,hw,q0,s0,q1,s1,q2,s2,q3,s3,q4,s4,hval⟩:=hP
 have hgL:∀n,((((w.alloc (.cells #[.int .u64 0,.int .u64 0,.int .u64 0,.int .u64 0,.int .u64 0] 240)).alloc (.cells (Iv .u32 [aF zs 0,aF zs 1,aF zs 2,aF zs 3,aF zs 4]) 248)).drewN n).setCell ⟨w.heap.size+1,m / 4,none⟩ (.int .u32 (bits .or .u32 (aF zs (m / 4)) (2^(8*(m%4)))))).heap[w.heap.size+1]? =some (.cells #[.int .u32 v0,.int .u32 v1,.int .u32 v2,.int .u32 v3,.int .u32 v4] 248):=by
  intro n
  rw[heap_setCell_same (hg:=by rw[World.heap_drewN,bO,if_pos (by simp)]),bN]
  have:([aF zs 0,aF zs 1,aF zs 2,aF zs 3,aF zs 4]).set (m / 4) (bits .or .u32 (aF zs (m / 4)) (2^(8*(m%4))))=[v0,v1,v2,v3,v4]:=by rw[←hw,cW,hm]
  rw[this]
  rfl
 have hbL:∀n v,Below (w.heap.size+1) (w.alloc (.cells #[.int .u64 0,.int .u64 0,.int .u64 0,.int .u64 0,.int .u64 0] 240)) ((((w.alloc (.cells #[.int .u64 0,.int .u64 0,.int .u64 0,.int .u64 0,.int .u64 0] 240)).alloc (.cells (Iv .u32 [aF zs 0,aF zs 1,aF zs 2,aF zs 3,aF zs 4]) 248)).drewN n).setCell ⟨w.heap.size+1,m / 4,none⟩ v):=fun n v=>
  (bDr ((Below.refl _ _).alloc (by simp) _) n).setCell (by simp) _
 have HB:Hid (∀n v,_):=hbL
 have HG:Hid (∀n,_):=hgL
 have HV:Hid (_=_):=hval
 have HM:Hid (zs.length=m):=hm
 clear hc hput hbL hgL hval hm hw
 go_wp2
 refine wRh 12 eN (by kernel_rfl) ?_
 simp only[tU,tJ,dJ,dY]
 repeat(go_big_quiet_step (fail))
 refine wqN ?_
 go_wp2_with(refine wpLr rfl 248 _ rfl _ rfl _ _ _ _ (HG.out _) underlying248 rfl acH ?_)
 refine(I0 _ _ _ _ _ _ q0 s0 q1 s1 q2 s2 q3 s3 q4 s4).mono ?_
 rintro e w1 ⟨r0,r1,r2,r3,r4,rfl,ll,lv,hb1⟩
 have hbW:=(HB.out _ _).trans (hb1.mono (by simp<;>omega))
 have hg:w1.heap[w.heap.size]? =some (.cells #[.int .u64 0,.int .u64 0,.int .u64 0,.int .u64 0,.int .u64 0] 240):=by
  rw[hbW.block _ (by omega)]
  simp only[bO]
  simp
 have hbb:Below w.heap.size w w1:=((Below.refl w.heap.size w).alloc (by simp) _).trans (hbW.mono (by omega))
 have HV2:Hid (V5 r0 r1 r2 r3 r4=aR zs+256^m):=by rw[←HM.out];exact lv.trans HV.out
 clear hb1 hbW lv
 go_wp2_with(refine wpList_store_row rfl 240 _ _ rfl _ _ rfl rfl _ _ hg m0 rfl (YD _ _ _ _ _ _) ?_)
 refine oT (cs:=#[.int .u64 r0,.int .u64 r1,.int .u64 r2,.int .u64 r3,.int .u64 r4]) results152 ?_ (setRow_heap _ _ _ _ _ _ hg) underlying240 m0 ?_
 ·rfl
 ·exact⟨_,_,_,_,_,rfl,ll,HV2.out,aM hbb _ (by omega) _⟩
set_option maxHeartbeats 4000000 in
theorem QZ (a0 a1 a2 a3 a4 b0 b1 b2 b3 b4:Int) (w:World) (h0:0≤a0) (g0:a0≤134217728) (k0:0≤b0) (l0:b0≤134217728) (h1:0≤a1) (g1:a1≤134217728) (k1:0≤b1) (l1:b1≤134217728) (h2:0≤a2) (g2:a2≤134217728) (k2:0≤b2) (l2:b2≤134217728) (h3:0≤a3) (g3:a3≤134217728) (k3:0≤b3) (l3:b3≤134217728) (h4:0≤a4) (g4:a4≤134217728) (k4:0≤b4) (l4:b4≤134217728):
 Calls prog 151 #[.agg #[.int .u64 a0,.int .u64 a1,.int .u64 a2,.int .u64 a3,.int .u64 a4],.agg #[.int .u64 b0,.int .u64 b1,.int .u64 b2,.int .u64 b3,.int .u64 b4]] w fun e w'=>e=.returned (.agg #[.int .u64 (a0+b0),.int .u64 (a1+b1),.int .u64 (a2+b2),.int .u64 (a3+b3),.int .u64 (a4+b4)])∧Below w.heap.size w w':=by
 go_enter func151,ntmps151
 go_wp2
 refine wp_loop_rounds 6 ?_
 rw[rdS];go_wp2;refine wRh 8 eN (by kernel_rfl) ?_;simp only[tU,tJ,dJ,dY];(repeat(go_big_quiet_step (fail)));refine wqN ?_;go_wp2
 rw[rdS];go_wp2;refine wRh 8 eN (by kernel_rfl) ?_;simp only[tU,tJ,dJ,dY];(repeat(go_big_quiet_step (fail)));refine wqN ?_;go_wp2
 rw[rdS];go_wp2;refine wRh 8 eN (by kernel_rfl) ?_;simp only[tU,tJ,dJ,dY];(repeat(go_big_quiet_step (fail)));refine wqN ?_;go_wp2
 rw[rdS];go_wp2;refine wRh 8 eN (by kernel_rfl) ?_;simp only[tU,tJ,dJ,dY];(repeat(go_big_quiet_step (fail)));refine wqN ?_;go_wp2
 rw[rdS];go_wp2;refine wRh 8 eN (by kernel_rfl) ?_;simp only[tU,tJ,dJ,dY];(repeat(go_big_quiet_step (fail)));refine wqN ?_;go_wp2
 rw[rdS];go_wp2
 refine bodyPost_ret (v:=.agg #[.int .u64 _,.int .u64 _,.int .u64 _,.int .u64 _,.int .u64 _]) (by simp[results,results151,go_sem]) rfl ⟨rfl,?_⟩
 exact bDr ((((Below.refl _ _).alloc (by simp) _).alloc (by simp) _).alloc (by simp;omega) _) 5
theorem cR (a b:Int) (h:0≤a) (g:a≤268435456) (k:0≤b) (l:b≤67108863):0≤a*b∧a*b≤18014398509481984:=by
 refine⟨Int.mul_nonneg h k,?_⟩
 have h1:a*b≤268435456*b:=Int.mul_le_mul_of_nonneg_right g k
 omega
theorem dL (a b:Int) (h:0≤a) (g:a≤268435456) (k:0≤b) (l:b≤67108863):0≤5*a*b∧5*a*b≤90071992547409920:=by
 refine⟨Int.mul_nonneg (by omega) k,?_⟩
 have h1:5*a*b≤1342177280*b:=Int.mul_le_mul_of_nonneg_right (by omega) k
 omega
set_option maxHeartbeats 20000000 in
theorem WC (a0 a1 a2 a3 a4 b0 b1 b2 b3 b4:Int) (w:World) (h0:0≤a0) (g0:a0≤268435456) (k0:0≤b0) (l0:b0≤67108863) (h1:0≤a1) (g1:a1≤268435456) (k1:0≤b1) (l1:b1≤67108863) (h2:0≤a2) (g2:a2≤268435456) (k2:0≤b2) (l2:b2≤67108863) (h3:0≤a3) (g3:a3≤268435456) (k3:0≤b3) (l3:b3≤67108863) (h4:0≤a4) (g4:a4≤268435456) (k4:0≤b4) (l4:b4≤67108863):
 Calls prog 153 #[.agg #[.int .u64 a0,.int .u64 a1,.int .u64 a2,.int .u64 a3,.int .u64 a4],.agg #[.int .u64 b0,.int .u64 b1,.int .u64 b2,.int .u64 b3,.int .u64 b4]] w fun e w'=>∃r0 r1 r2 r3 r4,e=.returned (.agg #[.int .u64 r0,.int .u64 r1,.int .u64 r2,.int .u64 r3,.int .u64 r4])∧Car (a0*b0+5*a1*b4+5*a2*b3+5*a3*b2+5*a4*b1) (a0*b1+a1*b0+5*a2*b4+5*a3*b3+5*a4*b2) (a0*b2+a1*b1+a2*b0+5*a3*b4+5*a4*b3) (a0*b3+a1*b2+a2*b1+a3*b0+5*a4*b4) (a0*b4+a1*b3+a2*b2+a3*b1+a4*b0) r0 r1 r2 r3 r4∧Below w.heap.size w w':=by
 obtain⟨u00,v00⟩:=cR a0 b0 h0 g0 k0 l0
 obtain⟨u01,v01⟩:=cR a0 b1 h0 g0 k1 l1
 obtain⟨u02,v02⟩:=cR a0 b2 h0 g0 k2 l2
 obtain⟨u03,v03⟩:=cR a0 b3 h0 g0 k3 l3
 obtain⟨u04,v04⟩:=cR a0 b4 h0 g0 k4 l4
 obtain⟨u10,v10⟩:=cR a1 b0 h1 g1 k0 l0
 obtain⟨u11,v11⟩:=cR a1 b1 h1 g1 k1 l1
 obtain⟨u12,v12⟩:=cR a1 b2 h1 g1 k2 l2
 obtain⟨u13,v13⟩:=cR a1 b3 h1 g1 k3 l3
 obtain⟨u14,v14⟩:=dL a1 b4 h1 g1 k4 l4
 obtain⟨u20,v20⟩:=cR a2 b0 h2 g2 k0 l0
 obtain⟨u21,v21⟩:=cR a2 b1 h2 g2 k1 l1
 obtain⟨u22,v22⟩:=cR a2 b2 h2 g2 k2 l2
 obtain⟨u23,v23⟩:=dL a2 b3 h2 g2 k3 l3
 obtain⟨u24,v24⟩:=dL a2 b4 h2 g2 k4 l4
 obtain⟨u30,v30⟩:=cR a3 b0 h3 g3 k0 l0
 obtain⟨u31,v31⟩:=cR a3 b1 h3 g3 k1 l1
 obtain⟨u32,v32⟩:=dL a3 b2 h3 g3 k2 l2
 obtain⟨u33,v33⟩:=dL a3 b3 h3 g3 k3 l3
 obtain⟨u34,v34⟩:=dL a3 b4 h3 g3 k4 l4
 obtain⟨u40,v40⟩:=cR a4 b0 h4 g4 k0 l0
 obtain⟨u41,v41⟩:=dL a4 b1 h4 g4 k1 l1
 obtain⟨u42,v42⟩:=dL a4 b2 h4 g4 k2 l2
 obtain⟨u43,v43⟩:=dL a4 b3 h4 g4 k3 l3
 obtain⟨u44,v44⟩:=dL a4 b4 h4 g4 k4 l4
 go_enter func153,ntmps153
 go_wp2
 refine wp_loop_rounds 6 ?_
 rw[rdS];go_wp2;refine wp_loop_rounds 6 ?_
 rw[rdS];go_wp2;refine wRh 14 eN (by kernel_rfl) ?_;simp only[tU,tJ,dJ,dY];(repeat(go_big_quiet_step (fail)));refine wqN ?_;go_wp2
 rw[rdS];go_wp2;refine wRh 14 eN (by kernel_rfl) ?_;simp only[tU,tJ,dJ,dY];(repeat(go_big_quiet_step (fail)));refine wqN ?_;go_wp2
 rw[rdS];go_wp2;refine wRh 14 eN (by kernel_rfl) ?_;simp only[tU,tJ,dJ,dY];(repeat(go_big_quiet_step (fail)));refine wqN ?_;go_wp2
 rw[rdS];go_wp2;refine wRh 14 eN (by kernel_rfl) ?_;simp only[tU,tJ,dJ,dY];(repeat(go_big_quiet_step (fail)));refine wqN ?_;go_wp2
 rw[rdS];go_wp2;refine wRh 14 eN (by kernel_rfl) ?_;simp only[tU,tJ,dJ,dY];(repeat(go_big_quiet_step (fail)));refine wqN ?_;go_wp2
 rw[rdS];go_wp2
 rw[rdS];go_wp2;refine wp_loop_rounds 6 ?_
 rw[rdS];go_wp2;refine wRh 14 eN (by kernel_rfl) ?_;simp only[tU,tJ,dJ,dY];(repeat(go_big_quiet_step (fail)));refine wqN ?_;go_wp2
 rw[rdS];go_wp2;refine wRh 14 eN (by kernel_rfl) ?_;simp only[tU,tJ,dJ,dY];(repeat(go_big_quiet_step (fail)));refine wqN ?_;go_wp2
 rw[rdS];go_wp2;refine wRh 14 eN (by kernel_rfl) ?_;simp only[tU,tJ,dJ,dY];(repeat(go_big_quiet_step (fail)));refine wqN ?_;go_wp2
 rw[rdS];go_wp2;refine wRh 14 eN (by kernel_rfl) ?_;simp only[tU,tJ,dJ,dY];(repeat(go_big_quiet_step (fail)));refine wqN ?_;go_wp2
 rw[rdS];go_wp2;refine wRh 16 eN (by kernel_rfl) ?_;simp only[tU,tJ,dJ,dY];(repeat(go_big_quiet_step (fail)));refine wqN ?_;go_wp2
 rw[rdS];go_wp2
 rw[rdS];go_wp2;refine wp_loop_rounds 6 ?_
 rw[rdS];go_wp2;refine wRh 14 eN (by kernel_rfl) ?_;simp only[tU,tJ,dJ,dY];(repeat(go_big_quiet_step (fail)));refine wqN ?_;go_wp2
 rw[rdS];go_wp2;refine wRh 14 eN (by kernel_rfl) ?_;simp only[tU,tJ,dJ,dY];(repeat(go_big_quiet_step (fail)));refine wqN ?_;go_wp2
 rw[rdS];go_wp2;refine wRh 14 eN (by kernel_rfl) ?_;simp only[tU,tJ,dJ,dY];(repeat(go_big_quiet_step (fail)));refine wqN ?_;go_wp2
 rw[rdS];go_wp2;refine wRh 16 eN (by kernel_rfl) ?_;simp only[tU,tJ,dJ,dY];(repeat(go_big_quiet_step (fail)));refine wqN ?_;go_wp2
 rw[rdS];go_wp2;refine wRh 16 eN (by kernel_rfl) ?_;simp only[tU,tJ,dJ,dY];(repeat(go_big_quiet_step (fail)));refine wqN ?_;go_wp2
 rw[rdS];go_wp2
 rw[rdS];go_wp2;refine wp_loop_rounds 6 ?_
 rw[rdS];go_wp2;refine wRh 14 eN (by kernel_rfl) ?_;simp only[tU,tJ,dJ,dY];(repeat(go_big_quiet_step (fail)));refine wqN ?_;go_wp2
 rw[rdS];go_wp2;refine wRh 14 eN (by kernel_rfl) ?_;simp only[tU,tJ,dJ,dY];(repeat(go_big_quiet_step (fail)));refine wqN ?_;go_wp2
 rw[rdS];go_wp2;refine wRh 16 eN (by kernel_rfl) ?_;simp only[tU,tJ,dJ,dY];(repeat(go_big_quiet_step (fail)));refine wqN ?_;go_wp2
 rw[rdS];go_wp2;refine wRh 16 eN (by kernel_rfl) ?_;simp only[tU,tJ,dJ,dY];(repeat(go_big_quiet_step (fail)));refine wqN ?_;go_wp2
 rw[rdS];go_wp2;refine wRh 16 eN (by kernel_rfl) ?_;simp only[tU,tJ,dJ,dY];(repeat(go_big_quiet_step (fail)));refine wqN ?_;go_wp2
 rw[rdS];go_wp2
 rw[rdS];go_wp2;refine wp_loop_rounds 6 ?_
 rw[rdS];go_wp2;refine wRh 14 eN (by kernel_rfl) ?_;simp only[tU,tJ,dJ,dY];(repeat(go_big_quiet_step (fail)));refine wqN ?_;go_wp2
 rw[rdS];go_wp2;refine wRh 16 eN (by kernel_rfl) ?_;simp only[tU,tJ,dJ,dY];(repeat(go_big_quiet_step (fail)));refine wqN ?_;go_wp2
 rw[rdS];go_wp2;refine wRh 16 eN (by kernel_rfl) ?_;simp only[tU,tJ,dJ,dY];(repeat(go_big_quiet_step (fail)));refine wqN ?_;go_wp2
 rw[rdS];go_wp2;refine wRh 16 eN (by kernel_rfl) ?_;simp only[tU,tJ,dJ,dY];(repeat(go_big_quiet_step (fail)));refine wqN ?_;go_wp2
 rw[rdS];go_wp2;refine wRh 16 eN (by kernel_rfl) ?_;simp only[tU,tJ,dJ,dY];(repeat(go_big_quiet_step (fail)));refine wqN ?_;go_wp2
 rw[rdS];go_wp2
 rw[rdS];go_wp2_with fail
 refine(AQ _ _ _ _ _ _ (by omega) (by omega) (by omega) (by omega) (by omega) (by omega) (by omega) (by omega) (by omega) (by omega)).mono ?_
 rintro e w1 ⟨r0,r1,r2,r3,r4,rfl,hcar,hb⟩
 have hg:w1.heap[w.heap.size+1+1]? =some (.cells #[.int .u64 0,.int .u64 0,.int .u64 0,.int .u64 0,.int .u64 0] 240):=by
  rw[hb.block _ (by simp<;>omega)]
  simp only[heap_drew,bO,wU]
  simp
 have hbb:Below w.heap.size w w1:=(bDr (((((Below.refl w.heap.size w).alloc (by simp) _).alloc (by simp) _).alloc (by simp;omega) _).alloc (by simp;omega) _) 25).trans (hb.mono (by simp;omega))
 clear hb
 go_wp2_with(refine wpList_store_row rfl 240 _ _ rfl _ #[.int .u64 r0,.int .u64 r1,.int .u64 r2,.int .u64 r3,.int .u64 r4] rfl rfl _ _ hg m0 rfl (YD _ _ _ _ _ _) ?_)
 refine oT (cs:=#[.int .u64 r0,.int .u64 r1,.int .u64 r2,.int .u64 r3,.int .u64 r4]) results153 ?_ (setRow_heap _ _ _ _ _ _ hg) underlying240 m0 ?_
 ·rfl
 ·exact⟨r0,r1,r2,r3,r4,rfl,hcar,aM hbb _ (by omega) _⟩
set_option maxHeartbeats 4000000 in
theorem N5 (a0 a1 a2 a3 a4:Int) (w:World) (h0:0≤a0) (g0:a0≤67108863) (h1:0≤a1) (g1:a1≤67109888) (h2:0≤a2) (g2:a2≤67108863) (h3:0≤a3) (g3:a3≤67108863) (h4:0≤a4) (g4:a4≤67108863):
 Calls prog 154 #[.agg #[.int .u64 a0,.int .u64 a1,.int .u64 a2,.int .u64 a3,.int .u64 a4]] w fun e w'=>∃r0 r1 r2 r3 r4,e=.returned (.agg #[.int .u64 r0,.int .u64 r1,.int .u64 r2,.int .u64 r3,.int .u64 r4])∧oL r0 r1 r2 r3 r4∧(∃q,V5 r0 r1 r2 r3 r4=V5 a0 a1 a2 a3 a4 - gS*q)∧V5 r0 r1 r2 r3 r4<gS∧Below w.heap.size w w':=by
 go_enter func154,ntmps154
 go_wp2_with fail
 refine(AQ _ _ _ _ _ _ (by omega) (by omega) (by omega) (by omega) (by omega) (by omega) (by omega) (by omega) (by omega) (by omega)).mono ?_
 rintro e w1 ⟨r0,r1,r2,r3,r4,rfl,hcar,hb⟩
 obtain⟨p0,q0,p1,q1,p2,q2,p3,q3,p4,q4⟩:=TH hcar h0 g0 h1 g1 h2 g2 h3 g3 h4 g4
 have hg:w1.heap[w.heap.size]? =some (.cells #[.int .u64 a0,.int .u64 a1,.int .u64 a2,.int .u64 a3,.int .u64 a4] 240):=by
  rw[hb.block _ (by simp<;>omega)]
  simp only[bO,wU]
  simp
 have hg1:w1.heap[w.heap.size+1]? =some (.cells #[.int .u64 0,.int .u64 0,.int .u64 0,.int .u64 0,.int .u64 0] 240):=by
  rw[hb.block _ (by simp<;>omega)]
  simp only[bO,wU]
  simp
 have hb0:Below w.heap.size w w1:=((((Below.refl w.heap.size w).alloc (by simp) _).alloc (by simp) _)).trans (hb.mono (by simp<;>omega))
 have hsz:w.heap.size+2≤w1.heap.size:=by have:=hb.size;simpa using this
 clear hb
 go_wp2_with(first|refine wpList_store_row rfl 240 _ _ rfl _ #[.int .u64 r0,.int .u64 r1,.int .u64 r2,.int .u64 r3,.int .u64 r4] rfl rfl _ _ hg m0 rfl (YD _ _ _ _ _ _) ?_ |refine wpLr rfl 240 _ rfl _ rfl _ _ _ _ (setRow_heap _ _ _ _ _ _ hg) underlying240 rfl m0 ?_)
 refine wp_loop_rounds 6 ?_
 iterate 5 (rw[rdS];go_wp2)
 have hz1:∀o,((w1.setRow w.heap.size #[.int .u64 r0,.int .u64 r1,.int .u64 r2,.int .u64 r3,.int .u64 r4]).alloc o).heap[w.heap.size+1]? =some (.cells #[.int .u64 0,.int .u64 0,.int .u64 0,.int .u64 0,.int .u64 0] 240):=by
  intro o
  rw[bO,if_neg (by simp<;>omega),cG _ _ _ _ (by omega)]
  exact hg1
 have hz0:∀o,((w1.setRow w.heap.size #[.int .u64 r0,.int .u64 r1,.int .u64 r2,.int .u64 r3,.int .u64 r4]).alloc o).heap[w.heap.size]? =some (.cells #[.int .u64 r0,.int .u64 r1,.int .u64 r2,.int .u64 r3,.int .u64 r4] 240):=by
  intro o
  rw[bO,if_neg (by simp<;>omega)]
  exact setRow_heap _ _ _ _ _ _ hg
 have hbo:∀o cs,Below w.heap.size w (((w1.setRow w.heap.size #[.int .u64 r0,.int .u64 r1,.int .u64 r2,.int .u64 r3,.int .u64 r4]).alloc o).setRow (w.heap.size+1) cs):=fun o cs=>
  aM ((aM hb0 _ (nQ _) _).alloc (by simp<;>omega) o) _ (by omega) cs
 have hn:=QF r0 r1 r2 r3 r4 p0 q0 p1 q1 p2 q2 p3 q3 p4 q4 _ rfl
 have HN:Hid (_∧_):=hn
 have HB:Hid (∀o cs,_):=hbo
 have HV:Hid (∃q,_):=IM hcar
 clear hn hbo hcar
 rw[rdS]
 go_wp2_with(first|refine wpLr rfl 240 _ rfl w.heap.size rfl _ _ _ _ (hz0 _) underlying240 rfl m0 ?_ |refine wpList_store_row rfl 240 _ _ rfl (w.heap.size+1) _ rfl rfl _ _ (hz1 _) m0 rfl (YD _ _ _ _ _ _) ?_)
 ·have hpos:0<(r4+(r3+(r2+(r1+(r0+5) / 67108864) / 67108864) / 67108864) / 67108864) / 67108864:=by assumption
  obtain⟨q,hq⟩:=HV.out
  obtain⟨v1,v2⟩:=HN.out.1 hpos
  have v3:=HN.out.2.2.1
  refine oT (cs:=#[.int .u64 _,.int .u64 _,.int .u64 _,.int .u64 _,.int .u64 _]) results154 ?_ (setRow_heap _ _ _ _ _ _ (hz1 _)) underlying240 m0 ?_
  ·rfl
  ·refine⟨_,_,_,_,_,rfl,?_,⟨q+1,by rw[v1,hq];unfold gS;omega⟩,by rw[v1];unfold gS at*;omega,HB.out _ _⟩
   rw[lA _ (by omega) (by omega),lA _ (by omega) (by omega),lA _ (by omega) (by omega),lA _ (by omega) (by omega),lA _ (by omega) (by omega)]
   unfold oL
   omega
 ·have hneg:¬0<(r4+(r3+(r2+(r1+(r0+5) / 67108864) / 67108864) / 67108864) / 67108864) / 67108864:=by first|assumption|omega
  obtain⟨q,hq⟩:=HV.out
  refine oT (cs:=#[.int .u64 _,.int .u64 _,.int .u64 _,.int .u64 _,.int .u64 _]) results154 ?_ (setRow_heap _ _ _ _ _ _ (hz1 _)) underlying240 m0 ?_
  ·rfl
  ·exact⟨_,_,_,_,_,rfl,⟨p0,q0,p1,q1,p2,q2,p3,q3,p4,q4⟩,⟨q,hq⟩,HN.out.2.1 (by omega),HB.out _ _⟩
theorem II (x y c:Int) (hx:0≤x) (hy:0≤y) (hc0:0≤c) (hc:c≤1) (w:World):
 (callFunc 147 #[.int .u64 x,.int .u64 y,.int .u64 c]).run prog w=.ok (.value (.tuple #[.int .u64 ((x+y+c)%18446744073709551616),.int .u64 ((x+y+c) / 18446744073709551616)])) w:=by
 rw[run_callFunc_extern func147 (by kernel_rfl) (by kernel_rfl) (by kernel_rfl) (e:=add64Entry) (by kernel_rfl),run_add64 x y c hx hy hc0 hc]
 rfl
def DL (a0 a1 a2 a3 a4:Int):Prop:=0≤a0∧a0≤67108863∧0≤a1∧a1≤67109888∧0≤a2∧a2≤67108863∧0≤a3∧a3≤67108863∧0≤a4∧a4≤67108863
theorem JS (a0 a1 a2 a3 a4 b0 b1 b2 b3 b4:Int) (w:World) (h0:0≤a0) (g0:a0≤268435456) (k0:0≤b0) (l0:b0≤67108863) (h1:0≤a1) (g1:a1≤268435456) (k1:0≤b1) (l1:b1≤67108863) (h2:0≤a2) (g2:a2≤268435456) (k2:0≤b2) (l2:b2≤67108863) (h3:0≤a3) (g3:a3≤268435456) (k3:0≤b3) (l3:b3≤67108863) (h4:0≤a4) (g4:a4≤268435456) (k4:0≤b4) (l4:b4≤67108863):
 Calls prog 153 #[.agg #[.int .u64 a0,.int .u64 a1,.int .u64 a2,.int .u64 a3,.int .u64 a4],.agg #[.int .u64 b0,.int .u64 b1,.int .u64 b2,.int .u64 b3,.int .u64 b4]] w fun e w'=>∃r0 r1 r2 r3 r4,e=.returned (.agg #[.int .u64 r0,.int .u64 r1,.int .u64 r2,.int .u64 r3,.int .u64 r4])∧DL r0 r1 r2 r3 r4∧(∃q,V5 r0 r1 r2 r3 r4=V5 a0 a1 a2 a3 a4*V5 b0 b1 b2 b3 b4 - gS*q)∧Below w.heap.size w w':=by
 refine(WC a0 a1 a2 a3 a4 b0 b1 b2 b3 b4 w h0 g0 k0 l0 h1 g1 k1 l1 h2 g2 k2 l2 h3 g3 k3 l3 h4 g4 k4 l4).mono ?_
 rintro e w' ⟨r0,r1,r2,r3,r4,rfl,hcar,hb⟩
 obtain⟨q,hq⟩:=IM hcar
 have hin:=ab2 hcar
 refine⟨r0,r1,r2,r3,r4,rfl,?_,?_,hb⟩
 ·unfold DL
  obtain⟨u00,v00⟩:=cR a0 b0 h0 g0 k0 l0
  obtain⟨u01,v01⟩:=cR a0 b1 h0 g0 k1 l1
  obtain⟨u02,v02⟩:=cR a0 b2 h0 g0 k2 l2
  obtain⟨u03,v03⟩:=cR a0 b3 h0 g0 k3 l3
  obtain⟨u04,v04⟩:=cR a0 b4 h0 g0 k4 l4
  obtain⟨u10,v10⟩:=cR a1 b0 h1 g1 k0 l0
  obtain⟨u11,v11⟩:=cR a1 b1 h1 g1 k1 l1
  obtain⟨u12,v12⟩:=cR a1 b2 h1 g1 k2 l2
  obtain⟨u13,v13⟩:=cR a1 b3 h1 g1 k3 l3
  obtain⟨u14,v14⟩:=dL a1 b4 h1 g1 k4 l4
  obtain⟨u20,v20⟩:=cR a2 b0 h2 g2 k0 l0
  obtain⟨u21,v21⟩:=cR a2 b1 h2 g2 k1 l1
  obtain⟨u22,v22⟩:=cR a2 b2 h2 g2 k2 l2
  obtain⟨u23,v23⟩:=dL a2 b3 h2 g2 k3 l3
  obtain⟨u24,v24⟩:=dL a2 b4 h2 g2 k4 l4
  obtain⟨u30,v30⟩:=cR a3 b0 h3 g3 k0 l0
  obtain⟨u31,v31⟩:=cR a3 b1 h3 g3 k1 l1
  obtain⟨u32,v32⟩:=dL a3 b2 h3 g3 k2 l2
  obtain⟨u33,v33⟩:=dL a3 b3 h3 g3 k3 l3
  obtain⟨u34,v34⟩:=dL a3 b4 h3 g3 k4 l4
  obtain⟨u40,v40⟩:=cR a4 b0 h4 g4 k0 l0
  obtain⟨u41,v41⟩:=dL a4 b1 h4 g4 k1 l1
  obtain⟨u42,v42⟩:=dL a4 b2 h4 g4 k2 l2
  obtain⟨u43,v43⟩:=dL a4 b3 h4 g4 k3 l3
  obtain⟨u44,v44⟩:=dL a4 b4 h4 g4 k4 l4
  exact hin (by omega) (by omega) (by omega) (by omega) (by omega) (by omega) (by omega) (by omega) (by omega) (by omega)
 ·rw[OE,Int.sub_sub,←Int.mul_add]at hq
  exact⟨_,hq⟩
def ad4 (key zs:List Int) (m b:Nat) (w1:World) (r0 r1 r2 r3 r4:Int) (v:Value) (wr:World):Prop:=
 ∃(k o' m' c':Nat) (a0 a1 a2 a3 a4:Int),v=.slice (some ⟨b,o',none⟩) m' c'∧m'=m - 16*k∧m'≤c'∧c'≤9223372036854775807∧16*k<m+16∧
  DL a0 a1 a2 a3 a4∧(∃q,V5 a0 a1 a2 a3 a4=iS (kR key) zs k+gS*q)∧Below w1.heap.size w1 wr∧(∀i,i<m'→wr.cell? ⟨b,o'+i,none⟩=some (.int .u8 (zs.getD (16*k+i) 0)))∧
  wr.heap[w1.heap.size]? =some (.cells #[.int .u64 r0,.int .u64 r1,.int .u64 r2,.int .u64 r3,.int .u64 r4] 240)∧wr.heap[w1.heap.size+1]? =some (.cells #[.int .u64 a0,.int .u64 a1,.int .u64 a2,.int .u64 a3,.int .u64 a4] 240)
theorem IF {key zs:List Int} {m b:Nat} {w1:World} {r0 r1 r2 r3 r4:Int} {wr:World} {k o' m' c':Nat} {a0 a1 a2 a3 a4:Int} (hm':m'=m - 16*k) (hc1:m'≤c') (hc2:c'≤9223372036854775807) (hk16:16*k<m+16)
 (hval:∃q,V5 a0 a1 a2 a3 a4=iS (kR key) zs k+gS*q) (hbr:Below w1.heap.size w1 wr) (hcell:∀i,i<m'→wr.cell? ⟨b,o'+i,none⟩=some (.int .u8 (zs.getD (16*k+i) 0)))
 (hgr:wr.heap[w1.heap.size]? =some (.cells #[.int .u64 r0,.int .u64 r1,.int .u64 r2,.int .u64 r3,.int .u64 r4] 240)) (hga:wr.heap[w1.heap.size+1]? =some (.cells #[.int .u64 a0,.int .u64 a1,.int .u64 a2,.int .u64 a3,.int .u64 a4] 240))
 (n L:Nat) (hn:n=m'∧m'≤16∨n=16∧16≤m') (hpos:0<m') (hL:L=m' - n) (hlen:((zs.drop (16*k)).take 16).length=n) (hb:b<w1.heap.size) {w4:World} (hb4:Below wr.heap.size wr w4) {q0 q1 q2 q3 q4 s0 s1 s2 s3 s4:Int}
 (vq:V5 q0 q1 q2 q3 q4=aR ((zs.drop (16*k)).take 16)+256^n) (vr:V5 r0 r1 r2 r3 r4=kR key) (hs:DL s0 s1 s2 s3 s4) (hsv:∃q,V5 s0 s1 s2 s3 s4=(V5 a0 a1 a2 a3 a4+V5 q0 q1 q2 q3 q4)*V5 r0 r1 r2 r3 r4 - gS*q):
 ad4 key zs m b w1 r0 r1 r2 r3 r4 (.slice (if c'=n then some ⟨b,o',none⟩else some ⟨b,o'+n,none⟩) L (c' - n))
  (((((w4.setCell ⟨w1.heap.size+1,0,none⟩ (.int .u64 s0)).setCell ⟨w1.heap.size+1,1,none⟩ (.int .u64 s1)).setCell ⟨w1.heap.size+1,2,none⟩ (.int .u64 s2)).setCell ⟨w1.heap.size+1,3,none⟩ (.int .u64 s3)).setCell ⟨w1.heap.size+1,4,none⟩ (.int .u64 s4)):=by
 have hlt:=(Array.getElem?_eq_some_iff.1 hga).1
 have hga4:=(hb4.block (w1.heap.size+1) hlt).trans hga
 have hgr4:=(hb4.block w1.heap.size (by omega)).trans hgr
 rw[agL hga4]
 obtain⟨qa,hqa⟩:=hval
 obtain⟨q,hq⟩:=hsv
 have hstep:∃t,V5 s0 s1 s2 s3 s4=iS (kR key) zs (k+1)+gS*t:=by
  have:=WM (iS (kR key) zs k) (aR ((zs.drop (16*k)).take 16)+256^n) (kR key) qa q (V5 s0 s1 s2 s3 s4) (by rw[hq,hqa,vq,vr])
  rw[show iS (kR key) zs (k+1)=(iS (kR key) zs k+(aR ((zs.drop (16*k)).take 16)+256^n))*kR key%gS by rw[←hlen];rfl]
  exact this
 have hcells:∀i,i<L→(w4.setRow (w1.heap.size+1) #[.int .u64 s0,.int .u64 s1,.int .u64 s2,.int .u64 s3,.int .u64 s4]).cell? ⟨b,o'+n+i,none⟩=some (.int .u8 (zs.getD (16*(k+1)+i) 0)):=by
  intro i hi
  rw[aZ _ _ _ _ (by show b≠_;omega),hb4.cell (p:=⟨b,o'+n+i,none⟩) (by show b<_;omega)]
  have:=hcell (n+i) (by omega)
  rw[Nat.add_assoc,this]
  rcases hn with ⟨h1,h2⟩|⟨h1,h2⟩
  ·omega
  ·subst h1
   rw[show 16*(k+1)+i=16*k+(16+i) by omega]
 have hbel:Below w1.heap.size w1 (w4.setRow (w1.heap.size+1) #[.int .u64 s0,.int .u64 s1,.int .u64 s2,.int .u64 s3,.int .u64 s4]):=
  aM (hbr.trans (hb4.mono hbr.size)) _ (by omega) _
 have hr5:(w4.setRow (w1.heap.size+1) #[.int .u64 s0,.int .u64 s1,.int .u64 s2,.int .u64 s3,.int .u64 s4]).heap[w1.heap.size]? =some (.cells #[.int .u64 r0,.int .u64 r1,.int .u64 r2,.int .u64 r3,.int .u64 r4] 240):=by
  rw[cG _ _ _ _ (by omega)]
  exact hgr4
 by_cases hcn:c'=n
 ·rw[if_pos hcn]
  exact⟨k+1,o',L,c' - n,s0,s1,s2,s3,s4,rfl,by omega,by omega,by omega,by omega,hs,hstep,hbel,fun i hi=>by omega,hr5,setRow_heap _ _ _ _ _ _ hga4⟩
 ·rw[if_neg hcn]
  exact⟨k+1,o'+n,L,c' - n,s0,s1,s2,s3,s4,rfl,by omega,by omega,by omega,by omega,hs,hstep,hbel,hcells,hr5,setRow_heap _ _ _ _ _ _ hga4⟩
end Go.Proofs.YtgcepckaolkeoaaGreatDoor
