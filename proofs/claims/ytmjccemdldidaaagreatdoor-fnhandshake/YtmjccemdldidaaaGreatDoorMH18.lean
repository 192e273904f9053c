import Derived.Test.YtmjccemdldidaaaGreatDoorMH17
import Derived.Laws.AppendOwn
import Derived.Great.BuildSlice
namespace Go.Proofs.YtmjccemdldidaaaGreatDoor
open Go.RowKit
open Go.Proofs.Tryz
open Go renaming heap_alloc_new → hAN, heap_alloc_old → hAO, wpList_load_row → wpLr
open Go.World renaming block_lt_of_cell? → wJ
open List renaming length_map → lU, nil_append → nA
open Nat renaming le_refl → nQ, lt_of_lt_of_le → nJ
set_option linter.unusedVariables false
set_option maxHeartbeats 2000000
set_option maxRecDepth 10000
def cZ (w:World) (B:Nat) (o:Value) (xs:LI) (k:Nat):Prop:=
 (k=0∧xs=[]∧∃g,o=.slice (some ⟨g,0,none⟩) 0 0)∨(1≤k∧w.ownsRow B 25 32 o k (xs.map (Value.int .u8)))
theorem cZ.later {w w':World} {B:Nat} {o:Value} {xs:LI} {k:Nat} (h:cZ w B o xs k) (hb:Below w.heap.size w w'):cZ w' B o xs k:=by
 rcases h with h|⟨h0,h1,h2⟩
 ·exact .inl h
 ·refine .inr ⟨h0,h1,h2.imp id ?_⟩
  rintro⟨g,cap,cur,e1,e2,e3,e4⟩
  exact⟨g,cap,cur,e1,e2,(hb.block g (Array.getElem?_eq_some_iff.1 e3).1).trans e3,e4⟩
theorem cZ.lt {w:World} {B:Nat} {o:Value} {xs:LI} {k:Nat} (h:cZ w B o xs k) (hk:1≤k) {g:Nat} (e:some g=o.ownBlock):g<w.heap.size:=by
 rcases h with ⟨h,_⟩|⟨_,h⟩
 ·omega
 ·exact(h.lt g e.symm).2
theorem jT {P:Program} {ops:Array Oper} {rest:List Oper} {o:Oper} {a:Act} {w:World} {Q:Exit→Act→World→Prop} (hgd:o.guard=none) (s x:Operand) (t:TypeId)
 (ho:o.op=.call { callee:=.builtin .append,args:=#[s,x],argTypes:=#[t,t] }) (v u:Value) (hs:a.eval s=v) (hx:a.eval x=u) (v':Value) (w':World)
 (hr:(Builtin.append_ #[t,t] o.type #[v,u]).run P w=.ok v' w') (h:wpList P ops Q rest (a.put o.dst v') w'):wpList P ops Q (o::rest) a w:=
 wpList_plain hgd fun _ hK=>by
  unfold Oper.wp execOp
  simp only[ho,resolve,invoke,builtin,Sem.run_bind,Sem.run_pure,Result.andThen_ok,List.map_toArray,List.map_cons,List.map_nil,hs,hx,hr]
  exact hK _ _ h
theorem zP {w:World} {B:Nat} {o:Value} {xs:LI} {k:Nat} (h:cZ w B o xs k) (hB:B≤w.heap.size) (hk:k≤10) (gt:Nat) (t:LI) (ht:t.length=32) (hrow:w.heap[gt]? =some (.cells (Iv .u8 t) 25)) (c:Nat) (ty:TypeId):
 ∃v' w',(Builtin.append_ #[42,42] ty #[o,.slice (some ⟨gt,0,none⟩) 1 c]).run prog w=.ok v' w'∧cZ w' B v' (xs++t) (k+1)∧Below B w w'∧∀j,j<w.heap.size→(1≤k→some j≠o.ownBlock)→w'.heap[j]? =w.heap[j]? :=by
 obtain⟨i,hi⟩:=info_of_underlying underlying25
 have h2:(prog.info? 25).map (fun i=>(i.zero,i.size,i.bytes))=some (some (.agg (Iv .u8 (aA 32))),32,32):=by kernel_rfl
 rw[hi]at h2
 simp only[Option.map_some,Option.some.injEq,Prod.mk.injEq]at h2
 obtain⟨hz,hsz,hby⟩:=h2
 have hzc:(Value.agg (Iv .u8 (aA 32))).cells.size=32:=by show(Iv .u8 (aA 32)).size=32;rw[aD];rfl
 have hnews:∀j u,(t.map (Value.int .u8))[j]? =some u→w.cell? ((⟨gt,0,none⟩:Addr).add j)=some u:=fun j u hu=>by
  have hj:j<t.length:=by simpa using(List.getElem?_eq_some_iff.1 hu).1
  have e:=aE.cell (show aE w gt .u8 t _ from hrow) j hj
  have e2:(⟨gt,0,none⟩:Addr).add j=⟨gt,j,none⟩:=by unfold Addr.add;split<;>simp_all
  rw[e2,e,←hu]
  simp[List.getD_eq_getElem?_getD,hj]
 rcases h with ⟨rfl,rfl,g,rfl⟩|⟨hk1,hown⟩
 ·have hr:=run_append_grow (P:=prog) w 42 ty 25 i _ underlying42 hi hz ⟨g,0,none⟩ 0 0 [] (by simp) (fun j v hv=>by simp at hv) ⟨gt,0,none⟩ 1 c (t.map (Value.int .u8)) (by rw[lU,ht,hsz]) hnews (by decide) (by decide) (by rw[hby];decide)
  refine⟨_,_,hr,.inr ⟨by decide,by simp[ht],.inr ⟨w.heap.size,_,_,rfl,hB,hAN w.drew _,grownCap_ge _ _ _ _,grownCap_le_maxLen _ _ _ _ (by decide),?_,?_⟩⟩,⟨rfl,rfl,rfl,by simp,fun k hk=>hAO w.drew _ (nJ hk hB)⟩,fun j hj _=>hAO w.drew _ hj⟩
  ·simp only[Array.size_append,List.size_toArray,size_zeroCells,hzc,lU,ht,List.length_nil]
   have:=grownCap_ge w (0+1) 0 25
   omega
  ·simp only[Array.toList_append,nA]
   have e:(0+1)*32=(t.map (Value.int .u8)).length:=by rw[lU,ht]
   rw[e]
   exact List.take_left
 ·obtain⟨v',w',hr,ho,hg,_⟩:=run_append_own (P:=prog) w B 42 ty 25 i _ 32 32 underlying42 hi hz hsz hby hzc (by decide) o k _ hown ⟨gt,0,none⟩ 1 c (t.map (Value.int .u8)) (by rw[lU,ht]) hnews (by simp[Value.oneCell']) (by unfold maxLen;omega) (by omega) hB
  refine⟨v',w',hr,.inr ⟨by omega,by rw[List.map_append];exact ho⟩,⟨hg.os,hg.tape,hg.output,hg.size,fun j hj=>hg.block j (nJ hj hB) ?_⟩,fun j hj hne=>hg.block j hj (hne hk1)⟩
  intro e
  have:=hown.lt j e.symm
  omega
theorem ag3 (t:LI) (ht:t.length=32):Instr.fill (fun i=>some (i*32,32)) ((Array.range (1*32)).map ((Value.agg (Iv .u8 (aA 32))).cells[· %(Value.agg (Iv .u8 (aA 32))).cells.size]!)) [(0,.agg (Iv .u8 t))]=some (Iv .u8 t):=by
 match t,ht with
 | [a0,a1,a2,a3,a4,a5,a6,a7,a8,a9,a10,a11,a12,a13,a14,a15,a16,a17,a18,a19,a20,a21,a22,a23,a24,a25,a26,a27,a28,a29,a30,a31],_=>
   show Instr.fill _ _ _=some _
   kernel_rfl
theorem rP {ops:Array Oper} {rest:List Oper} {o:Oper} {a:Act} {w:World} {Q:Exit→Act→World→Prop} (hg:o.guard=none) (x:Operand) (ho:o.op=.buildSlice 42 1 #[(0,x)]) (t:LI) (ht:t.length=32) (hx:a.eval x=.agg (Iv .u8 t))
 (h:wpList prog ops Q rest (a.put o.dst (.slice (some ⟨w.heap.size,0,none⟩) 1 1)) (w.alloc (.cells (Iv .u8 t) 25))):wpList prog ops Q (o::rest) a w:=by
 obtain⟨i,hi⟩:=info_of_underlying underlying25
 have h2:(prog.info? 25).map (fun i=>(i.zero,i.size,i.bytes))=some (some (.agg (Iv .u8 (aA 32))),32,32):=by kernel_rfl
 rw[hi]at h2
 simp only[Option.map_some,Option.some.injEq,Prod.mk.injEq]at h2
 obtain⟨hz,hsz,hby⟩:=h2
 refine wpList_buildSlice hg 42 25 1 #[(0,x)] ho (Iv .u8 t) i _ underlying42 hi hz (by rw[hsz];decide) (by rw[hsz];decide) ?_ h
 rw[hsz]
 simp only[List.map_toArray,List.map_cons,List.map_nil,hx]
 exact ag3 t ht
def NL (R:LI):Nat→LI
 | 0=>[]
 | k+1=>fF R k
theorem YS (R:LI) (k:Nat):fJ R (NL R k++[(k:Int)+1])=fF R k:=by
 cases k with
 | zero=>rfl
 | succ k=>
   have e:((k+1:Nat):Int)+1=(k:Int)+2:=by omega
   rw[e]
   rfl
theorem PJ (R:LI) (k:Nat):(NL R k).length≤32:=by
 cases k with
 | zero=>exact Nat.zero_le _
 | succ k=>exact Nat.le_of_eq (aY R k)
theorem TK (R:LI) (k:Nat):aC (NL R k):=by
 cases k with
 | zero=>intro i;simp[NL]
 | succ k=>exact fM R k
theorem yV (K D:LI) (kl dl:Nat) (hk64:¬64<kl) (hK:K.length=kl) (hKb:aC K) (hkl:kl≤5000000) (kb ko kcap db dO dcap:Nat) (w:World) (hkc:∀j,j<kl→w.cell? ⟨kb,ko+j,none⟩=some (.int .u8 (K.getD j 0))) (hD:D.length=dl) (hdl:dl≤5000000) (hDb:aC D) (hdb:db<w.heap.size) (hDr:∀j,j<dl→w.cell? ⟨db,dO+j,none⟩=some (.int .u8 (D.getD j 0))) (n:Nat) (hn1:1≤n) (hn2:n≤3) (R:LI) (HR:Hid (∀x,fJ K D=x→x=R)):
 Calls prog 28 #[.int .i64 n,.slice (some ⟨kb,ko,none⟩) kl kcap,.slice (some ⟨db,dO,none⟩) dl dcap] w fun e w'=>∃o B,e=.returned o∧w.heap.size≤B∧cZ w' B o (zK R n) n∧Below w.heap.size w w':=by
 have hzb:=dM
 have HKC:Hid _:=hkc
 have HDR:Hid _:=hDr
 clear hkc hDr
 have h1:((n:Int)<1)=False:=by simp;omega
 have h2:(3<(n:Int))=False:=by simp;omega
 have hRl:R.length=32:=by rw[←HR.out _ rfl];exact nH _ _
 have hRb:aC R:=by rw[←HR.out _ rfl];exact cC _
 have hi32:Hid (∀X:LI,X.length=32→(prog.info? 25).map (·.size)=some (Iv .u8 X).size):=fun X hX=>by rw[aD,hX];exact iD
 have hz32:Hid (∀X:LI,X.length=32→(Iv .u8 (aA 32)).size=(Iv .u8 X).size):=fun X hX=>by rw[aD,aD,hX];rfl
 go_enter func28,ntmps28
 go_wp2_with fail
 obtain⟨W,hW⟩:∃X,X=w.alloc (.cells #[] 25):=⟨_,rfl⟩
 have HB:Hid (Below w.heap.size w W):=by show Below _ _ _;rw[hW];exact(Below.refl _ _).alloc (nQ _) _
 have hsW:W.heap.size=w.heap.size+1:=by rw[hW];simp
 rw[←hW]
 clear hW
 refine(wY K D kl dl hk64 hK hKb hkl kb ko kcap db dO dcap W (fun j hj=>(HB.out.cell (p:=⟨kb,ko+j,none⟩) (wJ _ _ (HKC.out j hj))).trans (HKC.out j hj)) hD hdl hDb (by omega) (fun j hj=>(HB.out.cell (p:=⟨db,dO+j,none⟩) (wJ _ _ (HDR.out j hj))).trans (HDR.out j hj)) R HR).mono ?_
 rintro e w1 ⟨rfl,hb1⟩
 have B1:Hid _:=HB.out.trans (hb1.mono HB.out.size)
 have HN1:Hid ((w1.alloc (.cells (Iv .u8 (aA 32)) 25)).heap[w1.heap.size]? =some (.cells (Iv .u8 (aA 32)) 25)):=hAN _ _
 clear hb1 HB HKC HDR
 go_wp2_with(refine wpPr rfl 25 _ _ rfl w1.heap.size (Iv .u8 R) rfl rfl _ _ HN1.out (hi32.out R hRl) (hz32.out R hRl) (aG _ _) ?_)
 intro w2 hP2
 have B2:Hid _:=hP2.below _ _ (B1.out.alloc B1.out.size _) B1.out.size
 have A1:Hid (w2.heap[w1.heap.size]? =some (.cells (Iv .u8 R) 25)):=hP2.here
 have hs2:w1.heap.size<w2.heap.size:=by rw[hP2.size];simp
 have hg1:=B1.out.size
 obtain⟨gr,hgr⟩:∃x,x=w1.heap.size:=⟨_,rfl⟩
 rw[←hgr]at A1 hs2 hg1⊢
 clear hP2 HN1 B1 hgr
 have LE:Hid (sP (w2.alloc (.cells #[] 5)) w2.heap.size 0 []):=⟨by simp,fun j hj=>by simp at hj⟩
 have B3:Hid (Below w.heap.size w (w2.alloc (.cells #[] 5))):=B2.out.alloc B2.out.size _
 have A3:Hid ((w2.alloc (.cells #[] 5)).heap[gr]? =some (.cells (Iv .u8 R) 25)):=(hAO _ _ hs2).trans A1.out
 go_wp2_with fail
 go_loopw [7,9,10] (fun o b i wr=>∃(k gb c:Nat),k≤n∧i=.int .i64 ((k:Int)+1)∧Below w.heap.size w wr∧wr.heap[gr]? =some (.cells (Iv .u8 R) 25)∧cZ wr (gr+1) o (zK R k) k∧b=.slice (some ⟨gb,0,none⟩) (NL R k).length c∧sP wr gb 0 (NL R k)) (fun _ _ i _=>4 - (intOf i).toNat)
 case atStart=>exact⟨0,_,_,Nat.zero_le _,rfl,B3.out,A3.out,.inl ⟨rfl,rfl,_,rfl⟩,rfl,LE.out⟩
 case round=>
  obtain⟨k,gb,c,hk,rfl,hbr,hr1,hout,rfl,hlies⟩:=hrel
  clear B2 A1 LE B3 A3
  have RB:Hid _:=hbr
  have R1:Hid _:=hr1
  have RO:Hid (cZ wr (gr+1) u7 (zK R k) k):=hout
  have RL:Hid (sP wr gb 0 (NL R k)):=hlies
  have hsr:gr<wr.heap.size:=(Array.getElem?_eq_some_iff.1 hr1).1
  clear hbr hr1 hout hlies
  obtain⟨q,hq⟩:∃q:Int,(k:Int)+1=q:=⟨_,rfl⟩
  have hq1:1≤q:=by omega
  have hq2:q≤4:=by omega
  have hbl:=PJ R k
  have hbb:=TK R k
  have HBN:Hid (fJ R (NL R k++[q])=fF R k):=by show _=_;rw[←hq];exact YS R k
  obtain⟨L,hL⟩:∃L,NL R k=L:=⟨_,rfl⟩
  rw[hL]at RL hbl hbb HBN
  rw[hq,hL]
  have HQ:Hid _:=hq
  clear hq hL
  by_cases hlt:k<n
  ·have hle:q≤(n:Int):=by have:=HQ.out;omega
   have hle':(q≤(n:Int))=True:=by simp[hle]
   go_wp2_with(refine wpLr rfl 25 _ rfl gr rfl _ (Iv .u8 R) _ _ R1.out underlying25 rfl (hi32.out R hRl) ?_)
   refine(uT R hRl wr).mono ?_
   rintro e w3 ⟨x,rfl,hox,hb3⟩
   obtain⟨gx,cx,rfl,hgx,hlx,hcx1,hcx2⟩:=hox.lies
   have hgx':gx<w3.heap.size:=hlx.1
   have XB:Hid (Below w.heap.size w w3):=RB.out.trans (hb3.mono RB.out.size)
   have X1:Hid _:=(hb3.block gr hsr).trans R1.out
   have XO:Hid (cZ w3 (gr+1) u7 (zK R k) k):=RO.out.later hb3
   have XL:Hid (sP w3 gb 0 L):=RL.out.later hb3 RL.out.1
   have XX:Hid (sP w3 gx 0 R):=hlx
   have hgb:gb<w3.heap.size:=XL.out.1
   have hsx:gr<w3.heap.size:=by have:=hb3.size;omega
   clear hox hb3 hlx RB R1 RO RL
   go_wp2_with fail
   have HB4:Below w3.heap.size w3 (w3.alloc (.cells #[.int .u8 q] 5)):=(Below.refl _ _).alloc (nQ _) _
   have hq8:aC [q]:=by intro i;match i with|0=>exact⟨by show 0≤q;omega,by show q≤255;omega⟩|i+1=>simp
   obtain⟨W4,hW4⟩:∃X,X=w3.alloc (.cells #[.int .u8 q] 5):=⟨_,rfl⟩
   have LQ:Hid (sP W4 w3.heap.size 0 [q]):=⟨by rw[hW4];simp,fun j hj=>by
    obtain rfl:j=0:=by simpa using hj
    have hh:W4.heap[w3.heap.size]? =some (.cells #[.int .u8 q] 5):=by rw[hW4];exact hAN _ _
    rw[cell_of_row _ _ _ _ _ _ hh];rfl⟩
   rw[←hW4]at HB4⊢
   clear hW4
   have YB:Hid (Below w.heap.size w W4):=XB.out.trans (HB4.mono XB.out.size)
   have Y1:Hid _:=(HB4.block gr hsx).trans X1.out
   have YO:Hid (cZ W4 (gr+1) u7 (zK R k) k):=XO.out.later HB4
   have YL:Hid (sP W4 gb 0 L):=XL.out.later HB4 hgb
   have YX:Hid (sP W4 gx 0 R):=XX.out.later HB4 hgx'
   have hs4:=HB4.size
   clear HB4 XB X1 XO XL XX
   refine(qY gb 0 c w3.heap.size 0 1 L [q] L.length 1 rfl rfl (by omega) (by simp) W4 YL.out LQ.out).mono ?_
   rintro e w5 ⟨x,rfl,hoy,hb5⟩
   obtain⟨gy,cy,rfl,hgy,hly,hcy1,hcy2⟩:=hoy.lies
   have hll:(L++[q]).length=L.length+1:=by simp
   rw[hll]
   have ZB:Hid (Below w.heap.size w w5):=YB.out.trans (hb5.mono YB.out.size)
   have Z1:Hid _:=(hb5.block gr (by omega)).trans Y1.out
   have ZO:Hid (cZ w5 (gr+1) u7 (zK R k) k):=YO.out.later hb5
   have ZX:Hid (sP w5 gx 0 R):=YX.out.later hb5 (by omega)
   have ZY:Hid _:=hly
   have hs5:=hb5.size
   clear hoy hb5 hly YB Y1 YO YL YX LQ
   go_wp2_with fail
   refine(wY R (L++[q]) 32 (L.length+1) (by decide) hRl hRb (by decide) gx 0 cx gy 0 cy w5 (fun j hj=>ZX.out.2 j (by omega)) hll (by omega) (aV hbb hq8) ZY.out.1 (fun j hj=>ZY.out.2 j (by omega)) (fF R k) (fun x hx=>by rw[←hx];exact HBN.out)).mono ?_
   rintro e w6 ⟨rfl,hb6⟩
   have VB:Hid _:=ZB.out.trans (hb6.mono ZB.out.size)
   have V1:Hid _:=(hb6.block gr (by omega)).trans Z1.out
   have VO:Hid (cZ w6 (gr+1) u7 (zK R k) k):=ZO.out.later hb6
   have hs6:=hb6.size
   have HN6:Hid ((w6.alloc (.cells (Iv .u8 (aA 32)) 25)).heap[w6.heap.size]? =some (.cells (Iv .u8 (aA 32)) 25)):=hAN _ _
   clear hb6 ZB Z1 ZO ZX ZY
   go_wp2_with(refine wpPr rfl 25 _ _ rfl w6.heap.size (Iv .u8 (fF R k)) rfl rfl _ _ HN6.out (hi32.out _ (aY R k)) (hz32.out _ (aY R k)) (aG _ _) ?_)
   intro w7 hP7
   have UB:Hid _:=hP7.below _ _ (VB.out.alloc VB.out.size _) VB.out.size
   have HW7:Below w6.heap.size w6 w7:=hP7.below _ _ ((Below.refl _ _).alloc (nQ _) _) (nQ _)
   have U1:Hid _:=(HW7.block gr (by omega)).trans V1.out
   have UO:Hid _:=VO.out.later HW7
   have GO:Hid (1≤k→∀{g:Nat},some g=u7.ownBlock→g<w6.heap.size):=fun h1 g e=>cZ.lt VO.out h1 e
   have UT:Hid _:=hP7.here
   have hs7:w6.heap.size<w7.heap.size:=by rw[hP7.size];simp
   obtain⟨gt,hgt⟩:∃x,x=w6.heap.size:=⟨_,rfl⟩
   rw[←hgt]at UT hs7 hs6 GO⊢
   clear hP7 HW7 HN6 VB V1 VO hgt
   go_wp2_with(first
    | refine wpLr rfl 25 _ rfl gt rfl _ (Iv .u8 (fF R k)) _ _ UT.out underlying25 rfl (hi32.out _ (aY R k)) ?_
    | (refine rP rfl (.tmp 37) rfl (fF R k) (aY R k) rfl (sH ?_)))
   refine aH ?_
   have HB8:Below w7.heap.size w7 (w7.alloc (.cells (Iv .u8 (fF R k)) 25)):=(Below.refl _ _).alloc (nQ _) _
   have hs8:(w7.alloc (.cells (Iv .u8 (fF R k)) 25)).heap.size=w7.heap.size+1:=by simp
   have hlo:1≤k→some gt≠u7.ownBlock:=fun h1 e=>by have:=GO.out h1 e;omega
   obtain⟨v9,w9,hr9,ho9,hb9,hf9⟩:=zP (cZ.later UO.out HB8) (by omega) (by omega) w7.heap.size (fF R k) (aY R k) (hAN _ _) 1 42
   refine jT rfl (.tmp 36) (.tmp 38) 42 rfl u7 (.slice (some ⟨w7.heap.size,0,none⟩) 1 1) rfl rfl v9 w9 hr9 ?_
   have TB:Hid _:=(UB.out.alloc UB.out.size _).trans (hb9.mono (by omega))
   have T1:Hid _:=(hb9.block gr (by omega)).trans ((HB8.block gr (by omega)).trans U1.out)
   have TT:Hid _:=(hf9 gt (by omega) hlo).trans ((HB8.block gt hs7).trans UT.out)
   have TO:Hid _:=ho9
   have hs9:=hb9.size
   clear hr9 ho9 hb9 hf9 HB8 UB U1 UT UO GO
   simp only[Act.put]
   go_wp2_with(refine wpLr rfl 25 _ rfl gt rfl _ (Iv .u8 (fF R k)) _ _ TT.out underlying25 rfl (hi32.out _ (aY R k)) ?_)
   refine(uT (fF R k) (aY R k) w9).mono ?_
   rintro e w10 ⟨x,rfl,hoz,hb10⟩
   obtain⟨gz,cz,rfl,hgz,hlz,hcz1,hcz2⟩:=hoz.lies
   have SB:Hid _:=TB.out.trans (hb10.mono TB.out.size)
   have S1:Hid _:=(hb10.block gr (by omega)).trans T1.out
   have SO:Hid _:=cZ.later TO.out hb10
   have SL:Hid _:=hlz
   clear hoz hb10 hlz TB T1 TT TO
   go_wp2_with fail
   go_roundw
   case rel=>exact⟨k+1,gz,cz,by omega,by rw[←HQ.out];simp,SB.out,S1.out,SO.out,rfl,SL.out⟩
   case measure=>simp[intOf];omega
  ·have hkn:k=n:=by omega
   subst hkn
   have hle':(q≤(k:Int))=False:=by have:=HQ.out;simp;omega
   go_wp2
   go_ret
   exact⟨_,gr+1,rfl,by omega,RO.out,RB.out⟩
end Go.Proofs.YtmjccemdldidaaaGreatDoor
