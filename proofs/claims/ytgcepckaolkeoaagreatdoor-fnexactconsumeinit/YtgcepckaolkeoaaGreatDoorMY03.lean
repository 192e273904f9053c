import Derived.Test.YtgcepckaolkeoaaGreatDoorMY02
namespace Go.Proofs.YtgcepckaolkeoaaGreatDoor
open Go.RowKit
open Go.Proofs.Tryz
open Go
open Go renaming heap_alloc_new → hAN, heap_alloc_old → hAO, rounds_succ → rdS, wpList_load_row → wpLr
open Go.World renaming block_lt_of_cell? → wJ
open List renaming drop_zero → dY, length_append → lQ, length_map → lU, mem_cons_of_mem → mC, mem_cons_self → mQ, replicate → rQ, take_succ_eq_append_getElem → tQ
open Nat renaming le_refl → nQ, lt_of_lt_of_le → nJ
set_option linter.unusedVariables false
def eF (w:World) (v:Value) (P:List Int):Prop:=∃a n cap,v=.slice a n cap∧P.length=n∧n≤cap∧cap≤9223372036854775807∧aE P∧(n=0∨∃bb oo,a=some ⟨bb,oo,none⟩∧∀j,j<n→w.cell? ⟨bb,oo+j,none⟩=some (.int .u8 (P.getD j 0)))
theorem eF.later {w w':World} {v:Value} {P:List Int} {B:Nat} (h:eF w v P) (hb:Below B w w') (hB:w.heap.size≤B):eF w' v P:=by
 obtain⟨a,n,cap,h1,h2,h3,h4,h5,h6⟩:=h
 refine⟨a,n,cap,h1,h2,h3,h4,h5,h6.imp id ?_⟩
 rintro⟨bb,oo,rfl,hc⟩
 exact⟨bb,oo,rfl,fun j hj=>(hb.cell (p:=⟨bb,oo+j,none⟩) (nJ (wJ _ _ (hc j hj)) hB)).trans (hc j hj)⟩
set_option maxRecDepth 10000 in
theorem BU (h b:List Int) (t fn:Nat) (hh:h.length=8) (hb:b.length=64) (a:Option Addr) (cap:Nat) (w:World):
 Calls prog 119 #[.agg (dD h t b fn),.slice a 0 cap] w fun e w'=>e=.returned (.agg (dD h t b fn))∧Below w.heap.size w w':=by
 have hzv:=GA
 have hiS:Hid ((prog.info? 184).map (·.size)=some (dD h t b fn).size):=by show _=_;rw[eU h t b fn hh hb];exact zZ
 obtain⟨W,hW,g0,g1,hs,hB⟩:=kX w (.cells (dD h t b fn) 184) (.cells (dD (aA 8) 0 (aA 64) 0) 184)
 have G0:Hid _:=g0
 have G1:Hid _:=g1
 have HB:Hid _:=hB
 clear g0 g1 hB
 go_enter func119,ntmps119
 go_wp2_with fail
 refine wp_loop_rounds 1 ?_
 rw[rdS]
 go_wp2_with(first
  | refine wpLr rfl 184 _ rfl w.heap.size rfl _ (dD h t b fn) _ _ G0.out underlying184 rfl hiS.out ?_
  | refine wpPr rfl 184 _ _ rfl (w.heap.size+1) (dD h t b fn) rfl rfl _ _ G1.out hiS.out ?hs (pA _ _ _ _) ?_)
 case hs=>rw[eU _ _ _ _ hh hb];rfl
 intro W9 hP9
 go_wp2
 exact bodyPost_ret (v:=.agg (dD h t b fn)) (results_cell_row rfl _ _ _ _ (dD h t b fn) _ _ rfl hP9.here underlying184 rfl hiS.out) rfl ⟨rfl,hP9.below _ _ HB.out (by omega)⟩
theorem DN (h0 D P:List Int) (k t fn:Nat) (h b:List Int) (htk:t=64*k) (s:qO h0 D k fn h b) (hk:0<fn∨k=0) (hh0:h0.length=8) (h032:bF h0) (hD:aE D) (hlen:D.length+P.length≤1000000000000) (v:Value) (w:World) (hp:eF w v P) (ht:dR w):
 Calls prog 119 #[.agg (dD h t b fn),v] w fun e w'=>∃(k' t' fn':Nat) (h' b':List Int),e=.returned (.agg (dD h' t' b' fn'))∧t'=64*k'∧qO h0 (D++P) k' fn' h' b'∧(0<fn'∨k'=0)∧Below w.heap.size w w':=by
 obtain⟨a,n,cap,rfl,hn,hc1,hc2,hB,hz|⟨bb,oo,rfl,hc⟩⟩:=hp
 ·subst hz
  obtain rfl:P=[]:=List.length_eq_zero_iff.1 hn
  refine(BU h b t fn (by rw[s.words];exact iK h0 _ hh0 k) s.blk a cap w).mono ?_
  rintro e w' ⟨rfl,hb⟩
  exact⟨k,t,fn,h,b,rfl,htk,by simpa using s,hk,hb⟩
 ·exact BS h0 D P k t fn h b htk s hk hh0 h032 hD hB n cap hn hc1 hc2 (by omega) bb oo w hc (fun hpos=>wJ _ _ (hc 0 hpos)) ht
theorem xP:∀(Ps:List (List Int)),(∀P∈Ps,aE P)→aE Ps.flatten
 | [],_=>fun i=>by simp
 | P::Ps,h=>by
   rw[List.flatten_cons]
   exact aY (h P (by simp)) (xP Ps fun Q hQ=>h Q (by simp[hQ]))
theorem eF.bytes {w:World} {v:Value} {P:List Int} (h:eF w v P):aE P:=by
 obtain⟨a,n,cap,h1,h2,h3,h4,h5,h6⟩:=h
 exact h5
set_option maxRecDepth 10000 in
set_option maxHeartbeats 1000000 in
theorem OK (h0 D:List Int) (Ps:List (List Int)) (vs:List Value) (k t fn:Nat) (h b:List Int) (htk:Hid (t=64*k)) (s:qO h0 D k fn h b) (hk:0<fn∨k=0) (hh0:h0.length=8) (h032:bF h0) (hD:aE D) (hlen:D.length+Ps.flatten.length≤1000000000000)
 (np cap pb po:Nat) (hvs:vs.length=np) (hPs:Ps.length=np) (hnp:np≤1000) (w:World) (hpb:0<np→pb<w.heap.size) (hc:∀i (hi:i<vs.length),w.cell? ⟨pb,po+i,none⟩=some vs[i]) (hp:∀i (hi:i<vs.length) (hi':i<Ps.length),eF w vs[i] Ps[i]) (ht:dR w):
 Calls prog 106 #[.agg (dD h t b fn),.slice (some ⟨pb,po,none⟩) np cap] w fun e w'=>∃(k' t' fn':Nat) (h' b':List Int),e=.returned (.agg (dD h' t' b' fn'))∧t'=64*k'∧qO h0 (D++Ps.flatten) k' fn' h' b'∧(0<fn'∨k'=0)∧Below w.heap.size w w':=by
 have hzv:=GA
 have HT:Hid _:=ht
 have HC:Hid _:=hc
 have HP:Hid _:=hp
 have HS:Hid _:=s
 have HK:Hid _:=hk
 clear ht hc hp s hk
 go_enter func106,ntmps106
 go_wp2_with fail
 go_loopw [9] (fun v wr=>∃(j k' t' fn':Nat) (h' b':List Int),j≤np∧v=.int .i64 j∧t'=64*k'∧qO h0 (D++(Ps.take j).flatten) k' fn' h' b'∧(0<fn'∨k'=0)∧wr.heap[w.heap.size]? =some (.cells (dD h' t' b' fn') 184)∧wr.heap[w.heap.size+1]? =some (.cells (dD (aA 8) 0 (aA 64) 0) 184)∧Below w.heap.size w wr) (fun v _=>np - (intOf v).toNat)
 case atStart=>
  obtain⟨W,hW,g0,g1,hs,hb⟩:=kX w (.cells (dD h t b fn) 184) (.cells (dD (aA 8) 0 (aA 64) 0) 184)
  subst hW
  exact⟨0,k,t,fn,h,b,Nat.zero_le _,rfl,htk.out,by simpa using HS.out,HK.out,g0,g1,hb⟩
 case round=>
  obtain⟨j,k1,t1,fn1,h1,b1,hj,rfl,ht1,s1,hk1,M0,M1,MB⟩:=hrel
  have hh1:h1.length=8:=by rw[s1.words];exact iK h0 _ hh0 k1
  have hb1:=s1.blk
  have hiS:Hid (∀(h':List Int) (t' f':Int) (b':List Int),h'.length=8→b'.length=64→(prog.info? 184).map (·.size)=some (dD h' t' b' f').size):=fun h' t' f' b' hh' hb'=>by rw[eU h' t' b' f' hh' hb'];exact zZ
  clear HS HK htk
  have S1:Hid _:=s1
  have HT1:Hid _:=ht1
  have N0:Hid _:=M0
  have N1:Hid _:=M1
  have NB:Hid _:=MB
  have hlw:w.heap.size+1<wr.heap.size:=(Array.getElem?_eq_some_iff.1 M1).1
  clear s1 ht1 M0 M1 MB
  by_cases hlt:j<np
  ·have cv:wr.cell? ⟨pb,po+j,none⟩=some (vs[j]'(by omega)):=(NB.out.cell (p:=⟨pb,po+j,none⟩) (hpb (by omega))).trans (HC.out j (by omega))
   have HPJ:Hid (eF wr (vs[j]'(by omega)) (Ps[j]'(by omega))):=(HP.out j (by omega) (by omega)).later NB.out (nQ _)
   have HFL:Hid ((Ps.take (j+1)).flatten=(Ps.take j).flatten++Ps[j]'(by omega)):=by
    show _=_
    rw[tQ (by omega),List.flatten_append]
    simp
   have HBD:Hid (aE (D++(Ps.take j).flatten)):=by
    refine aY hD (xP _ fun P hP=>?_)
    obtain⟨i,hi,rfl⟩:=List.mem_iff_getElem.1 (List.mem_of_mem_take hP)
    exact(HP.out i (by omega) hi).bytes
   have HLN:Hid ((D++(Ps.take j).flatten).length+(Ps[j]'(by omega)).length≤1000000000000):=by
    have e:(Ps.take (j+1)).flatten.length≤Ps.flatten.length:=by
     have:Ps.flatten=(Ps.take (j+1)).flatten++(Ps.drop (j+1)).flatten:=by rw[←List.flatten_append,List.take_append_drop]
     rw[this,lQ]
     omega
    rw[HFL.out,lQ]at e
    show _≤_
    rw[lQ]
    omega
   generalize vs[j]'(by omega)=v at*
   generalize Ps[j]'(by omega)=P at*
   go_wp2_with(refine wpLr rfl 184 _ rfl w.heap.size rfl _ (dD h1 t1 b1 fn1) _ _ N0.out underlying184 rfl (hiS.out _ _ _ _ hh1 hb1) ?_)
   refine(DN h0 _ P k1 t1 fn1 h1 b1 HT1.out S1.out hk1 hh0 h032 HBD.out HLN.out v wr HPJ.out (HT.out.later NB.out (nQ _))).mono ?_
   rintro e w1 ⟨k2,t2,fn2,h2,b2,rfl,ht2,s2,hk2,hb4⟩
   have hh2:h2.length=8:=by rw[s2.words];exact iK h0 _ hh0 k2
   have hb2:=s2.blk
   have S2:Hid _:=s2
   have HT2:Hid _:=ht2
   have P0:Hid _:=(hb4.block w.heap.size (by omega)).trans N0.out
   have P1:Hid _:=(hb4.block (w.heap.size+1) (by omega)).trans N1.out
   have PB:Hid (Below w.heap.size w w1):=NB.out.trans (hb4.mono NB.out.size)
   clear hb4 N0 N1 NB s2 ht2 cv
   go_wp2_with(refine wpPr rfl 184 _ _ rfl w.heap.size (dD h2 t2 b2 fn2) rfl rfl _ _ P0.out (hiS.out h2 _ _ b2 hh2 hb2) ?hs (pA _ _ _ _) ?_)
   case hs=>rw[eU _ _ _ _ hh1 hb1,eU _ _ _ _ hh2 hb2]
   intro w2 hP2
   have Q0:Hid _:=hP2.here
   have Q1:Hid _:=(hP2.far (w.heap.size+1) (by omega)).trans P1.out
   have QB:Hid (Below w.heap.size w w2):=hP2.below _ _ PB.out (nQ _)
   clear hP2 P0 P1 PB
   go_wp2
   go_roundw
   case rel=>exact⟨j+1,k2,t2,fn2,h2,b2,by omega,by go_num,HT2.out,by rw[HFL.out,←List.append_assoc];exact S2.out,hk2,Q0.out,Q1.out,QB.out⟩
   case measure=>simp[intOf];omega
  ·obtain rfl:j=np:=by omega
   rw[List.take_of_length_le (by omega)]at S1
   go_wp2_with(first
    | refine wpLr rfl 184 _ rfl w.heap.size rfl _ (dD h1 t1 b1 fn1) _ _ N0.out underlying184 rfl (hiS.out _ _ _ _ hh1 hb1) ?_
    | refine wpPr rfl 184 _ _ rfl (w.heap.size+1) (dD h1 t1 b1 fn1) rfl rfl _ _ N1.out (hiS.out _ _ _ _ hh1 hb1) ?hs (pA _ _ _ _) ?_)
   case hs=>rw[eU _ _ _ _ hh1 hb1];rfl
   intro W9 hP9
   go_wp2
   exact bodyPost_ret (v:=.agg (dD h1 t1 b1 fn1)) (results_cell_row rfl _ _ _ _ (dD h1 t1 b1 fn1) _ _ rfl hP9.here underlying184 rfl (hiS.out _ _ _ _ hh1 hb1)) rfl ⟨k1,t1,fn1,h1,b1,rfl,HT1.out,S1.out,hk1,hP9.below _ _ NB.out (by omega)⟩
def pR (K:List Int):List Int:=if K.length=0 then[]else K++rQ (64 - K.length) 0
theorem SY:∀W,(zeroValue 147).run prog W=.ok (.agg (Iv .u8 (aA 64))) W:=fun W=>by kernel_rfl
theorem ZR:prog.built 184 [(0,.agg (Iv .u32 lC))]=some (dD lC 0 (aA 64) 0):=by kernel_rfl
theorem tY {P:Program} {ops:Array Oper} {rest:List Oper} {o:Oper} {a:Act} {w:World} {Q:Exit→Act→World→Prop} (hg:o.guard=none) (t:TypeId) (parts:Array (Nat×Operand)) (ho:o.op=.build t parts) (cs:Array Value)
 (hf:P.built t (parts.map fun(i,x)=>(i,a.eval x)).toList=some cs) (h:wpList P ops Q rest (a.put o.dst (.agg cs)) w):wpList P ops Q (o::rest) a w:=
 wpList_build hg t parts ho (by rw[hf];rfl) (by rw[hf];exact h)
theorem dR.ivRange {w:World} (h:dR w):w.rangeAt 1 0 (lC.map (Value.int .u32)):=by
 intro j v hj
 have hj8:j<8:=by have:=(List.getElem?_eq_some_iff.1 hj).1;simpa[lC]using this
 rw[Nat.zero_add,h.iv j hj8,←hj]
 simp[aK,List.getD_eq_getElem?_getD,List.getElem?_eq_getElem (show j<lC.length from hj8)]
set_option maxRecDepth 10000 in
set_option maxHeartbeats 1000000 in
theorem xF (n kl:Nat) (HK:Hid (kl=0)) (hkl:kl≤64) (hn:n≤64) (a:Option Addr) (cap:Nat) (w:World) (ht:dR w) (bgl:List Int) (HBL:Hid (iT n kl=bgl)):
 Calls prog 105 #[.int .i64 n,.slice a kl cap] w fun e w'=>e=.returned (.agg (dD bgl 0 (aA 64) 0))∧Below w.heap.size w w':=by
 have hk0:(0<kl)=False:=by have:=HK.out;simp;omega
 have hzv:=GA
 have hzb:=SY
 have HT:Hid _:=ht
 clear ht
 have hiS:Hid (∀(h':List Int) (t' f':Int) (b':List Int),h'.length=8→b'.length=64→(prog.info? 184).map (·.size)=some (dD h' t' b' f').size):=fun h' t' f' b' hh' hb'=>by rw[eU h' t' b' f' hh' hb'];exact zZ
 have HR:Hid ((w.alloc (.cells (dD (aA 8) 0 (aA 64) 0) 184)).rangeAt 1 0 (lC.map (Value.int .u32))):=(HT.out.later ((Below.refl w.heap.size w).alloc (nQ _) _) (nQ _)).ivRange
 obtain⟨W,hW,g0,g1,hs,hBW⟩:=kX w (.cells (dD (aA 8) 0 (aA 64) 0) 184) (.cells (dD (aA 8) 0 (aA 64) 0) 184)
 have G0:Hid _:=g0
 have G1:Hid _:=g1
 have HBW:Hid _:=hBW
 clear g0 g1 hBW
 go_enter func105,ntmps105
 go_wp2_with(first
  | refine wpList_load_mid rfl 174 _ rfl 1 0 rfl (lC.map (Value.int .u32)) _ HR.out underlying174 rfl RQ ?_
  | refine tY rfl 184 _ rfl (dD lC 0 (aA 64) 0) (by simp only[List.map_toArray,List.map_cons,List.map_nil];exact ZR) ?_
  | refine wpPr rfl 184 _ _ rfl (w.heap.size+1) (dD lC 0 (aA 64) 0) rfl rfl _ _ G1.out (hiS.out _ _ _ _ rfl rfl) rfl (pA _ _ _ _) ?_)
 intro w1 hP1
 have R1:=hP1.here
 have R0:=(hP1.far w.heap.size (by omega)).trans G0.out
 have RB:Hid (Below w.heap.size w w1):=hP1.below _ _ HBW.out (by omega)
 have hs1:w1.heap.size=w.heap.size+1+1:=by rw[hP1.size];exact hs
 clear hP1 G0 G1 HBW hW HR hs
 obtain⟨k0,e0⟩:∃x:Int,x=1779033703:=⟨_,rfl⟩
 have c0:w1.cell? ⟨w.heap.size+1,0,none⟩=some (.int .u32 k0):=by rw[e0,cell_of_row _ _ _ _ _ _ R1];exact ED lC 0 (aA 64) 0 rfl 0 (by decide)
 have f0:w1.frozen? ⟨w.heap.size+1,0,none⟩=false:=frozen_of_row _ _ _ _ _ R1
 have HBG:Hid (∀x,x=xr k0 (xr (xr 16842752 ((kl:Int)*256)) n)→dD (lC.set 0 x) 0 (aA 64) 0=dD (iT n kl) 0 (aA 64) 0):=fun x hx=>by
  rw[hx,e0]
  unfold iT
  rw[Int.natCast_mul]
  rfl
 have hbl:=nF n kl
 have hb32:Hid (bF (iT n kl)):=vM n kl
 have HROW:Hid (∀x,x=xr k0 (xr (xr 16842752 ((kl:Int)*256)) n)→(w1.setCell ⟨w.heap.size+1,0,none⟩ (.int .u32 x)).heap[w.heap.size+1]? =some (.cells (dD (iT n kl) 0 (aA 64) 0) 184)):=fun x hx=>by
  rw[←HBG.out x hx,←AX lC 0 (aA 64) 0 rfl 0 (by decide)]
  exact heap_setCell_same _ _ _ _ _ _ R1
 have HRES:Hid (∀x,(w1.setCell ⟨w.heap.size+1,0,none⟩ (.int .u32 x)).heap[w.heap.size]? =some (.cells (dD (aA 8) 0 (aA 64) 0) 184)):=fun x=>(heap_setCell_other _ _ _ _ (by simp)).trans R0
 have HBEL:Hid (∀x,Below w.heap.size w (w1.setCell ⟨w.heap.size+1,0,none⟩ (.int .u32 x))):=fun x=>Below.setCell RB.out (by simp) _
 clear R0 R1 e0 HBG RB
 rw[HBL.out]at HROW hbl hb32
 clear HBL
 go_wp2_with(first
  | refine wpLr rfl 184 _ rfl (w.heap.size+1) rfl _ (dD bgl 0 (aA 64) 0) _ _ (HROW.out _ rfl) underlying184 rfl (hiS.out _ _ _ _ hbl rfl) ?_
  | refine wpPr rfl 184 _ _ rfl w.heap.size (dD bgl 0 (aA 64) 0) rfl rfl _ _ (HRES.out _) (hiS.out _ _ _ _ hbl rfl) ?hs (pA _ _ _ _) ?_)
 case hs=>rw[eU _ _ _ _ hbl rfl];rfl
 intro W9 hP9
 go_wp2
 exact bodyPost_ret (v:=.agg (dD bgl 0 (aA 64) 0)) (results_cell_row rfl _ _ _ _ (dD bgl 0 (aA 64) 0) _ _ rfl hP9.here underlying184 rfl (hiS.out _ _ _ _ hbl rfl)) rfl ⟨rfl,hP9.below _ _ (HBEL.out _) (nQ _)⟩
theorem cC.one {k:IntKind} {e:TypeId} {base:Nat} (w:World) (y:Int) (hb:base≤w.heap.size):cC k e base (w.alloc (.cells #[.int k y] e)) (.slice (some ⟨w.heap.size,0,none⟩) 1 1) [y]:=by
 refine⟨by simp[fW],.inr ⟨w.heap.size,1,#[.int k y],by simp,hb,hAN w _,by simp,by unfold maxLen;omega,by simp,?_⟩⟩
 simp[iv]
theorem cC.rdk {k:IntKind} {e:TypeId} {base:Nat} {w:World} {v:Value} {l:List Int} (h:cC k e base w v l):∃a n cap,v=.slice a n cap∧n=l.length∧ZK k w a l:=by
 obtain⟨rfl,rfl⟩|⟨g,cap,rfl,hg,hl,hc,hm,hcell,_⟩:=h.at
 ·exact⟨none,0,0,rfl,rfl,fun i hi=>by simp at hi⟩
 ·exact⟨some ⟨g,0,none⟩,l.length,cap,rfl,rfl,fun i hi=>⟨g,0,rfl,by rw[Nat.zero_add];exact hcell i hi⟩⟩
theorem mG {k:IntKind} {e:TypeId} {base:Nat} {w:World} {v:Value} {l:List Int} {x y:Int} (h:cC k e base w v (l++[x])) (hxy:x=y):cC k e base w v (l++[y]):=hxy▸h
theorem KR:(prog.info? 5).map (fun i=>(i.zero,i.size,i.bytes))=some (some (.int .u8 0),1,1):=by kernel_rfl
def iN (ws:List Int) (i:Nat):Int:=aK ws (i / 4) / 256^(i%4)%256
def bytesOf (ws:List Int) (n:Nat):List Int:=(List.range n).map (iN ws)
theorem jR (ws:List Int) (n:Nat):(bytesOf ws n).length=n:=by simp[bytesOf]
theorem KD (ws:List Int) (k:Nat):bytesOf ws (4*(k+1))=bytesOf ws (4*k)++[aK ws k%256]++[aK ws k / 256%256]++[aK ws k / 65536%256]++[aK ws k / 16777216%256]:=by
 have e0:iN ws (4*k)=aK ws k%256:=by unfold iN;rw[show 4*k / 4=k by omega,show 4*k%4=0 by omega];simp
 have e1:iN ws (4*k+1)=aK ws k / 256%256:=by unfold iN;rw[show(4*k+1) / 4=k by omega,show(4*k+1)%4=1 by omega];simp
 have e2:iN ws (4*k+2)=aK ws k / 65536%256:=by unfold iN;rw[show(4*k+2) / 4=k by omega,show(4*k+2)%4=2 by omega];simp
 have e3:iN ws (4*k+3)=aK ws k / 16777216%256:=by unfold iN;rw[show(4*k+3) / 4=k by omega,show(4*k+3)%4=3 by omega];simp
 rw[←e0,←e1,←e2,←e3]
 simp only[bytesOf,show 4*(k+1)=4*k+1+1+1+1 by omega,List.range_succ,List.map_append,List.map_cons,List.map_nil]
set_option maxRecDepth 10000 in
set_option maxHeartbeats 4000000 in
theorem zX (ws:List Int) (n:Nat) (hn:ws.length=n) (h32:bF ws) (hn2:n≤100000) (a:Option Addr) (cap:Nat) (w:World) (hr:ZK .u32 w a ws):
 Calls prog 96 #[.slice a n cap] w fun e w'=>∃v,e=.returned v∧cC .u8 5 w.heap.size w' v (bytesOf ws (4*n))∧Below w.heap.size w w':=by
 go_enter func96,ntmps96
 go_wp2
 go_loopw [3,10] (fun v i wr=>∃k:Nat,k≤n∧i=.int .i64 k∧cC .u8 5 w.heap.size wr v (bytesOf ws (4*k))∧Below w.heap.size w wr) (fun _ i _=>n - (intOf i).toNat)
 case atStart=>
  exact⟨0,Nat.zero_le _,rfl,cC.nil w (nQ _),(Below.refl _ _).alloc (nQ _) _⟩
 case round=>
  obtain⟨k,hk,rfl,hown,hbel⟩:=hrel
  have HS:Hid (bytesOf ws (4*(k+1))=bytesOf ws (4*k)++[aK ws k%256]++[aK ws k / 256%256]++[aK ws k / 65536%256]++[aK ws k / 16777216%256]):=KD ws k
  have HL:Hid ((bytesOf ws (4*k)).length=4*k):=jR _ _
  have hsz:=hbel.size
  by_cases hlt:k<n
  ·obtain⟨WX,rfl⟩:∃X,X=wr:=⟨_,rfl⟩
   obtain⟨b,o,rfl,h2⟩:=hr k (by omega)
   have hc:WX.cell? ⟨b,o+k,none⟩=some (.int .u32 (aK ws k)):=(hbel.cell (p:=⟨b,o+k,none⟩) (wJ _ _ h2)).trans h2
   have hx:fU (aK ws k):=h32 k
   generalize aK ws k=x at*
   generalize bytesOf ws (4*k)=L at*
   obtain⟨x0,x1⟩:=hx
   clear hr h2
   go_wp2
   refine wp_loop_rounds 5 ?_
   rw[rdS]
   go_wp2_with(at_builtin;refine cM .u8 48 5 1 underlying48 KR (by decide) rfl (.tmp 18) (.tmp 22) rfl w.heap.size w WX _ (L) _ rfl rfl hown hbel hsz (by have:=HL.out;simp;omega) ?_;intro v0 w0 hown0 hbel0 _ _)
   have hown0':=mG hown0 (y:=x%256) (by omega)
   have hsz0:=hbel0.size
   rw[rdS]
   go_wp2_with(at_builtin;refine cM .u8 48 5 1 underlying48 KR (by decide) rfl (.tmp 18) (.tmp 22) rfl w.heap.size w w0 _ (L++[x%256]) _ rfl rfl hown0' hbel0 hsz0 (by have:=HL.out;simp;omega) ?_;intro v1 w1 hown1 hbel1 _ _)
   have hown1':=mG hown1 (y:=x / 256%256) (by omega)
   have hsz1:=hbel1.size
   rw[rdS]
   go_wp2_with(at_builtin;refine cM .u8 48 5 1 underlying48 KR (by decide) rfl (.tmp 18) (.tmp 22) rfl w.heap.size w w1 _ (L++[x%256]++[x / 256%256]) _ rfl rfl hown1' hbel1 hsz1 (by have:=HL.out;simp;omega) ?_;intro v2 w2 hown2 hbel2 _ _)
   have hown2':=mG hown2 (y:=x / 65536%256) (by omega)
   have hsz2:=hbel2.size
   rw[rdS]
   go_wp2_with(at_builtin;refine cM .u8 48 5 1 underlying48 KR (by decide) rfl (.tmp 18) (.tmp 22) rfl w.heap.size w w2 _ (L++[x%256]++[x / 256%256]++[x / 65536%256]) _ rfl rfl hown2' hbel2 hsz2 (by have:=HL.out;simp;omega) ?_;intro v3 w3 hown3 hbel3 _ _)
   have hown3':=mG hown3 (y:=x / 16777216%256) (by omega)
   have hsz3:=hbel3.size
   rw[rdS]
   go_wp2_with fail
   go_roundw
   case rel=>exact⟨k+1,by omega,by go_num,by rw[HS.out];exact hown3',hbel3⟩
   case measure=>simp[intOf];omega
  ·clear hr
   go_wp2
   go_ret
   obtain rfl:k=n:=by omega
   exact⟨_,rfl,hown,hbel⟩
theorem oI (g off n cap:Nat) (te:TypeId) (l:List Int) (x:Int) (w:World)
 (hg:w.heap[g]? =some (.cells (Iv .u8 l) te)) (hl:off+n≤l.length) (hn:n≤4) (hx:0≤x):
 Calls prog 121 #[.slice (some ⟨g,off,none⟩) n cap,.int .u32 x] w fun e w'=>
  e=.returned (.tuple #[])∧w'=w.setRow g (Iv .u8 (pF9 l off (fun i=>x / 256^i%256) n)):=by
 go_enter func121,ntmps121
 go_wp2
 go_loopw [7] (fun i wr=>∃k:Nat,k≤n∧i=.int .i64 k∧wr=w.setRow g (Iv .u8 (pF9 l off (fun i=>x / 256^i%256) k))) (fun i _=>n - (intOf i).toNat)
 case atStart=>
  refine⟨0,Nat.zero_le _,rfl,?_⟩
  rw[bZ,iD w g _ _ _ hg]
 case round=>
  obtain⟨k,hk,rfl,rfl⟩:=hrel
  by_cases hlt:k<n
  ·have ho:∃v,(w.setRow g (Iv .u8 (pF9 l off (fun i=>x / 256^i%256) k))).cell? ⟨g,off+k,none⟩=some v:=by
    rw[eO _ _ _ _ _ _ _ hg]
    exact jW _ _ _ (by rw[aP _ _ _ _ (by omega)];omega)
   obtain⟨v,hv⟩:=ho
   have hf:(w.setRow g (Iv .u8 (pF9 l off (fun i=>x / 256^i%256) k))).frozen? ⟨g,off+k,none⟩=false:=by rw[iF];exact frozen_of_row _ _ _ _ _ hg
   go_wp2
   go_roundw
   case rel=>exact⟨k+1,by omega,by go_num,by rw[aL,bN,ae7,bJ l off (fun i=>x / 256^i%256) k (by omega)]⟩
   case measure=>simp[intOf];omega
  ·obtain rfl:k=n:=by omega
   go_wp2
   go_end0
   exact⟨rfl,rfl⟩
theorem kZ {P:Program} (t e:TypeId) (n:Nat) (k:IntKind) (l:List Int) (i:Nat) (ht:P.underlying t=some (.array n e)) (he:P.underlying e=some (.int k)) (hs:(P.info? e).map (·.size)=some 1) (hl:l.length=n) (hi:i<n) (w:World):
 (Instr.index t (.agg (Iv k l)) (.int .i64 (i:Int))).run P w=.ok (.int k (l.getD i 0)) w:=by
 obtain⟨inf,hinf,hsz⟩:∃inf,P.info? e=some inf∧inf.size=1:=by
  cases h:P.info? e with
  | none=>rw[h]at hs;cases hs
  | some inf=>rw[h]at hs;exact⟨inf,rfl,by simpa using hs⟩
 have hc:=cN k l i (by omega)
 have hg:l.getD i 0=l[i]'(by omega):=by simp[show i<l.length by omega]
 rw[hg]
 simp[Instr.index,run_underlying ht,asIntOf,go_sem,hi,part,isAgg,run_underlying he,sizeOf,typeInfo,hinf,hsz,hc]
theorem fT:∀W,(zeroValue 22).run prog W=.ok (.agg (Iv .u8 (aA 32))) W:=fun W=>by kernel_rfl
theorem iB:(prog.info? 22).map (·.size)=some 32:=by kernel_rfl
theorem VC (ws:List Int):pF9 (aA 32) 0 (iN ws) (4*8)=bytesOf ws 32:=by
 unfold pF9 bytesOf aA
 simp
theorem T5 {w:World} {g:Nat} {h:List Int} {t:Int} {b:List Int} {f:Int} {ty:TypeId} (hg:w.heap[g]? =some (.cells (dD h t b f) ty)) (hh:h.length=8):w.rangeAt g 0 (h.map (Value.int .u32)):=by
 have e:((HV h t b f).drop 0).take 8=h.map (Value.int .u32):=by
  unfold HV
  rw[dY,List.take_append_of_le_length (by simp;omega),List.take_of_length_le (by simp;omega)]
 rw[←e]
 exact fE hg 0 8
set_option maxRecDepth 10000 in
set_option maxHeartbeats 1000000 in
theorem PH (h b:List Int) (t f:Nat) (w:World) (hh:h.length=8) (hb:b.length=64) (h32:bF h) (hbb:aE (b.take f)) (hf:f≤64) (ht63:t+f<9223372036854775808) (ht:dR w) (Wf:List Int) (HW:Hid (jL h (gU (b.take f)) (t+f) true=Wf)) (hWl:Wf.length=8) (hW32:bF Wf) (Bo:List Int) (HBO:Hid (∀x,bytesOf Wf 32=x→x=Bo)) (hBo:Bo.length=32):
 Calls prog 107 #[.agg (dD h t b f)] w fun e w'=>e=.returned (.agg (Iv .u8 Bo))∧Below w.heap.size w w':=by
 have hzb:=fT
 have hiS:Hid (∀(h':List Int) (t' f':Int) (b':List Int),h'.length=8→b'.length=64→(prog.info? 184).map (·.size)=some (dD h' t' b' f').size):=fun h' t' f' b' hh' hb'=>by rw[eU h' t' b' f' hh' hb'];exact zZ
 have HT:Hid _:=ht
 clear ht
 obtain⟨W,hW,g0,g1,hs,hBW⟩:=kX w (.cells (dD h t b f) 184) (.cells (Iv .u8 (aA 32)) 22)
 have G0:Hid _:=g0
 have G1:Hid _:=g1
 have HBW:Hid _:=hBW
 clear g0 g1 hBW
 go_enter func107,ntmps107
 go_wp2_with(refine wpLr rfl 184 _ rfl w.heap.size rfl _ (dD h t b f) _ _ G0.out underlying184 rfl (hiS.out _ _ _ _ hh hb) ?_)
 clear hW
 refine(yQ h b t f true W hh hb h32 hbb hf ht63 (HT.out.later HBW.out (nQ _)) Wf HW hWl).mono ?_
 obtain⟨t2,ht2⟩:∃x,x=t+f:=⟨_,rfl⟩
 rw[←ht2]
 clear ht2
 rintro e w1 ⟨rfl,hb1⟩
 have K0:Hid _:=(hb1.block w.heap.size (by omega)).trans G0.out
 have K1:Hid _:=(hb1.block (w.heap.size+1) (by omega)).trans G1.out
 have KB:Hid (Below w.heap.size w w1):=HBW.out.trans (hb1.mono (by omega))
 have hs1:w.heap.size+1<w1.heap.size:=by have:=hb1.size;omega
 clear hb1 G0 G1 HBW
 go_wp2_with(refine wpPr rfl 184 _ _ rfl w.heap.size (dD Wf t2 b 0) rfl rfl _ _ K0.out (hiS.out _ _ _ _ hWl hb) ?hs (pA _ _ _ _) ?_)
 case hs=>rw[eU _ _ _ _ hh hb,eU _ _ _ _ hWl hb]
 intro w2 hP2
 have HL0:Hid ((w2.alloc (.cells (Iv .u8 (aA 32)) 22)).rangeAt w.heap.size 0 (Wf.map (Value.int .u32))):=T5 ((hAO w2 (.cells (Iv .u8 (aA 32)) 22) (by have:=hP2.size;omega)).trans hP2.here) hWl
 have HL1:Hid ((w2.alloc (.cells (Iv .u8 (aA 32)) 22)).heap[w.heap.size+1]? =some (.cells (Iv .u8 (aA 32)) 22)):=(hAO w2 (.cells (Iv .u8 (aA 32)) 22) (by have:=hP2.size;omega)).trans ((hP2.far _ (by omega)).trans K1.out)
 have HL2:Hid ((w2.alloc (.cells (Iv .u8 (aA 32)) 22)).heap[w2.heap.size]? =some (.cells (Iv .u8 (aA 32)) 22)):=hAN _ _
 have HLB:Hid (Below w.heap.size w (w2.alloc (.cells (Iv .u8 (aA 32)) 22))):=(hP2.below _ _ KB.out (nQ _)).alloc (by have:=hP2.size;omega) _
 have hs2:w.heap.size+1<w2.heap.size:=by have:=hP2.size;omega
 clear hP2 K0 K1 KB
 have hi8:Hid ((prog.info? 174).map (·.size)=some (Wf.map (Value.int .u32)).length):=by show _=_;rw[lU,hWl];exact RQ
 go_wp2_with(refine wpList_load_mid rfl 174 _ rfl w.heap.size 0 rfl (Wf.map (Value.int .u32)) _ HL0.out underlying174 rfl hi8.out ?_)
 generalize w2.heap.size=go at*
 go_loopw [10] (fun i wr=>∃k:Nat,k≤8∧i=.int .i64 k∧wr.heap[w.heap.size+1]? =some (.cells (Iv .u8 (aA 32)) 22)∧wr.heap[go]? =some (.cells (Iv .u8 (pF9 (aA 32) 0 (iN Wf) (4*k))) 22)∧Below w.heap.size w wr) (fun i _=>8 - (intOf i).toNat)
 case atStart=>exact⟨0,by omega,rfl,HL1.out,by rw[Nat.mul_zero,bZ];exact HL2.out,HLB.out⟩
 case round=>
  obtain⟨k,hk,rfl,M1,M2,MB⟩:=hrel
  clear HL0 HL1 HL2 HLB
  by_cases hlt:k<8
  ·have hRk:∀wx,(Instr.index 174 (.agg (Wf.map (Value.int .u32)).toArray) (.int .i64 (k:Int))).run prog wx=.ok (.int .u32 (aK Wf k)) wx:=kZ 174 23 8 .u32 Wf k underlying174 underlying23 (by kernel_rfl) hWl hlt
   have wR:fU (aK Wf k):=hW32 k
   have HS:Hid (pF9 (pF9 (aA 32) 0 (iN Wf) (4*k)) (4*k) (fun i=>aK Wf k / 256^i%256) 4=pF9 (aA 32) 0 (iN Wf) (4*(k+1))):=by
    show _=_
    rw[zL _ _ _ _ _ (by simp[aA];omega),Nat.mul_add]
    intro i hi
    rw[iN,show(4*k+i) / 4=k by omega,show(4*k+i)%4=i by omega]
   generalize aK Wf k=x at*
   obtain⟨x0,x1⟩:=wR
   have hk1:(k:Int)<8:=by omega
   have s1:(0:Int)≤4*(k:Int):=by omega
   have s2:4*(k:Int)≤4*(k:Int)+4:=by omega
   have s3:4*(k:Int)+4≤32:=by omega
   have s4:(0:Int)≤4*(k:Int)+4:=by omega
   have N1:Hid _:=M1
   have N2:Hid _:=M2
   have NB:Hid _:=MB
   clear M1 M2 MB
   go_wp2_with fail
   rw[show 4*k+4 - 4*k=4 by omega]
   refine(oI go (4*k) 4 _ 22 (pF9 (aA 32) 0 (iN Wf) (4*k)) x wr N2.out (by rw[aP _ _ _ _ (by simp[aA];omega)];simp[aA];omega) (by omega) (by omega)).mono ?_
   rintro e w6 ⟨rfl,hw6⟩
   rw[HS.out]at hw6
   have V1:Hid (w6.heap[w.heap.size+1]? =some (.cells (Iv .u8 (aA 32)) 22)):=by show _=_;rw[hw6];exact(cG _ _ _ _ (by omega)).trans N1.out
   have V2:Hid (w6.heap[go]? =some (.cells (Iv .u8 (pF9 (aA 32) 0 (iN Wf) (4*(k+1)))) 22)):=by show _=_;rw[hw6];exact setRow_heap _ _ _ _ _ _ N2.out
   have VB:Hid (Below w.heap.size w w6):=by show Below _ _ _;rw[hw6];exact aM NB.out _ (by omega) _
   clear hw6 N1 N2 NB HS
   go_wp2_with fail
   go_roundw
   case rel=>exact⟨k+1,by omega,by go_num,V1.out,V2.out,VB.out⟩
   case measure=>simp[intOf];omega
  ·obtain rfl:k=8:=by omega
   rw[VC,HBO.out _ rfl]at M2
   have hi32:Hid ((prog.info? 22).map (·.size)=some (Iv .u8 Bo).size):=by show _=_;rw[aD,hBo];exact iB
   have N1:Hid _:=M1
   have N2:Hid _:=M2
   have NB:Hid _:=MB
   clear M1 M2 MB
   go_wp2_with(first
    | refine wpLr rfl 22 _ rfl go rfl _ (Iv .u8 Bo) _ _ N2.out underlying22 rfl hi32.out ?_
    | refine wpPr rfl 22 _ _ rfl (w.heap.size+1) (Iv .u8 Bo) rfl rfl _ _ N1.out hi32.out ?hs (aG _ _) ?_)
   case hs=>rw[aD,aD,hBo];rfl
   intro W9 hP9
   go_wp2
   exact bodyPost_ret (v:=.agg (Iv .u8 Bo)) (results_cell_row rfl _ _ _ _ (Iv .u8 Bo) _ _ rfl hP9.here underlying22 rfl hi32.out) rfl ⟨rfl,hP9.below _ _ NB.out (by omega)⟩
def q7 (h0 D:List Int):List Int:=bytesOf (MK h0 D) 32
theorem q8 (h0 D:List Int):(q7 h0 D).length=32:=jR _ _
theorem AT (h0 D:List Int):(MK h0 D).length=8:=qH _ _ _ _
theorem RM (h0 D:List Int):bF (MK h0 D):=FP _ _ _ _
theorem AU (h0 D h b:List Int) (k t fn:Nat) (htk:t=64*k) (s:qO h0 D k fn h b) (hk:0<fn∨k=0) (hh0:h0.length=8) (h032:bF h0) (hD:aE D) (hlen:D.length≤1000000000000) (w:World) (ht:dR w) (Bo:List Int) (hBO:q7 h0 D=Bo):
 Calls prog 107 #[.agg (dD h t b fn)] w fun e w'=>e=.returned (.agg (Iv .u8 Bo))∧Below w.heap.size w w':=
 PH h b t fn w (by rw[s.words];exact iK h0 _ hh0 k) s.blk (by rw[s.words];exact AI h032 _ k) (s.bytes hD) s.fill (by have:=s.len;omega) ht (MK h0 D) (by rw[htk];exact s.last hk) (AT _ _) (RM _ _) Bo (fun x hx=>by rw[←hx];exact hBO) (by rw[←hBO];exact q8 _ _)
structure dZ (w:World) (pb po np:Nat) (vs:List Value) (Ps:List (List Int)):Prop where
 len:vs.length=np
 lenP:Ps.length=np
 few:np≤1000
 blk:0<np→pb<w.heap.size
 cell:∀i (hi:i<vs.length),w.cell? ⟨pb,po+i,none⟩=some vs[i]
 ok:∀i (hi:i<vs.length) (hi':i<Ps.length),eF w vs[i] Ps[i]
theorem dZ.later {w w':World} {pb po np B:Nat} {vs:List Value} {Ps:List (List Int)} (h:dZ w pb po np vs Ps) (hb:Below B w w') (hB:w.heap.size≤B):dZ w' pb po np vs Ps:=
 ⟨h.len,h.lenP,h.few,fun hp=>nJ (h.blk hp) hb.size,fun i hi=>(hb.cell (p:=⟨pb,po+i,none⟩) (nJ (h.blk (by have:=h.len;omega)) hB)).trans (h.cell i hi),fun i hi hi'=>(h.ok i hi hi').later hb hB⟩
theorem dZ.bytes {w:World} {pb po np:Nat} {vs:List Value} {Ps:List (List Int)} (h:dZ w pb po np vs Ps):aE Ps.flatten:=
 xP Ps fun P hP=>by
  obtain⟨i,hi,rfl⟩:=List.mem_iff_getElem.1 hP
  exact(h.ok i (by have:=h.len;have:=h.lenP;omega) hi).bytes
theorem dZ.one {w:World} {v:Value} {P:List Int} {t:TypeId} (h:eF w v P):dZ (w.alloc (.cells #[v] t)) w.heap.size 0 1 [v] [P]:=by
 refine⟨rfl,rfl,by decide,fun _=>by simp,fun i hi=>?_,fun i hi hi'=>?_⟩
 ·obtain rfl:i=0:=by simpa using hi
  simp
 ·obtain rfl:i=0:=by simpa using hi
  exact h.later ((Below.refl w.heap.size w).alloc (nQ _) _) (nQ _)
theorem dZ.two {w:World} {v u:Value} {P R:List Int} {t:TypeId} (h:eF w v P) (h2:eF w u R):dZ (w.alloc (.cells #[v,u] t)) w.heap.size 0 2 [v,u] [P,R]:=by
 have hb:Below w.heap.size w (w.alloc (.cells #[v,u] t)):=(Below.refl w.heap.size w).alloc (nQ _) _
 refine⟨rfl,rfl,by decide,fun _=>by simp,fun i hi=>?_,fun i hi hi'=>?_⟩
 ·have hc:i=0∨i=1:=by simp at hi;omega
  rcases hc with rfl|rfl<;>simp
 ·have hc:i=0∨i=1:=by simp at hi;omega
  rcases hc with rfl|rfl
  ·exact h.later hb (nQ _)
  ·exact h2.later hb (nQ _)
theorem sN (h0 D:List Int) (Ps:List (List Int)) (vs:List Value) (k t fn:Nat) (h b:List Int) (htk:t=64*k) (s:qO h0 D k fn h b) (hk:0<fn∨k=0) (hh0:h0.length=8) (h032:bF h0) (hD:aE D) (hlen:D.length+Ps.flatten.length≤1000000000000)
 (np cap pb po:Nat) (w:World) (hp:dZ w pb po np vs Ps) (ht:dR w):
 Calls prog 106 #[.agg (dD h t b fn),.slice (some ⟨pb,po,none⟩) np cap] w fun e w'=>∃(k' t' fn':Nat) (h' b':List Int),e=.returned (.agg (dD h' t' b' fn'))∧t'=64*k'∧qO h0 (D++Ps.flatten) k' fn' h' b'∧(0<fn'∨k'=0)∧Below w.heap.size w w':=
 OK h0 D Ps vs k t fn h b htk s hk hh0 h032 hD hlen np cap pb po hp.len hp.lenP hp.few w hp.blk hp.cell hp.ok ht
set_option maxRecDepth 10000 in
set_option maxHeartbeats 1000000 in
theorem TD (n kl:Nat) (HK:Hid (kl=0)) (hn:n≤64) (a:Option Addr) (kcap:Nat) (Ps:List (List Int)) (vs:List Value) (np cap pb po:Nat) (w:World) (hp:dZ w pb po np vs Ps) (hlen:Ps.flatten.length≤1000000000000) (ht:dR w) (Bo:List Int) (HBO:Hid (∀x,q7 (iT n kl) Ps.flatten=x→x=Bo)):
 Calls prog 85 #[.int .i64 n,.slice a kl kcap,.slice (some ⟨pb,po,none⟩) np cap] w fun e w'=>e=.returned (.agg (Iv .u8 Bo))∧Below w.heap.size w w':=by
 have hzb:=fT
 have HT:Hid _:=ht
 have HP:Hid _:=hp
 clear ht hp
 have hBo:Bo.length=32:=by rw[←HBO.out _ rfl];exact q8 _ _
 have hkl:kl≤64:=by have:=HK.out;omega
 have HB1:Hid (Below w.heap.size w (w.alloc (.cells (Iv .u8 (aA 32)) 22))):=(Below.refl _ _).alloc (nQ _) _
 have G0:Hid ((w.alloc (.cells (Iv .u8 (aA 32)) 22)).heap[w.heap.size]? =some (.cells (Iv .u8 (aA 32)) 22)):=hAN _ _
 go_enter func85,ntmps85
 go_wp2_with fail
 obtain⟨W,hW⟩:∃X,X=w.alloc (.cells (Iv .u8 (aA 32)) 22):=⟨_,rfl⟩
 rw[←hW]at HB1 G0⊢
 have hsW:w.heap.size<W.heap.size:=by rw[hW];simp
 clear hW
 obtain⟨h0,hh0d⟩:∃x,iT n kl=x:=⟨_,rfl⟩
 have hh0:h0.length=8:=by rw[←hh0d];exact nF _ _
 have h032:Hid (bF h0):=by show bF h0;rw[←hh0d];exact vM _ _
 rw[hh0d]at HBO
 refine(xF n kl HK hkl hn a kcap W (HT.out.later HB1.out (nQ _)) h0 hh0d).mono ?_
 clear hh0d
 rintro e w1 ⟨rfl,hb1⟩
 have HB2:Hid (Below w.heap.size w w1):=HB1.out.trans (hb1.mono (by omega))
 have G1:Hid _:=(hb1.block w.heap.size hsW).trans G0.out
 have hs1:w.heap.size<w1.heap.size:=by have:=hb1.size;omega
 clear hb1 HB1 G0
 go_wp2_with fail
 refine(sN h0 [] Ps vs 0 0 0 h0 (aA 64) rfl (qO.start h0 (aA 64) rfl) (.inr rfl) hh0 h032.out (fun i=>by simp) (by simpa using hlen) np cap pb po w1 (HP.out.later HB2.out (nQ _)) (HT.out.later HB2.out (nQ _))).mono ?_
 rintro e w2 ⟨k,t,fn,h,b,rfl,htk,s,hk,hb2⟩
 have HB3:Hid (Below w.heap.size w w2):=HB2.out.trans (hb2.mono (by omega))
 have G2:Hid _:=(hb2.block w.heap.size hs1).trans G1.out
 have hs2:w.heap.size<w2.heap.size:=by have:=hb2.size;omega
 have S:Hid _:=s
 have HTK:Hid _:=htk
 clear hb2 HB2 G1 s htk
 go_wp2_with fail
 refine(AU h0 Ps.flatten h b k t fn HTK.out S.out hk hh0 h032.out HP.out.bytes hlen w2 (HT.out.later HB3.out (nQ _)) Bo (HBO.out _ rfl)).mono ?_
 rintro e w3 ⟨rfl,hb3⟩
 have HB4:Hid (Below w.heap.size w w3):=HB3.out.trans (hb3.mono (by omega))
 have G3:Hid _:=(hb3.block w.heap.size hs2).trans G2.out
 clear hb3 HB3 G2 S HTK
 have hi32:Hid ((prog.info? 22).map (·.size)=some (Iv .u8 Bo).size):=by show _=_;rw[aD,hBo];exact iB
 go_wp2_with(refine wpPr rfl 22 _ _ rfl w.heap.size (Iv .u8 Bo) rfl rfl _ _ G3.out hi32.out ?hs (aG _ _) ?_)
 case hs=>rw[aD,aD,hBo];rfl
 intro W9 hP9
 go_wp2
 exact bodyPost_ret (v:=.agg (Iv .u8 Bo)) (results_cell_row rfl _ _ _ _ (Iv .u8 Bo) _ _ rfl hP9.here underlying22 rfl hi32.out) rfl ⟨rfl,hP9.below _ _ HB4.out (nQ _)⟩
def dM (D:List Int):List Int:=q7 (iT 32 0) D
theorem bV (D:List Int):(dM D).length=32:=q8 _ _
set_option maxRecDepth 10000 in
theorem pN (Ps:List (List Int)) (vs:List Value) (np cap pb po:Nat) (w:World) (hp:dZ w pb po np vs Ps) (hlen:Ps.flatten.length≤1000000000000) (ht:dR w) (Bo:List Int) (HBO:Hid (∀x,dM Ps.flatten=x→x=Bo)):
 Calls prog 61 #[.slice (some ⟨pb,po,none⟩) np cap] w fun e w'=>e=.returned (.agg (Iv .u8 Bo))∧Below w.heap.size w w':=by
 have hzb:=fT
 have HT:Hid _:=ht
 have HP:Hid _:=hp
 clear ht hp
 have hBo:Bo.length=32:=by rw[←HBO.out _ rfl];exact bV _
 have HB1:Hid (Below w.heap.size w (w.alloc (.cells (Iv .u8 (aA 32)) 22))):=(Below.refl _ _).alloc (nQ _) _
 have G0:Hid ((w.alloc (.cells (Iv .u8 (aA 32)) 22)).heap[w.heap.size]? =some (.cells (Iv .u8 (aA 32)) 22)):=hAN _ _
 go_enter func61,ntmps61
 go_wp2_with fail
 obtain⟨W,hW⟩:∃X,X=w.alloc (.cells (Iv .u8 (aA 32)) 22):=⟨_,rfl⟩
 rw[←hW]at HB1 G0⊢
 have hsW:w.heap.size<W.heap.size:=by rw[hW];simp
 clear hW
 refine(TD 32 0 rfl (by decide) none 0 Ps vs np cap pb po W (HP.out.later HB1.out (nQ _)) hlen (HT.out.later HB1.out (nQ _)) Bo HBO).mono ?_
 rintro e w1 ⟨rfl,hb1⟩
 have HB2:Hid (Below w.heap.size w w1):=HB1.out.trans (hb1.mono (by omega))
 have G1:Hid _:=(hb1.block w.heap.size hsW).trans G0.out
 clear hb1 HB1 G0
 have hi32:Hid ((prog.info? 22).map (·.size)=some (Iv .u8 Bo).size):=by show _=_;rw[aD,hBo];exact iB
 go_wp2_with(refine wpPr rfl 22 _ _ rfl w.heap.size (Iv .u8 Bo) rfl rfl _ _ G1.out hi32.out ?hs (aG _ _) ?_)
 case hs=>rw[aD,aD,hBo];rfl
 intro W9 hP9
 go_wp2
 exact bodyPost_ret (v:=.agg (Iv .u8 Bo)) (results_cell_row rfl _ _ _ _ (Iv .u8 Bo) _ _ rfl hP9.here underlying22 rfl hi32.out) rfl ⟨rfl,hP9.below _ _ HB2.out (nQ _)⟩
structure Rw (w0:World) (R:List (Nat×Array Value×TypeId)) (W:World):Prop where
 bel:Below w0.heap.size w0 W
 row:∀r∈R,w0.heap.size≤r.1∧r.1<W.heap.size∧W.heap[r.1]? =some (.cells r.2.1 r.2.2)
variable {w0:World} {R:List (Nat×Array Value×TypeId)} {W W':World}
theorem Rw.start (w0:World):Rw w0 [] w0:=⟨Below.refl _ _,fun r h=>(by cases h)⟩
theorem Rw.size (h:Rw w0 R W):w0.heap.size≤W.heap.size:=h.bel.size
theorem Rw.later {B:Nat} (h:Rw w0 R W) (hb:Below B W W') (hB:W.heap.size≤B):Rw w0 R W':=
 have hb':Below W.heap.size W W':=hb.mono hB
 ⟨h.bel.trans (hb'.mono h.size),fun r hr=>⟨(h.row r hr).1,nJ (h.row r hr).2.1 hb.size,(hb'.block _ (h.row r hr).2.1).trans (h.row r hr).2.2⟩⟩
theorem Rw.drew (h:Rw w0 R W):Rw w0 R W.drew:=h.later (bDr (Below.refl W.heap.size W) 1) (nQ _)
theorem Rw.alloc (h:Rw w0 R W) (cs:Array Value) (t:TypeId):Rw w0 ((W.heap.size,cs,t)::R) (W.alloc (.cells cs t)):=by
 have h1:=h.later ((Below.refl W.heap.size W).alloc (nQ _) (.cells cs t)) (nQ _)
 refine⟨h1.bel,fun r hr=>?_⟩
 rcases List.mem_cons.1 hr with rfl|hr
 ·exact⟨h.size,by simp,hAN _ _⟩
 ·exact h1.row r hr
theorem Rw.sub {R':List (Nat×Array Value×TypeId)} (h:Rw w0 R W) (hs:∀r∈R',r∈R):Rw w0 R' W:=⟨h.bel,fun r hr=>h.row r (hs r hr)⟩
theorem Rw.put {b:Nat} {cs cs':Array Value} {t:TypeId} (h:Rw w0 ((b,cs,t)::R) W) (hP:wH W b cs' t W') (hne:∀r∈R,r.1≠b):Rw w0 ((b,cs',t)::R) W':=by
 have h0:=h.row _ mQ
 refine⟨hP.below _ _ h.bel h0.1,fun r hr=>?_⟩
 rcases List.mem_cons.1 hr with rfl|hr
 ·exact⟨h0.1,by rw[hP.size];exact h0.2.1,hP.here⟩
 ·have h1:=h.row r (mC _ hr)
  exact⟨h1.1,by rw[hP.size];exact h1.2.1,(hP.far _ (hne r hr)).trans h1.2.2⟩
theorem Rw.newRow {cs cs':Array Value} {t:TypeId} (h:Rw w0 R W) (hP:wH (W.alloc (.cells cs t)) W.heap.size cs' t W'):Rw w0 ((W.heap.size,cs',t)::R) W':=
 (h.alloc cs t).put hP (fun r hr=>Nat.ne_of_lt (h.row r hr).2.1)
section
variable {P:Program} {ops:Array Oper} {Q:Exit→Act→World→Prop} {md:Region.Mode} {S1:World→Prop} {W:World} {n0 z:Nat}
def jF (S1:World→Prop) (W:World) (n0 z:Nat) (listed:Array Bool) (w:World):Prop:=(listed.getD z false=false→S1 w)∧(listed.getD n0 false=false→w=W)
def mO (P:Program) (md:Region.Mode) (ops:Array Oper) (Q:Exit→Act→World→Prop) (S1:World→Prop) (W:World) (n0 z:Nat):Nat→Array Bool→Act→World→Prop
 | 0,listed,a,w=>Region.ready md ops listed=[]∧Q .normal a w
 | fuel+1,listed,a,w=>
   (Region.ready md ops listed=[]→Q .normal a w)∧
   ∀i∈Region.ready md ops listed,wpOp P ops Q i (fun a' w'=>jF S1 W n0 z (listed.setIfInBounds i true) w'∧mO P md ops Q S1 W n0 z fuel (listed.setIfInBounds i true) a' w') a w
theorem vF:∀(fuel:Nat) (listed:Array Bool) (a:Act) (w:World),mO P md ops Q S1 W n0 z fuel listed a w→wpAny P md ops Q fuel listed a w
 | 0,_,_,_,h=>h
 | fuel+1,_,_,_,h=>⟨h.1,fun i hi=>wpOp_mono (fun a' w' h'=>vF fuel _ a' w' h'.2) (h.2 i hi)⟩
theorem eD {listed:Array Bool} {i:Nat} {w:World} (hi:i≠n0) (hz:i≠z):jF S1 W n0 z (listed.setIfInBounds i true) w↔jF S1 W n0 z listed w:=by
 unfold jF
 rw[getD_set_ne false hi,getD_set_ne false hz]
theorem xJ {i:Nat} {oi:Oper} {v:Value} (hi:ops[i]? =some oi) (hin:i≠n0) (hiz:i≠z) (path:List Nat) (hpath:xC md ops i path=true) (hn0:n0∈path) (hsel:∀(j:Nat) (o:Oper) cs b,ops[j]? =some o→o.op≠ .select cs b)
 (hQ:∀c a w,Q (.panic c) (a.put oi.dst v) w→Q (.panic c) a w):
 ∀(fuel:Nat) (listed:Array Bool) (a:Act) (w:World),
  (∀j oj,ops[j]? =some oj→j≠i→listed.getD j true=false→(∀e∈oj.after,Region.binds md e=true→e.on≠i)→oi.apart ops oj=true)→
  i∈Region.ready md ops listed→YieldsIf P ops (fun w'=>w'=W) oi v a→jF S1 W n0 z listed w→(∀k∈path,listed.getD k false=false)→
  mO P md ops Q S1 W n0 z fuel (listed.setIfInBounds i true) (a.put oi.dst v) w→mO P md ops Q S1 W n0 z (fuel+1) listed a w:=by
 intro fuel
 induction fuel with
 | zero=>
   intro listed a w _ hr hy hS hun0 H
   refine⟨fun h=>(by rw[h]at hr;cases hr),fun j hj=>?_⟩
   by_cases hji:j=i
   ·subst hji;exact hy.wpOp hi (hS.2 (hun0 _ hn0)) ⟨(eD hin hiz).2 hS,H⟩
   ·have:=ready_mono hj hji
    rw[H.1]at this
    cases this
 | succ fuel ih=>
   intro listed a w hfree hr hy hS hun0 H
   refine⟨fun h=>(by rw[h]at hr;cases hr),fun j hj=>?_⟩
   by_cases hji:j=i
   ·subst hji;exact hy.wpOp hi (hS.2 (hun0 _ hn0)) ⟨(eD hin hiz).2 hS,H⟩
   ·have h1:=H.2 j (ready_mono hj hji)
    obtain⟨hjun,oj,hoj,hall⟩:=mem_ready.1 hj
    have hiun:=(mem_ready.1 hr).1
    have hnot:∀e∈oj.after,Region.binds md e=true→e.on≠i:=fun e he hb heq=>by
     have h1:=hall e he hb
     rw[heq,getD_both hiun]at h1
     cases h1
    have hjn:∀k∈path,j≠k:=by
     intro k hk hjk
     subst hjk
     obtain⟨p,hp,hw⟩:=sF path i hpath j hk
     obtain⟨o',ho',e,he,hb,hon⟩:=Region.waitsFor_spec hw
     have:o'=oj:=Option.some.inj (ho'.symm.trans hoj)
     subst this
     rcases hp with rfl|hp
     ·exact hnot e he hb hon
     ·have h3:=hall e he hb
      rw[hon,hun0 p hp]at h3
      cases h3
    have h2:=wpOp_putIf hoj (hfree j oj hoj hji hjun hnot) (fun cs b=>hsel i oi cs b hi) (fun cs b=>hsel j oj cs b hoj) hQ hy h1
    have hfree':∀k ok,ops[k]? =some ok→k≠i→(listed.setIfInBounds j true).getD k true=false→
     (∀e∈ok.after,Region.binds md e=true→e.on≠i)→oi.apart ops ok=true:=fun k ok hk hki hun hno=>by
     refine hfree k ok hk hki ?_ hno
     by_cases hjk:j=k
     ·subst hjk;exact hjun
     ·rw[getD_set_ne true hjk]at hun;exact hun
    refine wpOp_mono (fun a' w' h3=>?_) h2
    have h4:=h3.2.1
    rw[Array.setIfInBounds_comm _ _ (Ne.symm hji)]at h4
    have h5:=(eD hin hiz).1 h4
    refine⟨h5,ih (listed.setIfInBounds j true) a' w' hfree' (ready_mono hr (Ne.symm hji)) h3.1 h5 (fun k hk=>by rw[getD_set_ne false (hjn k hk)];exact hun0 k hk) ?_⟩
    rw[Array.setIfInBounds_comm _ _ hji]
    exact h3.2.2
theorem zR {i:Nat} {oi:Oper} {v:Value} (hi:ops[i]? =some oi) (hin:i≠n0) (hiz:i≠z) (path:List Nat) (hpath:xC md ops i path=true) (hn0:z∈path) (hsel:∀(j:Nat) (o:Oper) cs b,ops[j]? =some o→o.op≠ .select cs b)
 (hQ:∀c a w,Q (.panic c) (a.put oi.dst v) w→Q (.panic c) a w):
 ∀(fuel:Nat) (listed:Array Bool) (a:Act) (w:World),
  (∀j oj,ops[j]? =some oj→j≠i→listed.getD j true=false→(∀e∈oj.after,Region.binds md e=true→e.on≠i)→oi.apart ops oj=true)→
  i∈Region.ready md ops listed→YieldsIf P ops S1 oi v a→jF S1 W n0 z listed w→(∀k∈path,listed.getD k false=false)→
  mO P md ops Q S1 W n0 z fuel (listed.setIfInBounds i true) (a.put oi.dst v) w→mO P md ops Q S1 W n0 z (fuel+1) listed a w:=by
 intro fuel
 induction fuel with
 | zero=>
   intro listed a w _ hr hy hS hun0 H
   refine⟨fun h=>(by rw[h]at hr;cases hr),fun j hj=>?_⟩
   by_cases hji:j=i
   ·subst hji;exact hy.wpOp hi (hS.1 (hun0 _ hn0)) ⟨(eD hin hiz).2 hS,H⟩
   ·have:=ready_mono hj hji
    rw[H.1]at this
    cases this
 | succ fuel ih=>
   intro listed a w hfree hr hy hS hun0 H
   refine⟨fun h=>(by rw[h]at hr;cases hr),fun j hj=>?_⟩
   by_cases hji:j=i
   ·subst hji;exact hy.wpOp hi (hS.1 (hun0 _ hn0)) ⟨(eD hin hiz).2 hS,H⟩
   ·have h1:=H.2 j (ready_mono hj hji)
    obtain⟨hjun,oj,hoj,hall⟩:=mem_ready.1 hj
    have hiun:=(mem_ready.1 hr).1
    have hnot:∀e∈oj.after,Region.binds md e=true→e.on≠i:=fun e he hb heq=>by
     have h1:=hall e he hb
     rw[heq,getD_both hiun]at h1
     cases h1
    have hjn:∀k∈path,j≠k:=by
     intro k hk hjk
     subst hjk
     obtain⟨p,hp,hw⟩:=sF path i hpath j hk
     obtain⟨o',ho',e,he,hb,hon⟩:=Region.waitsFor_spec hw
     have:o'=oj:=Option.some.inj (ho'.symm.trans hoj)
     subst this
     rcases hp with rfl|hp
     ·exact hnot e he hb hon
     ·have h3:=hall e he hb
      rw[hon,hun0 p hp]at h3
      cases h3
    have h2:=wpOp_putIf hoj (hfree j oj hoj hji hjun hnot) (fun cs b=>hsel i oi cs b hi) (fun cs b=>hsel j oj cs b hoj) hQ hy h1
    have hfree':∀k ok,ops[k]? =some ok→k≠i→(listed.setIfInBounds j true).getD k true=false→
     (∀e∈ok.after,Region.binds md e=true→e.on≠i)→oi.apart ops ok=true:=fun k ok hk hki hun hno=>by
     refine hfree k ok hk hki ?_ hno
     by_cases hjk:j=k
     ·subst hjk;exact hjun
     ·rw[getD_set_ne true hjk]at hun;exact hun
    refine wpOp_mono (fun a' w' h3=>?_) h2
    have h4:=h3.2.1
    rw[Array.setIfInBounds_comm _ _ (Ne.symm hji)]at h4
    have h5:=(eD hin hiz).1 h4
    refine⟨h5,ih (listed.setIfInBounds j true) a' w' hfree' (ready_mono hr (Ne.symm hji)) h3.1 h5 (fun k hk=>by rw[getD_set_ne false (hjn k hk)];exact hun0 k hk) ?_⟩
    rw[Array.setIfInBounds_comm _ _ hji]
    exact h3.2.2
inductive Tag2
 | held|exact|only|tail|last
def jM (P:Program) (ops:Array Oper) (Q:Exit→Act→World→Prop) (S1:World→Prop) (W:World):List (Tag2×List Nat)→Act→World→Prop
 | [],a,w=>Q .normal a w
 | (.held,ks)::r,a,w=>wpQuiet P ops S1 (fun a'=>jM P ops Q S1 W r a' w) (bM ops ks) a
 | (.exact,ks)::r,a,w=>wpQuiet P ops (fun w'=>w'=W) (fun a'=>jM P ops Q S1 W r a' w) (bM ops ks) a
 | (.only,ks)::r,a,w=>wpList P ops (cJ (fun a' w'=>w'=W∧jM P ops Q S1 W r a' w') Q) (bM ops ks) a w
 | (.tail,ks)::r,a,w=>wpList P ops (cJ (fun a' w'=>S1 w'∧jM P ops Q S1 W r a' w') Q) (bM ops ks) a w
 | (.last,ks)::r,a,w=>wpList P ops (cJ (fun a' w'=>jM P ops Q S1 W r a' w') Q) (bM ops ks) a w
def tO (md:Region.Mode) (ops:Array Oper) (n0 z m:Nat):List Nat→Array Bool→Bool
 | [],_=>true
 | k::ks,listed=>(Region.ready md ops listed).contains k&&Region.free md ops listed k&&tE ops k&&(k !=n0)&&(k !=z)&&(xC md ops k (kO md ops m ops.size k)&&(kO md ops m ops.size k).contains m&&(kO md ops m ops.size k).all (fun j=> !(listed.getD j false)))&&tO md ops n0 z m ks (listed.setIfInBounds k true)
def m9 (md:Region.Mode) (ops:Array Oper) (n0 z:Nat):List (Tag2×List Nat)→Array Bool→Bool
 | [],listed=>(Region.ready md ops listed).isEmpty
 | (.held,ks)::r,listed=>tO md ops n0 z z ks listed&&m9 md ops n0 z r (mJ ks listed)
 | (.exact,ks)::r,listed=>tO md ops n0 z n0 ks listed&&m9 md ops n0 z r (mJ ks listed)
 | (.only,[k])::r,listed=>decide (Region.ready md ops listed=[k])&&(k !=n0)&&(k !=z)&& !(listed.getD n0 false)&&m9 md ops n0 z r (listed.setIfInBounds k true)
 | (.tail,[k])::r,listed=>decide (Region.ready md ops listed=[k])&&(k==n0||listed.getD n0 false)&&m9 md ops n0 z r (listed.setIfInBounds k true)
 | (.last,[k])::r,listed=>decide (Region.ready md ops listed=[k])&&(k==n0||listed.getD n0 false)&&(k==z||listed.getD z false)&&m9 md ops n0 z r (listed.setIfInBounds k true)
 | _,_=>false
def i7:List (Tag2×List Nat)→Nat
 | []=>0
 | (_,ks)::r=>ks.length+i7 r
theorem tP (hs:Region.noSelect ops=true) (hQ:∀c a d v w,Q (.panic c) (a.put d v) w→Q (.panic c) a w) (n:Nat):∀(ks:List Nat) (listed:Array Bool) (a:Act) (w:World),tO md ops n0 z n0 ks listed=true→jF S1 W n0 z listed w→
 wpQuiet P ops (fun w'=>w'=W) (fun a'=>mO P md ops Q S1 W n0 z n (mJ ks listed) a' w) (bM ops ks) a→mO P md ops Q S1 W n0 z (ks.length+n) listed a w
 | [],listed,a,w,_,_,h=>by rw[List.length_nil,Nat.zero_add];exact h
 | k::ks,listed,a,w,hB,hS,h=>by
   simp only[tO,Bool.and_eq_true,bne_iff_ne,ne_eq,List.contains_eq_mem,decide_eq_true_eq,List.all_eq_true,Bool.not_eq_true']at hB
   obtain⟨⟨⟨⟨⟨⟨hr,hf⟩,hp⟩,hk⟩,hkz⟩,⟨hw0,hn0⟩,hun⟩,hB'⟩:=hB
   unfold tE at hp
   split at hp
   ·rename_i o ho
    have hops:bM ops (k::ks)=o::bM ops ks:=by simp[bM,ho]
    rw[hops]at h
    unfold wpQuiet at h
    rw[show(k::ks).length+n=(ks.length+n)+1 by simp;omega]
    by_cases hw:Region.wanted o (yielded ops a.tmps)=true
    ·simp only[hw,if_true]at h
     obtain⟨v,h1,h2⟩:=h
     refine xJ ho hk hkz _ hw0 hn0 (Region.noSelect_spec hs) (fun c a w=>hQ c a _ _ w) _ listed a w (Region.free_spec ho hf) (by simpa using hr) (.inl ⟨hw,fun w' hw'=>?_⟩) hS hun (tP hs hQ n ks _ _ w hB' ((eD hk hkz).2 hS) h2)
     have h3:=h1 w' hw'
     unfold Oper.quietAt at h3
     generalize hrun:(execOp a.eval o).run P w'=r at h3
     cases r with
     | ok m w''=>
       obtain⟨u,rfl⟩:=nZ hp hrun
       simp only[Oper.quietUpon]at h3
       rw[h3.1,h3.2]
     | halt x w''=>simp only[Oper.quietUpon]at h3
    ·simp only[hw]at h
     exact xJ ho hk hkz _ hw0 hn0 (Region.noSelect_spec hs) (fun c a w=>hQ c a _ _ w) _ listed a w (Region.free_spec ho hf) (by simpa using hr) (.inr ⟨by simpa using hw,rfl⟩) hS hun (tP hs hQ n ks _ _ w hB' ((eD hk hkz).2 hS) h)
   ·cases hp
theorem vC (hs:Region.noSelect ops=true) (hQ:∀c a d v w,Q (.panic c) (a.put d v) w→Q (.panic c) a w) (n:Nat):∀(ks:List Nat) (listed:Array Bool) (a:Act) (w:World),tO md ops n0 z z ks listed=true→jF S1 W n0 z listed w→
 wpQuiet P ops S1 (fun a'=>mO P md ops Q S1 W n0 z n (mJ ks listed) a' w) (bM ops ks) a→mO P md ops Q S1 W n0 z (ks.length+n) listed a w
 | [],listed,a,w,_,_,h=>by rw[List.length_nil,Nat.zero_add];exact h
 | k::ks,listed,a,w,hB,hS,h=>by
   simp only[tO,Bool.and_eq_true,bne_iff_ne,ne_eq,List.contains_eq_mem,decide_eq_true_eq,List.all_eq_true,Bool.not_eq_true']at hB
   obtain⟨⟨⟨⟨⟨⟨hr,hf⟩,hp⟩,hk⟩,hkz⟩,⟨hw0,hn0⟩,hun⟩,hB'⟩:=hB
   unfold tE at hp
   split at hp
   ·rename_i o ho
    have hops:bM ops (k::ks)=o::bM ops ks:=by simp[bM,ho]
    rw[hops]at h
    unfold wpQuiet at h
    rw[show(k::ks).length+n=(ks.length+n)+1 by simp;omega]
    by_cases hw:Region.wanted o (yielded ops a.tmps)=true
    ·simp only[hw,if_true]at h
     obtain⟨v,h1,h2⟩:=h
     refine zR ho hk hkz _ hw0 hn0 (Region.noSelect_spec hs) (fun c a w=>hQ c a _ _ w) _ listed a w (Region.free_spec ho hf) (by simpa using hr) (.inl ⟨hw,fun w' hw'=>?_⟩) hS hun (vC hs hQ n ks _ _ w hB' ((eD hk hkz).2 hS) h2)
     have h3:=h1 w' hw'
     unfold Oper.quietAt at h3
     generalize hrun:(execOp a.eval o).run P w'=r at h3
     cases r with
     | ok m w''=>
       obtain⟨u,rfl⟩:=nZ hp hrun
       simp only[Oper.quietUpon]at h3
       rw[h3.1,h3.2]
     | halt x w''=>simp only[Oper.quietUpon]at h3
    ·simp only[hw]at h
     exact zR ho hk hkz _ hw0 hn0 (Region.noSelect_spec hs) (fun c a w=>hQ c a _ _ w) _ listed a w (Region.free_spec ho hf) (by simpa using hr) (.inr ⟨by simpa using hw,rfl⟩) hS hun (vC hs hQ n ks _ _ w hB' ((eD hk hkz).2 hS) h)
   ·cases hp
theorem tL {m:Nat} {w:World}:∀(ks:List Nat) (listed:Array Bool),tO md ops n0 z m ks listed=true→jF S1 W n0 z listed w→jF S1 W n0 z (mJ ks listed) w
 | [],_,_,h=>h
 | k::ks,listed,hB,h=>by
   simp only[tO,Bool.and_eq_true,bne_iff_ne,ne_eq]at hB
   exact tL ks _ hB.2 ((eD hB.1.1.1.2 hB.1.1.2).2 h)
theorem lI (hs:Region.noSelect ops=true) (hQ:∀c a d v w,Q (.panic c) (a.put d v) w→Q (.panic c) a w):∀(runs:List (Tag2×List Nat)) (listed:Array Bool) (a:Act) (w:World),m9 md ops n0 z runs listed=true→jF S1 W n0 z listed w→
 jM P ops Q S1 W runs a w→mO P md ops Q S1 W n0 z (i7 runs) listed a w
 | [],listed,a,w,hB,_,h=>by
   simp only[m9,List.isEmpty_iff]at hB
   exact⟨hB,h⟩
 | (.held,ks)::r,listed,a,w,hB,hS,h=>by
   simp only[m9,Bool.and_eq_true]at hB
   refine vC hs hQ _ ks listed a w hB.1 hS (iE (fun a' h'=>?_) _ _ h)
   refine lI hs hQ r _ a' w hB.2 ?_ h'
   exact tL ks listed hB.1 hS
 | (.exact,ks)::r,listed,a,w,hB,hS,h=>by
   simp only[m9,Bool.and_eq_true]at hB
   refine tP hs hQ _ ks listed a w hB.1 hS (iE (fun a' h'=>?_) _ _ h)
   refine lI hs hQ r _ a' w hB.2 ?_ h'
   exact tL ks listed hB.1 hS
 | (.only,[k])::r,listed,a,w,hB,hS,h=>by
   simp only[m9,Bool.and_eq_true,decide_eq_true_eq,bne_iff_ne,ne_eq,Bool.not_eq_true']at hB
   obtain⟨⟨⟨⟨hr,hk⟩,hkz⟩,hun⟩,hB'⟩:=hB
   rw[show i7 ((Tag2.only,[k])::r)=i7 r+1 by simp[i7];omega]
   refine⟨fun h0=>(by rw[hr]at h0;cases h0),fun i hi=>?_⟩
   rw[hr]at hi
   obtain rfl:i=k:=by simpa using hi
   obtain⟨_,o,ho,_⟩:=mem_ready.1 (show i∈Region.ready md ops listed by rw[hr];simp)
   have hops:bM ops [i]=[o]:=by simp[bM,ho]
   simp only[jM,hops]at h
   refine wpOp_mono (fun a' w' h'=>?_) (aO ho h)
   have hl:jF S1 W n0 z (listed.setIfInBounds i true) w':=by
    refine(eD hk hkz).2 ⟨fun hzz=>?_,fun _=>h'.1⟩
    rw[h'.1,←hS.2 hun]
    exact hS.1 hzz
   exact⟨hl,lI hs hQ r _ a' w' hB' hl h'.2⟩
 | (.tail,[k])::r,listed,a,w,hB,hS,h=>by
   simp only[m9,Bool.and_eq_true,decide_eq_true_eq,Bool.or_eq_true,beq_iff_eq]at hB
   obtain⟨⟨hr,hk⟩,hB'⟩:=hB
   rw[show i7 ((Tag2.tail,[k])::r)=i7 r+1 by simp[i7];omega]
   refine⟨fun h0=>(by rw[hr]at h0;cases h0),fun i hi=>?_⟩
   rw[hr]at hi
   obtain rfl:i=k:=by simpa using hi
   obtain⟨hiun,o,ho,_⟩:=mem_ready.1 (show i∈Region.ready md ops listed by rw[hr];simp)
   have hops:bM ops [i]=[o]:=by simp[bM,ho]
   simp only[jM,hops]at h
   refine wpOp_mono (fun a' w' h'=>?_) (aO ho h)
   have hl:jF S1 W n0 z (listed.setIfInBounds i true) w':=by
    refine⟨fun _=>h'.1,fun hx=>?_⟩
    exfalso
    rcases hk with hk|hk
    ·subst hk
     rcases Nat.lt_or_ge i listed.size with hlt|hge
     ·simp[hlt]at hx
     ·simp[Array.getElem?_eq_none hge]at hiun
    ·rw[getD_set_true hk]at hx
     cases hx
   exact⟨hl,lI hs hQ r _ a' w' hB' hl h'.2⟩
 | (.last,[k])::r,listed,a,w,hB,hS,h=>by
   simp only[m9,Bool.and_eq_true,decide_eq_true_eq,Bool.or_eq_true,beq_iff_eq]at hB
   obtain⟨⟨⟨hr,hk⟩,hkz⟩,hB'⟩:=hB
   rw[show i7 ((Tag2.last,[k])::r)=i7 r+1 by simp[i7];omega]
   refine⟨fun h0=>(by rw[hr]at h0;cases h0),fun i hi=>?_⟩
   rw[hr]at hi
   obtain rfl:i=k:=by simpa using hi
   obtain⟨hiun,o,ho,_⟩:=mem_ready.1 (show i∈Region.ready md ops listed by rw[hr];simp)
   have hops:bM ops [i]=[o]:=by simp[bM,ho]
   simp only[jM,hops]at h
   refine wpOp_mono (fun a' w' h'=>?_) (aO ho h)
   have hl:jF S1 W n0 z (listed.setIfInBounds i true) w':=by
    refine⟨fun hx=>?_,fun hx=>?_⟩
    ·exfalso
     rcases hkz with hk|hk
     ·subst hk
      rcases Nat.lt_or_ge i listed.size with hlt|hge
      ·simp[hlt]at hx
      ·simp[Array.getElem?_eq_none hge]at hiun
     ·rw[getD_set_true hk]at hx
      cases hx
    exfalso
    rcases hk with hk|hk
    ·subst hk
     rcases Nat.lt_or_ge i listed.size with hlt|hge
     ·simp[hlt]at hx
     ·simp[Array.getElem?_eq_none hge]at hiun
    ·rw[getD_set_true hk]at hx
     cases hx
   exact⟨hl,lI hs hQ r _ a' w' hB' hl h'⟩
theorem wRl2 {id:Nat} {a:Act} {w:World} {l:List Oper} (n0 z:Nat) (S1:World→Prop) (runs:List (Tag2×List Nat)) (hm:P.follows .mixedOrders=true)
 (hB:(Region.noSelect l.toArray&&decide (i7 runs=l.toArray.size)&&m9 .any l.toArray n0 z runs (Array.replicate l.toArray.size false))=true)
 (hS:S1 w.drew) (h:jM P l.toArray (uB Q) S1 w.drew runs a w.drew):(Code.region id l.toArray true).wp P Q a w:=by
 simp only[Bool.and_eq_true,decide_eq_true_eq]at hB
 refine Code.wp_mono (Q:=uB Q) DR ?_
 have h1:=lI (md:=.any) (n0:=n0) (z:=z) (Q:=uB Q) hB.1.1 (fun _ _ _ _ _ h=>h) runs (Array.replicate l.toArray.size false) a w.drew hB.2 ⟨fun _=>hS,fun _=>rfl⟩ h
 rw[hB.1.2]at h1
 exact wp_region_any hm (vF _ _ _ _ h1)
end
theorem m6 {Q:Exit→Act→World→Prop} {a:Act} {w:World} (h:Q .normal a w):cJ (fun a' w'=>uB Q Exit.normal a' w') (uB Q) Exit.normal a w:=h
end Go.Proofs.YtgcepckaolkeoaaGreatDoor
