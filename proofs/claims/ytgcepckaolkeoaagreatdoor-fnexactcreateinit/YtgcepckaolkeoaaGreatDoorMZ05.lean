import Derived.Test.YtgcepckaolkeoaaGreatDoorMZ04
namespace Go.Proofs.YtgcepckaolkeoaaGreatDoor
open Go.RowKit
open Go.Proofs.Tryz
open Go renaming heap_alloc_new → hAN, heap_alloc_old → hAO, rounds_succ → rdS, wpList_load_row → wpLr
open Go.World renaming block_lt_of_cell? → wJ
open List renaming drop_zero → dY, length_append → lQ, length_map → lU, replicate → rQ, take_succ_eq_append_getElem → tQ
open Nat renaming le_refl → nQ, lt_of_lt_of_le → nJ
set_option linter.unusedVariables false
def eE (w:World) (v:Value) (P:List Int):Prop:=∃a n cap,v=.slice a n cap∧P.length=n∧n≤cap∧cap≤9223372036854775807∧aE P∧(n=0∨∃bb oo,a=some ⟨bb,oo,none⟩∧∀j,j<n→w.cell? ⟨bb,oo+j,none⟩=some (.int .u8 (P.getD j 0)))
theorem eE.later {w w':World} {v:Value} {P:List Int} {B:Nat} (h:eE w v P) (hb:Below B w w') (hB:w.heap.size≤B):eE w' v P:=by
 obtain⟨a,n,cap,h1,h2,h3,h4,h5,h6⟩:=h
 refine⟨a,n,cap,h1,h2,h3,h4,h5,h6.imp id ?_⟩
 rintro⟨bb,oo,rfl,hc⟩
 exact⟨bb,oo,rfl,fun j hj=>(hb.cell (p:=⟨bb,oo+j,none⟩) (nJ (wJ _ _ (hc j hj)) hB)).trans (hc j hj)⟩
set_option maxRecDepth 10000 in
theorem AM (h b:List Int) (t fn:Nat) (hh:h.length=8) (hb:b.length=64) (a:Option Addr) (cap:Nat) (w:World):
 Calls prog 119 #[.agg (dE h t b fn),.slice a 0 cap] w fun e w'=>e=.returned (.agg (dE h t b fn))∧Below w.heap.size w w':=by
 have hzv:=D8
 have hiS:Hid ((prog.info? 184).map (·.size)=some (dE h t b fn).size):=by show _=_;rw[eW h t b fn hh hb];exact yY
 obtain⟨W,hW,g0,g1,hs,hB⟩:=kG w (.cells (dE h t b fn) 184) (.cells (dE (aA 8) 0 (aA 64) 0) 184)
 have G0:Hid _:=g0
 have G1:Hid _:=g1
 have HB:Hid _:=hB
 clear g0 g1 hB
 go_enter func119,ntmps119
 go_wp2_with fail
 refine wp_loop_rounds 1 ?_
 rw[rdS]
 go_wp2_with(first
  | refine wpLr rfl 184 _ rfl w.heap.size rfl _ (dE h t b fn) _ _ G0.out underlying184 rfl hiS.out ?_
  | refine wpPr rfl 184 _ _ rfl (w.heap.size+1) (dE h t b fn) rfl rfl _ _ G1.out hiS.out ?hs (oL _ _ _ _) ?_)
 case hs=>rw[eW _ _ _ _ hh hb];rfl
 intro W9 hP9
 go_wp2
 exact bodyPost_ret (v:=.agg (dE h t b fn)) (results_cell_row rfl _ _ _ _ (dE h t b fn) _ _ rfl hP9.here underlying184 rfl hiS.out) rfl ⟨rfl,hP9.below _ _ HB.out (by omega)⟩
theorem A9 (h0 D P:List Int) (k t fn:Nat) (h b:List Int) (htk:t=64*k) (s:pV h0 D k fn h b) (hk:0<fn∨k=0) (hh0:h0.length=8) (h032:bC h0) (hD:aE D) (hlen:D.length+P.length≤1000000000000) (v:Value) (w:World) (hp:eE w v P) (ht:dU w):
 Calls prog 119 #[.agg (dE h t b fn),v] w fun e w'=>∃(k' t' fn':Nat) (h' b':List Int),e=.returned (.agg (dE h' t' b' fn'))∧t'=64*k'∧pV h0 (D++P) k' fn' h' b'∧(0<fn'∨k'=0)∧Below w.heap.size w w':=by
 obtain⟨a,n,cap,rfl,hn,hc1,hc2,hB,hz|⟨bb,oo,rfl,hc⟩⟩:=hp
 ·subst hz
  obtain rfl:P=[]:=List.length_eq_zero_iff.1 hn
  refine(AM h b t fn (by rw[s.words];exact iH h0 _ hh0 k) s.blk a cap w).mono ?_
  rintro e w' ⟨rfl,hb⟩
  exact⟨k,t,fn,h,b,rfl,htk,by simpa using s,hk,hb⟩
 ·exact AL h0 D P k t fn h b htk s hk hh0 h032 hD hB n cap hn hc1 hc2 (by omega) bb oo w hc (fun hpos=>wJ _ _ (hc 0 hpos)) ht
theorem wI:∀(Ps:List (List Int)),(∀P∈Ps,aE P)→aE Ps.flatten
 | [],_=>fun i=>by simp
 | P::Ps,h=>by
   rw[List.flatten_cons]
   exact bI (h P (by simp)) (wI Ps fun Q hQ=>h Q (by simp[hQ]))
theorem eE.bytes {w:World} {v:Value} {P:List Int} (h:eE w v P):aE P:=by
 obtain⟨a,n,cap,h1,h2,h3,h4,h5,h6⟩:=h
 exact h5
set_option maxRecDepth 10000 in
set_option maxHeartbeats 1000000 in
theorem MT (h0 D:List Int) (Ps:List (List Int)) (vs:List Value) (k t fn:Nat) (h b:List Int) (htk:Hid (t=64*k)) (s:pV h0 D k fn h b) (hk:0<fn∨k=0) (hh0:h0.length=8) (h032:bC h0) (hD:aE D) (hlen:D.length+Ps.flatten.length≤1000000000000)
 (np cap pb po:Nat) (hvs:vs.length=np) (hPs:Ps.length=np) (hnp:np≤1000) (w:World) (hpb:0<np→pb<w.heap.size) (hc:∀i (hi:i<vs.length),w.cell? ⟨pb,po+i,none⟩=some vs[i]) (hp:∀i (hi:i<vs.length) (hi':i<Ps.length),eE w vs[i] Ps[i]) (ht:dU w):
 Calls prog 106 #[.agg (dE h t b fn),.slice (some ⟨pb,po,none⟩) np cap] w fun e w'=>∃(k' t' fn':Nat) (h' b':List Int),e=.returned (.agg (dE h' t' b' fn'))∧t'=64*k'∧pV h0 (D++Ps.flatten) k' fn' h' b'∧(0<fn'∨k'=0)∧Below w.heap.size w w':=by
 have hzv:=D8
 have HT:Hid _:=ht
 have HC:Hid _:=hc
 have HP:Hid _:=hp
 have HS:Hid _:=s
 have HK:Hid _:=hk
 clear ht hc hp s hk
 go_enter func106,ntmps106
 go_wp2_with fail
 go_loopw [9] (fun v wr=>∃(j k' t' fn':Nat) (h' b':List Int),j≤np∧v=.int .i64 j∧t'=64*k'∧pV h0 (D++(Ps.take j).flatten) k' fn' h' b'∧(0<fn'∨k'=0)∧wr.heap[w.heap.size]? =some (.cells (dE h' t' b' fn') 184)∧wr.heap[w.heap.size+1]? =some (.cells (dE (aA 8) 0 (aA 64) 0) 184)∧Below w.heap.size w wr) (fun v _=>np - (intOf v).toNat)
 case atStart=>
  obtain⟨W,hW,g0,g1,hs,hb⟩:=kG w (.cells (dE h t b fn) 184) (.cells (dE (aA 8) 0 (aA 64) 0) 184)
  subst hW
  exact⟨0,k,t,fn,h,b,Nat.zero_le _,rfl,htk.out,by simpa using HS.out,HK.out,g0,g1,hb⟩
 case round=>
  obtain⟨j,k1,t1,fn1,h1,b1,hj,rfl,ht1,s1,hk1,M0,M1,MB⟩:=hrel
  have hh1:h1.length=8:=by rw[s1.words];exact iH h0 _ hh0 k1
  have hb1:=s1.blk
  have hiS:Hid (∀(h':List Int) (t' f':Int) (b':List Int),h'.length=8→b'.length=64→(prog.info? 184).map (·.size)=some (dE h' t' b' f').size):=fun h' t' f' b' hh' hb'=>by rw[eW h' t' b' f' hh' hb'];exact yY
  clear HS HK htk
  have S1:Hid _:=s1
  have HT1:Hid _:=ht1
  have N0:Hid _:=M0
  have N1:Hid _:=M1
  have NB:Hid _:=MB
  have hlw:w.heap.size+1<wr.heap.size:=(Array.getElem?_eq_some_iff.1 M1).1
  clear s1 ht1 M0 M1 MB
  by_cases hlt:j<np
  ·have cv:wr.cell? ⟨pb,po+j,none⟩=some (vs[j]'(by omega)):=(NB.out.cell (p:=⟨pb,po+j,none⟩) (hpb (by omega))).trans (HC.out j (by omega))
   have HPJ:Hid (eE wr (vs[j]'(by omega)) (Ps[j]'(by omega))):=(HP.out j (by omega) (by omega)).later NB.out (nQ _)
   have HFL:Hid ((Ps.take (j+1)).flatten=(Ps.take j).flatten++Ps[j]'(by omega)):=by
    show _=_
    rw[tQ (by omega),List.flatten_append]
    simp
   have HBD:Hid (aE (D++(Ps.take j).flatten)):=by
    refine bI hD (wI _ fun P hP=>?_)
    obtain⟨i,hi,rfl⟩:=List.mem_iff_getElem.1 (List.mem_of_mem_take hP)
    exact(HP.out i (by omega) hi).bytes
   have HLN:Hid ((D++(Ps.take j).flatten).length+(Ps[j]'(by omega)).length≤1000000000000):=by
    have e:(Ps.take (j+1)).flatten.length≤Ps.flatten.length:=by
     have:Ps.flatten=(Ps.take (j+1)).flatten++(Ps.drop (j+1)).flatten:=by rw[←List.flatten_append,List.take_append_drop]
     rw[this,lQ]
     omega
    rw[HFL.out,lQ]at e
    show _≤_
    rw[lQ]
    omega
   generalize vs[j]'(by omega)=v at*
   generalize Ps[j]'(by omega)=P at*
   go_wp2_with(refine wpLr rfl 184 _ rfl w.heap.size rfl _ (dE h1 t1 b1 fn1) _ _ N0.out underlying184 rfl (hiS.out _ _ _ _ hh1 hb1) ?_)
   refine(A9 h0 _ P k1 t1 fn1 h1 b1 HT1.out S1.out hk1 hh0 h032 HBD.out HLN.out v wr HPJ.out (HT.out.later NB.out (nQ _))).mono ?_
   rintro e w1 ⟨k2,t2,fn2,h2,b2,rfl,ht2,s2,hk2,hb4⟩
   have hh2:h2.length=8:=by rw[s2.words];exact iH h0 _ hh0 k2
   have hb2:=s2.blk
   have S2:Hid _:=s2
   have HT2:Hid _:=ht2
   have P0:Hid _:=(hb4.block w.heap.size (by omega)).trans N0.out
   have P1:Hid _:=(hb4.block (w.heap.size+1) (by omega)).trans N1.out
   have PB:Hid (Below w.heap.size w w1):=NB.out.trans (hb4.mono NB.out.size)
   clear hb4 N0 N1 NB s2 ht2 cv
   go_wp2_with(refine wpPr rfl 184 _ _ rfl w.heap.size (dE h2 t2 b2 fn2) rfl rfl _ _ P0.out (hiS.out h2 _ _ b2 hh2 hb2) ?hs (oL _ _ _ _) ?_)
   case hs=>rw[eW _ _ _ _ hh1 hb1,eW _ _ _ _ hh2 hb2]
   intro w2 hP2
   have Q0:Hid _:=hP2.here
   have Q1:Hid _:=(hP2.far (w.heap.size+1) (by omega)).trans P1.out
   have QB:Hid (Below w.heap.size w w2):=hP2.below _ _ PB.out (nQ _)
   clear hP2 P0 P1 PB
   go_wp2
   go_roundw
   case rel=>exact⟨j+1,k2,t2,fn2,h2,b2,by omega,by go_num,HT2.out,by rw[HFL.out,←List.append_assoc];exact S2.out,hk2,Q0.out,Q1.out,QB.out⟩
   case measure=>simp[intOf];omega
  ·obtain rfl:j=np:=by omega
   rw[List.take_of_length_le (by omega)]at S1
   go_wp2_with(first
    | refine wpLr rfl 184 _ rfl w.heap.size rfl _ (dE h1 t1 b1 fn1) _ _ N0.out underlying184 rfl (hiS.out _ _ _ _ hh1 hb1) ?_
    | refine wpPr rfl 184 _ _ rfl (w.heap.size+1) (dE h1 t1 b1 fn1) rfl rfl _ _ N1.out (hiS.out _ _ _ _ hh1 hb1) ?hs (oL _ _ _ _) ?_)
   case hs=>rw[eW _ _ _ _ hh1 hb1];rfl
   intro W9 hP9
   go_wp2
   exact bodyPost_ret (v:=.agg (dE h1 t1 b1 fn1)) (results_cell_row rfl _ _ _ _ (dE h1 t1 b1 fn1) _ _ rfl hP9.here underlying184 rfl (hiS.out _ _ _ _ hh1 hb1)) rfl ⟨k1,t1,fn1,h1,b1,rfl,HT1.out,S1.out,hk1,hP9.below _ _ NB.out (by omega)⟩
def pE (K:List Int):List Int:=if K.length=0 then[]else K++rQ (64 - K.length) 0
theorem QH:∀W,(zeroValue 147).run prog W=.ok (.agg (Iv .u8 (aA 64))) W:=fun W=>by kernel_rfl
theorem WS:prog.built 184 [(0,.agg (Iv .u32 k8))]=some (dE k8 0 (aA 64) 0):=by kernel_rfl
theorem sZ {P:Program} {ops:Array Oper} {rest:List Oper} {o:Oper} {a:Act} {w:World} {Q:Exit→Act→World→Prop} (hg:o.guard=none) (t:TypeId) (parts:Array (Nat×Operand)) (ho:o.op=.build t parts) (cs:Array Value)
 (hf:P.built t (parts.map fun(i,x)=>(i,a.eval x)).toList=some cs) (h:wpList P ops Q rest (a.put o.dst (.agg cs)) w):wpList P ops Q (o::rest) a w:=
 wpList_build hg t parts ho (by rw[hf];rfl) (by rw[hf];exact h)
theorem dU.ivRange {w:World} (h:dU w):w.rangeAt 1 0 (k8.map (Value.int .u32)):=by
 intro j v hj
 have hj8:j<8:=by have:=(List.getElem?_eq_some_iff.1 hj).1;simpa[k8]using this
 rw[Nat.zero_add,h.iv j hj8,←hj]
 simp[aK,List.getD_eq_getElem?_getD,List.getElem?_eq_getElem (show j<k8.length from hj8)]
set_option maxRecDepth 10000 in
set_option maxHeartbeats 1000000 in
theorem vW (n kl:Nat) (HK:Hid (kl=0)) (hkl:kl≤64) (hn:n≤64) (a:Option Addr) (cap:Nat) (w:World) (ht:dU w) (bgl:List Int) (HBL:Hid (iS n kl=bgl)):
 Calls prog 105 #[.int .i64 n,.slice a kl cap] w fun e w'=>e=.returned (.agg (dE bgl 0 (aA 64) 0))∧Below w.heap.size w w':=by
 have hk0:(0<kl)=False:=by have:=HK.out;simp;omega
 have hzv:=D8
 have hzb:=QH
 have HT:Hid _:=ht
 clear ht
 have hiS:Hid (∀(h':List Int) (t' f':Int) (b':List Int),h'.length=8→b'.length=64→(prog.info? 184).map (·.size)=some (dE h' t' b' f').size):=fun h' t' f' b' hh' hb'=>by rw[eW h' t' b' f' hh' hb'];exact yY
 have HR:Hid ((w.alloc (.cells (dE (aA 8) 0 (aA 64) 0) 184)).rangeAt 1 0 (k8.map (Value.int .u32))):=(HT.out.later ((Below.refl w.heap.size w).alloc (nQ _) _) (nQ _)).ivRange
 obtain⟨W,hW,g0,g1,hs,hBW⟩:=kG w (.cells (dE (aA 8) 0 (aA 64) 0) 184) (.cells (dE (aA 8) 0 (aA 64) 0) 184)
 have G0:Hid _:=g0
 have G1:Hid _:=g1
 have HBW:Hid _:=hBW
 clear g0 g1 hBW
 go_enter func105,ntmps105
 go_wp2_with(first
  | refine wpList_load_mid rfl 174 _ rfl 1 0 rfl (k8.map (Value.int .u32)) _ HR.out underlying174 rfl PK ?_
  | refine sZ rfl 184 _ rfl (dE k8 0 (aA 64) 0) (by simp only[List.map_toArray,List.map_cons,List.map_nil];exact WS) ?_
  | refine wpPr rfl 184 _ _ rfl (w.heap.size+1) (dE k8 0 (aA 64) 0) rfl rfl _ _ G1.out (hiS.out _ _ _ _ rfl rfl) rfl (oL _ _ _ _) ?_)
 intro w1 hP1
 have R1:=hP1.here
 have R0:=(hP1.far w.heap.size (by omega)).trans G0.out
 have RB:Hid (Below w.heap.size w w1):=hP1.below _ _ HBW.out (by omega)
 have hs1:w1.heap.size=w.heap.size+1+1:=by rw[hP1.size];exact hs
 clear hP1 G0 G1 HBW hW HR hs
 obtain⟨k0,e0⟩:∃x:Int,x=1779033703:=⟨_,rfl⟩
 have c0:w1.cell? ⟨w.heap.size+1,0,none⟩=some (.int .u32 k0):=by rw[e0,cell_of_row _ _ _ _ _ _ R1];exact CU k8 0 (aA 64) 0 rfl 0 (by decide)
 have f0:w1.frozen? ⟨w.heap.size+1,0,none⟩=false:=frozen_of_row _ _ _ _ _ R1
 have HBG:Hid (∀x,x=xr k0 (xr (xr 16842752 ((kl:Int)*256)) n)→dE (k8.set 0 x) 0 (aA 64) 0=dE (iS n kl) 0 (aA 64) 0):=fun x hx=>by
  rw[hx,e0]
  unfold iS
  rw[Int.natCast_mul]
  rfl
 have hbl:=m5 n kl
 have hb32:Hid (bC (iS n kl)):=uT n kl
 have HROW:Hid (∀x,x=xr k0 (xr (xr 16842752 ((kl:Int)*256)) n)→(w1.setCell ⟨w.heap.size+1,0,none⟩ (.int .u32 x)).heap[w.heap.size+1]? =some (.cells (dE (iS n kl) 0 (aA 64) 0) 184)):=fun x hx=>by
  rw[←HBG.out x hx,←zX k8 0 (aA 64) 0 rfl 0 (by decide)]
  exact heap_setCell_same _ _ _ _ _ _ R1
 have HRES:Hid (∀x,(w1.setCell ⟨w.heap.size+1,0,none⟩ (.int .u32 x)).heap[w.heap.size]? =some (.cells (dE (aA 8) 0 (aA 64) 0) 184)):=fun x=>(heap_setCell_other _ _ _ _ (by simp)).trans R0
 have HBEL:Hid (∀x,Below w.heap.size w (w1.setCell ⟨w.heap.size+1,0,none⟩ (.int .u32 x))):=fun x=>Below.setCell RB.out (by simp) _
 clear R0 R1 e0 HBG RB
 rw[HBL.out]at HROW hbl hb32
 clear HBL
 go_wp2_with(first
  | refine wpLr rfl 184 _ rfl (w.heap.size+1) rfl _ (dE bgl 0 (aA 64) 0) _ _ (HROW.out _ rfl) underlying184 rfl (hiS.out _ _ _ _ hbl rfl) ?_
  | refine wpPr rfl 184 _ _ rfl w.heap.size (dE bgl 0 (aA 64) 0) rfl rfl _ _ (HRES.out _) (hiS.out _ _ _ _ hbl rfl) ?hs (oL _ _ _ _) ?_)
 case hs=>rw[eW _ _ _ _ hbl rfl];rfl
 intro W9 hP9
 go_wp2
 exact bodyPost_ret (v:=.agg (dE bgl 0 (aA 64) 0)) (results_cell_row rfl _ _ _ _ (dE bgl 0 (aA 64) 0) _ _ rfl hP9.here underlying184 rfl (hiS.out _ _ _ _ hbl rfl)) rfl ⟨rfl,hP9.below _ _ (HBEL.out _) (nQ _)⟩
theorem bX.one {k:IntKind} {e:TypeId} {base:Nat} (w:World) (y:Int) (hb:base≤w.heap.size):bX k e base (w.alloc (.cells #[.int k y] e)) (.slice (some ⟨w.heap.size,0,none⟩) 1 1) [y]:=by
 refine⟨by simp[fW],.inr ⟨w.heap.size,1,#[.int k y],by simp,hb,hAN w _,by simp,by unfold maxLen;omega,by simp,?_⟩⟩
 simp[iv]
theorem bX.rdk {k:IntKind} {e:TypeId} {base:Nat} {w:World} {v:Value} {l:List Int} (h:bX k e base w v l):∃a n cap,v=.slice a n cap∧n=l.length∧WJ k w a l:=by
 obtain⟨rfl,rfl⟩|⟨g,cap,rfl,hg,hl,hc,hm,hcell,_⟩:=h.at
 ·exact⟨none,0,0,rfl,rfl,fun i hi=>by simp at hi⟩
 ·exact⟨some ⟨g,0,none⟩,l.length,cap,rfl,rfl,fun i hi=>⟨g,0,rfl,by rw[Nat.zero_add];exact hcell i hi⟩⟩
theorem lR {k:IntKind} {e:TypeId} {base:Nat} {w:World} {v:Value} {l:List Int} {x y:Int} (h:bX k e base w v (l++[x])) (hxy:x=y):bX k e base w v (l++[y]):=hxy▸h
theorem JF:(prog.info? 5).map (fun i=>(i.zero,i.size,i.bytes))=some (some (.int .u8 0),1,1):=by kernel_rfl
def iK (ws:List Int) (i:Nat):Int:=aK ws (i / 4) / 256^(i%4)%256
def dR (ws:List Int) (n:Nat):List Int:=(List.range n).map (iK ws)
theorem jR (ws:List Int) (n:Nat):(dR ws n).length=n:=by simp[dR]
theorem IX (ws:List Int) (k:Nat):dR ws (4*(k+1))=dR ws (4*k)++[aK ws k%256]++[aK ws k / 256%256]++[aK ws k / 65536%256]++[aK ws k / 16777216%256]:=by
 have e0:iK ws (4*k)=aK ws k%256:=by unfold iK;rw[show 4*k / 4=k by omega,show 4*k%4=0 by omega];simp
 have e1:iK ws (4*k+1)=aK ws k / 256%256:=by unfold iK;rw[show(4*k+1) / 4=k by omega,show(4*k+1)%4=1 by omega];simp
 have e2:iK ws (4*k+2)=aK ws k / 65536%256:=by unfold iK;rw[show(4*k+2) / 4=k by omega,show(4*k+2)%4=2 by omega];simp
 have e3:iK ws (4*k+3)=aK ws k / 16777216%256:=by unfold iK;rw[show(4*k+3) / 4=k by omega,show(4*k+3)%4=3 by omega];simp
 rw[←e0,←e1,←e2,←e3]
 simp only[dR,show 4*(k+1)=4*k+1+1+1+1 by omega,List.range_succ,List.map_append,List.map_cons,List.map_nil]
set_option maxRecDepth 10000 in
set_option maxHeartbeats 4000000 in
theorem yW (ws:List Int) (n:Nat) (hn:ws.length=n) (h32:bC ws) (hn2:n≤100000) (a:Option Addr) (cap:Nat) (w:World) (hr:WJ .u32 w a ws):
 Calls prog 96 #[.slice a n cap] w fun e w'=>∃v,e=.returned v∧bX .u8 5 w.heap.size w' v (dR ws (4*n))∧Below w.heap.size w w':=by
 go_enter func96,ntmps96
 go_wp2
 go_loopw [3,10] (fun v i wr=>∃k:Nat,k≤n∧i=.int .i64 k∧bX .u8 5 w.heap.size wr v (dR ws (4*k))∧Below w.heap.size w wr) (fun _ i _=>n - (intOf i).toNat)
 case atStart=>
  exact⟨0,Nat.zero_le _,rfl,bX.nil w (nQ _),(Below.refl _ _).alloc (nQ _) _⟩
 case round=>
  obtain⟨k,hk,rfl,hown,hbel⟩:=hrel
  have HS:Hid (dR ws (4*(k+1))=dR ws (4*k)++[aK ws k%256]++[aK ws k / 256%256]++[aK ws k / 65536%256]++[aK ws k / 16777216%256]):=IX ws k
  have HL:Hid ((dR ws (4*k)).length=4*k):=jR _ _
  have hsz:=hbel.size
  by_cases hlt:k<n
  ·obtain⟨WX,rfl⟩:∃X,X=wr:=⟨_,rfl⟩
   obtain⟨b,o,rfl,h2⟩:=hr k (by omega)
   have hc:WX.cell? ⟨b,o+k,none⟩=some (.int .u32 (aK ws k)):=(hbel.cell (p:=⟨b,o+k,none⟩) (wJ _ _ h2)).trans h2
   have hx:fP (aK ws k):=h32 k
   generalize aK ws k=x at*
   generalize dR ws (4*k)=L at*
   obtain⟨x0,x1⟩:=hx
   clear hr h2
   go_wp2
   refine wp_loop_rounds 5 ?_
   rw[rdS]
   go_wp2_with(at_builtin;refine cI .u8 48 5 1 underlying48 JF (by decide) rfl (.tmp 18) (.tmp 22) rfl w.heap.size w WX _ (L) _ rfl rfl hown hbel hsz (by have:=HL.out;simp;omega) ?_;intro v0 w0 hown0 hbel0 _ _)
   have hown0':=lR hown0 (y:=x%256) (by omega)
   have hsz0:=hbel0.size
   rw[rdS]
   go_wp2_with(at_builtin;refine cI .u8 48 5 1 underlying48 JF (by decide) rfl (.tmp 18) (.tmp 22) rfl w.heap.size w w0 _ (L++[x%256]) _ rfl rfl hown0' hbel0 hsz0 (by have:=HL.out;simp;omega) ?_;intro v1 w1 hown1 hbel1 _ _)
   have hown1':=lR hown1 (y:=x / 256%256) (by omega)
   have hsz1:=hbel1.size
   rw[rdS]
   go_wp2_with(at_builtin;refine cI .u8 48 5 1 underlying48 JF (by decide) rfl (.tmp 18) (.tmp 22) rfl w.heap.size w w1 _ (L++[x%256]++[x / 256%256]) _ rfl rfl hown1' hbel1 hsz1 (by have:=HL.out;simp;omega) ?_;intro v2 w2 hown2 hbel2 _ _)
   have hown2':=lR hown2 (y:=x / 65536%256) (by omega)
   have hsz2:=hbel2.size
   rw[rdS]
   go_wp2_with(at_builtin;refine cI .u8 48 5 1 underlying48 JF (by decide) rfl (.tmp 18) (.tmp 22) rfl w.heap.size w w2 _ (L++[x%256]++[x / 256%256]++[x / 65536%256]) _ rfl rfl hown2' hbel2 hsz2 (by have:=HL.out;simp;omega) ?_;intro v3 w3 hown3 hbel3 _ _)
   have hown3':=lR hown3 (y:=x / 16777216%256) (by omega)
   have hsz3:=hbel3.size
   rw[rdS]
   go_wp2_with fail
   go_roundw
   case rel=>exact⟨k+1,by omega,by go_num,by rw[HS.out];exact hown3',hbel3⟩
   case measure=>simp[intOf];omega
  ·clear hr
   go_wp2
   go_ret
   obtain rfl:k=n:=by omega
   exact⟨_,rfl,hown,hbel⟩
theorem nW (g off n cap:Nat) (te:TypeId) (l:List Int) (x:Int) (w:World)
 (hg:w.heap[g]? =some (.cells (Iv .u8 l) te)) (hl:off+n≤l.length) (hn:n≤4) (hx:0≤x):
 Calls prog 121 #[.slice (some ⟨g,off,none⟩) n cap,.int .u32 x] w fun e w'=>
  e=.returned (.tuple #[])∧w'=w.setRow g (Iv .u8 (pF9 l off (fun i=>x / 256^i%256) n)):=by
 go_enter func121,ntmps121
 go_wp2
 go_loopw [7] (fun i wr=>∃k:Nat,k≤n∧i=.int .i64 k∧wr=w.setRow g (Iv .u8 (pF9 l off (fun i=>x / 256^i%256) k))) (fun i _=>n - (intOf i).toNat)
 case atStart=>
  refine⟨0,Nat.zero_le _,rfl,?_⟩
  rw[bV,gZ w g _ _ _ hg]
 case round=>
  obtain⟨k,hk,rfl,rfl⟩:=hrel
  by_cases hlt:k<n
  ·have ho:∃v,(w.setRow g (Iv .u8 (pF9 l off (fun i=>x / 256^i%256) k))).cell? ⟨g,off+k,none⟩=some v:=by
    rw[eN _ _ _ _ _ _ _ hg]
    exact lK _ _ _ (by rw[aR _ _ _ _ (by omega)];omega)
   obtain⟨v,hv⟩:=ho
   have hf:(w.setRow g (Iv .u8 (pF9 l off (fun i=>x / 256^i%256) k))).frozen? ⟨g,off+k,none⟩=false:=by rw[hU];exact frozen_of_row _ _ _ _ _ hg
   go_wp2
   go_roundw
   case rel=>exact⟨k+1,by omega,by go_num,by rw[aL,bR,acV,bJ l off (fun i=>x / 256^i%256) k (by omega)]⟩
   case measure=>simp[intOf];omega
  ·obtain rfl:k=n:=by omega
   go_wp2
   go_end0
   exact⟨rfl,rfl⟩
theorem kT {P:Program} (t e:TypeId) (n:Nat) (k:IntKind) (l:List Int) (i:Nat) (ht:P.underlying t=some (.array n e)) (he:P.underlying e=some (.int k)) (hs:(P.info? e).map (·.size)=some 1) (hl:l.length=n) (hi:i<n) (w:World):
 (Instr.index t (.agg (Iv k l)) (.int .i64 (i:Int))).run P w=.ok (.int k (l.getD i 0)) w:=by
 obtain⟨inf,hinf,hsz⟩:∃inf,P.info? e=some inf∧inf.size=1:=by
  cases h:P.info? e with
  | none=>rw[h]at hs;cases hs
  | some inf=>rw[h]at hs;exact⟨inf,rfl,by simpa using hs⟩
 have hc:=cT k l i (by omega)
 have hg:l.getD i 0=l[i]'(by omega):=by simp[show i<l.length by omega]
 rw[hg]
 simp[Instr.index,run_underlying ht,asIntOf,go_sem,hi,part,isAgg,run_underlying he,sizeOf,typeInfo,hinf,hsz,hc]
theorem fN:∀W,(zeroValue 22).run prog W=.ok (.agg (Iv .u8 (aA 32))) W:=fun W=>by kernel_rfl
theorem i6:(prog.info? 22).map (·.size)=some 32:=by kernel_rfl
theorem SN (ws:List Int):pF9 (aA 32) 0 (iK ws) (4*8)=dR ws 32:=by
 unfold pF9 dR aA
 simp
theorem RG {w:World} {g:Nat} {h:List Int} {t:Int} {b:List Int} {f:Int} {ty:TypeId} (hg:w.heap[g]? =some (.cells (dE h t b f) ty)) (hh:h.length=8):w.rangeAt g 0 (h.map (Value.int .u32)):=by
 have e:((HV h t b f).drop 0).take 8=h.map (Value.int .u32):=by
  unfold HV
  rw[dY,List.take_append_of_le_length (by simp;omega),List.take_of_length_le (by simp;omega)]
 rw[←e]
 exact fE hg 0 8
set_option maxRecDepth 10000 in
set_option maxHeartbeats 1000000 in
theorem NL (h b:List Int) (t f:Nat) (w:World) (hh:h.length=8) (hb:b.length=64) (h32:bC h) (hbb:aE (b.take f)) (hf:f≤64) (ht63:t+f<9223372036854775808) (ht:dU w) (Wf:List Int) (HW:Hid (jL h (gQ (b.take f)) (t+f) true=Wf)) (hWl:Wf.length=8) (hW32:bC Wf) (Bo:List Int) (HBO:Hid (∀x,dR Wf 32=x→x=Bo)) (hBo:Bo.length=32):
 Calls prog 107 #[.agg (dE h t b f)] w fun e w'=>e=.returned (.agg (Iv .u8 Bo))∧Below w.heap.size w w':=by
 have hzb:=fN
 have hiS:Hid (∀(h':List Int) (t' f':Int) (b':List Int),h'.length=8→b'.length=64→(prog.info? 184).map (·.size)=some (dE h' t' b' f').size):=fun h' t' f' b' hh' hb'=>by rw[eW h' t' b' f' hh' hb'];exact yY
 have HT:Hid _:=ht
 clear ht
 obtain⟨W,hW,g0,g1,hs,hBW⟩:=kG w (.cells (dE h t b f) 184) (.cells (Iv .u8 (aA 32)) 22)
 have G0:Hid _:=g0
 have G1:Hid _:=g1
 have HBW:Hid _:=hBW
 clear g0 g1 hBW
 go_enter func107,ntmps107
 go_wp2_with(refine wpLr rfl 184 _ rfl w.heap.size rfl _ (dE h t b f) _ _ G0.out underlying184 rfl (hiS.out _ _ _ _ hh hb) ?_)
 clear hW
 refine(xO h b t f true W hh hb h32 hbb hf ht63 (HT.out.later HBW.out (nQ _)) Wf HW hWl).mono ?_
 obtain⟨t2,ht2⟩:∃x,x=t+f:=⟨_,rfl⟩
 rw[←ht2]
 clear ht2
 rintro e w1 ⟨rfl,hb1⟩
 have K0:Hid _:=(hb1.block w.heap.size (by omega)).trans G0.out
 have K1:Hid _:=(hb1.block (w.heap.size+1) (by omega)).trans G1.out
 have KB:Hid (Below w.heap.size w w1):=HBW.out.trans (hb1.mono (by omega))
 have hs1:w.heap.size+1<w1.heap.size:=by have:=hb1.size;omega
 clear hb1 G0 G1 HBW
 go_wp2_with(refine wpPr rfl 184 _ _ rfl w.heap.size (dE Wf t2 b 0) rfl rfl _ _ K0.out (hiS.out _ _ _ _ hWl hb) ?hs (oL _ _ _ _) ?_)
 case hs=>rw[eW _ _ _ _ hh hb,eW _ _ _ _ hWl hb]
 intro w2 hP2
 have HL0:Hid ((w2.alloc (.cells (Iv .u8 (aA 32)) 22)).rangeAt w.heap.size 0 (Wf.map (Value.int .u32))):=RG ((hAO w2 (.cells (Iv .u8 (aA 32)) 22) (by have:=hP2.size;omega)).trans hP2.here) hWl
 have HL1:Hid ((w2.alloc (.cells (Iv .u8 (aA 32)) 22)).heap[w.heap.size+1]? =some (.cells (Iv .u8 (aA 32)) 22)):=(hAO w2 (.cells (Iv .u8 (aA 32)) 22) (by have:=hP2.size;omega)).trans ((hP2.far _ (by omega)).trans K1.out)
 have HL2:Hid ((w2.alloc (.cells (Iv .u8 (aA 32)) 22)).heap[w2.heap.size]? =some (.cells (Iv .u8 (aA 32)) 22)):=hAN _ _
 have HLB:Hid (Below w.heap.size w (w2.alloc (.cells (Iv .u8 (aA 32)) 22))):=(hP2.below _ _ KB.out (nQ _)).alloc (by have:=hP2.size;omega) _
 have hs2:w.heap.size+1<w2.heap.size:=by have:=hP2.size;omega
 clear hP2 K0 K1 KB
 have hi8:Hid ((prog.info? 174).map (·.size)=some (Wf.map (Value.int .u32)).length):=by show _=_;rw[lU,hWl];exact PK
 go_wp2_with(refine wpList_load_mid rfl 174 _ rfl w.heap.size 0 rfl (Wf.map (Value.int .u32)) _ HL0.out underlying174 rfl hi8.out ?_)
 generalize w2.heap.size=go at*
 go_loopw [10] (fun i wr=>∃k:Nat,k≤8∧i=.int .i64 k∧wr.heap[w.heap.size+1]? =some (.cells (Iv .u8 (aA 32)) 22)∧wr.heap[go]? =some (.cells (Iv .u8 (pF9 (aA 32) 0 (iK Wf) (4*k))) 22)∧Below w.heap.size w wr) (fun i _=>8 - (intOf i).toNat)
 case atStart=>exact⟨0,by omega,rfl,HL1.out,by rw[Nat.mul_zero,bV];exact HL2.out,HLB.out⟩
 case round=>
  obtain⟨k,hk,rfl,M1,M2,MB⟩:=hrel
  clear HL0 HL1 HL2 HLB
  by_cases hlt:k<8
  ·have hRk:∀wx,(Instr.index 174 (.agg (Wf.map (Value.int .u32)).toArray) (.int .i64 (k:Int))).run prog wx=.ok (.int .u32 (aK Wf k)) wx:=kT 174 23 8 .u32 Wf k underlying174 underlying23 (by kernel_rfl) hWl hlt
   have wR:fP (aK Wf k):=hW32 k
   have HS:Hid (pF9 (pF9 (aA 32) 0 (iK Wf) (4*k)) (4*k) (fun i=>aK Wf k / 256^i%256) 4=pF9 (aA 32) 0 (iK Wf) (4*(k+1))):=by
    show _=_
    rw[yJ _ _ _ _ _ (by simp[aA];omega),Nat.mul_add]
    intro i hi
    rw[iK,show(4*k+i) / 4=k by omega,show(4*k+i)%4=i by omega]
   generalize aK Wf k=x at*
   obtain⟨x0,x1⟩:=wR
   have hk1:(k:Int)<8:=by omega
   have s1:(0:Int)≤4*(k:Int):=by omega
   have s2:4*(k:Int)≤4*(k:Int)+4:=by omega
   have s3:4*(k:Int)+4≤32:=by omega
   have s4:(0:Int)≤4*(k:Int)+4:=by omega
   have N1:Hid _:=M1
   have N2:Hid _:=M2
   have NB:Hid _:=MB
   clear M1 M2 MB
   go_wp2_with fail
   rw[show 4*k+4 - 4*k=4 by omega]
   refine(nW go (4*k) 4 _ 22 (pF9 (aA 32) 0 (iK Wf) (4*k)) x wr N2.out (by rw[aR _ _ _ _ (by simp[aA];omega)];simp[aA];omega) (by omega) (by omega)).mono ?_
   rintro e w6 ⟨rfl,hw6⟩
   rw[HS.out]at hw6
   have V1:Hid (w6.heap[w.heap.size+1]? =some (.cells (Iv .u8 (aA 32)) 22)):=by show _=_;rw[hw6];exact(cE _ _ _ _ (by omega)).trans N1.out
   have V2:Hid (w6.heap[go]? =some (.cells (Iv .u8 (pF9 (aA 32) 0 (iK Wf) (4*(k+1)))) 22)):=by show _=_;rw[hw6];exact setRow_heap _ _ _ _ _ _ N2.out
   have VB:Hid (Below w.heap.size w w6):=by show Below _ _ _;rw[hw6];exact aO NB.out _ (by omega) _
   clear hw6 N1 N2 NB HS
   go_wp2_with fail
   go_roundw
   case rel=>exact⟨k+1,by omega,by go_num,V1.out,V2.out,VB.out⟩
   case measure=>simp[intOf];omega
  ·obtain rfl:k=8:=by omega
   rw[SN,HBO.out _ rfl]at M2
   have hi32:Hid ((prog.info? 22).map (·.size)=some (Iv .u8 Bo).size):=by show _=_;rw[aC,hBo];exact i6
   have N1:Hid _:=M1
   have N2:Hid _:=M2
   have NB:Hid _:=MB
   clear M1 M2 MB
   go_wp2_with(first
    | refine wpLr rfl 22 _ rfl go rfl _ (Iv .u8 Bo) _ _ N2.out underlying22 rfl hi32.out ?_
    | refine wpPr rfl 22 _ _ rfl (w.heap.size+1) (Iv .u8 Bo) rfl rfl _ _ N1.out hi32.out ?hs (aH _ _) ?_)
   case hs=>rw[aC,aC,hBo];rfl
   intro W9 hP9
   go_wp2
   exact bodyPost_ret (v:=.agg (Iv .u8 Bo)) (results_cell_row rfl _ _ _ _ (Iv .u8 Bo) _ _ rfl hP9.here underlying22 rfl hi32.out) rfl ⟨rfl,hP9.below _ _ NB.out (by omega)⟩
def qK (h0 D:List Int):List Int:=dR (KU h0 D) 32
theorem qM (h0 D:List Int):(qK h0 D).length=32:=jR _ _
theorem zT (h0 D:List Int):(KU h0 D).length=8:=pO _ _ _ _
theorem PG (h0 D:List Int):bC (KU h0 D):=DW _ _ _ _
theorem zU (h0 D h b:List Int) (k t fn:Nat) (htk:t=64*k) (s:pV h0 D k fn h b) (hk:0<fn∨k=0) (hh0:h0.length=8) (h032:bC h0) (hD:aE D) (hlen:D.length≤1000000000000) (w:World) (ht:dU w) (Bo:List Int) (hBO:qK h0 D=Bo):
 Calls prog 107 #[.agg (dE h t b fn)] w fun e w'=>e=.returned (.agg (Iv .u8 Bo))∧Below w.heap.size w w':=
 NL h b t fn w (by rw[s.words];exact iH h0 _ hh0 k) s.blk (by rw[s.words];exact zH h032 _ k) (s.bytes hD) s.fill (by have:=s.len;omega) ht (KU h0 D) (by rw[htk];exact s.last hk) (zT _ _) (PG _ _) Bo (fun x hx=>by rw[←hx];exact hBO) (by rw[←hBO];exact qM _ _)
end Go.Proofs.YtgcepckaolkeoaaGreatDoor
