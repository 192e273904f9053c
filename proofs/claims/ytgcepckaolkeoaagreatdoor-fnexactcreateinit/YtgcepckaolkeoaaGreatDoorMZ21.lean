import Derived.Test.YtgcepckaolkeoaaGreatDoorMZ20
import Derived.Laws.Externs
import Derived.Deep.RegionHeld
namespace Go.Proofs.YtgcepckaolkeoaaGreatDoor
open Go.RowKit
open Go.Proofs.Tryz
open Go renaming rounds_succ → rdS, wpList_load_row → wpLr, wpQuiet_nil → wqN
open Go.World renaming size_alloc → wU
open List renaming drop_succ_cons → dJ, drop_zero → dY, take_succ_cons → tU, take_zero → tJ
open Nat renaming le_refl → nQ
set_option linter.unusedVariables false
set_option maxHeartbeats 4000000 in
theorem OZ (a0 a1 a2 a3 a4 b0 b1 b2 b3 b4:Int) (w:World) (h0:0≤a0) (g0:a0≤134217728) (k0:0≤b0) (l0:b0≤134217728) (h1:0≤a1) (g1:a1≤134217728) (k1:0≤b1) (l1:b1≤134217728) (h2:0≤a2) (g2:a2≤134217728) (k2:0≤b2) (l2:b2≤134217728) (h3:0≤a3) (g3:a3≤134217728) (k3:0≤b3) (l3:b3≤134217728) (h4:0≤a4) (g4:a4≤134217728) (k4:0≤b4) (l4:b4≤134217728):
 Calls prog 151 #[.agg #[.int .u64 a0,.int .u64 a1,.int .u64 a2,.int .u64 a3,.int .u64 a4],.agg #[.int .u64 b0,.int .u64 b1,.int .u64 b2,.int .u64 b3,.int .u64 b4]] w fun e w'=>e=.returned (.agg #[.int .u64 (a0+b0),.int .u64 (a1+b1),.int .u64 (a2+b2),.int .u64 (a3+b3),.int .u64 (a4+b4)])∧Below w.heap.size w w':=by
 go_enter func151,ntmps151
 go_wp2
 refine wp_loop_rounds 6 ?_
 rw[rdS];go_wp2;refine wRh 8 eJ (by kernel_rfl) ?_;simp only[tU,tJ,dJ,dY];(repeat(go_big_quiet_step (fail)));refine wqN ?_;go_wp2
 rw[rdS];go_wp2;refine wRh 8 eJ (by kernel_rfl) ?_;simp only[tU,tJ,dJ,dY];(repeat(go_big_quiet_step (fail)));refine wqN ?_;go_wp2
 rw[rdS];go_wp2;refine wRh 8 eJ (by kernel_rfl) ?_;simp only[tU,tJ,dJ,dY];(repeat(go_big_quiet_step (fail)));refine wqN ?_;go_wp2
 rw[rdS];go_wp2;refine wRh 8 eJ (by kernel_rfl) ?_;simp only[tU,tJ,dJ,dY];(repeat(go_big_quiet_step (fail)));refine wqN ?_;go_wp2
 rw[rdS];go_wp2;refine wRh 8 eJ (by kernel_rfl) ?_;simp only[tU,tJ,dJ,dY];(repeat(go_big_quiet_step (fail)));refine wqN ?_;go_wp2
 rw[rdS];go_wp2
 refine bodyPost_ret (v:=.agg #[.int .u64 _,.int .u64 _,.int .u64 _,.int .u64 _,.int .u64 _]) (by simp[results,results151,go_sem]) rfl ⟨rfl,?_⟩
 exact bDr ((((Below.refl _ _).alloc (by simp) _).alloc (by simp) _).alloc (by simp;omega) _) 5
theorem cM (a b:Int) (h:0≤a) (g:a≤268435456) (k:0≤b) (l:b≤67108863):0≤a*b∧a*b≤18014398509481984:=by
 refine⟨Int.mul_nonneg h k,?_⟩
 have h1:a*b≤268435456*b:=Int.mul_le_mul_of_nonneg_right g k
 omega
theorem dQ (a b:Int) (h:0≤a) (g:a≤268435456) (k:0≤b) (l:b≤67108863):0≤5*a*b∧5*a*b≤90071992547409920:=by
 refine⟨Int.mul_nonneg (by omega) k,?_⟩
 have h1:5*a*b≤1342177280*b:=Int.mul_le_mul_of_nonneg_right (by omega) k
 omega
set_option maxHeartbeats 20000000 in
theorem TA (a0 a1 a2 a3 a4 b0 b1 b2 b3 b4:Int) (w:World) (h0:0≤a0) (g0:a0≤268435456) (k0:0≤b0) (l0:b0≤67108863) (h1:0≤a1) (g1:a1≤268435456) (k1:0≤b1) (l1:b1≤67108863) (h2:0≤a2) (g2:a2≤268435456) (k2:0≤b2) (l2:b2≤67108863) (h3:0≤a3) (g3:a3≤268435456) (k3:0≤b3) (l3:b3≤67108863) (h4:0≤a4) (g4:a4≤268435456) (k4:0≤b4) (l4:b4≤67108863):
 Calls prog 153 #[.agg #[.int .u64 a0,.int .u64 a1,.int .u64 a2,.int .u64 a3,.int .u64 a4],.agg #[.int .u64 b0,.int .u64 b1,.int .u64 b2,.int .u64 b3,.int .u64 b4]] w fun e w'=>∃r0 r1 r2 r3 r4,e=.returned (.agg #[.int .u64 r0,.int .u64 r1,.int .u64 r2,.int .u64 r3,.int .u64 r4])∧Car (a0*b0+5*a1*b4+5*a2*b3+5*a3*b2+5*a4*b1) (a0*b1+a1*b0+5*a2*b4+5*a3*b3+5*a4*b2) (a0*b2+a1*b1+a2*b0+5*a3*b4+5*a4*b3) (a0*b3+a1*b2+a2*b1+a3*b0+5*a4*b4) (a0*b4+a1*b3+a2*b2+a3*b1+a4*b0) r0 r1 r2 r3 r4∧Below w.heap.size w w':=by
 obtain⟨u00,v00⟩:=cM a0 b0 h0 g0 k0 l0
 obtain⟨u01,v01⟩:=cM a0 b1 h0 g0 k1 l1
 obtain⟨u02,v02⟩:=cM a0 b2 h0 g0 k2 l2
 obtain⟨u03,v03⟩:=cM a0 b3 h0 g0 k3 l3
 obtain⟨u04,v04⟩:=cM a0 b4 h0 g0 k4 l4
 obtain⟨u10,v10⟩:=cM a1 b0 h1 g1 k0 l0
 obtain⟨u11,v11⟩:=cM a1 b1 h1 g1 k1 l1
 obtain⟨u12,v12⟩:=cM a1 b2 h1 g1 k2 l2
 obtain⟨u13,v13⟩:=cM a1 b3 h1 g1 k3 l3
 obtain⟨u14,v14⟩:=dQ a1 b4 h1 g1 k4 l4
 obtain⟨u20,v20⟩:=cM a2 b0 h2 g2 k0 l0
 obtain⟨u21,v21⟩:=cM a2 b1 h2 g2 k1 l1
 obtain⟨u22,v22⟩:=cM a2 b2 h2 g2 k2 l2
 obtain⟨u23,v23⟩:=dQ a2 b3 h2 g2 k3 l3
 obtain⟨u24,v24⟩:=dQ a2 b4 h2 g2 k4 l4
 obtain⟨u30,v30⟩:=cM a3 b0 h3 g3 k0 l0
 obtain⟨u31,v31⟩:=cM a3 b1 h3 g3 k1 l1
 obtain⟨u32,v32⟩:=dQ a3 b2 h3 g3 k2 l2
 obtain⟨u33,v33⟩:=dQ a3 b3 h3 g3 k3 l3
 obtain⟨u34,v34⟩:=dQ a3 b4 h3 g3 k4 l4
 obtain⟨u40,v40⟩:=cM a4 b0 h4 g4 k0 l0
 obtain⟨u41,v41⟩:=dQ a4 b1 h4 g4 k1 l1
 obtain⟨u42,v42⟩:=dQ a4 b2 h4 g4 k2 l2
 obtain⟨u43,v43⟩:=dQ a4 b3 h4 g4 k3 l3
 obtain⟨u44,v44⟩:=dQ a4 b4 h4 g4 k4 l4
 go_enter func153,ntmps153
 go_wp2
 refine wp_loop_rounds 6 ?_
 rw[rdS];go_wp2;refine wp_loop_rounds 6 ?_
 rw[rdS];go_wp2;refine wRh 14 eJ (by kernel_rfl) ?_;simp only[tU,tJ,dJ,dY];(repeat(go_big_quiet_step (fail)));refine wqN ?_;go_wp2
 rw[rdS];go_wp2;refine wRh 14 eJ (by kernel_rfl) ?_;simp only[tU,tJ,dJ,dY];(repeat(go_big_quiet_step (fail)));refine wqN ?_;go_wp2
 rw[rdS];go_wp2;refine wRh 14 eJ (by kernel_rfl) ?_;simp only[tU,tJ,dJ,dY];(repeat(go_big_quiet_step (fail)));refine wqN ?_;go_wp2
 rw[rdS];go_wp2;refine wRh 14 eJ (by kernel_rfl) ?_;simp only[tU,tJ,dJ,dY];(repeat(go_big_quiet_step (fail)));refine wqN ?_;go_wp2
 rw[rdS];go_wp2;refine wRh 14 eJ (by kernel_rfl) ?_;simp only[tU,tJ,dJ,dY];(repeat(go_big_quiet_step (fail)));refine wqN ?_;go_wp2
 rw[rdS];go_wp2
 rw[rdS];go_wp2;refine wp_loop_rounds 6 ?_
 rw[rdS];go_wp2;refine wRh 14 eJ (by kernel_rfl) ?_;simp only[tU,tJ,dJ,dY];(repeat(go_big_quiet_step (fail)));refine wqN ?_;go_wp2
 rw[rdS];go_wp2;refine wRh 14 eJ (by kernel_rfl) ?_;simp only[tU,tJ,dJ,dY];(repeat(go_big_quiet_step (fail)));refine wqN ?_;go_wp2
 rw[rdS];go_wp2;refine wRh 14 eJ (by kernel_rfl) ?_;simp only[tU,tJ,dJ,dY];(repeat(go_big_quiet_step (fail)));refine wqN ?_;go_wp2
 rw[rdS];go_wp2;refine wRh 14 eJ (by kernel_rfl) ?_;simp only[tU,tJ,dJ,dY];(repeat(go_big_quiet_step (fail)));refine wqN ?_;go_wp2
 rw[rdS];go_wp2;refine wRh 16 eJ (by kernel_rfl) ?_;simp only[tU,tJ,dJ,dY];(repeat(go_big_quiet_step (fail)));refine wqN ?_;go_wp2
 rw[rdS];go_wp2
 rw[rdS];go_wp2;refine wp_loop_rounds 6 ?_
 rw[rdS];go_wp2;refine wRh 14 eJ (by kernel_rfl) ?_;simp only[tU,tJ,dJ,dY];(repeat(go_big_quiet_step (fail)));refine wqN ?_;go_wp2
 rw[rdS];go_wp2;refine wRh 14 eJ (by kernel_rfl) ?_;simp only[tU,tJ,dJ,dY];(repeat(go_big_quiet_step (fail)));refine wqN ?_;go_wp2
 rw[rdS];go_wp2;refine wRh 14 eJ (by kernel_rfl) ?_;simp only[tU,tJ,dJ,dY];(repeat(go_big_quiet_step (fail)));refine wqN ?_;go_wp2
 rw[rdS];go_wp2;refine wRh 16 eJ (by kernel_rfl) ?_;simp only[tU,tJ,dJ,dY];(repeat(go_big_quiet_step (fail)));refine wqN ?_;go_wp2
 rw[rdS];go_wp2;refine wRh 16 eJ (by kernel_rfl) ?_;simp only[tU,tJ,dJ,dY];(repeat(go_big_quiet_step (fail)));refine wqN ?_;go_wp2
 rw[rdS];go_wp2
 rw[rdS];go_wp2;refine wp_loop_rounds 6 ?_
 rw[rdS];go_wp2;refine wRh 14 eJ (by kernel_rfl) ?_;simp only[tU,tJ,dJ,dY];(repeat(go_big_quiet_step (fail)));refine wqN ?_;go_wp2
 rw[rdS];go_wp2;refine wRh 14 eJ (by kernel_rfl) ?_;simp only[tU,tJ,dJ,dY];(repeat(go_big_quiet_step (fail)));refine wqN ?_;go_wp2
 rw[rdS];go_wp2;refine wRh 16 eJ (by kernel_rfl) ?_;simp only[tU,tJ,dJ,dY];(repeat(go_big_quiet_step (fail)));refine wqN ?_;go_wp2
 rw[rdS];go_wp2;refine wRh 16 eJ (by kernel_rfl) ?_;simp only[tU,tJ,dJ,dY];(repeat(go_big_quiet_step (fail)));refine wqN ?_;go_wp2
 rw[rdS];go_wp2;refine wRh 16 eJ (by kernel_rfl) ?_;simp only[tU,tJ,dJ,dY];(repeat(go_big_quiet_step (fail)));refine wqN ?_;go_wp2
 rw[rdS];go_wp2
 rw[rdS];go_wp2;refine wp_loop_rounds 6 ?_
 rw[rdS];go_wp2;refine wRh 14 eJ (by kernel_rfl) ?_;simp only[tU,tJ,dJ,dY];(repeat(go_big_quiet_step (fail)));refine wqN ?_;go_wp2
 rw[rdS];go_wp2;refine wRh 16 eJ (by kernel_rfl) ?_;simp only[tU,tJ,dJ,dY];(repeat(go_big_quiet_step (fail)));refine wqN ?_;go_wp2
 rw[rdS];go_wp2;refine wRh 16 eJ (by kernel_rfl) ?_;simp only[tU,tJ,dJ,dY];(repeat(go_big_quiet_step (fail)));refine wqN ?_;go_wp2
 rw[rdS];go_wp2;refine wRh 16 eJ (by kernel_rfl) ?_;simp only[tU,tJ,dJ,dY];(repeat(go_big_quiet_step (fail)));refine wqN ?_;go_wp2
 rw[rdS];go_wp2;refine wRh 16 eJ (by kernel_rfl) ?_;simp only[tU,tJ,dJ,dY];(repeat(go_big_quiet_step (fail)));refine wqN ?_;go_wp2
 rw[rdS];go_wp2
 rw[rdS];go_wp2_with fail
 refine(zQ _ _ _ _ _ _ (by omega) (by omega) (by omega) (by omega) (by omega) (by omega) (by omega) (by omega) (by omega) (by omega)).mono ?_
 rintro e w1 ⟨r0,r1,r2,r3,r4,rfl,hcar,hb⟩
 have hg:w1.heap[w.heap.size+1+1]? =some (.cells #[.int .u64 0,.int .u64 0,.int .u64 0,.int .u64 0,.int .u64 0] 240):=by
  rw[hb.block _ (by simp<;>omega)]
  simp only[heap_drew,cC,wU]
  simp
 have hbb:Below w.heap.size w w1:=(bDr (((((Below.refl w.heap.size w).alloc (by simp) _).alloc (by simp) _).alloc (by simp;omega) _).alloc (by simp;omega) _) 25).trans (hb.mono (by simp;omega))
 clear hb
 go_wp2_with(refine wpList_store_row rfl 240 _ _ rfl _ #[.int .u64 r0,.int .u64 r1,.int .u64 r2,.int .u64 r3,.int .u64 r4] rfl rfl _ _ hg mR rfl (U7 _ _ _ _ _ _) ?_)
 refine oG (cs:=#[.int .u64 r0,.int .u64 r1,.int .u64 r2,.int .u64 r3,.int .u64 r4]) results153 ?_ (setRow_heap _ _ _ _ _ _ hg) underlying240 mR ?_
 ·rfl
 ·exact⟨r0,r1,r2,r3,r4,rfl,hcar,aO hbb _ (by omega) _⟩
set_option maxHeartbeats 4000000 in
theorem MF (a0 a1 a2 a3 a4:Int) (w:World) (h0:0≤a0) (g0:a0≤67108863) (h1:0≤a1) (g1:a1≤67109888) (h2:0≤a2) (g2:a2≤67108863) (h3:0≤a3) (g3:a3≤67108863) (h4:0≤a4) (g4:a4≤67108863):
 Calls prog 154 #[.agg #[.int .u64 a0,.int .u64 a1,.int .u64 a2,.int .u64 a3,.int .u64 a4]] w fun e w'=>∃r0 r1 r2 r3 r4,e=.returned (.agg #[.int .u64 r0,.int .u64 r1,.int .u64 r2,.int .u64 r3,.int .u64 r4])∧oA r0 r1 r2 r3 r4∧(∃q,V5 r0 r1 r2 r3 r4=V5 a0 a1 a2 a3 a4 - gP*q)∧V5 r0 r1 r2 r3 r4<gP∧Below w.heap.size w w':=by
 go_enter func154,ntmps154
 go_wp2_with fail
 refine(zQ _ _ _ _ _ _ (by omega) (by omega) (by omega) (by omega) (by omega) (by omega) (by omega) (by omega) (by omega) (by omega)).mono ?_
 rintro e w1 ⟨r0,r1,r2,r3,r4,rfl,hcar,hb⟩
 obtain⟨p0,q0,p1,q1,p2,q2,p3,q3,p4,q4⟩:=QV hcar h0 g0 h1 g1 h2 g2 h3 g3 h4 g4
 have hg:w1.heap[w.heap.size]? =some (.cells #[.int .u64 a0,.int .u64 a1,.int .u64 a2,.int .u64 a3,.int .u64 a4] 240):=by
  rw[hb.block _ (by simp<;>omega)]
  simp only[cC,wU]
  simp
 have hg1:w1.heap[w.heap.size+1]? =some (.cells #[.int .u64 0,.int .u64 0,.int .u64 0,.int .u64 0,.int .u64 0] 240):=by
  rw[hb.block _ (by simp<;>omega)]
  simp only[cC,wU]
  simp
 have hb0:Below w.heap.size w w1:=((((Below.refl w.heap.size w).alloc (by simp) _).alloc (by simp) _)).trans (hb.mono (by simp<;>omega))
 have hsz:w.heap.size+2≤w1.heap.size:=by have:=hb.size;simpa using this
 clear hb
 go_wp2_with(first|refine wpList_store_row rfl 240 _ _ rfl _ #[.int .u64 r0,.int .u64 r1,.int .u64 r2,.int .u64 r3,.int .u64 r4] rfl rfl _ _ hg mR rfl (U7 _ _ _ _ _ _) ?_ |refine wpLr rfl 240 _ rfl _ rfl _ _ _ _ (setRow_heap _ _ _ _ _ _ hg) underlying240 rfl mR ?_)
 refine wp_loop_rounds 6 ?_
 iterate 5 (rw[rdS];go_wp2)
 have hz1:∀o,((w1.setRow w.heap.size #[.int .u64 r0,.int .u64 r1,.int .u64 r2,.int .u64 r3,.int .u64 r4]).alloc o).heap[w.heap.size+1]? =some (.cells #[.int .u64 0,.int .u64 0,.int .u64 0,.int .u64 0,.int .u64 0] 240):=by
  intro o
  rw[cC,if_neg (by simp<;>omega),cE _ _ _ _ (by omega)]
  exact hg1
 have hz0:∀o,((w1.setRow w.heap.size #[.int .u64 r0,.int .u64 r1,.int .u64 r2,.int .u64 r3,.int .u64 r4]).alloc o).heap[w.heap.size]? =some (.cells #[.int .u64 r0,.int .u64 r1,.int .u64 r2,.int .u64 r3,.int .u64 r4] 240):=by
  intro o
  rw[cC,if_neg (by simp<;>omega)]
  exact setRow_heap _ _ _ _ _ _ hg
 have hbo:∀o cs,Below w.heap.size w (((w1.setRow w.heap.size #[.int .u64 r0,.int .u64 r1,.int .u64 r2,.int .u64 r3,.int .u64 r4]).alloc o).setRow (w.heap.size+1) cs):=fun o cs=>
  aO ((aO hb0 _ (nQ _) _).alloc (by simp<;>omega) o) _ (by omega) cs
 have hn:=OI r0 r1 r2 r3 r4 p0 q0 p1 q1 p2 q2 p3 q3 p4 q4 _ rfl
 have HN:Hid (_∧_):=hn
 have HB:Hid (∀o cs,_):=hbo
 have HV:Hid (∃q,_):=FX hcar
 clear hn hbo hcar
 rw[rdS]
 go_wp2_with(first|refine wpLr rfl 240 _ rfl w.heap.size rfl _ _ _ _ (hz0 _) underlying240 rfl mR ?_ |refine wpList_store_row rfl 240 _ _ rfl (w.heap.size+1) _ rfl rfl _ _ (hz1 _) mR rfl (U7 _ _ _ _ _ _) ?_)
 ·have hpos:0<(r4+(r3+(r2+(r1+(r0+5) / 67108864) / 67108864) / 67108864) / 67108864) / 67108864:=by assumption
  obtain⟨q,hq⟩:=HV.out
  obtain⟨v1,v2⟩:=HN.out.1 hpos
  have v3:=HN.out.2.2.1
  refine oG (cs:=#[.int .u64 _,.int .u64 _,.int .u64 _,.int .u64 _,.int .u64 _]) results154 ?_ (setRow_heap _ _ _ _ _ _ (hz1 _)) underlying240 mR ?_
  ·rfl
  ·refine⟨_,_,_,_,_,rfl,?_,⟨q+1,by rw[v1,hq];unfold gP;omega⟩,by rw[v1];unfold gP at*;omega,HB.out _ _⟩
   rw[kY _ (by omega) (by omega),kY _ (by omega) (by omega),kY _ (by omega) (by omega),kY _ (by omega) (by omega),kY _ (by omega) (by omega)]
   unfold oA
   omega
 ·have hneg:¬0<(r4+(r3+(r2+(r1+(r0+5) / 67108864) / 67108864) / 67108864) / 67108864) / 67108864:=by first|assumption|omega
  obtain⟨q,hq⟩:=HV.out
  refine oG (cs:=#[.int .u64 _,.int .u64 _,.int .u64 _,.int .u64 _,.int .u64 _]) results154 ?_ (setRow_heap _ _ _ _ _ _ (hz1 _)) underlying240 mR ?_
  ·rfl
  ·exact⟨_,_,_,_,_,rfl,⟨p0,q0,p1,q1,p2,q2,p3,q3,p4,q4⟩,⟨q,hq⟩,HN.out.2.1 (by omega),HB.out _ _⟩
theorem FR (x y c:Int) (hx:0≤x) (hy:0≤y) (hc0:0≤c) (hc:c≤1) (w:World):
 (callFunc 147 #[.int .u64 x,.int .u64 y,.int .u64 c]).run prog w=.ok (.value (.tuple #[.int .u64 ((x+y+c)%18446744073709551616),.int .u64 ((x+y+c) / 18446744073709551616)])) w:=by
 rw[run_callFunc_extern func147 (by kernel_rfl) (by kernel_rfl) (by kernel_rfl) (e:=add64Entry) (by kernel_rfl),run_add64 x y c hx hy hc0 hc]
 rfl
def A7 (a0 a1 a2 a3 a4:Int):Prop:=0≤a0∧a0≤67108863∧0≤a1∧a1≤67109888∧0≤a2∧a2≤67108863∧0≤a3∧a3≤67108863∧0≤a4∧a4≤67108863
theorem IG (a0 a1 a2 a3 a4 b0 b1 b2 b3 b4:Int) (w:World) (h0:0≤a0) (g0:a0≤268435456) (k0:0≤b0) (l0:b0≤67108863) (h1:0≤a1) (g1:a1≤268435456) (k1:0≤b1) (l1:b1≤67108863) (h2:0≤a2) (g2:a2≤268435456) (k2:0≤b2) (l2:b2≤67108863) (h3:0≤a3) (g3:a3≤268435456) (k3:0≤b3) (l3:b3≤67108863) (h4:0≤a4) (g4:a4≤268435456) (k4:0≤b4) (l4:b4≤67108863):
 Calls prog 153 #[.agg #[.int .u64 a0,.int .u64 a1,.int .u64 a2,.int .u64 a3,.int .u64 a4],.agg #[.int .u64 b0,.int .u64 b1,.int .u64 b2,.int .u64 b3,.int .u64 b4]] w fun e w'=>∃r0 r1 r2 r3 r4,e=.returned (.agg #[.int .u64 r0,.int .u64 r1,.int .u64 r2,.int .u64 r3,.int .u64 r4])∧A7 r0 r1 r2 r3 r4∧(∃q,V5 r0 r1 r2 r3 r4=V5 a0 a1 a2 a3 a4*V5 b0 b1 b2 b3 b4 - gP*q)∧Below w.heap.size w w':=by
 refine(TA a0 a1 a2 a3 a4 b0 b1 b2 b3 b4 w h0 g0 k0 l0 h1 g1 k1 l1 h2 g2 k2 l2 h3 g3 k3 l3 h4 g4 k4 l4).mono ?_
 rintro e w' ⟨r0,r1,r2,r3,r4,rfl,hcar,hb⟩
 obtain⟨q,hq⟩:=FX hcar
 have hin:=ZM hcar
 refine⟨r0,r1,r2,r3,r4,rfl,?_,?_,hb⟩
 ·unfold A7
  obtain⟨u00,v00⟩:=cM a0 b0 h0 g0 k0 l0
  obtain⟨u01,v01⟩:=cM a0 b1 h0 g0 k1 l1
  obtain⟨u02,v02⟩:=cM a0 b2 h0 g0 k2 l2
  obtain⟨u03,v03⟩:=cM a0 b3 h0 g0 k3 l3
  obtain⟨u04,v04⟩:=cM a0 b4 h0 g0 k4 l4
  obtain⟨u10,v10⟩:=cM a1 b0 h1 g1 k0 l0
  obtain⟨u11,v11⟩:=cM a1 b1 h1 g1 k1 l1
  obtain⟨u12,v12⟩:=cM a1 b2 h1 g1 k2 l2
  obtain⟨u13,v13⟩:=cM a1 b3 h1 g1 k3 l3
  obtain⟨u14,v14⟩:=dQ a1 b4 h1 g1 k4 l4
  obtain⟨u20,v20⟩:=cM a2 b0 h2 g2 k0 l0
  obtain⟨u21,v21⟩:=cM a2 b1 h2 g2 k1 l1
  obtain⟨u22,v22⟩:=cM a2 b2 h2 g2 k2 l2
  obtain⟨u23,v23⟩:=dQ a2 b3 h2 g2 k3 l3
  obtain⟨u24,v24⟩:=dQ a2 b4 h2 g2 k4 l4
  obtain⟨u30,v30⟩:=cM a3 b0 h3 g3 k0 l0
  obtain⟨u31,v31⟩:=cM a3 b1 h3 g3 k1 l1
  obtain⟨u32,v32⟩:=dQ a3 b2 h3 g3 k2 l2
  obtain⟨u33,v33⟩:=dQ a3 b3 h3 g3 k3 l3
  obtain⟨u34,v34⟩:=dQ a3 b4 h3 g3 k4 l4
  obtain⟨u40,v40⟩:=cM a4 b0 h4 g4 k0 l0
  obtain⟨u41,v41⟩:=dQ a4 b1 h4 g4 k1 l1
  obtain⟨u42,v42⟩:=dQ a4 b2 h4 g4 k2 l2
  obtain⟨u43,v43⟩:=dQ a4 b3 h4 g4 k3 l3
  obtain⟨u44,v44⟩:=dQ a4 b4 h4 g4 k4 l4
  exact hin (by omega) (by omega) (by omega) (by omega) (by omega) (by omega) (by omega) (by omega) (by omega) (by omega)
 ·rw[ML,Int.sub_sub,←Int.mul_add]at hq
  exact⟨_,hq⟩
def ab1 (key zs:List Int) (m b:Nat) (w1:World) (r0 r1 r2 r3 r4:Int) (v:Value) (wr:World):Prop:=
 ∃(k o' m' c':Nat) (a0 a1 a2 a3 a4:Int),v=.slice (some ⟨b,o',none⟩) m' c'∧m'=m - 16*k∧m'≤c'∧c'≤9223372036854775807∧16*k<m+16∧
  A7 a0 a1 a2 a3 a4∧(∃q,V5 a0 a1 a2 a3 a4=iQ (kO key) zs k+gP*q)∧Below w1.heap.size w1 wr∧(∀i,i<m'→wr.cell? ⟨b,o'+i,none⟩=some (.int .u8 (zs.getD (16*k+i) 0)))∧
  wr.heap[w1.heap.size]? =some (.cells #[.int .u64 r0,.int .u64 r1,.int .u64 r2,.int .u64 r3,.int .u64 r4] 240)∧wr.heap[w1.heap.size+1]? =some (.cells #[.int .u64 a0,.int .u64 a1,.int .u64 a2,.int .u64 a3,.int .u64 a4] 240)
theorem FO {key zs:List Int} {m b:Nat} {w1:World} {r0 r1 r2 r3 r4:Int} {wr:World} {k o' m' c':Nat} {a0 a1 a2 a3 a4:Int} (hm':m'=m - 16*k) (hc1:m'≤c') (hc2:c'≤9223372036854775807) (hk16:16*k<m+16)
 (hval:∃q,V5 a0 a1 a2 a3 a4=iQ (kO key) zs k+gP*q) (hbr:Below w1.heap.size w1 wr) (hcell:∀i,i<m'→wr.cell? ⟨b,o'+i,none⟩=some (.int .u8 (zs.getD (16*k+i) 0)))
 (hgr:wr.heap[w1.heap.size]? =some (.cells #[.int .u64 r0,.int .u64 r1,.int .u64 r2,.int .u64 r3,.int .u64 r4] 240)) (hga:wr.heap[w1.heap.size+1]? =some (.cells #[.int .u64 a0,.int .u64 a1,.int .u64 a2,.int .u64 a3,.int .u64 a4] 240))
 (n L:Nat) (hn:n=m'∧m'≤16∨n=16∧16≤m') (hpos:0<m') (hL:L=m' - n) (hlen:((zs.drop (16*k)).take 16).length=n) (hb:b<w1.heap.size) {w4:World} (hb4:Below wr.heap.size wr w4) {q0 q1 q2 q3 q4 s0 s1 s2 s3 s4:Int}
 (vq:V5 q0 q1 q2 q3 q4=aT ((zs.drop (16*k)).take 16)+256^n) (vr:V5 r0 r1 r2 r3 r4=kO key) (hs:A7 s0 s1 s2 s3 s4) (hsv:∃q,V5 s0 s1 s2 s3 s4=(V5 a0 a1 a2 a3 a4+V5 q0 q1 q2 q3 q4)*V5 r0 r1 r2 r3 r4 - gP*q):
 ab1 key zs m b w1 r0 r1 r2 r3 r4 (.slice (if c'=n then some ⟨b,o',none⟩else some ⟨b,o'+n,none⟩) L (c' - n))
  (((((w4.setCell ⟨w1.heap.size+1,0,none⟩ (.int .u64 s0)).setCell ⟨w1.heap.size+1,1,none⟩ (.int .u64 s1)).setCell ⟨w1.heap.size+1,2,none⟩ (.int .u64 s2)).setCell ⟨w1.heap.size+1,3,none⟩ (.int .u64 s3)).setCell ⟨w1.heap.size+1,4,none⟩ (.int .u64 s4)):=by
 have hlt:=(Array.getElem?_eq_some_iff.1 hga).1
 have hga4:=(hb4.block (w1.heap.size+1) hlt).trans hga
 have hgr4:=(hb4.block w1.heap.size (by omega)).trans hgr
 rw[aeA hga4]
 obtain⟨qa,hqa⟩:=hval
 obtain⟨q,hq⟩:=hsv
 have hstep:∃t,V5 s0 s1 s2 s3 s4=iQ (kO key) zs (k+1)+gP*t:=by
  have:=TK (iQ (kO key) zs k) (aT ((zs.drop (16*k)).take 16)+256^n) (kO key) qa q (V5 s0 s1 s2 s3 s4) (by rw[hq,hqa,vq,vr])
  rw[show iQ (kO key) zs (k+1)=(iQ (kO key) zs k+(aT ((zs.drop (16*k)).take 16)+256^n))*kO key%gP by rw[←hlen];rfl]
  exact this
 have hcells:∀i,i<L→(w4.setRow (w1.heap.size+1) #[.int .u64 s0,.int .u64 s1,.int .u64 s2,.int .u64 s3,.int .u64 s4]).cell? ⟨b,o'+n+i,none⟩=some (.int .u8 (zs.getD (16*(k+1)+i) 0)):=by
  intro i hi
  rw[aY _ _ _ _ (by show b≠_;omega),hb4.cell (p:=⟨b,o'+n+i,none⟩) (by show b<_;omega)]
  have:=hcell (n+i) (by omega)
  rw[Nat.add_assoc,this]
  rcases hn with ⟨h1,h2⟩|⟨h1,h2⟩
  ·omega
  ·subst h1
   rw[show 16*(k+1)+i=16*k+(16+i) by omega]
 have hbel:Below w1.heap.size w1 (w4.setRow (w1.heap.size+1) #[.int .u64 s0,.int .u64 s1,.int .u64 s2,.int .u64 s3,.int .u64 s4]):=
  aO (hbr.trans (hb4.mono hbr.size)) _ (by omega) _
 have hr5:(w4.setRow (w1.heap.size+1) #[.int .u64 s0,.int .u64 s1,.int .u64 s2,.int .u64 s3,.int .u64 s4]).heap[w1.heap.size]? =some (.cells #[.int .u64 r0,.int .u64 r1,.int .u64 r2,.int .u64 r3,.int .u64 r4] 240):=by
  rw[cE _ _ _ _ (by omega)]
  exact hgr4
 by_cases hcn:c'=n
 ·rw[if_pos hcn]
  exact⟨k+1,o',L,c' - n,s0,s1,s2,s3,s4,rfl,by omega,by omega,by omega,by omega,hs,hstep,hbel,fun i hi=>by omega,hr5,setRow_heap _ _ _ _ _ _ hga4⟩
 ·rw[if_neg hcn]
  exact⟨k+1,o'+n,L,c' - n,s0,s1,s2,s3,s4,rfl,by omega,by omega,by omega,by omega,hs,hstep,hbel,hcells,hr5,setRow_heap _ _ _ _ _ _ hga4⟩
end Go.Proofs.YtgcepckaolkeoaaGreatDoor
