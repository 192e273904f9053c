import Derived.Test.YtgcepckaolkeoaaGreatDoorMY14
namespace Go.Proofs.YtgcepckaolkeoaaGreatDoor
open Go.RowKit Go.Lib
open Go.Proofs.Tryz
open Go renaming heap_alloc_new → hAN, rounds_succ → rdS, wpList_load_row → wpLr, wpQuiet_nil → wqN
open Go.World renaming size_alloc → wU
open List renaming drop_succ_cons → dJ, drop_zero → dY, mem_cons_of_mem → mC, mem_cons_self → mQ, mem_singleton → mU, take_succ_cons → tU, take_zero → tJ
open Nat renaming le_refl → nQ
set_option linter.unusedVariables false
theorem xO {B:Nat} {a w:World} (h:Below B a w):Below B a w.drew:=bDr h 1
def sG:List Int→List Int→List Int
 | [a0,a1,a2,a3,a4],[b0,b1,b2,b3,b4]=>mZ (a0+b0) (a1+b1) (a2+b2) (a3+b3) (a4+b4)
 | _,_=>[]
def m7:List Int→List Int→List Int
 | [a0,a1,a2,a3,a4],[b0,b1,b2,b3,b4]=>mZ (a0+(4503599627370458 - b0)) (a1+(4503599627370494 - b1)) (a2+(4503599627370494 - b2)) (a3+(4503599627370494 - b3)) (a4+(4503599627370494 - b4))
 | _,_=>[]
theorem NS (a b:List Int) (ha:fY a) (hb:fY b):bU (sG a b) (vL a+vL b):=by
 obtain⟨a0,a1,a2,a3,a4,rfl,hA0,hA1,hA2,hA3,hA4⟩:=ha.five
 obtain⟨b0,b1,b2,b3,b4,rfl,hB0,hB1,hB2,hB3,hB4⟩:=hb.five
 obtain⟨h1,q,h2⟩:=yO (a0+b0) (a1+b1) (a2+b2) (a3+b3) (a4+b4) (by omega) (by omega) (by omega) (by omega) (by omega)
 refine⟨h1,q,?_⟩
 show vL (mZ _ _ _ _ _)=mN _ _ _ _ _+mN _ _ _ _ _ - _
 rw[h2]
 unfold mN
 omega
theorem I6 (a b:List Int) (ha:fY a) (hb:fY b):bU (m7 a b) (vL a - vL b):=by
 obtain⟨a0,a1,a2,a3,a4,rfl,hA0,hA1,hA2,hA3,hA4⟩:=ha.five
 obtain⟨b0,b1,b2,b3,b4,rfl,hB0,hB1,hB2,hB3,hB4⟩:=hb.five
 obtain⟨h1,q,h2⟩:=yO (a0+(4503599627370458 - b0)) (a1+(4503599627370494 - b1)) (a2+(4503599627370494 - b2)) (a3+(4503599627370494 - b3)) (a4+(4503599627370494 - b4)) (by omega) (by omega) (by omega) (by omega) (by omega)
 refine⟨h1,q - 2,?_⟩
 show vL (mZ _ _ _ _ _)=mN _ _ _ _ _ - mN _ _ _ _ _ - _
 rw[h2]
 unfold mN pF
 omega
set_option maxHeartbeats 4000000 in
theorem zJ (a b:List Int) (ha:fY a) (hb:fY b) (w:World):
 Calls prog 144 #[.agg (Iv .u64 a),.agg (Iv .u64 b)] w fun e w'=>e=.returned (.agg (Iv .u64 (sG a b)))∧Below w.heap.size w w':=by
 obtain⟨a0,a1,a2,a3,a4,rfl,hA0,hA1,hA2,hA3,hA4⟩:=ha.five
 obtain⟨b0,b1,b2,b3,b4,rfl,hB0,hB1,hB2,hB3,hB4⟩:=hb.five
 have HC:Hid (∀W,_):=fun W=>nS (a0+b0) (a1+b1) (a2+b2) (a3+b3) (a4+b4) (by omega) (by omega) (by omega) (by omega) (by omega) W
 have hl:Hid ((mZ (a0+b0) (a1+b1) (a2+b2) (a3+b3) (a4+b4)).length=5):=rfl
 rw[show sG [a0,a1,a2,a3,a4] [b0,b1,b2,b3,b4]=mZ (a0+b0) (a1+b1) (a2+b2) (a3+b3) (a4+b4)from rfl]
 generalize mZ (a0+b0) (a1+b1) (a2+b2) (a3+b3) (a4+b4)=R at*
 have hrow:∀a b c d e:Int,Iv .u64 [a,b,c,d,e]=#[.int .u64 a,.int .u64 b,.int .u64 c,.int .u64 d,.int .u64 e]:=fun _ _ _ _ _=>rfl
 rw[hrow,hrow]
 clear ha hb
 go_enter func144,ntmps144
 go_wp2
 refine wp_loop_rounds 6 ?_
 iterate 5
  rw[rdS];go_wp2
  refine wRh 8 kJ (by kernel_rfl) ?_
  simp only[tU,tJ,dJ,dY]
  repeat(go_big_quiet_step (fail))
  refine wqN ?_
  go_wp2
 rw[rdS];go_wp2_with fail
 refine(HC.out _).mono ?_
 rintro e w1 ⟨rfl,hb⟩
 have B1:Hid (Below w.heap.size w w1):=by
  refine Below.trans ?_ (hb.mono (by simp<;>omega))
  repeat(first|exact Below.refl _ _|refine xO ?_ |refine Below.alloc ?_ (by simp<;>omega) _)
 have G1:Hid (w1.heap[w.heap.size+1+1]? =some (.cells (Iv .u64 [0,0,0,0,0]) 211)):=by
  show _=_
  rw[hb.block _ (by simp<;>omega)]
  simp only[heap_drew,bO,wU]
  (repeat(first|rw[if_neg (by omega)]|rw[if_pos (by omega)]));try rfl
 clear hb HC
 go_wp2_with(refine wpPr rfl 211 _ _ rfl (w.heap.size+1+1) (Iv .u64 R) rfl rfl _ _ G1.out (bC hl.out) (JY hl.out) (aG _ _) (fun W hP=>sH ?_))
 refine aH ?_
 have B2:=hP.below _ _ B1.out (by omega)
 have G2:=hP.here
 go_wp2
 exact bodyPost_ret (v:=.agg (Iv .u64 R)) (results_cell_row rfl _ _ _ _ (Iv .u64 R) _ _ rfl G2 underlying211 rfl (bC hl.out)) rfl ⟨rfl,B2⟩
set_option maxHeartbeats 4000000 in
theorem vR (a b:List Int) (ha:fY a) (hb:fY b) (w:World):
 Calls prog 145 #[.agg (Iv .u64 a),.agg (Iv .u64 b)] w fun e w'=>e=.returned (.agg (Iv .u64 (m7 a b)))∧Below w.heap.size w w':=by
 obtain⟨a0,a1,a2,a3,a4,rfl,hA0,hA1,hA2,hA3,hA4⟩:=ha.five
 obtain⟨b0,b1,b2,b3,b4,rfl,hB0,hB1,hB2,hB3,hB4⟩:=hb.five
 have HC:Hid (∀W,_):=fun W=>nS (a0+(4503599627370458 - b0)) (a1+(4503599627370494 - b1)) (a2+(4503599627370494 - b2)) (a3+(4503599627370494 - b3)) (a4+(4503599627370494 - b4)) (by omega) (by omega) (by omega) (by omega) (by omega) W
 have hl:Hid ((mZ (a0+(4503599627370458 - b0)) (a1+(4503599627370494 - b1)) (a2+(4503599627370494 - b2)) (a3+(4503599627370494 - b3)) (a4+(4503599627370494 - b4))).length=5):=rfl
 rw[show m7 [a0,a1,a2,a3,a4] [b0,b1,b2,b3,b4]=mZ (a0+(4503599627370458 - b0)) (a1+(4503599627370494 - b1)) (a2+(4503599627370494 - b2)) (a3+(4503599627370494 - b3)) (a4+(4503599627370494 - b4))from rfl]
 generalize mZ (a0+(4503599627370458 - b0)) (a1+(4503599627370494 - b1)) (a2+(4503599627370494 - b2)) (a3+(4503599627370494 - b3)) (a4+(4503599627370494 - b4))=R at*
 have hrow:∀a b c d e:Int,Iv .u64 [a,b,c,d,e]=#[.int .u64 a,.int .u64 b,.int .u64 c,.int .u64 d,.int .u64 e]:=fun _ _ _ _ _=>rfl
 rw[hrow,hrow]
 clear ha hb
 go_enter func145,ntmps145
 go_wp2
 refine wp_loop_rounds 5 ?_
 iterate 4
  rw[rdS];go_wp2
  refine wRh 9 kJ (by kernel_rfl) ?_
  simp only[tU,tJ,dJ,dY]
  repeat(go_big_quiet_step (fail))
  refine wqN ?_
  go_wp2
 rw[rdS];go_wp2_with fail
 refine(HC.out _).mono ?_
 rintro e w1 ⟨rfl,hb⟩
 have B1:Hid (Below w.heap.size w w1):=by
  refine Below.trans ?_ (hb.mono (by simp<;>omega))
  repeat(first|exact Below.refl _ _|refine xO ?_ |refine Below.alloc ?_ (by simp<;>omega) _)
 have G1:Hid (w1.heap[w.heap.size+1+1]? =some (.cells (Iv .u64 [0,0,0,0,0]) 211)):=by
  show _=_
  rw[hb.block _ (by simp<;>omega)]
  simp only[heap_drew,bO,wU]
  (repeat(first|rw[if_neg (by omega)]|rw[if_pos (by omega)]));try rfl
 clear hb HC
 go_wp2_with(refine wpPr rfl 211 _ _ rfl (w.heap.size+1+1) (Iv .u64 R) rfl rfl _ _ G1.out (bC hl.out) (JY hl.out) (aG _ _) (fun W hP=>sH ?_))
 refine aH ?_
 have B2:=hP.below _ _ B1.out (by omega)
 have G2:=hP.here
 go_wp2
 exact bodyPost_ret (v:=.agg (Iv .u64 R)) (results_cell_row rfl _ _ _ _ (Iv .u64 R) _ _ rfl G2 underlying211 rfl (bC hl.out)) rfl ⟨rfl,B2⟩
def wL (a0 a1 a2 a3 a4 b0 b1 b2 b3 b4:Int):Int:=0+a0*b0+a1*(19*b4)+a2*(19*b3)+a3*(19*b2)+a4*(19*b1)
def wM (a0 a1 a2 a3 a4 b0 b1 b2 b3 b4:Int):Int:=wL a0 a1 a2 a3 a4 b0 b1 b2 b3 b4 / 2251799813685248+a0*b1+a1*b0+a2*(19*b4)+a3*(19*b3)+a4*(19*b2)
def wN (a0 a1 a2 a3 a4 b0 b1 b2 b3 b4:Int):Int:=wM a0 a1 a2 a3 a4 b0 b1 b2 b3 b4 / 2251799813685248+a0*b2+a1*b1+a2*b0+a3*(19*b4)+a4*(19*b3)
def wO (a0 a1 a2 a3 a4 b0 b1 b2 b3 b4:Int):Int:=wN a0 a1 a2 a3 a4 b0 b1 b2 b3 b4 / 2251799813685248+a0*b3+a1*b2+a2*b1+a3*b0+a4*(19*b4)
def sI (a0 a1 a2 a3 a4 b0 b1 b2 b3 b4:Int):Int:=wO a0 a1 a2 a3 a4 b0 b1 b2 b3 b4 / 2251799813685248+a0*b4+a1*b3+a2*b2+a3*b1+a4*b0
def cX:List Int→List Int→List Int
 | [a0,a1,a2,a3,a4],[b0,b1,b2,b3,b4]=>mZ (wL a0 a1 a2 a3 a4 b0 b1 b2 b3 b4%2251799813685248+19*(sI a0 a1 a2 a3 a4 b0 b1 b2 b3 b4 / 2251799813685248)) (wM a0 a1 a2 a3 a4 b0 b1 b2 b3 b4%2251799813685248) (wN a0 a1 a2 a3 a4 b0 b1 b2 b3 b4%2251799813685248) (wO a0 a1 a2 a3 a4 b0 b1 b2 b3 b4%2251799813685248) (sI a0 a1 a2 a3 a4 b0 b1 b2 b3 b4%2251799813685248)
 | _,_=>[]
theorem aQ (x y A B:Int) (hx:0≤x∧x≤A) (hy:0≤y∧y≤B):0≤x*y∧x*y≤A*B:=
 ⟨Int.mul_nonneg hx.1 hy.1,Int.mul_le_mul hx.2 hy.2 hy.1 (Int.le_trans hx.1 hx.2)⟩
theorem SV (a0 a1 a2 a3 a4 b0 b1 b2 b3 b4:Int) (ha:El a0 a1 a2 a3 a4) (hb:El b0 b1 b2 b3 b4):
 (0≤wL a0 a1 a2 a3 a4 b0 b1 b2 b3 b4∧wL a0 a1 a2 a3 a4 b0 b1 b2 b3 b4<41538374868278621028243970633760768)∧(0≤wM a0 a1 a2 a3 a4 b0 b1 b2 b3 b4∧wM a0 a1 a2 a3 a4 b0 b1 b2 b3 b4<41538374868278621028243970633760768)∧(0≤wN a0 a1 a2 a3 a4 b0 b1 b2 b3 b4∧wN a0 a1 a2 a3 a4 b0 b1 b2 b3 b4<41538374868278621028243970633760768)∧(0≤wO a0 a1 a2 a3 a4 b0 b1 b2 b3 b4∧wO a0 a1 a2 a3 a4 b0 b1 b2 b3 b4<41538374868278621028243970633760768)∧(0≤sI a0 a1 a2 a3 a4 b0 b1 b2 b3 b4∧sI a0 a1 a2 a3 a4 b0 b1 b2 b3 b4<81129638414606681695789005144064):=by
 obtain⟨hA0,hA1,hA2,hA3,hA4⟩:=ha
 obtain⟨hB0,hB1,hB2,hB3,hB4⟩:=hb
 have p00:=aQ a0 b0 2251799813685311 2251799813685311 (by omega) (by omega)
 have p01:=aQ a0 b1 2251799813685311 2251799813685311 (by omega) (by omega)
 have p02:=aQ a0 b2 2251799813685311 2251799813685311 (by omega) (by omega)
 have p03:=aQ a0 b3 2251799813685311 2251799813685311 (by omega) (by omega)
 have p04:=aQ a0 b4 2251799813685311 2251799813685311 (by omega) (by omega)
 have p10:=aQ a1 b0 2251799813685311 2251799813685311 (by omega) (by omega)
 have p11:=aQ a1 b1 2251799813685311 2251799813685311 (by omega) (by omega)
 have p12:=aQ a1 b2 2251799813685311 2251799813685311 (by omega) (by omega)
 have p13:=aQ a1 b3 2251799813685311 2251799813685311 (by omega) (by omega)
 have p14:=aQ a1 b4 2251799813685311 2251799813685311 (by omega) (by omega)
 have p20:=aQ a2 b0 2251799813685311 2251799813685311 (by omega) (by omega)
 have p21:=aQ a2 b1 2251799813685311 2251799813685311 (by omega) (by omega)
 have p22:=aQ a2 b2 2251799813685311 2251799813685311 (by omega) (by omega)
 have p23:=aQ a2 b3 2251799813685311 2251799813685311 (by omega) (by omega)
 have p24:=aQ a2 b4 2251799813685311 2251799813685311 (by omega) (by omega)
 have p30:=aQ a3 b0 2251799813685311 2251799813685311 (by omega) (by omega)
 have p31:=aQ a3 b1 2251799813685311 2251799813685311 (by omega) (by omega)
 have p32:=aQ a3 b2 2251799813685311 2251799813685311 (by omega) (by omega)
 have p33:=aQ a3 b3 2251799813685311 2251799813685311 (by omega) (by omega)
 have p34:=aQ a3 b4 2251799813685311 2251799813685311 (by omega) (by omega)
 have p40:=aQ a4 b0 2251799813685311 2251799813685311 (by omega) (by omega)
 have p41:=aQ a4 b1 2251799813685311 2251799813685311 (by omega) (by omega)
 have p42:=aQ a4 b2 2251799813685311 2251799813685311 (by omega) (by omega)
 have p43:=aQ a4 b3 2251799813685311 2251799813685311 (by omega) (by omega)
 have p44:=aQ a4 b4 2251799813685311 2251799813685311 (by omega) (by omega)
 unfold sI wO wN wM wL
 simp only[Int.mul_left_comm _ 19 _]
 generalize a0*b0=q00 at*
 generalize a0*b1=q01 at*
 generalize a0*b2=q02 at*
 generalize a0*b3=q03 at*
 generalize a0*b4=q04 at*
 generalize a1*b0=q10 at*
 generalize a1*b1=q11 at*
 generalize a1*b2=q12 at*
 generalize a1*b3=q13 at*
 generalize a1*b4=q14 at*
 generalize a2*b0=q20 at*
 generalize a2*b1=q21 at*
 generalize a2*b2=q22 at*
 generalize a2*b3=q23 at*
 generalize a2*b4=q24 at*
 generalize a3*b0=q30 at*
 generalize a3*b1=q31 at*
 generalize a3*b2=q32 at*
 generalize a3*b3=q33 at*
 generalize a3*b4=q34 at*
 generalize a4*b0=q40 at*
 generalize a4*b1=q41 at*
 generalize a4*b2=q42 at*
 generalize a4*b3=q43 at*
 generalize a4*b4=q44 at*
 refine⟨?_,?_,?_,?_,?_⟩<;>omega
theorem OD (a0 a1 a2 a3 a4 b0 b1 b2 b3 b4:Int):mN a0 a1 a2 a3 a4*mN b0 b1 b2 b3 b4=1*(a0*b0)+2251799813685248*(a0*b1)+5070602400912917605986812821504*(a0*b2)+11417981541647679048466287755595961091061972992*(a0*b3)+25711008708143844408671393477458601640355247900524685364822016*(a0*b4)+2251799813685248*(a1*b0)+5070602400912917605986812821504*(a1*b1)+11417981541647679048466287755595961091061972992*(a1*b2)+25711008708143844408671393477458601640355247900524685364822016*(a1*b3)+57896044618658097711785492504343953926634992332820282019728792003956564819968*(a1*b4)+5070602400912917605986812821504*(a2*b0)+11417981541647679048466287755595961091061972992*(a2*b1)+25711008708143844408671393477458601640355247900524685364822016*(a2*b2)+57896044618658097711785492504343953926634992332820282019728792003956564819968*(a2*b3)+130370302485407109521180524058200202307293977194619920040712988758680403184853549195737432064*(a2*b4)+11417981541647679048466287755595961091061972992*(a3*b0)+25711008708143844408671393477458601640355247900524685364822016*(a3*b1)+57896044618658097711785492504343953926634992332820282019728792003956564819968*(a3*b2)+130370302485407109521180524058200202307293977194619920040712988758680403184853549195737432064*(a3*b3)+293567822846729153486185074598667128421960318613539983838411371441526128139326055432962374798096087878991872*(a3*b4)+25711008708143844408671393477458601640355247900524685364822016*(a4*b0)+57896044618658097711785492504343953926634992332820282019728792003956564819968*(a4*b1)+130370302485407109521180524058200202307293977194619920040712988758680403184853549195737432064*(a4*b2)+293567822846729153486185074598667128421960318613539983838411371441526128139326055432962374798096087878991872*(a4*b3)+661055968790248598951915308032771039828404682964281219284648795274405791236311345825189210439715284847591212025023358304256*(a4*b4):=by
 unfold mN
 grind
set_option maxHeartbeats 1000000 in
theorem wD (a b:List Int) (ha:fY a) (hb:fY b):bU (cX a b) (vL a*vL b):=by
 obtain⟨a0,a1,a2,a3,a4,rfl,hA⟩:=ha.five
 obtain⟨b0,b1,b2,b3,b4,rfl,hB⟩:=hb.five
 obtain⟨h0,h1,h2,h3,h4⟩:=SV a0 a1 a2 a3 a4 b0 b1 b2 b3 b4 hA hB
 obtain⟨k1,q,k2⟩:=yO (wL a0 a1 a2 a3 a4 b0 b1 b2 b3 b4%2251799813685248+19*(sI a0 a1 a2 a3 a4 b0 b1 b2 b3 b4 / 2251799813685248)) (wM a0 a1 a2 a3 a4 b0 b1 b2 b3 b4%2251799813685248) (wN a0 a1 a2 a3 a4 b0 b1 b2 b3 b4%2251799813685248) (wO a0 a1 a2 a3 a4 b0 b1 b2 b3 b4%2251799813685248) (sI a0 a1 a2 a3 a4 b0 b1 b2 b3 b4%2251799813685248) (by omega) (by omega) (by omega) (by omega) (by omega)
 refine⟨k1,q+sI a0 a1 a2 a3 a4 b0 b1 b2 b3 b4 / 2251799813685248+(1*(a1*b4)+1*(a2*b3)+2251799813685248*(a2*b4)+1*(a3*b2)+2251799813685248*(a3*b3)+5070602400912917605986812821504*(a3*b4)+1*(a4*b1)+2251799813685248*(a4*b2)+5070602400912917605986812821504*(a4*b3)+11417981541647679048466287755595961091061972992*(a4*b4)),?_⟩
 show vL (mZ _ _ _ _ _)=mN _ _ _ _ _*mN _ _ _ _ _ - _
 rw[k2,OD]
 have e0:wL a0 a1 a2 a3 a4 b0 b1 b2 b3 b4=0+a0*b0+a1*(19*b4)+a2*(19*b3)+a3*(19*b2)+a4*(19*b1):=rfl
 have e1:wM a0 a1 a2 a3 a4 b0 b1 b2 b3 b4=wL a0 a1 a2 a3 a4 b0 b1 b2 b3 b4 / 2251799813685248+a0*b1+a1*b0+a2*(19*b4)+a3*(19*b3)+a4*(19*b2):=rfl
 have e2:wN a0 a1 a2 a3 a4 b0 b1 b2 b3 b4=wM a0 a1 a2 a3 a4 b0 b1 b2 b3 b4 / 2251799813685248+a0*b2+a1*b1+a2*b0+a3*(19*b4)+a4*(19*b3):=rfl
 have e3:wO a0 a1 a2 a3 a4 b0 b1 b2 b3 b4=wN a0 a1 a2 a3 a4 b0 b1 b2 b3 b4 / 2251799813685248+a0*b3+a1*b2+a2*b1+a3*b0+a4*(19*b4):=rfl
 have e4:sI a0 a1 a2 a3 a4 b0 b1 b2 b3 b4=wO a0 a1 a2 a3 a4 b0 b1 b2 b3 b4 / 2251799813685248+a0*b4+a1*b3+a2*b2+a3*b1+a4*b0:=rfl
 generalize wL a0 a1 a2 a3 a4 b0 b1 b2 b3 b4=s0 at*
 generalize wM a0 a1 a2 a3 a4 b0 b1 b2 b3 b4=s1 at*
 generalize wN a0 a1 a2 a3 a4 b0 b1 b2 b3 b4=s2 at*
 generalize wO a0 a1 a2 a3 a4 b0 b1 b2 b3 b4=s3 at*
 generalize sI a0 a1 a2 a3 a4 b0 b1 b2 b3 b4=s4 at*
 simp only[Int.mul_left_comm _ 19 _]at e0 e1 e2 e3 e4
 generalize a0*b0=q00 at*
 generalize a0*b1=q01 at*
 generalize a0*b2=q02 at*
 generalize a0*b3=q03 at*
 generalize a0*b4=q04 at*
 generalize a1*b0=q10 at*
 generalize a1*b1=q11 at*
 generalize a1*b2=q12 at*
 generalize a1*b3=q13 at*
 generalize a1*b4=q14 at*
 generalize a2*b0=q20 at*
 generalize a2*b1=q21 at*
 generalize a2*b2=q22 at*
 generalize a2*b3=q23 at*
 generalize a2*b4=q24 at*
 generalize a3*b0=q30 at*
 generalize a3*b1=q31 at*
 generalize a3*b2=q32 at*
 generalize a3*b3=q33 at*
 generalize a3*b4=q34 at*
 generalize a4*b0=q40 at*
 generalize a4*b1=q41 at*
 generalize a4*b2=q42 at*
 generalize a4*b3=q43 at*
 generalize a4*b4=q44 at*
 unfold mN pF
 simp only[Int.add_mul]
 omega
theorem Y7 (c:Int) (hc:0≤c) (hc2:c<18446744073709551616):bI c=#[.int .u64 0,.int .u64 c]:=by
 unfold bI
 rw[show c / 18446744073709551616=0 by omega,show c%18446744073709551616=c by omega]
theorem oD (c a b:Int) (hc:0≤c∧c<18446744073709551616) (ha:0≤a∧a≤18446744073709551615) (hb:0≤b∧b≤18446744073709551615) (hs:c+a*b<340282366920938463463374607431768211456) (r:Int) (hr:c+a*b=r) (w:World):
 Calls prog 135 #[.agg #[.int .u64 0,.int .u64 c],.int .u64 a,.int .u64 b] w fun e w'=>e=.returned (.agg (bI r))∧Below w.heap.size w w':=by
 rw[←Y7 c hc.1 hc.2]
 exact bR c a b hc.1 ha hb hs r hr w
theorem rI (v:Int):(prog.info? 225).map (·.size)=some (bI v).size:=abN
theorem vE (v:Int):(bI v).all (·.oneCell')=true:=by simp[bI,Value.oneCell']
set_option maxRecDepth 100000 in
set_option maxHeartbeats 4000000 in
theorem QU (a0 a1 a2 a3 a4 b0 b1 b2 b3 b4:Int) (ha:El a0 a1 a2 a3 a4) (hb:El b0 b1 b2 b3 b4) (w:World):
 Calls prog 124 #[.agg (Iv .u64 [a0,a1,a2,a3,a4]),.agg (Iv .u64 [b0,b1,b2,b3,b4])] w fun e w'=>e=.returned (.agg (Iv .u64 (cX [a0,a1,a2,a3,a4] [b0,b1,b2,b3,b4])))∧Below w.heap.size w w':=by
 obtain⟨h0,h1,h2,h3,h4⟩:=SV a0 a1 a2 a3 a4 b0 b1 b2 b3 b4 ha hb
 obtain⟨hA0,hA1,hA2,hA3,hA4⟩:=ha
 obtain⟨hB0,hB1,hB2,hB3,hB4⟩:=hb
 have p00:=aQ a0 b0 2251799813685311 2251799813685311 (by omega) (by omega)
 have p01:=aQ a0 b1 2251799813685311 2251799813685311 (by omega) (by omega)
 have p02:=aQ a0 b2 2251799813685311 2251799813685311 (by omega) (by omega)
 have p03:=aQ a0 b3 2251799813685311 2251799813685311 (by omega) (by omega)
 have p04:=aQ a0 b4 2251799813685311 2251799813685311 (by omega) (by omega)
 have p10:=aQ a1 b0 2251799813685311 2251799813685311 (by omega) (by omega)
 have p11:=aQ a1 b1 2251799813685311 2251799813685311 (by omega) (by omega)
 have p12:=aQ a1 b2 2251799813685311 2251799813685311 (by omega) (by omega)
 have p13:=aQ a1 b3 2251799813685311 2251799813685311 (by omega) (by omega)
 have p14:=aQ a1 b4 2251799813685311 2251799813685311 (by omega) (by omega)
 have p20:=aQ a2 b0 2251799813685311 2251799813685311 (by omega) (by omega)
 have p21:=aQ a2 b1 2251799813685311 2251799813685311 (by omega) (by omega)
 have p22:=aQ a2 b2 2251799813685311 2251799813685311 (by omega) (by omega)
 have p23:=aQ a2 b3 2251799813685311 2251799813685311 (by omega) (by omega)
 have p24:=aQ a2 b4 2251799813685311 2251799813685311 (by omega) (by omega)
 have p30:=aQ a3 b0 2251799813685311 2251799813685311 (by omega) (by omega)
 have p31:=aQ a3 b1 2251799813685311 2251799813685311 (by omega) (by omega)
 have p32:=aQ a3 b2 2251799813685311 2251799813685311 (by omega) (by omega)
 have p33:=aQ a3 b3 2251799813685311 2251799813685311 (by omega) (by omega)
 have p34:=aQ a3 b4 2251799813685311 2251799813685311 (by omega) (by omega)
 have p40:=aQ a4 b0 2251799813685311 2251799813685311 (by omega) (by omega)
 have p41:=aQ a4 b1 2251799813685311 2251799813685311 (by omega) (by omega)
 have p42:=aQ a4 b2 2251799813685311 2251799813685311 (by omega) (by omega)
 have p43:=aQ a4 b3 2251799813685311 2251799813685311 (by omega) (by omega)
 have p44:=aQ a4 b4 2251799813685311 2251799813685311 (by omega) (by omega)
 have HC:Hid (∀W,_):=fun W=>nS (wL a0 a1 a2 a3 a4 b0 b1 b2 b3 b4%2251799813685248+19*(sI a0 a1 a2 a3 a4 b0 b1 b2 b3 b4 / 2251799813685248)) (wM a0 a1 a2 a3 a4 b0 b1 b2 b3 b4%2251799813685248) (wN a0 a1 a2 a3 a4 b0 b1 b2 b3 b4%2251799813685248) (wO a0 a1 a2 a3 a4 b0 b1 b2 b3 b4%2251799813685248) (sI a0 a1 a2 a3 a4 b0 b1 b2 b3 b4%2251799813685248) (by omega) (by omega) (by omega) (by omega) (by omega) W
 have hl:Hid ((mZ (wL a0 a1 a2 a3 a4 b0 b1 b2 b3 b4%2251799813685248+19*(sI a0 a1 a2 a3 a4 b0 b1 b2 b3 b4 / 2251799813685248)) (wM a0 a1 a2 a3 a4 b0 b1 b2 b3 b4%2251799813685248) (wN a0 a1 a2 a3 a4 b0 b1 b2 b3 b4%2251799813685248) (wO a0 a1 a2 a3 a4 b0 b1 b2 b3 b4%2251799813685248) (sI a0 a1 a2 a3 a4 b0 b1 b2 b3 b4%2251799813685248)).length=5):=rfl
 rw[show cX [a0,a1,a2,a3,a4] [b0,b1,b2,b3,b4]=mZ (wL a0 a1 a2 a3 a4 b0 b1 b2 b3 b4%2251799813685248+19*(sI a0 a1 a2 a3 a4 b0 b1 b2 b3 b4 / 2251799813685248)) (wM a0 a1 a2 a3 a4 b0 b1 b2 b3 b4%2251799813685248) (wN a0 a1 a2 a3 a4 b0 b1 b2 b3 b4%2251799813685248) (wO a0 a1 a2 a3 a4 b0 b1 b2 b3 b4%2251799813685248) (sI a0 a1 a2 a3 a4 b0 b1 b2 b3 b4%2251799813685248)from rfl]
 generalize mZ (wL a0 a1 a2 a3 a4 b0 b1 b2 b3 b4%2251799813685248+19*(sI a0 a1 a2 a3 a4 b0 b1 b2 b3 b4 / 2251799813685248)) (wM a0 a1 a2 a3 a4 b0 b1 b2 b3 b4%2251799813685248) (wN a0 a1 a2 a3 a4 b0 b1 b2 b3 b4%2251799813685248) (wO a0 a1 a2 a3 a4 b0 b1 b2 b3 b4%2251799813685248) (sI a0 a1 a2 a3 a4 b0 b1 b2 b3 b4%2251799813685248)=R at*
 have hrow:∀a b c d e:Int,Iv .u64 [a,b,c,d,e]=#[.int .u64 a,.int .u64 b,.int .u64 c,.int .u64 d,.int .u64 e]:=fun _ _ _ _ _=>rfl
 rw[hrow,hrow]
 have e0:wL a0 a1 a2 a3 a4 b0 b1 b2 b3 b4=0+a0*b0+a1*(19*b4)+a2*(19*b3)+a3*(19*b2)+a4*(19*b1):=rfl
 have e1:wM a0 a1 a2 a3 a4 b0 b1 b2 b3 b4=wL a0 a1 a2 a3 a4 b0 b1 b2 b3 b4 / 2251799813685248+a0*b1+a1*b0+a2*(19*b4)+a3*(19*b3)+a4*(19*b2):=rfl
 have e2:wN a0 a1 a2 a3 a4 b0 b1 b2 b3 b4=wM a0 a1 a2 a3 a4 b0 b1 b2 b3 b4 / 2251799813685248+a0*b2+a1*b1+a2*b0+a3*(19*b4)+a4*(19*b3):=rfl
 have e3:wO a0 a1 a2 a3 a4 b0 b1 b2 b3 b4=wN a0 a1 a2 a3 a4 b0 b1 b2 b3 b4 / 2251799813685248+a0*b3+a1*b2+a2*b1+a3*b0+a4*(19*b4):=rfl
 have e4:sI a0 a1 a2 a3 a4 b0 b1 b2 b3 b4=wO a0 a1 a2 a3 a4 b0 b1 b2 b3 b4 / 2251799813685248+a0*b4+a1*b3+a2*b2+a3*b1+a4*b0:=rfl
 generalize wL a0 a1 a2 a3 a4 b0 b1 b2 b3 b4=s0 at*
 generalize wM a0 a1 a2 a3 a4 b0 b1 b2 b3 b4=s1 at*
 generalize wN a0 a1 a2 a3 a4 b0 b1 b2 b3 b4=s2 at*
 generalize wO a0 a1 a2 a3 a4 b0 b1 b2 b3 b4=s3 at*
 generalize sI a0 a1 a2 a3 a4 b0 b1 b2 b3 b4=s4 at*
 obtain⟨c0,f0⟩:∃c,s0 / 2251799813685248=c:=⟨_,rfl⟩
 rw[f0]at e1
 obtain⟨c1,f1⟩:∃c,s1 / 2251799813685248=c:=⟨_,rfl⟩
 rw[f1]at e2
 obtain⟨c2,f2⟩:∃c,s2 / 2251799813685248=c:=⟨_,rfl⟩
 rw[f2]at e3
 obtain⟨c3,f3⟩:∃c,s3 / 2251799813685248=c:=⟨_,rfl⟩
 rw[f3]at e4
 obtain⟨c4,f4⟩:∃c,s4 / 2251799813685248=c:=⟨_,rfl⟩
 have g0:0≤c0∧c0<18446744073709551616:=by omega
 have g1:0≤c1∧c1<18446744073709551616:=by omega
 have g2:0≤c2∧c2<18446744073709551616:=by omega
 have g3:0≤c3∧c3<18446744073709551616:=by omega
 have g4:0≤c4∧c4<18446744073709551616:=by omega
 obtain⟨v00,d00⟩:∃v,0+a0*b0=v:=⟨_,rfl⟩
 rw[d00]at e0
 obtain⟨v01,d01⟩:∃v,v00+a1*(19*b4)=v:=⟨_,rfl⟩
 rw[d01]at e0
 obtain⟨v02,d02⟩:∃v,v01+a2*(19*b3)=v:=⟨_,rfl⟩
 rw[d02]at e0
 obtain⟨v03,d03⟩:∃v,v02+a3*(19*b2)=v:=⟨_,rfl⟩
 rw[d03]at e0
 have d04:v03+a4*(19*b1)=s0:=e0.symm
 obtain⟨v10,d10⟩:∃v,c0+a0*b1=v:=⟨_,rfl⟩
 rw[d10]at e1
 obtain⟨v11,d11⟩:∃v,v10+a1*b0=v:=⟨_,rfl⟩
 rw[d11]at e1
 obtain⟨v12,d12⟩:∃v,v11+a2*(19*b4)=v:=⟨_,rfl⟩
 rw[d12]at e1
 obtain⟨v13,d13⟩:∃v,v12+a3*(19*b3)=v:=⟨_,rfl⟩
 rw[d13]at e1
 have d14:v13+a4*(19*b2)=s1:=e1.symm
 obtain⟨v20,d20⟩:∃v,c1+a0*b2=v:=⟨_,rfl⟩
 rw[d20]at e2
 obtain⟨v21,d21⟩:∃v,v20+a1*b1=v:=⟨_,rfl⟩
 rw[d21]at e2
 obtain⟨v22,d22⟩:∃v,v21+a2*b0=v:=⟨_,rfl⟩
 rw[d22]at e2
 obtain⟨v23,d23⟩:∃v,v22+a3*(19*b4)=v:=⟨_,rfl⟩
 rw[d23]at e2
 have d24:v23+a4*(19*b3)=s2:=e2.symm
 obtain⟨v30,d30⟩:∃v,c2+a0*b3=v:=⟨_,rfl⟩
 rw[d30]at e3
 obtain⟨v31,d31⟩:∃v,v30+a1*b2=v:=⟨_,rfl⟩
 rw[d31]at e3
 obtain⟨v32,d32⟩:∃v,v31+a2*b1=v:=⟨_,rfl⟩
 rw[d32]at e3
 obtain⟨v33,d33⟩:∃v,v32+a3*b0=v:=⟨_,rfl⟩
 rw[d33]at e3
 have d34:v33+a4*(19*b4)=s3:=e3.symm
 obtain⟨v40,d40⟩:∃v,c3+a0*b4=v:=⟨_,rfl⟩
 rw[d40]at e4
 obtain⟨v41,d41⟩:∃v,v40+a1*b3=v:=⟨_,rfl⟩
 rw[d41]at e4
 obtain⟨v42,d42⟩:∃v,v41+a2*b2=v:=⟨_,rfl⟩
 rw[d42]at e4
 obtain⟨v43,d43⟩:∃v,v42+a3*b1=v:=⟨_,rfl⟩
 rw[d43]at e4
 have d44:v43+a4*b0=s4:=e4.symm
 have hb19:∀b:Int,0≤b→b<2251799813685312→0≤19*b∧19*b≤18446744073709551615:=fun b h1 h2=>by omega
 have C00:Hid (∀W,_):=fun W=>oD 0 a0 b0 ⟨by omega,by omega⟩ ⟨by omega,by omega⟩ ⟨by omega,by omega⟩ (by omega) v00 d00 W
 have m01:=Int.mul_left_comm a1 19 b4
 have u01:0≤v00∧v00<20769187434139310514121985316880384:=by omega
 have C01:Hid (∀W,_):=fun W=>bR v00 a1 (19*b4) u01.1 ⟨by omega,by omega⟩ ⟨by omega,by omega⟩ (by omega) v01 d01 W
 have m02:=Int.mul_left_comm a2 19 b3
 have u02:0≤v01∧v01<20769187434139310514121985316880384:=by omega
 have C02:Hid (∀W,_):=fun W=>bR v01 a2 (19*b3) u02.1 ⟨by omega,by omega⟩ ⟨by omega,by omega⟩ (by omega) v02 d02 W
 have m03:=Int.mul_left_comm a3 19 b2
 have u03:0≤v02∧v02<20769187434139310514121985316880384:=by omega
 have C03:Hid (∀W,_):=fun W=>bR v02 a3 (19*b2) u03.1 ⟨by omega,by omega⟩ ⟨by omega,by omega⟩ (by omega) v03 d03 W
 have m04:=Int.mul_left_comm a4 19 b1
 have u04:0≤v03∧v03<20769187434139310514121985316880384:=by omega
 have C04:Hid (∀W,_):=fun W=>bR v03 a4 (19*b1) u04.1 ⟨by omega,by omega⟩ ⟨by omega,by omega⟩ (by omega) s0 d04 W
 have C10:Hid (∀W,_):=fun W=>oD c0 a0 b1 ⟨by omega,by omega⟩ ⟨by omega,by omega⟩ ⟨by omega,by omega⟩ (by omega) v10 d10 W
 have u11:0≤v10∧v10<20769187434139310514121985316880384:=by omega
 have C11:Hid (∀W,_):=fun W=>bR v10 a1 b0 u11.1 ⟨by omega,by omega⟩ ⟨by omega,by omega⟩ (by omega) v11 d11 W
 have m12:=Int.mul_left_comm a2 19 b4
 have u12:0≤v11∧v11<20769187434139310514121985316880384:=by omega
 have C12:Hid (∀W,_):=fun W=>bR v11 a2 (19*b4) u12.1 ⟨by omega,by omega⟩ ⟨by omega,by omega⟩ (by omega) v12 d12 W
 have m13:=Int.mul_left_comm a3 19 b3
 have u13:0≤v12∧v12<20769187434139310514121985316880384:=by omega
 have C13:Hid (∀W,_):=fun W=>bR v12 a3 (19*b3) u13.1 ⟨by omega,by omega⟩ ⟨by omega,by omega⟩ (by omega) v13 d13 W
 have m14:=Int.mul_left_comm a4 19 b2
 have u14:0≤v13∧v13<20769187434139310514121985316880384:=by omega
 have C14:Hid (∀W,_):=fun W=>bR v13 a4 (19*b2) u14.1 ⟨by omega,by omega⟩ ⟨by omega,by omega⟩ (by omega) s1 d14 W
 have C20:Hid (∀W,_):=fun W=>oD c1 a0 b2 ⟨by omega,by omega⟩ ⟨by omega,by omega⟩ ⟨by omega,by omega⟩ (by omega) v20 d20 W
 have u21:0≤v20∧v20<20769187434139310514121985316880384:=by omega
 have C21:Hid (∀W,_):=fun W=>bR v20 a1 b1 u21.1 ⟨by omega,by omega⟩ ⟨by omega,by omega⟩ (by omega) v21 d21 W
 have u22:0≤v21∧v21<20769187434139310514121985316880384:=by omega
 have C22:Hid (∀W,_):=fun W=>bR v21 a2 b0 u22.1 ⟨by omega,by omega⟩ ⟨by omega,by omega⟩ (by omega) v22 d22 W
 have m23:=Int.mul_left_comm a3 19 b4
 have u23:0≤v22∧v22<20769187434139310514121985316880384:=by omega
 have C23:Hid (∀W,_):=fun W=>bR v22 a3 (19*b4) u23.1 ⟨by omega,by omega⟩ ⟨by omega,by omega⟩ (by omega) v23 d23 W
 have m24:=Int.mul_left_comm a4 19 b3
 have u24:0≤v23∧v23<20769187434139310514121985316880384:=by omega
 have C24:Hid (∀W,_):=fun W=>bR v23 a4 (19*b3) u24.1 ⟨by omega,by omega⟩ ⟨by omega,by omega⟩ (by omega) s2 d24 W
 have C30:Hid (∀W,_):=fun W=>oD c2 a0 b3 ⟨by omega,by omega⟩ ⟨by omega,by omega⟩ ⟨by omega,by omega⟩ (by omega) v30 d30 W
 have u31:0≤v30∧v30<20769187434139310514121985316880384:=by omega
 have C31:Hid (∀W,_):=fun W=>bR v30 a1 b2 u31.1 ⟨by omega,by omega⟩ ⟨by omega,by omega⟩ (by omega) v31 d31 W
 have u32:0≤v31∧v31<20769187434139310514121985316880384:=by omega
 have C32:Hid (∀W,_):=fun W=>bR v31 a2 b1 u32.1 ⟨by omega,by omega⟩ ⟨by omega,by omega⟩ (by omega) v32 d32 W
 have u33:0≤v32∧v32<20769187434139310514121985316880384:=by omega
 have C33:Hid (∀W,_):=fun W=>bR v32 a3 b0 u33.1 ⟨by omega,by omega⟩ ⟨by omega,by omega⟩ (by omega) v33 d33 W
 have m34:=Int.mul_left_comm a4 19 b4
 have u34:0≤v33∧v33<20769187434139310514121985316880384:=by omega
 have C34:Hid (∀W,_):=fun W=>bR v33 a4 (19*b4) u34.1 ⟨by omega,by omega⟩ ⟨by omega,by omega⟩ (by omega) s3 d34 W
 have C40:Hid (∀W,_):=fun W=>oD c3 a0 b4 ⟨by omega,by omega⟩ ⟨by omega,by omega⟩ ⟨by omega,by omega⟩ (by omega) v40 d40 W
 have u41:0≤v40∧v40<20769187434139310514121985316880384:=by omega
 have C41:Hid (∀W,_):=fun W=>bR v40 a1 b3 u41.1 ⟨by omega,by omega⟩ ⟨by omega,by omega⟩ (by omega) v41 d41 W
 have u42:0≤v41∧v41<20769187434139310514121985316880384:=by omega
 have C42:Hid (∀W,_):=fun W=>bR v41 a2 b2 u42.1 ⟨by omega,by omega⟩ ⟨by omega,by omega⟩ (by omega) v42 d42 W
 have u43:0≤v42∧v42<20769187434139310514121985316880384:=by omega
 have C43:Hid (∀W,_):=fun W=>bR v42 a3 b1 u43.1 ⟨by omega,by omega⟩ ⟨by omega,by omega⟩ (by omega) v43 d43 W
 have u44:0≤v43∧v43<20769187434139310514121985316880384:=by omega
 have C44:Hid (∀W,_):=fun W=>bR v43 a4 b0 u44.1 ⟨by omega,by omega⟩ ⟨by omega,by omega⟩ (by omega) s4 d44 W
 have K0:Hid (∀W,_):=fun W=>kS s0 h0.1 (by omega) W
 rw[f0]at K0
 have K1:Hid (∀W,_):=fun W=>kS s1 h1.1 (by omega) W
 rw[f1]at K1
 have K2:Hid (∀W,_):=fun W=>kS s2 h2.1 (by omega) W
 rw[f2]at K2
 have K3:Hid (∀W,_):=fun W=>kS s3 h3.1 (by omega) W
 rw[f3]at K3
 have K4:Hid (∀W,_):=fun W=>kS s4 h4.1 (by omega) W
 rw[f4]at K4
 rw[f4]at HC
 clear p00 p01 p02 p03 p04 p10 p11 p12 p13 p14 p20 p21 p22 p23 p24 p30 p31 p32 p33 p34 p40 p41 p42 p43 p44 d00 d01 d02 d03 d04 d10 d11 d12 d13 d14 d20 d21 d22 d23 d24 d30 d31 d32 d33 d34 d40 d41 d42 d43 d44 e0 e1 e2 e3 e4 u01 u02 u03 u04 u11 u12 u13 u14 u21 u22 u23 u24 u31 u32 u33 u34 u41 u42 u43 u44 m01 m02 m03 m04 m12 m13 m14 m23 m24 m34
 go_enter func124,ntmps124
 go_wp2
 go_quiet (fail)
 generalize nq=nq0
 go_wp2
 go_quiet (fail)
 generalize nq=nq1
 go_wp2_with fail
 refine(C00.out _).mono ?_
 rintro e w00 ⟨rfl,hb⟩
 have F_w00:Hid (Rw w [(w.heap.size+1+1,Iv .u64 [0,0,0,0,0],211)] w00):=by
  have h:=((((Rw.start w).alloc (Iv .u64 [a0,a1,a2,a3,a4]) 211).alloc (Iv .u64 [b0,b1,b2,b3,b4]) 211).alloc (Iv .u64 [0,0,0,0,0]) 211).later (bDr (Below.refl _ _) (nq0+nq1)) (nQ _)
  have h2:=h.later hb (nQ _)
  simp only[wU]at h2
  exact h2.sub (fun r hr=>by rw[mU.1 hr];exact mQ)
 clear hb
 go_wp2_with fail
 refine(C01.out _).mono ?_
 rintro e w01 ⟨rfl,hb⟩
 have F_w01:Hid (Rw w [(w.heap.size+1+1,Iv .u64 [0,0,0,0,0],211)] w01):=F_w00.out.later hb (nQ _)
 clear hb F_w00
 go_wp2_with fail
 refine(C02.out _).mono ?_
 rintro e w02 ⟨rfl,hb⟩
 have F_w02:Hid (Rw w [(w.heap.size+1+1,Iv .u64 [0,0,0,0,0],211)] w02):=F_w01.out.later hb (nQ _)
 clear hb F_w01
 go_wp2_with fail
 refine(C03.out _).mono ?_
 rintro e w03 ⟨rfl,hb⟩
 have F_w03:Hid (Rw w [(w.heap.size+1+1,Iv .u64 [0,0,0,0,0],211)] w03):=F_w02.out.later hb (nQ _)
 clear hb F_w02
 go_wp2_with fail
 refine(C04.out _).mono ?_
 rintro e w04 ⟨rfl,hb⟩
 have F_w04:Hid (Rw w [(w.heap.size+1+1,Iv .u64 [0,0,0,0,0],211)] w04):=F_w03.out.later hb (nQ _)
 clear hb F_w03
 have KA:Hid ((w04.alloc (.cells #[.int .u64 0,.int .u64 0] 225)).heap[w04.heap.size]? =some (.cells #[.int .u64 0,.int .u64 0] 225)):=hAN _ _
 go_wp2_with(with_reducible refine aJ ?_;refine wpPr rfl 225 _ _ rfl w04.heap.size (bI s0) rfl rfl _ _ KA.out (rI _) rfl (vE _) (fun x0 hP=>sH ?_))
 refine aH ?_
 have F_x00:=F_w04.out.newRow hP
 obtain⟨g0,eg0⟩:∃x,x=w04.heap.size:=⟨_,rfl⟩
 rw[←eg0]at F_x00⊢
 have F_x0:Hid (Rw w [(g0,bI s0,225),(w.heap.size+1+1,Iv .u64 [0,0,0,0,0],211)] x0):=F_x00
 clear F_x00 hP KA eg0 F_w04
 have HR1:Hid _:=(F_x0.out.row _ mQ).2.2
 go_wp2_with(with_reducible refine aJ ?_;refine wpLr rfl 225 _ rfl g0 rfl _ (bI s0) _ _ HR1.out underlying225 rfl (rI _) ?_)
 refine(K0.out _).mono ?_
 rintro e wk1 ⟨rfl,hb⟩
 have F_wk1:Hid (Rw w [(g0,bI s0,225),(w.heap.size+1+1,Iv .u64 [0,0,0,0,0],211)] wk1):=F_x0.out.later hb (nQ _)
 clear hb F_x0 HR1
 go_wp2_with fail
 refine(C10.out _).mono ?_
 rintro e w10 ⟨rfl,hb⟩
 have F_w10:Hid (Rw w [(g0,bI s0,225),(w.heap.size+1+1,Iv .u64 [0,0,0,0,0],211)] w10):=F_wk1.out.later hb (nQ _)
 clear hb F_wk1
 go_wp2_with fail
 refine(C11.out _).mono ?_
 rintro e w11 ⟨rfl,hb⟩
 have F_w11:Hid (Rw w [(g0,bI s0,225),(w.heap.size+1+1,Iv .u64 [0,0,0,0,0],211)] w11):=F_w10.out.later hb (nQ _)
 clear hb F_w10
 go_wp2_with fail
 refine(C12.out _).mono ?_
 rintro e w12 ⟨rfl,hb⟩
 have F_w12:Hid (Rw w [(g0,bI s0,225),(w.heap.size+1+1,Iv .u64 [0,0,0,0,0],211)] w12):=F_w11.out.later hb (nQ _)
 clear hb F_w11
 go_wp2_with fail
 refine(C13.out _).mono ?_
 rintro e w13 ⟨rfl,hb⟩
 have F_w13:Hid (Rw w [(g0,bI s0,225),(w.heap.size+1+1,Iv .u64 [0,0,0,0,0],211)] w13):=F_w12.out.later hb (nQ _)
 clear hb F_w12
 go_wp2_with fail
 refine(C14.out _).mono ?_
 rintro e w14 ⟨rfl,hb⟩
 have F_w14:Hid (Rw w [(g0,bI s0,225),(w.heap.size+1+1,Iv .u64 [0,0,0,0,0],211)] w14):=F_w13.out.later hb (nQ _)
 clear hb F_w13
 have KA:Hid ((w14.alloc (.cells #[.int .u64 0,.int .u64 0] 225)).heap[w14.heap.size]? =some (.cells #[.int .u64 0,.int .u64 0] 225)):=hAN _ _
 go_wp2_with(with_reducible refine aJ ?_;refine wpPr rfl 225 _ _ rfl w14.heap.size (bI s1) rfl rfl _ _ KA.out (rI _) rfl (vE _) (fun x1 hP=>sH ?_))
 refine aH ?_
 have F_x10:=F_w14.out.newRow hP
 obtain⟨g1,eg1⟩:∃x,x=w14.heap.size:=⟨_,rfl⟩
 rw[←eg1]at F_x10⊢
 have F_x1:Hid (Rw w [(g1,bI s1,225),(g0,bI s0,225),(w.heap.size+1+1,Iv .u64 [0,0,0,0,0],211)] x1):=F_x10
 clear F_x10 hP KA eg1 F_w14
 have HR2:Hid _:=(F_x1.out.row _ mQ).2.2
 go_wp2_with(with_reducible refine aJ ?_;refine wpLr rfl 225 _ rfl g1 rfl _ (bI s1) _ _ HR2.out underlying225 rfl (rI _) ?_)
 refine(K1.out _).mono ?_
 rintro e wk2 ⟨rfl,hb⟩
 have F_wk2:Hid (Rw w [(g1,bI s1,225),(g0,bI s0,225),(w.heap.size+1+1,Iv .u64 [0,0,0,0,0],211)] wk2):=F_x1.out.later hb (nQ _)
 clear hb F_x1 HR2
 go_wp2_with fail
 refine(C20.out _).mono ?_
 rintro e w20 ⟨rfl,hb⟩
 have F_w20:Hid (Rw w [(g1,bI s1,225),(g0,bI s0,225),(w.heap.size+1+1,Iv .u64 [0,0,0,0,0],211)] w20):=F_wk2.out.later hb (nQ _)
 clear hb F_wk2
 go_wp2_with fail
 refine(C21.out _).mono ?_
 rintro e w21 ⟨rfl,hb⟩
 have F_w21:Hid (Rw w [(g1,bI s1,225),(g0,bI s0,225),(w.heap.size+1+1,Iv .u64 [0,0,0,0,0],211)] w21):=F_w20.out.later hb (nQ _)
 clear hb F_w20
 go_wp2_with fail
 refine(C22.out _).mono ?_
 rintro e w22 ⟨rfl,hb⟩
 have F_w22:Hid (Rw w [(g1,bI s1,225),(g0,bI s0,225),(w.heap.size+1+1,Iv .u64 [0,0,0,0,0],211)] w22):=F_w21.out.later hb (nQ _)
 clear hb F_w21
 go_wp2_with fail
 refine(C23.out _).mono ?_
 rintro e w23 ⟨rfl,hb⟩
 have F_w23:Hid (Rw w [(g1,bI s1,225),(g0,bI s0,225),(w.heap.size+1+1,Iv .u64 [0,0,0,0,0],211)] w23):=F_w22.out.later hb (nQ _)
 clear hb F_w22
 go_wp2_with fail
 refine(C24.out _).mono ?_
 rintro e w24 ⟨rfl,hb⟩
 have F_w24:Hid (Rw w [(g1,bI s1,225),(g0,bI s0,225),(w.heap.size+1+1,Iv .u64 [0,0,0,0,0],211)] w24):=F_w23.out.later hb (nQ _)
 clear hb F_w23
 have KA:Hid ((w24.alloc (.cells #[.int .u64 0,.int .u64 0] 225)).heap[w24.heap.size]? =some (.cells #[.int .u64 0,.int .u64 0] 225)):=hAN _ _
 go_wp2_with(with_reducible refine aJ ?_;refine wpPr rfl 225 _ _ rfl w24.heap.size (bI s2) rfl rfl _ _ KA.out (rI _) rfl (vE _) (fun x2 hP=>sH ?_))
 refine aH ?_
 have F_x20:=F_w24.out.newRow hP
 obtain⟨g2,eg2⟩:∃x,x=w24.heap.size:=⟨_,rfl⟩
 rw[←eg2]at F_x20⊢
 have F_x2:Hid (Rw w [(g2,bI s2,225),(g1,bI s1,225),(g0,bI s0,225),(w.heap.size+1+1,Iv .u64 [0,0,0,0,0],211)] x2):=F_x20
 clear F_x20 hP KA eg2 F_w24
 have HR3:Hid _:=(F_x2.out.row _ mQ).2.2
 go_wp2_with(with_reducible refine aJ ?_;refine wpLr rfl 225 _ rfl g2 rfl _ (bI s2) _ _ HR3.out underlying225 rfl (rI _) ?_)
 refine(K2.out _).mono ?_
 rintro e wk3 ⟨rfl,hb⟩
 have F_wk3:Hid (Rw w [(g2,bI s2,225),(g1,bI s1,225),(g0,bI s0,225),(w.heap.size+1+1,Iv .u64 [0,0,0,0,0],211)] wk3):=F_x2.out.later hb (nQ _)
 clear hb F_x2 HR3
 go_wp2_with fail
 refine(C30.out _).mono ?_
 rintro e w30 ⟨rfl,hb⟩
 have F_w30:Hid (Rw w [(g2,bI s2,225),(g1,bI s1,225),(g0,bI s0,225),(w.heap.size+1+1,Iv .u64 [0,0,0,0,0],211)] w30):=F_wk3.out.later hb (nQ _)
 clear hb F_wk3
 go_wp2_with fail
 refine(C31.out _).mono ?_
 rintro e w31 ⟨rfl,hb⟩
 have F_w31:Hid (Rw w [(g2,bI s2,225),(g1,bI s1,225),(g0,bI s0,225),(w.heap.size+1+1,Iv .u64 [0,0,0,0,0],211)] w31):=F_w30.out.later hb (nQ _)
 clear hb F_w30
 go_wp2_with fail
 refine(C32.out _).mono ?_
 rintro e w32 ⟨rfl,hb⟩
 have F_w32:Hid (Rw w [(g2,bI s2,225),(g1,bI s1,225),(g0,bI s0,225),(w.heap.size+1+1,Iv .u64 [0,0,0,0,0],211)] w32):=F_w31.out.later hb (nQ _)
 clear hb F_w31
 go_wp2_with fail
 refine(C33.out _).mono ?_
 rintro e w33 ⟨rfl,hb⟩
 have F_w33:Hid (Rw w [(g2,bI s2,225),(g1,bI s1,225),(g0,bI s0,225),(w.heap.size+1+1,Iv .u64 [0,0,0,0,0],211)] w33):=F_w32.out.later hb (nQ _)
 clear hb F_w32
 go_wp2_with fail
 refine(C34.out _).mono ?_
 rintro e w34 ⟨rfl,hb⟩
 have F_w34:Hid (Rw w [(g2,bI s2,225),(g1,bI s1,225),(g0,bI s0,225),(w.heap.size+1+1,Iv .u64 [0,0,0,0,0],211)] w34):=F_w33.out.later hb (nQ _)
 clear hb F_w33
 have KA:Hid ((w34.alloc (.cells #[.int .u64 0,.int .u64 0] 225)).heap[w34.heap.size]? =some (.cells #[.int .u64 0,.int .u64 0] 225)):=hAN _ _
 go_wp2_with(with_reducible refine aJ ?_;refine wpPr rfl 225 _ _ rfl w34.heap.size (bI s3) rfl rfl _ _ KA.out (rI _) rfl (vE _) (fun x3 hP=>sH ?_))
 refine aH ?_
 have F_x30:=F_w34.out.newRow hP
 obtain⟨g3,eg3⟩:∃x,x=w34.heap.size:=⟨_,rfl⟩
 rw[←eg3]at F_x30⊢
 have F_x3:Hid (Rw w [(g3,bI s3,225),(g2,bI s2,225),(g1,bI s1,225),(g0,bI s0,225),(w.heap.size+1+1,Iv .u64 [0,0,0,0,0],211)] x3):=F_x30
 clear F_x30 hP KA eg3 F_w34
 have HR4:Hid _:=(F_x3.out.row _ mQ).2.2
 go_wp2_with(with_reducible refine aJ ?_;refine wpLr rfl 225 _ rfl g3 rfl _ (bI s3) _ _ HR4.out underlying225 rfl (rI _) ?_)
 refine(K3.out _).mono ?_
 rintro e wk4 ⟨rfl,hb⟩
 have F_wk4:Hid (Rw w [(g3,bI s3,225),(g2,bI s2,225),(g1,bI s1,225),(g0,bI s0,225),(w.heap.size+1+1,Iv .u64 [0,0,0,0,0],211)] wk4):=F_x3.out.later hb (nQ _)
 clear hb F_x3 HR4
 go_wp2_with fail
 refine(C40.out _).mono ?_
 rintro e w40 ⟨rfl,hb⟩
 have F_w40:Hid (Rw w [(g3,bI s3,225),(g2,bI s2,225),(g1,bI s1,225),(g0,bI s0,225),(w.heap.size+1+1,Iv .u64 [0,0,0,0,0],211)] w40):=F_wk4.out.later hb (nQ _)
 clear hb F_wk4
 go_wp2_with fail
 refine(C41.out _).mono ?_
 rintro e w41 ⟨rfl,hb⟩
 have F_w41:Hid (Rw w [(g3,bI s3,225),(g2,bI s2,225),(g1,bI s1,225),(g0,bI s0,225),(w.heap.size+1+1,Iv .u64 [0,0,0,0,0],211)] w41):=F_w40.out.later hb (nQ _)
 clear hb F_w40
 go_wp2_with fail
 refine(C42.out _).mono ?_
 rintro e w42 ⟨rfl,hb⟩
 have F_w42:Hid (Rw w [(g3,bI s3,225),(g2,bI s2,225),(g1,bI s1,225),(g0,bI s0,225),(w.heap.size+1+1,Iv .u64 [0,0,0,0,0],211)] w42):=F_w41.out.later hb (nQ _)
 clear hb F_w41
 go_wp2_with fail
 refine(C43.out _).mono ?_
 rintro e w43 ⟨rfl,hb⟩
 have F_w43:Hid (Rw w [(g3,bI s3,225),(g2,bI s2,225),(g1,bI s1,225),(g0,bI s0,225),(w.heap.size+1+1,Iv .u64 [0,0,0,0,0],211)] w43):=F_w42.out.later hb (nQ _)
 clear hb F_w42
 go_wp2_with fail
 refine(C44.out _).mono ?_
 rintro e w44 ⟨rfl,hb⟩
 have F_w44:Hid (Rw w [(g3,bI s3,225),(g2,bI s2,225),(g1,bI s1,225),(g0,bI s0,225),(w.heap.size+1+1,Iv .u64 [0,0,0,0,0],211)] w44):=F_w43.out.later hb (nQ _)
 clear hb F_w43
 have KA:Hid ((w44.alloc (.cells #[.int .u64 0,.int .u64 0] 225)).heap[w44.heap.size]? =some (.cells #[.int .u64 0,.int .u64 0] 225)):=hAN _ _
 go_wp2_with(with_reducible refine aJ ?_;refine wpPr rfl 225 _ _ rfl w44.heap.size (bI s4) rfl rfl _ _ KA.out (rI _) rfl (vE _) (fun x4 hP=>sH ?_))
 refine aH ?_
 have F_x40:=F_w44.out.newRow hP
 obtain⟨g4,eg4⟩:∃x,x=w44.heap.size:=⟨_,rfl⟩
 rw[←eg4]at F_x40⊢
 have F_x4:Hid (Rw w [(g4,bI s4,225),(g3,bI s3,225),(g2,bI s2,225),(g1,bI s1,225),(g0,bI s0,225),(w.heap.size+1+1,Iv .u64 [0,0,0,0,0],211)] x4):=F_x40
 clear F_x40 hP KA eg4 F_w44
 obtain⟨l0,el0⟩:∃l,s0%18446744073709551616=l:=⟨_,rfl⟩
 have hl0:0≤l0∧l0<18446744073709551616:=by omega
 have ha0:=nP l0 hl0.1 hl0.2
 have hm0:l0%2251799813685248=s0%2251799813685248:=by omega
 rw[hm0]at ha0
 clear hm0
 have hr0:0≤s0%2251799813685248∧s0%2251799813685248<2251799813685248:=by omega
 have q0:∀x:yG x4.heap.size x4,x.w.cell? ⟨g0,1,none⟩=some (.int .u64 l0):=fun x=>by rw[cell_of_row _ _ _ _ _ _ ((x.bel.block _ (F_x4.out.row _ (mC _ (mC _ (mC _ (mC _ mQ))))).2.1).trans (F_x4.out.row _ (mC _ (mC _ (mC _ (mC _ mQ))))).2.2),←el0];rfl
 obtain⟨l1,el1⟩:∃l,s1%18446744073709551616=l:=⟨_,rfl⟩
 have hl1:0≤l1∧l1<18446744073709551616:=by omega
 have ha1:=nP l1 hl1.1 hl1.2
 have hm1:l1%2251799813685248=s1%2251799813685248:=by omega
 rw[hm1]at ha1
 clear hm1
 have hr1:0≤s1%2251799813685248∧s1%2251799813685248<2251799813685248:=by omega
 have q1:∀x:yG x4.heap.size x4,x.w.cell? ⟨g1,1,none⟩=some (.int .u64 l1):=fun x=>by rw[cell_of_row _ _ _ _ _ _ ((x.bel.block _ (F_x4.out.row _ (mC _ (mC _ (mC _ mQ)))).2.1).trans (F_x4.out.row _ (mC _ (mC _ (mC _ mQ)))).2.2),←el1];rfl
 obtain⟨l2,el2⟩:∃l,s2%18446744073709551616=l:=⟨_,rfl⟩
 have hl2:0≤l2∧l2<18446744073709551616:=by omega
 have ha2:=nP l2 hl2.1 hl2.2
 have hm2:l2%2251799813685248=s2%2251799813685248:=by omega
 rw[hm2]at ha2
 clear hm2
 have hr2:0≤s2%2251799813685248∧s2%2251799813685248<2251799813685248:=by omega
 have q2:∀x:yG x4.heap.size x4,x.w.cell? ⟨g2,1,none⟩=some (.int .u64 l2):=fun x=>by rw[cell_of_row _ _ _ _ _ _ ((x.bel.block _ (F_x4.out.row _ (mC _ (mC _ mQ))).2.1).trans (F_x4.out.row _ (mC _ (mC _ mQ))).2.2),←el2];rfl
 obtain⟨l3,el3⟩:∃l,s3%18446744073709551616=l:=⟨_,rfl⟩
 have hl3:0≤l3∧l3<18446744073709551616:=by omega
 have ha3:=nP l3 hl3.1 hl3.2
 have hm3:l3%2251799813685248=s3%2251799813685248:=by omega
 rw[hm3]at ha3
 clear hm3
 have hr3:0≤s3%2251799813685248∧s3%2251799813685248<2251799813685248:=by omega
 have q3:∀x:yG x4.heap.size x4,x.w.cell? ⟨g3,1,none⟩=some (.int .u64 l3):=fun x=>by rw[cell_of_row _ _ _ _ _ _ ((x.bel.block _ (F_x4.out.row _ (mC _ mQ)).2.1).trans (F_x4.out.row _ (mC _ mQ)).2.2),←el3];rfl
 obtain⟨l4,el4⟩:∃l,s4%18446744073709551616=l:=⟨_,rfl⟩
 have hl4:0≤l4∧l4<18446744073709551616:=by omega
 have ha4:=nP l4 hl4.1 hl4.2
 have hm4:l4%2251799813685248=s4%2251799813685248:=by omega
 rw[hm4]at ha4
 clear hm4
 have hr4:0≤s4%2251799813685248∧s4%2251799813685248<2251799813685248:=by omega
 have q4:∀x:yG x4.heap.size x4,x.w.cell? ⟨g4,1,none⟩=some (.int .u64 l4):=fun x=>by rw[cell_of_row _ _ _ _ _ _ ((x.bel.block _ (F_x4.out.row _ mQ).2.1).trans (F_x4.out.row _ mQ).2.2),←el4];rfl
 have q5:∀w,(∃x:yG x4.heap.size x4,w=x.w)→w.heap[g4]? =some (.cells (bI s4) 225):=fun w hw=>by obtain⟨x,rfl⟩:=hw;exact(x.bel.block _ (F_x4.out.row _ mQ).2.1).trans (F_x4.out.row _ mQ).2.2
 generalize s0%2251799813685248=r0 at*
 generalize s1%2251799813685248=r1 at*
 generalize s2%2251799813685248=r2 at*
 generalize s3%2251799813685248=r3 at*
 generalize s4%2251799813685248=r4 at*
 clear el0 el1 el2 el3 el4 h0 h1 h2 h3 f0 f1 f2 f3
 have hw19:IntKind.u64.wrap (19*c4)=19*c4:=by rw[IntKind.wrap_u64];omega
 have hw20:IntKind.u64.wrap (r0+19*c4)=r0+19*c4:=by rw[IntKind.wrap_u64];omega
 have hc4:0≤19*c4∧19*c4≤684547143360315392:=by omega
 go_wp2_with fail
 refine wRl2 4 21 (fun w'=>∃x:yG x4.heap.size x4,w'=x.w) [(.held,[0,1,2]),(.held,[3]),(.held,[7,8,9,10,11,12,13,14,15,16,17,18]),(.tail,[4]),(.held,[5,6]),(.tail,[19]),(.tail,[20]),(.last,[21])] kJ (by kernel_rfl) ⟨⟨_,bDr (Below.refl _ _) 1⟩,rfl⟩ ?_
 simp only[jM,oS]
 refine eQ rfl (.pointer (some ⟨g0,1,none⟩)) (fun w' hw'=>by kernel_rfl) ?_
 simp only[pS]
 refine eQ rfl (.int .u64 l0) (fun w' hw'=>by obtain⟨x,rfl⟩:=hw';exact p9 95 _ rfl ⟨g0,1,none⟩ rfl .u64 underlying95 _ _ (q0 x)) ?_
 simp only[pS]
 refine eQ rfl (.int .u64 r0) (fun w' hw'=>by rw[←ha0];kernel_rfl) ?_
 simp only[pS]
 refine wqN ?_
 refine wqLr rfl 225 _ rfl g4 rfl _ (bI s4) _ _ q5 underlying225 rfl (rI _) ?_
 simp only[pS]
 refine wqN ?_
 refine eQ rfl (.pointer (some ⟨g1,1,none⟩)) (fun w' hw'=>by kernel_rfl) ?_
 simp only[pS]
 refine eQ rfl (.int .u64 l1) (fun w' hw'=>by obtain⟨x,rfl⟩:=hw';exact p9 95 _ rfl ⟨g1,1,none⟩ rfl .u64 underlying95 _ _ (q1 x)) ?_
 simp only[pS]
 refine eQ rfl (.int .u64 r1) (fun w' hw'=>by rw[←ha1];kernel_rfl) ?_
 simp only[pS]
 refine eQ rfl (.pointer (some ⟨g2,1,none⟩)) (fun w' hw'=>by kernel_rfl) ?_
 simp only[pS]
 refine eQ rfl (.int .u64 l2) (fun w' hw'=>by obtain⟨x,rfl⟩:=hw';exact p9 95 _ rfl ⟨g2,1,none⟩ rfl .u64 underlying95 _ _ (q2 x)) ?_
 simp only[pS]
 refine eQ rfl (.int .u64 r2) (fun w' hw'=>by rw[←ha2];kernel_rfl) ?_
 simp only[pS]
 refine eQ rfl (.pointer (some ⟨g3,1,none⟩)) (fun w' hw'=>by kernel_rfl) ?_
 simp only[pS]
 refine eQ rfl (.int .u64 l3) (fun w' hw'=>by obtain⟨x,rfl⟩:=hw';exact p9 95 _ rfl ⟨g3,1,none⟩ rfl .u64 underlying95 _ _ (q3 x)) ?_
 simp only[pS]
 refine eQ rfl (.int .u64 r3) (fun w' hw'=>by rw[←ha3];kernel_rfl) ?_
 simp only[pS]
 refine eQ rfl (.pointer (some ⟨g4,1,none⟩)) (fun w' hw'=>by kernel_rfl) ?_
 simp only[pS]
 refine eQ rfl (.int .u64 l4) (fun w' hw'=>by obtain⟨x,rfl⟩:=hw';exact p9 95 _ rfl ⟨g4,1,none⟩ rfl .u64 underlying95 _ _ (q4 x)) ?_
 simp only[pS]
 refine eQ rfl (.int .u64 r4) (fun w' hw'=>by rw[←ha4];kernel_rfl) ?_
 simp only[pS]
 refine wqN ?_
 go_wp2_with fail
 refine(K4.out _).mono ?_
 rintro e y0 ⟨rfl,hb⟩
 have F_y:Hid (Below x4.heap.size x4 y0):=(bDr (Below.refl x4.heap.size x4) 1).trans (hb.mono (nQ _))
 clear hb
 go_wp2_with fail
 refine⟨⟨⟨y0,F_y.out⟩,rfl⟩,?_⟩
 refine eQ rfl (.int .u64 (19*c4)) (fun w' hw'=>by rw[←hw19];kernel_rfl) ?_
 simp only[pS]
 refine eQ rfl (.int .u64 (r0+19*c4)) (fun w' hw'=>by rw[←hw20];kernel_rfl) ?_
 simp only[pS]
 refine wqN ?_
 go_wp2_with fail
 refine⟨⟨⟨y0,F_y.out⟩,rfl⟩,?_⟩
 go_wp2_with fail
 refine(HC.out _).mono ?_
 rintro e y1 ⟨rfl,hb⟩
 have F_z:Hid (Below x4.heap.size x4 y1):=F_y.out.trans (hb.mono F_y.out.size)
 clear hb F_y
 go_wp2_with fail
 refine⟨⟨⟨y1,F_z.out⟩,rfl⟩,?_⟩
 have F_9:Hid (Rw w [(g4,bI s4,225),(g3,bI s3,225),(g2,bI s2,225),(g1,bI s1,225),(g0,bI s0,225),(w.heap.size+1+1,Iv .u64 [0,0,0,0,0],211)] y1):=F_x4.out.later F_z.out (nQ _)
 have G9:Hid _:=(F_9.out.row _ (mC _ (mC _ (mC _ (mC _ (mC _ mQ)))))).2.2
 have B9:Hid _:=F_9.out.bel
 clear F_x4 F_z F_9 q0 q1 q2 q3 q4 q5
 go_wp2_with(refine wpPr rfl 211 _ _ rfl (w.heap.size+1+1) (Iv .u64 R) rfl rfl _ _ G9.out (bC hl.out) (JY hl.out) (aG _ _) (fun Z hP=>sH ?_))
 refine aH ?_
 refine m6 ?_
 have B2:=hP.below _ _ B9.out (by omega)
 have G2:=hP.here
 go_wp2
 exact bodyPost_ret (v:=.agg (Iv .u64 R)) (results_cell_row rfl _ _ _ _ (Iv .u64 R) _ _ rfl G2 underlying211 rfl (bC hl.out)) rfl ⟨rfl,B2⟩
theorem fX (a b:List Int) (ha:fY a) (hb:fY b) (w:World):
 Calls prog 124 #[.agg (Iv .u64 a),.agg (Iv .u64 b)] w fun e w'=>e=.returned (.agg (Iv .u64 (cX a b)))∧Below w.heap.size w w':=by
 obtain⟨a0,a1,a2,a3,a4,rfl,hA⟩:=ha.five
 obtain⟨b0,b1,b2,b3,b4,rfl,hB⟩:=hb.five
 exact QU a0 a1 a2 a3 a4 b0 b1 b2 b3 b4 hA hB w
def nB:List Int→Int
 | []=>0
 | x::r=>x+256*nB r
def XM (q0 q1 q2 q3:Int):List Int:=mZ (q0%2251799813685248) (q1%274877906944*8192+q0 / 2251799813685248) (q2%33554432*67108864+q1 / 274877906944) (q3%4096*549755813888+q2 / 33554432) (q3 / 4096)
def oR (l:List Int) (i:Nat):Int:=aF l (2*i+1)*4294967296+aF l (2*i)
def tT (l:List Int):List Int:=XM (oR l 0) (oR l 1) (oR l 2) (oR l 3)
theorem XP (q0 q1 q2 q3:Int) (h0:0≤q0∧q0<18446744073709551616) (h1:0≤q1∧q1<18446744073709551616) (h2:0≤q2∧q2<18446744073709551616) (h3:0≤q3∧q3<18446744073709551616):
 bU (XM q0 q1 q2 q3) (q0+18446744073709551616*q1+340282366920938463463374607431768211456*q2+6277101735386680763835789423207666416102355444464034512896*q3):=by
 obtain⟨k1,q,k2⟩:=yO (q0%2251799813685248) (q1%274877906944*8192+q0 / 2251799813685248) (q2%33554432*67108864+q1 / 274877906944) (q3%4096*549755813888+q2 / 33554432) (q3 / 4096) (by omega) (by omega) (by omega) (by omega) (by omega)
 refine⟨k1,q,?_⟩
 unfold XM
 rw[k2]
 unfold mN
 omega
theorem acS (k:Nat) (m M x y:Int) (hm:m=((2^k:Nat):Int)) (hM:M*m=2251799813685248) (hM0:0<M) (hx:0≤x) (hx2:x*m<18446744073709551616*m) (hy:0≤y) (hyk:y<m) (hz:x*m%18446744073709551616=x%(18446744073709551616 / m)*m) (hk:x%(18446744073709551616 / m)*m+y<18446744073709551616) (hf:(x%(18446744073709551616 / m)*m+y)%2251799813685248=x%M*m+y):
 bits .and .u64 (bits .or .u64 y (x*m%18446744073709551616)) 2251799813685247=x%M*m+y:=by
 have hm0:0<m:=by rw[hm];have:=Nat.two_pow_pos k;omega
 have hr:0≤x%(18446744073709551616 / m):=by
  have:0≤x%(18446744073709551616 / m)*m:=by rw[←hz];omega
  by_cases h:0≤x%(18446744073709551616 / m)
  ·exact h
  ·have h1:x%(18446744073709551616 / m)≤ -1:=by omega
   have h2:x%(18446744073709551616 / m)*m≤ -1*m:=Int.mul_le_mul_of_nonneg_right h1 (by omega)
   omega
 rw[hz,vT k m _ y hm hr hy hyk hk,nP _ (by have:=Int.mul_nonneg hr (Int.le_of_lt hm0);omega) hk,hf]
theorem aeP (x y:Int) (hx:0≤x∧x<18446744073709551616) (hy:0≤y∧y<18446744073709551616):bits .and .u64 (bits .or .u64 (y / 2251799813685248) (IntKind.u64.wrap (x*8192))) 2251799813685247=x%274877906944*8192+y / 2251799813685248:=by
 rw[IntKind.wrap_u64]
 exact acS 13 8192 274877906944 x (y / 2251799813685248) (by decide) (by decide) (by decide) (by omega) (by omega) (by omega) (by omega) (by omega) (by omega) (by omega)
theorem aeQ (x y:Int) (hx:0≤x∧x<18446744073709551616) (hy:0≤y∧y<18446744073709551616):bits .and .u64 (bits .or .u64 (y / 274877906944) (IntKind.u64.wrap (x*67108864))) 2251799813685247=x%33554432*67108864+y / 274877906944:=by
 rw[IntKind.wrap_u64]
 exact acS 26 67108864 33554432 x (y / 274877906944) (by decide) (by decide) (by decide) (by omega) (by omega) (by omega) (by omega) (by omega) (by omega) (by omega)
theorem aeR (x y:Int) (hx:0≤x∧x<18446744073709551616) (hy:0≤y∧y<18446744073709551616):bits .and .u64 (bits .or .u64 (y / 33554432) (IntKind.u64.wrap (x*549755813888))) 2251799813685247=x%4096*549755813888+y / 33554432:=by
 rw[IntKind.wrap_u64]
 exact acS 39 549755813888 4096 x (y / 33554432) (by decide) (by decide) (by decide) (by omega) (by omega) (by omega) (by omega) (by omega) (by omega) (by omega)
theorem RY (x y:Int) (hx:0≤x∧x<4294967296) (hy:0≤y∧y<4294967296):bits .or .u64 y (x*4294967296)=x*4294967296+y:=
 vT 32 4294967296 x y (by decide) hx.1 hy.1 hy.2 (by omega)
theorem heap_drewN (w:World) (n i:Nat):(w.drewN n).heap[i]? =w.heap[i]? :=rfl
theorem QK (w:World) (n:Nat):(w.drewN n).heap.size=w.heap.size:=rfl
set_option maxHeartbeats 4000000 in
theorem GL (l:List Int) (hl:l.length=32) (hz:aE l) (w:World):
 Calls prog 123 #[.agg (Iv .u8 l)] w fun e w'=>e=.returned (.agg (Iv .u64 (tT l)))∧Below w.heap.size w w':=by
 have hw:∀i,0≤aF l i∧aF l i<4294967296:=fun i=>by have:=kW hz i;omega
 have hq:∀i,0≤oR l i∧oR l i<18446744073709551616:=fun i=>by have h0:=hw (2*i);have h1:=hw (2*i+1);unfold oR;omega
 have h0:=hq 0
 have h1:=hq 1
 have h2:=hq 2
 have h3:=hq 3
 have HC:Hid (∀W,_):=fun W=>nS (oR l 0%2251799813685248) (oR l 1%274877906944*8192+oR l 0 / 2251799813685248) (oR l 2%33554432*67108864+oR l 1 / 274877906944) (oR l 3%4096*549755813888+oR l 2 / 33554432) (oR l 3 / 4096)
  (by omega) (by omega) (by omega) (by omega) (by omega) W
 have HE:Hid (mZ (oR l 0%2251799813685248) (oR l 1%274877906944*8192+oR l 0 / 2251799813685248) (oR l 2%33554432*67108864+oR l 1 / 274877906944) (oR l 3%4096*549755813888+oR l 2 / 33554432) (oR l 3 / 4096)=tT l):=rfl
 rw[HE.out]at HC
 have hR:(tT l).length=5:=rfl
 have HL:Hid _:=hR
 generalize tT l=R at*
 clear HE hR
 have a0:=nP (oR l 0) h0.1 h0.2
 have l1:=aeP (oR l 1) (oR l 0) h1 h0
 have l2:=aeQ (oR l 2) (oR l 1) h2 h1
 have l3:=aeR (oR l 3) (oR l 2) h3 h2
 have o0:bits .or .u64 (aF l 0) (aF l 1*4294967296)=oR l 0:=RY _ _ (hw 1) (hw 0)
 have o1:bits .or .u64 (aF l 2) (aF l 3*4294967296)=oR l 1:=RY _ _ (hw 3) (hw 2)
 have o2:bits .or .u64 (aF l 4) (aF l 5*4294967296)=oR l 2:=RY _ _ (hw 5) (hw 4)
 have o3:bits .or .u64 (aF l 6) (aF l 7*4294967296)=oR l 3:=RY _ _ (hw 7) (hw 6)
 have w0:=hw 0
 have w1:=hw 1
 have w2:=hw 2
 have w3:=hw 3
 have w4:=hw 4
 have w5:=hw 5
 have w6:=hw 6
 have w7:=hw 7
 have HZ:Hid (aE l):=hz
 have HLL:Hid (l.length=32):=hl
 have HWD:Hid (Iv .u32 (pF9 [0,0,0,0,0,0,0,0] 0 (aF l) (min (32 / 4+1) 8))=#[.int .u32 (aF l 0),.int .u32 (aF l 1),.int .u32 (aF l 2),.int .u32 (aF l 3),.int .u32 (aF l 4),.int .u32 (aF l 5),.int .u32 (aF l 6),.int .u32 (aF l 7)]):=rfl
 clear hw hq hz
 go_enter func123,ntmps123
 go_wp2
 refine wRh 2 kJ (by kernel_rfl) ?_
 simp only[tU,tJ,dJ,dY]
 repeat(go_big_quiet_step (fail))
 refine wqN ?_
 go_wp2_with fail
 refine(iY 32 (w.heap.size+1+1) 0 8 8 174 [0,0,0,0,0,0,0,0] w.heap.size 0 32 l _ HLL.out ?_ (by decide) (by decide) (by omega) HZ.out (by decide) (by decide) ?_ (by decide) (by decide)).mono ?_
 ·simp only[heap_drew,bO,wU]
  simp
  rfl
 ·intro i hi
  have:=cN .u8 l i (by have:=HLL.out;omega)
  simp only[World.cell?_drew]
  rw[World.cell?_alloc_past _ _ _ (by simp<;>omega),World.cell?_alloc_past _ _ _ (by simp<;>omega),World.cell?_alloc_at _ _ _ _ rfl,Nat.zero_add,this]
  simp[show i<l.length by have:=HLL.out;omega]
 rintro e w1 ⟨rfl,d,rfl⟩
 rw[uZ,pG _ _ _ _ _ (by simp),HWD.out]
 generalize aF l 0=v0 at*
 generalize aF l 1=v1 at*
 generalize aF l 2=v2 at*
 generalize aF l 3=v3 at*
 generalize aF l 4=v4 at*
 generalize aF l 5=v5 at*
 generalize aF l 6=v6 at*
 generalize aF l 7=v7 at*
 generalize oR l 0=q0 at*
 generalize oR l 1=q1 at*
 generalize oR l 2=q2 at*
 generalize oR l 3=q3 at*
 clear HWD
 go_wp2
 refine wp_loop_rounds 5 ?_
 iterate 4
  rw[rdS];go_wp2
  refine wRh 15 kJ (by kernel_rfl) ?_
  simp only[tU,tJ,dJ,dY]
  repeat(go_big_quiet_step (fail))
  refine wqN ?_
  go_wp2
 rw[rdS];go_wp2_with fail
 refine(HC.out _).mono ?_
 rintro e w9 ⟨rfl,hb⟩
 have B1:Hid (Below w.heap.size w w9):=by
  refine Below.trans ?_ (hb.mono (by simp<;>omega))
  repeat(first|exact Below.refl _ _|refine xO ?_ |refine bDr ?_ _|refine Below.alloc ?_ (by simp<;>omega) _)
 have G1:Hid (w9.heap[w.heap.size+1]? =some (.cells (Iv .u64 [0,0,0,0,0]) 211)):=by
  show _=_
  rw[hb.block _ (by simp<;>omega)]
  simp only[heap_drew,heap_drewN,bO,wU,QK]
  (repeat(first|rw[if_neg (by omega)]|rw[if_pos (by omega)]));try rfl
 clear hb HC
 go_wp2_with(refine wpPr rfl 211 _ _ rfl (w.heap.size+1) (Iv .u64 R) rfl rfl _ _ G1.out (bC HL.out) (JY HL.out) (aG _ _) (fun W hP=>sH ?_))
 refine aH ?_
 have B2:=hP.below _ _ B1.out (by omega)
 have G2:=hP.here
 go_wp2
 exact bodyPost_ret (v:=.agg (Iv .u64 R)) (results_cell_row rfl _ _ _ _ (Iv .u64 R) _ _ rfl G2 underlying211 rfl (bC HL.out)) rfl ⟨rfl,B2⟩
end Go.Proofs.YtgcepckaolkeoaaGreatDoor
