import Derived.Test.YtgcepckaolkeoaaGreatDoorMZ25
namespace Go.Proofs.YtgcepckaolkeoaaGreatDoor
open Go.RowKit Go.Lib
set_option linter.unusedVariables false
def vG (a0 a1 a2 a3 a4 b0 b1 b2 b3 b4:Int):Int:=0+a0*b0+a1*(19*b4)+a2*(19*b3)+a3*(19*b2)+a4*(19*b1)
def vH (a0 a1 a2 a3 a4 b0 b1 b2 b3 b4:Int):Int:=vG a0 a1 a2 a3 a4 b0 b1 b2 b3 b4 / 2251799813685248+a0*b1+a1*b0+a2*(19*b4)+a3*(19*b3)+a4*(19*b2)
def vI (a0 a1 a2 a3 a4 b0 b1 b2 b3 b4:Int):Int:=vH a0 a1 a2 a3 a4 b0 b1 b2 b3 b4 / 2251799813685248+a0*b2+a1*b1+a2*b0+a3*(19*b4)+a4*(19*b3)
def vJ (a0 a1 a2 a3 a4 b0 b1 b2 b3 b4:Int):Int:=vI a0 a1 a2 a3 a4 b0 b1 b2 b3 b4 / 2251799813685248+a0*b3+a1*b2+a2*b1+a3*b0+a4*(19*b4)
def rG (a0 a1 a2 a3 a4 b0 b1 b2 b3 b4:Int):Int:=vJ a0 a1 a2 a3 a4 b0 b1 b2 b3 b4 / 2251799813685248+a0*b4+a1*b3+a2*b2+a3*b1+a4*b0
def cW:List Int→List Int→List Int
 | [a0,a1,a2,a3,a4],[b0,b1,b2,b3,b4]=>mP (vG a0 a1 a2 a3 a4 b0 b1 b2 b3 b4%2251799813685248+19*(rG a0 a1 a2 a3 a4 b0 b1 b2 b3 b4 / 2251799813685248)) (vH a0 a1 a2 a3 a4 b0 b1 b2 b3 b4%2251799813685248) (vI a0 a1 a2 a3 a4 b0 b1 b2 b3 b4%2251799813685248) (vJ a0 a1 a2 a3 a4 b0 b1 b2 b3 b4%2251799813685248) (rG a0 a1 a2 a3 a4 b0 b1 b2 b3 b4%2251799813685248)
 | _,_=>[]
theorem aS (x y A B:Int) (hx:0≤x∧x≤A) (hy:0≤y∧y≤B):0≤x*y∧x*y≤A*B:=
 ⟨Int.mul_nonneg hx.1 hy.1,Int.mul_le_mul hx.2 hy.2 hy.1 (Int.le_trans hx.1 hx.2)⟩
theorem QD (a0 a1 a2 a3 a4 b0 b1 b2 b3 b4:Int) (ha:El a0 a1 a2 a3 a4) (hb:El b0 b1 b2 b3 b4):
 (0≤vG a0 a1 a2 a3 a4 b0 b1 b2 b3 b4∧vG a0 a1 a2 a3 a4 b0 b1 b2 b3 b4<41538374868278621028243970633760768)∧(0≤vH a0 a1 a2 a3 a4 b0 b1 b2 b3 b4∧vH a0 a1 a2 a3 a4 b0 b1 b2 b3 b4<41538374868278621028243970633760768)∧(0≤vI a0 a1 a2 a3 a4 b0 b1 b2 b3 b4∧vI a0 a1 a2 a3 a4 b0 b1 b2 b3 b4<41538374868278621028243970633760768)∧(0≤vJ a0 a1 a2 a3 a4 b0 b1 b2 b3 b4∧vJ a0 a1 a2 a3 a4 b0 b1 b2 b3 b4<41538374868278621028243970633760768)∧(0≤rG a0 a1 a2 a3 a4 b0 b1 b2 b3 b4∧rG a0 a1 a2 a3 a4 b0 b1 b2 b3 b4<81129638414606681695789005144064):=by
 obtain⟨hA0,hA1,hA2,hA3,hA4⟩:=ha
 obtain⟨hB0,hB1,hB2,hB3,hB4⟩:=hb
 have p00:=aS a0 b0 2251799813685311 2251799813685311 (by omega) (by omega)
 have p01:=aS a0 b1 2251799813685311 2251799813685311 (by omega) (by omega)
 have p02:=aS a0 b2 2251799813685311 2251799813685311 (by omega) (by omega)
 have p03:=aS a0 b3 2251799813685311 2251799813685311 (by omega) (by omega)
 have p04:=aS a0 b4 2251799813685311 2251799813685311 (by omega) (by omega)
 have p10:=aS a1 b0 2251799813685311 2251799813685311 (by omega) (by omega)
 have p11:=aS a1 b1 2251799813685311 2251799813685311 (by omega) (by omega)
 have p12:=aS a1 b2 2251799813685311 2251799813685311 (by omega) (by omega)
 have p13:=aS a1 b3 2251799813685311 2251799813685311 (by omega) (by omega)
 have p14:=aS a1 b4 2251799813685311 2251799813685311 (by omega) (by omega)
 have p20:=aS a2 b0 2251799813685311 2251799813685311 (by omega) (by omega)
 have p21:=aS a2 b1 2251799813685311 2251799813685311 (by omega) (by omega)
 have p22:=aS a2 b2 2251799813685311 2251799813685311 (by omega) (by omega)
 have p23:=aS a2 b3 2251799813685311 2251799813685311 (by omega) (by omega)
 have p24:=aS a2 b4 2251799813685311 2251799813685311 (by omega) (by omega)
 have p30:=aS a3 b0 2251799813685311 2251799813685311 (by omega) (by omega)
 have p31:=aS a3 b1 2251799813685311 2251799813685311 (by omega) (by omega)
 have p32:=aS a3 b2 2251799813685311 2251799813685311 (by omega) (by omega)
 have p33:=aS a3 b3 2251799813685311 2251799813685311 (by omega) (by omega)
 have p34:=aS a3 b4 2251799813685311 2251799813685311 (by omega) (by omega)
 have p40:=aS a4 b0 2251799813685311 2251799813685311 (by omega) (by omega)
 have p41:=aS a4 b1 2251799813685311 2251799813685311 (by omega) (by omega)
 have p42:=aS a4 b2 2251799813685311 2251799813685311 (by omega) (by omega)
 have p43:=aS a4 b3 2251799813685311 2251799813685311 (by omega) (by omega)
 have p44:=aS a4 b4 2251799813685311 2251799813685311 (by omega) (by omega)
 unfold rG vJ vI vH vG
 simp only[Int.mul_left_comm _ 19 _]
 generalize a0*b0=q00 at*
 generalize a0*b1=q01 at*
 generalize a0*b2=q02 at*
 generalize a0*b3=q03 at*
 generalize a0*b4=q04 at*
 generalize a1*b0=q10 at*
 generalize a1*b1=q11 at*
 generalize a1*b2=q12 at*
 generalize a1*b3=q13 at*
 generalize a1*b4=q14 at*
 generalize a2*b0=q20 at*
 generalize a2*b1=q21 at*
 generalize a2*b2=q22 at*
 generalize a2*b3=q23 at*
 generalize a2*b4=q24 at*
 generalize a3*b0=q30 at*
 generalize a3*b1=q31 at*
 generalize a3*b2=q32 at*
 generalize a3*b3=q33 at*
 generalize a3*b4=q34 at*
 generalize a4*b0=q40 at*
 generalize a4*b1=q41 at*
 generalize a4*b2=q42 at*
 generalize a4*b3=q43 at*
 generalize a4*b4=q44 at*
 refine⟨?_,?_,?_,?_,?_⟩<;>omega
theorem MK (a0 a1 a2 a3 a4 b0 b1 b2 b3 b4:Int):mD a0 a1 a2 a3 a4*mD b0 b1 b2 b3 b4=1*(a0*b0)+2251799813685248*(a0*b1)+5070602400912917605986812821504*(a0*b2)+11417981541647679048466287755595961091061972992*(a0*b3)+25711008708143844408671393477458601640355247900524685364822016*(a0*b4)+2251799813685248*(a1*b0)+5070602400912917605986812821504*(a1*b1)+11417981541647679048466287755595961091061972992*(a1*b2)+25711008708143844408671393477458601640355247900524685364822016*(a1*b3)+57896044618658097711785492504343953926634992332820282019728792003956564819968*(a1*b4)+5070602400912917605986812821504*(a2*b0)+11417981541647679048466287755595961091061972992*(a2*b1)+25711008708143844408671393477458601640355247900524685364822016*(a2*b2)+57896044618658097711785492504343953926634992332820282019728792003956564819968*(a2*b3)+130370302485407109521180524058200202307293977194619920040712988758680403184853549195737432064*(a2*b4)+11417981541647679048466287755595961091061972992*(a3*b0)+25711008708143844408671393477458601640355247900524685364822016*(a3*b1)+57896044618658097711785492504343953926634992332820282019728792003956564819968*(a3*b2)+130370302485407109521180524058200202307293977194619920040712988758680403184853549195737432064*(a3*b3)+293567822846729153486185074598667128421960318613539983838411371441526128139326055432962374798096087878991872*(a3*b4)+25711008708143844408671393477458601640355247900524685364822016*(a4*b0)+57896044618658097711785492504343953926634992332820282019728792003956564819968*(a4*b1)+130370302485407109521180524058200202307293977194619920040712988758680403184853549195737432064*(a4*b2)+293567822846729153486185074598667128421960318613539983838411371441526128139326055432962374798096087878991872*(a4*b3)+661055968790248598951915308032771039828404682964281219284648795274405791236311345825189210439715284847591212025023358304256*(a4*b4):=by
 unfold mD
 grind
set_option maxHeartbeats 1000000 in
theorem vA (a b:List Int) (ha:fY a) (hb:fY b):bT (cW a b) (vL a*vL b):=by
 obtain⟨a0,a1,a2,a3,a4,rfl,hA⟩:=ha.five
 obtain⟨b0,b1,b2,b3,b4,rfl,hB⟩:=hb.five
 obtain⟨h0,h1,h2,h3,h4⟩:=QD a0 a1 a2 a3 a4 b0 b1 b2 b3 b4 hA hB
 obtain⟨k1,q,k2⟩:=xM (vG a0 a1 a2 a3 a4 b0 b1 b2 b3 b4%2251799813685248+19*(rG a0 a1 a2 a3 a4 b0 b1 b2 b3 b4 / 2251799813685248)) (vH a0 a1 a2 a3 a4 b0 b1 b2 b3 b4%2251799813685248) (vI a0 a1 a2 a3 a4 b0 b1 b2 b3 b4%2251799813685248) (vJ a0 a1 a2 a3 a4 b0 b1 b2 b3 b4%2251799813685248) (rG a0 a1 a2 a3 a4 b0 b1 b2 b3 b4%2251799813685248) (by omega) (by omega) (by omega) (by omega) (by omega)
 refine⟨k1,q+rG a0 a1 a2 a3 a4 b0 b1 b2 b3 b4 / 2251799813685248+(1*(a1*b4)+1*(a2*b3)+2251799813685248*(a2*b4)+1*(a3*b2)+2251799813685248*(a3*b3)+5070602400912917605986812821504*(a3*b4)+1*(a4*b1)+2251799813685248*(a4*b2)+5070602400912917605986812821504*(a4*b3)+11417981541647679048466287755595961091061972992*(a4*b4)),?_⟩
 show vL (mP _ _ _ _ _)=mD _ _ _ _ _*mD _ _ _ _ _ - _
 rw[k2,MK]
 have e0:vG a0 a1 a2 a3 a4 b0 b1 b2 b3 b4=0+a0*b0+a1*(19*b4)+a2*(19*b3)+a3*(19*b2)+a4*(19*b1):=rfl
 have e1:vH a0 a1 a2 a3 a4 b0 b1 b2 b3 b4=vG a0 a1 a2 a3 a4 b0 b1 b2 b3 b4 / 2251799813685248+a0*b1+a1*b0+a2*(19*b4)+a3*(19*b3)+a4*(19*b2):=rfl
 have e2:vI a0 a1 a2 a3 a4 b0 b1 b2 b3 b4=vH a0 a1 a2 a3 a4 b0 b1 b2 b3 b4 / 2251799813685248+a0*b2+a1*b1+a2*b0+a3*(19*b4)+a4*(19*b3):=rfl
 have e3:vJ a0 a1 a2 a3 a4 b0 b1 b2 b3 b4=vI a0 a1 a2 a3 a4 b0 b1 b2 b3 b4 / 2251799813685248+a0*b3+a1*b2+a2*b1+a3*b0+a4*(19*b4):=rfl
 have e4:rG a0 a1 a2 a3 a4 b0 b1 b2 b3 b4=vJ a0 a1 a2 a3 a4 b0 b1 b2 b3 b4 / 2251799813685248+a0*b4+a1*b3+a2*b2+a3*b1+a4*b0:=rfl
 generalize vG a0 a1 a2 a3 a4 b0 b1 b2 b3 b4=s0 at*
 generalize vH a0 a1 a2 a3 a4 b0 b1 b2 b3 b4=s1 at*
 generalize vI a0 a1 a2 a3 a4 b0 b1 b2 b3 b4=s2 at*
 generalize vJ a0 a1 a2 a3 a4 b0 b1 b2 b3 b4=s3 at*
 generalize rG a0 a1 a2 a3 a4 b0 b1 b2 b3 b4=s4 at*
 simp only[Int.mul_left_comm _ 19 _]at e0 e1 e2 e3 e4
 generalize a0*b0=q00 at*
 generalize a0*b1=q01 at*
 generalize a0*b2=q02 at*
 generalize a0*b3=q03 at*
 generalize a0*b4=q04 at*
 generalize a1*b0=q10 at*
 generalize a1*b1=q11 at*
 generalize a1*b2=q12 at*
 generalize a1*b3=q13 at*
 generalize a1*b4=q14 at*
 generalize a2*b0=q20 at*
 generalize a2*b1=q21 at*
 generalize a2*b2=q22 at*
 generalize a2*b3=q23 at*
 generalize a2*b4=q24 at*
 generalize a3*b0=q30 at*
 generalize a3*b1=q31 at*
 generalize a3*b2=q32 at*
 generalize a3*b3=q33 at*
 generalize a3*b4=q34 at*
 generalize a4*b0=q40 at*
 generalize a4*b1=q41 at*
 generalize a4*b2=q42 at*
 generalize a4*b3=q43 at*
 generalize a4*b4=q44 at*
 unfold mD pF
 simp only[Int.add_mul]
 omega
theorem WB (c:Int) (hc:0≤c) (hc2:c<18446744073709551616):bF c=#[.int .u64 0,.int .u64 c]:=by
 unfold bF
 rw[show c / 18446744073709551616=0 by omega,show c%18446744073709551616=c by omega]
end Go.Proofs.YtgcepckaolkeoaaGreatDoor
