import Derived.Test.YtmjccemdldidaaaGreatDoorMH02
namespace Go.Proofs.YtmjccemdldidaaaGreatDoor
open Go.RowKit Go.Lib
open Go.Proofs.Tryz
open Go renaming heap_alloc_new → hAN, wpList_load_row → wpLr, wpQuiet_nil → wqN
open Go.World renaming size_alloc → wU
open List renaming mem_cons_of_mem → mC, mem_cons_self → mQ, mem_singleton → mU
open Nat renaming le_refl → nQ
set_option linter.unusedVariables false
set_option maxHeartbeats 4000000
set_option maxRecDepth 100000
theorem pK (c a b:Int) (hc:0≤c∧c<18446744073709551616) (ha:0≤a∧a≤18446744073709551615) (hb:0≤b∧b≤18446744073709551615) (hs:c+a*b<340282366920938463463374607431768211456) (r:Int) (hr:c+a*b=r) (w:World):
 Calls prog 113 #[.agg #[.int .u64 0,.int .u64 c],.int .u64 a,.int .u64 b] w fun e w'=>e=.returned (.agg (pJ r))∧Below w.heap.size w w':=by
 rw[←adR c hc.1 hc.2]
 exact bN c a b hc.1 ha hb hs r hr w
theorem sV (v:Int):(prog.info? 206).map (·.size)=some (pJ v).size:=agA
theorem xF (v:Int):(pJ v).all (·.oneCell')=true:=by simp[pJ,Value.oneCell']
theorem V7 (a0 a1 a2 a3 a4 b0 b1 b2 b3 b4:Int) (ha:El a0 a1 a2 a3 a4) (hb:El b0 b1 b2 b3 b4) (w:World):
 Calls prog 99 #[.agg (Iv .u64 [a0,a1,a2,a3,a4]),.agg (Iv .u64 [b0,b1,b2,b3,b4])] w fun e w'=>e=.returned (.agg (Iv .u64 (eM [a0,a1,a2,a3,a4] [b0,b1,b2,b3,b4])))∧Below w.heap.size w w':=by
 obtain⟨h0,h1,h2,h3,h4⟩:=YJ a0 a1 a2 a3 a4 b0 b1 b2 b3 b4 ha hb
 obtain⟨hA0,hA1,hA2,hA3,hA4⟩:=ha
 obtain⟨hB0,hB1,hB2,hB3,hB4⟩:=hb
 have p00:=aT a0 b0 2251799813685311 2251799813685311 (by omega) (by omega)
 have p01:=aT a0 b1 2251799813685311 2251799813685311 (by omega) (by omega)
 have p02:=aT a0 b2 2251799813685311 2251799813685311 (by omega) (by omega)
 have p03:=aT a0 b3 2251799813685311 2251799813685311 (by omega) (by omega)
 have p04:=aT a0 b4 2251799813685311 2251799813685311 (by omega) (by omega)
 have p10:=aT a1 b0 2251799813685311 2251799813685311 (by omega) (by omega)
 have p11:=aT a1 b1 2251799813685311 2251799813685311 (by omega) (by omega)
 have p12:=aT a1 b2 2251799813685311 2251799813685311 (by omega) (by omega)
 have p13:=aT a1 b3 2251799813685311 2251799813685311 (by omega) (by omega)
 have p14:=aT a1 b4 2251799813685311 2251799813685311 (by omega) (by omega)
 have p20:=aT a2 b0 2251799813685311 2251799813685311 (by omega) (by omega)
 have p21:=aT a2 b1 2251799813685311 2251799813685311 (by omega) (by omega)
 have p22:=aT a2 b2 2251799813685311 2251799813685311 (by omega) (by omega)
 have p23:=aT a2 b3 2251799813685311 2251799813685311 (by omega) (by omega)
 have p24:=aT a2 b4 2251799813685311 2251799813685311 (by omega) (by omega)
 have p30:=aT a3 b0 2251799813685311 2251799813685311 (by omega) (by omega)
 have p31:=aT a3 b1 2251799813685311 2251799813685311 (by omega) (by omega)
 have p32:=aT a3 b2 2251799813685311 2251799813685311 (by omega) (by omega)
 have p33:=aT a3 b3 2251799813685311 2251799813685311 (by omega) (by omega)
 have p34:=aT a3 b4 2251799813685311 2251799813685311 (by omega) (by omega)
 have p40:=aT a4 b0 2251799813685311 2251799813685311 (by omega) (by omega)
 have p41:=aT a4 b1 2251799813685311 2251799813685311 (by omega) (by omega)
 have p42:=aT a4 b2 2251799813685311 2251799813685311 (by omega) (by omega)
 have p43:=aT a4 b3 2251799813685311 2251799813685311 (by omega) (by omega)
 have p44:=aT a4 b4 2251799813685311 2251799813685311 (by omega) (by omega)
 have HC:Hid (∀W,_):=fun W=>oY (yH a0 a1 a2 a3 a4 b0 b1 b2 b3 b4%2251799813685248+19*(uB a0 a1 a2 a3 a4 b0 b1 b2 b3 b4 / 2251799813685248)) (yJ a0 a1 a2 a3 a4 b0 b1 b2 b3 b4%2251799813685248) (yK a0 a1 a2 a3 a4 b0 b1 b2 b3 b4%2251799813685248) (yL a0 a1 a2 a3 a4 b0 b1 b2 b3 b4%2251799813685248) (uB a0 a1 a2 a3 a4 b0 b1 b2 b3 b4%2251799813685248) (by omega) (by omega) (by omega) (by omega) (by omega) W
 have hl:Hid ((oD (yH a0 a1 a2 a3 a4 b0 b1 b2 b3 b4%2251799813685248+19*(uB a0 a1 a2 a3 a4 b0 b1 b2 b3 b4 / 2251799813685248)) (yJ a0 a1 a2 a3 a4 b0 b1 b2 b3 b4%2251799813685248) (yK a0 a1 a2 a3 a4 b0 b1 b2 b3 b4%2251799813685248) (yL a0 a1 a2 a3 a4 b0 b1 b2 b3 b4%2251799813685248) (uB a0 a1 a2 a3 a4 b0 b1 b2 b3 b4%2251799813685248)).length=5):=rfl
 rw[show eM [a0,a1,a2,a3,a4] [b0,b1,b2,b3,b4]=oD (yH a0 a1 a2 a3 a4 b0 b1 b2 b3 b4%2251799813685248+19*(uB a0 a1 a2 a3 a4 b0 b1 b2 b3 b4 / 2251799813685248)) (yJ a0 a1 a2 a3 a4 b0 b1 b2 b3 b4%2251799813685248) (yK a0 a1 a2 a3 a4 b0 b1 b2 b3 b4%2251799813685248) (yL a0 a1 a2 a3 a4 b0 b1 b2 b3 b4%2251799813685248) (uB a0 a1 a2 a3 a4 b0 b1 b2 b3 b4%2251799813685248)from rfl]
 generalize oD (yH a0 a1 a2 a3 a4 b0 b1 b2 b3 b4%2251799813685248+19*(uB a0 a1 a2 a3 a4 b0 b1 b2 b3 b4 / 2251799813685248)) (yJ a0 a1 a2 a3 a4 b0 b1 b2 b3 b4%2251799813685248) (yK a0 a1 a2 a3 a4 b0 b1 b2 b3 b4%2251799813685248) (yL a0 a1 a2 a3 a4 b0 b1 b2 b3 b4%2251799813685248) (uB a0 a1 a2 a3 a4 b0 b1 b2 b3 b4%2251799813685248)=R at*
 have hrow:∀a b c d e:Int,Iv .u64 [a,b,c,d,e]=#[.int .u64 a,.int .u64 b,.int .u64 c,.int .u64 d,.int .u64 e]:=fun _ _ _ _ _=>rfl
 rw[hrow,hrow]
 have e0:yH a0 a1 a2 a3 a4 b0 b1 b2 b3 b4=0+a0*b0+a1*(19*b4)+a2*(19*b3)+a3*(19*b2)+a4*(19*b1):=rfl
 have e1:yJ a0 a1 a2 a3 a4 b0 b1 b2 b3 b4=yH a0 a1 a2 a3 a4 b0 b1 b2 b3 b4 / 2251799813685248+a0*b1+a1*b0+a2*(19*b4)+a3*(19*b3)+a4*(19*b2):=rfl
 have e2:yK a0 a1 a2 a3 a4 b0 b1 b2 b3 b4=yJ a0 a1 a2 a3 a4 b0 b1 b2 b3 b4 / 2251799813685248+a0*b2+a1*b1+a2*b0+a3*(19*b4)+a4*(19*b3):=rfl
 have e3:yL a0 a1 a2 a3 a4 b0 b1 b2 b3 b4=yK a0 a1 a2 a3 a4 b0 b1 b2 b3 b4 / 2251799813685248+a0*b3+a1*b2+a2*b1+a3*b0+a4*(19*b4):=rfl
 have e4:uB a0 a1 a2 a3 a4 b0 b1 b2 b3 b4=yL a0 a1 a2 a3 a4 b0 b1 b2 b3 b4 / 2251799813685248+a0*b4+a1*b3+a2*b2+a3*b1+a4*b0:=rfl
 generalize yH a0 a1 a2 a3 a4 b0 b1 b2 b3 b4=s0 at*
 generalize yJ a0 a1 a2 a3 a4 b0 b1 b2 b3 b4=s1 at*
 generalize yK a0 a1 a2 a3 a4 b0 b1 b2 b3 b4=s2 at*
 generalize yL a0 a1 a2 a3 a4 b0 b1 b2 b3 b4=s3 at*
 generalize uB a0 a1 a2 a3 a4 b0 b1 b2 b3 b4=s4 at*
 obtain⟨c0,f0⟩:∃c,s0 / 2251799813685248=c:=⟨_,rfl⟩
 rw[f0]at e1
 obtain⟨c1,f1⟩:∃c,s1 / 2251799813685248=c:=⟨_,rfl⟩
 rw[f1]at e2
 obtain⟨c2,f2⟩:∃c,s2 / 2251799813685248=c:=⟨_,rfl⟩
 rw[f2]at e3
 obtain⟨c3,f3⟩:∃c,s3 / 2251799813685248=c:=⟨_,rfl⟩
 rw[f3]at e4
 obtain⟨c4,f4⟩:∃c,s4 / 2251799813685248=c:=⟨_,rfl⟩
 have g0:0≤c0∧c0<18446744073709551616:=by omega
 have g1:0≤c1∧c1<18446744073709551616:=by omega
 have g2:0≤c2∧c2<18446744073709551616:=by omega
 have g3:0≤c3∧c3<18446744073709551616:=by omega
 have g4:0≤c4∧c4<18446744073709551616:=by omega
 obtain⟨v00,d00⟩:∃v,0+a0*b0=v:=⟨_,rfl⟩
 rw[d00]at e0
 obtain⟨v01,d01⟩:∃v,v00+a1*(19*b4)=v:=⟨_,rfl⟩
 rw[d01]at e0
 obtain⟨v02,d02⟩:∃v,v01+a2*(19*b3)=v:=⟨_,rfl⟩
 rw[d02]at e0
 obtain⟨v03,d03⟩:∃v,v02+a3*(19*b2)=v:=⟨_,rfl⟩
 rw[d03]at e0
 have d04:v03+a4*(19*b1)=s0:=e0.symm
 obtain⟨v10,d10⟩:∃v,c0+a0*b1=v:=⟨_,rfl⟩
 rw[d10]at e1
 obtain⟨v11,d11⟩:∃v,v10+a1*b0=v:=⟨_,rfl⟩
 rw[d11]at e1
 obtain⟨v12,d12⟩:∃v,v11+a2*(19*b4)=v:=⟨_,rfl⟩
 rw[d12]at e1
 obtain⟨v13,d13⟩:∃v,v12+a3*(19*b3)=v:=⟨_,rfl⟩
 rw[d13]at e1
 have d14:v13+a4*(19*b2)=s1:=e1.symm
 obtain⟨v20,d20⟩:∃v,c1+a0*b2=v:=⟨_,rfl⟩
 rw[d20]at e2
 obtain⟨v21,d21⟩:∃v,v20+a1*b1=v:=⟨_,rfl⟩
 rw[d21]at e2
 obtain⟨v22,d22⟩:∃v,v21+a2*b0=v:=⟨_,rfl⟩
 rw[d22]at e2
 obtain⟨v23,d23⟩:∃v,v22+a3*(19*b4)=v:=⟨_,rfl⟩
 rw[d23]at e2
 have d24:v23+a4*(19*b3)=s2:=e2.symm
 obtain⟨v30,d30⟩:∃v,c2+a0*b3=v:=⟨_,rfl⟩
 rw[d30]at e3
 obtain⟨v31,d31⟩:∃v,v30+a1*b2=v:=⟨_,rfl⟩
 rw[d31]at e3
 obtain⟨v32,d32⟩:∃v,v31+a2*b1=v:=⟨_,rfl⟩
 rw[d32]at e3
 obtain⟨v33,d33⟩:∃v,v32+a3*b0=v:=⟨_,rfl⟩
 rw[d33]at e3
 have d34:v33+a4*(19*b4)=s3:=e3.symm
 obtain⟨v40,d40⟩:∃v,c3+a0*b4=v:=⟨_,rfl⟩
 rw[d40]at e4
 obtain⟨v41,d41⟩:∃v,v40+a1*b3=v:=⟨_,rfl⟩
 rw[d41]at e4
 obtain⟨v42,d42⟩:∃v,v41+a2*b2=v:=⟨_,rfl⟩
 rw[d42]at e4
 obtain⟨v43,d43⟩:∃v,v42+a3*b1=v:=⟨_,rfl⟩
 rw[d43]at e4
 have d44:v43+a4*b0=s4:=e4.symm
 have hb19:∀b:Int,0≤b→b<2251799813685312→0≤19*b∧19*b≤18446744073709551615:=fun b h1 h2=>by omega
 have C00:Hid (∀W,_):=fun W=>pK 0 a0 b0 ⟨by omega,by omega⟩ ⟨by omega,by omega⟩ ⟨by omega,by omega⟩ (by omega) v00 d00 W
 have m01:=Int.mul_left_comm a1 19 b4
 have u01:0≤v00∧v00<20769187434139310514121985316880384:=by omega
 have C01:Hid (∀W,_):=fun W=>bN v00 a1 (19*b4) u01.1 ⟨by omega,by omega⟩ ⟨by omega,by omega⟩ (by omega) v01 d01 W
 have m02:=Int.mul_left_comm a2 19 b3
 have u02:0≤v01∧v01<20769187434139310514121985316880384:=by omega
 have C02:Hid (∀W,_):=fun W=>bN v01 a2 (19*b3) u02.1 ⟨by omega,by omega⟩ ⟨by omega,by omega⟩ (by omega) v02 d02 W
 have m03:=Int.mul_left_comm a3 19 b2
 have u03:0≤v02∧v02<20769187434139310514121985316880384:=by omega
 have C03:Hid (∀W,_):=fun W=>bN v02 a3 (19*b2) u03.1 ⟨by omega,by omega⟩ ⟨by omega,by omega⟩ (by omega) v03 d03 W
 have m04:=Int.mul_left_comm a4 19 b1
 have u04:0≤v03∧v03<20769187434139310514121985316880384:=by omega
 have C04:Hid (∀W,_):=fun W=>bN v03 a4 (19*b1) u04.1 ⟨by omega,by omega⟩ ⟨by omega,by omega⟩ (by omega) s0 d04 W
 have C10:Hid (∀W,_):=fun W=>pK c0 a0 b1 ⟨by omega,by omega⟩ ⟨by omega,by omega⟩ ⟨by omega,by omega⟩ (by omega) v10 d10 W
 have u11:0≤v10∧v10<20769187434139310514121985316880384:=by omega
 have C11:Hid (∀W,_):=fun W=>bN v10 a1 b0 u11.1 ⟨by omega,by omega⟩ ⟨by omega,by omega⟩ (by omega) v11 d11 W
 have m12:=Int.mul_left_comm a2 19 b4
 have u12:0≤v11∧v11<20769187434139310514121985316880384:=by omega
 have C12:Hid (∀W,_):=fun W=>bN v11 a2 (19*b4) u12.1 ⟨by omega,by omega⟩ ⟨by omega,by omega⟩ (by omega) v12 d12 W
 have m13:=Int.mul_left_comm a3 19 b3
 have u13:0≤v12∧v12<20769187434139310514121985316880384:=by omega
 have C13:Hid (∀W,_):=fun W=>bN v12 a3 (19*b3) u13.1 ⟨by omega,by omega⟩ ⟨by omega,by omega⟩ (by omega) v13 d13 W
 have m14:=Int.mul_left_comm a4 19 b2
 have u14:0≤v13∧v13<20769187434139310514121985316880384:=by omega
 have C14:Hid (∀W,_):=fun W=>bN v13 a4 (19*b2) u14.1 ⟨by omega,by omega⟩ ⟨by omega,by omega⟩ (by omega) s1 d14 W
 have C20:Hid (∀W,_):=fun W=>pK c1 a0 b2 ⟨by omega,by omega⟩ ⟨by omega,by omega⟩ ⟨by omega,by omega⟩ (by omega) v20 d20 W
 have u21:0≤v20∧v20<20769187434139310514121985316880384:=by omega
 have C21:Hid (∀W,_):=fun W=>bN v20 a1 b1 u21.1 ⟨by omega,by omega⟩ ⟨by omega,by omega⟩ (by omega) v21 d21 W
 have u22:0≤v21∧v21<20769187434139310514121985316880384:=by omega
 have C22:Hid (∀W,_):=fun W=>bN v21 a2 b0 u22.1 ⟨by omega,by omega⟩ ⟨by omega,by omega⟩ (by omega) v22 d22 W
 have m23:=Int.mul_left_comm a3 19 b4
 have u23:0≤v22∧v22<20769187434139310514121985316880384:=by omega
 have C23:Hid (∀W,_):=fun W=>bN v22 a3 (19*b4) u23.1 ⟨by omega,by omega⟩ ⟨by omega,by omega⟩ (by omega) v23 d23 W
 have m24:=Int.mul_left_comm a4 19 b3
 have u24:0≤v23∧v23<20769187434139310514121985316880384:=by omega
 have C24:Hid (∀W,_):=fun W=>bN v23 a4 (19*b3) u24.1 ⟨by omega,by omega⟩ ⟨by omega,by omega⟩ (by omega) s2 d24 W
 have C30:Hid (∀W,_):=fun W=>pK c2 a0 b3 ⟨by omega,by omega⟩ ⟨by omega,by omega⟩ ⟨by omega,by omega⟩ (by omega) v30 d30 W
 have u31:0≤v30∧v30<20769187434139310514121985316880384:=by omega
 have C31:Hid (∀W,_):=fun W=>bN v30 a1 b2 u31.1 ⟨by omega,by omega⟩ ⟨by omega,by omega⟩ (by omega) v31 d31 W
 have u32:0≤v31∧v31<20769187434139310514121985316880384:=by omega
 have C32:Hid (∀W,_):=fun W=>bN v31 a2 b1 u32.1 ⟨by omega,by omega⟩ ⟨by omega,by omega⟩ (by omega) v32 d32 W
 have u33:0≤v32∧v32<20769187434139310514121985316880384:=by omega
 have C33:Hid (∀W,_):=fun W=>bN v32 a3 b0 u33.1 ⟨by omega,by omega⟩ ⟨by omega,by omega⟩ (by omega) v33 d33 W
 have m34:=Int.mul_left_comm a4 19 b4
 have u34:0≤v33∧v33<20769187434139310514121985316880384:=by omega
 have C34:Hid (∀W,_):=fun W=>bN v33 a4 (19*b4) u34.1 ⟨by omega,by omega⟩ ⟨by omega,by omega⟩ (by omega) s3 d34 W
 have C40:Hid (∀W,_):=fun W=>pK c3 a0 b4 ⟨by omega,by omega⟩ ⟨by omega,by omega⟩ ⟨by omega,by omega⟩ (by omega) v40 d40 W
 have u41:0≤v40∧v40<20769187434139310514121985316880384:=by omega
 have C41:Hid (∀W,_):=fun W=>bN v40 a1 b3 u41.1 ⟨by omega,by omega⟩ ⟨by omega,by omega⟩ (by omega) v41 d41 W
 have u42:0≤v41∧v41<20769187434139310514121985316880384:=by omega
 have C42:Hid (∀W,_):=fun W=>bN v41 a2 b2 u42.1 ⟨by omega,by omega⟩ ⟨by omega,by omega⟩ (by omega) v42 d42 W
 have u43:0≤v42∧v42<20769187434139310514121985316880384:=by omega
 have C43:Hid (∀W,_):=fun W=>bN v42 a3 b1 u43.1 ⟨by omega,by omega⟩ ⟨by omega,by omega⟩ (by omega) v43 d43 W
 have u44:0≤v43∧v43<20769187434139310514121985316880384:=by omega
 have C44:Hid (∀W,_):=fun W=>bN v43 a4 b0 u44.1 ⟨by omega,by omega⟩ ⟨by omega,by omega⟩ (by omega) s4 d44 W
 have K0:Hid (∀W,_):=fun W=>mG s0 h0.1 (by omega) W
 rw[f0]at K0
 have K1:Hid (∀W,_):=fun W=>mG s1 h1.1 (by omega) W
 rw[f1]at K1
 have K2:Hid (∀W,_):=fun W=>mG s2 h2.1 (by omega) W
 rw[f2]at K2
 have K3:Hid (∀W,_):=fun W=>mG s3 h3.1 (by omega) W
 rw[f3]at K3
 have K4:Hid (∀W,_):=fun W=>mG s4 h4.1 (by omega) W
 rw[f4]at K4
 rw[f4]at HC
 clear p00 p01 p02 p03 p04 p10 p11 p12 p13 p14 p20 p21 p22 p23 p24 p30 p31 p32 p33 p34 p40 p41 p42 p43 p44 d00 d01 d02 d03 d04 d10 d11 d12 d13 d14 d20 d21 d22 d23 d24 d30 d31 d32 d33 d34 d40 d41 d42 d43 d44 e0 e1 e2 e3 e4 u01 u02 u03 u04 u11 u12 u13 u14 u21 u22 u23 u24 u31 u32 u33 u34 u41 u42 u43 u44 m01 m02 m03 m04 m12 m13 m14 m23 m24 m34
 go_enter func99,ntmps99
 go_wp2
 go_quiet (fail)
 generalize nq=nq0
 go_wp2
 go_quiet (fail)
 generalize nq=nq1
 go_wp2_with fail
 refine(C00.out _).mono ?_
 rintro e w00 ⟨rfl,hb⟩
 have F_w00:Hid (Rw w [(w.heap.size+1+1,Iv .u64 [0,0,0,0,0],187)] w00):=by
  have h:=((((Rw.start w).alloc (Iv .u64 [a0,a1,a2,a3,a4]) 187).alloc (Iv .u64 [b0,b1,b2,b3,b4]) 187).alloc (Iv .u64 [0,0,0,0,0]) 187).later (bDr (Below.refl _ _) (nq0+nq1)) (nQ _)
  have h2:=h.later hb (nQ _)
  simp only[wU]at h2
  exact h2.sub (fun r hr=>by rw[mU.1 hr];exact mQ)
 clear hb
 go_wp2_with fail
 refine(C01.out _).mono ?_
 rintro e w01 ⟨rfl,hb⟩
 have F_w01:Hid _:=F_w00.out.later hb (nQ _)
 clear hb F_w00
 go_wp2_with fail
 refine(C02.out _).mono ?_
 rintro e w02 ⟨rfl,hb⟩
 have F_w02:Hid _:=F_w01.out.later hb (nQ _)
 clear hb F_w01
 go_wp2_with fail
 refine(C03.out _).mono ?_
 rintro e w03 ⟨rfl,hb⟩
 have F_w03:Hid _:=F_w02.out.later hb (nQ _)
 clear hb F_w02
 go_wp2_with fail
 refine(C04.out _).mono ?_
 rintro e w04 ⟨rfl,hb⟩
 have F_w04:Hid _:=F_w03.out.later hb (nQ _)
 clear hb F_w03
 have KA:Hid ((w04.alloc (.cells #[.int .u64 0,.int .u64 0] 206)).heap[w04.heap.size]? =some (.cells #[.int .u64 0,.int .u64 0] 206)):=hAN _ _
 go_wp2_with(with_reducible refine aJ ?_;refine wpPr rfl 206 _ _ rfl w04.heap.size (pJ s0) rfl rfl _ _ KA.out (sV _) rfl (xF _) (fun x0 hP=>sH ?_))
 refine aH ?_
 have F_x00:=F_w04.out.newRow hP
 obtain⟨g0,eg0⟩:∃x,x=w04.heap.size:=⟨_,rfl⟩
 rw[←eg0]at F_x00⊢
 have F_x0:Hid _:=F_x00
 clear F_x00 hP KA eg0 F_w04
 have HR1:Hid _:=(F_x0.out.row _ mQ).2.2
 go_wp2_with(with_reducible refine aJ ?_;refine wpLr rfl 206 _ rfl g0 rfl _ (pJ s0) _ _ HR1.out underlying206 rfl (sV _) ?_)
 refine(K0.out _).mono ?_
 rintro e wk1 ⟨rfl,hb⟩
 have F_wk1:Hid _:=F_x0.out.later hb (nQ _)
 clear hb F_x0 HR1
 go_wp2_with fail
 refine(C10.out _).mono ?_
 rintro e w10 ⟨rfl,hb⟩
 have F_w10:Hid _:=F_wk1.out.later hb (nQ _)
 clear hb F_wk1
 go_wp2_with fail
 refine(C11.out _).mono ?_
 rintro e w11 ⟨rfl,hb⟩
 have F_w11:Hid _:=F_w10.out.later hb (nQ _)
 clear hb F_w10
 go_wp2_with fail
 refine(C12.out _).mono ?_
 rintro e w12 ⟨rfl,hb⟩
 have F_w12:Hid _:=F_w11.out.later hb (nQ _)
 clear hb F_w11
 go_wp2_with fail
 refine(C13.out _).mono ?_
 rintro e w13 ⟨rfl,hb⟩
 have F_w13:Hid _:=F_w12.out.later hb (nQ _)
 clear hb F_w12
 go_wp2_with fail
 refine(C14.out _).mono ?_
 rintro e w14 ⟨rfl,hb⟩
 have F_w14:Hid _:=F_w13.out.later hb (nQ _)
 clear hb F_w13
 have KA:Hid ((w14.alloc (.cells #[.int .u64 0,.int .u64 0] 206)).heap[w14.heap.size]? =some (.cells #[.int .u64 0,.int .u64 0] 206)):=hAN _ _
 go_wp2_with(with_reducible refine aJ ?_;refine wpPr rfl 206 _ _ rfl w14.heap.size (pJ s1) rfl rfl _ _ KA.out (sV _) rfl (xF _) (fun x1 hP=>sH ?_))
 refine aH ?_
 have F_x10:=F_w14.out.newRow hP
 obtain⟨g1,eg1⟩:∃x,x=w14.heap.size:=⟨_,rfl⟩
 rw[←eg1]at F_x10⊢
 have F_x1:Hid _:=F_x10
 clear F_x10 hP KA eg1 F_w14
 have HR2:Hid _:=(F_x1.out.row _ mQ).2.2
 go_wp2_with(with_reducible refine aJ ?_;refine wpLr rfl 206 _ rfl g1 rfl _ (pJ s1) _ _ HR2.out underlying206 rfl (sV _) ?_)
 refine(K1.out _).mono ?_
 rintro e wk2 ⟨rfl,hb⟩
 have F_wk2:Hid _:=F_x1.out.later hb (nQ _)
 clear hb F_x1 HR2
 go_wp2_with fail
 refine(C20.out _).mono ?_
 rintro e w20 ⟨rfl,hb⟩
 have F_w20:Hid _:=F_wk2.out.later hb (nQ _)
 clear hb F_wk2
 go_wp2_with fail
 refine(C21.out _).mono ?_
 rintro e w21 ⟨rfl,hb⟩
 have F_w21:Hid _:=F_w20.out.later hb (nQ _)
 clear hb F_w20
 go_wp2_with fail
 refine(C22.out _).mono ?_
 rintro e w22 ⟨rfl,hb⟩
 have F_w22:Hid _:=F_w21.out.later hb (nQ _)
 clear hb F_w21
 go_wp2_with fail
 refine(C23.out _).mono ?_
 rintro e w23 ⟨rfl,hb⟩
 have F_w23:Hid _:=F_w22.out.later hb (nQ _)
 clear hb F_w22
 go_wp2_with fail
 refine(C24.out _).mono ?_
 rintro e w24 ⟨rfl,hb⟩
 have F_w24:Hid _:=F_w23.out.later hb (nQ _)
 clear hb F_w23
 have KA:Hid ((w24.alloc (.cells #[.int .u64 0,.int .u64 0] 206)).heap[w24.heap.size]? =some (.cells #[.int .u64 0,.int .u64 0] 206)):=hAN _ _
 go_wp2_with(with_reducible refine aJ ?_;refine wpPr rfl 206 _ _ rfl w24.heap.size (pJ s2) rfl rfl _ _ KA.out (sV _) rfl (xF _) (fun x2 hP=>sH ?_))
 refine aH ?_
 have F_x20:=F_w24.out.newRow hP
 obtain⟨g2,eg2⟩:∃x,x=w24.heap.size:=⟨_,rfl⟩
 rw[←eg2]at F_x20⊢
 have F_x2:Hid _:=F_x20
 clear F_x20 hP KA eg2 F_w24
 have HR3:Hid _:=(F_x2.out.row _ mQ).2.2
 go_wp2_with(with_reducible refine aJ ?_;refine wpLr rfl 206 _ rfl g2 rfl _ (pJ s2) _ _ HR3.out underlying206 rfl (sV _) ?_)
 refine(K2.out _).mono ?_
 rintro e wk3 ⟨rfl,hb⟩
 have F_wk3:Hid _:=F_x2.out.later hb (nQ _)
 clear hb F_x2 HR3
 go_wp2_with fail
 refine(C30.out _).mono ?_
 rintro e w30 ⟨rfl,hb⟩
 have F_w30:Hid _:=F_wk3.out.later hb (nQ _)
 clear hb F_wk3
 go_wp2_with fail
 refine(C31.out _).mono ?_
 rintro e w31 ⟨rfl,hb⟩
 have F_w31:Hid _:=F_w30.out.later hb (nQ _)
 clear hb F_w30
 go_wp2_with fail
 refine(C32.out _).mono ?_
 rintro e w32 ⟨rfl,hb⟩
 have F_w32:Hid _:=F_w31.out.later hb (nQ _)
 clear hb F_w31
 go_wp2_with fail
 refine(C33.out _).mono ?_
 rintro e w33 ⟨rfl,hb⟩
 have F_w33:Hid _:=F_w32.out.later hb (nQ _)
 clear hb F_w32
 go_wp2_with fail
 refine(C34.out _).mono ?_
 rintro e w34 ⟨rfl,hb⟩
 have F_w34:Hid _:=F_w33.out.later hb (nQ _)
 clear hb F_w33
 have KA:Hid ((w34.alloc (.cells #[.int .u64 0,.int .u64 0] 206)).heap[w34.heap.size]? =some (.cells #[.int .u64 0,.int .u64 0] 206)):=hAN _ _
 go_wp2_with(with_reducible refine aJ ?_;refine wpPr rfl 206 _ _ rfl w34.heap.size (pJ s3) rfl rfl _ _ KA.out (sV _) rfl (xF _) (fun x3 hP=>sH ?_))
 refine aH ?_
 have F_x30:=F_w34.out.newRow hP
 obtain⟨g3,eg3⟩:∃x,x=w34.heap.size:=⟨_,rfl⟩
 rw[←eg3]at F_x30⊢
 have F_x3:Hid _:=F_x30
 clear F_x30 hP KA eg3 F_w34
 have HR4:Hid _:=(F_x3.out.row _ mQ).2.2
 go_wp2_with(with_reducible refine aJ ?_;refine wpLr rfl 206 _ rfl g3 rfl _ (pJ s3) _ _ HR4.out underlying206 rfl (sV _) ?_)
 refine(K3.out _).mono ?_
 rintro e wk4 ⟨rfl,hb⟩
 have F_wk4:Hid _:=F_x3.out.later hb (nQ _)
 clear hb F_x3 HR4
 go_wp2_with fail
 refine(C40.out _).mono ?_
 rintro e w40 ⟨rfl,hb⟩
 have F_w40:Hid _:=F_wk4.out.later hb (nQ _)
 clear hb F_wk4
 go_wp2_with fail
 refine(C41.out _).mono ?_
 rintro e w41 ⟨rfl,hb⟩
 have F_w41:Hid _:=F_w40.out.later hb (nQ _)
 clear hb F_w40
 go_wp2_with fail
 refine(C42.out _).mono ?_
 rintro e w42 ⟨rfl,hb⟩
 have F_w42:Hid _:=F_w41.out.later hb (nQ _)
 clear hb F_w41
 go_wp2_with fail
 refine(C43.out _).mono ?_
 rintro e w43 ⟨rfl,hb⟩
 have F_w43:Hid _:=F_w42.out.later hb (nQ _)
 clear hb F_w42
 go_wp2_with fail
 refine(C44.out _).mono ?_
 rintro e w44 ⟨rfl,hb⟩
 have F_w44:Hid _:=F_w43.out.later hb (nQ _)
 clear hb F_w43
 have KA:Hid ((w44.alloc (.cells #[.int .u64 0,.int .u64 0] 206)).heap[w44.heap.size]? =some (.cells #[.int .u64 0,.int .u64 0] 206)):=hAN _ _
 go_wp2_with(with_reducible refine aJ ?_;refine wpPr rfl 206 _ _ rfl w44.heap.size (pJ s4) rfl rfl _ _ KA.out (sV _) rfl (xF _) (fun x4 hP=>sH ?_))
 refine aH ?_
 have F_x40:=F_w44.out.newRow hP
 obtain⟨g4,eg4⟩:∃x,x=w44.heap.size:=⟨_,rfl⟩
 rw[←eg4]at F_x40⊢
 have F_x4:Hid _:=F_x40
 clear F_x40 hP KA eg4 F_w44
 obtain⟨l0,el0⟩:∃l,s0%18446744073709551616=l:=⟨_,rfl⟩
 have hl0:0≤l0∧l0<18446744073709551616:=by omega
 have ha0:=oX l0 hl0.1 hl0.2
 have hm0:l0%2251799813685248=s0%2251799813685248:=by omega
 rw[hm0]at ha0
 clear hm0
 have hr0:0≤s0%2251799813685248∧s0%2251799813685248<2251799813685248:=by omega
 have q0:∀x:yM x4.heap.size x4,x.w.cell? ⟨g0,1,none⟩=some (.int .u64 l0):=fun x=>by rw[cell_of_row _ _ _ _ _ _ ((x.bel.block _ (F_x4.out.row _ (mC _ (mC _ (mC _ (mC _ mQ))))).2.1).trans (F_x4.out.row _ (mC _ (mC _ (mC _ (mC _ mQ))))).2.2),←el0];rfl
 obtain⟨l1,el1⟩:∃l,s1%18446744073709551616=l:=⟨_,rfl⟩
 have hl1:0≤l1∧l1<18446744073709551616:=by omega
 have ha1:=oX l1 hl1.1 hl1.2
 have hm1:l1%2251799813685248=s1%2251799813685248:=by omega
 rw[hm1]at ha1
 clear hm1
 have hr1:0≤s1%2251799813685248∧s1%2251799813685248<2251799813685248:=by omega
 have q1:∀x:yM x4.heap.size x4,x.w.cell? ⟨g1,1,none⟩=some (.int .u64 l1):=fun x=>by rw[cell_of_row _ _ _ _ _ _ ((x.bel.block _ (F_x4.out.row _ (mC _ (mC _ (mC _ mQ)))).2.1).trans (F_x4.out.row _ (mC _ (mC _ (mC _ mQ)))).2.2),←el1];rfl
 obtain⟨l2,el2⟩:∃l,s2%18446744073709551616=l:=⟨_,rfl⟩
 have hl2:0≤l2∧l2<18446744073709551616:=by omega
 have ha2:=oX l2 hl2.1 hl2.2
 have hm2:l2%2251799813685248=s2%2251799813685248:=by omega
 rw[hm2]at ha2
 clear hm2
 have hr2:0≤s2%2251799813685248∧s2%2251799813685248<2251799813685248:=by omega
 have q2:∀x:yM x4.heap.size x4,x.w.cell? ⟨g2,1,none⟩=some (.int .u64 l2):=fun x=>by rw[cell_of_row _ _ _ _ _ _ ((x.bel.block _ (F_x4.out.row _ (mC _ (mC _ mQ))).2.1).trans (F_x4.out.row _ (mC _ (mC _ mQ))).2.2),←el2];rfl
 obtain⟨l3,el3⟩:∃l,s3%18446744073709551616=l:=⟨_,rfl⟩
 have hl3:0≤l3∧l3<18446744073709551616:=by omega
 have ha3:=oX l3 hl3.1 hl3.2
 have hm3:l3%2251799813685248=s3%2251799813685248:=by omega
 rw[hm3]at ha3
 clear hm3
 have hr3:0≤s3%2251799813685248∧s3%2251799813685248<2251799813685248:=by omega
 have q3:∀x:yM x4.heap.size x4,x.w.cell? ⟨g3,1,none⟩=some (.int .u64 l3):=fun x=>by rw[cell_of_row _ _ _ _ _ _ ((x.bel.block _ (F_x4.out.row _ (mC _ mQ)).2.1).trans (F_x4.out.row _ (mC _ mQ)).2.2),←el3];rfl
 obtain⟨l4,el4⟩:∃l,s4%18446744073709551616=l:=⟨_,rfl⟩
 have hl4:0≤l4∧l4<18446744073709551616:=by omega
 have ha4:=oX l4 hl4.1 hl4.2
 have hm4:l4%2251799813685248=s4%2251799813685248:=by omega
 rw[hm4]at ha4
 clear hm4
 have hr4:0≤s4%2251799813685248∧s4%2251799813685248<2251799813685248:=by omega
 have q4:∀x:yM x4.heap.size x4,x.w.cell? ⟨g4,1,none⟩=some (.int .u64 l4):=fun x=>by rw[cell_of_row _ _ _ _ _ _ ((x.bel.block _ (F_x4.out.row _ mQ).2.1).trans (F_x4.out.row _ mQ).2.2),←el4];rfl
 have q5:∀w,(∃x:yM x4.heap.size x4,w=x.w)→w.heap[g4]? =some (.cells (pJ s4) 206):=fun w hw=>by obtain⟨x,rfl⟩:=hw;exact(x.bel.block _ (F_x4.out.row _ mQ).2.1).trans (F_x4.out.row _ mQ).2.2
 generalize s0%2251799813685248=r0 at*
 generalize s1%2251799813685248=r1 at*
 generalize s2%2251799813685248=r2 at*
 generalize s3%2251799813685248=r3 at*
 generalize s4%2251799813685248=r4 at*
 clear el0 el1 el2 el3 el4 h0 h1 h2 h3 f0 f1 f2 f3
 have hw19:IntKind.u64.wrap (19*c4)=19*c4:=by rw[IntKind.wrap_u64];omega
 have hw20:IntKind.u64.wrap (r0+19*c4)=r0+19*c4:=by rw[IntKind.wrap_u64];omega
 have hc4:0≤19*c4∧19*c4≤684547143360315392:=by omega
 go_wp2_with fail
 refine wRt 21 (fun w'=>∃x:yM x4.heap.size x4,w'=x.w) (.held [0,1,2] (.held [3] (.held [7,8,9,10,11,12,13,14,15,16,17,18] (.tail 4 (.held [5,6] (.tail 19 (.tail 20 (.last 21 .done)))))))) jE (by kernel_rfl) ⟨⟨_,bDr (Below.refl _ _) 1⟩,rfl⟩ ?_
 simp only[bR,oS]
 refine dL rfl (.pointer (some ⟨g0,1,none⟩)) (fun w' hw'=>by kernel_rfl) ?_
 simp only[pS]
 refine dL rfl (.int .u64 l0) (fun w' hw'=>by obtain⟨x,rfl⟩:=hw';exact mF 51 _ rfl ⟨g0,1,none⟩ rfl .u64 underlying51 _ _ (q0 x)) ?_
 simp only[pS]
 refine dL rfl (.int .u64 r0) (fun w' hw'=>by rw[←ha0];kernel_rfl) ?_
 simp only[pS]
 refine wqN ?_
 refine wqLr rfl 206 _ rfl g4 rfl _ (pJ s4) _ _ q5 underlying206 rfl (sV _) ?_
 simp only[pS]
 refine wqN ?_
 refine dL rfl (.pointer (some ⟨g1,1,none⟩)) (fun w' hw'=>by kernel_rfl) ?_
 simp only[pS]
 refine dL rfl (.int .u64 l1) (fun w' hw'=>by obtain⟨x,rfl⟩:=hw';exact mF 51 _ rfl ⟨g1,1,none⟩ rfl .u64 underlying51 _ _ (q1 x)) ?_
 simp only[pS]
 refine dL rfl (.int .u64 r1) (fun w' hw'=>by rw[←ha1];kernel_rfl) ?_
 simp only[pS]
 refine dL rfl (.pointer (some ⟨g2,1,none⟩)) (fun w' hw'=>by kernel_rfl) ?_
 simp only[pS]
 refine dL rfl (.int .u64 l2) (fun w' hw'=>by obtain⟨x,rfl⟩:=hw';exact mF 51 _ rfl ⟨g2,1,none⟩ rfl .u64 underlying51 _ _ (q2 x)) ?_
 simp only[pS]
 refine dL rfl (.int .u64 r2) (fun w' hw'=>by rw[←ha2];kernel_rfl) ?_
 simp only[pS]
 refine dL rfl (.pointer (some ⟨g3,1,none⟩)) (fun w' hw'=>by kernel_rfl) ?_
 simp only[pS]
 refine dL rfl (.int .u64 l3) (fun w' hw'=>by obtain⟨x,rfl⟩:=hw';exact mF 51 _ rfl ⟨g3,1,none⟩ rfl .u64 underlying51 _ _ (q3 x)) ?_
 simp only[pS]
 refine dL rfl (.int .u64 r3) (fun w' hw'=>by rw[←ha3];kernel_rfl) ?_
 simp only[pS]
 refine dL rfl (.pointer (some ⟨g4,1,none⟩)) (fun w' hw'=>by kernel_rfl) ?_
 simp only[pS]
 refine dL rfl (.int .u64 l4) (fun w' hw'=>by obtain⟨x,rfl⟩:=hw';exact mF 51 _ rfl ⟨g4,1,none⟩ rfl .u64 underlying51 _ _ (q4 x)) ?_
 simp only[pS]
 refine dL rfl (.int .u64 r4) (fun w' hw'=>by rw[←ha4];kernel_rfl) ?_
 simp only[pS]
 refine wqN ?_
 go_wp2_with fail
 refine(K4.out _).mono ?_
 rintro e y0 ⟨rfl,hb⟩
 have F_y:Hid (Below x4.heap.size x4 y0):=(bDr (Below.refl x4.heap.size x4) 1).trans (hb.mono (nQ _))
 clear hb
 go_wp2_with fail
 refine⟨⟨⟨y0,F_y.out⟩,rfl⟩,?_⟩
 refine dL rfl (.int .u64 (19*c4)) (fun w' hw'=>by rw[←hw19];kernel_rfl) ?_
 simp only[pS]
 refine dL rfl (.int .u64 (r0+19*c4)) (fun w' hw'=>by rw[←hw20];kernel_rfl) ?_
 simp only[pS]
 refine wqN ?_
 go_wp2_with fail
 refine⟨⟨⟨y0,F_y.out⟩,rfl⟩,?_⟩
 go_wp2_with fail
 refine(HC.out _).mono ?_
 rintro e y1 ⟨rfl,hb⟩
 have F_z:Hid (Below x4.heap.size x4 y1):=F_y.out.trans (hb.mono F_y.out.size)
 clear hb F_y
 go_wp2_with fail
 refine⟨⟨⟨y1,F_z.out⟩,rfl⟩,?_⟩
 have F_9:Hid _:=F_x4.out.later F_z.out (nQ _)
 have G9:Hid _:=(F_9.out.row _ (mC _ (mC _ (mC _ (mC _ (mC _ mQ)))))).2.2
 have B9:Hid _:=F_9.out.bel
 clear F_x4 F_z F_9 q0 q1 q2 q3 q4 q5
 go_wp2_with(refine wpPr rfl 187 _ _ rfl (w.heap.size+1+1) (Iv .u64 R) rfl rfl _ _ G9.out (bE hl.out) (NG hl.out) (aG _ _) (fun Z hP=>sH ?_))
 refine aH ?_
 refine oG ?_
 have B2:=hP.below _ _ B9.out (by omega)
 have G2:=hP.here
 go_wp2
 exact bodyPost_ret (v:=.agg (Iv .u64 R)) (results_cell_row rfl _ _ _ _ (Iv .u64 R) _ _ rfl G2 underlying187 rfl (bE hl.out)) rfl ⟨rfl,B2⟩
theorem yA (a b:LI) (ha:kL a) (hb:kL b) (w:World):
 Calls prog 99 #[.agg (Iv .u64 a),.agg (Iv .u64 b)] w fun e w'=>e=.returned (.agg (Iv .u64 (eM a b)))∧Below w.heap.size w w':=by
 obtain⟨a0,a1,a2,a3,a4,rfl,hA⟩:=ha.five
 obtain⟨b0,b1,b2,b3,b4,rfl,hB⟩:=hb.five
 exact V7 a0 a1 a2 a3 a4 b0 b1 b2 b3 b4 hA hB w
end Go.Proofs.YtmjccemdldidaaaGreatDoor
