import Derived.Test.YtgcepckaolkeoaaGreatDoorMZ13
namespace Go.Proofs.YtgcepckaolkeoaaGreatDoor
open Go.RowKit
open Go.Proofs.Tryz
open Go renaming wpList_load_row → wpLr, wpQuiet_nil → wqN
open List renaming drop_succ_cons → dJ, drop_zero → dY, length_replicate → rJ, not_mem_nil → nY, replicate → rQ, take_succ_cons → tU, take_zero → tJ
open Nat renaming le_refl → nQ
set_option linter.unusedVariables false
set_option maxRecDepth 10000 in
set_option maxHeartbeats 4000000 in
theorem FC (l:List Int) (a b c d:Nat) (w:World) (hl:l.length=16) (h:bC l) (ha:a<16) (hb:b<16) (hc:c<16) (hd:d<16) (ab:a≠b) (ac:a≠c) (had:a≠d) (bc:b≠c) (bd:b≠d) (cd:c≠d):
 Calls prog 118 #[.agg (Iv .u32 l),.int .i64 a,.int .i64 b,.int .i64 c,.int .i64 d] w fun e w'=>e=.returned (.agg (Iv .u32 (gX l a b c d)))∧Below w.heap.size w w':=by
 have hwa:=h a
 have hwb:=h b
 have hwc:=h c
 have hwd:=h d
 have HM:Hid (gX l a b c d=put4 l a b c d (qA (l.getD a 0) (l.getD b 0) (l.getD c 0) (l.getD d 0)) (qB (l.getD a 0) (l.getD b 0) (l.getD c 0) (l.getD d 0)) (qC (l.getD a 0) (l.getD b 0) (l.getD c 0) (l.getD d 0)) (qD (l.getD a 0) (l.getD b 0) (l.getD c 0) (l.getD d 0))):=N9 l a b c d
 have HS:Hid (put4 l a b c d (l.getD a 0) (l.getD b 0) (l.getD c 0) (l.getD d 0)=l):=H8 l a b c d
 have HAT:Hid (∀A B C D:Int,(put4 l a b c d A B C D).getD a 0=A∧(put4 l a b c d A B C D).getD b 0=B∧(put4 l a b c d A B C D).getD c 0=C∧(put4 l a b c d A B C D).getD d 0=D):=fun A B C D=>PW l A B C D (by omega) (by omega) (by omega) (by omega) ab ac had bc bd cd
 have HLEN:Hid (∀A B C D:Int,(put4 l a b c d A B C D).length=16):=fun A B C D=>by rw[uA,hl]
 generalize l.getD a 0=A0 at*
 generalize l.getD b 0=B0 at*
 generalize l.getD c 0=C0 at*
 generalize l.getD d 0=D0 at*
 have hai:(a:Int)<16:=by omega
 have hbi:(b:Int)<16:=by omega
 have hci:(c:Int)<16:=by omega
 have hdi:(d:Int)<16:=by omega
 go_enter func118,ntmps118
 go_wp2_with fail
 obtain⟨W0,hW,R00,Z00,hs0,hb0⟩:=kG w (.cells (Iv .u32 l) 177) (.cells (Iv .u32 (rQ 16 0)) 177)
 have R0:aB W0 w.heap.size .u32 (put4 l a b c d A0 B0 C0 D0) 177:=by rw[HS.out];exact R00
 have Z0:aB W0 (w.heap.size+1) .u32 (rQ 16 0) 177:=Z00
 clear R00 Z00 hs0
 have hW':=hW
 simp only[Iv,rQ,List.map_cons,List.map_nil]at hW'
 simp only[Iv,hW']
 clear hW hW'
 have ca0:W0.cell? ⟨w.heap.size,a,none⟩=some (.int .u32 A0):=by have:=R0.cell a (by rw[HLEN.out];omega);rw[(HAT.out _ _ _ _).1]at this;exact this
 have fa0:W0.frozen? ⟨w.heap.size,a,none⟩=false:=R0.frozen a
 have cb0:W0.cell? ⟨w.heap.size,b,none⟩=some (.int .u32 B0):=by have:=R0.cell b (by rw[HLEN.out];omega);rw[(HAT.out _ _ _ _).2.1]at this;exact this
 have fb0:W0.frozen? ⟨w.heap.size,b,none⟩=false:=R0.frozen b
 have cc0:W0.cell? ⟨w.heap.size,c,none⟩=some (.int .u32 C0):=by have:=R0.cell c (by rw[HLEN.out];omega);rw[(HAT.out _ _ _ _).2.2.1]at this;exact this
 have fc0:W0.frozen? ⟨w.heap.size,c,none⟩=false:=R0.frozen c
 have cd0:W0.cell? ⟨w.heap.size,d,none⟩=some (.int .u32 D0):=by have:=R0.cell d (by rw[HLEN.out];omega);rw[(HAT.out _ _ _ _).2.2.2]at this;exact this
 have fd0:W0.frozen? ⟨w.heap.size,d,none⟩=false:=R0.frozen d
 go_wp2_with fail
 refine wRh 8 tW (by kernel_rfl) ?_
 simp only[tU,tJ,dJ,dY]
 repeat(go_big_quiet_step (fail))
 refine wqN ?_
 go_wp2_with fail
 obtain⟨W1,hWn⟩:∃X,X=(W0.setCell ⟨w.heap.size,a,none⟩ (.int .u32 ((A0+B0)%4294967296))).drew:=⟨_,rfl⟩
 rw[←hWn]
 have R1:aB W1 w.heap.size .u32 ((put4 l a b c d A0 B0 C0 D0).set a ((A0+B0)%4294967296)) 177:=by rw[hWn];exact R0.setCell a _
 have Z1:aB W1 (w.heap.size+1) .u32 (rQ 16 0) 177:=by rw[hWn];exact Z0.setFar _ _ (by show w.heap.size≠_;omega)
 have hb1:Below w.heap.size w W1:=by rw[hWn];exact bDr (hb0.setCell (by simp) _) 1
 rw[JP l _ _ _ _ _ ab ac had]at R1
 obtain⟨A1,hA1⟩:∃X,X=((A0+B0)%4294967296):=⟨_,rfl⟩
 rw[←hA1]at R1
 simp only[←hA1]
 have E1:Hid (A1=ad A0 B0):=hA1
 clear hA1 hWn R0 Z0 hb0 ca0 cb0 cc0 cd0 fa0 fb0 fc0 fd0
 have ca1:W1.cell? ⟨w.heap.size,a,none⟩=some (.int .u32 A1):=by have:=R1.cell a (by rw[HLEN.out];omega);rw[(HAT.out _ _ _ _).1]at this;exact this
 have fa1:W1.frozen? ⟨w.heap.size,a,none⟩=false:=R1.frozen a
 have cb1:W1.cell? ⟨w.heap.size,b,none⟩=some (.int .u32 B0):=by have:=R1.cell b (by rw[HLEN.out];omega);rw[(HAT.out _ _ _ _).2.1]at this;exact this
 have fb1:W1.frozen? ⟨w.heap.size,b,none⟩=false:=R1.frozen b
 have cc1:W1.cell? ⟨w.heap.size,c,none⟩=some (.int .u32 C0):=by have:=R1.cell c (by rw[HLEN.out];omega);rw[(HAT.out _ _ _ _).2.2.1]at this;exact this
 have fc1:W1.frozen? ⟨w.heap.size,c,none⟩=false:=R1.frozen c
 have cd1:W1.cell? ⟨w.heap.size,d,none⟩=some (.int .u32 D0):=by have:=R1.cell d (by rw[HLEN.out];omega);rw[(HAT.out _ _ _ _).2.2.2]at this;exact this
 have fd1:W1.frozen? ⟨w.heap.size,d,none⟩=false:=R1.frozen d
 go_wp2_with fail
 refine wRl 8 (fun _=>True) [(.held,[0]),(.exact,[1,2,3,4,5,6,7]),(.tail,[8]),(.held,[9]),(.tail,[10])] tW (by kernel_rfl) trivial ?_
 simp only[iO,oS]
 repeat(go_big_quiet_step (fail))
 refine wqN ?_
 repeat(go_big_quiet_step (fail))
 refine wqN ?_
 go_wp2_with fail
 refine(aaM _ _ (iP _ _)).mono ?_
 rintro e W1x ⟨rfl,d1,hWx⟩
 have R1x:aB W1x w.heap.size .u32 (put4 l a b c d A1 B0 C0 D0) 177:=by rw[hWx];exact R1
 have Z1x:aB W1x (w.heap.size+1) .u32 (rQ 16 0) 177:=by rw[hWx];exact Z1
 have hb1x:Below w.heap.size w W1x:=by rw[hWx];exact bDr (bDr hb1 1) d1
 have hy1:∃v,W1x.cell? ⟨w.heap.size,d,none⟩=some v:=⟨_,R1x.cell d (by rw[HLEN.out];omega)⟩
 obtain⟨v1,hv1⟩:=hy1
 have fx1:W1x.frozen? ⟨w.heap.size,d,none⟩=false:=R1x.frozen d
 clear hWx
 go_wp2_with fail
 refine⟨trivial,?_⟩
 repeat(go_big_quiet_step (fail))
 refine wqN ?_
 go_wp2_with fail
 refine⟨trivial,dM ?_⟩
 obtain⟨W2,hWn⟩:∃X,X=W1x.setCell ⟨w.heap.size,d,none⟩ (.int .u32 (rl 16 (xr D0 A1))):=⟨_,rfl⟩
 rw[←hWn]
 have R2:aB W2 w.heap.size .u32 ((put4 l a b c d A1 B0 C0 D0).set d (rl 16 (xr D0 A1))) 177:=by rw[hWn];exact R1x.setCell d _
 have Z2:aB W2 (w.heap.size+1) .u32 (rQ 16 0) 177:=by rw[hWn];exact Z1x.setFar _ _ (by show w.heap.size≠_;omega)
 have hb2:Below w.heap.size w W2:=by rw[hWn];exact hb1x.setCell (by simp) _
 clear R1x Z1x hb1x hv1 fx1
 rw[JT l _ _ _ _ _]at R2
 obtain⟨D2,hD2⟩:∃X,X=(rl 16 (xr D0 A1)):=⟨_,rfl⟩
 rw[←hD2]at R2
 simp only[←hD2]
 have E2:Hid (D2=rl 16 (xr D0 A1)):=hD2
 clear hD2 hWn R1 Z1 hb1 ca1 cb1 cc1 cd1 fa1 fb1 fc1 fd1
 have ca2:W2.cell? ⟨w.heap.size,a,none⟩=some (.int .u32 A1):=by have:=R2.cell a (by rw[HLEN.out];omega);rw[(HAT.out _ _ _ _).1]at this;exact this
 have fa2:W2.frozen? ⟨w.heap.size,a,none⟩=false:=R2.frozen a
 have cb2:W2.cell? ⟨w.heap.size,b,none⟩=some (.int .u32 B0):=by have:=R2.cell b (by rw[HLEN.out];omega);rw[(HAT.out _ _ _ _).2.1]at this;exact this
 have fb2:W2.frozen? ⟨w.heap.size,b,none⟩=false:=R2.frozen b
 have cc2:W2.cell? ⟨w.heap.size,c,none⟩=some (.int .u32 C0):=by have:=R2.cell c (by rw[HLEN.out];omega);rw[(HAT.out _ _ _ _).2.2.1]at this;exact this
 have fc2:W2.frozen? ⟨w.heap.size,c,none⟩=false:=R2.frozen c
 have cd2:W2.cell? ⟨w.heap.size,d,none⟩=some (.int .u32 D2):=by have:=R2.cell d (by rw[HLEN.out];omega);rw[(HAT.out _ _ _ _).2.2.2]at this;exact this
 have fd2:W2.frozen? ⟨w.heap.size,d,none⟩=false:=R2.frozen d
 go_wp2_with fail
 refine wRh 8 tW (by kernel_rfl) ?_
 simp only[tU,tJ,dJ,dY]
 repeat(go_big_quiet_step (fail))
 refine wqN ?_
 go_wp2_with fail
 obtain⟨W3,hWn⟩:∃X,X=(W2.setCell ⟨w.heap.size,c,none⟩ (.int .u32 ((C0+D2)%4294967296))).drew:=⟨_,rfl⟩
 rw[←hWn]
 have R3:aB W3 w.heap.size .u32 ((put4 l a b c d A1 B0 C0 D2).set c ((C0+D2)%4294967296)) 177:=by rw[hWn];exact R2.setCell c _
 have Z3:aB W3 (w.heap.size+1) .u32 (rQ 16 0) 177:=by rw[hWn];exact Z2.setFar _ _ (by show w.heap.size≠_;omega)
 have hb3:Below w.heap.size w W3:=by rw[hWn];exact bDr (hb2.setCell (by simp) _) 1
 rw[JS l _ _ _ _ _ cd]at R3
 obtain⟨C3,hC3⟩:∃X,X=((C0+D2)%4294967296):=⟨_,rfl⟩
 rw[←hC3]at R3
 simp only[←hC3]
 have E3:Hid (C3=ad C0 D2):=hC3
 clear hC3 hWn R2 Z2 hb2 ca2 cb2 cc2 cd2 fa2 fb2 fc2 fd2
 have ca3:W3.cell? ⟨w.heap.size,a,none⟩=some (.int .u32 A1):=by have:=R3.cell a (by rw[HLEN.out];omega);rw[(HAT.out _ _ _ _).1]at this;exact this
 have fa3:W3.frozen? ⟨w.heap.size,a,none⟩=false:=R3.frozen a
 have cb3:W3.cell? ⟨w.heap.size,b,none⟩=some (.int .u32 B0):=by have:=R3.cell b (by rw[HLEN.out];omega);rw[(HAT.out _ _ _ _).2.1]at this;exact this
 have fb3:W3.frozen? ⟨w.heap.size,b,none⟩=false:=R3.frozen b
 have cc3:W3.cell? ⟨w.heap.size,c,none⟩=some (.int .u32 C3):=by have:=R3.cell c (by rw[HLEN.out];omega);rw[(HAT.out _ _ _ _).2.2.1]at this;exact this
 have fc3:W3.frozen? ⟨w.heap.size,c,none⟩=false:=R3.frozen c
 have cd3:W3.cell? ⟨w.heap.size,d,none⟩=some (.int .u32 D2):=by have:=R3.cell d (by rw[HLEN.out];omega);rw[(HAT.out _ _ _ _).2.2.2]at this;exact this
 have fd3:W3.frozen? ⟨w.heap.size,d,none⟩=false:=R3.frozen d
 go_wp2_with fail
 refine wRl 8 (fun _=>True) [(.held,[0]),(.exact,[1,2,3,4,5,6,7]),(.tail,[8]),(.held,[9]),(.tail,[10])] tW (by kernel_rfl) trivial ?_
 simp only[iO,oS]
 repeat(go_big_quiet_step (fail))
 refine wqN ?_
 repeat(go_big_quiet_step (fail))
 refine wqN ?_
 go_wp2_with fail
 refine(aaL _ _ (iP _ _)).mono ?_
 rintro e W3x ⟨rfl,d3,hWx⟩
 have R3x:aB W3x w.heap.size .u32 (put4 l a b c d A1 B0 C3 D2) 177:=by rw[hWx];exact R3
 have Z3x:aB W3x (w.heap.size+1) .u32 (rQ 16 0) 177:=by rw[hWx];exact Z3
 have hb3x:Below w.heap.size w W3x:=by rw[hWx];exact bDr (bDr hb3 1) d3
 have hy3:∃v,W3x.cell? ⟨w.heap.size,b,none⟩=some v:=⟨_,R3x.cell b (by rw[HLEN.out];omega)⟩
 obtain⟨v3,hv3⟩:=hy3
 have fx3:W3x.frozen? ⟨w.heap.size,b,none⟩=false:=R3x.frozen b
 clear hWx
 go_wp2_with fail
 refine⟨trivial,?_⟩
 repeat(go_big_quiet_step (fail))
 refine wqN ?_
 go_wp2_with fail
 refine⟨trivial,dM ?_⟩
 obtain⟨W4,hWn⟩:∃X,X=W3x.setCell ⟨w.heap.size,b,none⟩ (.int .u32 (rl 12 (xr B0 C3))):=⟨_,rfl⟩
 rw[←hWn]
 have R4:aB W4 w.heap.size .u32 ((put4 l a b c d A1 B0 C3 D2).set b (rl 12 (xr B0 C3))) 177:=by rw[hWn];exact R3x.setCell b _
 have Z4:aB W4 (w.heap.size+1) .u32 (rQ 16 0) 177:=by rw[hWn];exact Z3x.setFar _ _ (by show w.heap.size≠_;omega)
 have hb4:Below w.heap.size w W4:=by rw[hWn];exact hb3x.setCell (by simp) _
 clear R3x Z3x hb3x hv3 fx3
 rw[JQ l _ _ _ _ _ bc bd]at R4
 obtain⟨B4,hB4⟩:∃X,X=(rl 12 (xr B0 C3)):=⟨_,rfl⟩
 rw[←hB4]at R4
 simp only[←hB4]
 have E4:Hid (B4=rl 12 (xr B0 C3)):=hB4
 clear hB4 hWn R3 Z3 hb3 ca3 cb3 cc3 cd3 fa3 fb3 fc3 fd3
 have ca4:W4.cell? ⟨w.heap.size,a,none⟩=some (.int .u32 A1):=by have:=R4.cell a (by rw[HLEN.out];omega);rw[(HAT.out _ _ _ _).1]at this;exact this
 have fa4:W4.frozen? ⟨w.heap.size,a,none⟩=false:=R4.frozen a
 have cb4:W4.cell? ⟨w.heap.size,b,none⟩=some (.int .u32 B4):=by have:=R4.cell b (by rw[HLEN.out];omega);rw[(HAT.out _ _ _ _).2.1]at this;exact this
 have fb4:W4.frozen? ⟨w.heap.size,b,none⟩=false:=R4.frozen b
 have cc4:W4.cell? ⟨w.heap.size,c,none⟩=some (.int .u32 C3):=by have:=R4.cell c (by rw[HLEN.out];omega);rw[(HAT.out _ _ _ _).2.2.1]at this;exact this
 have fc4:W4.frozen? ⟨w.heap.size,c,none⟩=false:=R4.frozen c
 have cd4:W4.cell? ⟨w.heap.size,d,none⟩=some (.int .u32 D2):=by have:=R4.cell d (by rw[HLEN.out];omega);rw[(HAT.out _ _ _ _).2.2.2]at this;exact this
 have fd4:W4.frozen? ⟨w.heap.size,d,none⟩=false:=R4.frozen d
 go_wp2_with fail
 refine wRh 8 tW (by kernel_rfl) ?_
 simp only[tU,tJ,dJ,dY]
 repeat(go_big_quiet_step (fail))
 refine wqN ?_
 go_wp2_with fail
 obtain⟨W5,hWn⟩:∃X,X=(W4.setCell ⟨w.heap.size,a,none⟩ (.int .u32 ((A1+B4)%4294967296))).drew:=⟨_,rfl⟩
 rw[←hWn]
 have R5:aB W5 w.heap.size .u32 ((put4 l a b c d A1 B4 C3 D2).set a ((A1+B4)%4294967296)) 177:=by rw[hWn];exact R4.setCell a _
 have Z5:aB W5 (w.heap.size+1) .u32 (rQ 16 0) 177:=by rw[hWn];exact Z4.setFar _ _ (by show w.heap.size≠_;omega)
 have hb5:Below w.heap.size w W5:=by rw[hWn];exact bDr (hb4.setCell (by simp) _) 1
 rw[JP l _ _ _ _ _ ab ac had]at R5
 obtain⟨A5,hA5⟩:∃X,X=((A1+B4)%4294967296):=⟨_,rfl⟩
 rw[←hA5]at R5
 simp only[←hA5]
 have E5:Hid (A5=ad A1 B4):=hA5
 clear hA5 hWn R4 Z4 hb4 ca4 cb4 cc4 cd4 fa4 fb4 fc4 fd4
 have ca5:W5.cell? ⟨w.heap.size,a,none⟩=some (.int .u32 A5):=by have:=R5.cell a (by rw[HLEN.out];omega);rw[(HAT.out _ _ _ _).1]at this;exact this
 have fa5:W5.frozen? ⟨w.heap.size,a,none⟩=false:=R5.frozen a
 have cb5:W5.cell? ⟨w.heap.size,b,none⟩=some (.int .u32 B4):=by have:=R5.cell b (by rw[HLEN.out];omega);rw[(HAT.out _ _ _ _).2.1]at this;exact this
 have fb5:W5.frozen? ⟨w.heap.size,b,none⟩=false:=R5.frozen b
 have cc5:W5.cell? ⟨w.heap.size,c,none⟩=some (.int .u32 C3):=by have:=R5.cell c (by rw[HLEN.out];omega);rw[(HAT.out _ _ _ _).2.2.1]at this;exact this
 have fc5:W5.frozen? ⟨w.heap.size,c,none⟩=false:=R5.frozen c
 have cd5:W5.cell? ⟨w.heap.size,d,none⟩=some (.int .u32 D2):=by have:=R5.cell d (by rw[HLEN.out];omega);rw[(HAT.out _ _ _ _).2.2.2]at this;exact this
 have fd5:W5.frozen? ⟨w.heap.size,d,none⟩=false:=R5.frozen d
 go_wp2_with fail
 refine wRl 8 (fun _=>True) [(.held,[0]),(.exact,[1,2,3,4,5,6,7]),(.tail,[8]),(.held,[9]),(.tail,[10])] tW (by kernel_rfl) trivial ?_
 simp only[iO,oS]
 repeat(go_big_quiet_step (fail))
 refine wqN ?_
 repeat(go_big_quiet_step (fail))
 refine wqN ?_
 go_wp2_with fail
 refine(acL _ _ (iP _ _)).mono ?_
 rintro e W5x ⟨rfl,d5,hWx⟩
 have R5x:aB W5x w.heap.size .u32 (put4 l a b c d A5 B4 C3 D2) 177:=by rw[hWx];exact R5
 have Z5x:aB W5x (w.heap.size+1) .u32 (rQ 16 0) 177:=by rw[hWx];exact Z5
 have hb5x:Below w.heap.size w W5x:=by rw[hWx];exact bDr (bDr hb5 1) d5
 have hy5:∃v,W5x.cell? ⟨w.heap.size,d,none⟩=some v:=⟨_,R5x.cell d (by rw[HLEN.out];omega)⟩
 obtain⟨v5,hv5⟩:=hy5
 have fx5:W5x.frozen? ⟨w.heap.size,d,none⟩=false:=R5x.frozen d
 clear hWx
 go_wp2_with fail
 refine⟨trivial,?_⟩
 repeat(go_big_quiet_step (fail))
 refine wqN ?_
 go_wp2_with fail
 refine⟨trivial,dM ?_⟩
 obtain⟨W6,hWn⟩:∃X,X=W5x.setCell ⟨w.heap.size,d,none⟩ (.int .u32 (rl 8 (xr D2 A5))):=⟨_,rfl⟩
 rw[←hWn]
 have R6:aB W6 w.heap.size .u32 ((put4 l a b c d A5 B4 C3 D2).set d (rl 8 (xr D2 A5))) 177:=by rw[hWn];exact R5x.setCell d _
 have Z6:aB W6 (w.heap.size+1) .u32 (rQ 16 0) 177:=by rw[hWn];exact Z5x.setFar _ _ (by show w.heap.size≠_;omega)
 have hb6:Below w.heap.size w W6:=by rw[hWn];exact hb5x.setCell (by simp) _
 clear R5x Z5x hb5x hv5 fx5
 rw[JT l _ _ _ _ _]at R6
 obtain⟨D6,hD6⟩:∃X,X=(rl 8 (xr D2 A5)):=⟨_,rfl⟩
 rw[←hD6]at R6
 simp only[←hD6]
 have E6:Hid (D6=rl 8 (xr D2 A5)):=hD6
 clear hD6 hWn R5 Z5 hb5 ca5 cb5 cc5 cd5 fa5 fb5 fc5 fd5
 have ca6:W6.cell? ⟨w.heap.size,a,none⟩=some (.int .u32 A5):=by have:=R6.cell a (by rw[HLEN.out];omega);rw[(HAT.out _ _ _ _).1]at this;exact this
 have fa6:W6.frozen? ⟨w.heap.size,a,none⟩=false:=R6.frozen a
 have cb6:W6.cell? ⟨w.heap.size,b,none⟩=some (.int .u32 B4):=by have:=R6.cell b (by rw[HLEN.out];omega);rw[(HAT.out _ _ _ _).2.1]at this;exact this
 have fb6:W6.frozen? ⟨w.heap.size,b,none⟩=false:=R6.frozen b
 have cc6:W6.cell? ⟨w.heap.size,c,none⟩=some (.int .u32 C3):=by have:=R6.cell c (by rw[HLEN.out];omega);rw[(HAT.out _ _ _ _).2.2.1]at this;exact this
 have fc6:W6.frozen? ⟨w.heap.size,c,none⟩=false:=R6.frozen c
 have cd6:W6.cell? ⟨w.heap.size,d,none⟩=some (.int .u32 D6):=by have:=R6.cell d (by rw[HLEN.out];omega);rw[(HAT.out _ _ _ _).2.2.2]at this;exact this
 have fd6:W6.frozen? ⟨w.heap.size,d,none⟩=false:=R6.frozen d
 go_wp2_with fail
 refine wRh 8 tW (by kernel_rfl) ?_
 simp only[tU,tJ,dJ,dY]
 repeat(go_big_quiet_step (fail))
 refine wqN ?_
 go_wp2_with fail
 obtain⟨W7,hWn⟩:∃X,X=(W6.setCell ⟨w.heap.size,c,none⟩ (.int .u32 ((C3+D6)%4294967296))).drew:=⟨_,rfl⟩
 rw[←hWn]
 have R7:aB W7 w.heap.size .u32 ((put4 l a b c d A5 B4 C3 D6).set c ((C3+D6)%4294967296)) 177:=by rw[hWn];exact R6.setCell c _
 have Z7:aB W7 (w.heap.size+1) .u32 (rQ 16 0) 177:=by rw[hWn];exact Z6.setFar _ _ (by show w.heap.size≠_;omega)
 have hb7:Below w.heap.size w W7:=by rw[hWn];exact bDr (hb6.setCell (by simp) _) 1
 rw[JS l _ _ _ _ _ cd]at R7
 obtain⟨C7,hC7⟩:∃X,X=((C3+D6)%4294967296):=⟨_,rfl⟩
 rw[←hC7]at R7
 simp only[←hC7]
 have E7:Hid (C7=ad C3 D6):=hC7
 clear hC7 hWn R6 Z6 hb6 ca6 cb6 cc6 cd6 fa6 fb6 fc6 fd6
 have ca7:W7.cell? ⟨w.heap.size,a,none⟩=some (.int .u32 A5):=by have:=R7.cell a (by rw[HLEN.out];omega);rw[(HAT.out _ _ _ _).1]at this;exact this
 have fa7:W7.frozen? ⟨w.heap.size,a,none⟩=false:=R7.frozen a
 have cb7:W7.cell? ⟨w.heap.size,b,none⟩=some (.int .u32 B4):=by have:=R7.cell b (by rw[HLEN.out];omega);rw[(HAT.out _ _ _ _).2.1]at this;exact this
 have fb7:W7.frozen? ⟨w.heap.size,b,none⟩=false:=R7.frozen b
 have cc7:W7.cell? ⟨w.heap.size,c,none⟩=some (.int .u32 C7):=by have:=R7.cell c (by rw[HLEN.out];omega);rw[(HAT.out _ _ _ _).2.2.1]at this;exact this
 have fc7:W7.frozen? ⟨w.heap.size,c,none⟩=false:=R7.frozen c
 have cd7:W7.cell? ⟨w.heap.size,d,none⟩=some (.int .u32 D6):=by have:=R7.cell d (by rw[HLEN.out];omega);rw[(HAT.out _ _ _ _).2.2.2]at this;exact this
 have fd7:W7.frozen? ⟨w.heap.size,d,none⟩=false:=R7.frozen d
 go_wp2_with fail
 refine wRl 8 (fun _=>True) [(.held,[0]),(.exact,[1,2,3,4,5,6,7]),(.tail,[8]),(.held,[9]),(.tail,[10])] tW (by kernel_rfl) trivial ?_
 simp only[iO,oS]
 repeat(go_big_quiet_step (fail))
 refine wqN ?_
 repeat(go_big_quiet_step (fail))
 refine wqN ?_
 go_wp2_with fail
 refine(acK _ _ (iP _ _)).mono ?_
 rintro e W7x ⟨rfl,d7,hWx⟩
 have R7x:aB W7x w.heap.size .u32 (put4 l a b c d A5 B4 C7 D6) 177:=by rw[hWx];exact R7
 have Z7x:aB W7x (w.heap.size+1) .u32 (rQ 16 0) 177:=by rw[hWx];exact Z7
 have hb7x:Below w.heap.size w W7x:=by rw[hWx];exact bDr (bDr hb7 1) d7
 have hy7:∃v,W7x.cell? ⟨w.heap.size,b,none⟩=some v:=⟨_,R7x.cell b (by rw[HLEN.out];omega)⟩
 obtain⟨v7,hv7⟩:=hy7
 have fx7:W7x.frozen? ⟨w.heap.size,b,none⟩=false:=R7x.frozen b
 clear hWx
 go_wp2_with fail
 refine⟨trivial,?_⟩
 repeat(go_big_quiet_step (fail))
 refine wqN ?_
 go_wp2_with fail
 refine⟨trivial,dM ?_⟩
 have R8:=R7x.setCell b (rl 7 (xr B4 C7))
 have Z8:aB (W7x.setCell ⟨w.heap.size,b,none⟩ (.int .u32 (rl 7 (xr B4 C7)))) (w.heap.size+1) .u32 (rQ 16 0) 177:=Z7x.setFar _ _ (by show w.heap.size≠_;omega)
 have hb8:Below w.heap.size w (W7x.setCell ⟨w.heap.size,b,none⟩ (.int .u32 (rl 7 (xr B4 C7)))):=hb7x.setCell (by simp) _
 rw[JQ l _ _ _ _ _ bc bd]at R8
 have hfin:put4 l a b c d A5 (rl 7 (xr B4 C7)) C7 D6=gX l a b c d:=by
  rw[HM.out]
  have e1:=E1.out
  have e2:=E2.out
  have e3:=E3.out
  have e4:=E4.out
  have e5:=E5.out
  have e6:=E6.out
  have e7:=E7.out
  subst e1 e2 e3 e4 e5 e6 e7
  rfl
 rw[hfin]at R8
 clear hfin
 have HR8:Hid (aB (W7x.setCell ⟨w.heap.size,b,none⟩ (.int .u32 (rl 7 (xr B4 C7)))) w.heap.size .u32 (gX l a b c d) 177):=R8
 have HZ8:Hid (aB (W7x.setCell ⟨w.heap.size,b,none⟩ (.int .u32 (rl 7 (xr B4 C7)))) (w.heap.size+1) .u32 (rQ 16 0) 177):=Z8
 have HB8:Hid (Below w.heap.size w (W7x.setCell ⟨w.heap.size,b,none⟩ (.int .u32 (rl 7 (xr B4 C7))))):=hb8
 clear R8 Z8 hb8 R7x Z7x hb7x
 have hL:(gX l a b c d).length=16:=by rw[sD,hl]
 have hi:(prog.info? 177).map (·.size)=some (Iv .u32 (gX l a b c d)).size:=by rw[aC,hL];exact JD
 have hz:(Iv .u32 (rQ 16 0)).size=(Iv .u32 (gX l a b c d)).size:=by rw[aC,aC,hL,rJ]
 have HI:Hid ((prog.info? 177).map (·.size)=some (Iv .u32 (gX l a b c d)).size):=hi
 have HZ:Hid ((Iv .u32 (rQ 16 0)).size=(Iv .u32 (gX l a b c d)).size):=hz
 clear hi hz
 go_wp2_with(first|refine wpLr rfl 177 _ rfl w.heap.size rfl _ (Iv .u32 (gX l a b c d)) _ _ HR8.out underlying177 rfl HI.out ?_ |refine wpList_store_row rfl 177 _ _ rfl (w.heap.size+1) (Iv .u32 (gX l a b c d)) rfl rfl _ _ HZ8.out HI.out HZ.out (aH _ _) ?_)
 refine oG (cs:=Iv .u32 (gX l a b c d)) results118 ?_ (setRow_heap _ _ _ _ _ _ HZ8.out) underlying177 HI.out ?_
 ·rfl
 ·exact⟨rfl,aO HB8.out _ (by omega) _⟩
set_option maxRecDepth 10000 in
set_option maxHeartbeats 4000000 in
theorem JH (l:List Int) (w:World) (hl:l.length=16) (h:bC l):
 Calls prog 102 #[.agg (Iv .u32 l)] w fun e w'=>e=.returned (.agg (Iv .u32 (bK l 10)))∧Below w.heap.size w w':=by
 have HI:Hid (∀L:List Int,L.length=16→(prog.info? 177).map (·.size)=some (Iv .u32 L).size):=fun L hL=>by rw[aC,hL];exact JD
 have HZ:Hid (∀L M:List Int,L.length=16→M.length=16→(Iv .u32 L).size=(Iv .u32 M).size):=fun L M hL hM=>by rw[aC,aC,hL,hM]
 go_enter func102,ntmps102
 go_wp2
 go_loopw [3] (fun r wr=>∃k:Nat,k≤10∧r=.int .i64 k∧aB wr w.heap.size .u32 (bK l k) 177∧aB wr (w.heap.size+1) .u32 (rQ 16 0) 177∧Below w.heap.size w wr) (fun r _=>10 - (intOf r).toNat)
 case atStart=>
  obtain⟨W,hW,h0,h1,hs,hb⟩:=kG w (.cells (Iv .u32 l) 177) (.cells (Iv .u32 (rQ 16 0)) 177)
  subst hW
  exact⟨0,by omega,rfl,h0,h1,hb⟩
 case round=>
  obtain⟨k,hk,rfl,hg,hg1,hbel⟩:=hrel
  by_cases hlt:k<10
  ·obtain⟨WX,rfl⟩:∃X,X=wr:=⟨_,rfl⟩
   go_wp2
   have hdec:decide ((k:Int)<10)=true:=by simp;omega
   simp only[hdec]
   clear hdec
   go_loopw [4] (fun r wr=>∃j:Nat,j≤8∧r=.int .i64 j∧aB wr w.heap.size .u32 (tV (bK l k) j) 177∧aB wr (w.heap.size+1) .u32 (rQ 16 0) 177∧Below w.heap.size w wr) (fun r _=>8 - (intOf r).toNat)
   case atStart=>exact⟨0,by omega,rfl,hg,hg1,hbel⟩
   case round=>
    obtain⟨j,hj,rfl,Z1,Z2,Z3⟩:=hrel
    clear hg hg1 hbel
    by_cases hltj:j<8
    ·obtain⟨l0,l1,l2,l3⟩:=YK j hltj
     obtain⟨b0,b1,b1',b2,b2',b3,b3'⟩:=YJ j hltj
     have HL:Hid (tV (bK l k) (j+1)=gX (tV (bK l k) j) (q0 j) (q1 j) (q2 j) (q3 j)):=rfl
     have hLl:(tV (bK l k) j).length=16:=by rw[qE,gF,hl]
     have hLa:bC (tV (bK l k) j):=AX (pM h k) j
     generalize tV (bK l k) j=L at*
     have hM:(gX L (q0 j) (q1 j) (q2 j) (q3 j)).length=16:=by rw[sD,hLl]
     have HQ:Hid (∀W,Calls prog 118 #[.agg (Iv .u32 L),.int .i64 (q0 j),.int .i64 (q1 j),.int .i64 (q2 j),.int .i64 (q3 j)] W fun e w'=>e=.returned (.agg (Iv .u32 (gX L (q0 j) (q1 j) (q2 j) (q3 j))))∧Below W.heap.size W w'):=fun W=>FC L _ _ _ _ W hLl hLa l0 l1 l2 l3 (by omega) (by omega) (by omega) (by omega) (by omega) (by omega)
     have HC:Hid (∀W,Calls prog 116 #[.int .i64 j] W fun e w'=>e=.returned (.tuple #[.int .i64 (q0 j),.int .i64 (q1 j),.int .i64 (q2 j),.int .i64 (q3 j)])∧w'=W):=fun W=>SS j hltj W
     generalize q0 j=p0 at*
     generalize q1 j=p1 at*
     generalize q2 j=p2 at*
     generalize q3 j=p3 at*
     clear b0 b1 b1' b2 b2' b3 b3' hLa l0 l1 l2 l3
     have HI1:=HI.out L hLl
     have HI1':Hid (_=_):=HI1
     clear HI1
     go_wp2_with fail
     refine(HC.out _).mono ?_
     rintro e w1 ⟨rfl,rfl⟩
     go_wp2_with(refine wpLr rfl 177 _ rfl w.heap.size rfl _ (Iv .u32 L) _ _ Z1 underlying177 rfl HI1'.out ?_)
     refine(HQ.out _).mono ?_
     rintro e w2 ⟨rfl,hb2⟩
     have Y1:=Z1.below hb2 Z1.lt
     have Y2:=Z2.below hb2 Z2.lt
     have Y3:Below w.heap.size w w2:=Z3.trans (hb2.mono Z3.size)
     clear Z1 Z2 Z3 hb2 HC HQ
     have HI2:Hid ((prog.info? 177).map (·.size)=some (Iv .u32 (gX L p0 p1 p2 p3)).size):=HI.out _ hM
     have HZ2:Hid ((Iv .u32 L).size=(Iv .u32 (gX L p0 p1 p2 p3)).size):=HZ.out _ _ hLl hM
     have X1:Hid (aB (w2.setRow w.heap.size (Iv .u32 (gX L p0 p1 p2 p3))) w.heap.size .u32 (gX L p0 p1 p2 p3) 177):=Y1.put _ 0
     have X2:Hid (aB (w2.setRow w.heap.size (Iv .u32 (gX L p0 p1 p2 p3))) (w.heap.size+1) .u32 (rQ 16 0) 177):=Y2.far _ _ (by omega) 0
     have X3:Hid (Below w.heap.size w (w2.setRow w.heap.size (Iv .u32 (gX L p0 p1 p2 p3)))):=aO Y3 _ (nQ _) _
     go_wp2_with(refine wpList_store_row rfl 177 _ _ rfl w.heap.size (Iv .u32 (gX L p0 p1 p2 p3)) rfl rfl _ _ Y1 HI2.out HZ2.out (aH _ _) ?_)
     go_roundw
     case rel=>exact⟨j+1,by omega,by go_num,by rw[HL.out];exact X1.out,X2.out,X3.out⟩
     case measure=>simp[intOf];omega
    ·obtain rfl:j=8:=by omega
     go_wp2
     go_roundw
     case rel=>exact⟨k+1,by omega,by go_num,Z1,Z2,Z3⟩
     case measure=>simp[intOf];omega
  ·obtain rfl:k=10:=by omega
   have hL:(bK l 10).length=16:=by rw[gF,hl]
   have HI2:Hid ((prog.info? 177).map (·.size)=some (Iv .u32 (bK l 10)).size):=HI.out _ hL
   have HZ2:Hid ((Iv .u32 (rQ 16 0)).size=(Iv .u32 (bK l 10)).size):=HZ.out _ _ (by simp) hL
   go_wp2_with(first|refine wpLr rfl 177 _ rfl w.heap.size rfl _ (Iv .u32 (bK l 10)) _ _ hg underlying177 rfl HI2.out ?_ |refine wpList_store_row rfl 177 _ _ rfl (w.heap.size+1) (Iv .u32 (bK l 10)) rfl rfl _ _ hg1 HI2.out HZ2.out (aH _ _) ?_)
   refine oG (cs:=Iv .u32 (bK l 10)) results102 ?_ (setRow_heap _ _ _ _ _ _ hg1) underlying177 HI2.out ?_
   ·rfl
   ·exact⟨rfl,aO hbel _ (by omega) _⟩
theorem PN:(prog.info? 177).map (·.size)=some 16:=by kernel_rfl
theorem XG:(prog.info? 22).map (·.size)=some 32:=by kernel_rfl
def SH:Oper:={ dst:=some 14,op:=Op.load 22 (Operand.tmp 3),type:=22,pos:= "l2_aead.go:48",after:=#[],guard:=none }
def SI:Oper:={ dst:=some 15,op:=Op.move (Operand.tmp 1),type:=23,pos:= "l2_aead.go:48",after:=#[],guard:=none }
def OA:Oper:={ dst:=some 16,op:=Op.buildSlice 102 1 #[(0,Operand.tmp 15)],type:=102,pos:= "l2_aead.go:48",after:=#[{ on:=1,ground:=Ground.data }],guard:=none }
def SJ:Oper:={ dst:=some 17,op:=Op.slice 24 (Operand.tmp 5) none none none,type:=48,pos:= "l2_aead.go:48",after:=#[],guard:=none }
def OB:Oper:={ dst:=some 18,op:=Op.call { callee:=Callee.value (Operand.func 49),args:=#[Operand.tmp 17,Operand.const (Value.int IntKind.i64 3)],argTypes:=#[48,3] },type:=102,pos:= "l2_aead.go:48",after:=#[{ on:=3,ground:=Ground.data }],guard:=none }
def LR:Oper:={ dst:=some 19,op:=Op.call { callee:=Callee.builtin Builtin.append,args:=#[Operand.tmp 16,Operand.tmp 18],argTypes:=#[102,102] },type:=102,pos:= "l2_aead.go:48",after:=#[{ on:=2,ground:=Ground.data },{ on:=4,ground:=Ground.data },{ on:=4,ground:=Ground.chain }],guard:=none }
def LS:Oper:={ dst:=some 20,op:=Op.call { callee:=Callee.value (Operand.func 101),args:=#[Operand.tmp 14,Operand.tmp 19],argTypes:=#[22,102] },type:=177,pos:= "l2_aead.go:48",after:=#[{ on:=0,ground:=Ground.data },{ on:=5,ground:=Ground.data },{ on:=5,ground:=Ground.chain }],guard:=none }
def SM:Oper:={ dst:=some 7,op:=Op.alloc 177,type:=0,pos:= "l2_aead.go:48",after:=#[],guard:=none }
def JL:Oper:={ dst:=none,op:=Op.store 177 (Operand.tmp 7) (Operand.tmp 20),type:=0,pos:= "l2_aead.go:48",after:=#[{ on:=7,ground:=Ground.data },{ on:=6,ground:=Ground.data },{ on:=6,ground:=Ground.chain },{ on:=0,ground:=Ground.phase },{ on:=1,ground:=Ground.phase },{ on:=2,ground:=Ground.phase },{ on:=3,ground:=Ground.phase },{ on:=4,ground:=Ground.phase },{ on:=5,ground:=Ground.phase },{ on:=6,ground:=Ground.phase },{ on:=7,ground:=Ground.phase }],guard:=none }
def nV:Array Oper:=#[SH,SI,OA,SJ,OB,LR,LS,SM,JL]
def GJ (key nonce:List Int) (counter:Int) (b:Nat) (x7 x14 x15 x16 x17 x18 x19 x20:Value):Act:=
 { tmps:=#[.agg (Iv .u8 key),.int .u32 counter,.agg (Iv .u8 nonce),.pointer (some ⟨b,0,none⟩),undef,.pointer (some ⟨b+1,0,none⟩),.pointer (some ⟨b+1+1,0,none⟩),x7,undef,undef,undef,undef,undef,undef,x14,x15,x16,x17,x18,x19,x20,undef,undef,undef,undef,undef,undef,undef,undef,undef,undef,undef,undef,undef,undef,undef,undef,undef,undef,undef,undef,undef,undef,undef,undef,undef,undef,undef,undef,undef,undef,undef],defers:=[] }
def Lb (listed:Array Bool) (i:Nat):Bool:=listed.getD i false
theorem aQ {listed:Array Bool} {i j:Nat} (h:i≠j):Lb (listed.setIfInBounds i true) j=Lb listed j:=getD_set_ne false h
theorem jV {listed:Array Bool} {i:Nat} (h:i<listed.size):Lb (listed.setIfInBounds i true) i=true:=by simp[Lb,h]
def kX (key:List Int) (counter:Int) (ws:List Int):List Int:=pF9 (pF9 kL 4 (aF key) 8) 12 (aK (counter::ws)) 4
structure vK (key nonce:List Int) (counter:Int) (b:Nat) (W:World) (ws:List Int) (listed:Array Bool) (w:World) (x7 x14 x15 x16 x17 x18 x19 x20:Value):Prop where
 size:listed.size=9
 bel:Below W.heap.size W w
 p0:Lb listed 0=true→x14=.agg (Iv .u8 key)
 p1:Lb listed 1=true→x15=.int .u32 counter
 p3:Lb listed 3=true→x17=.slice (some ⟨b+1,0,none⟩) 12 12
 p2:Lb listed 2=true→Lb listed 5=true∨bX .u32 23 W.heap.size w x16 [counter]
 p4:Lb listed 4=true→Lb listed 5=true∨bX .u32 23 W.heap.size w x18 ws
 p5:Lb listed 5=true→Lb listed 6=true∨bX .u32 23 W.heap.size w x19 (counter::ws)
 p6:Lb listed 6=true→x20=.agg (Iv .u32 (kX key counter ws))
 p8:Lb listed 8=true→Lb listed 7=true
 p7:Lb listed 7=true→∃g,x7=.pointer (some ⟨g,0,none⟩)∧W.heap.size≤g∧w.heap[g]? =some (.cells (Iv .u32 (if Lb listed 8 then kX key counter ws else aA 16)) 177)∧(Lb listed 2=true→Lb listed 5=true∨x16.ownBlock≠some g)
def qI (key nonce:List Int) (counter:Int) (b:Nat) (W:World) (ws:List Int) (listed:Array Bool) (a:Act) (w:World):Prop:=
 ∃x7 x14 x15 x16 x17 x18 x19 x20,a=GJ key nonce counter b x7 x14 x15 x16 x17 x18 x19 x20∧vK key nonce counter b W ws listed w x7 x14 x15 x16 x17 x18 x19 x20
theorem jY {listed:Array Bool} (hs:listed.size=9) (hr:Region.ready .any nV listed=[]) {i:Nat} (o:Oper) (ho:nV[i]? =some o) (hi:i<9) (hdep:∀e∈o.after,Lb listed e.on=true):Lb listed i=true:=by
 cases hb:Lb listed i with
 | true=>rfl
 | false=>
   have h1:listed.getD i true=false:=by
    have hlt:i<listed.size:=by omega
    simp only[Lb,Array.getD,hlt,dif_pos]at hb⊢
    exact hb
   have:i∈Region.ready .any nV listed:=mem_ready.2 ⟨h1,o,ho,fun e he _=>hdep e he⟩
   rw[hr]at this
   cases this
theorem WY {listed:Array Bool} (hs:listed.size=9) (hr:Region.ready .any nV listed=[]):Lb listed 7=true∧Lb listed 8=true:=by
 have l0:=jY hs hr (i:=0) SH rfl (by omega) (by unfold SH;simp only[List.mem_toArray,nY,false_implies,implies_true])
 have l1:=jY hs hr (i:=1) SI rfl (by omega) (by unfold SI;simp only[List.mem_toArray,nY,false_implies,implies_true])
 have l3:=jY hs hr (i:=3) SJ rfl (by omega) (by unfold SJ;simp only[List.mem_toArray,nY,false_implies,implies_true])
 have l7:=jY hs hr (i:=7) SM rfl (by omega) (by unfold SM;simp only[List.mem_toArray,nY,false_implies,implies_true])
 have l2:=jY hs hr (i:=2) OA rfl (by omega) (by unfold OA;simp only[List.mem_toArray,List.mem_cons,nY,or_false,forall_eq,l1])
 have l4:=jY hs hr (i:=4) OB rfl (by omega) (by unfold OB;simp only[List.mem_toArray,List.mem_cons,nY,or_false,forall_eq,l3])
 have l5:=jY hs hr (i:=5) LR rfl (by omega) (by unfold LR;simp only[List.mem_toArray,List.mem_cons,nY,or_false,forall_eq_or_imp,forall_eq,l2,l4,and_self])
 have l6:=jY hs hr (i:=6) LS rfl (by omega) (by unfold LS;simp only[List.mem_toArray,List.mem_cons,nY,or_false,forall_eq_or_imp,forall_eq,l0,l5,and_self])
 have l8:=jY hs hr (i:=8) JL rfl (by omega) (by unfold JL;simp only[List.mem_toArray,List.mem_cons,nY,or_false,forall_eq_or_imp,forall_eq,l0,l1,l2,l3,l4,l5,l6,l7,and_self])
 exact⟨l7,l8⟩
theorem oI {listed:Array Bool} {i:Nat} (h:i∈Region.ready .any nV listed) (o:Oper) (ho:nV[i]? =some o):listed.getD i true=false∧∀e∈o.after,Region.binds .any e=true→Lb listed e.on=true:=by
 obtain⟨h1,o',ho',hd⟩:=mem_ready.1 h
 rw[ho]at ho'
 cases ho'
 exact⟨h1,hd⟩
theorem rT {listed:Array Bool} {i:Nat} (h:listed.getD i true=false):i<listed.size∧Lb listed i=false:=by
 have hlt:i<listed.size:=by
  rcases Nat.lt_or_ge i listed.size with h1|h1
  ·exact h1
  ·simp[Array.getD,Nat.not_lt.2 h1]at h
 refine⟨hlt,?_⟩
 simp only[Lb,Array.getD,hlt,dif_pos]at h⊢
 exact h
end Go.Proofs.YtgcepckaolkeoaaGreatDoor
