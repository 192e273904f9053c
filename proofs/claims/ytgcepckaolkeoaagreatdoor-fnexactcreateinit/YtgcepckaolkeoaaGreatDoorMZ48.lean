import Derived.Test.YtgcepckaolkeoaaGreatDoorMZ10
namespace Go.Proofs.YtgcepckaolkeoaaGreatDoor
open Go.RowKit
open Go.Proofs.Tryz
open Go renaming wpList_load_row → wpLr
open Go.World renaming size_alloc → wU
open List renaming length_map → lU, replicate → rQ
set_option linter.unusedVariables false
set_option maxHeartbeats 1000000 in
theorem vO (l:List Int) (hl:l.length=16) (w:World):
 Calls prog 69 #[.agg (Iv .u8 l),.agg (Iv .u8 l)] w fun e w'=>e=.returned (.bool true)∧Below w.heap.size w w':=by
 go_enter func69,ntmps69
 go_wp2
 go_loopw [5] (fun i wr=>∃k d:Nat,k≤16∧i=.int .i64 k∧wr=((w.alloc (.cells (Iv .u8 l) 27)).alloc (.cells (Iv .u8 l) 27)).drewN d) (fun i _=>16 - (intOf i).toNat)
 case atStart=>exact⟨0,0,Nat.zero_le _,rfl,rfl⟩
 case round=>
  obtain⟨k,d,hk,rfl,rfl⟩:=hrel
  by_cases hlt:k<16
  ·have hc:=cT .u8 l k (by omega)
   go_wp2
   go_quiet (fail)
   go_wp2
   go_roundw
   case rel=>exact⟨k+1,d+nq,by omega,by go_num,rfl⟩
   case measure=>simp[intOf];omega
  ·go_wp2
   go_ret
   exact⟨rfl,bDr (((Below.refl _ _).alloc (by simp) _).alloc (by simp) _) d⟩
set_option maxHeartbeats 1000000 in
theorem EU (l:List Int) (hl:l.length=28) (w:World):
 Calls prog 68 #[.agg (Iv .u8 l),.agg (Iv .u8 l)] w fun e w'=>e=.returned (.bool true)∧Below w.heap.size w w':=by
 go_enter func68,ntmps68
 go_wp2
 go_loopw [5] (fun i wr=>∃k d:Nat,k≤28∧i=.int .i64 k∧wr=((w.alloc (.cells (Iv .u8 l) 26)).alloc (.cells (Iv .u8 l) 26)).drewN d) (fun i _=>28 - (intOf i).toNat)
 case atStart=>exact⟨0,0,Nat.zero_le _,rfl,rfl⟩
 case round=>
  obtain⟨k,d,hk,rfl,rfl⟩:=hrel
  by_cases hlt:k<28
  ·have hc:=cT .u8 l k (by omega)
   go_wp2
   go_quiet (fail)
   go_wp2
   go_roundw
   case rel=>exact⟨k+1,d+nq,by omega,by go_num,rfl⟩
   case measure=>simp[intOf];omega
  ·go_wp2
   go_ret
   exact⟨rfl,bDr (((Below.refl _ _).alloc (by simp) _).alloc (by simp) _) d⟩
set_option maxHeartbeats 1000000 in
theorem EW (l:List Int) (hl:l.length=48) (w:World):
 Calls prog 67 #[.agg (Iv .u8 l),.agg (Iv .u8 l)] w fun e w'=>e=.returned (.bool true)∧Below w.heap.size w w':=by
 go_enter func67,ntmps67
 go_wp2
 go_loopw [5] (fun i wr=>∃k d:Nat,k≤48∧i=.int .i64 k∧wr=((w.alloc (.cells (Iv .u8 l) 25)).alloc (.cells (Iv .u8 l) 25)).drewN d) (fun i _=>48 - (intOf i).toNat)
 case atStart=>exact⟨0,0,Nat.zero_le _,rfl,rfl⟩
 case round=>
  obtain⟨k,d,hk,rfl,rfl⟩:=hrel
  by_cases hlt:k<48
  ·have hc:=cT .u8 l k (by omega)
   go_wp2
   go_quiet (fail)
   go_wp2
   go_roundw
   case rel=>exact⟨k+1,d+nq,by omega,by go_num,rfl⟩
   case measure=>simp[intOf];omega
  ·go_wp2
   go_ret
   exact⟨rfl,bDr (((Below.refl _ _).alloc (by simp) _).alloc (by simp) _) d⟩
theorem CV:(prog.info? 27).map (·.size)=some 16:=by kernel_rfl
theorem NU:(prog.info? 26).map (·.size)=some 28:=by kernel_rfl
theorem NV:(prog.info? 22).map (·.size)=some 32:=by kernel_rfl
theorem NW:(prog.info? 25).map (·.size)=some 48:=by kernel_rfl
set_option maxRecDepth 10000 in
set_option maxHeartbeats 2000000 in
theorem yX (r:Int) (y:List Int) (hy:y.length=140) (w:World):
 Calls prog 35 #[.agg (WL r y).toArray,.agg (WL r y).toArray] w fun e w'=>e=.returned (.bool true)∧Below w.heap.size w w':=by
 have hr:(WL r y)[0]? =some (.int .u32 r):=rfl
 obtain⟨W,hW,k0,k1,hs,hb⟩:=kG w (.cells (WL r y).toArray 29) (.cells (WL r y).toArray 29)
 have K0:Hid (((w.alloc (.cells (WL r y).toArray 29)).alloc (.cells (WL r y).toArray 29)).heap[w.heap.size]? =some (.cells (WL r y).toArray 29)):=by show _=_;rw[hW];exact k0
 have K1:Hid (((w.alloc (.cells (WL r y).toArray 29)).alloc (.cells (WL r y).toArray 29)).heap[w.heap.size+1]? =some (.cells (WL r y).toArray 29)):=by show _=_;rw[hW];exact k1
 have KB:Hid (Below w.heap.size w ((w.alloc (.cells (WL r y).toArray 29)).alloc (.cells (WL r y).toArray 29))):=by show Below _ _ _;rw[hW];exact hb
 clear hW k0 k1 hs hb
 have hl0:Hid ((gY y 0 32).length=32):=lT y 0 32 140 hy (by omega)
 have hi0:Hid ((prog.info? 22).map (·.size)=some ((gY y 0 32).map (Value.int .u8)).length):=by show _=_;rw[lU,hl0.out];exact NV
 have hl1:Hid ((gY y 32 48).length=48):=lT y 32 48 140 hy (by omega)
 have hi1:Hid ((prog.info? 25).map (·.size)=some ((gY y 32 48).map (Value.int .u8)).length):=by show _=_;rw[lU,hl1.out];exact NW
 have hl2:Hid ((gY y 80 28).length=28):=lT y 80 28 140 hy (by omega)
 have hi2:Hid ((prog.info? 26).map (·.size)=some ((gY y 80 28).map (Value.int .u8)).length):=by show _=_;rw[lU,hl2.out];exact NU
 have hl3:Hid ((gY y 108 16).length=16):=lT y 108 16 140 hy (by omega)
 have hi3:Hid ((prog.info? 27).map (·.size)=some ((gY y 108 16).map (Value.int .u8)).length):=by show _=_;rw[lU,hl3.out];exact CV
 have hl4:Hid ((gY y 124 16).length=16):=lT y 124 16 140 hy (by omega)
 have hi4:Hid ((prog.info? 27).map (·.size)=some ((gY y 124 16).map (Value.int .u8)).length):=by show _=_;rw[lU,hl4.out];exact CV
 go_enter func35,ntmps35
 go_wp2_with(first
  | refine wpList_load_mid rfl 22 _ rfl w.heap.size 1 rfl ((gY y 0 32).map (Value.int .u8)) _ (iD K0.out 0 32) underlying22 rfl hi0.out ?_
  | refine wpList_load_mid rfl 22 _ rfl (w.heap.size+1) 1 rfl ((gY y 0 32).map (Value.int .u8)) _ (iD K1.out 0 32) underlying22 rfl hi0.out ?_)
 refine(qO (gY y 0 32) hl0.out _).mono ?_
 rintro e w0 ⟨rfl,hb0⟩
 have J0:Hid _:=(hb0.block _ (Array.getElem?_eq_some_iff.1 K0.out).1).trans K0.out
 have J1:Hid _:=(hb0.block _ (Array.getElem?_eq_some_iff.1 K1.out).1).trans K1.out
 have JB:Hid _:=KB.out.trans (hb0.mono KB.out.size)
 clear K0 K1 KB hb0 hl0 hi0
 have K0:Hid _:=J0.out
 have K1:Hid _:=J1.out
 have KB:Hid _:=JB.out
 clear J0 J1 JB
 go_wp2_with(first
  | refine wpList_load_mid rfl 25 _ rfl w.heap.size 33 rfl ((gY y 32 48).map (Value.int .u8)) _ (iD K0.out 32 48) underlying25 rfl hi1.out ?_
  | refine wpList_load_mid rfl 25 _ rfl (w.heap.size+1) 33 rfl ((gY y 32 48).map (Value.int .u8)) _ (iD K1.out 32 48) underlying25 rfl hi1.out ?_)
 refine(EW (gY y 32 48) hl1.out _).mono ?_
 rintro e w1 ⟨rfl,hb1⟩
 have J0:Hid _:=(hb1.block _ (Array.getElem?_eq_some_iff.1 K0.out).1).trans K0.out
 have J1:Hid _:=(hb1.block _ (Array.getElem?_eq_some_iff.1 K1.out).1).trans K1.out
 have JB:Hid _:=KB.out.trans (hb1.mono KB.out.size)
 clear K0 K1 KB hb1 hl1 hi1
 have K0:Hid _:=J0.out
 have K1:Hid _:=J1.out
 have KB:Hid _:=JB.out
 clear J0 J1 JB
 go_wp2_with(first
  | refine wpList_load_mid rfl 26 _ rfl w.heap.size 81 rfl ((gY y 80 28).map (Value.int .u8)) _ (iD K0.out 80 28) underlying26 rfl hi2.out ?_
  | refine wpList_load_mid rfl 26 _ rfl (w.heap.size+1) 81 rfl ((gY y 80 28).map (Value.int .u8)) _ (iD K1.out 80 28) underlying26 rfl hi2.out ?_)
 refine(EU (gY y 80 28) hl2.out _).mono ?_
 rintro e w2 ⟨rfl,hb2⟩
 have J0:Hid _:=(hb2.block _ (Array.getElem?_eq_some_iff.1 K0.out).1).trans K0.out
 have J1:Hid _:=(hb2.block _ (Array.getElem?_eq_some_iff.1 K1.out).1).trans K1.out
 have JB:Hid _:=KB.out.trans (hb2.mono KB.out.size)
 clear K0 K1 KB hb2 hl2 hi2
 have K0:Hid _:=J0.out
 have K1:Hid _:=J1.out
 have KB:Hid _:=JB.out
 clear J0 J1 JB
 go_wp2_with(first
  | refine wpList_load_mid rfl 27 _ rfl w.heap.size 109 rfl ((gY y 108 16).map (Value.int .u8)) _ (iD K0.out 108 16) underlying27 rfl hi3.out ?_
  | refine wpList_load_mid rfl 27 _ rfl (w.heap.size+1) 109 rfl ((gY y 108 16).map (Value.int .u8)) _ (iD K1.out 108 16) underlying27 rfl hi3.out ?_)
 refine(vO (gY y 108 16) hl3.out _).mono ?_
 rintro e w3 ⟨rfl,hb3⟩
 have J0:Hid _:=(hb3.block _ (Array.getElem?_eq_some_iff.1 K0.out).1).trans K0.out
 have J1:Hid _:=(hb3.block _ (Array.getElem?_eq_some_iff.1 K1.out).1).trans K1.out
 have JB:Hid _:=KB.out.trans (hb3.mono KB.out.size)
 clear K0 K1 KB hb3 hl3 hi3
 have K0:Hid _:=J0.out
 have K1:Hid _:=J1.out
 have KB:Hid _:=JB.out
 clear J0 J1 JB
 go_wp2_with(first
  | refine wpList_load_mid rfl 27 _ rfl w.heap.size 125 rfl ((gY y 124 16).map (Value.int .u8)) _ (iD K0.out 124 16) underlying27 rfl hi4.out ?_
  | refine wpList_load_mid rfl 27 _ rfl (w.heap.size+1) 125 rfl ((gY y 124 16).map (Value.int .u8)) _ (iD K1.out 124 16) underlying27 rfl hi4.out ?_)
 refine(vO (gY y 124 16) hl4.out _).mono ?_
 rintro e w4 ⟨rfl,hb4⟩
 have J0:Hid _:=(hb4.block _ (Array.getElem?_eq_some_iff.1 K0.out).1).trans K0.out
 have J1:Hid _:=(hb4.block _ (Array.getElem?_eq_some_iff.1 K1.out).1).trans K1.out
 have JB:Hid _:=KB.out.trans (hb4.mono KB.out.size)
 clear K0 K1 KB hb4 hl4 hi4
 have K0:Hid _:=J0.out
 have K1:Hid _:=J1.out
 have KB:Hid _:=JB.out
 clear J0 J1 JB
 go_wp2
 go_ret
 exact⟨rfl,KB.out⟩
theorem I8:(prog.info? 24).map (·.size)=some 12:=by kernel_rfl
set_option maxHeartbeats 1000000 in
theorem nE (l:List Int) (hl:l.length=12) (w:World):
 Calls prog 8 #[.agg (Iv .u8 l)] w fun e w'=>e=.returned (.agg (Iv .u8 l))∧Below w.heap.size w w':=by
 go_enter func8,ntmps8
 go_wp2
 go_loopw [4] (fun i wr=>∃k:Nat,k≤12∧i=.int .i64 k∧wr=((w.alloc (.cells (Iv .u8 l) 24)).alloc (.cells (Iv .u8 (rQ 12 0)) 24)).alloc (.cells (Iv .u8 (l.take k++rQ (12 - k) 0)) 24)) (fun i _=>12 - (intOf i).toNat)
 case atStart=>exact⟨0,Nat.zero_le _,rfl,rfl⟩
 case round=>
  obtain⟨k,hk,rfl,rfl⟩:=hrel
  by_cases hlt:k<12
  ·have hc:=cT .u8 l k (by omega)
   obtain⟨v,hv⟩:=lK .u8 (l.take k++rQ (12 - k) 0) k (by simp;omega)
   go_wp2
   go_roundw
   case rel=>exact⟨k+1,by omega,by go_num,by rw[bR,uG l 12 k hl hlt];rfl⟩
   case measure=>simp[intOf];omega
  ·obtain rfl:k=12:=by omega
   rw[CH l 12 hl]
   have hg3:(((w.alloc (.cells (Iv .u8 l) 24)).alloc (.cells (Iv .u8 (rQ 12 0)) 24)).alloc (.cells (Iv .u8 l) 24)).heap[w.heap.size+1+1]? =some (.cells (Iv .u8 l) 24):=by simp only[cC,wU];simp
   have hg2:(((w.alloc (.cells (Iv .u8 l) 24)).alloc (.cells (Iv .u8 (rQ 12 0)) 24)).alloc (.cells (Iv .u8 l) 24)).heap[w.heap.size+1]? =some (.cells (Iv .u8 (rQ 12 0)) 24):=by simp only[cC,wU];simp
   have hb:Below w.heap.size w (((w.alloc (.cells (Iv .u8 l) 24)).alloc (.cells (Iv .u8 (rQ 12 0)) 24)).alloc (.cells (Iv .u8 l) 24)):=(((Below.refl _ _).alloc (by simp) _).alloc (by simp) _).alloc (by simp;omega) _
   generalize((w.alloc (.cells (Iv .u8 l) 24)).alloc (.cells (Iv .u8 (rQ 12 0)) 24)).alloc (.cells (Iv .u8 l) 24)=W at hg3 hg2 hb⊢
   go_wp2_with(first
    | refine wpLr rfl 24 _ rfl _ rfl _ (Iv .u8 l) _ _ hg3 underlying24 rfl (by rw[aC,hl];exact I8) ?_
    | refine wpList_store_row rfl 24 _ _ rfl _ (Iv .u8 l) rfl rfl _ _ hg2 (by rw[aC,hl];exact I8) (by simp[aC,hl]) (aH _ l) ?_)
   exact bodyPost_ret (v:=.agg (Iv .u8 l)) (results_cell_row rfl _ _ _ _ (Iv .u8 l) _ _ rfl (setRow_heap _ _ _ _ _ _ hg2) underlying24 rfl (by rw[aC,hl];exact I8)) rfl ⟨rfl,aO hb _ (by omega) _⟩
theorem I9:(prog.info? 22).map (·.size)=some 32:=by kernel_rfl
set_option maxHeartbeats 1000000 in
theorem bY (l:List Int) (hl:l.length=32) (w:World):
 Calls prog 7 #[.agg (Iv .u8 l)] w fun e w'=>e=.returned (.agg (Iv .u8 l))∧Below w.heap.size w w':=by
 go_enter func7,ntmps7
 go_wp2
 go_loopw [4] (fun i wr=>∃k:Nat,k≤32∧i=.int .i64 k∧wr=((w.alloc (.cells (Iv .u8 l) 22)).alloc (.cells (Iv .u8 (rQ 32 0)) 22)).alloc (.cells (Iv .u8 (l.take k++rQ (32 - k) 0)) 22)) (fun i _=>32 - (intOf i).toNat)
 case atStart=>exact⟨0,Nat.zero_le _,rfl,rfl⟩
 case round=>
  obtain⟨k,hk,rfl,rfl⟩:=hrel
  by_cases hlt:k<32
  ·have hc:=cT .u8 l k (by omega)
   obtain⟨v,hv⟩:=lK .u8 (l.take k++rQ (32 - k) 0) k (by simp;omega)
   go_wp2
   go_roundw
   case rel=>exact⟨k+1,by omega,by go_num,by rw[bR,uG l 32 k hl hlt];rfl⟩
   case measure=>simp[intOf];omega
  ·obtain rfl:k=32:=by omega
   rw[CH l 32 hl]
   have hg3:(((w.alloc (.cells (Iv .u8 l) 22)).alloc (.cells (Iv .u8 (rQ 32 0)) 22)).alloc (.cells (Iv .u8 l) 22)).heap[w.heap.size+1+1]? =some (.cells (Iv .u8 l) 22):=by simp only[cC,wU];simp
   have hg2:(((w.alloc (.cells (Iv .u8 l) 22)).alloc (.cells (Iv .u8 (rQ 32 0)) 22)).alloc (.cells (Iv .u8 l) 22)).heap[w.heap.size+1]? =some (.cells (Iv .u8 (rQ 32 0)) 22):=by simp only[cC,wU];simp
   have hb:Below w.heap.size w (((w.alloc (.cells (Iv .u8 l) 22)).alloc (.cells (Iv .u8 (rQ 32 0)) 22)).alloc (.cells (Iv .u8 l) 22)):=(((Below.refl _ _).alloc (by simp) _).alloc (by simp) _).alloc (by simp;omega) _
   generalize((w.alloc (.cells (Iv .u8 l) 22)).alloc (.cells (Iv .u8 (rQ 32 0)) 22)).alloc (.cells (Iv .u8 l) 22)=W at hg3 hg2 hb⊢
   go_wp2_with(first
    | refine wpLr rfl 22 _ rfl _ rfl _ (Iv .u8 l) _ _ hg3 underlying22 rfl (by rw[aC,hl];exact I9) ?_
    | refine wpList_store_row rfl 22 _ _ rfl _ (Iv .u8 l) rfl rfl _ _ hg2 (by rw[aC,hl];exact I9) (by simp[aC,hl]) (aH _ l) ?_)
   exact bodyPost_ret (v:=.agg (Iv .u8 l)) (results_cell_row rfl _ _ _ _ (Iv .u8 l) _ _ rfl (setRow_heap _ _ _ _ _ _ hg2) underlying22 rfl (by rw[aC,hl];exact I9)) rfl ⟨rfl,aO hb _ (by omega) _⟩
end Go.Proofs.YtgcepckaolkeoaaGreatDoor
