import Derived.Test.YtgcepckaolkeoaaGreatDoorMY28
namespace Go.Proofs.YtgcepckaolkeoaaGreatDoor
open Go.RowKit
open Go.Proofs.Tryz
open Go.ChangeShapes Go.WideShapes Go.ChangeAt Go.RowKit
open Go renaming wpList_load_row → wpLr, wpQuiet_nil → wqN
open Go.World renaming block_lt_of_cell? → wJ, size_alloc → wU
open List renaming length_append → lQ, length_map → lU, replicate → rQ
open Nat renaming le_refl → nQ, lt_of_lt_of_le → nJ
set_option linter.unusedVariables false
theorem DA:(prog.info? 25).map (·.size)=some 48:=by kernel_rfl
set_option maxHeartbeats 1000000 in
theorem IA (l:List Int) (hl:l.length=48) (w:World):
 Calls prog 40 #[.agg (Iv .u8 l)] w fun e w'=>e=.returned (.agg (Iv .u8 l))∧Below w.heap.size w w':=by
 go_enter func40,ntmps40
 go_wp2
 go_loopw [4] (fun i wr=>∃k:Nat,k≤48∧i=.int .i64 k∧wr=((w.alloc (.cells (Iv .u8 l) 25)).alloc (.cells (Iv .u8 (rQ 48 0)) 25)).alloc (.cells (Iv .u8 (l.take k++rQ (48 - k) 0)) 25)) (fun i _=>48 - (intOf i).toNat)
 case atStart=>exact⟨0,Nat.zero_le _,rfl,rfl⟩
 case round=>
  obtain⟨k,hk,rfl,rfl⟩:=hrel
  by_cases hlt:k<48
  ·have hc:=cN .u8 l k (by omega)
   obtain⟨v,hv⟩:=jW .u8 (l.take k++rQ (48 - k) 0) k (by simp;omega)
   go_wp2
   go_roundw
   case rel=>exact⟨k+1,by omega,by go_num,by rw[bN,qF l 48 k hl hlt];rfl⟩
   case measure=>simp[intOf];omega
  ·obtain rfl:k=48:=by omega
   rw[uG l 48 hl]
   have hg3:(((w.alloc (.cells (Iv .u8 l) 25)).alloc (.cells (Iv .u8 (rQ 48 0)) 25)).alloc (.cells (Iv .u8 l) 25)).heap[w.heap.size+1+1]? =some (.cells (Iv .u8 l) 25):=by simp only[bO,wU];simp
   have hg2:(((w.alloc (.cells (Iv .u8 l) 25)).alloc (.cells (Iv .u8 (rQ 48 0)) 25)).alloc (.cells (Iv .u8 l) 25)).heap[w.heap.size+1]? =some (.cells (Iv .u8 (rQ 48 0)) 25):=by simp only[bO,wU];simp
   have hb:Below w.heap.size w (((w.alloc (.cells (Iv .u8 l) 25)).alloc (.cells (Iv .u8 (rQ 48 0)) 25)).alloc (.cells (Iv .u8 l) 25)):=(((Below.refl _ _).alloc (by simp) _).alloc (by simp) _).alloc (by simp;omega) _
   generalize((w.alloc (.cells (Iv .u8 l) 25)).alloc (.cells (Iv .u8 (rQ 48 0)) 25)).alloc (.cells (Iv .u8 l) 25)=W at hg3 hg2 hb⊢
   go_wp2_with(first
    | refine wpLr rfl 25 _ rfl _ rfl _ (Iv .u8 l) _ _ hg3 underlying25 rfl (by rw[aD,hl];exact DA) ?_
    | refine wpList_store_row rfl 25 _ _ rfl _ (Iv .u8 l) rfl rfl _ _ hg2 (by rw[aD,hl];exact DA) (by simp[aD,hl]) (aG _ l) ?_)
   exact bodyPost_ret (v:=.agg (Iv .u8 l)) (results_cell_row rfl _ _ _ _ (Iv .u8 l) _ _ rfl (setRow_heap _ _ _ _ _ _ hg2) underlying25 rfl (by rw[aD,hl];exact DA)) rfl ⟨rfl,aM hb _ (by omega) _⟩
theorem CX:(prog.info? 26).map (·.size)=some 28:=by kernel_rfl
set_option maxHeartbeats 1000000 in
theorem H8 (l:List Int) (hl:l.length=28) (w:World):
 Calls prog 41 #[.agg (Iv .u8 l)] w fun e w'=>e=.returned (.agg (Iv .u8 l))∧Below w.heap.size w w':=by
 go_enter func41,ntmps41
 go_wp2
 go_loopw [4] (fun i wr=>∃k:Nat,k≤28∧i=.int .i64 k∧wr=((w.alloc (.cells (Iv .u8 l) 26)).alloc (.cells (Iv .u8 (rQ 28 0)) 26)).alloc (.cells (Iv .u8 (l.take k++rQ (28 - k) 0)) 26)) (fun i _=>28 - (intOf i).toNat)
 case atStart=>exact⟨0,Nat.zero_le _,rfl,rfl⟩
 case round=>
  obtain⟨k,hk,rfl,rfl⟩:=hrel
  by_cases hlt:k<28
  ·have hc:=cN .u8 l k (by omega)
   obtain⟨v,hv⟩:=jW .u8 (l.take k++rQ (28 - k) 0) k (by simp;omega)
   go_wp2
   go_roundw
   case rel=>exact⟨k+1,by omega,by go_num,by rw[bN,qF l 28 k hl hlt];rfl⟩
   case measure=>simp[intOf];omega
  ·obtain rfl:k=28:=by omega
   rw[uG l 28 hl]
   have hg3:(((w.alloc (.cells (Iv .u8 l) 26)).alloc (.cells (Iv .u8 (rQ 28 0)) 26)).alloc (.cells (Iv .u8 l) 26)).heap[w.heap.size+1+1]? =some (.cells (Iv .u8 l) 26):=by simp only[bO,wU];simp
   have hg2:(((w.alloc (.cells (Iv .u8 l) 26)).alloc (.cells (Iv .u8 (rQ 28 0)) 26)).alloc (.cells (Iv .u8 l) 26)).heap[w.heap.size+1]? =some (.cells (Iv .u8 (rQ 28 0)) 26):=by simp only[bO,wU];simp
   have hb:Below w.heap.size w (((w.alloc (.cells (Iv .u8 l) 26)).alloc (.cells (Iv .u8 (rQ 28 0)) 26)).alloc (.cells (Iv .u8 l) 26)):=(((Below.refl _ _).alloc (by simp) _).alloc (by simp) _).alloc (by simp;omega) _
   generalize((w.alloc (.cells (Iv .u8 l) 26)).alloc (.cells (Iv .u8 (rQ 28 0)) 26)).alloc (.cells (Iv .u8 l) 26)=W at hg3 hg2 hb⊢
   go_wp2_with(first
    | refine wpLr rfl 26 _ rfl _ rfl _ (Iv .u8 l) _ _ hg3 underlying26 rfl (by rw[aD,hl];exact CX) ?_
    | refine wpList_store_row rfl 26 _ _ rfl _ (Iv .u8 l) rfl rfl _ _ hg2 (by rw[aD,hl];exact CX) (by simp[aD,hl]) (aG _ l) ?_)
   exact bodyPost_ret (v:=.agg (Iv .u8 l)) (results_cell_row rfl _ _ _ _ (Iv .u8 l) _ _ rfl (setRow_heap _ _ _ _ _ _ hg2) underlying26 rfl (by rw[aD,hl];exact CX)) rfl ⟨rfl,aM hb _ (by omega) _⟩
theorem yX:(prog.info? 27).map (·.size)=some 16:=by kernel_rfl
set_option maxHeartbeats 1000000 in
theorem xG (l:List Int) (hl:l.length=16) (w:World):
 Calls prog 42 #[.agg (Iv .u8 l)] w fun e w'=>e=.returned (.agg (Iv .u8 l))∧Below w.heap.size w w':=by
 go_enter func42,ntmps42
 go_wp2
 go_loopw [4] (fun i wr=>∃k:Nat,k≤16∧i=.int .i64 k∧wr=((w.alloc (.cells (Iv .u8 l) 27)).alloc (.cells (Iv .u8 (rQ 16 0)) 27)).alloc (.cells (Iv .u8 (l.take k++rQ (16 - k) 0)) 27)) (fun i _=>16 - (intOf i).toNat)
 case atStart=>exact⟨0,Nat.zero_le _,rfl,rfl⟩
 case round=>
  obtain⟨k,hk,rfl,rfl⟩:=hrel
  by_cases hlt:k<16
  ·have hc:=cN .u8 l k (by omega)
   obtain⟨v,hv⟩:=jW .u8 (l.take k++rQ (16 - k) 0) k (by simp;omega)
   go_wp2
   go_roundw
   case rel=>exact⟨k+1,by omega,by go_num,by rw[bN,qF l 16 k hl hlt];rfl⟩
   case measure=>simp[intOf];omega
  ·obtain rfl:k=16:=by omega
   rw[uG l 16 hl]
   have hg3:(((w.alloc (.cells (Iv .u8 l) 27)).alloc (.cells (Iv .u8 (rQ 16 0)) 27)).alloc (.cells (Iv .u8 l) 27)).heap[w.heap.size+1+1]? =some (.cells (Iv .u8 l) 27):=by simp only[bO,wU];simp
   have hg2:(((w.alloc (.cells (Iv .u8 l) 27)).alloc (.cells (Iv .u8 (rQ 16 0)) 27)).alloc (.cells (Iv .u8 l) 27)).heap[w.heap.size+1]? =some (.cells (Iv .u8 (rQ 16 0)) 27):=by simp only[bO,wU];simp
   have hb:Below w.heap.size w (((w.alloc (.cells (Iv .u8 l) 27)).alloc (.cells (Iv .u8 (rQ 16 0)) 27)).alloc (.cells (Iv .u8 l) 27)):=(((Below.refl _ _).alloc (by simp) _).alloc (by simp) _).alloc (by simp;omega) _
   generalize((w.alloc (.cells (Iv .u8 l) 27)).alloc (.cells (Iv .u8 (rQ 16 0)) 27)).alloc (.cells (Iv .u8 l) 27)=W at hg3 hg2 hb⊢
   go_wp2_with(first
    | refine wpLr rfl 27 _ rfl _ rfl _ (Iv .u8 l) _ _ hg3 underlying27 rfl (by rw[aD,hl];exact yX) ?_
    | refine wpList_store_row rfl 27 _ _ rfl _ (Iv .u8 l) rfl rfl _ _ hg2 (by rw[aD,hl];exact yX) (by simp[aD,hl]) (aG _ l) ?_)
   exact bodyPost_ret (v:=.agg (Iv .u8 l)) (results_cell_row rfl _ _ _ _ (Iv .u8 l) _ _ rfl (setRow_heap _ _ _ _ _ _ hg2) underlying27 rfl (by rw[aD,hl];exact yX)) rfl ⟨rfl,aM hb _ (by omega) _⟩
theorem lZ:(prog.info? 29).map (·.size)=some 141:=by kernel_rfl
def dW (r:Int):List Value:=WL r (rQ 140 0)
set_option maxRecDepth 10000 in
set_option maxHeartbeats 2000000 in
theorem kE (r:Int) (z:List Int) (hz:z.length=140) (w:World):
 Calls prog 14 #[.agg (WL r z).toArray] w fun e w'=>e=.returned (.agg (WL r z).toArray)∧Below w.heap.size w w':=by
 have hr:=ZL r z
 have hzv:∀W,(zeroValue 29).run prog W=.ok (.agg (dW 0).toArray) W:=(zero_of_info (n:=141) (by kernel_rfl)).1
 have hz0:(dW 0).toArray[0]? =some (.int .u32 0):=rfl
 have Hy:Hid ((dW 0).set 0 (.int .u32 r)=dW r):=rfl
 have hsz:Hid ((WL r z).toArray.size=141):=by show _=_;rw[JZ,hz]
 have hi0:Hid ((prog.info? 22).map (·.size)=some ((cI z 0 32).map (Value.int .u8)).length):=by show _=_;rw[lU,bP z 0 32 140 hz (by omega)];exact CZ
 have hf0:Hid (1+((cI z 0 32).map (Value.int .u8)).length≤(WL r (aX z 140 0)).length):=by show _≤_;rw[lU,bP z 0 32 140 hz (by omega),rO,iW z 140 0 hz (by omega)];omega
 have hn0:Hid ((WL r (aX z 140 0)).take (0+1)++(cI z 0 32).map (Value.int .u8)++(WL r (aX z 140 0)).drop (0+1+((cI z 0 32).map (Value.int .u8)).length)=WL r (aX z 140 (0+32))):=pJ r z 140 0 32 hz (by omega)
 have hl0:Hid ((cI z 0 32).length=32):=bP z 0 32 140 hz (by omega)
 have hi32:Hid ((prog.info? 25).map (·.size)=some ((cI z 32 48).map (Value.int .u8)).length):=by show _=_;rw[lU,bP z 32 48 140 hz (by omega)];exact DA
 have hf32:Hid (33+((cI z 32 48).map (Value.int .u8)).length≤(WL r (aX z 140 32)).length):=by show _≤_;rw[lU,bP z 32 48 140 hz (by omega),rO,iW z 140 32 hz (by omega)];omega
 have hn32:Hid ((WL r (aX z 140 32)).take (32+1)++(cI z 32 48).map (Value.int .u8)++(WL r (aX z 140 32)).drop (32+1+((cI z 32 48).map (Value.int .u8)).length)=WL r (aX z 140 (32+48))):=pJ r z 140 32 48 hz (by omega)
 have hl32:Hid ((cI z 32 48).length=48):=bP z 32 48 140 hz (by omega)
 have hi80:Hid ((prog.info? 26).map (·.size)=some ((cI z 80 28).map (Value.int .u8)).length):=by show _=_;rw[lU,bP z 80 28 140 hz (by omega)];exact CX
 have hf80:Hid (81+((cI z 80 28).map (Value.int .u8)).length≤(WL r (aX z 140 80)).length):=by show _≤_;rw[lU,bP z 80 28 140 hz (by omega),rO,iW z 140 80 hz (by omega)];omega
 have hn80:Hid ((WL r (aX z 140 80)).take (80+1)++(cI z 80 28).map (Value.int .u8)++(WL r (aX z 140 80)).drop (80+1+((cI z 80 28).map (Value.int .u8)).length)=WL r (aX z 140 (80+28))):=pJ r z 140 80 28 hz (by omega)
 have hl80:Hid ((cI z 80 28).length=28):=bP z 80 28 140 hz (by omega)
 have hi108:Hid ((prog.info? 27).map (·.size)=some ((cI z 108 16).map (Value.int .u8)).length):=by show _=_;rw[lU,bP z 108 16 140 hz (by omega)];exact yX
 have hf108:Hid (109+((cI z 108 16).map (Value.int .u8)).length≤(WL r (aX z 140 108)).length):=by show _≤_;rw[lU,bP z 108 16 140 hz (by omega),rO,iW z 140 108 hz (by omega)];omega
 have hn108:Hid ((WL r (aX z 140 108)).take (108+1)++(cI z 108 16).map (Value.int .u8)++(WL r (aX z 140 108)).drop (108+1+((cI z 108 16).map (Value.int .u8)).length)=WL r (aX z 140 (108+16))):=pJ r z 140 108 16 hz (by omega)
 have hl108:Hid ((cI z 108 16).length=16):=bP z 108 16 140 hz (by omega)
 have hi124:Hid ((prog.info? 27).map (·.size)=some ((cI z 124 16).map (Value.int .u8)).length):=by show _=_;rw[lU,bP z 124 16 140 hz (by omega)];exact yX
 have hf124:Hid (125+((cI z 124 16).map (Value.int .u8)).length≤(WL r (aX z 140 124)).length):=by show _≤_;rw[lU,bP z 124 16 140 hz (by omega),rO,iW z 140 124 hz (by omega)];omega
 have hn124:Hid ((WL r (aX z 140 124)).take (124+1)++(cI z 124 16).map (Value.int .u8)++(WL r (aX z 140 124)).drop (124+1+((cI z 124 16).map (Value.int .u8)).length)=WL r (aX z 140 (124+16))):=pJ r z 140 124 16 hz (by omega)
 have hl124:Hid ((cI z 124 16).length=16):=bP z 124 16 140 hz (by omega)
 go_enter func14,ntmps14
 go_wp2_with(refine wpList_load_mid rfl 22 _ rfl w.heap.size 1 rfl ((cI z 0 32).map (Value.int .u8)) _ ?hc underlying22 rfl hi0.out ?_)
 case hc=>
  refine gG (r:=r) (t:=38) (fr:=(0,0)) ?_ 0 32
  simp only[bO,wU];(repeat(first|rw[if_neg (by omega)]|rw[if_pos (by omega)]));try rfl
 rw[Hy.out]
 obtain⟨W,hW,h0,h1,h2,hs,hb⟩:=oF w (.cells (WL r z).toArray 38) (.cells (dW 0).toArray 29) (.cells (dW r).toArray 29)
 rw[hW]
 clear hW
 rw[show dW r=WL r (aX z 140 0)from WJ r z 140]at h2
 refine(dQ (cI z 0 32) hl0.out _).mono ?_
 rintro e w01 ⟨rfl,hb0⟩
 have k2:Hid _:=(hb0.block _ (by omega)).trans h2
 replace h0:=(hb0.block _ (by omega)).trans h0
 replace h1:=(hb0.block _ (by omega)).trans h1
 replace hs:w.heap.size+1+1<w01.heap.size:=by have:=hb0.size;omega
 replace hb:=hb.trans (hb0.mono hb.size)
 clear hb0 h2
 go_wp2_with(refine wpPp rfl 22 _ _ rfl (w.heap.size+1+1) 1 ((cI z 0 32).map (Value.int .u8)) rfl rfl (WL r (aX z 140 0)) 29 k2.out (WL r (aX z 140 (0+32))) hi0.out hf0.out (uS _) hn0.out ?_)
 intro w02 hP0
 have h2:=hP0.here
 replace h0:=(hP0.far _ (by omega)).trans h0
 replace h1:=(hP0.far _ (by omega)).trans h1
 replace hs:w.heap.size+1+1<w02.heap.size:=by rw[hP0.size];exact hs
 replace hb:=hP0.below _ _ hb (by omega)
 clear hP0 k2
 have H0:Hid _:=h0
 have H1:Hid _:=h1
 clear h0 h1
 have h0:=H0.out
 have h1:=H1.out
 clear H0 H1
 go_wp2_with(refine wpList_load_mid rfl 25 _ rfl w.heap.size 33 rfl ((cI z 32 48).map (Value.int .u8)) _ ?hc underlying25 rfl hi32.out ?_)
 case hc=>exact gG h0 32 48
 refine(IA (cI z 32 48) hl32.out _).mono ?_
 rintro e w11 ⟨rfl,hb1⟩
 have k2:Hid _:=(hb1.block _ (by omega)).trans h2
 replace h0:=(hb1.block _ (by omega)).trans h0
 replace h1:=(hb1.block _ (by omega)).trans h1
 replace hs:w.heap.size+1+1<w11.heap.size:=by have:=hb1.size;omega
 replace hb:=hb.trans (hb1.mono hb.size)
 clear hb1 h2
 go_wp2_with(refine wpPp rfl 25 _ _ rfl (w.heap.size+1+1) 33 ((cI z 32 48).map (Value.int .u8)) rfl rfl (WL r (aX z 140 32)) 29 k2.out (WL r (aX z 140 (32+48))) hi32.out hf32.out (uS _) hn32.out ?_)
 intro w12 hP1
 have h2:=hP1.here
 replace h0:=(hP1.far _ (by omega)).trans h0
 replace h1:=(hP1.far _ (by omega)).trans h1
 replace hs:w.heap.size+1+1<w12.heap.size:=by rw[hP1.size];exact hs
 replace hb:=hP1.below _ _ hb (by omega)
 clear hP1 k2
 have H0:Hid _:=h0
 have H1:Hid _:=h1
 clear h0 h1
 have h0:=H0.out
 have h1:=H1.out
 clear H0 H1
 go_wp2_with(refine wpList_load_mid rfl 26 _ rfl w.heap.size 81 rfl ((cI z 80 28).map (Value.int .u8)) _ ?hc underlying26 rfl hi80.out ?_)
 case hc=>exact gG h0 80 28
 refine(H8 (cI z 80 28) hl80.out _).mono ?_
 rintro e w21 ⟨rfl,hb2⟩
 have k2:Hid _:=(hb2.block _ (by omega)).trans h2
 replace h0:=(hb2.block _ (by omega)).trans h0
 replace h1:=(hb2.block _ (by omega)).trans h1
 replace hs:w.heap.size+1+1<w21.heap.size:=by have:=hb2.size;omega
 replace hb:=hb.trans (hb2.mono hb.size)
 clear hb2 h2
 go_wp2_with(refine wpPp rfl 26 _ _ rfl (w.heap.size+1+1) 81 ((cI z 80 28).map (Value.int .u8)) rfl rfl (WL r (aX z 140 80)) 29 k2.out (WL r (aX z 140 (80+28))) hi80.out hf80.out (uS _) hn80.out ?_)
 intro w22 hP2
 have h2:=hP2.here
 replace h0:=(hP2.far _ (by omega)).trans h0
 replace h1:=(hP2.far _ (by omega)).trans h1
 replace hs:w.heap.size+1+1<w22.heap.size:=by rw[hP2.size];exact hs
 replace hb:=hP2.below _ _ hb (by omega)
 clear hP2 k2
 have H0:Hid _:=h0
 have H1:Hid _:=h1
 clear h0 h1
 have h0:=H0.out
 have h1:=H1.out
 clear H0 H1
 go_wp2_with(refine wpList_load_mid rfl 27 _ rfl w.heap.size 109 rfl ((cI z 108 16).map (Value.int .u8)) _ ?hc underlying27 rfl hi108.out ?_)
 case hc=>exact gG h0 108 16
 refine(xG (cI z 108 16) hl108.out _).mono ?_
 rintro e w31 ⟨rfl,hb3⟩
 have k2:Hid _:=(hb3.block _ (by omega)).trans h2
 replace h0:=(hb3.block _ (by omega)).trans h0
 replace h1:=(hb3.block _ (by omega)).trans h1
 replace hs:w.heap.size+1+1<w31.heap.size:=by have:=hb3.size;omega
 replace hb:=hb.trans (hb3.mono hb.size)
 clear hb3 h2
 go_wp2_with(refine wpPp rfl 27 _ _ rfl (w.heap.size+1+1) 109 ((cI z 108 16).map (Value.int .u8)) rfl rfl (WL r (aX z 140 108)) 29 k2.out (WL r (aX z 140 (108+16))) hi108.out hf108.out (uS _) hn108.out ?_)
 intro w32 hP3
 have h2:=hP3.here
 replace h0:=(hP3.far _ (by omega)).trans h0
 replace h1:=(hP3.far _ (by omega)).trans h1
 replace hs:w.heap.size+1+1<w32.heap.size:=by rw[hP3.size];exact hs
 replace hb:=hP3.below _ _ hb (by omega)
 clear hP3 k2
 have H0:Hid _:=h0
 have H1:Hid _:=h1
 clear h0 h1
 have h0:=H0.out
 have h1:=H1.out
 clear H0 H1
 go_wp2_with(refine wpList_load_mid rfl 27 _ rfl w.heap.size 125 rfl ((cI z 124 16).map (Value.int .u8)) _ ?hc underlying27 rfl hi124.out ?_)
 case hc=>exact gG h0 124 16
 refine(xG (cI z 124 16) hl124.out _).mono ?_
 rintro e w41 ⟨rfl,hb4⟩
 have k2:Hid _:=(hb4.block _ (by omega)).trans h2
 replace h0:=(hb4.block _ (by omega)).trans h0
 replace h1:=(hb4.block _ (by omega)).trans h1
 replace hs:w.heap.size+1+1<w41.heap.size:=by have:=hb4.size;omega
 replace hb:=hb.trans (hb4.mono hb.size)
 clear hb4 h2
 go_wp2_with(refine wpPp rfl 27 _ _ rfl (w.heap.size+1+1) 125 ((cI z 124 16).map (Value.int .u8)) rfl rfl (WL r (aX z 140 124)) 29 k2.out (WL r (aX z 140 (124+16))) hi124.out hf124.out (uS _) hn124.out ?_)
 intro w42 hP4
 have h2:=hP4.here
 replace h0:=(hP4.far _ (by omega)).trans h0
 replace h1:=(hP4.far _ (by omega)).trans h1
 replace hs:w.heap.size+1+1<w42.heap.size:=by rw[hP4.size];exact hs
 replace hb:=hP4.below _ _ hb (by omega)
 clear hP4 k2
 rw[zY z 140 hz]at h2
 have G2:Hid _:=h2
 have G1:Hid _:=h1
 have HB:Hid _:=hb
 clear h0 h1 h2 hb
 go_wp2_with(first
  | refine wpLr rfl 29 _ rfl (w.heap.size+1+1) rfl _ (WL r z).toArray _ _ G2.out underlying29 rfl ?hi ?_
  | refine wpPr rfl 29 _ _ rfl (w.heap.size+1) (WL r z).toArray rfl rfl _ _ G1.out ?hi2 ?hs ?h1 ?_)
 case hi=>rw[hsz.out];exact lZ
 case hi2=>rw[hsz.out];exact lZ
 case hs=>rw[hsz.out];rfl
 case h1=>exact abW r z
 intro W3 hP3
 go_wp2
 exact bodyPost_ret (v:=.agg (WL r z).toArray) (results_cell_row rfl _ _ _ _ (WL r z).toArray _ _ rfl hP3.here underlying29 rfl (by rw[hsz.out];exact lZ)) rfl ⟨rfl,hP3.below _ _ HB.out (by omega)⟩
set_option maxHeartbeats 1000000 in
theorem GM (l:List Int) (hl:l.length=12) (w:World):
 Calls prog 44 #[.agg (Iv .u8 l),.agg (Iv .u8 l)] w fun e w'=>e=.returned (.bool true)∧Below w.heap.size w w':=by
 go_enter func44,ntmps44
 go_wp2
 go_loopw [5] (fun i wr=>∃k d:Nat,k≤12∧i=.int .i64 k∧wr=((w.alloc (.cells (Iv .u8 l) 24)).alloc (.cells (Iv .u8 l) 24)).drewN d) (fun i _=>12 - (intOf i).toNat)
 case atStart=>exact⟨0,0,Nat.zero_le _,rfl,rfl⟩
 case round=>
  obtain⟨k,d,hk,rfl,rfl⟩:=hrel
  by_cases hlt:k<12
  ·have hc:=cN .u8 l k (by omega)
   go_wp2
   go_quiet (fail)
   go_wp2
   go_roundw
   case rel=>exact⟨k+1,d+nq,by omega,by go_num,rfl⟩
   case measure=>simp[intOf];omega
  ·go_wp2
   go_ret
   exact⟨rfl,bDr (((Below.refl _ _).alloc (by simp) _).alloc (by simp) _) d⟩
theorem ad9 {W:World} {b:Nat} {t:TypeId} {fr:Nat×Nat} {k who:Int} {st c h:List Int} {m:Int} (hr:W.heap[b]? =some (.cells (kN k who st c h m).toArray t fr)):W.cell? ⟨b,0,none⟩=some (.int .i64 k):=by
 rw[cell_of_row _ _ _ _ _ _ hr,List.getElem?_toArray]
 rfl
theorem aeC {W:World} {b:Nat} {t:TypeId} {fr:Nat×Nat} {k who:Int} {st c h:List Int} {m:Int} (hr:W.heap[b]? =some (.cells (kN k who st c h m).toArray t fr)):W.cell? ⟨b,1,none⟩=some (.int .i64 who):=by
 rw[cell_of_row _ _ _ _ _ _ hr,List.getElem?_toArray]
 rfl
theorem aeA {W:World} {b:Nat} {t:TypeId} {fr:Nat×Nat} {k who:Int} {st c h:List Int} {m:Int} (hr:W.heap[b]? =some (.cells (kN k who st c h m).toArray t fr)) (hs:st.length=12) (hc:c.length=32) (hh:h.length=32):W.cell? ⟨b,78,none⟩=some (.int .i64 m):=by
 rw[cell_of_row _ _ _ _ _ _ hr,List.getElem?_toArray]
 show(fK st++(fK c++(fK h++[Value.int .i64 m])))[76]? =_
 rw[List.getElem?_append_right (by rw[aU,hs];decide),aU,hs,List.getElem?_append_right (by rw[aU,hc];decide),aU,hc,List.getElem?_append_right (by rw[aU,hh];decide),aU,hh]
 rfl
theorem aeB {W:World} {b:Nat} {t:TypeId} {fr:Nat×Nat} {k who:Int} {st c h:List Int} {m:Int} (hr:W.heap[b]? =some (.cells (kN k who st c h m).toArray t fr)) (hs:st.length=12):W.rangeAt b 2 (fK st):=by
 have:=fE hr 2 12
 have e:((kN k who st c h m).drop 2).take 12=fK st:=by
  show(fK st++_).take 12=_
  rw[show 12=(fK st).length by rw[aU,hs]]
  exact List.take_left
 rwa[e]at this
theorem ad7 {W:World} {b:Nat} {t:TypeId} {fr:Nat×Nat} {k who:Int} {st c h:List Int} {m:Int} (hr:W.heap[b]? =some (.cells (kN k who st c h m).toArray t fr)) (hs:st.length=12) (hc:c.length=32):W.rangeAt b 14 (fK c):=by
 have:=fE hr 14 32
 have e:((kN k who st c h m).drop 14).take 32=fK c:=by
  show((fK st++(fK c++_)).drop 12).take 32=_
  rw[List.drop_left' (by rw[aU,hs]),show 32=(fK c).length by rw[aU,hc]]
  exact List.take_left
 rwa[e]at this
theorem ad8 {W:World} {b:Nat} {t:TypeId} {fr:Nat×Nat} {k who:Int} {st c h:List Int} {m:Int} (hr:W.heap[b]? =some (.cells (kN k who st c h m).toArray t fr)) (hs:st.length=12) (hc:c.length=32) (hh:h.length=32):W.rangeAt b 46 (fK h):=by
 have:=fE hr 46 32
 have e:((kN k who st c h m).drop 46).take 32=fK h:=by
  show((fK st++(fK c++(fK h++_))).drop (12+32)).take 32=_
  rw[←List.drop_drop,List.drop_left' (by rw[aU,hs]),List.drop_left' (by rw[aU,hc]),show 32=(fK h).length by rw[aU,hh]]
  exact List.take_left
 rwa[e]at this
theorem RS {l:List Int} (h:l.length=12):(prog.info? 24).map (·.size)=some (fK l).length:=by rw[aU,h];kernel_rfl
set_option maxRecDepth 10000 in
set_option maxHeartbeats 2000000 in
theorem DY (k who:Int) (st c h:List Int) (m:Int) (hs:st.length=12) (hc:c.length=32) (hh:h.length=32) (w:World):
 Calls prog 16 #[.agg (kN k who st c h m).toArray,.agg (kN k who st c h m).toArray] w fun e w'=>e=.returned (.bool true)∧Below w.heap.size w w':=by
 have hl:Hid (st.length=12∧c.length=32∧h.length=32):=⟨hs,hc,hh⟩
 have F0:=((Rn.start w).alloc' w.heap.size rfl (kN k who st c h m).toArray 41).alloc' (w.heap.size+1) (by simp only[wU]) (kN k who st c h m).toArray 41
 obtain⟨n0,e0⟩:∃n,w.heap.size=n:=⟨_,rfl⟩
 rw[e0]at F0
 obtain⟨W,hW⟩:∃W,(w.alloc (.cells (kN k who st c h m).toArray 41)).alloc (.cells (kN k who st c h m).toArray 41)=W:=⟨_,rfl⟩
 rw[hW]at F0
 have F:Hid _:=F0
 clear hs hc hh F0
 have q1:=ad9 (F.out.at (.tail _ (.head _)))
 have q2:=ad9 (F.out.at (.head _))
 have q3:=aeC (F.out.at (.tail _ (.head _)))
 have q4:=aeC (F.out.at (.head _))
 have hz1:Hid _:=aeB (F.out.at (.tail _ (.head _))) hl.out.1
 have hz2:Hid _:=aeB (F.out.at (.head _)) hl.out.1
 go_enter func16,ntmps16
 go_wp2_with(first
  | refine wpList_load_mid rfl 24 _ rfl n0 2 rfl (fK st) _ hz1.out underlying24 rfl (RS hl.out.1) ?_
  | refine wpList_load_mid rfl 24 _ rfl (n0+1) 2 rfl (fK st) _ hz2.out underlying24 rfl (RS hl.out.1) ?_)
 clear q1 q2 q3 q4 hW e0
 refine(GM st hl.out.1 W).mono ?_
 rintro e W1 ⟨rfl,hb⟩
 have F1:Hid _:=F.out.later hb (nQ _)
 clear hb F hz1 hz2
 have hz1:Hid _:=ad7 (F1.out.at (.tail _ (.head _))) hl.out.1 hl.out.2.1
 have hz2:Hid _:=ad7 (F1.out.at (.head _)) hl.out.1 hl.out.2.1
 go_wp2_with(first
  | refine wpList_load_mid rfl 22 _ rfl n0 14 rfl (fK c) _ hz1.out underlying22 rfl (eM hl.out.2.1) ?_
  | refine wpList_load_mid rfl 22 _ rfl (n0+1) 14 rfl (fK c) _ hz2.out underlying22 rfl (eM hl.out.2.1) ?_)
 refine(rB c hl.out.2.1 W1).mono ?_
 rintro e W2 ⟨rfl,hb⟩
 have F2:Hid _:=F1.out.later hb (nQ _)
 clear hb F1 hz1 hz2
 have hz1:Hid _:=ad8 (F2.out.at (.tail _ (.head _))) hl.out.1 hl.out.2.1 hl.out.2.2
 have hz2:Hid _:=ad8 (F2.out.at (.head _)) hl.out.1 hl.out.2.1 hl.out.2.2
 go_wp2_with(first
  | refine wpList_load_mid rfl 22 _ rfl n0 46 rfl (fK h) _ hz1.out underlying22 rfl (eM hl.out.2.2) ?_
  | refine wpList_load_mid rfl 22 _ rfl (n0+1) 46 rfl (fK h) _ hz2.out underlying22 rfl (eM hl.out.2.2) ?_)
 refine(rB h hl.out.2.2 W2).mono ?_
 rintro e W3 ⟨rfl,hb⟩
 have F3:Hid _:=F2.out.later hb (nQ _)
 clear hb F2 hz1 hz2
 have q3:=aeA (F3.out.at (.tail _ (.head _))) hl.out.1 hl.out.2.1 hl.out.2.2
 have q4:=aeA (F3.out.at (.head _)) hl.out.1 hl.out.2.1 hl.out.2.2
 have HB:Hid _:=F3.out.bel
 clear F3
 go_wp2
 go_ret
 exact⟨rfl,HB.out⟩
theorem OZ (H1 X H2 Y p1 k1 s p2 k2 C3 H3 st L:List Int) (n:Nat) (m1 m2:Int) (h1:st.length=12) (h2:C3.length=32) (h3:H3.length=32):∃k who st' c h m,qU H1 X H2 Y p1 k1 s p2 k2 C3 H3 st L n m1 m2=kN k who st' c h m∧st'.length=12∧c.length=32∧h.length=32:=by
 unfold qU
 split
 ·exact⟨_,_,_,_,_,_,rfl,rfl,rfl,rfl⟩
 ·split
  ·split
   ·exact⟨_,_,_,_,_,_,rfl,rfl,rfl,rfl⟩
   ·split
    ·exact⟨_,_,_,_,_,_,rfl,rfl,rfl,rfl⟩
    ·split
     ·exact⟨_,_,_,_,_,_,rfl,h1,h2,h3⟩
     ·exact⟨_,_,_,_,_,_,rfl,rfl,rfl,rfl⟩
  ·exact⟨_,_,_,_,_,_,rfl,rfl,rfl,rfl⟩
abbrev QE (g:Nat) (s:Int) (z:List Int):Nat×Array Value×TypeId:=(g,(WL s z).toArray,38)
theorem XV {r:Int} {z:List Int} (h:z.length=140):(prog.info? 38).map (·.size)=some (WL r z).toArray.size:=by rw[JZ,h];kernel_rfl
theorem DT (l pu z:List Int) (m r:Int) (a:Option Addr) (n cap:Nat) (hn:1048576<n) (hc:n≤9223372036854775807) (w:World):
 Calls prog 4 #[.agg (Iv .u8 l),.agg (Iv .u8 pu),.slice a n cap,.agg (WL r z).toArray,.int .i64 m] w fun x w'=>x=.returned (.bool true)∧Below w.heap.size w w':=by
 have hb:Hid (Below w.heap.size w (((w.alloc (.cells (Iv .u8 l) 22)).alloc (.cells (Iv .u8 pu) 22)).alloc (.cells (WL r z).toArray 38))):=(((Below.refl _ _).alloc (nQ _) _).alloc (by simp) _).alloc (by simp;omega) _
 go_enter func4,ntmps4
 go_wp2_with fail
 refine(QP a n cap hn hc _).mono ?_
 rintro e w1 ⟨rfl,rfl⟩
 go_wp2
 go_ret
 exact⟨rfl,hb.out⟩
set_option maxRecDepth 10000 in
set_option maxHeartbeats 4000000 in
theorem DU {pu l z:List Int} {m:Int} {e X Y C1 H1 p1 k1 C2 H2 s p2 k2 C3 H3 st:List Int} {m1 m2:Int} (K:kT FU (CV pu) l z m e X Y C1 H1 p1 k1 C2 H2 s p2 k2 C3 H3 st m1 m2) (hpl:pu.length=32) (hpb:aE pu) (r:Int) (L:List Int) (n:Nat) (hL:L.length=n*32) (hLb:aE L) (hn:n≤1048576) (a:Option Addr) (cap:Nat) (w:World) (hS:n=0∨∃g o,a=some ⟨g,o,none⟩∧Sl w g o L) (ht:dR w) (he:lO w) (hw4:3<w.heap.size):
 Calls prog 4 #[.agg (Iv .u8 l),.agg (Iv .u8 pu),.slice a n cap,.agg (WL r z).toArray,.int .i64 m] w fun x w'=>x=.returned (.bool true)∧Below w.heap.size w w':=by
 have CA:Hid (∀(W:World) (g c:Nat) (hS:Sl W g 0 L),_):=fun W g c hS=>CU K hpl hpb r L n hL hLb hn g c W hS
 have CB:Hid (∀(W:World) (g c:Nat) (hS:Sl W g 0 L) (ht:dR W) (he:lO W) (h4:3<W.heap.size),_):=fun W g c hS ht he h4=>BV K hpl hpb r L n hL hn g c W hS ht he h4
 have hK:Hid (kT FU (CV pu) l z m e X Y C1 H1 p1 k1 C2 H2 s p2 k2 C3 H3 st m1 m2):=K
 obtain⟨ko,who,st',c,h,mm,eV,hz,hc,hh⟩:=OZ H1 X H2 Y p1 k1 s p2 k2 C3 H3 st L n m1 m2 K.lst K.lC3 K.lH3
 rw[eV]at CA CB
 have CT:Hid (∀(W:World) (hb:Below w.heap.size w W),_):=fun W hb=>FX L n hL hn a cap W (hS.imp id (fun⟨g,o,ea,q⟩=>⟨g,o,ea,Sl.later q hb q.1⟩))
 have CE:Hid (∀(W:World) (g1 g2:Nat) (h1:Sl W g1 0 L) (h2:Sl W g2 0 L),_):=fun W g1 g2 h1 h2=>PA L n hL hn g1 n g2 n W h1 h2
 have hl:Hid (st'.length=12∧c.length=32∧h.length=32):=⟨hz,hc,hh⟩
 have HPL:Hid _:=hpl
 have HT:Hid (dR w):=ht
 have HE:Hid (lO w):=he
 have H4:Hid (3<w.heap.size):=hw4
 have HN:Hid (n≤1048576):=hn
 clear K ht he hw4 eV hz hc hh hpl hpb hL hLb hn hS
 have hzc:=QW
 have F0:=(((Rn.start w).alloc' w.heap.size (by first|rfl|simp only[wU]) (Iv .u8 l) 22).alloc' (w.heap.size+1) (by first|rfl|simp only[wU]) (Iv .u8 pu) 22).alloc' (w.heap.size+1+1) (by first|rfl|simp only[wU]) (WL r z).toArray 38
 go_enter func4,ntmps4
 go_wp2_with fail
 refine(V9 a n cap HN.out _).mono ?_
 rintro e w1 ⟨rfl,rfl⟩
 have hn0:¬1048576 - (n:Int)<0:=by have:=HN.out;omega
 go_wp2_with fail
 clear hn0
 obtain⟨n0,e0⟩:∃n,w.heap.size=n:=⟨_,rfl⟩
 rw[e0]at F0⊢
 obtain⟨W,hW⟩:∃W,((w.alloc (.cells (Iv .u8 l) 22)).alloc (.cells (Iv .u8 pu) 22)).alloc (.cells (WL r z).toArray 38)=W:=⟨_,rfl⟩
 rw[hW]at F0⊢
 have S:Hid _:=(Sp.of F0).drew
 have E0:Hid _:=e0
 clear hW F0 e0
 refine wRt 11 (fun w'=>∃x:Wp (fun v=>Sp w [QE (n0+1+1) r z,bB (n0+1) pu,bB n0 l] [] v),w'=x.w) (.held [0,2,4,6,8] (.fork 1 (.fork 3 (.fork 5 (.fork 7 (.fork 9 (.tail 10 (.last 11 .done)) 10 (.tail 9 (.last 11 .done))) 10 (.tail 7 (.tail 9 (.last 11 .done)))) 10 (.tail 5 (.tail 7 (.tail 9 (.last 11 .done))))) 10 (.tail 3 (.tail 5 (.tail 7 (.tail 9 (.last 11 .done)))))) 10 (.tail 1 (.tail 3 (.tail 5 (.tail 7 (.tail 9 (.last 11 .done)))))))) fH (by kernel_rfl) ⟨⟨_,S.out⟩,rfl⟩ ?_
 obtain⟨y0,ey⟩:∃y,y=W.drew:=⟨_,rfl⟩
 rw[←ey]at S⊢
 clear ey
 refine wTh ?_
 simp only[oS]
 refine wqLr rfl 22 _ rfl n0 rfl _ (Iv .u8 l) _ _ (fun w' hw'=>by obtain⟨⟨x,hx⟩,rfl⟩:=hw';exact hx.at (.tail _ (.tail _ (.head _)))) underlying22 rfl (aS hK.out.ll) ?_
 simp only[pS]
 refine wqLr rfl 22 _ rfl (n0+1) rfl _ (Iv .u8 pu) _ _ (fun w' hw'=>by obtain⟨⟨x,hx⟩,rfl⟩:=hw';exact hx.at (.tail _ (.head _))) underlying22 rfl (aS HPL.out) ?_
 simp only[pS]
 refine aB rfl (.slice a n cap) (fun w'=>by kernel_rfl) ?_
 simp only[pS]
 refine wqLr rfl 38 _ rfl (n0+1+1) rfl _ (WL r z).toArray _ _ (fun w' hw'=>by obtain⟨⟨x,hx⟩,rfl⟩:=hw';exact hx.at (.head _)) underlying38 rfl (XV hK.out.lz) ?_
 simp only[pS]
 refine aB rfl (.int .i64 m) (fun w'=>by kernel_rfl) ?_
 simp only[pS]
 refine wqN ?_
 apply tN (.last 11 .done) (fun g gK v'=>Sp w [mH g (fN 0 0),QE (n0+1+1) r z,bB (n0+1) pu,bB n0 l] [(gK,0,L)] v')
 intro h5
 apply tN (.tail 9 (.last 11 .done)) (fun g gK v'=>Sp w [mH g (fN 0 0),QE (n0+1+1) r z,bB (n0+1) pu,bB n0 l] [(gK,0,L)] v')
 intro h4
 apply tN (.tail 7 (.tail 9 (.last 11 .done))) (fun g gK v'=>Sp w [mH g (fN 0 0),QE (n0+1+1) r z,bB (n0+1) pu,bB n0 l] [(gK,0,L)] v')
 intro h3
 apply eI (.tail 5 (.tail 7 (.tail 9 (.last 11 .done)))) (fun g v'=>Sp w [mH g (fN 0 0),QE (n0+1+1) r z,bB (n0+1) pu,bB n0 l] [] v')
 intro h2
 apply eI (.tail 3 (.tail 5 (.tail 7 (.tail 9 (.last 11 .done))))) (fun g v'=>Sp w [mH g (fN 0 0),QE (n0+1+1) r z,bB (n0+1) pu,bB n0 l] [] v')
 intro h1
 apply eI (.tail 1 (.tail 3 (.tail 5 (.tail 7 (.tail 9 (.last 11 .done)))))) (fun g v'=>Sp w [mH g (fN 0 0),QE (n0+1+1) r z,bB (n0+1) pu,bB n0 l] [] v')
 intro h0
 ·refine wTf ?_ ?_
  ·simp only[oS]
   go_wp2_with fail
   refine(dQ l hK.out.ll y0).mono ?_
   rintro x y1 ⟨rfl,hb⟩
   have S0:Hid _:=S.out.later hb
   clear hb
   go_wp2_with fail
   refine⟨⟨⟨_,S0.out⟩,rfl⟩,?_⟩
   refine wTf ?_ ?_
   ·simp only[oS]
    go_wp2_with fail
    refine(dQ pu HPL.out y1).mono ?_
    rintro x y2 ⟨rfl,hb⟩
    have S1:Hid _:=S0.out.later hb
    clear hb
    go_wp2_with fail
    refine⟨⟨⟨_,S1.out⟩,rfl⟩,?_⟩
    refine wTf ?_ ?_
    ·simp only[oS]
     go_wp2_with fail
     refine(CT.out y2 S1.out.rn.bel).mono ?_
     rintro x y3 ⟨gK,rfl,hge,hs,hb⟩
     have S2:Hid _:=S1.out.gain hb hge hs
     clear hb hge hs
     go_wp2_with fail
     refine⟨⟨⟨_,S2.out.drop⟩,rfl⟩,?_⟩
     refine wTf ?_ ?_
     ·simp only[oS]
      go_wp2_with fail
      refine(kE r z hK.out.lz y3).mono ?_
      rintro x y4 ⟨rfl,hb⟩
      have S3:Hid _:=S2.out.later hb
      clear hb
      go_wp2_with fail
      refine⟨⟨⟨_,S3.out.drop⟩,rfl⟩,?_⟩
      refine wTf ?_ ?_
      ·simp only[oS]
       go_wp2_with fail
       refine(CA.out y4 gK n (S3.out.s (.head _))).mono ?_
       rintro x y5 ⟨rfl,hb⟩
       have S4:Hid _:=S3.out.later hb
       clear hb
       go_wp2_with fail
       refine⟨⟨⟨_,S4.out.drop⟩,rfl⟩,?_⟩
       refine wTt ?_
       simp only[oS]
       go_wp2_with fail
       have A:=S4.out.alloc _ rfl (fN 0 0).toArray 41
       refine⟨⟨⟨_,A.tail.drop⟩,rfl⟩,?_⟩
       obtain⟨g,eg⟩:∃g,g=y5.heap.size:=⟨_,rfl⟩
       rw[←eg]at A⊢
       exact h5.out g gK _ A
      ·simp only[oS]
       go_wp2_with fail
       have A:=S3.out.alloc _ rfl (fN 0 0).toArray 41
       refine⟨⟨⟨_,A.tail.drop⟩,rfl⟩,?_⟩
       obtain⟨g,eg⟩:∃g,g=y4.heap.size:=⟨_,rfl⟩
       rw[←eg]at A⊢
       exact h4.out g gK _ A
     ·simp only[oS]
      go_wp2_with fail
      have A:=S2.out.alloc _ rfl (fN 0 0).toArray 41
      refine⟨⟨⟨_,A.tail.drop⟩,rfl⟩,?_⟩
      obtain⟨g,eg⟩:∃g,g=y3.heap.size:=⟨_,rfl⟩
      rw[←eg]at A⊢
      exact h3.out g gK _ A
    ·simp only[oS]
     go_wp2_with fail
     have A:=S1.out.alloc _ rfl (fN 0 0).toArray 41
     refine⟨⟨⟨_,A.tail⟩,rfl⟩,?_⟩
     obtain⟨g,eg⟩:∃g,g=y2.heap.size:=⟨_,rfl⟩
     rw[←eg]at A⊢
     exact h2.out g _ A
   ·simp only[oS]
    go_wp2_with fail
    have A:=S0.out.alloc _ rfl (fN 0 0).toArray 41
    refine⟨⟨⟨_,A.tail⟩,rfl⟩,?_⟩
    obtain⟨g,eg⟩:∃g,g=y1.heap.size:=⟨_,rfl⟩
    rw[←eg]at A⊢
    exact h1.out g _ A
  ·simp only[oS]
   go_wp2_with fail
   have A:=S.out.alloc _ rfl (fN 0 0).toArray 41
   refine⟨⟨⟨_,A.tail⟩,rfl⟩,?_⟩
   obtain⟨g,eg⟩:∃g,g=y0.heap.size:=⟨_,rfl⟩
   rw[←eg]at A⊢
   exact h0.out g _ A
 ·intro g v1 H0
  have H:Hid _:=H0
  clear H0 S
  refine wTt ?_
  simp only[oS]
  go_wp2_with fail
  refine(dQ l hK.out.ll v1).mono ?_
  rintro x v2 ⟨rfl,hb⟩
  have H2:Hid _:=H.out.later hb
  clear hb
  go_wp2_with fail
  refine⟨⟨⟨_,H2.out.tail⟩,rfl⟩,?_⟩
  exact h1.out g _ H2.out
 ·intro g v1 H0
  have H:Hid _:=H0
  clear H0 S
  refine wTt ?_
  simp only[oS]
  go_wp2_with fail
  refine(dQ pu HPL.out v1).mono ?_
  rintro x v2 ⟨rfl,hb⟩
  have H2:Hid _:=H.out.later hb
  clear hb
  go_wp2_with fail
  refine⟨⟨⟨_,H2.out.tail⟩,rfl⟩,?_⟩
  exact h2.out g _ H2.out
 ·intro g v1 H0
  have H:Hid _:=H0
  clear H0 S
  refine wTt ?_
  simp only[oS]
  go_wp2_with fail
  refine(CT.out v1 H.out.rn.bel).mono ?_
  rintro x v2 ⟨gK,rfl,hge,hs,hb⟩
  have H2:Hid _:=H.out.gain hb hge hs
  clear hb hge hs
  go_wp2_with fail
  refine⟨⟨⟨_,H2.out.tail.drop⟩,rfl⟩,?_⟩
  exact h3.out g gK _ H2.out
 ·intro g gK v1 H0
  have H:Hid _:=H0
  clear H0 S
  refine wTt ?_
  simp only[oS]
  go_wp2_with fail
  refine(kE r z hK.out.lz v1).mono ?_
  rintro x v2 ⟨rfl,hb⟩
  have H2:Hid _:=H.out.later hb
  clear hb
  go_wp2_with fail
  refine⟨⟨⟨_,H2.out.tail.drop⟩,rfl⟩,?_⟩
  exact h4.out g gK _ H2.out
 ·intro g gK v1 H0
  have H:Hid _:=H0
  clear H0 S
  refine wTt ?_
  simp only[oS]
  go_wp2_with fail
  refine(CA.out v1 gK n (H.out.s (.head _))).mono ?_
  rintro x v2 ⟨rfl,hb⟩
  have H2:Hid _:=H.out.later hb
  clear hb
  go_wp2_with fail
  refine⟨⟨⟨_,H2.out.tail.drop⟩,rfl⟩,?_⟩
  exact h5.out g gK _ H2.out
 intro g1 gK v1 H0
 have H:Hid _:=H0
 clear H0 S
 refine wTl ?_
 simp only[oS]
 go_wp2_with(refine wpPr rfl 41 _ _ rfl g1 (kN ko who st' c h mm).toArray rfl rfl _ _ (H.out.at (.head _)) (gT hl.out.1 hl.out.2.1 hl.out.2.2) (ZG hl.out.1 hl.out.2.1 hl.out.2.2) (lP _ _ _ _ _ _) ?_)
 intro u1 hP
 have F:Hid (Sp w [mH g1 (kN ko who st' c h mm),QE (n0+1+1) r z,bB (n0+1) pu,bB n0 l] [(gK,0,L)] u1):=H.out.put 0 rfl hP
 clear hP H CA
 refine bE ?_
 go_wp2_with fail
 refine(CT.out u1 F.out.rn.bel).mono ?_
 rintro x u2 ⟨gX,rfl,hge,hs,hb⟩
 have F2:Hid _:=F.out.drop.gain hb hge hs
 clear hb hge hs F
 go_wp2_with fail
 have S:Hid _:=F2.out.drew
 clear F2
 refine wRt 10 (fun w'=>∃x:Wp (fun v=>Sp w [mH g1 (kN ko who st' c h mm),QE (n0+1+1) r z,bB (n0+1) pu,bB n0 l] [(gX,0,L)] v),w'=x.w) (.held [0,2,4,5,7] (.fork 1 (.fork 3 (.fork 6 (.fork 8 (.tail 9 (.last 10 .done)) 9 (.tail 8 (.last 10 .done))) 9 (.tail 6 (.tail 8 (.last 10 .done)))) 9 (.tail 3 (.tail 6 (.tail 8 (.last 10 .done))))) 9 (.tail 1 (.tail 3 (.tail 6 (.tail 8 (.last 10 .done))))))) fH (by kernel_rfl) ⟨⟨_,S.out⟩,rfl⟩ ?_
 obtain⟨y0,ey⟩:∃y,y=u2.drew:=⟨_,rfl⟩
 rw[←ey]at S⊢
 clear ey
 refine wTh ?_
 simp only[oS]
 refine wqLr rfl 22 _ rfl n0 rfl _ (Iv .u8 l) _ _ (fun w' hw'=>by obtain⟨⟨x,hx⟩,rfl⟩:=hw';exact hx.at (.tail _ (.tail _ (.tail _ (.head _))))) underlying22 rfl (aS hK.out.ll) ?_
 simp only[pS]
 refine wqLr rfl 22 _ rfl (n0+1) rfl _ (Iv .u8 pu) _ _ (fun w' hw'=>by obtain⟨⟨x,hx⟩,rfl⟩:=hw';exact hx.at (.tail _ (.tail _ (.head _)))) underlying22 rfl (aS HPL.out) ?_
 simp only[pS]
 refine aB rfl (.slice (some ⟨gX,0,none⟩) n n) (fun w'=>by kernel_rfl) ?_
 simp only[pS]
 refine wqLr rfl 38 _ rfl (n0+1+1) rfl _ (WL r z).toArray _ _ (fun w' hw'=>by obtain⟨⟨x,hx⟩,rfl⟩:=hw';exact hx.at (.tail _ (.head _))) underlying38 rfl (XV hK.out.lz) ?_
 simp only[pS]
 refine aB rfl (.int .i64 m) (fun w'=>by kernel_rfl) ?_
 simp only[pS]
 refine wqN ?_
 apply eI (.last 10 .done) (fun g v'=>Sp w [mH g (fN 0 0),mH g1 (kN ko who st' c h mm),QE (n0+1+1) r z,bB (n0+1) pu,bB n0 l] [(gX,0,L)] v')
 intro h4
 apply eI (.tail 8 (.last 10 .done)) (fun g v'=>Sp w [mH g (fN 0 0),mH g1 (kN ko who st' c h mm),QE (n0+1+1) r z,bB (n0+1) pu,bB n0 l] [(gX,0,L)] v')
 intro h3
 apply eI (.tail 6 (.tail 8 (.last 10 .done))) (fun g v'=>Sp w [mH g (fN 0 0),mH g1 (kN ko who st' c h mm),QE (n0+1+1) r z,bB (n0+1) pu,bB n0 l] [(gX,0,L)] v')
 intro h2
 apply eI (.tail 3 (.tail 6 (.tail 8 (.last 10 .done)))) (fun g v'=>Sp w [mH g (fN 0 0),mH g1 (kN ko who st' c h mm),QE (n0+1+1) r z,bB (n0+1) pu,bB n0 l] [(gX,0,L)] v')
 intro h1
 apply eI (.tail 1 (.tail 3 (.tail 6 (.tail 8 (.last 10 .done))))) (fun g v'=>Sp w [mH g (fN 0 0),mH g1 (kN ko who st' c h mm),QE (n0+1+1) r z,bB (n0+1) pu,bB n0 l] [(gX,0,L)] v')
 intro h0
 ·refine wTf ?_ ?_
  ·simp only[oS]
   go_wp2_with fail
   refine(dQ l hK.out.ll y0).mono ?_
   rintro x y1 ⟨rfl,hb⟩
   have S0:Hid _:=S.out.later hb
   clear hb
   go_wp2_with fail
   refine⟨⟨⟨_,S0.out⟩,rfl⟩,?_⟩
   refine wTf ?_ ?_
   ·simp only[oS]
    go_wp2_with fail
    refine(dQ pu HPL.out y1).mono ?_
    rintro x y2 ⟨rfl,hb⟩
    have S1:Hid _:=S0.out.later hb
    clear hb
    go_wp2_with fail
    refine⟨⟨⟨_,S1.out⟩,rfl⟩,?_⟩
    refine wTf ?_ ?_
    ·simp only[oS]
     go_wp2_with fail
     refine(kE r z hK.out.lz y2).mono ?_
     rintro x y3 ⟨rfl,hb⟩
     have S2:Hid _:=S1.out.later hb
     clear hb
     go_wp2_with fail
     refine⟨⟨⟨_,S2.out⟩,rfl⟩,?_⟩
     refine wTf ?_ ?_
     ·simp only[oS]
      go_wp2_with fail
      refine(CB.out y3 gX n (S2.out.s (.head _)) (HT.out.later S2.out.rn.bel (nQ _)) (HE.out.later S2.out.rn.bel (nQ _)) (nJ H4.out S2.out.rn.bel.size)).mono ?_
      rintro x y4 ⟨rfl,hb⟩
      have S3:Hid _:=S2.out.later hb
      clear hb
      go_wp2_with fail
      refine⟨⟨⟨_,S3.out⟩,rfl⟩,?_⟩
      refine wTt ?_
      simp only[oS]
      go_wp2_with fail
      have A:=S3.out.alloc _ rfl (fN 0 0).toArray 41
      refine⟨⟨⟨_,A.tail⟩,rfl⟩,?_⟩
      obtain⟨g,eg⟩:∃g,g=y4.heap.size:=⟨_,rfl⟩
      rw[←eg]at A⊢
      exact h4.out g _ A
     ·simp only[oS]
      go_wp2_with fail
      have A:=S2.out.alloc _ rfl (fN 0 0).toArray 41
      refine⟨⟨⟨_,A.tail⟩,rfl⟩,?_⟩
      obtain⟨g,eg⟩:∃g,g=y3.heap.size:=⟨_,rfl⟩
      rw[←eg]at A⊢
      exact h3.out g _ A
    ·simp only[oS]
     go_wp2_with fail
     have A:=S1.out.alloc _ rfl (fN 0 0).toArray 41
     refine⟨⟨⟨_,A.tail⟩,rfl⟩,?_⟩
     obtain⟨g,eg⟩:∃g,g=y2.heap.size:=⟨_,rfl⟩
     rw[←eg]at A⊢
     exact h2.out g _ A
   ·simp only[oS]
    go_wp2_with fail
    have A:=S0.out.alloc _ rfl (fN 0 0).toArray 41
    refine⟨⟨⟨_,A.tail⟩,rfl⟩,?_⟩
    obtain⟨g,eg⟩:∃g,g=y1.heap.size:=⟨_,rfl⟩
    rw[←eg]at A⊢
    exact h1.out g _ A
  ·simp only[oS]
   go_wp2_with fail
   have A:=S.out.alloc _ rfl (fN 0 0).toArray 41
   refine⟨⟨⟨_,A.tail⟩,rfl⟩,?_⟩
   obtain⟨g,eg⟩:∃g,g=y0.heap.size:=⟨_,rfl⟩
   rw[←eg]at A⊢
   exact h0.out g _ A
 ·intro g v1 H0
  have H:Hid _:=H0
  clear H0 S
  refine wTt ?_
  simp only[oS]
  go_wp2_with fail
  refine(dQ l hK.out.ll v1).mono ?_
  rintro x v2 ⟨rfl,hb⟩
  have H2:Hid _:=H.out.later hb
  clear hb
  go_wp2_with fail
  refine⟨⟨⟨_,H2.out.tail⟩,rfl⟩,?_⟩
  exact h1.out g _ H2.out
 ·intro g v1 H0
  have H:Hid _:=H0
  clear H0 S
  refine wTt ?_
  simp only[oS]
  go_wp2_with fail
  refine(dQ pu HPL.out v1).mono ?_
  rintro x v2 ⟨rfl,hb⟩
  have H2:Hid _:=H.out.later hb
  clear hb
  go_wp2_with fail
  refine⟨⟨⟨_,H2.out.tail⟩,rfl⟩,?_⟩
  exact h2.out g _ H2.out
 ·intro g v1 H0
  have H:Hid _:=H0
  clear H0 S
  refine wTt ?_
  simp only[oS]
  go_wp2_with fail
  refine(kE r z hK.out.lz v1).mono ?_
  rintro x v2 ⟨rfl,hb⟩
  have H2:Hid _:=H.out.later hb
  clear hb
  go_wp2_with fail
  refine⟨⟨⟨_,H2.out.tail⟩,rfl⟩,?_⟩
  exact h3.out g _ H2.out
 ·intro g v1 H0
  have H:Hid _:=H0
  clear H0 S
  refine wTt ?_
  simp only[oS]
  go_wp2_with fail
  refine(CB.out v1 gX n (H.out.s (.head _)) (HT.out.later H.out.rn.bel (nQ _)) (HE.out.later H.out.rn.bel (nQ _)) (nJ H4.out H.out.rn.bel.size)).mono ?_
  rintro x v2 ⟨rfl,hb⟩
  have H2:Hid _:=H.out.later hb
  clear hb
  go_wp2_with fail
  refine⟨⟨⟨_,H2.out.tail⟩,rfl⟩,?_⟩
  exact h4.out g _ H2.out
 intro g2 v1 H0
 have H:Hid _:=H0
 clear H0 S
 refine wTl ?_
 simp only[oS]
 go_wp2_with(refine wpPr rfl 41 _ _ rfl g2 (kN ko who st' c h mm).toArray rfl rfl _ _ (H.out.at (.head _)) (gT hl.out.1 hl.out.2.1 hl.out.2.2) (ZG hl.out.1 hl.out.2.1 hl.out.2.2) (lP _ _ _ _ _ _) ?_)
 intro u2 hP
 have F:Hid (Sp w [mH g2 (kN ko who st' c h mm),mH g1 (kN ko who st' c h mm),QE (n0+1+1) r z,bB (n0+1) pu,bB n0 l] [(gX,0,L)] u2):=H.out.put 0 rfl hP
 clear hP H CB
 refine bE ?_
 go_wp2_with(first
  | refine wpLr rfl 41 _ rfl g2 rfl _ (kN ko who st' c h mm).toArray _ _ (F.out.at (.head _)) underlying41 rfl (gT hl.out.1 hl.out.2.1 hl.out.2.2) ?_
  | refine wpLr rfl 41 _ rfl g1 rfl _ (kN ko who st' c h mm).toArray _ _ (F.out.at (.tail _ (.head _))) underlying41 rfl (gT hl.out.1 hl.out.2.1 hl.out.2.2) ?_)
 refine(DY ko who st' c h mm hl.out.1 hl.out.2.1 hl.out.2.2 u2).mono ?_
 rintro x u3 ⟨rfl,hb⟩
 have F2:Hid _:=F.out.later hb
 clear hb F
 go_wp2_with fail
 refine(CT.out u3 F2.out.rn.bel).mono ?_
 rintro x u4 ⟨gY,rfl,hge,hs,hb⟩
 have F3:Hid _:=F2.out.gain hb hge hs
 clear hb hge hs F2
 go_wp2_with fail
 refine(CE.out u4 gX gY (F3.out.s (.tail _ (.head _))) (F3.out.s (.head _))).mono ?_
 rintro x u5 ⟨rfl,hb⟩
 have F4:Hid _:=F3.out.later hb
 clear hb F3
 go_wp2
 go_ret
 exact⟨rfl,F4.out.rn.bel⟩
theorem D5 (l pu z L:List Int) (r m:Int) (n:Nat) (hl:l.length=32) (hpu:pu.length=32) (hz:z.length=140) (hL:L.length=n*32) (bl:aE l) (bpu:aE pu) (bz:aE z) (bL:aE L) (a:Option Addr) (cap:Nat) (hc:n≤9223372036854775807) (w:World) (hS:n=0∨∃g o,a=some ⟨g,o,none⟩∧Sl w g o L) (ht:dR w) (hE:lO w) (hw4:3<w.heap.size):
 Calls prog 4 #[.agg (Iv .u8 l),.agg (Iv .u8 pu),.slice a n cap,.agg (WL r z).toArray,.int .i64 m] w fun x w'=>x=.returned (.bool true)∧Below w.heap.size w w':=by
 by_cases hn:n≤1048576
 ·exact DU (m:=m) ⟨bV _,bV _,hl,hz,dK _,dK _,bl,bz,rfl,rfl,rfl,rfl,rfl,rfl,rfl,rfl,rfl,rfl,rfl,rfl,rfl,rfl,rfl,rfl,rfl⟩ hpu bpu r L n hL bL hn a cap w hS ht hE hw4
 ·exact DT l pu z m r a n cap (by omega) hc w
theorem pI {H:Type} {enc:TypeId×Value→H} {P:Program} {w:World} {base n fuel:Nat} {spare:Nat→Bool} {held:Bool} {t e:TypeId} {k:IntKind} {cs:List Value} {x:DataW H×List MemPlace}
 (ht:P.underlying t=some (.array n e)) (he:P.underlying e=some (.int k)) (hce:P.cellsOf e=1) (hn:P.cellsOf t=n) (h:DataW.trod enc P w base spare held fuel t cs=some x):
 ∃l:List Int,cs=l.map (Value.int k)∧l.length=n∧∀i,i<n→(Lit.int k (l.getD i 0)).wf=true:=by
 obtain⟨xs,m,_,_,hlen,hxl,hx⟩:=DataW.trod_array ht h
 have hsize:cs.length=n:=by rw[←hn];exact hlen
 have hcell:∀i,i<n→∃a,cs[i]? =some (.int k a)∧(Lit.int k a).wf=true:=by
  intro i hi
  have h1:=hx i hi
  rw[hce,Nat.mul_one,List.getElem?_eq_getElem (show i<xs.length by omega)]at h1
  obtain⟨a,ea,_,wa⟩:=DataW.trod_int he h1
  have hd:(cs.drop i).take 1=[cs[i]'(by omega)]:=by
   rw[List.drop_eq_getElem_cons (show i<cs.length by omega)]
   rfl
  rw[hd]at ea
  simp only[List.cons.injEq,and_true]at ea
  exact⟨a,by rw[List.getElem?_eq_getElem (by omega),ea],wa⟩
 refine⟨cs.map IV,?_,by simp[hsize],?_⟩
 ·apply List.ext_getElem
  ·simp
  ·intro i h1 h2
   obtain⟨a,ha,_⟩:=hcell i (by omega)
   rw[List.getElem?_eq_getElem h1]at ha
   simp only[Option.some.injEq]at ha
   simp[ha,IV]
 ·intro i hi
  obtain⟨a,ha,wa⟩:=hcell i hi
  simp[ha,IV,wa]
theorem NL {H:Type} {enc:TypeId×Value→H} {P:Program} {w:World} {base b0:Nat} {spare:Nat→Bool} {held:Bool} {r:Reach} {t:TypeId} {fs:Array Field} {v:Value} {d:DataW H} {p:List MemPlace}
 (ht:P.underlying t=some (.struct fs)) (hv:Value.okWide P w r b0 t v) (h:DataW.Trod enc P w base spare held t v d p):
 ∃(cs:List Value) (xs:List (DataW H×List MemPlace)) (m:Nat),v=.agg cs.toArray∧cs.length=P.cellsOf t∧xs.length=fs.size∧
  ∀(i:Nat) (f:Field),fs[i]? =some f→DataW.trod enc P w base spare held m f.type ((cs.drop f.offset).take (P.cellsOf f.type))=xs[i]? :=by
 simp only[Value.okWide,ht]at hv
 obtain⟨cs,rfl,hsz,_⟩:=hv
 obtain⟨fuel,hf⟩:=h
 obtain⟨xs,m,_,_,hlen,hxl,hx⟩:=DataW.trod_struct ht hf
 simp only[Value.cells]at hlen hx
 exact⟨cs.toList,xs,m,by simp,hlen,hxl,hx⟩
theorem nD {α:Type} {o:Option α} {xs:List α} {i:Nat} (h:o=xs[i]?) (hi:i<xs.length):∃x,o=some x:=⟨xs[i],by rw[h,List.getElem?_eq_getElem hi]⟩
theorem pX (l:List Value) (a b:Nat):l.drop a=(l.drop a).take b++l.drop (a+b):=by
 rw[←List.drop_drop]
 exact(List.take_append_drop b (l.drop a)).symm
theorem VJ (l:List Value) (a b:Nat) (h:l.length=a+b):l.drop a=(l.drop a).take b:=by
 rw[List.take_of_length_le (by simp;omega)]
set_option maxRecDepth 10000 in
theorem CK {H:Type} {enc:TypeId×Value→H} {w:World} {base b0:Nat} {spare:Nat→Bool} {held:Bool} {r:Reach} {v:Value} {d:DataW H} {p:List MemPlace}
 (hv:Value.okWide prog w r b0 38 v) (h:DataW.Trod enc prog w base spare held 38 v d p):
 ∃(x:Int) (z:List Int),v=.agg (WL x z).toArray∧z.length=140∧aE z∧(Lit.int .u32 x).wf=true:=by
 obtain⟨cs,xs,m,rfl,hcl,hxl,hx⟩:=NL underlying38 hv h
 have hcN:cs.length=141:=hcl.trans (by kernel_rfl)
 have hxN:xs.length=6:=hxl
 obtain⟨x0,e0⟩:=nD (hx 0 _ rfl) (by omega)
 obtain⟨x1,e1⟩:=nD (hx 1 _ rfl) (by omega)
 obtain⟨x2,e2⟩:=nD (hx 2 _ rfl) (by omega)
 obtain⟨x3,e3⟩:=nD (hx 3 _ rfl) (by omega)
 obtain⟨x4,e4⟩:=nD (hx 4 _ rfl) (by omega)
 obtain⟨x5,e5⟩:=nD (hx 5 _ rfl) (by omega)
 obtain⟨q,c0,_,wq⟩:=DataW.trod_int underlying23 e0
 have k0:prog.cellsOf 23=1:=by kernel_rfl
 replace c0:(cs.drop 0).take (prog.cellsOf 23)=[.int .u32 q]:=c0
 rw[k0]at c0
 have s0:=pX cs 0 1
 rw[c0]at s0
 obtain⟨l1,c1,hl1,hw1⟩:=pI underlying22 underlying5 (by kernel_rfl) (by kernel_rfl) e1
 have k1:prog.cellsOf 22=32:=by kernel_rfl
 replace c1:(cs.drop 1).take (prog.cellsOf 22)=l1.map (Value.int .u8):=c1
 rw[k1]at c1
 have b1:aE l1:=nR (by rw[hl1];exact hw1)
 have s1:=pX cs 1 32
 rw[c1]at s1
 obtain⟨l2,c2,hl2,hw2⟩:=pI underlying25 underlying5 (by kernel_rfl) (by kernel_rfl) e2
 have k2:prog.cellsOf 25=48:=by kernel_rfl
 replace c2:(cs.drop 33).take (prog.cellsOf 25)=l2.map (Value.int .u8):=c2
 rw[k2]at c2
 have b2:aE l2:=nR (by rw[hl2];exact hw2)
 have s2:=pX cs 33 48
 rw[c2]at s2
 obtain⟨l3,c3,hl3,hw3⟩:=pI underlying26 underlying5 (by kernel_rfl) (by kernel_rfl) e3
 have k3:prog.cellsOf 26=28:=by kernel_rfl
 replace c3:(cs.drop 81).take (prog.cellsOf 26)=l3.map (Value.int .u8):=c3
 rw[k3]at c3
 have b3:aE l3:=nR (by rw[hl3];exact hw3)
 have s3:=pX cs 81 28
 rw[c3]at s3
 obtain⟨l4,c4,hl4,hw4⟩:=pI underlying27 underlying5 (by kernel_rfl) (by kernel_rfl) e4
 have k4:prog.cellsOf 27=16:=by kernel_rfl
 replace c4:(cs.drop 109).take (prog.cellsOf 27)=l4.map (Value.int .u8):=c4
 rw[k4]at c4
 have b4:aE l4:=nR (by rw[hl4];exact hw4)
 have s4:=pX cs 109 16
 rw[c4]at s4
 obtain⟨l5,c5,hl5,hw5⟩:=pI underlying27 underlying5 (by kernel_rfl) (by kernel_rfl) e5
 have k5:prog.cellsOf 27=16:=by kernel_rfl
 replace c5:(cs.drop 125).take (prog.cellsOf 27)=l5.map (Value.int .u8):=c5
 rw[k5]at c5
 have b5:aE l5:=nR (by rw[hl5];exact hw5)
 have s5:=VJ cs 125 16 hcN
 rw[c5]at s5
 have hz:(l1++(l2++(l3++(l4++(l5))))).length=140:=by simp only[lQ,hl1,hl2,hl3,hl4,hl5]
 refine⟨q,l1++(l2++(l3++(l4++(l5)))),?_,hz,?_,wq⟩
 ·have e:cs=cs.drop 0:=rfl
  rw[e,s0,s1,s2,s3,s4,s5]
  simp[WL]
 ·exact aY b1 (aY b2 (aY b3 (aY b4 (b5))))
theorem VA {H:Type} {enc:TypeId×Value→H} {w:World} {base fuel:Nat} {spare:Nat→Bool} {held:Bool} {a:Option Addr} {len cap:Nat} {x:DataW H×List MemPlace}
 (h:DataW.trod enc prog w base spare held fuel 37 [.slice a len cap]=some x):
 ∃L:List Int,L.length=len*32∧aE L∧len≤9223372036854775807∧(len=0∨∃g o,a=some ⟨g,o,none⟩∧Sl w g o L):=by
 rcases DataW.trod_slice underlying37 h with ⟨h0,_⟩|⟨q,len',cap',elems,rest,n,_,h1,_,_,hl,hm,hlen,hel,_,_⟩
 ·simp only[List.cons.injEq,Value.slice.injEq,and_true]at h0
  obtain⟨rfl,rfl,rfl⟩:=h0
  exact⟨[],rfl,fun i=>by simp,by omega,.inl rfl⟩
 simp only[List.cons.injEq,Value.slice.injEq,and_true]at h1
 obtain⟨rfl,rfl,rfl⟩:=h1
 have hc:prog.cellsOf 22=32:=by kernel_rfl
 have hml:len≤9223372036854775807:=by unfold maxLen at hm;omega
 obtain⟨b,off,spot⟩:=q
 have each:∀i,i<len→∃l:List Int,l.length=32∧aE l∧∀j,j<32→w.cell? (((⟨b,off,spot⟩:Addr).add (i*32)).add j)=some (.int .u8 (l.getD j 0)):=by
  intro i hi
  have h2:=hel i hi
  rw[hc,List.getElem?_eq_getElem (by omega),Option.bind_eq_some_iff]at h2
  obtain⟨cs,hcs,ht⟩:=h2
  obtain⟨l,rfl,hll,hlw⟩:=pI underlying22 underlying5 (by kernel_rfl) (by kernel_rfl) ht
  obtain⟨_,_,hcell⟩:=World.cells?_some hcs
  refine⟨l,hll,nR (by rw[hll];exact hlw),fun j hj=>?_⟩
  rw[hcell j hj,List.getElem?_map,List.getElem?_eq_getElem (by omega),List.getD_eq_getElem?_getD,List.getElem?_eq_getElem (by omega)]
  rfl
 rcases Nat.eq_zero_or_pos len with h0|h0
 ·subst h0
  exact⟨[],rfl,fun i=>by simp,hml,.inl rfl⟩
 have hspot:spot=none:=by
  obtain⟨l,_,_,hc0⟩:=each 0 h0
  have:=World.cell?_spot (hc0 0 (by decide))
  simpa[Addr.add]using this
 subst hspot
 have hadd:∀i j,(((⟨b,off,none⟩:Addr).add (i*32)).add j)=⟨b,off+(i*32+j),none⟩:=by
  intro i j
  unfold Addr.add
  split<;>split<;>simp_all<;>omega
 have all:∀k,k≤len→∃L:List Int,L.length=k*32∧aE L∧∀j,j<k*32→w.cell? ⟨b,off+j,none⟩=some (.int .u8 (L.getD j 0)):=by
  intro k
  induction k with
  | zero=>exact fun _=>⟨[],rfl,fun i=>by simp,fun j hj=>by omega⟩
  | succ k ih=>
    intro hk
    obtain⟨L,h1,h2,h3⟩:=ih (by omega)
    obtain⟨l,g1,g2,g3⟩:=each k (by omega)
    refine⟨L++l,by rw[lQ,h1,g1];omega,aY h2 g2,fun j hj=>?_⟩
    by_cases hj2:j<k*32
    ·rw[h3 j hj2,List.getD_eq_getElem?_getD,List.getD_eq_getElem?_getD,List.getElem?_append_left (by omega)]
    ·have:=g3 (j - k*32) (by omega)
     rw[hadd,show k*32+(j - k*32)=j by omega]at this
     rw[this,List.getD_eq_getElem?_getD,List.getD_eq_getElem?_getD,List.getElem?_append_right (by omega),h1]
 obtain⟨L,h1,h2,h3⟩:=all len (nQ _)
 refine⟨L,h1,h2,hml,.inr ⟨b,off,rfl,wJ _ _ (h3 0 (by omega)),fun i hi=>h3 i (by omega)⟩⟩
end Go.Proofs.YtgcepckaolkeoaaGreatDoor
