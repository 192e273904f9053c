import Derived.Test.YtikicljlgfgfbaaMVc
/- The law of PublicKey. Written by mk_V.py. -/
namespace Go.Proofs.Ytikicljlgfgfbaa
open Go.ChangeShapes Go.WideShapes Go.ChangeAt Go.RowKit
set_option linter.unusedVariables false
set_option maxRecDepth 100000 in
set_option maxHeartbeats 4000000 in
theorem publicKey_walk_var (x1 : List Int) (m : Int) (ha : x1.length = 32) (w : World) (x3 : List Int) (mv : Int) (hr : x3.length = 32)
    (HSP : ∀ W, Calls Try.prog 16 #[.agg (Iv .u8 x1), .int .i64 m] W fun e w' => e = .returned (.tuple #[.agg (Iv .u8 x3), .int .i64 mv]) ∧ Below W.heap.size W w')
    (HIM : ∀ W, Calls Try.prog 17 #[.agg (Iv .u8 x1), .int .i64 m] W fun e w' => e = .returned (.tuple #[.agg (Iv .u8 x3), .int .i64 mv]) ∧ Below W.heap.size W w') :
    Calls Try.prog 6 #[.agg (Iv .u8 x1), .int .i64 m] w fun e w' => e = .returned (.bool true) ∧ Below w.heap.size w w' := by
  have hz32 := zeroC32
  have lx1 : Hid (x1.length = 32) := ha
  have lx3 : Hid (x3.length = 32) := hr
  have KSP : Hid _ := HSP
  have KIM : Hid _ := HIM
  have T1 : Hid (∀ W, _) := fun W => toByteA32_any x1 ha W
  have EQ : Hid (∀ W, _) := fun W => eqByteA32_yes x3 hr W
  clear HSP HIM ha hr
  have F0 : Rn w [(w.heap.size, Iv .u8 x1, 22)] (w.alloc (.cells (Iv .u8 x1) 22)) := ((Rn.start w).alloc' w.heap.size (by first | rfl | simp only [World.size_alloc]) _ _)
  obtain ⟨W, hW⟩ : ∃ W, (w.alloc (.cells (Iv .u8 x1) 22)) = W := ⟨_, rfl⟩
  rw [hW] at F0
  have F : Hid (Rn w [(w.heap.size, Iv .u8 x1, 22)] W) := F0
  have HW : Hid _ := hW
  clear hW F0
  go_enter Try.func6, Try.ntmps6
  have G0 : Hid ((w.alloc (.cells (Iv .u8 x1) 22)).heap[w.heap.size]? = some (.cells (Iv .u8 x1) 22)) := by show _ = _; rw [HW.out]; exact F.out.at List.mem_cons_self
  go_wp2_with (with_reducible refine wpList_id ?_; first
    | refine wpList_load_row rfl 22 _ rfl w.heap.size rfl _ (Iv .u8 x1) _ _ G0.out Try.underlying22 rfl (info32L lx1.out) ?_)
  refine (T1.out _).mono ?_
  rintro e9 v1 ⟨rfl, hb⟩
  rw [HW.out] at hb
  clear HW
  have F1 : Hid (Rn w [(w.heap.size, Iv .u8 x1, 22)] v1) := F.out.later hb (Nat.le_refl _)
  clear hb F G0
  have F : Hid _ := F1.out
  clear F1
  go_wp2_with fail
  refine (KSP.out _).mono ?_
  rintro e9 v2 ⟨rfl, hb⟩
  have F1 : Hid (Rn w [(w.heap.size, Iv .u8 x1, 22)] v2) := F.out.later hb (Nat.le_refl _)
  clear hb F
  have F : Hid _ := F1.out
  clear F1
  have KA : Hid ((v2.alloc (.cells (Iv .u8 (zeroL 32)) 22)).heap[v2.heap.size]? = some (.cells (Iv .u8 (zeroL 32)) 22)) := heap_alloc_new _ _
  go_wp2_with (refine wpList_put_row rfl 22 _ _ rfl v2.heap.size (Iv .u8 x3) rfl rfl _ _ KA.out (info32L lx3.out) (zero32L lx3.out) (Iv_one _ _) (fun v3 hP => stop_here ?_))
  refine hid_mk ?_
  have F1 := F.out.newRow hP
  obtain ⟨b1, eb⟩ : ∃ x, x = v2.heap.size := ⟨_, rfl⟩
  rw [← eb] at F1 ⊢
  clear eb F hP KA
  have F : Hid (Rn w [(b1, Iv .u8 x3, 22), (w.heap.size, Iv .u8 x1, 22)] v3) := F1
  clear F1
  have G0 : Hid _ := F.out.at (List.mem_cons_of_mem _ List.mem_cons_self)
  go_wp2_with (with_reducible refine wpList_id ?_; first
    | refine wpList_load_row rfl 22 _ rfl w.heap.size rfl _ (Iv .u8 x1) _ _ G0.out Try.underlying22 rfl (info32L lx1.out) ?_)
  refine (T1.out _).mono ?_
  rintro e9 v4 ⟨rfl, hb⟩
  have F1 : Hid (Rn w [(b1, Iv .u8 x3, 22), (w.heap.size, Iv .u8 x1, 22)] v4) := F.out.later hb (Nat.le_refl _)
  clear hb F G0
  have F : Hid _ := F1.out
  clear F1
  go_wp2_with fail
  refine (KIM.out _).mono ?_
  rintro e9 v5 ⟨rfl, hb⟩
  have F1 : Hid (Rn w [(b1, Iv .u8 x3, 22), (w.heap.size, Iv .u8 x1, 22)] v5) := F.out.later hb (Nat.le_refl _)
  clear hb F
  have F : Hid _ := F1.out
  clear F1
  have KA : Hid ((v5.alloc (.cells (Iv .u8 (zeroL 32)) 22)).heap[v5.heap.size]? = some (.cells (Iv .u8 (zeroL 32)) 22)) := heap_alloc_new _ _
  go_wp2_with (refine wpList_put_row rfl 22 _ _ rfl v5.heap.size (Iv .u8 x3) rfl rfl _ _ KA.out (info32L lx3.out) (zero32L lx3.out) (Iv_one _ _) (fun v6 hP => stop_here ?_))
  refine hid_mk ?_
  have F1 := F.out.newRow hP
  obtain ⟨b2, eb⟩ : ∃ x, x = v5.heap.size := ⟨_, rfl⟩
  rw [← eb] at F1 ⊢
  clear eb F hP KA
  have F : Hid (Rn w [(b2, Iv .u8 x3, 22), (b1, Iv .u8 x3, 22), (w.heap.size, Iv .u8 x1, 22)] v6) := F1
  clear F1
  have G0 : Hid _ := F.out.at (List.mem_cons_of_mem _ List.mem_cons_self)
  have G1 : Hid _ := F.out.at List.mem_cons_self
  have BW : Hid _ := F.out.bel
  clear F
  go_wp2_with (with_reducible refine wpList_id ?_; first
    | refine wpList_load_row rfl 22 _ rfl b1 rfl _ (Iv .u8 x3) _ _ G0.out Try.underlying22 rfl (info32L lx3.out) ?_
    | refine wpList_load_row rfl 22 _ rfl b2 rfl _ (Iv .u8 x3) _ _ G1.out Try.underlying22 rfl (info32L lx3.out) ?_)
  refine (EQ.out _).mono ?_
  rintro e9 Z9 ⟨rfl, hb⟩
  have B9 : Hid (Below w.heap.size w Z9) := BW.out.trans (hb.mono BW.out.size)
  clear hb BW G0 G1
  go_wp2
  go_ret
  exact ⟨rfl, B9.out⟩
theorem publicKey_walk (x1 : List Int) (m : Int) (ha : x1.length = 32) (hab : Bytes x1) (w : World) :
    Calls Try.prog 6 #[.agg (Iv .u8 x1), .int .i64 m] w fun e w' => e = .returned (.bool true) ∧ Below w.heap.size w w' :=
  publicKey_walk_var x1 m ha w _ _ (smL_length x1 nineL) (specPublicKey_any x1 m ha hab) (implPublicKey_any x1 m ha hab)
end Go.Proofs.Ytikicljlgfgfbaa
