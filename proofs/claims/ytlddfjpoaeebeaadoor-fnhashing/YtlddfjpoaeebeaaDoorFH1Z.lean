import Derived.Test.YtlddfjpoaeebeaaDoorBGZ
import Derived.Test.YtlddfjpoaeebeaaDoorBVZ
import Derived.Test.YtlddfjpoaeebeaaDoorBOZ
import Derived.Test.YtlddfjpoaeebeaaDoorKAZ
import Derived.Test.YtlddfjpoaeebeaaDoorMH07
import Derived.Test.YtlddfjpoaeebeaaDoorMH08
import Derived.ChangeKeysEq
/- FnHashing: the calls on slices that are held. -/
namespace Go.Proofs.YtlddfjpoaeebeaaDoor
open Go.RowKit
set_option linter.unusedVariables false
theorem Own.part {e : TypeId} {base : Nat} {w : World} {v : Value} {l : List Int} (h : Own .u8 e base w v l) (hb : Bytes l) : PartOk w v l := by
  by_cases hv : v.ownBlock = none
  · obtain ⟨_, ⟨rfl, hl0⟩ | ⟨g, cap, cur, rfl, _⟩⟩ := h
    · exact ⟨none, 0, 0, rfl, hl0, Nat.le_refl _, by decide, hb, .inl rfl⟩
    · simp [Value.ownBlock] at hv
  · obtain ⟨g, cap, rfl, h1, h2, h3, h4, _⟩ := own_form h hv
    exact ⟨_, _, _, rfl, rfl, h2, h3, hb, .inr ⟨g, 0, rfl, fun j hj => (Sl.of_own h).2 j hj⟩⟩
theorem hashN (D : List Int) (v : Value) (e : TypeId) (base : Nat) (W : World) (h : Own .u8 e base W v D) (hb : Bytes D) (hlen : D.length ≤ 1000000) (ht : Tabs W) :
    Calls Tryd.prog 10 #[v] W fun e w' => e = .returned (.agg (Iv .u8 (hashB D))) ∧ Below W.heap.size W w' :=
  implHash_any D v W (h.part hb) (by omega) ht (hashB D) (fun x hx => hx.symm)
theorem hmacN (K D : List Int) (kv dv : Value) (b1 b2 : Nat) (W : World) (hk : OwnN .u8 5 b1 W kv K) (hd : Own .u8 5 b2 W dv D) (hKb : Bytes K) (hDb : Bytes D) (hkl : K.length ≤ 1000000) (hdl : D.length ≤ 1000000) (ht : Tabs W) :
    Calls Tryd.prog 17 #[kv, dv] W fun e w' => e = .returned (.agg (Iv .u8 (hmacB K D))) ∧ Below W.heap.size W w' := by
  obtain ⟨g, cap, rfl, _, s, l1, l2⟩ := hk.sl
  exact implHmac_any K D _ rfl hKb (by omega) g 0 cap l1 l2 dv W (fun j hj => s.2 j hj) s.1 (hd.part hDb) (by omega) ht (hmacB K D) (fun x hx => hx.symm)
theorem specHmacN (K D : List Int) (kv dv : Value) (b1 b2 : Nat) (W : World) (hk : OwnN .u8 5 b1 W kv K) (hd : OwnN .u8 5 b2 W dv D) (hKb : Bytes K) (hDb : Bytes D) (hkl : K.length ≤ 1000000) (hdl : D.length ≤ 1000000) :
    Calls Tryd.prog 16 #[kv, dv] W fun e w' => e = .returned (.agg (Iv .u8 (hmacB K D))) ∧ Below W.heap.size W w' := by
  obtain ⟨g, cap, rfl, _, s, l1, l2⟩ := hk.sl
  obtain ⟨g2, cap2, rfl, _, s2, l3, l4⟩ := hd.sl
  exact specHmac_any K D _ _ rfl hKb (by omega) g 0 cap g2 0 cap2 W (fun j hj => s.2 j hj) rfl (by omega) hDb s2.1 (fun j hj => s2.2 j hj) (hmacB K D) (fun x hx => hx.symm)
theorem kdfN (n : Nat) (hn1 : 1 ≤ n) (hn2 : n ≤ 3) (K D : List Int) (kv dv : Value) (b1 b2 : Nat) (W : World) (hk : OwnN .u8 5 b1 W kv K) (hd : OwnN .u8 5 b2 W dv D) (hKb : Bytes K) (hDb : Bytes D) (hkl : K.length ≤ 1000000) (hdl : D.length ≤ 1000000) (ht : Tabs W) :
    Calls Tryd.prog 19 #[.int .i64 n, kv, dv] W fun e w' => ∃ g, e = .returned (.slice (some ⟨g, 0, none⟩) n n) ∧ W.heap.size ≤ g ∧ w'.heap[g]? = some (.cells (Iv .u8 (kdfRow (hmacB K D) n n)) 23) ∧ Below W.heap.size W w' := by
  obtain ⟨g, cap, rfl, _, s, l1, l2⟩ := hk.sl
  obtain ⟨g2, cap2, rfl, _, s2, l3, l4⟩ := hd.sl
  exact implKdf_any K D _ rfl hKb (by omega) g 0 cap l1 l2 _ _ _ W (fun j hj => s.2 j hj) s.1 (hd.1.part hDb) (by omega) ht n hn1 hn2 (hmacB K D) (fun x hx => hx.symm)
/-- A key of the row. -/
theorem kdfRow_key (R : List Int) (n k : Nat) (h : k < n) : ((kdfRow R n n).drop (32 * k)).take 32 = kdfK R k := by
  have h1 : ∀ m, k < m → ∀ z : List Int, ((kdfL R m ++ z).drop (32 * k)).take 32 = kdfK R k := by
    intro m
    induction m with
    | zero => intro h; omega
    | succ m ih =>
      intro hm z
      by_cases hk : k = m
      · subst hk
        rw [kdfL, List.append_assoc, List.drop_append_of_le_length (by rw [kdfL_length]; omega), List.drop_of_length_le (by rw [kdfL_length]; omega), List.nil_append, List.take_append_of_le_length (by rw [kdfK_length]; omega), List.take_of_length_le (by rw [kdfK_length]; omega)]
      · rw [kdfL, List.append_assoc]
        exact ih (by omega) _
  exact h1 n h _
theorem kdf_range {w : World} {g : Nat} {R : List Int} {n : Nat} {t : TypeId} (h : w.heap[g]? = some (.cells (Iv .u8 (kdfRow R n n)) t)) (k : Nat) (hk : k < n) : w.rangeAt g (32 * k) ((kdfK R k).map (Value.int .u8)) := by
  have h1 := range_row (w := w) (g := g) (l := (kdfRow R n n).map (Value.int .u8)) (t := t) (fr := (0, 0)) h (32 * k) 32
  rw [← List.map_drop, ← List.map_take, kdfRow_key R n k hk] at h1
  exact h1
theorem Fc.grow {w0 : World} {g : Nat} {ta : Option Addr} {zs : List Int} {c : Nat} {R : List (Nat × List Int × TypeId)} {O : List (Value × List Int)} {W W' : World} {go : Option Nat} (h : Fc w0 g ta zs c R O W) (hg : W.grownBy W' go) (h0 : ∀ k, go = some k → g < k) (hr : ∀ r ∈ R, go ≠ some r.1) (ho : ∀ o ∈ O, o.1.ownBlock = none ∨ o.1.ownBlock ≠ go) : Fc w0 g ta zs c R O W' := by
  have hgl := h.lt
  have hb : Below (g + 1) W W' := grownBy_below hg (fun k hk => h0 k hk) hgl
  refine ⟨h.bel.trans (hb.mono (by have := h.le; omega)), h.le, h.drw.later hb (Nat.lt_succ_self _), fun r hr' => ?_, fun o ho' => Own.kept (h.own o ho') hg (ho o ho')⟩
  have h1 := h.row r hr'
  exact ⟨h1.1, Nat.lt_of_lt_of_le h1.2.1 hg.size, (hg.block _ h1.2.1 (fun e => hr r hr' e.symm)).trans h1.2.2⟩
theorem kdf_range' {w : World} {g : Nat} {R : List Int} {n : Nat} {t : TypeId} (h : w.heap[g]? = some (.cells (Iv .u8 (kdfRow R n n)) t)) (k : Nat) (hk : k < n) : w.rangeAt g (k * 32) ((kdfK R k).map (Value.int .u8)) := by
  rw [Nat.mul_comm]
  exact kdf_range h k hk
theorem run_idx32 {o : Oper} {ρ : Operand → Value} (x y : Operand) (ho : o.op = .indexAddr 33 x y) (g len cap i : Nat) (hx : ρ x = .slice (some ⟨g, 0, none⟩) len cap) (hy : ρ y = .int .i64 i) (h1 : i < len) (w : World) :
    (execOp ρ o).run Tryd.prog w = .ok (.value (.pointer (some ⟨g, i * 32, none⟩))) w := by
  have hs : (Tryd.prog.info? (Tryd.prog.elem 33)).map (·.size) = some 32 := by kernel_rfl
  have hund : Tryd.prog.underlying 33 = some (.slice (Tryd.prog.elem 33)) := by kernel_rfl
  have hsz : (sizeOf (Tryd.prog.elem 33)).run Tryd.prog w = .ok 32 w := by
    obtain ⟨j, hj, h2⟩ := Option.map_eq_some_iff.1 hs
    simp [sizeOf, typeInfo, hj, h2]
  have hadd : (⟨g, 0, none⟩ : Addr).add (i * 32) = ⟨g, i * 32, none⟩ := by unfold Addr.add; split <;> simp_all
  unfold execOp
  simp only [ho, hx, hy, Sem.run_bind, run_indexAt_slice (P := Tryd.prog) w 33 _ len cap .i64 (i : Int) hund, hsz, Result.andThen_ok, Int.toNat_natCast, Sem.run_pure]
  rw [if_pos (by omega)]
  simp only [Result.andThen_ok, hadd]
/-- What stands before the key number k. -/
def befH (R : List Int) : Nat → List Int
  | 0 => []
  | k + 1 => kdfK R k
theorem befH_next (R : List Int) (k : Nat) : hmacB R (befH R k ++ [(k : Int) + 1]) = kdfK R k := by
  cases k with
  | zero => rfl
  | succ k =>
    have e : ((k + 1 : Nat) : Int) + 1 = (k : Int) + 2 := by omega
    rw [e]
    rfl
theorem befH_length (R : List Int) (k : Nat) : (befH R k).length ≤ 32 := by
  cases k with
  | zero => exact Nat.zero_le _
  | succ k => exact Nat.le_of_eq (kdfK_length R k)
theorem befH_bytes (R : List Int) (k : Nat) : Bytes (befH R k) := by
  cases k with
  | zero => intro i; simp [befH]
  | succ k => exact kdfK_bytes R k
set_option maxHeartbeats 1000000 in
theorem cp_sl (l : List Int) (n : Nat) (hl : l.length = n) (hn : n ≤ 1000000) (g o c : Nat) (w : World) (hS : Sl w g o l) :
    Calls Tryd.prog 27 #[.slice (some ⟨g, o, none⟩) n c] w fun e w' => ∃ x, e = .returned x ∧ OwnN .u8 5 w.heap.size w' x l ∧ Below w.heap.size w w' := by
  have HO : Hid (Own .u8 5 w.heap.size (w.alloc (.cells #[] 5)) (.slice (some ⟨w.heap.size, 0, none⟩) 0 0) []) := Own.nil w (Nat.le_refl _)
  have HW : Hid (Below w.heap.size w (w.alloc (.cells #[] 5))) := (Below.refl _ _).alloc (Nat.le_refl _) _
  have HN : Hid (∀ j, j < n → (w.alloc (.cells #[] 5)).cell? ⟨g, o + j, none⟩ = some (.int .u8 (l.getD j 0))) := fun j hj => (Sl.later hS HW.out hS.1).2 j (by omega)
  have HL : Hid (l.length = n) := hl
  clear hS hl
  go_enter Tryd.func27, Tryd.ntmps27
  go_wp2_with (at_builtin; refine extend_law .u8 22 5 1 Tryd.underlying22 infoE8 (by decide) rfl (.tmp 3) (.tmp 4) rfl w.heap.size w _ _ [] g o n c l HL.out rfl rfl HO.out HW.out HW.out.size (by simp; omega) HN.out ?_; intro v2 w2 hown2 hbel2 _ hd2; refine stop_here ?_)
  refine hid_mk ?_
  have hne2 : v2.ownBlock ≠ none := grown_ne (v := .slice (some ⟨w.heap.size, 0, none⟩) 0 0) (by simp [Value.ownBlock]) hd2
  have K1 : Hid (OwnN .u8 5 w.heap.size w2 v2 l) := ⟨hown2, hne2⟩
  have K2 : Hid _ := hbel2
  clear hown2 hbel2 hd2 hne2
  go_wp2
  go_ret
  exact ⟨_, rfl, K1.out, K2.out⟩
theorem kdf_sl {w : World} {g : Nat} {R : List Int} {n : Nat} {t : TypeId} (h : w.heap[g]? = some (.cells (Iv .u8 (kdfRow R n n)) t)) (k : Nat) (hk : k < n) : Sl w g (k * 32) (kdfK R k) := by
  refine ⟨(Array.getElem?_eq_some_iff.1 h).1, fun i hi => ?_⟩
  have := kdf_range' h k hk i (.int .u8 ((kdfK R k).getD i 0)) (by simp [hi])
  exact this
theorem plainH8 : Tryd.prog.plainKey 5 = true := by kernel_rfl
theorem eqItemsH (d : Nat) (A : List Int) (w : World) : ∀ is : List Nat, (∀ i ∈ is, i < A.length) →
    (Op.eqItems (d + 1) 5 1 (Iv .u8 A) (Iv .u8 A) is).run Tryd.prog w = .ok true w
  | [], _ => by simp [Op.eqItems]
  | i :: is, h => by
    have h1 := h i (by simp)
    have ih := eqItemsH d A w is (fun j hj => h j (by simp [hj]))
    have p1 := run_part_plain (P := Tryd.prog) w plainH8 (Iv_get .u8 A i h1)
    simp only [Op.eqItems, Nat.mul_one, Sem.run_bind, p1, Result.andThen_ok, run_equalIn_int w d 5 .u8 .u8 _ _ Tryd.underlying5]
    simp only [beq_self_eq_true, Bool.not_true, Bool.false_eq_true, if_false]
    exact ih
theorem eqH32 (A : List Int) (hA : A.length = 32) (w : World) : (Op.equalIn 10000 23 (.agg (Iv .u8 A)) (.agg (Iv .u8 A))).run Tryd.prog w = .ok true w := by
  obtain ⟨i, hi⟩ := info_of_underlying Tryd.underlying5
  have hc : Tryd.prog.cellsOf 5 = 1 := by kernel_rfl
  rw [run_equalIn_array w 9999 _ _ Tryd.underlying23 hi, hc, eqItemsH 9998 A w _ (fun i hi => by simp at hi; omega)]
theorem guardH32 : Tryd.prog.eqGuardType Tryd.prog.depth 23 = false := by kernel_rfl
end Go.Proofs.YtlddfjpoaeebeaaDoor
