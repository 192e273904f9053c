/- The program's limiter: 'tableOf'. Written by mk_LiL.py. -/
import Derived.Test.YtcjbenmbenkcpaaLiK
namespace Go.Proofs.Ytcjbenmbenkcpaa
open Go.RowKit
set_option linter.unusedVariables false
/-- The buckets with their places in the list. -/
def plsFrom (k : Nat) : List Bk → List Pl
  | [] => []
  | b :: r => ⟨b, (k : Int)⟩ :: plsFrom (k + 1) r
theorem plsFrom_append (k : Nat) : ∀ (a b : List Bk), plsFrom k (a ++ b) = plsFrom k a ++ plsFrom (k + a.length) b
  | [], b => by simp [plsFrom]
  | x :: a, b => by
    simp only [List.cons_append, plsFrom, plsFrom_append (k + 1) a b, List.length_cons]
    rw [show k + 1 + a.length = k + (a.length + 1) by omega]
theorem plsFrom_length (k : Nat) : ∀ a : List Bk, (plsFrom k a).length = a.length
  | [] => rfl
  | x :: a => by simp [plsFrom, plsFrom_length (k + 1) a]
theorem plsFrom_map (k : Nat) : ∀ a : List Bk, (plsFrom k a).map (·.b) = a
  | [] => rfl
  | x :: a => by simp [plsFrom, plsFrom_map (k + 1) a]
theorem mem_plsFrom {k : Nat} {a : List Bk} {p : Pl} (h : p ∈ plsFrom k a) : p.b ∈ a := by
  have := List.mem_map_of_mem (f := (·.b)) h
  rwa [plsFrom_map] at this
/-- Behind 'tableOf'. -/
def TofOut (w : World) (m s : Int) (bs : List Bk) (now : Int) (e : Ending) (w' : World) : Prop :=
  ∃ (r : Bool) (v : Value), e = .returned (.tuple #[v, .bool r]) ∧ (r = true ↔ ValidP m s bs now) ∧ (r = true → ∃ b, v = .map (some b) ∧ w.heap.size ≤ b ∧ Tab w' b bs.length (plsFrom 0 bs)) ∧ Below w.heap.size w w'
/-- A key that stands twice makes the table smaller. -/
theorem put_new {ps : List Pl} {p : Pl} (h : ∀ x ∈ ps, x.b.key ≠ p.b.key) : ps.filter (neK p) = ps := List.filter_eq_self.2 (fun x hx => by show decide (x.b.key ≠ p.b.key) = true; exact decide_eq_true (h x hx))
theorem strike_less {ps : List Pl} {p x : Pl} (hx : x ∈ ps) (hk : x.b.key = p.b.key) : (ps.filter (neK p)).length < ps.length := by
  rw [List.length_filter_lt_length_iff_exists]
  exact ⟨x, hx, by simp [neK, hk]⟩
theorem makeT (n : Nat) (W : World) : (Instr.makeMap 54 (some (.int .i64 n))).run Try.prog W = .ok (.map (some W.heap.size)) (W.alloc (.map #[] 0)) := by
  have h := Try.underlying54
  simp [Instr.makeMap, run_underlying h, asInt, Result.andThen]
  rfl
/-- The table while it is filled. -/
def Fill (k : Nat) (L : List Bk) (ps : List Pl) : Prop := ps.length ≤ k ∧ (L.Pairwise (fun x y => x.key ≠ y.key) → ps.Perm (plsFrom 0 L)) ∧ (¬ L.Pairwise (fun x y => x.key ≠ y.key) → ps.length < k)
theorem Fill.next {k : Nat} {L : List Bk} {ps : List Pl} {b : Bk} (h : Fill k L ps) (hL : L.length = k) : Fill (k + 1) (L ++ [b]) (⟨b, (k : Int)⟩ :: ps.filter (neK ⟨b, (k : Int)⟩)) := by
  obtain ⟨h1, h2, h3⟩ := h
  have hle := List.length_filter_le (neK ⟨b, (k : Int)⟩) ps
  refine ⟨by simp; omega, fun hp => ?_, fun hp => ?_⟩
  · rw [List.pairwise_append] at hp
    obtain ⟨p1, _, p3⟩ := hp
    have hpm := h2 p1
    have hno : ∀ x ∈ ps, x.b.key ≠ (⟨b, (k : Int)⟩ : Pl).b.key := fun x hx => p3 x.b (mem_plsFrom (hpm.mem_iff.1 hx)) b (by simp)
    rw [put_new hno, plsFrom_append, hL, Nat.zero_add]
    exact (hpm.cons _).trans (List.perm_append_singleton _ _).symm
  · by_cases hd : L.Pairwise (fun x y => x.key ≠ y.key)
    · have hpm := h2 hd
      have hex : ∃ x ∈ L, x.key = b.key := by
        apply Classical.byContradiction
        intro hc
        apply hp
        rw [List.pairwise_append]
        refine ⟨hd, by simp, fun x hx y hy e => hc ⟨x, hx, ?_⟩⟩
        rw [List.mem_singleton] at hy
        rw [← hy]
        exact e
      obtain ⟨x, hx, hk⟩ := hex
      have hx2 : x ∈ (plsFrom 0 L).map (·.b) := by rw [plsFrom_map]; exact hx
      obtain ⟨y, hy, rfl⟩ := List.mem_map.1 hx2
      have := strike_less (p := ⟨b, (k : Int)⟩) (hpm.mem_iff.2 hy) hk
      simp
      omega
    · have := h3 hd
      simp
      omega
set_option maxRecDepth 10000 in
set_option maxHeartbeats 4000000 in
theorem tableOf_any (bs : List Bk) (n : Nat) (hn : bs.length = n) (hn2 : n ≤ 1048576) (a : Option Addr) (cap : Nat) (m s now : Int) (w : World) (ha : HB w a bs) :
    Calls Try.prog 17 #[.agg #[.int .i64 m, .int .i64 s, .slice a n cap], .int .i64 now] w fun e w' => TofOut w m s bs now e w' := by
  have HA : Hid (HB _ _ _) := ha
  have HN : Hid _ := hn
  clear ha hn
  have HW : Hid (Below w.heap.size w (w.alloc (.cells #[.int .i64 m, .int .i64 s, .slice a n cap] 28))) := (Below.refl _ _).alloc (Nat.le_refl _) _
  have wi : Hid (∀ v m' W, Calls Try.prog 26 #[.int .i64 v, .int .i64 m'] W fun e w' => e = .returned (.bool (decide (0 ≤ v ∧ v ≤ m'))) ∧ w' = W) := within_any
  go_enter Try.func17, Try.ntmps17
  by_cases c1 : m < 1
  · go_wp2_with fail
    exact bodyPost_ret (v := .tuple #[.map none, .bool false]) (by rw [results_tmp2 rfl]; rfl) rfl ⟨false, .map none, rfl, noV fun h => absurd h.m1 (by omega), fun h => (by cases h), HW.out⟩
  by_cases c2 : 4096 < m
  · go_wp2_with fail
    exact bodyPost_ret (v := .tuple #[.map none, .bool false]) (by rw [results_tmp2 rfl]; rfl) rfl ⟨false, .map none, rfl, noV fun h => absurd h.m2 (by omega), fun h => (by cases h), HW.out⟩
  by_cases c3 : m < (n : Int)
  · go_wp2_with fail
    exact bodyPost_ret (v := .tuple #[.map none, .bool false]) (by rw [results_tmp2 rfl]; rfl) rfl ⟨false, .map none, rfl, noV fun h => absurd h.len (by have := HN.out; omega), fun h => (by cases h), HW.out⟩
  go_wp2_with fail
  refine (wi.out s now _).mono ?_
  rintro e w1 ⟨rfl, rfl⟩
  by_cases c4 : 0 ≤ s ∧ s ≤ now
  · rw [decide_eq_true c4]
    have c5 := c4.1
    have c6 := c4.2
    clear c4
    have hmm := makeT n
    have F0 : Hid (Rn w [(w.heap.size, #[.int .i64 m, .int .i64 s, .slice a n cap], 28)] (w.alloc (.cells #[.int .i64 m, .int .i64 s, .slice a n cap] 28))) := (Rn.start w).alloc _ _
    have T0 : Hid (Tab ((w.alloc (.cells #[.int .i64 m, .int .i64 s, .slice a n cap] 28)).alloc (.map #[] 0)) (w.heap.size + 1) 0 []) := by show Tab _ _ _ _; simpa using Tab.made (w.alloc (.cells #[.int .i64 m, .int .i64 s, .slice a n cap] 28))
    have F1 : Hid (Rn w _ ((w.alloc (.cells #[.int .i64 m, .int .i64 s, .slice a n cap] 28)).alloc (.map #[] 0))) := F0.out.later ((Below.refl _ _).alloc (Nat.le_refl _) (.map #[] 0)) (Nat.le_refl _)
    go_wp2_with fail
    obtain ⟨n1, hn1⟩ : ∃ x, x = w.heap.size + 1 := ⟨_, rfl⟩
    rw [← hn1] at T0 ⊢
    have l1 : w.heap.size < n1 := by omega
    clear hn1 F0
    go_loopw [39] (fun i wr => ∃ (k : Nat) (ps : List Pl), k ≤ n ∧ i = .int .i64 k ∧ (∀ b ∈ bs.take k, OkB now b) ∧ Fill k (bs.take k) ps ∧ Tab wr n1 k ps ∧ Rn w [(w.heap.size, #[.int .i64 m, .int .i64 s, .slice a n cap], 28)] wr) (fun i _ => n - (intOf i).toNat)
    case atStart => exact ⟨0, [], Nat.zero_le _, rfl, fun b h => absurd h (by simp), ⟨Nat.le_refl _, fun _ => by simp [plsFrom], fun h => absurd (by simp) h⟩, T0.out, F1.out⟩
    case round =>
      obtain ⟨k, ps, hk, rfl, hok, hfl, hT, hF⟩ := hrel
      have OK : Hid _ := hok
      have FI : Hid (Fill _ _ _) := hfl
      have TT : Hid (Tab _ _ _ _) := hT
      have F : Hid _ := hF
      clear hok hfl hT hF T0 F1 HW
      by_cases hlt : k < n
      · have hkb : k < bs.length := by rw [HN.out]; exact hlt
        obtain ⟨g, o, ea, hg, hr⟩ := HA.out k hkb
        obtain ⟨b, hbd⟩ : ∃ b, b = bs[k]'hkb := ⟨_, rfl⟩
        rw [← hbd] at hr
        have BD : Hid _ := hbd
        have hbm : Hid (b ∈ bs) := by show _ ∈ _; rw [hbd]; exact List.getElem_mem _
        have X : Hid (∀ w', Below w.heap.size w w' → w'.rangeAt g (o + k * 11) (bkL b)) := fun w' hb j v hj => (hb.cell (p := ⟨g, _, none⟩) hg).trans (hr j v hj)
        have hi : Hid ((Try.prog.info? 37).map (·.size) = some (bkL b).length) := by show _ = _; rw [bkL_length]; exact infoB
        have hi2 : Hid ((Try.prog.info? 37).map (·.size) = some (bkL b).toArray.size) := by show _ = _; rw [bkL_size]; exact infoB
        have hz2 : Hid ((#[.int .u8 0, .int .u8 0, .int .u8 0, .int .u8 0, .int .u8 0, .int .u8 0, .int .u8 0, .int .u8 0, .int .u8 0, .int .i64 0, .int .i64 0] : Array Value).size = (bkL b).toArray.size) := by show _ = _; rw [bkL_size]; rfl
        have ho1 : Hid ((bkL b).toArray.all (·.oneCell') = true) := by show _ = _; rw [List.all_toArray]; exact bkL_one b
        subst ea
        obtain ⟨W0, hW0⟩ : ∃ x, x = wr := ⟨_, rfl⟩
        rw [← hW0] at F TT ⊢
        clear hW0 wr hbd hr
        go_wp2_with (first
          | ((with_reducible refine gLd ?_); refine wpList_load_mid rfl 37 _ rfl g (o + k * 11) rfl (bkL b) _ (X.out _ F.out.bel) Try.underlying37 rfl hi.out ?_)
          | ((with_reducible refine gSt ?_); refine wpList_put_row rfl 37 _ _ rfl W0.heap.size (bkL b).toArray rfl rfl 37 _ (heap_alloc_new _ _) hi2.out hz2.out ho1.out ?_))
        intro w2 hP2
        have F2 : Hid _ := F.out.newRow hP2
        have T2 : Hid (Tab _ _ _ _) := Tab.later TT.out (hP2.below W0.heap.size W0 ((Below.refl _ _).alloc (Nat.le_refl _) _) (Nat.le_refl _))
        have nl : n1 < W0.heap.size := Tab.lt TT.out
        obtain ⟨gb, hgb⟩ : ∃ x, x = W0.heap.size := ⟨_, rfl⟩
        rw [← hgb] at F2 nl ⊢
        clear hP2 F hgb hi hz2 ho1 X TT
        have KY : Hid _ := range_key (row_range (F2.out.at (.head _)))
        have i9 : Hid ((Try.prog.info? 33).map (·.size) = some (b.key.map (Value.int .u8)).length) := by show _ = _; rw [List.length_map, b.len]; exact infoA9
        have c9 : w2.cell? ⟨gb, 9, none⟩ = some (.int .i64 b.tok) := by have := range_tok (row_range (F2.out.at (.head _))); rwa [Nat.zero_add] at this
        have c10 : w2.cell? ⟨gb, 10, none⟩ = some (.int .i64 b.last) := by have := range_last (row_range (F2.out.at (.head _))); rwa [Nat.zero_add] at this
        go_wp2_with fail
        refine (wi.out b.tok 250000000 _).mono ?_
        rintro e w3 ⟨rfl, rfl⟩
        by_cases d0 : 0 ≤ b.tok ∧ b.tok ≤ 250000000
        · rw [decide_eq_true d0]
          have D0 : Hid _ := d0
          clear d0
          go_wp2_with fail
          refine (wi.out b.last now _).mono ?_
          rintro e w3' ⟨rfl, rfl⟩
          by_cases d1 : 0 ≤ b.last ∧ b.last ≤ now
          · rw [decide_eq_true d1]
            have D1 : Hid _ := d1
            clear d1
            go_wp2_with (first
              | ((with_reducible refine gLd ?_); refine wpList_load_mid rfl 33 _ rfl gb 0 rfl (b.key.map (Value.int .u8)) _ KY.out Try.underlying33 rfl i9.out ?_)
              | ((with_reducible refine gLd ?_); refine wpList_load_row rfl 37 _ rfl gb rfl _ (bkL b).toArray _ _ (F2.out.at (.head _)) Try.underlying37 rfl hi2.out ?_)
              | ((with_reducible refine gBd ?_); refine wpList_build_asL rfl 66 _ rfl (plL ⟨b, (k : Int)⟩).toArray [(0, .agg (bkL b).toArray), (1, .int .i64 (k : Int))] (by kernel_rfl) (builtPl b (k : Int)) ?_)
              | ((with_reducible refine gMu ?_); refine wpList_putT rfl _ _ _ rfl n1 k ps rfl T2.out (by unfold maxLen; omega) ⟨b, (k : Int)⟩ rfl rfl ?_))
            intro w4 hT4 hg4
            have T4 : Hid (Tab _ _ _ _) := hT4
            have F4 : Hid _ := Rn.kept F2.out.tail hg4 n1 (fun j e => by cases e; exact Nat.le_refl _) (by simp; omega) (by omega)
            clear hT4 hg4 F2 T2 c9 c10 KY
            go_wp2_with fail
            go_roundw
            case rel =>
              have e := take_last bs k hkb
              rw [← BD.out] at e
              refine ⟨k + 1, _, by omega, by go_num, ?_, ?_, T4.out, F4.out⟩
              · rw [e]
                intro x hx
                rcases List.mem_append.1 hx with hx | hx
                · exact OK.out x hx
                · rw [List.mem_singleton] at hx
                  rw [hx]
                  exact ⟨D0.out.1, D0.out.2, D1.out.1, D1.out.2⟩
              · rw [e]
                exact Fill.next FI.out (by rw [List.length_take]; omega)
            case measure => simp [intOf]; omega
          · rw [decide_eq_false d1]
            have D1 : Hid _ := d1
            clear d1
            go_wp2_with fail
            exact bodyPost_ret (v := .tuple #[.map none, .bool false]) (by rw [results_tmp2 rfl]; rfl) rfl ⟨false, .map none, rfl, noV fun h => D1.out ⟨(h.each b hbm.out).2.2.1, (h.each b hbm.out).2.2.2⟩, fun h => (by cases h), F2.out.bel⟩
        · rw [decide_eq_false d0]
          have D0 : Hid _ := d0
          clear d0
          go_wp2_with fail
          exact bodyPost_ret (v := .tuple #[.map none, .bool false]) (by rw [results_tmp2 rfl]; rfl) rfl ⟨false, .map none, rfl, noV fun h => D0.out ⟨(h.each b hbm.out).1, (h.each b hbm.out).2.1⟩, fun h => (by cases h), F2.out.bel⟩
      · obtain rfl : k = n := by omega
        have e0 : bs.take k = bs := List.take_of_length_le (by rw [HN.out]; exact Nat.le_refl _)
        have o1 : Hid (∀ b ∈ bs, OkB now b) := by have h := OK.out; rw [e0] at h; exact h
        have f1 : Hid (Fill k bs ps) := by have h := FI.out; rw [e0] at h; exact h
        have lnD : ∀ d ty, (Builtin.len_ #[54] ty #[.map (some n1)]).run Try.prog (wr.drewN d) = .ok (.int .i64 ps.length) (wr.drewN d) := fun d ty => Tab.len (Tab.later TT.out (below_drews (Below.refl _ _) d)) ty
        have ln0 := lnD 0
        have ln1 := lnD 1
        have c2' : wr.cell? ⟨w.heap.size, 2, none⟩ = some (.slice a k cap) := cell_of_row _ _ _ _ _ _ (F.out.at (.head _))
        clear OK FI e0
        go_wp2_with fail
        go_quiet (fail)
        go_wp2_with fail
        by_cases hpl : ps.length = k
        · have ND : bs.Pairwise (fun x y => x.key ≠ y.key) := by
            apply Classical.byContradiction
            intro hc
            have := f1.out.2.2 hc
            omega
          refine bodyPost_ret (v := .tuple #[.map (some n1), .bool true]) (by rw [results_tmp2 rfl]; simp [hpl]) rfl ⟨true, .map (some n1), rfl, ⟨fun _ => ⟨by omega, by omega, by omega, by rw [HN.out]; omega, c5, c6, o1.out, ND⟩, fun _ => rfl⟩, fun _ => ⟨n1, rfl, by omega, ?_⟩, below_drews F.out.bel _⟩
          rw [HN.out]
          exact Tab.perm (Tab.later TT.out (below_drews (Below.refl _ _) _)) (f1.out.2.1 ND)
        · have hne : ¬ ((ps.length : Int) = (k : Int)) := by omega
          refine bodyPost_ret (v := .tuple #[.map (some n1), .bool false]) (by rw [results_tmp2 rfl]; simp [hne]) rfl ⟨false, .map (some n1), rfl, noV fun h => hpl ?_, fun h => (by cases h), below_drews F.out.bel _⟩
          have := (f1.out.2.1 h.nd).length_eq
          rw [plsFrom_length, HN.out] at this
          exact this
  · rw [decide_eq_false c4]
    have C4 : Hid _ := c4
    clear c4
    go_wp2_with fail
    exact bodyPost_ret (v := .tuple #[.map none, .bool false]) (by rw [results_tmp2 rfl]; rfl) rfl ⟨false, .map none, rfl, noV fun h => C4.out ⟨h.s0, h.s1⟩, fun h => (by cases h), HW.out⟩
end Go.Proofs.Ytcjbenmbenkcpaa
