/- How many packets a limiter lets pass: a key's level falls by the cost of each and grows no faster than time. Nothing of the program. -/
import Derived.Test.YtcjbenmbenkcpaaLiQ
namespace Go.Proofs.Ytcjbenmbenkcpaa
open Go.RowKit
set_option linter.unusedVariables false
def levB (now : Int) (b : Bk) : Int := min (b.tok + (now - b.last)) 250000000
/-- The tokens that a key has at a time. -/
def lev (bs : List Bk) (K : List Int) (now : Int) : Int := match bs.find? (fun b => decide (b.key = K)) with | some b => levB now b | none => 250000000
theorem lev_none {bs : List Bk} {K : List Int} {now : Int} (h : ∀ b ∈ bs, b.key ≠ K) : lev bs K now = 250000000 := by
  unfold lev
  rw [List.find?_eq_none.2 (fun b hb => by simp [h b hb])]
theorem bk_one : ∀ {L : List Bk}, L.Pairwise (fun x y => x.key ≠ y.key) → ∀ {x y : Bk}, x ∈ L → y ∈ L → x.key = y.key → x = y
  | [], _, _, _, hx, _, _ => by cases hx
  | a :: r, hp, x, y, hx, hy, h => by
    obtain ⟨h1, h2⟩ := List.pairwise_cons.1 hp
    rcases List.mem_cons.1 hx with ex | hx'
    · rcases List.mem_cons.1 hy with ey | hy'
      · rw [ex, ey]
      · exact absurd (ex ▸ h) (h1 y hy')
    · rcases List.mem_cons.1 hy with ey | hy'
      · exact absurd (ey ▸ h).symm (h1 x hx')
      · exact bk_one h2 hx' hy' h
theorem lev_some {bs : List Bk} {now : Int} {b : Bk} (hp : bs.Pairwise (fun x y => x.key ≠ y.key)) (hb : b ∈ bs) : lev bs b.key now = levB now b := by
  unfold lev
  cases h : bs.find? (fun c => decide (c.key = b.key)) with
  | none => exact absurd (by simp) (List.find?_eq_none.1 h b hb)
  | some c =>
    have hc := List.mem_of_find?_eq_some h
    have hk : c.key = b.key := by simpa using List.find?_some h
    rw [bk_one hp hc hb hk]
theorem lev_case (bs : List Bk) (K : List Int) (hp : bs.Pairwise (fun x y => x.key ≠ y.key)) : (∃ b ∈ bs, b.key = K ∧ ∀ now, lev bs K now = levB now b) ∨ ((∀ b ∈ bs, b.key ≠ K) ∧ ∀ now, lev bs K now = 250000000) := by
  by_cases h : ∃ b ∈ bs, b.key = K
  · obtain ⟨b, hb, rfl⟩ := h
    exact .inl ⟨b, hb, rfl, fun now => lev_some hp hb⟩
  · have h2 : ∀ b ∈ bs, b.key ≠ K := fun b hb e => h ⟨b, hb, e⟩
    exact .inr ⟨h2, fun now => lev_none h2⟩
theorem lev_bounds {m s now : Int} {bs : List Bk} (V : ValidP m s bs now) (K : List Int) : 0 ≤ lev bs K now ∧ lev bs K now ≤ 250000000 := by
  rcases lev_case bs K V.nd with ⟨b, hb, _, e⟩ | ⟨_, e⟩
  · rw [e]
    have := V.each b hb
    unfold OkB at this
    unfold levB
    omega
  · rw [e]; omega
theorem lev_grow {m s now now' : Int} {bs : List Bk} (V : ValidP m s bs now) (K : List Int) (h : now ≤ now') : lev bs K now' ≤ lev bs K now + (now' - now) := by
  rcases lev_case bs K V.nd with ⟨b, hb, _, e⟩ | ⟨_, e⟩
  · rw [e, e]
    unfold levB
    omega
  · rw [e, e]; omega
theorem valid_later {m s now now' : Int} {bs : List Bk} (V : ValidP m s bs now) (h : now ≤ now') : ValidP m s bs now' :=
  ⟨by have := V.now0; omega, V.m1, V.m2, V.len, V.s0, by have := V.s1; omega, fun b hb => by have := V.each b hb; unfold OkB at this ⊢; omega, V.nd⟩
theorem leftB_in {now : Int} {b : Bk} (h : OkB now b) : 0 ≤ leftB now b ∧ leftB now b ≤ 250000000 := by
  unfold OkB at h
  unfold leftB passB grownB
  by_cases hp : 50000000 ≤ min (b.tok + min (now - b.last) 250000000) 250000000
  · simp [hp]; omega
  · simp [hp]; omega
theorem grown_lev {now : Int} {b : Bk} (h : OkB now b) : grownB now b = levB now b := by
  unfold OkB at h
  unfold grownB levB
  omega
theorem kept_sub {s now : Int} {bs : List Bk} {b : Bk} (h : b ∈ bs.filter (keepB (swB s now) now)) : b ∈ bs := (List.mem_filter.1 h).1
theorem updB_key (q : Bk) (now : Int) (b : Bk) : (updB q now b).key = b.key := by
  unfold updB
  split
  · rename_i h; exact h.symm
  · rfl
theorem out_keys (sw : Bool) (q : Bk) (now : Int) (bs : List Bk) : (outL sw q now bs).map (·.key) = (bs.filter (keepB sw now)).map (·.key) := by
  unfold outL
  rw [List.map_map]
  exact List.map_congr_left (fun b _ => updB_key q now b)
theorem out_nd {m s now : Int} {bs : List Bk} (V : ValidP m s bs now) (q : Bk) : (outL (swB s now) q now bs).Pairwise (fun x y => x.key ≠ y.key) := by
  have h1 : (bs.filter (keepB (swB s now) now)).Pairwise (fun x y => x.key ≠ y.key) := V.nd.filter _
  have h2 : ((bs.filter (keepB (swB s now) now)).map (·.key)).Pairwise (· ≠ ·) := List.pairwise_map.2 h1
  rw [← out_keys _ q, List.pairwise_map] at h2
  exact h2
theorem mem_out {sw : Bool} {q : Bk} {now : Int} {bs : List Bk} {c : Bk} (h : c ∈ outL sw q now bs) : ∃ b ∈ bs, keepB sw now b = true ∧ c = updB q now b := by
  obtain ⟨b, hb, rfl⟩ := List.mem_map.1 h
  exact ⟨b, (List.mem_filter.1 hb).1, (List.mem_filter.1 hb).2, rfl⟩
theorem add_iff {m s now : Int} {bs : List Bk} {q : Bk} (h : addL m s bs q now = true) : (∀ b ∈ bs, keepB (swB s now) now b = true → b.key ≠ q.key) ∧ ((outL (swB s now) q now bs).length : Int) < m := by
  unfold addL at h
  simp only [Bool.and_eq_true, Bool.not_eq_true', decide_eq_true_eq] at h
  refine ⟨fun b hb hk e => ?_, h.2⟩
  have := List.any_eq_false.1 h.1 b (List.mem_filter.2 ⟨hb, hk⟩)
  simp [isK, e] at this
theorem res_valid {m s now : Int} {bs : List Bk} (V : ValidP m s bs now) (q : Bk) : ValidP m (resS s now) (resL m s bs q now) now := by
  have hO : ∀ c ∈ outL (swB s now) q now bs, OkB now c := fun c hc => by
    obtain ⟨b, hb, _, rfl⟩ := mem_out hc
    unfold updB
    split
    · have := leftB_in (V.each b hb)
      have h0 := V.now0
      exact ⟨this.1, this.2, h0, Int.le_refl _⟩
    · exact V.each b hb
  have hl := out_length (swB s now) q now bs
  have hlen := V.len
  refine ⟨V.now0, V.m1, V.m2, ?_, ?_, ?_, ?_, ?_⟩
  · unfold resL
    cases ha : addL m s bs q now
    · simp; omega
    · have := (add_iff ha).2
      simp; omega
  · unfold resS
    split
    · exact V.now0
    · exact V.s0
  · unfold resS
    split
    · exact Int.le_refl _
    · exact V.s1
  · unfold resL
    cases ha : addL m s bs q now
    · simpa using hO
    · intro c hc
      simp only [if_true] at hc
      rcases List.mem_append.1 hc with hc | hc
      · exact hO c hc
      · rw [List.mem_singleton] at hc
        rw [hc]
        exact ⟨by show (0 : Int) ≤ 200000000; decide, by show (200000000 : Int) ≤ 250000000; decide, V.now0, Int.le_refl _⟩
  · unfold resL
    cases ha : addL m s bs q now
    · simpa using out_nd V q
    · simp only [if_true]
      rw [List.pairwise_append]
      refine ⟨out_nd V q, by simp, fun x hx y hy => ?_⟩
      rw [List.mem_singleton] at hy
      rw [hy]
      obtain ⟨b, hb, hk, rfl⟩ := mem_out hx
      rw [updB_key]
      exact (add_iff ha).1 b hb hk
/-- A bucket that is swept is full. -/
theorem swept_full {m s now : Int} {bs : List Bk} (V : ValidP m s bs now) {b : Bk} (hb : b ∈ bs) (h : keepB (swB s now) now b = false) : levB now b = 250000000 := by
  have := V.each b hb
  unfold OkB at this
  unfold keepB at h
  simp at h
  unfold levB
  omega
theorem pass_of {m s now : Int} {bs : List Bk} (V : ValidP m s bs now) {q b : Bk} (hb : b ∈ bs) (hk : keepB (swB s now) now b = true) (he : b.key = q.key) : addL m s bs q now = false ∧ resP m s bs q now = passB now b := by
  have hf : foundL (swB s now) q now bs = true := List.any_eq_true.2 ⟨b, List.mem_filter.2 ⟨hb, hk⟩, by simp [isK, he]⟩
  have ha : addL m s bs q now = false := by unfold addL; rw [hf]; rfl
  refine ⟨ha, ?_⟩
  unfold resP
  rw [ha]
  simp only [Bool.false_eq_true, if_false]
  unfold passL
  exact fold_yes q now _ false b (V.nd.filter _) (List.mem_filter.2 ⟨hb, hk⟩) he
theorem pass_none {m s now : Int} {bs : List Bk} {q : Bk} (h : ∀ b ∈ bs, keepB (swB s now) now b = true → b.key ≠ q.key) : resP m s bs q now = addL m s bs q now := by
  unfold resP
  cases ha : addL m s bs q now
  · simp only [Bool.false_eq_true, if_false]
    unfold passL
    exact fold_no q now _ false (fun b hb => h b (List.mem_filter.1 hb).1 (List.mem_filter.1 hb).2)
  · rfl
/-- What the level is behind a call. -/
theorem lev_res {m s now : Int} {bs : List Bk} (V : ValidP m s bs now) (q : Bk) (K : List Int) : lev (resL m s bs q now) K now = lev bs K now - (if K = q.key ∧ resP m s bs q now = true then 50000000 else 0) := by
  have V' := res_valid V q
  by_cases hin : ∃ b ∈ bs, keepB (swB s now) now b = true ∧ b.key = K
  · obtain ⟨b, hb, hk, rfl⟩ := hin
    have hmem : updB q now b ∈ resL m s bs q now := by
      have : updB q now b ∈ outL (swB s now) q now bs := List.mem_map.2 ⟨b, List.mem_filter.2 ⟨hb, hk⟩, rfl⟩
      unfold resL
      split
      · exact List.mem_append_left _ this
      · exact this
    have e1 := lev_some (now := now) V'.nd hmem
    rw [updB_key] at e1
    rw [e1, lev_some V.nd hb]
    have ok := V.each b hb
    by_cases he : b.key = q.key
    · have hp := (pass_of V hb hk he).2
      have hu : updB q now b = setBk q (leftB now b) now := by unfold updB; rw [if_pos he]
      have hg := grown_lev ok
      have hli := leftB_in ok
      rw [hu]
      show min (leftB now b + (now - now)) 250000000 = _
      cases hpb : passB now b
      · rw [hp, hpb]
        have : leftB now b = grownB now b := by unfold leftB; rw [hpb]; rfl
        simp
        omega
      · rw [hp, hpb]
        have : leftB now b = grownB now b - 50000000 := by unfold leftB; rw [hpb]; rfl
        simp [he]
        omega
    · have hu : updB q now b = b := by unfold updB; rw [if_neg he]
      rw [hu]
      simp [he]
  · have hno : ∀ b ∈ bs, keepB (swB s now) now b = true → b.key ≠ K := fun b hb hk e => hin ⟨b, hb, hk, e⟩
    have hfull : lev bs K now = 250000000 := by
      rcases lev_case bs K V.nd with ⟨b, hb, e, e2⟩ | ⟨_, e⟩
      · rw [e2]
        cases hkb : keepB (swB s now) now b
        · exact swept_full V hb hkb
        · exact absurd e (hno b hb hkb)
      · exact e now
    have hout : ∀ c ∈ outL (swB s now) q now bs, c.key ≠ K := fun c hc => by
      obtain ⟨b, hb, hk, rfl⟩ := mem_out hc
      rw [updB_key]
      exact hno b hb hk
    rw [hfull]
    by_cases he : K = q.key
    · rw [pass_none (fun b hb hk => he ▸ hno b hb hk)]
      cases ha : addL m s bs q now
      · have : resL m s bs q now = outL (swB s now) q now bs := by unfold resL; rw [ha]; rfl
        rw [this, lev_none hout]
        simp
      · have : setBk q 200000000 now ∈ resL m s bs q now := by unfold resL; rw [ha]; simp
        have e1 := lev_some (now := now) V'.nd this
        have hk2 : (setBk q 200000000 now).key = K := he.symm
        rw [hk2] at e1
        rw [e1]
        show min (200000000 + (now - now)) 250000000 = _
        rw [if_pos ⟨he, rfl⟩]
        omega
    · have : ∀ c ∈ resL m s bs q now, c.key ≠ K := fun c hc => by
        unfold resL at hc
        split at hc
        · rcases List.mem_append.1 hc with hc | hc
          · exact hout c hc
          · rw [List.mem_singleton] at hc
            rw [hc]
            exact fun e => he e.symm
        · exact hout c hc
      rw [lev_none this]
      simp [he]
/-- Who has been idle for the cost of a token passes. -/
theorem idle_pass {m s now : Int} {bs : List Bk} (V : ValidP m s bs now) {q b : Bk} (hb : b ∈ bs) (he : b.key = q.key) (hi : 50000000 ≤ now - b.last) : resP m s bs q now = true := by
  have ok := V.each b hb
  unfold OkB at ok
  cases hk : keepB (swB s now) now b
  · have hno : ∀ c ∈ bs, keepB (swB s now) now c = true → c.key ≠ q.key := fun c hc hkc e => by
      have := bk_one V.nd hc hb (e.trans he.symm)
      rw [this, hk] at hkc
      cases hkc
    rw [pass_none hno]
    have hlt : (outL (swB s now) q now bs).length < bs.length := by
      rw [outL, List.length_map, List.length_filter_lt_length_iff_exists]
      exact ⟨b, hb, by rw [hk]; simp⟩
    have hf : foundL (swB s now) q now bs = false := by
      unfold foundL
      rw [List.any_eq_false]
      intro c hc
      have := hno c (List.mem_filter.1 hc).1 (List.mem_filter.1 hc).2
      simp [isK, this]
    have := V.len
    unfold addL
    rw [hf]
    simp
    omega
  · rw [(pass_of V hb hk he).2]
    unfold passB grownB
    simp
    omega
/-- Who passes has a bucket behind it. -/
theorem pass_has {m s now : Int} {bs : List Bk} (V : ValidP m s bs now) {q : Bk} (h : resP m s bs q now = true) : ∃ c ∈ resL m s bs q now, c.key = q.key := by
  by_cases hin : ∃ b ∈ bs, keepB (swB s now) now b = true ∧ b.key = q.key
  · obtain ⟨b, hb, hk, he⟩ := hin
    refine ⟨updB q now b, ?_, by rw [updB_key]; exact he⟩
    have : updB q now b ∈ outL (swB s now) q now bs := List.mem_map.2 ⟨b, List.mem_filter.2 ⟨hb, hk⟩, rfl⟩
    unfold resL
    split
    · exact List.mem_append_left _ this
    · exact this
  · have hno : ∀ b ∈ bs, keepB (swB s now) now b = true → b.key ≠ q.key := fun b hb hk e => hin ⟨b, hb, hk, e⟩
    rw [pass_none hno] at h
    exact ⟨setBk q 200000000 now, by unfold resL; rw [h]; simp, rfl⟩
/-! The calls so far: time, key, whether it passed. -/
structure Cl where
  t : Int
  k : List Int
  p : Bool
def cnt (K : List Int) (H : List Cl) : Int := ((H.filter (fun c => c.p && decide (c.k = K))).length : Int)
theorem cnt_snoc (K : List Int) (H : List Cl) (c : Cl) : cnt K (H ++ [c]) = cnt K H + (if c.k = K ∧ c.p = true then 1 else 0) := by
  unfold cnt
  rw [List.filter_append, List.length_append]
  by_cases h : c.k = K
  · cases hp : c.p <;> simp [h, hp]
  · simp [h]
/-- What is known of the calls so far, the table being bs at now. -/
structure Hist (H : List Cl) (bs : List Bk) (now : Int) : Prop where
  le : ∀ c ∈ H, c.t ≤ now
  up : H.Pairwise (fun x y => x.t ≤ y.t)
  all : ∀ i (h : i < H.length), 50000000 * cnt H[i].k (H.drop i) + lev bs H[i].k now ≤ 250000000 + (now - H[i].t)
  fin : ∀ i j (hi : i ≤ j) (h : j < H.length), 50000000 * cnt (H[i]'(by omega)).k ((H.take (j + 1)).drop i) ≤ 250000000 + (H[j].t - (H[i]'(by omega)).t)
theorem hist_start (bs : List Bk) (now : Int) : Hist [] bs now := ⟨fun c h => (by cases h), List.Pairwise.nil, fun i h => absurd h (Nat.not_lt_zero _), fun i j _ h => absurd h (Nat.not_lt_zero _)⟩
theorem hist_next {m s now now' : Int} {bs : List Bk} {H : List Cl} (V : ValidP m s bs now) (h : Hist H bs now) (hn : now ≤ now') (q : Bk) : Hist (H ++ [⟨now', q.key, resP m s bs q now'⟩]) (resL m s bs q now') now' := by
  have V2 := valid_later V hn
  have V3 := res_valid V2 q
  have hall : ∀ i (hi : i < (H ++ [(⟨now', q.key, resP m s bs q now'⟩ : Cl)]).length), 50000000 * cnt (H ++ [(⟨now', q.key, resP m s bs q now'⟩ : Cl)])[i].k ((H ++ [(⟨now', q.key, resP m s bs q now'⟩ : Cl)]).drop i) + lev (resL m s bs q now') (H ++ [(⟨now', q.key, resP m s bs q now'⟩ : Cl)])[i].k now' ≤ 250000000 + (now' - (H ++ [(⟨now', q.key, resP m s bs q now'⟩ : Cl)])[i].t) := by
    intro i hi
    by_cases hlt : i < H.length
    · rw [List.getElem_append_left hlt, List.drop_append_of_le_length (by omega), cnt_snoc, lev_res V2 q]
      have h1 := h.all i hlt
      have h2 := lev_grow V H[i].k hn
      generalize cnt H[i].k (H.drop i) = z at *
      by_cases hk : H[i].k = q.key
      · cases hp : resP m s bs q now'
        · simp [hk] at *; omega
        · simp [hk] at *; omega
      · have hk2 : ¬ q.key = H[i].k := fun e => hk e.symm
        simp [hk, hk2] at *
        omega
    · have hie : i = H.length := by simp at hi; omega
      subst hie
      have e1 : (H ++ [(⟨now', q.key, resP m s bs q now'⟩ : Cl)])[H.length] = ⟨now', q.key, resP m s bs q now'⟩ := by simp
      have e2 : (H ++ [(⟨now', q.key, resP m s bs q now'⟩ : Cl)]).drop H.length = [] ++ [⟨now', q.key, resP m s bs q now'⟩] := by simp
      rw [e1, e2, cnt_snoc, lev_res V2 q]
      have h2 := lev_bounds V2 q.key
      cases hp : resP m s bs q now'
      · simp [cnt]; omega
      · simp [cnt]; omega
  refine ⟨?_, ?_, hall, ?_⟩
  · intro c hc
    rcases List.mem_append.1 hc with hc | hc
    · have := h.le c hc; omega
    · rw [List.mem_singleton] at hc
      rw [hc]
      exact Int.le_refl _
  · rw [List.pairwise_append]
    refine ⟨h.up, by simp, fun x hx y hy => ?_⟩
    rw [List.mem_singleton] at hy
    rw [hy]
    have := h.le x hx
    show x.t ≤ now'
    omega
  · intro i j hij hj
    by_cases hlt : j < H.length
    · have e1 : (H ++ [(⟨now', q.key, resP m s bs q now'⟩ : Cl)])[i]'(by omega) = H[i]'(by omega) := List.getElem_append_left (by omega)
      have e2 : (H ++ [(⟨now', q.key, resP m s bs q now'⟩ : Cl)])[j] = H[j] := List.getElem_append_left hlt
      rw [e1, e2, List.take_append_of_le_length (by omega)]
      exact h.fin i j hij hlt
    · have hje : j = H.length := by simp at hj; omega
      subst hje
      have e2 : (H ++ [(⟨now', q.key, resP m s bs q now'⟩ : Cl)])[H.length] = ⟨now', q.key, resP m s bs q now'⟩ := by simp
      have e3 : (H ++ [(⟨now', q.key, resP m s bs q now'⟩ : Cl)]).take (H.length + 1) = H ++ [⟨now', q.key, resP m s bs q now'⟩] := List.take_of_length_le (by simp)
      rw [e2, e3]
      have h1 := hall i (by omega)
      have h2 := lev_bounds V3 ((H ++ [(⟨now', q.key, resP m s bs q now'⟩ : Cl)])[i]'(by omega)).k
      show _ ≤ 250000000 + (now' - _)
      omega
end Go.Proofs.Ytcjbenmbenkcpaa
