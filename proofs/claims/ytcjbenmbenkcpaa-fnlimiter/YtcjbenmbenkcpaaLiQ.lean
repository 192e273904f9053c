/- The table's way and the list's way come to one answer. Nothing of the program. -/
import Derived.Test.YtcjbenmbenkcpaaLiL
namespace Go.Proofs.Ytcjbenmbenkcpaa
open Go.RowKit
set_option linter.unusedVariables false
theorem sorted_eq : ∀ {b a : List Pl}, a.Perm b → a.Pairwise (fun x y => x.pos ≤ y.pos) → b.Pairwise (fun x y => x.pos < y.pos) → a = b
  | [], a, h, _, _ => h.eq_nil
  | y :: b, a, h, ha, hb => by
    cases a with
    | nil => have := h.length_eq; simp at this
    | cons x a =>
      obtain ⟨h1, h2⟩ := List.pairwise_cons.1 ha
      obtain ⟨h3, h4⟩ := List.pairwise_cons.1 hb
      have hxy : x = y := by
        rcases List.mem_cons.1 (h.mem_iff.1 List.mem_cons_self) with e | hx
        · exact e
        · rcases List.mem_cons.1 (h.mem_iff.2 (List.mem_cons_self (a := y) (l := b))) with e | hy
          · exact e.symm
          · have g1 := h3 x hx
            have g2 := h1 y hy
            omega
      subst hxy
      rw [sorted_eq h.cons_inv h2 h4]
theorem setBk_eq {b q : Bk} (h : b.key = q.key) (t l : Int) : setBk b t l = setBk q t l := by
  obtain ⟨k, _, _, _, _⟩ := b
  obtain ⟨k', _, _, _, _⟩ := q
  simp only at h
  subst h
  rfl
theorem plsFrom_pos (bs : List Bk) : ∀ k, (plsFrom k bs).Pairwise (fun x y => x.pos < y.pos) ∧ ∀ p ∈ plsFrom k bs, (k : Int) ≤ p.pos ∧ p.pos < (k : Int) + bs.length := by
  induction bs with
  | nil => intro k; exact ⟨List.Pairwise.nil, fun p h => by cases h⟩
  | cons b r ih =>
    intro k
    obtain ⟨h1, h2⟩ := ih (k + 1)
    refine ⟨List.pairwise_cons.2 ⟨fun p hp => ?_, h1⟩, fun p hp => ?_⟩
    · have := (h2 p hp).1
      show (k : Int) < p.pos
      omega
    · rcases List.mem_cons.1 hp with rfl | hp
      · simp
        omega
      · have := h2 p hp
        simp
        omega
theorem filter_pls (f : Bk → Bool) (ps : List Pl) : (ps.filter (fun p => f p.b)).map (·.b) = (ps.map (·.b)).filter f := by
  rw [List.filter_map]
  rfl
theorem fold_no (q : Bk) (now : Int) : ∀ (L : List Bk) (i : Bool), (∀ b ∈ L, b.key ≠ q.key) → L.foldl (fun p b => if b.key = q.key then passB now b else p) i = i
  | [], _, _ => rfl
  | x :: r, i, h => by
    rw [List.foldl_cons, if_neg (h x List.mem_cons_self)]
    exact fold_no q now r i (fun b hb => h b (List.mem_cons_of_mem _ hb))
theorem fold_yes (q : Bk) (now : Int) : ∀ (L : List Bk) (i : Bool) (b : Bk), L.Pairwise (fun x y => x.key ≠ y.key) → b ∈ L → b.key = q.key → L.foldl (fun p b => if b.key = q.key then passB now b else p) i = passB now b
  | [], _, _, _, h, _ => by cases h
  | x :: r, i, b, hp, hm, hk => by
    obtain ⟨h1, h2⟩ := List.pairwise_cons.1 hp
    rw [List.foldl_cons]
    by_cases hx : x.key = q.key
    · have hxb : x = b := by
        rcases List.mem_cons.1 hm with e | hb
        · exact e.symm
        · exact absurd (hx.trans hk.symm) (h1 b hb)
      subst hxb
      rw [if_pos hx]
      exact fold_no q now r _ (fun y hy e => h1 y hy (hx.trans e.symm))
    · rw [if_neg hx]
      rcases List.mem_cons.1 hm with e | hb
      · rw [e] at hk; exact absurd hk hx
      · exact fold_yes q now r i b h2 hb hk
def updP (q : Bk) (now : Int) (x : Pl) : Pl := if x.b.key = q.key then ⟨setBk x.b (leftB now x.b) now, x.pos⟩ else x
theorem upd_perm (q : Bk) (now : Int) : ∀ (ps : List Pl) (p : Pl), ps.Pairwise (fun x y => x.b.key ≠ y.b.key) → p ∈ ps → p.b.key = q.key → (⟨setBk p.b (leftB now p.b) now, p.pos⟩ :: ps.filter (neK p)).Perm (ps.map (updP q now))
  | [], _, _, h, _ => by cases h
  | x :: r, p, hp, hm, hk => by
    obtain ⟨h1, h2⟩ := List.pairwise_cons.1 hp
    by_cases hx : x.b.key = q.key
    · have hxp : x = p := pair_one hp List.mem_cons_self hm (hx.trans hk.symm)
      subst hxp
      have hr : ∀ y ∈ r, y.b.key ≠ x.b.key := fun y hy e => h1 y hy e.symm
      have e1 : (x :: r).filter (neK x) = r := by
        rw [List.filter_cons]
        have : neK x x = false := by simp [neK]
        rw [this]
        exact put_new hr
      have e2 : r.map (updP q now) = r := by
        conv => rhs; rw [← List.map_id r]
        apply List.map_congr_left
        intro y hy
        unfold updP
        rw [if_neg (fun e => hr y hy (e.trans hx.symm))]
        rfl
      rw [e1, List.map_cons, e2]
      unfold updP
      rw [if_pos hx]
    · have hpr : p ∈ r := by
        rcases List.mem_cons.1 hm with e | h
        · rw [e] at hk; exact absurd hk hx
        · exact h
      have ih := upd_perm q now r p h2 hpr hk
      have e1 : (x :: r).filter (neK p) = x :: r.filter (neK p) := by
        rw [List.filter_cons]
        have : neK p x = true := by unfold neK; exact decide_eq_true (fun e => hx (e.trans hk))
        rw [this]
        rfl
      rw [e1, List.map_cons]
      have e3 : updP q now x = x := by unfold updP; rw [if_neg hx]
      rw [e3]
      exact (List.Perm.swap x _ _).trans (ih.cons x)
def kept (s : Int) (bs : List Bk) (now : Int) : List Pl := (plsFrom 0 bs).filter (fun p => keepB (swB s now) now p.b)
theorem kept_map (s : Int) (bs : List Bk) (now : Int) : (kept s bs now).map (·.b) = bs.filter (keepB (swB s now) now) := by
  unfold kept
  rw [filter_pls, plsFrom_map]
theorem take_res (m s now : Int) (bs : List Bk) (q : Bk) (V : ValidP m s bs now) (ps' : List Pl) (h : ps'.Perm (takeL (kept s bs now) q m now)) (hs : ps'.Pairwise (fun x y => x.pos ≤ y.pos)) :
    ps'.map (·.b) = resL m s bs q now ∧ tookB (kept s bs now) q m now = resP m s bs q now := by
  obtain ⟨hpos, hin⟩ := plsFrom_pos bs 0
  have kpos : (kept s bs now).Pairwise (fun x y => x.pos < y.pos) := hpos.filter _
  have kin : ∀ p ∈ kept s bs now, p.pos < m := fun p hp => by
    have h1 := (hin p (List.mem_filter.1 hp).1).2
    have h2 := V.len
    omega
  have kb := kept_map s bs now
  have kap : (kept s bs now).Pairwise (fun x y => x.b.key ≠ y.b.key) := by
    have h1 : (bs.filter (keepB (swB s now) now)).Pairwise (fun x y => x.key ≠ y.key) := V.nd.filter _
    rw [← kb, List.pairwise_map] at h1
    exact h1
  have kl : (outL (swB s now) q now bs).length = (kept s bs now).length := by rw [outL, List.length_map, ← kb, List.length_map]
  have fany : foundL (swB s now) q now bs = (kept s bs now).any (fun p => isK q p.b) := by
    unfold foundL
    rw [← kb, List.any_map]
    rfl
  cases hf : (kept s bs now).find? (fun p => isK q p.b) with
  | some p =>
    have hp := List.mem_of_find?_eq_some hf
    have hk : p.b.key = q.key := by have := List.find?_some hf; simpa [isK] using this
    have ft : foundL (swB s now) q now bs = true := by rw [fany]; exact List.any_eq_true.2 ⟨p, hp, by simp [isK, hk]⟩
    have ea : addL m s bs q now = false := by unfold addL; rw [ft]; rfl
    have et : takeL (kept s bs now) q m now = ⟨setBk p.b (leftB now p.b) now, p.pos⟩ :: (kept s bs now).filter (neK p) := by unfold takeL; rw [hf]
    rw [et] at h
    have hu := h.trans (upd_perm q now _ p kap hp hk)
    have upos : ((kept s bs now).map (updP q now)).Pairwise (fun x y => x.pos < y.pos) := by
      rw [List.pairwise_map]
      refine kpos.imp (fun {x y} hxy => ?_)
      have ex : ∀ z, (updP q now z).pos = z.pos := fun z => by unfold updP; split <;> rfl
      rw [ex, ex]
      exact hxy
    have e := sorted_eq hu hs upos
    refine ⟨?_, ?_⟩
    · rw [e, resL, ea]
      simp only [Bool.false_eq_true, if_false]
      rw [outL, ← kb, List.map_map, List.map_map]
      apply List.map_congr_left
      intro x _
      show (updP q now x).b = updB q now x.b
      unfold updP updB
      by_cases hx : x.b.key = q.key
      · rw [if_pos hx, if_pos hx]
        exact setBk_eq hx _ _
      · rw [if_neg hx, if_neg hx]
    · unfold tookB
      rw [hf, resP, ea]
      simp only [Bool.false_eq_true, if_false]
      unfold passL
      rw [← kb]
      rw [fold_yes q now _ false p.b (by rw [List.pairwise_map]; exact kap) (List.mem_map.2 ⟨p, hp, rfl⟩) hk]
  | none =>
    have hno : ∀ x ∈ kept s bs now, x.b.key ≠ q.key := fun x hx => by have := List.find?_eq_none.1 hf x hx; simpa [isK] using this
    have hnb : ∀ b ∈ bs.filter (keepB (swB s now) now), b.key ≠ q.key := by
      rw [← kb]
      intro b hb
      obtain ⟨x, hx, rfl⟩ := List.mem_map.1 hb
      exact hno x hx
    have ff : foundL (swB s now) q now bs = false := by
      rw [fany, List.any_eq_false]
      intro x hx
      simp [isK, hno x hx]
    have eo : outL (swB s now) q now bs = bs.filter (keepB (swB s now) now) := by
      unfold outL
      conv => rhs; rw [← List.map_id (bs.filter (keepB (swB s now) now))]
      apply List.map_congr_left
      intro b hb
      unfold updB
      rw [if_neg (hnb b hb)]
      rfl
    by_cases hm : m ≤ ((kept s bs now).length : Int)
    · have ea : addL m s bs q now = false := by
        unfold addL
        rw [ff, kl]
        simp
        omega
      have et : takeL (kept s bs now) q m now = kept s bs now := by unfold takeL; rw [hf]; simp [hm]
      rw [et] at h
      have e := sorted_eq h hs kpos
      refine ⟨?_, ?_⟩
      · rw [e, resL, ea, kb, eo]
        rfl
      · unfold tookB
        rw [hf, resP, ea]
        simp only [hm, if_true, Bool.false_eq_true, if_false]
        unfold passL
        rw [fold_no q now _ _ hnb]
    · have ea : addL m s bs q now = true := by
        unfold addL
        rw [ff, kl]
        simp
        omega
      have et : takeL (kept s bs now) q m now = ⟨setBk q 200000000 now, m⟩ :: kept s bs now := by unfold takeL; rw [hf]; simp [hm]
      rw [et] at h
      have h2 := h.trans (List.perm_append_singleton _ _).symm
      have apos : (kept s bs now ++ [(⟨setBk q 200000000 now, m⟩ : Pl)]).Pairwise (fun x y => x.pos < y.pos) := by
        rw [List.pairwise_append]
        refine ⟨kpos, by simp, fun x hx y hy => ?_⟩
        rw [List.mem_singleton] at hy
        rw [hy]
        exact kin x hx
      have e := sorted_eq h2 hs apos
      refine ⟨?_, ?_⟩
      · rw [e, resL, ea, List.map_append, kb, eo]
        rfl
      · unfold tookB
        rw [hf, resP, ea]
        simp [hm]
end Go.Proofs.Ytcjbenmbenkcpaa
