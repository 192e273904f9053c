/- The program's ladder in lists of limbs, and what they stand for. Nothing of the walk. -/
import Derived.Test.YtikicljlgfgfbaaUP
import Derived.Test.YtikicljlgfgfbaaUJ
namespace Go.Proofs.Ytikicljlgfgfbaa
open Go.RowKit
set_option linter.unusedVariables false
def lsA (q : QuadL) : List Int := plusF q.x1 q.z1
def lsB (q : QuadL) : List Int := minusF q.x1 q.z1
def lsC (q : QuadL) : List Int := plusF q.x2 q.z2
def lsD (q : QuadL) : List Int := minusF q.x2 q.z2
def lsAA (q : QuadL) : List Int := timesF (lsA q) (lsA q)
def lsBB (q : QuadL) : List Int := timesF (lsB q) (lsB q)
def lsE (q : QuadL) : List Int := minusF (lsAA q) (lsBB q)
def lsDA (q : QuadL) : List Int := timesF (lsD q) (lsA q)
def lsCB (q : QuadL) : List Int := timesF (lsC q) (lsB q)
def lsS (q : QuadL) : List Int := plusF (lsDA q) (lsCB q)
def lsF (q : QuadL) : List Int := minusF (lsDA q) (lsCB q)
/-- One step: twice the one, and the sum of the two. -/
def stepF (u : List Int) (q : QuadL) : QuadL := ⟨timesF (lsAA q) (lsBB q), timesF (lsE q) (plusF (lsAA q) (timesF (lsE q) [121665, 0, 0, 0, 0])), timesF (lsS q) (lsS q), timesF u (timesF (lsF q) (lsF q))⟩
def swapQ (q : QuadL) : QuadL := ⟨q.x2, q.z2, q.x1, q.z1⟩
def ladF (k u : List Int) : Nat → QuadL
  | 0 => ⟨[1, 0, 0, 0, 0], [0, 0, 0, 0, 0], u, [1, 0, 0, 0, 0]⟩
  | m + 1 => if k.getD ((254 - m) / 8) 0 / 2 ^ ((254 - m) % 8) % 2 = 1 then swapQ (stepF u (swapQ (ladF k u m))) else stepF u (ladF k u m)
structure QSt (q : QuadL) (n : Quad) : Prop where
  x1 : Stands q.x1 n.x1
  z1 : Stands q.z1 n.z1
  x2 : Stands q.x2 n.x2
  z2 : Stands q.z2 n.z2
theorem QSt.step {u : List Int} {q : QuadL} {n : Quad} {y : Int} (hu : Stands u y) (h : QSt q n) : QSt (stepF u q) ⟨dblX n.x1 n.z1, dblZ n.x1 n.z1, sumX n.x1 n.z1 n.x2 n.z2, sumZ n.x1 n.z1 n.x2 n.z2 y⟩ := by
  obtain ⟨h1, h2, h3, h4⟩ := h
  have ha : Stands (lsA q) _ := h1.plus h2
  have hb : Stands (lsB q) _ := h1.minus h2
  have hc : Stands (lsC q) _ := h3.plus h4
  have hd : Stands (lsD q) _ := h3.minus h4
  have haa : Stands (lsAA q) _ := ha.times ha
  have hbb : Stands (lsBB q) _ := hb.times hb
  have he : Stands (lsE q) _ := haa.minus hbb
  have hda : Stands (lsDA q) _ := hd.times ha
  have hcb : Stands (lsCB q) _ := hc.times hb
  have hs : Stands (lsS q) _ := hda.plus hcb
  have hf : Stands (lsF q) _ := hda.minus hcb
  refine ⟨haa.times hbb, ?_, hs.times hs, hu.times (hf.times hf)⟩
  have h9 := he.times (haa.plus (he.times (stands_dig 121665 (by decide))))
  have e9 : dblZ n.x1 n.z1 = ((n.x1 + n.z1) * (n.x1 + n.z1) - (n.x1 - n.z1) * (n.x1 - n.z1)) * ((n.x1 + n.z1) * (n.x1 + n.z1) + ((n.x1 + n.z1) * (n.x1 + n.z1) - (n.x1 - n.z1) * (n.x1 - n.z1)) * 121665) := by
    unfold dblZ dblE
    rw [Int.mul_comm 121665]
  show Stands _ (dblZ n.x1 n.z1)
  rw [e9]
  exact h9
theorem QSt.swap {q : QuadL} {n : Quad} (h : QSt q n) : QSt (swapQ q) ⟨n.x2, n.z2, n.x1, n.z1⟩ := ⟨h.x2, h.z2, h.x1, h.z1⟩
theorem ladF_ok (k u : List Int) (y : Int) (hu : Stands u y) (bit : Nat → Bool) (hbit : ∀ n, n ≤ 254 → (bit n = true ↔ k.getD (n / 8) 0 / 2 ^ (n % 8) % 2 = 1)) : ∀ m, m ≤ 255 → QSt (ladF k u m) (pairN bit y m)
  | 0, _ => ⟨stands_dig 1 (by decide), stands_dig 0 (by decide), hu, stands_dig 1 (by decide)⟩
  | m + 1, hm => by
    have ih := ladF_ok k u y hu bit hbit m (by omega)
    have hb := hbit (254 - m) (by omega)
    unfold ladF pairN
    by_cases h : k.getD ((254 - m) / 8) 0 / 2 ^ ((254 - m) % 8) % 2 = 1
    · rw [if_pos h, if_pos (hb.2 h)]
      have h1 := (ih.swap.step hu).swap
      rw [sumX_comm (pairN bit y m).x1, sumZ_comm (pairN bit y m).x1]
      exact h1
    · rw [if_neg h, if_neg (fun hx => h (hb.1 hx))]
      exact ih.step hu
theorem QSt.el {q : QuadL} {n : Quad} (h : QSt q n) : ElL q.x1 ∧ ElL q.z1 ∧ ElL q.x2 ∧ ElL q.z2 := ⟨h.x1.1, h.z1.1, h.x2.1, h.z2.1⟩
theorem Stands.self {l : List Int} (h : ElL l) : Stands l (vL l) := ⟨h, 0, by omega⟩
/-- All limbs are in their bounds. -/
structure QEl (q : QuadL) : Prop where
  x1 : ElL q.x1
  z1 : ElL q.z1
  x2 : ElL q.x2
  z2 : ElL q.z2
theorem plusF_el {a b : List Int} (ha : ElL a) (hb : ElL b) : ElL (plusF a b) := (plusF_ok a b ha hb).1
theorem minusF_el {a b : List Int} (ha : ElL a) (hb : ElL b) : ElL (minusF a b) := (minusF_ok a b ha hb).1
theorem timesF_el {a b : List Int} (ha : ElL a) (hb : ElL b) : ElL (timesF a b) := (timesF_ok a b ha hb).1
theorem QEl.stands {q : QuadL} (h : QEl q) : QSt q ⟨vL q.x1, vL q.z1, vL q.x2, vL q.z2⟩ := ⟨.self h.x1, .self h.z1, .self h.x2, .self h.z2⟩
theorem QSt.qel {q : QuadL} {n : Quad} (h : QSt q n) : QEl q := ⟨h.x1.1, h.z1.1, h.x2.1, h.z2.1⟩
theorem QEl.step {u : List Int} {q : QuadL} (hu : ElL u) (h : QEl q) : QEl (stepF u q) := (h.stands.step (.self hu)).qel
theorem QEl.swap {q : QuadL} (h : QEl q) : QEl (swapQ q) := ⟨h.x2, h.z2, h.x1, h.z1⟩
theorem ladF_el (k u : List Int) (hu : ElL u) (m : Nat) : QEl (ladF k u m) := by
  induction m with
  | zero => exact ⟨(stands_dig 1 (by decide)).1, (stands_dig 0 (by decide)).1, hu, (stands_dig 1 (by decide)).1⟩
  | succ m ih =>
    unfold ladF
    split
    · exact (ih.swap.step hu).swap
    · exact ih.step hu
end Go.Proofs.Ytikicljlgfgfbaa
