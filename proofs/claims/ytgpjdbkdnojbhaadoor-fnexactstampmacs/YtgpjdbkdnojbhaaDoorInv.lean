/- A region that draws its order, by an invariant: one obligation an operation. Nothing of the program. -/
import Derived.Orders
import Derived.WalkKit
namespace Go.Proofs.YtgpjdbkdnojbhaaDoor
open Go
set_option linter.unusedVariables false
section
variable {P : Program} {ops : Array Oper} {Q : Exit → Act → World → Prop} {md : Region.Mode}

/-- How many operations have not come up. -/
def leftN (listed : Array Bool) : Nat := (listed.toList.filter (fun b => !b)).length
theorem leftN_set : ∀ (l : List Bool) (i : Nat), l.getD i true = false → ((l.set i true).filter (fun b => !b)).length + 1 = (l.filter (fun b => !b)).length
  | [], i, h => by simp at h
  | b :: l, 0, h => by
    have : b = false := by simpa using h
    subst this
    simp
  | b :: l, i + 1, h => by
    have ih := leftN_set l i (by simpa using h)
    simp only [List.set_cons_succ, List.filter_cons]
    cases b <;> simp <;> omega
theorem leftN_step {listed : Array Bool} {i : Nat} (h : listed.getD i true = false) : leftN (listed.setIfInBounds i true) + 1 = leftN listed := by
  have h2 := leftN_set listed.toList i (by simpa using h)
  simpa [leftN] using h2
theorem leftN_zero : ∀ (l : List Bool), (l.filter (fun b => !b)).length = 0 → ∀ i, l.getD i true = true
  | [], _, i => by simp
  | b :: l, h, 0 => by cases b <;> simp_all
  | b :: l, h, i + 1 => by
    have : (l.filter (fun b => !b)).length = 0 := by cases b <;> simp_all
    simpa using leftN_zero l this i
theorem wpAny_inv (Inv : Array Bool → Act → World → Prop) (hend : ∀ listed a w, Inv listed a w → Region.ready md ops listed = [] → Q .normal a w)
    (hstep : ∀ listed i a w, Inv listed a w → i ∈ Region.ready md ops listed → wpOp P ops Q i (Inv (listed.setIfInBounds i true)) a w) :
    ∀ (fuel : Nat) (listed : Array Bool) (a : Act) (w : World), leftN listed ≤ fuel → Inv listed a w → wpAny P md ops Q fuel listed a w
  | 0, listed, a, w, hl, h => by
    have hr : Region.ready md ops listed = [] := by
      refine List.eq_nil_iff_forall_not_mem.2 fun i hi => ?_
      have h1 := (mem_ready.1 hi).1
      have h2 := leftN_zero listed.toList (by have : leftN listed = 0 := by omega
                                              exact this) i
      have h3 : listed.getD i true = true := by simpa using h2
      rw [h3] at h1
      cases h1
    exact ⟨hr, hend _ _ _ h hr⟩
  | fuel + 1, listed, a, w, hl, h => by
    refine ⟨fun hr => hend _ _ _ h hr, fun i hi => ?_⟩
    refine wpOp_mono (fun a' w' h' => wpAny_inv Inv hend hstep fuel _ a' w' ?_ h') (hstep listed i a w h hi)
    have := leftN_step (mem_ready.1 hi).1
    omega
theorem leftN_start (n : Nat) : leftN (Array.replicate n false) = n := by simp [leftN]
/-- THE LAW. -/
theorem wp_region_inv {id : Nat} {a : Act} {w : World} (Inv : Array Bool → Act → World → Prop) (hm : P.follows .mixedOrders = true) (h0 : Inv (Array.replicate ops.size false) a w.drew)
    (hend : ∀ listed a w, Inv listed a w → Region.ready .any ops listed = [] → Q .normal a w)
    (hstep : ∀ listed i a w, Inv listed a w → i ∈ Region.ready .any ops listed → wpOp P ops Q i (Inv (listed.setIfInBounds i true)) a w) : (Code.region id ops true).wp P Q a w :=
  wp_region_any hm (wpAny_inv Inv hend hstep ops.size _ a _ (by rw [leftN_start]; exact Nat.le_refl _) h0)
end
end Go.Proofs.YtgpjdbkdnojbhaaDoor
