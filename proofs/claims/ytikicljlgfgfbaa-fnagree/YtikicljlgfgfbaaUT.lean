/- Points as rows of 32 numbers. Written by mk_US.py. -/
import Derived.Test.YtikicljlgfgfbaaUA
import Derived.Test.YtikicljlgfgfbaaUB
import Derived.Test.YtikicljlgfgfbaaSV5
import Derived.Test.YtikicljlgfgfbaaLate3
import Derived.Test.YtikicljlgfgfbaaQMid
import Derived.Test.YtikicljlgfgfbaaGd
namespace Go.Proofs.Ytikicljlgfgfbaa
open Go.RowKit
set_option linter.unusedVariables false
theorem range_fst {w : World} {g : Nat} {k : IntKind} {x z : List Int} {t : TypeId} (h : w.heap[g]? = some (.cells (Iv k (x ++ z)) t)) : w.rangeAt g 0 (x.map (Value.int k)) := by
  have h1 := range_row (l := (x ++ z).map (Value.int k)) (fr := (0, 0)) h 0 x.length
  rw [List.drop_zero, ← List.map_take, List.take_left] at h1
  exact h1
theorem range_snd {w : World} {g : Nat} {k : IntKind} {x z : List Int} {t : TypeId} (n : Nat) (hn : x.length = n) (h : w.heap[g]? = some (.cells (Iv k (x ++ z)) t)) : w.rangeAt g n (z.map (Value.int k)) := by
  subst hn
  have h1 := range_row (l := (x ++ z).map (Value.int k)) (fr := (0, 0)) h x.length z.length
  rw [← List.map_drop, List.drop_left, List.take_of_length_le (by simp)] at h1
  exact h1
theorem wpList_build_as {P : Program} {ops : Array Oper} {rest : List Oper} {o : Oper} {a : Act} {w : World} {Q : Exit → Act → World → Prop} (hg : o.guard = none) (t : TypeId) (parts : Array (Nat × Operand)) (ho : o.op = .build t parts) (R : Array Value)
    (ps : List (Nat × Value)) (hp : (parts.map fun (i, x) => (i, a.eval x)).toList = ps) (hb : P.built t ps = some R) (h : wpList P ops Q rest (a.put o.dst (.agg R)) w) : wpList P ops Q (o :: rest) a w :=
  wpList_build hg t parts ho (by rw [hp, hb]; rfl) (by rw [hp, hb]; exact h)
theorem infoPt : (Try.prog.info? 52).map (·.size) = some 32 := by kernel_rfl
theorem infoPtl {l : List Int} (h : l.length = 32) : (Try.prog.info? 52).map (·.size) = some (Iv .i64 l).size := by rw [Iv_size, h]; exact infoPt
theorem zeroPt : ∀ W, (zeroValue 52).run Try.prog W = .ok (.agg (Iv .i64 (zeroL 32))) W := (zero_of_info (n := 32) (by kernel_rfl)).1
theorem zero32p {l : List Int} (h : l.length = 32) : (Iv .i64 (zeroL 32)).size = (Iv .i64 l).size := by rw [Iv_size, Iv_size, h]; rfl
theorem infoL3m {l : List Int} (h : l.length = 16) : (Try.prog.info? 40).map (·.size) = some (l.map (Value.int .i64)).length := by rw [List.length_map, h]; exact infoL3
theorem builtPt (x z : List Int) (hx : x.length = 16) (hz : z.length = 16) : Try.prog.built 52 [(0, .agg (Iv .i64 x)), (1, .agg (Iv .i64 z))] = some (Iv .i64 (x ++ z)) := by
  obtain ⟨a0, a1, a2, a3, a4, a5, a6, a7, a8, a9, a10, a11, a12, a13, a14, a15, rfl⟩ := sixteen x hx
  obtain ⟨b0, b1, b2, b3, b4, b5, b6, b7, b8, b9, b10, b11, b12, b13, b14, b15, rfl⟩ := sixteen z hz
  kernel_rfl
theorem addS_dg {a b : List Int} (ha : Dg a) (hb : Dg b) : Dg (addS a b) := (carS_ok _ (addL_su a b ha hb)).1
theorem minS_dg {a b : List Int} (ha : Dg a) (hb : Dg b) : Dg (minS a b) := (carS_ok _ (subL_su a b ha hb)).1
theorem mulS_dg {a b : List Int} (ha : Dg a) (hb : Dg b) : Dg (mulS a b) := (mulS_ok a b ha hb).1
theorem dubS_dg {a b : List Int} (ha : Dg a) (hb : Dg b) : Dg (carS (dubL a b)) := (carS_ok _ (dubL_su a b ha hb)).1
def sumSX (px pz qx qz : List Int) : List Int := mulS (addS (mulS (minS qx qz) (addS px pz)) (mulS (addS qx qz) (minS px pz))) (addS (mulS (minS qx qz) (addS px pz)) (mulS (addS qx qz) (minS px pz)))
def sumSZ (px pz qx qz u : List Int) : List Int := mulS u (mulS (minS (mulS (minS qx qz) (addS px pz)) (mulS (addS qx qz) (minS px pz))) (minS (mulS (minS qx qz) (addS px pz)) (mulS (addS qx qz) (minS px pz))))
def dblSX (x z : List Int) : List Int := mulS (mulS (addS x z) (addS x z)) (mulS (minS x z) (minS x z))
def dblSE (x z : List Int) : List Int := minS (mulS (addS x z) (addS x z)) (mulS (minS x z) (minS x z))
def dblSZ (x z : List Int) : List Int := mulS (dblSE x z) (carS (dubL (mulS (addS x z) (addS x z)) (dblSE x z)))
theorem StD.sumX {px pz qx qz : List Int} {a b c d : Int} (h1 : StD px a) (h2 : StD pz b) (h3 : StD qx c) (h4 : StD qz d) : StD (sumSX px pz qx qz) (sumX a b c d) :=
  (((h3.sub h4).mul (h1.add h2)).add ((h3.add h4).mul (h1.sub h2))).mul (((h3.sub h4).mul (h1.add h2)).add ((h3.add h4).mul (h1.sub h2)))
theorem StD.sumZ {px pz qx qz u : List Int} {a b c d e : Int} (h1 : StD px a) (h2 : StD pz b) (h3 : StD qx c) (h4 : StD qz d) (h5 : StD u e) : StD (sumSZ px pz qx qz u) (sumZ a b c d e) :=
  h5.mul ((((h3.sub h4).mul (h1.add h2)).sub ((h3.add h4).mul (h1.sub h2))).mul (((h3.sub h4).mul (h1.add h2)).sub ((h3.add h4).mul (h1.sub h2))))
theorem StD.dblX {x z : List Int} {a b : Int} (h1 : StD x a) (h2 : StD z b) : StD (dblSX x z) (dblX a b) := ((h1.add h2).mul (h1.add h2)).mul ((h1.sub h2).mul (h1.sub h2))
theorem StD.dblE {x z : List Int} {a b : Int} (h1 : StD x a) (h2 : StD z b) : StD (dblSE x z) (dblE a b) := ((h1.add h2).mul (h1.add h2)).sub ((h1.sub h2).mul (h1.sub h2))
theorem StD.dblZ {x z : List Int} {a b : Int} (h1 : StD x a) (h2 : StD z b) : StD (dblSZ x z) (dblZ a b) := (h1.dblE h2).mul (((h1.add h2).mul (h1.add h2)).dub (h1.dblE h2))
end Go.Proofs.Ytikicljlgfgfbaa
