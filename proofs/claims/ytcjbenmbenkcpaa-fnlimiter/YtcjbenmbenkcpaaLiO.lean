/- The library's sort and comparison as they lie in this translation (the shelf's laying, in plain words), and the sort of buckets by their places. -/
import Derived.Shelf.SlSortCmp.WholeK
import Derived.Shelf.SlicesG.Cmp
import Derived.Ground.SlsfProg
import Derived.Ground.SlgcProg
import Derived.Test.YtcjbenmbenkcpaaLiN
namespace Go.Proofs.Ytcjbenmbenkcpaa
open Go.RowKit
open Go.Shelf
set_option linter.unusedVariables false
def sortPl_ren : Go.Shelf.Ren := ⟨fun | 6 => 28 | 15 => 34 | 14 => 33 | 28 => 45 | 29 => 46 | 20 => 37 | 21 => 38 | 22 => 39 | 23 => 40 | 24 => 41 | 25 => 42 | 26 => 43 | 27 => 44 | 46 => 47 | 47 => 48 | 48 => 49 | 49 => 50 | 50 => 51 | 57 => 52 | n => n, fun | 22 => 69 | 24 => 66 | 25 => 72 | 3 => 3 | 39 => 51 | 0 => 0 | 53 => 89 | 55 => 48 | 4 => 4 | 46 => 82 | 45 => 81 | 50 => 86 | 5 => 5 | 9 => 9 | 66 => 91 | 70 => 95 | 76 => 97 | 77 => 98 | n => n, fun | n => n⟩
theorem sortPl : Go.Proofs.SlLaysF0.n6 Try.prog sortPl_ren := {
  mixed := by kernel_rfl
  f6 := ⟨Try.f28.name, by decide, Try.func28.trans (congrArg some (by kernel_rfl))⟩
  f14 := ⟨Try.f33.name, by decide, Try.func33.trans (congrArg some (by kernel_rfl))⟩
  f15 := Try.func34.trans (congrArg some (by kernel_rfl))
  f20 := ⟨Try.f37.name, by decide, Try.func37.trans (congrArg some (by kernel_rfl))⟩
  f21 := ⟨Try.f38.name, by decide, Try.func38.trans (congrArg some (by kernel_rfl))⟩
  f22 := ⟨Try.f39.name, by decide, Try.func39.trans (congrArg some (by kernel_rfl))⟩
  f23 := ⟨Try.f40.name, by decide, Try.func40.trans (congrArg some (by kernel_rfl))⟩
  f24 := ⟨Try.f41.name, by decide, Try.func41.trans (congrArg some (by kernel_rfl))⟩
  f25 := ⟨Try.f42.name, by decide, Try.func42.trans (congrArg some (by kernel_rfl))⟩
  f26 := ⟨Try.f43.name, by decide, Try.func43.trans (congrArg some (by kernel_rfl))⟩
  f27 := ⟨Try.f44.name, by decide, Try.func44.trans (congrArg some (by kernel_rfl))⟩
  f28 := Try.func45.trans (congrArg some (by kernel_rfl))
  f29 := Try.func46.trans (congrArg some (by kernel_rfl))
  f46 := ⟨Try.f47.name, by decide, Try.func47.trans (congrArg some (by kernel_rfl))⟩
  f47 := Try.func48.trans (congrArg some (by kernel_rfl))
  f48 := Try.func49.trans (congrArg some (by kernel_rfl))
  f49 := ⟨Try.f50.name, by decide, Try.func50.trans (congrArg some (by kernel_rfl))⟩
  f50 := ⟨Try.f51.name, by decide, Try.func51.trans (congrArg some (by kernel_rfl))⟩
  f57 := ⟨Try.f52.name, by decide, Try.func52.trans (congrArg some (by kernel_rfl))⟩
  t0 := Try.underlying0
  a0 := Try.isAgg0
  z0 := Try.sizeOf0
  v0 := Try.zeroValue0
  t3 := Try.underlying3
  a3 := Try.isAgg3
  z3 := Try.sizeOf3
  v3 := Try.zeroValue3
  t4 := Try.underlying4
  a4 := Try.isAgg4
  z4 := Try.sizeOf4
  v4 := Try.zeroValue4
  t5 := Try.underlying5
  a5 := Try.isAgg5
  z5 := Try.sizeOf5
  v5 := Try.zeroValue5
  t9 := Try.underlying9
  a9 := Try.isAgg9
  z9 := Try.sizeOf9
  v9 := Try.zeroValue9
  t22 := Try.underlying69
  a22 := Try.isAgg69
  z22 := Try.sizeOf69
  v22 := Try.zeroValue69
  t25 := Try.underlying72
  a25 := Try.isAgg72
  z25 := Try.sizeOf72
  v25 := Try.zeroValue72
  t39 := Try.underlying51
  a39 := Try.isAgg51
  z39 := Try.sizeOf51
  v39 := Try.zeroValue51
  t45 := Try.underlying81
  a45 := Try.isAgg81
  z45 := Try.sizeOf81
  v45 := Try.zeroValue81
  t46 := Try.underlying82
  a46 := Try.isAgg82
  z46 := Try.sizeOf82
  v46 := Try.zeroValue82
  t50 := Try.underlying86
  a50 := Try.isAgg86
  z50 := Try.sizeOf86
  v50 := Try.zeroValue86
  t53 := Try.underlying89
  a53 := Try.isAgg89
  z53 := Try.sizeOf89
  v53 := Try.zeroValue89
  t55 := Try.underlying48
  a55 := Try.isAgg48
  z55 := Try.sizeOf48
  v55 := Try.zeroValue48
  t66 := Try.underlying91
  a66 := Try.isAgg91
  z66 := Try.sizeOf91
  v66 := Try.zeroValue91
  t70 := Try.underlying95
  a70 := Try.isAgg95
  z70 := Try.sizeOf95
  v70 := Try.zeroValue95
  t76 := Try.underlying97
  a76 := Try.isAgg97
  z76 := Try.sizeOf97
  v76 := Try.zeroValue97
  t77 := Try.underlying98
  a77 := Try.isAgg98
  z77 := Try.sizeOf98
  v77 := Try.zeroValue98 }
def cmpInt_ren : Go.Shelf.Ren := ⟨fun | 5 => 30 | 7 => 35 | n => n, fun | 22 => 3 | 3 => 3 | 4 => 4 | n => n, fun | n => n⟩
theorem cmpInt : Go.Proofs.SlLaysC2.n5 Try.prog cmpInt_ren := {
  mixed := by kernel_rfl
  f5 := ⟨Try.f30.name, by decide, Try.func30.trans (congrArg some (by kernel_rfl))⟩
  f7 := ⟨Try.f35.name, by decide, Try.func35.trans (congrArg some (by kernel_rfl))⟩
  t3 := Try.underlying3
  a3 := Try.isAgg3
  z3 := Try.sizeOf3
  v3 := Try.zeroValue3
  t4 := Try.underlying4
  a4 := Try.isAgg4
  z4 := Try.sizeOf4
  v4 := Try.zeroValue4
  t22 := Try.underlying3
  a22 := Try.isAgg3
  z22 := Try.sizeOf3
  v22 := Try.zeroValue3 }

set_option maxHeartbeats 1000000 in
theorem closureP (x y : Pl) (W : World) : Calls Try.prog 29 #[.agg (plL x).toArray, .agg (plL y).toArray] W fun e w' => e = .returned (.int .i64 (Lib.compareInt x.pos y.pos)) ∧ ∃ q os', w' = Sort.grow (W.drewN q) os' := by
  have hcon := fun W' => AnyG.cmp_Compare_int cmpInt x.pos y.pos W'
  change ∀ W', Calls Try.prog 30 _ _ _ at hcon
  generalize Lib.compareInt x.pos y.pos = r at hcon ⊢
  obtain ⟨k0, k1, k2, k3, k4, k5, k6, k7, k8, hk⟩ := bk_open x.b
  obtain ⟨l0, l1, l2, l3, l4, l5, l6, l7, l8, hl⟩ := bk_open y.b
  have e : (plL x).toArray = #[.int .u8 k0, .int .u8 k1, .int .u8 k2, .int .u8 k3, .int .u8 k4, .int .u8 k5, .int .u8 k6, .int .u8 k7, .int .u8 k8, .int .i64 x.b.tok, .int .i64 x.b.last, .int .i64 x.pos] := by simp [plL, bkL, hk]
  have e2 : (plL y).toArray = #[.int .u8 l0, .int .u8 l1, .int .u8 l2, .int .u8 l3, .int .u8 l4, .int .u8 l5, .int .u8 l6, .int .u8 l7, .int .u8 l8, .int .i64 y.b.tok, .int .i64 y.b.last, .int .i64 y.pos] := by simp [plL, bkL, hl]
  rw [e, e2]
  generalize x.b.tok = xt, x.b.last = xl, x.pos = xp, y.b.tok = yt, y.b.last = yl, y.pos = yp at hcon ⊢
  clear e e2 hk hl
  go_enter Try.func29, Try.ntmps29
  go_wp2_with (go_at_call 30; refine (hcon _).mono ?_; rintro e w' ⟨rfl, rfl⟩)
  go_ret
  exact ⟨rfl, 0, _, by rw [Sort.alloc_eq_grow, Sort.alloc_eq_grow, Sort.grow_grow]; rfl⟩
theorem ltP (x y : Pl) : ltOf (fun x y : Pl => Lib.compareInt x.pos y.pos) x y = decide (x.pos < y.pos) := by
  unfold ltOf Lib.compareInt
  by_cases h1 : x.pos < y.pos
  · simp [h1]
  · by_cases h2 : y.pos < x.pos <;> simp [h1, h2]
theorem swoP : Sort.SWO (ltOf fun x y : Pl => Lib.compareInt x.pos y.pos) where
  irrefl x := by rw [ltP]; simp
  trans x y z h1 h2 := by rw [ltP] at *; simp at *; omega
  ntrans x y z h1 h2 := by rw [ltP] at *; simp at *; omega
/-- A row of buckets with their places. -/
def HP (w : World) (g : Nat) (ps : List Pl) : Prop := ∀ i (h : i < ps.length), w.rangeAt g (i * 12) (plL ps[i])
set_option maxHeartbeats 1000000 in
theorem sortP_any (ps : List Pl) (g cap : Nat) (w : World) (hr : HP w g ps) (hf : ∀ j, j < ps.length * 12 → w.frozen? ⟨g, j, none⟩ = false) (hg : g < w.heap.size) (hn : ps.length ≤ 5000) :
    Calls Try.prog 28 #[.slice (some ⟨g, 0, none⟩) ps.length cap, .func (.func 29) #[] #[]] w fun e w' => e = .returned (.tuple #[]) ∧ ∃ ps' : List Pl, ps'.Perm ps ∧ ps'.Pairwise (fun x y => x.pos ≤ y.pos) ∧ HP w' g ps' ∧ w.grownBy w' (some g) := by
  have hH : Sort.HoldsK plL 12 w g 0 ps.toArray := by
    intro j hj
    have hj' : j < ps.length * 12 := by simpa using hj
    have hi : j / 12 < ps.length := by omega
    rw [Sort.get_flatK plL 12 _ j (by simpa using hj')]
    refine ⟨?_, by rw [Nat.zero_add]; exact hf j hj'⟩
    have hm : j % 12 < (plL ps[j / 12]).length := by rw [plL_length]; exact Nat.mod_lt _ (by decide)
    have h1 := hr (j / 12) hi (j % 12) _ (List.getElem?_eq_getElem hm)
    have e1 : 0 + j = j / 12 * 12 + j % 12 := by omega
    rw [e1, h1]
    simp [hi, hm]
  have eg : ∀ args w, (callFunc 29 args).run Try.prog w = .ok (.enter 29 args) w := enters_of Try.func29 (by kernel_rfl) rfl
  have hcon := AnyQ.slices_SortFunc sortPl 12 Try.isAgg66 Try.sizeOf66 plL plL_length plL_one (fun x y => Lib.compareInt x.pos y.pos) swoP 29 #[] g 0 cap ps.toArray w eg (fun _ _ _ _ x y => closureP x y _) hH hg (by simp; omega)
  change Calls Try.prog 28 _ _ _ at hcon
  have e0 : ps.toArray.size = ps.length := by simp
  rw [e0] at hcon
  refine hcon.mono ?_
  rintro e w' ⟨rfl, d', n, os, hp, hs, rfl⟩
  have hd : d'.size = ps.length := by rw [hp.1, e0]
  refine ⟨rfl, d'.toList, ?_, ?_, ?_, ?_⟩
  · have h2 := hp.2.2
    have x1 : (d'.extract 0 ps.length) = d' := by rw [← hd]; exact Array.extract_size
    have x2 : (ps.toArray.extract 0 ps.length) = ps.toArray := by rw [← e0]; exact Array.extract_size
    rw [x1, x2] at h2
    simpa using h2
  · rw [List.pairwise_iff_getElem]
    intro i j hi hj hij
    have h3 := hs i j (Nat.zero_le _) hij (by simpa [hd] using hj)
    rw [ltP] at h3
    have hi' : i < d'.size := by simpa using hi
    have hj' : j < d'.size := by simpa using hj
    rw [getElem!_pos d' i hi', getElem!_pos d' j hj'] at h3
    simp at h3
    simpa using h3
  · have hH' := holdsK_sortWorldK_c plL 12 w g 0 ps.toArray d' n os hH hg (by rw [hd, e0])
    intro i hi j v hj
    have hi' : i < d'.size := by simpa using hi
    have hjl : j < 12 := by have := (List.getElem?_eq_some_iff.1 hj).1; rwa [plL_length] at this
    have h4 := (hH' (i * 12 + j) (by simp; omega)).1
    rw [Sort.get_flatK plL 12 d' _ (by omega)] at h4
    have e1 : (i * 12 + j) / 12 = i := by omega
    have e2 : (i * 12 + j) % 12 = j := by omega
    rw [e1, e2, Nat.zero_add, getElem!_pos d' i hi'] at h4
    rw [h4]
    obtain ⟨hl, hv⟩ := List.getElem?_eq_some_iff.1 hj
    have hl2 : j < (plL d'[i]).length := by rw [plL_length]; exact hjl
    rw [getElem!_pos (plL d'[i]) j hl2]
    simp only [id, Option.some.injEq]
    rw [← hv]
    simp
  · refine ⟨rfl, rfl, rfl, size_sortWorldK_c plL 12 w g 0 n d' os, fun i hi hne => ?_⟩
    have hig : ¬ g = i := fun e => hne (by rw [e])
    unfold sortWorldK
    rw [Sort.heap_grow_old _ _ (by simp only [Sort.putRowK, Sort.size_putRow]; exact hi)]
    simp only [Sort.putRowK, Sort.putRow, Sort.mapBlock, Array.getElem?_modify, hig, if_false]
    rfl
end Go.Proofs.Ytcjbenmbenkcpaa
