import Derived.Test.YtlbnmiinokkkgaaDoorNum
import Derived.Test.YtlbnmiinokkkgaaDoorME
import Derived.Test.YtlbnmiinokkkgaaDoorMA
import Derived.Test.YtlbnmiinokkkgaaDoorMid
namespace Go.Proofs.YtlbnmiinokkkgaaDoor

/-- A number of bytes, the least first. -/
def num8 : List Int → Int
  | [] => 0
  | x :: r => x + 256 * num8 r

/-- The words of a piece, the byte 1 behind it. -/
def pieceWords (zs : List Int) : List Int := ([wordAt zs 0, wordAt zs 1, wordAt zs 2, wordAt zs 3, wordAt zs 4]).set (zs.length / 4) (bits .or .u32 (wordAt zs (zs.length / 4)) (2 ^ (8 * (zs.length % 4))))
def PieceOk (zs : List Int) : Prop :=
  ∃ v0 v1 v2 v3 v4 : Int, pieceWords zs = [v0, v1, v2, v3, v4] ∧ 0 ≤ v0 ∧ v0 < 4294967296 ∧ 0 ≤ v1 ∧ v1 < 4294967296 ∧ 0 ≤ v2 ∧ v2 < 4294967296 ∧ 0 ≤ v3 ∧ v3 < 4294967296 ∧ 0 ≤ v4 ∧ v4 ≤ 1 ∧
    v0 + 4294967296 * v1 + 18446744073709551616 * v2 + 79228162514264337593543950336 * v3 + 340282366920938463463374607431768211456 * v4 = num8 zs + 256 ^ zs.length
theorem piece1 (z0 : Int) (h0 : 0 ≤ z0 ∧ z0 ≤ 255) : PieceOk [z0] := by
  have e : bits .or .u32 (z0) 256 = (z0) + 256 := or32 8 _ _ (by decide) (by omega) (by decide) (by omega) (by omega) (by omega)
  refine ⟨(z0) + 256, 0, 0, 0, 0, ?_, ?_⟩
  · simp [pieceWords, wordAt]
    rw [← e]
  · simp only [num8, List.length_cons, List.length_nil]
    omega
theorem piece2 (z0 z1 : Int) (h0 : 0 ≤ z0 ∧ z0 ≤ 255) (h1 : 0 ≤ z1 ∧ z1 ≤ 255) : PieceOk [z0, z1] := by
  have e : bits .or .u32 (z0 + 256 * z1) 65536 = (z0 + 256 * z1) + 65536 := or32 16 _ _ (by decide) (by omega) (by decide) (by omega) (by omega) (by omega)
  refine ⟨(z0 + 256 * z1) + 65536, 0, 0, 0, 0, ?_, ?_⟩
  · simp [pieceWords, wordAt]
    rw [← e]
  · simp only [num8, List.length_cons, List.length_nil]
    omega
theorem piece3 (z0 z1 z2 : Int) (h0 : 0 ≤ z0 ∧ z0 ≤ 255) (h1 : 0 ≤ z1 ∧ z1 ≤ 255) (h2 : 0 ≤ z2 ∧ z2 ≤ 255) : PieceOk [z0, z1, z2] := by
  have e : bits .or .u32 (z0 + 256 * z1 + 65536 * z2) 16777216 = (z0 + 256 * z1 + 65536 * z2) + 16777216 := or32 24 _ _ (by decide) (by omega) (by decide) (by omega) (by omega) (by omega)
  refine ⟨(z0 + 256 * z1 + 65536 * z2) + 16777216, 0, 0, 0, 0, ?_, ?_⟩
  · simp [pieceWords, wordAt]
    rw [← e]
  · simp only [num8, List.length_cons, List.length_nil]
    omega
theorem piece4 (z0 z1 z2 z3 : Int) (h0 : 0 ≤ z0 ∧ z0 ≤ 255) (h1 : 0 ≤ z1 ∧ z1 ≤ 255) (h2 : 0 ≤ z2 ∧ z2 ≤ 255) (h3 : 0 ≤ z3 ∧ z3 ≤ 255) : PieceOk [z0, z1, z2, z3] := by
  have e : bits .or .u32 (0) 1 = (0) + 1 := or32 0 _ _ (by decide) (by omega) (by decide) (by omega) (by omega) (by omega)
  refine ⟨z0 + 256 * z1 + 65536 * z2 + 16777216 * z3, 1, 0, 0, 0, ?_, ?_⟩
  · simp [pieceWords, wordAt]
    exact e.trans (by omega)
  · simp only [num8, List.length_cons, List.length_nil]
    omega
theorem piece5 (z0 z1 z2 z3 z4 : Int) (h0 : 0 ≤ z0 ∧ z0 ≤ 255) (h1 : 0 ≤ z1 ∧ z1 ≤ 255) (h2 : 0 ≤ z2 ∧ z2 ≤ 255) (h3 : 0 ≤ z3 ∧ z3 ≤ 255) (h4 : 0 ≤ z4 ∧ z4 ≤ 255) : PieceOk [z0, z1, z2, z3, z4] := by
  have e : bits .or .u32 (z4) 256 = (z4) + 256 := or32 8 _ _ (by decide) (by omega) (by decide) (by omega) (by omega) (by omega)
  refine ⟨z0 + 256 * z1 + 65536 * z2 + 16777216 * z3, (z4) + 256, 0, 0, 0, ?_, ?_⟩
  · simp [pieceWords, wordAt]
    rw [← e]
  · simp only [num8, List.length_cons, List.length_nil]
    omega
theorem piece6 (z0 z1 z2 z3 z4 z5 : Int) (h0 : 0 ≤ z0 ∧ z0 ≤ 255) (h1 : 0 ≤ z1 ∧ z1 ≤ 255) (h2 : 0 ≤ z2 ∧ z2 ≤ 255) (h3 : 0 ≤ z3 ∧ z3 ≤ 255) (h4 : 0 ≤ z4 ∧ z4 ≤ 255) (h5 : 0 ≤ z5 ∧ z5 ≤ 255) : PieceOk [z0, z1, z2, z3, z4, z5] := by
  have e : bits .or .u32 (z4 + 256 * z5) 65536 = (z4 + 256 * z5) + 65536 := or32 16 _ _ (by decide) (by omega) (by decide) (by omega) (by omega) (by omega)
  refine ⟨z0 + 256 * z1 + 65536 * z2 + 16777216 * z3, (z4 + 256 * z5) + 65536, 0, 0, 0, ?_, ?_⟩
  · simp [pieceWords, wordAt]
    rw [← e]
  · simp only [num8, List.length_cons, List.length_nil]
    omega
theorem piece7 (z0 z1 z2 z3 z4 z5 z6 : Int) (h0 : 0 ≤ z0 ∧ z0 ≤ 255) (h1 : 0 ≤ z1 ∧ z1 ≤ 255) (h2 : 0 ≤ z2 ∧ z2 ≤ 255) (h3 : 0 ≤ z3 ∧ z3 ≤ 255) (h4 : 0 ≤ z4 ∧ z4 ≤ 255) (h5 : 0 ≤ z5 ∧ z5 ≤ 255) (h6 : 0 ≤ z6 ∧ z6 ≤ 255) : PieceOk [z0, z1, z2, z3, z4, z5, z6] := by
  have e : bits .or .u32 (z4 + 256 * z5 + 65536 * z6) 16777216 = (z4 + 256 * z5 + 65536 * z6) + 16777216 := or32 24 _ _ (by decide) (by omega) (by decide) (by omega) (by omega) (by omega)
  refine ⟨z0 + 256 * z1 + 65536 * z2 + 16777216 * z3, (z4 + 256 * z5 + 65536 * z6) + 16777216, 0, 0, 0, ?_, ?_⟩
  · simp [pieceWords, wordAt]
    rw [← e]
  · simp only [num8, List.length_cons, List.length_nil]
    omega
theorem piece8 (z0 z1 z2 z3 z4 z5 z6 z7 : Int) (h0 : 0 ≤ z0 ∧ z0 ≤ 255) (h1 : 0 ≤ z1 ∧ z1 ≤ 255) (h2 : 0 ≤ z2 ∧ z2 ≤ 255) (h3 : 0 ≤ z3 ∧ z3 ≤ 255) (h4 : 0 ≤ z4 ∧ z4 ≤ 255) (h5 : 0 ≤ z5 ∧ z5 ≤ 255) (h6 : 0 ≤ z6 ∧ z6 ≤ 255) (h7 : 0 ≤ z7 ∧ z7 ≤ 255) : PieceOk [z0, z1, z2, z3, z4, z5, z6, z7] := by
  have e : bits .or .u32 (0) 1 = (0) + 1 := or32 0 _ _ (by decide) (by omega) (by decide) (by omega) (by omega) (by omega)
  refine ⟨z0 + 256 * z1 + 65536 * z2 + 16777216 * z3, z4 + 256 * z5 + 65536 * z6 + 16777216 * z7, 1, 0, 0, ?_, ?_⟩
  · simp [pieceWords, wordAt]
    exact e.trans (by omega)
  · simp only [num8, List.length_cons, List.length_nil]
    omega
theorem piece9 (z0 z1 z2 z3 z4 z5 z6 z7 z8 : Int) (h0 : 0 ≤ z0 ∧ z0 ≤ 255) (h1 : 0 ≤ z1 ∧ z1 ≤ 255) (h2 : 0 ≤ z2 ∧ z2 ≤ 255) (h3 : 0 ≤ z3 ∧ z3 ≤ 255) (h4 : 0 ≤ z4 ∧ z4 ≤ 255) (h5 : 0 ≤ z5 ∧ z5 ≤ 255) (h6 : 0 ≤ z6 ∧ z6 ≤ 255) (h7 : 0 ≤ z7 ∧ z7 ≤ 255) (h8 : 0 ≤ z8 ∧ z8 ≤ 255) : PieceOk [z0, z1, z2, z3, z4, z5, z6, z7, z8] := by
  have e : bits .or .u32 (z8) 256 = (z8) + 256 := or32 8 _ _ (by decide) (by omega) (by decide) (by omega) (by omega) (by omega)
  refine ⟨z0 + 256 * z1 + 65536 * z2 + 16777216 * z3, z4 + 256 * z5 + 65536 * z6 + 16777216 * z7, (z8) + 256, 0, 0, ?_, ?_⟩
  · simp [pieceWords, wordAt]
    rw [← e]
  · simp only [num8, List.length_cons, List.length_nil]
    omega
theorem piece10 (z0 z1 z2 z3 z4 z5 z6 z7 z8 z9 : Int) (h0 : 0 ≤ z0 ∧ z0 ≤ 255) (h1 : 0 ≤ z1 ∧ z1 ≤ 255) (h2 : 0 ≤ z2 ∧ z2 ≤ 255) (h3 : 0 ≤ z3 ∧ z3 ≤ 255) (h4 : 0 ≤ z4 ∧ z4 ≤ 255) (h5 : 0 ≤ z5 ∧ z5 ≤ 255) (h6 : 0 ≤ z6 ∧ z6 ≤ 255) (h7 : 0 ≤ z7 ∧ z7 ≤ 255) (h8 : 0 ≤ z8 ∧ z8 ≤ 255) (h9 : 0 ≤ z9 ∧ z9 ≤ 255) : PieceOk [z0, z1, z2, z3, z4, z5, z6, z7, z8, z9] := by
  have e : bits .or .u32 (z8 + 256 * z9) 65536 = (z8 + 256 * z9) + 65536 := or32 16 _ _ (by decide) (by omega) (by decide) (by omega) (by omega) (by omega)
  refine ⟨z0 + 256 * z1 + 65536 * z2 + 16777216 * z3, z4 + 256 * z5 + 65536 * z6 + 16777216 * z7, (z8 + 256 * z9) + 65536, 0, 0, ?_, ?_⟩
  · simp [pieceWords, wordAt]
    rw [← e]
  · simp only [num8, List.length_cons, List.length_nil]
    omega
theorem piece11 (z0 z1 z2 z3 z4 z5 z6 z7 z8 z9 z10 : Int) (h0 : 0 ≤ z0 ∧ z0 ≤ 255) (h1 : 0 ≤ z1 ∧ z1 ≤ 255) (h2 : 0 ≤ z2 ∧ z2 ≤ 255) (h3 : 0 ≤ z3 ∧ z3 ≤ 255) (h4 : 0 ≤ z4 ∧ z4 ≤ 255) (h5 : 0 ≤ z5 ∧ z5 ≤ 255) (h6 : 0 ≤ z6 ∧ z6 ≤ 255) (h7 : 0 ≤ z7 ∧ z7 ≤ 255) (h8 : 0 ≤ z8 ∧ z8 ≤ 255) (h9 : 0 ≤ z9 ∧ z9 ≤ 255) (h10 : 0 ≤ z10 ∧ z10 ≤ 255) : PieceOk [z0, z1, z2, z3, z4, z5, z6, z7, z8, z9, z10] := by
  have e : bits .or .u32 (z8 + 256 * z9 + 65536 * z10) 16777216 = (z8 + 256 * z9 + 65536 * z10) + 16777216 := or32 24 _ _ (by decide) (by omega) (by decide) (by omega) (by omega) (by omega)
  refine ⟨z0 + 256 * z1 + 65536 * z2 + 16777216 * z3, z4 + 256 * z5 + 65536 * z6 + 16777216 * z7, (z8 + 256 * z9 + 65536 * z10) + 16777216, 0, 0, ?_, ?_⟩
  · simp [pieceWords, wordAt]
    rw [← e]
  · simp only [num8, List.length_cons, List.length_nil]
    omega
theorem piece12 (z0 z1 z2 z3 z4 z5 z6 z7 z8 z9 z10 z11 : Int) (h0 : 0 ≤ z0 ∧ z0 ≤ 255) (h1 : 0 ≤ z1 ∧ z1 ≤ 255) (h2 : 0 ≤ z2 ∧ z2 ≤ 255) (h3 : 0 ≤ z3 ∧ z3 ≤ 255) (h4 : 0 ≤ z4 ∧ z4 ≤ 255) (h5 : 0 ≤ z5 ∧ z5 ≤ 255) (h6 : 0 ≤ z6 ∧ z6 ≤ 255) (h7 : 0 ≤ z7 ∧ z7 ≤ 255) (h8 : 0 ≤ z8 ∧ z8 ≤ 255) (h9 : 0 ≤ z9 ∧ z9 ≤ 255) (h10 : 0 ≤ z10 ∧ z10 ≤ 255) (h11 : 0 ≤ z11 ∧ z11 ≤ 255) : PieceOk [z0, z1, z2, z3, z4, z5, z6, z7, z8, z9, z10, z11] := by
  have e : bits .or .u32 (0) 1 = (0) + 1 := or32 0 _ _ (by decide) (by omega) (by decide) (by omega) (by omega) (by omega)
  refine ⟨z0 + 256 * z1 + 65536 * z2 + 16777216 * z3, z4 + 256 * z5 + 65536 * z6 + 16777216 * z7, z8 + 256 * z9 + 65536 * z10 + 16777216 * z11, 1, 0, ?_, ?_⟩
  · simp [pieceWords, wordAt]
    exact e.trans (by omega)
  · simp only [num8, List.length_cons, List.length_nil]
    omega
theorem piece13 (z0 z1 z2 z3 z4 z5 z6 z7 z8 z9 z10 z11 z12 : Int) (h0 : 0 ≤ z0 ∧ z0 ≤ 255) (h1 : 0 ≤ z1 ∧ z1 ≤ 255) (h2 : 0 ≤ z2 ∧ z2 ≤ 255) (h3 : 0 ≤ z3 ∧ z3 ≤ 255) (h4 : 0 ≤ z4 ∧ z4 ≤ 255) (h5 : 0 ≤ z5 ∧ z5 ≤ 255) (h6 : 0 ≤ z6 ∧ z6 ≤ 255) (h7 : 0 ≤ z7 ∧ z7 ≤ 255) (h8 : 0 ≤ z8 ∧ z8 ≤ 255) (h9 : 0 ≤ z9 ∧ z9 ≤ 255) (h10 : 0 ≤ z10 ∧ z10 ≤ 255) (h11 : 0 ≤ z11 ∧ z11 ≤ 255) (h12 : 0 ≤ z12 ∧ z12 ≤ 255) : PieceOk [z0, z1, z2, z3, z4, z5, z6, z7, z8, z9, z10, z11, z12] := by
  have e : bits .or .u32 (z12) 256 = (z12) + 256 := or32 8 _ _ (by decide) (by omega) (by decide) (by omega) (by omega) (by omega)
  refine ⟨z0 + 256 * z1 + 65536 * z2 + 16777216 * z3, z4 + 256 * z5 + 65536 * z6 + 16777216 * z7, z8 + 256 * z9 + 65536 * z10 + 16777216 * z11, (z12) + 256, 0, ?_, ?_⟩
  · simp [pieceWords, wordAt]
    rw [← e]
  · simp only [num8, List.length_cons, List.length_nil]
    omega
theorem piece14 (z0 z1 z2 z3 z4 z5 z6 z7 z8 z9 z10 z11 z12 z13 : Int) (h0 : 0 ≤ z0 ∧ z0 ≤ 255) (h1 : 0 ≤ z1 ∧ z1 ≤ 255) (h2 : 0 ≤ z2 ∧ z2 ≤ 255) (h3 : 0 ≤ z3 ∧ z3 ≤ 255) (h4 : 0 ≤ z4 ∧ z4 ≤ 255) (h5 : 0 ≤ z5 ∧ z5 ≤ 255) (h6 : 0 ≤ z6 ∧ z6 ≤ 255) (h7 : 0 ≤ z7 ∧ z7 ≤ 255) (h8 : 0 ≤ z8 ∧ z8 ≤ 255) (h9 : 0 ≤ z9 ∧ z9 ≤ 255) (h10 : 0 ≤ z10 ∧ z10 ≤ 255) (h11 : 0 ≤ z11 ∧ z11 ≤ 255) (h12 : 0 ≤ z12 ∧ z12 ≤ 255) (h13 : 0 ≤ z13 ∧ z13 ≤ 255) : PieceOk [z0, z1, z2, z3, z4, z5, z6, z7, z8, z9, z10, z11, z12, z13] := by
  have e : bits .or .u32 (z12 + 256 * z13) 65536 = (z12 + 256 * z13) + 65536 := or32 16 _ _ (by decide) (by omega) (by decide) (by omega) (by omega) (by omega)
  refine ⟨z0 + 256 * z1 + 65536 * z2 + 16777216 * z3, z4 + 256 * z5 + 65536 * z6 + 16777216 * z7, z8 + 256 * z9 + 65536 * z10 + 16777216 * z11, (z12 + 256 * z13) + 65536, 0, ?_, ?_⟩
  · simp [pieceWords, wordAt]
    rw [← e]
  · simp only [num8, List.length_cons, List.length_nil]
    omega
theorem piece15 (z0 z1 z2 z3 z4 z5 z6 z7 z8 z9 z10 z11 z12 z13 z14 : Int) (h0 : 0 ≤ z0 ∧ z0 ≤ 255) (h1 : 0 ≤ z1 ∧ z1 ≤ 255) (h2 : 0 ≤ z2 ∧ z2 ≤ 255) (h3 : 0 ≤ z3 ∧ z3 ≤ 255) (h4 : 0 ≤ z4 ∧ z4 ≤ 255) (h5 : 0 ≤ z5 ∧ z5 ≤ 255) (h6 : 0 ≤ z6 ∧ z6 ≤ 255) (h7 : 0 ≤ z7 ∧ z7 ≤ 255) (h8 : 0 ≤ z8 ∧ z8 ≤ 255) (h9 : 0 ≤ z9 ∧ z9 ≤ 255) (h10 : 0 ≤ z10 ∧ z10 ≤ 255) (h11 : 0 ≤ z11 ∧ z11 ≤ 255) (h12 : 0 ≤ z12 ∧ z12 ≤ 255) (h13 : 0 ≤ z13 ∧ z13 ≤ 255) (h14 : 0 ≤ z14 ∧ z14 ≤ 255) : PieceOk [z0, z1, z2, z3, z4, z5, z6, z7, z8, z9, z10, z11, z12, z13, z14] := by
  have e : bits .or .u32 (z12 + 256 * z13 + 65536 * z14) 16777216 = (z12 + 256 * z13 + 65536 * z14) + 16777216 := or32 24 _ _ (by decide) (by omega) (by decide) (by omega) (by omega) (by omega)
  refine ⟨z0 + 256 * z1 + 65536 * z2 + 16777216 * z3, z4 + 256 * z5 + 65536 * z6 + 16777216 * z7, z8 + 256 * z9 + 65536 * z10 + 16777216 * z11, (z12 + 256 * z13 + 65536 * z14) + 16777216, 0, ?_, ?_⟩
  · simp [pieceWords, wordAt]
    rw [← e]
  · simp only [num8, List.length_cons, List.length_nil]
    omega
theorem piece16 (z0 z1 z2 z3 z4 z5 z6 z7 z8 z9 z10 z11 z12 z13 z14 z15 : Int) (h0 : 0 ≤ z0 ∧ z0 ≤ 255) (h1 : 0 ≤ z1 ∧ z1 ≤ 255) (h2 : 0 ≤ z2 ∧ z2 ≤ 255) (h3 : 0 ≤ z3 ∧ z3 ≤ 255) (h4 : 0 ≤ z4 ∧ z4 ≤ 255) (h5 : 0 ≤ z5 ∧ z5 ≤ 255) (h6 : 0 ≤ z6 ∧ z6 ≤ 255) (h7 : 0 ≤ z7 ∧ z7 ≤ 255) (h8 : 0 ≤ z8 ∧ z8 ≤ 255) (h9 : 0 ≤ z9 ∧ z9 ≤ 255) (h10 : 0 ≤ z10 ∧ z10 ≤ 255) (h11 : 0 ≤ z11 ∧ z11 ≤ 255) (h12 : 0 ≤ z12 ∧ z12 ≤ 255) (h13 : 0 ≤ z13 ∧ z13 ≤ 255) (h14 : 0 ≤ z14 ∧ z14 ≤ 255) (h15 : 0 ≤ z15 ∧ z15 ≤ 255) : PieceOk [z0, z1, z2, z3, z4, z5, z6, z7, z8, z9, z10, z11, z12, z13, z14, z15] := by
  have e : bits .or .u32 (0) 1 = (0) + 1 := or32 0 _ _ (by decide) (by omega) (by decide) (by omega) (by omega) (by omega)
  refine ⟨z0 + 256 * z1 + 65536 * z2 + 16777216 * z3, z4 + 256 * z5 + 65536 * z6 + 16777216 * z7, z8 + 256 * z9 + 65536 * z10 + 16777216 * z11, z12 + 256 * z13 + 65536 * z14 + 16777216 * z15, 1, ?_, ?_⟩
  · simp [pieceWords, wordAt]
    exact e.trans (by omega)
  · simp only [num8, List.length_cons, List.length_nil]
    omega
theorem piece_ok (zs : List Int) (h : Bytes zs) (h1 : 1 ≤ zs.length) (h16 : zs.length ≤ 16) : PieceOk zs := by
  have b0 := h 0
  have b1 := h 1
  have b2 := h 2
  have b3 := h 3
  have b4 := h 4
  have b5 := h 5
  have b6 := h 6
  have b7 := h 7
  have b8 := h 8
  have b9 := h 9
  have b10 := h 10
  have b11 := h 11
  have b12 := h 12
  have b13 := h 13
  have b14 := h 14
  have b15 := h 15
  match zs, h1, h16 with
  | [z0], _, _ => exact piece1 z0 b0
  | [z0, z1], _, _ => exact piece2 z0 z1 b0 b1
  | [z0, z1, z2], _, _ => exact piece3 z0 z1 z2 b0 b1 b2
  | [z0, z1, z2, z3], _, _ => exact piece4 z0 z1 z2 z3 b0 b1 b2 b3
  | [z0, z1, z2, z3, z4], _, _ => exact piece5 z0 z1 z2 z3 z4 b0 b1 b2 b3 b4
  | [z0, z1, z2, z3, z4, z5], _, _ => exact piece6 z0 z1 z2 z3 z4 z5 b0 b1 b2 b3 b4 b5
  | [z0, z1, z2, z3, z4, z5, z6], _, _ => exact piece7 z0 z1 z2 z3 z4 z5 z6 b0 b1 b2 b3 b4 b5 b6
  | [z0, z1, z2, z3, z4, z5, z6, z7], _, _ => exact piece8 z0 z1 z2 z3 z4 z5 z6 z7 b0 b1 b2 b3 b4 b5 b6 b7
  | [z0, z1, z2, z3, z4, z5, z6, z7, z8], _, _ => exact piece9 z0 z1 z2 z3 z4 z5 z6 z7 z8 b0 b1 b2 b3 b4 b5 b6 b7 b8
  | [z0, z1, z2, z3, z4, z5, z6, z7, z8, z9], _, _ => exact piece10 z0 z1 z2 z3 z4 z5 z6 z7 z8 z9 b0 b1 b2 b3 b4 b5 b6 b7 b8 b9
  | [z0, z1, z2, z3, z4, z5, z6, z7, z8, z9, z10], _, _ => exact piece11 z0 z1 z2 z3 z4 z5 z6 z7 z8 z9 z10 b0 b1 b2 b3 b4 b5 b6 b7 b8 b9 b10
  | [z0, z1, z2, z3, z4, z5, z6, z7, z8, z9, z10, z11], _, _ => exact piece12 z0 z1 z2 z3 z4 z5 z6 z7 z8 z9 z10 z11 b0 b1 b2 b3 b4 b5 b6 b7 b8 b9 b10 b11
  | [z0, z1, z2, z3, z4, z5, z6, z7, z8, z9, z10, z11, z12], _, _ => exact piece13 z0 z1 z2 z3 z4 z5 z6 z7 z8 z9 z10 z11 z12 b0 b1 b2 b3 b4 b5 b6 b7 b8 b9 b10 b11 b12
  | [z0, z1, z2, z3, z4, z5, z6, z7, z8, z9, z10, z11, z12, z13], _, _ => exact piece14 z0 z1 z2 z3 z4 z5 z6 z7 z8 z9 z10 z11 z12 z13 b0 b1 b2 b3 b4 b5 b6 b7 b8 b9 b10 b11 b12 b13
  | [z0, z1, z2, z3, z4, z5, z6, z7, z8, z9, z10, z11, z12, z13, z14], _, _ => exact piece15 z0 z1 z2 z3 z4 z5 z6 z7 z8 z9 z10 z11 z12 z13 z14 b0 b1 b2 b3 b4 b5 b6 b7 b8 b9 b10 b11 b12 b13 b14
  | [z0, z1, z2, z3, z4, z5, z6, z7, z8, z9, z10, z11, z12, z13, z14, z15], _, _ => exact piece16 z0 z1 z2 z3 z4 z5 z6 z7 z8 z9 z10 z11 z12 z13 z14 z15 b0 b1 b2 b3 b4 b5 b6 b7 b8 b9 b10 b11 b12 b13 b14 b15
  | _ :: _ :: _ :: _ :: _ :: _ :: _ :: _ :: _ :: _ :: _ :: _ :: _ :: _ :: _ :: _ :: _ :: _, _, h16 => simp at h16
end Go.Proofs.YtlbnmiinokkkgaaDoor
namespace Go.Proofs.YtlbnmiinokkkgaaDoor

theorem mul_far (c d a b e : Int) (h : c * d = e) : (c * a) * (d * b) = e * (a * b) := by rw [← h, Int.mul_assoc, Int.mul_left_comm a d b, ← Int.mul_assoc]
theorem mul_left_far (d a b : Int) : a * (d * b) = d * (a * b) := Int.mul_left_comm a d b
theorem mul_right_far (c a b : Int) : (c * a) * b = c * (a * b) := Int.mul_assoc c a b
set_option maxHeartbeats 1000000 in
theorem times_full (a0 a1 a2 a3 a4 b0 b1 b2 b3 b4 : Int) : V5 a0 a1 a2 a3 a4 * V5 b0 b1 b2 b3 b4 = a0 * b0 + 67108864 * (a1 * b0) + 4503599627370496 * (a2 * b0) + 302231454903657293676544 * (a3 * b0) + 20282409603651670423947251286016 * (a4 * b0) + 67108864 * (a0 * b1) + 4503599627370496 * (a1 * b1) + 302231454903657293676544 * (a2 * b1) + 20282409603651670423947251286016 * (a3 * b1) + 1361129467683753853853498429727072845824 * (a4 * b1) + 4503599627370496 * (a0 * b2) + 302231454903657293676544 * (a1 * b2) + 20282409603651670423947251286016 * (a2 * b2) + 1361129467683753853853498429727072845824 * (a3 * b2) + 91343852333181432387730302044767688728495783936 * (a4 * b2) + 302231454903657293676544 * (a0 * b3) + 20282409603651670423947251286016 * (a1 * b3) + 1361129467683753853853498429727072845824 * (a2 * b3) + 91343852333181432387730302044767688728495783936 * (a3 * b3) + 6129982163463555433433388108601236734474956488734408704 * (a4 * b3) + 20282409603651670423947251286016 * (a0 * b4) + 1361129467683753853853498429727072845824 * (a1 * b4) + 91343852333181432387730302044767688728495783936 * (a2 * b4) + 6129982163463555433433388108601236734474956488734408704 * (a3 * b4) + 411376139330301510538742295639337626245683966408394965837152256 * (a4 * b4) := by
  have e01 : (a0) * (67108864 * b1) = 67108864 * (a0 * b1) := mul_left_far 67108864 a0 b1
  have e02 : (a0) * (4503599627370496 * b2) = 4503599627370496 * (a0 * b2) := mul_left_far 4503599627370496 a0 b2
  have e03 : (a0) * (302231454903657293676544 * b3) = 302231454903657293676544 * (a0 * b3) := mul_left_far 302231454903657293676544 a0 b3
  have e04 : (a0) * (20282409603651670423947251286016 * b4) = 20282409603651670423947251286016 * (a0 * b4) := mul_left_far 20282409603651670423947251286016 a0 b4
  have e10 : (67108864 * a1) * (b0) = 67108864 * (a1 * b0) := mul_right_far 67108864 a1 b0
  have e11 : (67108864 * a1) * (67108864 * b1) = 4503599627370496 * (a1 * b1) := mul_far 67108864 67108864 a1 b1 4503599627370496 (by decide)
  have e12 : (67108864 * a1) * (4503599627370496 * b2) = 302231454903657293676544 * (a1 * b2) := mul_far 67108864 4503599627370496 a1 b2 302231454903657293676544 (by decide)
  have e13 : (67108864 * a1) * (302231454903657293676544 * b3) = 20282409603651670423947251286016 * (a1 * b3) := mul_far 67108864 302231454903657293676544 a1 b3 20282409603651670423947251286016 (by decide)
  have e14 : (67108864 * a1) * (20282409603651670423947251286016 * b4) = 1361129467683753853853498429727072845824 * (a1 * b4) := mul_far 67108864 20282409603651670423947251286016 a1 b4 1361129467683753853853498429727072845824 (by decide)
  have e20 : (4503599627370496 * a2) * (b0) = 4503599627370496 * (a2 * b0) := mul_right_far 4503599627370496 a2 b0
  have e21 : (4503599627370496 * a2) * (67108864 * b1) = 302231454903657293676544 * (a2 * b1) := mul_far 4503599627370496 67108864 a2 b1 302231454903657293676544 (by decide)
  have e22 : (4503599627370496 * a2) * (4503599627370496 * b2) = 20282409603651670423947251286016 * (a2 * b2) := mul_far 4503599627370496 4503599627370496 a2 b2 20282409603651670423947251286016 (by decide)
  have e23 : (4503599627370496 * a2) * (302231454903657293676544 * b3) = 1361129467683753853853498429727072845824 * (a2 * b3) := mul_far 4503599627370496 302231454903657293676544 a2 b3 1361129467683753853853498429727072845824 (by decide)
  have e24 : (4503599627370496 * a2) * (20282409603651670423947251286016 * b4) = 91343852333181432387730302044767688728495783936 * (a2 * b4) := mul_far 4503599627370496 20282409603651670423947251286016 a2 b4 91343852333181432387730302044767688728495783936 (by decide)
  have e30 : (302231454903657293676544 * a3) * (b0) = 302231454903657293676544 * (a3 * b0) := mul_right_far 302231454903657293676544 a3 b0
  have e31 : (302231454903657293676544 * a3) * (67108864 * b1) = 20282409603651670423947251286016 * (a3 * b1) := mul_far 302231454903657293676544 67108864 a3 b1 20282409603651670423947251286016 (by decide)
  have e32 : (302231454903657293676544 * a3) * (4503599627370496 * b2) = 1361129467683753853853498429727072845824 * (a3 * b2) := mul_far 302231454903657293676544 4503599627370496 a3 b2 1361129467683753853853498429727072845824 (by decide)
  have e33 : (302231454903657293676544 * a3) * (302231454903657293676544 * b3) = 91343852333181432387730302044767688728495783936 * (a3 * b3) := mul_far 302231454903657293676544 302231454903657293676544 a3 b3 91343852333181432387730302044767688728495783936 (by decide)
  have e34 : (302231454903657293676544 * a3) * (20282409603651670423947251286016 * b4) = 6129982163463555433433388108601236734474956488734408704 * (a3 * b4) := mul_far 302231454903657293676544 20282409603651670423947251286016 a3 b4 6129982163463555433433388108601236734474956488734408704 (by decide)
  have e40 : (20282409603651670423947251286016 * a4) * (b0) = 20282409603651670423947251286016 * (a4 * b0) := mul_right_far 20282409603651670423947251286016 a4 b0
  have e41 : (20282409603651670423947251286016 * a4) * (67108864 * b1) = 1361129467683753853853498429727072845824 * (a4 * b1) := mul_far 20282409603651670423947251286016 67108864 a4 b1 1361129467683753853853498429727072845824 (by decide)
  have e42 : (20282409603651670423947251286016 * a4) * (4503599627370496 * b2) = 91343852333181432387730302044767688728495783936 * (a4 * b2) := mul_far 20282409603651670423947251286016 4503599627370496 a4 b2 91343852333181432387730302044767688728495783936 (by decide)
  have e43 : (20282409603651670423947251286016 * a4) * (302231454903657293676544 * b3) = 6129982163463555433433388108601236734474956488734408704 * (a4 * b3) := mul_far 20282409603651670423947251286016 302231454903657293676544 a4 b3 6129982163463555433433388108601236734474956488734408704 (by decide)
  have e44 : (20282409603651670423947251286016 * a4) * (20282409603651670423947251286016 * b4) = 411376139330301510538742295639337626245683966408394965837152256 * (a4 * b4) := mul_far 20282409603651670423947251286016 20282409603651670423947251286016 a4 b4 411376139330301510538742295639337626245683966408394965837152256 (by decide)
  unfold V5
  simp only [Int.add_mul, Int.mul_add, e01, e02, e03, e04, e10, e11, e12, e13, e14, e20, e21, e22, e23, e24, e30, e31, e32, e33, e34, e40, e41, e42, e43, e44]
  generalize a0 * b0 = p00
  generalize a0 * b1 = p01
  generalize a0 * b2 = p02
  generalize a0 * b3 = p03
  generalize a0 * b4 = p04
  generalize a1 * b0 = p10
  generalize a1 * b1 = p11
  generalize a1 * b2 = p12
  generalize a1 * b3 = p13
  generalize a1 * b4 = p14
  generalize a2 * b0 = p20
  generalize a2 * b1 = p21
  generalize a2 * b2 = p22
  generalize a2 * b3 = p23
  generalize a2 * b4 = p24
  generalize a3 * b0 = p30
  generalize a3 * b1 = p31
  generalize a3 * b2 = p32
  generalize a3 * b3 = p33
  generalize a3 * b4 = p34
  generalize a4 * b0 = p40
  generalize a4 * b1 = p41
  generalize a4 * b2 = p42
  generalize a4 * b3 = p43
  generalize a4 * b4 = p44
  omega
set_option maxHeartbeats 1000000 in
theorem times_value (a0 a1 a2 a3 a4 b0 b1 b2 b3 b4 : Int) :
    V5 (a0 * b0 + 5 * a1 * b4 + 5 * a2 * b3 + 5 * a3 * b2 + 5 * a4 * b1) (a0 * b1 + a1 * b0 + 5 * a2 * b4 + 5 * a3 * b3 + 5 * a4 * b2) (a0 * b2 + a1 * b1 + a2 * b0 + 5 * a3 * b4 + 5 * a4 * b3) (a0 * b3 + a1 * b2 + a2 * b1 + a3 * b0 + 5 * a4 * b4) (a0 * b4 + a1 * b3 + a2 * b2 + a3 * b1 + a4 * b0) = V5 a0 a1 a2 a3 a4 * V5 b0 b1 b2 b3 b4 - P130 * (a1 * b4 + a2 * b3 + 67108864 * (a2 * b4) + a3 * b2 + 67108864 * (a3 * b3) + 4503599627370496 * (a3 * b4) + a4 * b1 + 67108864 * (a4 * b2) + 4503599627370496 * (a4 * b3) + 302231454903657293676544 * (a4 * b4)) := by
  rw [times_full]
  rw [Int.mul_assoc 5 a1 b4]
  rw [Int.mul_assoc 5 a2 b3]
  rw [Int.mul_assoc 5 a2 b4]
  rw [Int.mul_assoc 5 a3 b2]
  rw [Int.mul_assoc 5 a3 b3]
  rw [Int.mul_assoc 5 a3 b4]
  rw [Int.mul_assoc 5 a4 b1]
  rw [Int.mul_assoc 5 a4 b2]
  rw [Int.mul_assoc 5 a4 b3]
  rw [Int.mul_assoc 5 a4 b4]
  generalize a0 * b0 = p00
  generalize a0 * b1 = p01
  generalize a0 * b2 = p02
  generalize a0 * b3 = p03
  generalize a0 * b4 = p04
  generalize a1 * b0 = p10
  generalize a1 * b1 = p11
  generalize a1 * b2 = p12
  generalize a1 * b3 = p13
  generalize a1 * b4 = p14
  generalize a2 * b0 = p20
  generalize a2 * b1 = p21
  generalize a2 * b2 = p22
  generalize a2 * b3 = p23
  generalize a2 * b4 = p24
  generalize a3 * b0 = p30
  generalize a3 * b1 = p31
  generalize a3 * b2 = p32
  generalize a3 * b3 = p33
  generalize a3 * b4 = p34
  generalize a4 * b0 = p40
  generalize a4 * b1 = p41
  generalize a4 * b2 = p42
  generalize a4 * b3 = p43
  generalize a4 * b4 = p44
  unfold V5 P130
  omega
/-- What the authenticator has gathered behind k pieces. -/
def accTo (r : Int) (zs : List Int) : Nat → Int
  | 0 => 0
  | k + 1 => (accTo r zs k + (num8 ((zs.drop (16 * k)).take 16) + 256 ^ ((zs.drop (16 * k)).take 16).length)) * r % P130
theorem acc_step (A pc R qa q s : Int) (h : s = (A + P130 * qa + pc) * R - P130 * q) : ∃ t, s = (A + pc) * R % P130 + P130 * t := by
  refine ⟨(A + pc) * R / P130 + qa * R - q, ?_⟩
  have e : (A + P130 * qa + pc) * R = (A + pc) * R + P130 * (qa * R) := by
    rw [show A + P130 * qa + pc = (A + pc) + P130 * qa by omega, Int.add_mul, Int.mul_assoc]
  rw [h, e]
  have := Int.mul_ediv_add_emod ((A + pc) * R) P130
  rw [Int.mul_sub, Int.mul_add]
  omega
end Go.Proofs.YtlbnmiinokkkgaaDoor
namespace Go.Proofs.YtlbnmiinokkkgaaDoor

/-- The number r of a key: its first half with the bits cut that the document cuts. -/
def rNum (l : List Int) : Int := wordAt l 0 % 268435456 + 4294967296 * (4 * (wordAt l 1 / 4 % 67108864)) + 18446744073709551616 * (4 * (wordAt l 2 / 4 % 67108864)) + 79228162514264337593543950336 * (4 * (wordAt l 3 / 4 % 67108864))
/-- The number s of a key: its other half. -/
def sNum (l : List Int) : Int := wordAt (l.drop 16) 0 + 4294967296 * wordAt (l.drop 16) 1 + 18446744073709551616 * (wordAt (l.drop 16) 2 + 4294967296 * wordAt (l.drop 16) 3)
/-- Sixteen bytes of a number, the least first. -/
def bytes16 (N : Int) : List Int := (List.range 16).map fun i => N / 256 ^ i % 256
/-- What the document asks of the authenticator. -/
def tagOf (key zs : List Int) : List Int := bytes16 (accTo (rNum key) zs ((zs.length + 15) / 16) + sNum key)

theorem low_byte (N : Int) (i : Nat) (hi : i < 8) : N % 18446744073709551616 / 256 ^ i % 256 = N / 256 ^ i % 256 := by
  match i, hi with
  | 0, _ => simp
  | 1, _ => simp; omega
  | 2, _ => simp; omega
  | 3, _ => simp; omega
  | 4, _ => simp; omega
  | 5, _ => simp; omega
  | 6, _ => simp; omega
  | 7, _ => simp; omega
theorem high_byte (N : Int) (i : Nat) (hi : i < 8) : N / 18446744073709551616 % 18446744073709551616 / 256 ^ i % 256 = N / 256 ^ (8 + i) % 256 := by
  match i, hi with
  | 0, _ => simp
  | 1, _ => simp; omega
  | 2, _ => simp; omega
  | 3, _ => simp; omega
  | 4, _ => simp; omega
  | 5, _ => simp; omega
  | 6, _ => simp; omega
  | 7, _ => simp; omega
theorem put_tag (N lo hi : Int) (hlo : lo = N % 18446744073709551616) (hhi : hi = N / 18446744073709551616 % 18446744073709551616) (z : List Int) (hz : z.length = 16) :
    putFrom (putFrom z 0 (fun i => lo / 256 ^ i % 256) 8) 8 (fun i => hi / 256 ^ i % 256) 8 = bytes16 N := by
  apply List.ext_getElem?
  intro i
  rw [putFrom_get _ _ _ _ _ (by rw [putFrom_length _ _ _ _ (by omega)]; omega), putFrom_get _ _ _ _ _ (by omega)]
  simp only [bytes16, List.getElem?_map]
  by_cases h : i < 16
  · rw [List.getElem?_range h]
    by_cases h8 : i < 8
    · rw [if_neg (by omega), if_pos (by omega), hlo, Nat.sub_zero, low_byte N i h8]
      rfl
    · rw [if_pos (by omega), hhi, high_byte N (i - 8) (by omega), show 8 + (i - 8) = i by omega]
      rfl
  · rw [if_neg (by omega), if_neg (by omega), List.getElem?_eq_none (by omega), List.getElem?_eq_none (by simp; omega)]
    rfl
theorem acc_in (r : Int) (zs : List Int) (k : Nat) : 0 ≤ accTo r zs k ∧ accTo r zs k < P130 := by
  cases k with
  | zero => simp [accTo, P130]
  | succ k =>
    unfold accTo
    exact ⟨Int.emod_nonneg _ (by decide), Int.emod_lt_of_pos _ (by decide)⟩
theorem acc_same {a b q : Int} (h : a = b + P130 * q) (ha : 0 ≤ a) (ha2 : a < P130) (hb : 0 ≤ b) (hb2 : b < P130) : a = b := by
  unfold P130 at *
  omega
theorem or32_64 (x y : Int) (hx : 0 ≤ x) (hx2 : x < 4294967296) (hy : 0 ≤ y) (hy2 : y < 4294967296) : bits .or .u64 x (y * 4294967296) = x + 4294967296 * y := by
  rw [or64' 32 x (y * 4294967296) (by decide) (by omega) (by omega) (by omega) (by omega) (by omega)]
  omega
end Go.Proofs.YtlbnmiinokkkgaaDoor
namespace Go.Proofs.YtlbnmiinokkkgaaDoor
open Go.RowKit
set_option linter.unusedVariables false
def xb (a b : Int) : Int := bits .xor .u8 a b
theorem xb_in (a b : Int) : 0 ≤ xb a b ∧ xb a b ≤ 255 := by
  unfold xb
  rw [bits.eq_3, IntKind.wrap_u8]
  omega
def blk (key nonce : List Int) (i : Nat) : List Int := blockOf (startL key (restOf i nonce)) (roundsN (startL key (restOf i nonce)) 10)
theorem blk_length (key nonce : List Int) (i : Nat) : (blk key nonce i).length = 64 := by simp [blk, blockOf, putFrom]
/-- The text's first k bytes under the blocks from 1 on. -/
def strL (B : Nat → List Int) (text : List Int) (k : Nat) : List Int := (List.range k).map fun i => xb (text.getD i 0) ((B (1 + i / 64)).getD (i % 64) 0)
theorem strL_succ (B : Nat → List Int) (text : List Int) (k : Nat) : strL B text (k + 1) = strL B text k ++ [xb (text.getD k 0) ((B (1 + k / 64)).getD (k % 64) 0)] := by simp [strL, List.range_succ]
theorem strL_length (B : Nat → List Int) (text : List Int) (k : Nat) : (strL B text k).length = k := by simp [strL]
theorem map_bytes (f : Nat → Int) (n : Nat) (h : ∀ i, 0 ≤ f i ∧ f i ≤ 255) : Bytes ((List.range n).map f) := by
  intro i
  simp only [List.getD_eq_getElem?_getD, List.getElem?_map]
  by_cases h1 : i < n
  · rw [List.getElem?_range h1]
    exact h i
  · rw [List.getElem?_eq_none (by simp; omega)]
    exact (show (0 : Int) ≤ 0 ∧ (0 : Int) ≤ 255 from ⟨by decide, by decide⟩)
theorem strL_bytes (B : Nat → List Int) (text : List Int) (k : Nat) : Bytes (strL B text k) := map_bytes _ _ (fun i => xb_in _ _)
def fillN (n : Nat) : Nat := (16 - n % 16) % 16
def fillL (l : List Int) : List Int := l ++ List.replicate (fillN l.length) 0
def le8 (n : Nat) : List Int := (List.range 8).map fun i => (n : Int) / 256 ^ i % 256
theorem le8_length (n : Nat) : (le8 n).length = 8 := by simp [le8]
theorem le8_bytes (n : Nat) : Bytes (le8 n) := map_bytes _ _ (fun i => by omega)
def macL (E H : List Int) : List Int := fillL E ++ (fillL H ++ (le8 E.length ++ le8 H.length))
def tagB (B : Nat → List Int) (E H : List Int) : List Int := tagOf ((B 0).take 32) (macL E H)
def sealB (B : Nat → List Int) (E text : List Int) : List Int := strL B text text.length ++ tagB B E (strL B text text.length)
theorem fillN_lt (n : Nat) : fillN n < 16 := Nat.mod_lt _ (by decide)
theorem fillL_length (l : List Int) : (fillL l).length = l.length + fillN l.length := by simp [fillL]
theorem bytes_zero (n : Nat) : Bytes (List.replicate n 0) := fun i => by simp [List.getD_eq_getElem?_getD, List.getElem?_replicate]; split <;> simp
theorem fillL_bytes {l : List Int} (h : Bytes l) : Bytes (fillL l) := bytes_append h (bytes_zero _)
theorem macL_bytes {E H : List Int} (hE : Bytes E) (hH : Bytes H) : Bytes (macL E H) := bytes_append (fillL_bytes hE) (bytes_append (fillL_bytes hH) (bytes_append (le8_bytes _) (le8_bytes _)))
theorem macL_length (E H : List Int) : (macL E H).length = E.length + fillN E.length + (H.length + fillN H.length + 16) := by simp [macL, fillL_length, le8_length]
/-- A slice's bytes lie at a place. -/
def Sl (w : World) (g o : Nat) (l : List Int) : Prop := g < w.heap.size ∧ ∀ i, i < l.length → w.cell? ⟨g, o + i, none⟩ = some (.int .u8 (l.getD i 0))
theorem Sl.later {w w' : World} {B g o : Nat} {l : List Int} (h : Sl w g o l) (hb : Below B w w') (hB : g < B) : Sl w' g o l :=
  ⟨Nat.lt_of_lt_of_le h.1 hb.size, fun i hi => (hb.cell (p := ⟨g, o + i, none⟩) hB).trans (h.2 i hi)⟩
theorem Sl.of_row {w : World} {g : Nat} {l : List Int} {t : TypeId} (h : w.heap[g]? = some (.cells (Iv .u8 l) t)) : Sl w g 0 l :=
  ⟨(Array.getElem?_eq_some_iff.1 h).1, fun i hi => by rw [Nat.zero_add, cell_of_row _ _ _ _ _ _ h]; simp [Iv, hi]⟩
theorem Sl.take {w : World} {g o : Nat} {l : List Int} (h : Sl w g o l) (n : Nat) : Sl w g o (l.take n) :=
  ⟨h.1, fun i hi => by rw [List.length_take] at hi; rw [h.2 i (by omega)]; simp [List.getD_eq_getElem?_getD, show i < n by omega]⟩
theorem Sl.drop {w : World} {g o : Nat} {l : List Int} (h : Sl w g o l) (n : Nat) : Sl w g (o + n) (l.drop n) :=
  ⟨h.1, fun i hi => by rw [List.length_drop] at hi; rw [Nat.add_assoc, h.2 (n + i) (by omega)]; simp [List.getD_eq_getElem?_getD]⟩
theorem Sl.of_own {w : World} {base : Nat} {g n cap : Nat} {e : TypeId} {l : List Int} (h : Own .u8 e base w (.slice (some ⟨g, 0, none⟩) n cap) l) : Sl w g 0 l := by
  obtain ⟨h1, ⟨hv, _⟩ | ⟨g', cap', cur, hv, hg, hh, hc, hmx, hs, ht⟩⟩ := h
  · cases hv
  · simp at hv
    obtain ⟨rfl, rfl, rfl⟩ := hv
    refine ⟨(Array.getElem?_eq_some_iff.1 hh).1, fun i hi => ?_⟩
    have := World.ownsRow.cells (w := w) (base := base) (e := e) (size := 1) (v := .slice (some ⟨g, 0, none⟩) l.length cap) (n := l.length) (xs := iv .u8 l) (g := g) ⟨by simp [iv_length], .inr ⟨g, cap, cur, rfl, hg, hh, hc, hmx, hs, ht⟩⟩ rfl i (.int .u8 (l.getD i 0)) (by rw [iv_get]; simp [hi])
    have e2 : (⟨g, 0, none⟩ : Addr).add i = ⟨g, 0 + i, none⟩ := by unfold Addr.add; split <;> simp_all
    rw [e2] at this
    exact this
/-- What a call's contract says of the block function. -/
def ChaOk (f : Nat) (key nonce : List Int) (B : Nat → List Int) (C : World → Prop) : Prop :=
  ∀ (i : Nat) (W : World), i ≤ 2000 → C W → Calls Tryd.prog f #[.agg (Iv .u8 key), .int .u32 (i : Int), .agg (Iv .u8 nonce)] W fun e w' => e = .returned (.agg (Iv .u8 (B i))) ∧ Below W.heap.size W w'
theorem chaOk_impl (key nonce : List Int) (hk : key.length = 32) (hr : nonce.length = 12) (hkb : Bytes key) (hrb : Bytes nonce) : ChaOk 31 key nonce (blk key nonce) MixTab :=
  fun i W hi hW => chaBlock_any key nonce i W hk hr hkb hrb (by omega) (by omega) hW
theorem chaOk_spec (key nonce : List Int) (hk : key.length = 32) (hr : nonce.length = 12) (hkb : Bytes key) (hrb : Bytes nonce) : ChaOk 44 key nonce (blk key nonce) (fun _ => True) :=
  fun i W hi _ => specChaBlock_any key nonce i W hk hr hkb hrb (by omega) (by omega)
theorem blk_bytes (key nonce : List Int) (i : Nat) : Bytes (blk key nonce i) := by
  intro j
  unfold blk blockOf
  simp only [List.getD_eq_getElem?_getD]
  rw [putFrom_get _ _ _ _ _ (by simp)]
  split
  · simp only [Option.getD_some, blockByte]
    omega
  · rw [List.getElem?_replicate]
    split <;> simp
end Go.Proofs.YtlbnmiinokkkgaaDoor
namespace Go.Proofs.YtlbnmiinokkkgaaDoor
open Go.RowKit
set_option linter.unusedVariables false
/-- To be tried under 'with_reducible': the goal is a list of operations. -/
theorem wpList_id {P : Program} {ops : Array Oper} {l : List Oper} {a : Act} {w : World} {Q : Exit → Act → World → Prop} (h : wpList P ops Q l a w) : wpList P ops Q l a w := h
/-- A guarded operation that is wanted, as one without a guard. -/
theorem wpList_want {P : Program} {ops : Array Oper} {rest : List Oper} {d : Option Tmp} {p : Op} {t : TypeId} {s : String} {e : Array Edge} {g : Option (Nat × Bool)} {a : Act} {w : World} {Q : Exit → Act → World → Prop}
    (hw : Region.wanted ⟨d, p, t, s, e, g⟩ (yielded ops a.tmps) = true) (h : wpList P ops Q (⟨d, p, t, s, e, none⟩ :: rest) a w) : wpList P ops Q (⟨d, p, t, s, e, g⟩ :: rest) a w := by
  unfold wpList at h ⊢
  rw [if_pos hw]
  have h2 : Region.wanted ⟨d, p, t, s, e, none⟩ (yielded ops a.tmps) = true := rfl
  rw [if_pos h2] at h
  exact h
theorem wpList_load_mid_w {P : Program} {ops : Array Oper} {rest : List Oper} {d : Option Tmp} {t : TypeId} {s : String} {e : Array Edge} {g : Option (Nat × Bool)} {a : Act} {w : World} {Q : Exit → Act → World → Prop} {ty : TypeId} {x : Operand}
    (hw : Region.wanted ⟨d, .load ty x, t, s, e, g⟩ (yielded ops a.tmps) = true)
    (b o : Nat) (hx : a.eval x = .pointer (some ⟨b, o, none⟩)) (cs : List Value) (de : TypeDesc) (hg : w.rangeAt b o cs)
    (hu : P.underlying ty = some de) (hd : de.isRow = true) (hi : (P.info? ty).map (·.size) = some cs.length)
    (h : wpList P ops Q rest (a.put d (.agg cs.toArray)) w) : wpList P ops Q (⟨d, .load ty x, t, s, e, g⟩ :: rest) a w :=
  wpList_want hw (wpList_load_mid rfl ty x rfl b o hx cs de hg hu hd hi h)
theorem wpList_load_row_w {P : Program} {ops : Array Oper} {rest : List Oper} {d : Option Tmp} {t : TypeId} {s : String} {e : Array Edge} {g : Option (Nat × Bool)} {a : Act} {w : World} {Q : Exit → Act → World → Prop} {ty : TypeId} {x : Operand}
    (hw : Region.wanted ⟨d, .load ty x, t, s, e, g⟩ (yielded ops a.tmps) = true)
    (b : Nat) (hx : a.eval x = .pointer (some ⟨b, 0, none⟩)) (tt : TypeId) (cs : Array Value) (fr : Nat × Nat) (de : TypeDesc) (hg : w.heap[b]? = some (.cells cs tt fr))
    (hu : P.underlying ty = some de) (hd : de.isRow = true) (hi : (P.info? ty).map (·.size) = some cs.size)
    (h : wpList P ops Q rest (a.put d (.agg cs)) w) : wpList P ops Q (⟨d, .load ty x, t, s, e, g⟩ :: rest) a w :=
  wpList_want hw (wpList_load_row rfl ty x rfl b hx tt cs fr de hg hu (by cases de <;> first | rfl | exact hd) hi h)
end Go.Proofs.YtlbnmiinokkkgaaDoor
