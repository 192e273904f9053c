/- The number of a piece of 1 to 16 bytes followed by a byte 1, as words. -/
import Derived.Test.YtbfjnepmhbnnjaaNum
namespace Go.Proofs.Ytbfjnepmhbnnjaa

/-- A number of bytes, the least first. -/
def num8 : List Int → Int
  | [] => 0
  | x :: r => x + 256 * num8 r

/-- The words of a piece, the byte 1 behind it. -/
def pieceWords (zs : List Int) : List Int := ([wordAt zs 0, wordAt zs 1, wordAt zs 2, wordAt zs 3, wordAt zs 4]).set (zs.length / 4) (bits .or .u32 (wordAt zs (zs.length / 4)) (2 ^ (8 * (zs.length % 4))))
def PieceOk (zs : List Int) : Prop :=
  ∃ v0 v1 v2 v3 v4 : Int, pieceWords zs = [v0, v1, v2, v3, v4] ∧ 0 ≤ v0 ∧ v0 < 4294967296 ∧ 0 ≤ v1 ∧ v1 < 4294967296 ∧ 0 ≤ v2 ∧ v2 < 4294967296 ∧ 0 ≤ v3 ∧ v3 < 4294967296 ∧ 0 ≤ v4 ∧ v4 ≤ 1 ∧
    v0 + 4294967296 * v1 + 18446744073709551616 * v2 + 79228162514264337593543950336 * v3 + 340282366920938463463374607431768211456 * v4 = num8 zs + 256 ^ zs.length
theorem piece1 (z0 : Int) (h0 : 0 ≤ z0 ∧ z0 ≤ 255) : PieceOk [z0] := by
  have e : bits .or .u32 (z0) 256 = (z0) + 256 := or32 8 _ _ (by decide) (by omega) (by decide) (by omega) (by omega) (by omega)
  refine ⟨(z0) + 256, 0, 0, 0, 0, ?_, ?_⟩
  · simp [pieceWords, wordAt]
    rw [← e]
  · simp only [num8, List.length_cons, List.length_nil]
    omega
theorem piece2 (z0 z1 : Int) (h0 : 0 ≤ z0 ∧ z0 ≤ 255) (h1 : 0 ≤ z1 ∧ z1 ≤ 255) : PieceOk [z0, z1] := by
  have e : bits .or .u32 (z0 + 256 * z1) 65536 = (z0 + 256 * z1) + 65536 := or32 16 _ _ (by decide) (by omega) (by decide) (by omega) (by omega) (by omega)
  refine ⟨(z0 + 256 * z1) + 65536, 0, 0, 0, 0, ?_, ?_⟩
  · simp [pieceWords, wordAt]
    rw [← e]
  · simp only [num8, List.length_cons, List.length_nil]
    omega
theorem piece3 (z0 z1 z2 : Int) (h0 : 0 ≤ z0 ∧ z0 ≤ 255) (h1 : 0 ≤ z1 ∧ z1 ≤ 255) (h2 : 0 ≤ z2 ∧ z2 ≤ 255) : PieceOk [z0, z1, z2] := by
  have e : bits .or .u32 (z0 + 256 * z1 + 65536 * z2) 16777216 = (z0 + 256 * z1 + 65536 * z2) + 16777216 := or32 24 _ _ (by decide) (by omega) (by decide) (by omega) (by omega) (by omega)
  refine ⟨(z0 + 256 * z1 + 65536 * z2) + 16777216, 0, 0, 0, 0, ?_, ?_⟩
  · simp [pieceWords, wordAt]
    rw [← e]
  · simp only [num8, List.length_cons, List.length_nil]
    omega
theorem piece4 (z0 z1 z2 z3 : Int) (h0 : 0 ≤ z0 ∧ z0 ≤ 255) (h1 : 0 ≤ z1 ∧ z1 ≤ 255) (h2 : 0 ≤ z2 ∧ z2 ≤ 255) (h3 : 0 ≤ z3 ∧ z3 ≤ 255) : PieceOk [z0, z1, z2, z3] := by
  have e : bits .or .u32 (0) 1 = (0) + 1 := or32 0 _ _ (by decide) (by omega) (by decide) (by omega) (by omega) (by omega)
  refine ⟨z0 + 256 * z1 + 65536 * z2 + 16777216 * z3, 1, 0, 0, 0, ?_, ?_⟩
  · simp [pieceWords, wordAt]
    exact e.trans (by omega)
  · simp only [num8, List.length_cons, List.length_nil]
    omega
theorem piece5 (z0 z1 z2 z3 z4 : Int) (h0 : 0 ≤ z0 ∧ z0 ≤ 255) (h1 : 0 ≤ z1 ∧ z1 ≤ 255) (h2 : 0 ≤ z2 ∧ z2 ≤ 255) (h3 : 0 ≤ z3 ∧ z3 ≤ 255) (h4 : 0 ≤ z4 ∧ z4 ≤ 255) : PieceOk [z0, z1, z2, z3, z4] := by
  have e : bits .or .u32 (z4) 256 = (z4) + 256 := or32 8 _ _ (by decide) (by omega) (by decide) (by omega) (by omega) (by omega)
  refine ⟨z0 + 256 * z1 + 65536 * z2 + 16777216 * z3, (z4) + 256, 0, 0, 0, ?_, ?_⟩
  · simp [pieceWords, wordAt]
    rw [← e]
  · simp only [num8, List.length_cons, List.length_nil]
    omega
theorem piece6 (z0 z1 z2 z3 z4 z5 : Int) (h0 : 0 ≤ z0 ∧ z0 ≤ 255) (h1 : 0 ≤ z1 ∧ z1 ≤ 255) (h2 : 0 ≤ z2 ∧ z2 ≤ 255) (h3 : 0 ≤ z3 ∧ z3 ≤ 255) (h4 : 0 ≤ z4 ∧ z4 ≤ 255) (h5 : 0 ≤ z5 ∧ z5 ≤ 255) : PieceOk [z0, z1, z2, z3, z4, z5] := by
  have e : bits .or .u32 (z4 + 256 * z5) 65536 = (z4 + 256 * z5) + 65536 := or32 16 _ _ (by decide) (by omega) (by decide) (by omega) (by omega) (by omega)
  refine ⟨z0 + 256 * z1 + 65536 * z2 + 16777216 * z3, (z4 + 256 * z5) + 65536, 0, 0, 0, ?_, ?_⟩
  · simp [pieceWords, wordAt]
    rw [← e]
  · simp only [num8, List.length_cons, List.length_nil]
    omega
theorem piece7 (z0 z1 z2 z3 z4 z5 z6 : Int) (h0 : 0 ≤ z0 ∧ z0 ≤ 255) (h1 : 0 ≤ z1 ∧ z1 ≤ 255) (h2 : 0 ≤ z2 ∧ z2 ≤ 255) (h3 : 0 ≤ z3 ∧ z3 ≤ 255) (h4 : 0 ≤ z4 ∧ z4 ≤ 255) (h5 : 0 ≤ z5 ∧ z5 ≤ 255) (h6 : 0 ≤ z6 ∧ z6 ≤ 255) : PieceOk [z0, z1, z2, z3, z4, z5, z6] := by
  have e : bits .or .u32 (z4 + 256 * z5 + 65536 * z6) 16777216 = (z4 + 256 * z5 + 65536 * z6) + 16777216 := or32 24 _ _ (by decide) (by omega) (by decide) (by omega) (by omega) (by omega)
  refine ⟨z0 + 256 * z1 + 65536 * z2 + 16777216 * z3, (z4 + 256 * z5 + 65536 * z6) + 16777216, 0, 0, 0, ?_, ?_⟩
  · simp [pieceWords, wordAt]
    rw [← e]
  · simp only [num8, List.length_cons, List.length_nil]
    omega
theorem piece8 (z0 z1 z2 z3 z4 z5 z6 z7 : Int) (h0 : 0 ≤ z0 ∧ z0 ≤ 255) (h1 : 0 ≤ z1 ∧ z1 ≤ 255) (h2 : 0 ≤ z2 ∧ z2 ≤ 255) (h3 : 0 ≤ z3 ∧ z3 ≤ 255) (h4 : 0 ≤ z4 ∧ z4 ≤ 255) (h5 : 0 ≤ z5 ∧ z5 ≤ 255) (h6 : 0 ≤ z6 ∧ z6 ≤ 255) (h7 : 0 ≤ z7 ∧ z7 ≤ 255) : PieceOk [z0, z1, z2, z3, z4, z5, z6, z7] := by
  have e : bits .or .u32 (0) 1 = (0) + 1 := or32 0 _ _ (by decide) (by omega) (by decide) (by omega) (by omega) (by omega)
  refine ⟨z0 + 256 * z1 + 65536 * z2 + 16777216 * z3, z4 + 256 * z5 + 65536 * z6 + 16777216 * z7, 1, 0, 0, ?_, ?_⟩
  · simp [pieceWords, wordAt]
    exact e.trans (by omega)
  · simp only [num8, List.length_cons, List.length_nil]
    omega
theorem piece9 (z0 z1 z2 z3 z4 z5 z6 z7 z8 : Int) (h0 : 0 ≤ z0 ∧ z0 ≤ 255) (h1 : 0 ≤ z1 ∧ z1 ≤ 255) (h2 : 0 ≤ z2 ∧ z2 ≤ 255) (h3 : 0 ≤ z3 ∧ z3 ≤ 255) (h4 : 0 ≤ z4 ∧ z4 ≤ 255) (h5 : 0 ≤ z5 ∧ z5 ≤ 255) (h6 : 0 ≤ z6 ∧ z6 ≤ 255) (h7 : 0 ≤ z7 ∧ z7 ≤ 255) (h8 : 0 ≤ z8 ∧ z8 ≤ 255) : PieceOk [z0, z1, z2, z3, z4, z5, z6, z7, z8] := by
  have e : bits .or .u32 (z8) 256 = (z8) + 256 := or32 8 _ _ (by decide) (by omega) (by decide) (by omega) (by omega) (by omega)
  refine ⟨z0 + 256 * z1 + 65536 * z2 + 16777216 * z3, z4 + 256 * z5 + 65536 * z6 + 16777216 * z7, (z8) + 256, 0, 0, ?_, ?_⟩
  · simp [pieceWords, wordAt]
    rw [← e]
  · simp only [num8, List.length_cons, List.length_nil]
    omega
theorem piece10 (z0 z1 z2 z3 z4 z5 z6 z7 z8 z9 : Int) (h0 : 0 ≤ z0 ∧ z0 ≤ 255) (h1 : 0 ≤ z1 ∧ z1 ≤ 255) (h2 : 0 ≤ z2 ∧ z2 ≤ 255) (h3 : 0 ≤ z3 ∧ z3 ≤ 255) (h4 : 0 ≤ z4 ∧ z4 ≤ 255) (h5 : 0 ≤ z5 ∧ z5 ≤ 255) (h6 : 0 ≤ z6 ∧ z6 ≤ 255) (h7 : 0 ≤ z7 ∧ z7 ≤ 255) (h8 : 0 ≤ z8 ∧ z8 ≤ 255) (h9 : 0 ≤ z9 ∧ z9 ≤ 255) : PieceOk [z0, z1, z2, z3, z4, z5, z6, z7, z8, z9] := by
  have e : bits .or .u32 (z8 + 256 * z9) 65536 = (z8 + 256 * z9) + 65536 := or32 16 _ _ (by decide) (by omega) (by decide) (by omega) (by omega) (by omega)
  refine ⟨z0 + 256 * z1 + 65536 * z2 + 16777216 * z3, z4 + 256 * z5 + 65536 * z6 + 16777216 * z7, (z8 + 256 * z9) + 65536, 0, 0, ?_, ?_⟩
  · simp [pieceWords, wordAt]
    rw [← e]
  · simp only [num8, List.length_cons, List.length_nil]
    omega
theorem piece11 (z0 z1 z2 z3 z4 z5 z6 z7 z8 z9 z10 : Int) (h0 : 0 ≤ z0 ∧ z0 ≤ 255) (h1 : 0 ≤ z1 ∧ z1 ≤ 255) (h2 : 0 ≤ z2 ∧ z2 ≤ 255) (h3 : 0 ≤ z3 ∧ z3 ≤ 255) (h4 : 0 ≤ z4 ∧ z4 ≤ 255) (h5 : 0 ≤ z5 ∧ z5 ≤ 255) (h6 : 0 ≤ z6 ∧ z6 ≤ 255) (h7 : 0 ≤ z7 ∧ z7 ≤ 255) (h8 : 0 ≤ z8 ∧ z8 ≤ 255) (h9 : 0 ≤ z9 ∧ z9 ≤ 255) (h10 : 0 ≤ z10 ∧ z10 ≤ 255) : PieceOk [z0, z1, z2, z3, z4, z5, z6, z7, z8, z9, z10] := by
  have e : bits .or .u32 (z8 + 256 * z9 + 65536 * z10) 16777216 = (z8 + 256 * z9 + 65536 * z10) + 16777216 := or32 24 _ _ (by decide) (by omega) (by decide) (by omega) (by omega) (by omega)
  refine ⟨z0 + 256 * z1 + 65536 * z2 + 16777216 * z3, z4 + 256 * z5 + 65536 * z6 + 16777216 * z7, (z8 + 256 * z9 + 65536 * z10) + 16777216, 0, 0, ?_, ?_⟩
  · simp [pieceWords, wordAt]
    rw [← e]
  · simp only [num8, List.length_cons, List.length_nil]
    omega
theorem piece12 (z0 z1 z2 z3 z4 z5 z6 z7 z8 z9 z10 z11 : Int) (h0 : 0 ≤ z0 ∧ z0 ≤ 255) (h1 : 0 ≤ z1 ∧ z1 ≤ 255) (h2 : 0 ≤ z2 ∧ z2 ≤ 255) (h3 : 0 ≤ z3 ∧ z3 ≤ 255) (h4 : 0 ≤ z4 ∧ z4 ≤ 255) (h5 : 0 ≤ z5 ∧ z5 ≤ 255) (h6 : 0 ≤ z6 ∧ z6 ≤ 255) (h7 : 0 ≤ z7 ∧ z7 ≤ 255) (h8 : 0 ≤ z8 ∧ z8 ≤ 255) (h9 : 0 ≤ z9 ∧ z9 ≤ 255) (h10 : 0 ≤ z10 ∧ z10 ≤ 255) (h11 : 0 ≤ z11 ∧ z11 ≤ 255) : PieceOk [z0, z1, z2, z3, z4, z5, z6, z7, z8, z9, z10, z11] := by
  have e : bits .or .u32 (0) 1 = (0) + 1 := or32 0 _ _ (by decide) (by omega) (by decide) (by omega) (by omega) (by omega)
  refine ⟨z0 + 256 * z1 + 65536 * z2 + 16777216 * z3, z4 + 256 * z5 + 65536 * z6 + 16777216 * z7, z8 + 256 * z9 + 65536 * z10 + 16777216 * z11, 1, 0, ?_, ?_⟩
  · simp [pieceWords, wordAt]
    exact e.trans (by omega)
  · simp only [num8, List.length_cons, List.length_nil]
    omega
theorem piece13 (z0 z1 z2 z3 z4 z5 z6 z7 z8 z9 z10 z11 z12 : Int) (h0 : 0 ≤ z0 ∧ z0 ≤ 255) (h1 : 0 ≤ z1 ∧ z1 ≤ 255) (h2 : 0 ≤ z2 ∧ z2 ≤ 255) (h3 : 0 ≤ z3 ∧ z3 ≤ 255) (h4 : 0 ≤ z4 ∧ z4 ≤ 255) (h5 : 0 ≤ z5 ∧ z5 ≤ 255) (h6 : 0 ≤ z6 ∧ z6 ≤ 255) (h7 : 0 ≤ z7 ∧ z7 ≤ 255) (h8 : 0 ≤ z8 ∧ z8 ≤ 255) (h9 : 0 ≤ z9 ∧ z9 ≤ 255) (h10 : 0 ≤ z10 ∧ z10 ≤ 255) (h11 : 0 ≤ z11 ∧ z11 ≤ 255) (h12 : 0 ≤ z12 ∧ z12 ≤ 255) : PieceOk [z0, z1, z2, z3, z4, z5, z6, z7, z8, z9, z10, z11, z12] := by
  have e : bits .or .u32 (z12) 256 = (z12) + 256 := or32 8 _ _ (by decide) (by omega) (by decide) (by omega) (by omega) (by omega)
  refine ⟨z0 + 256 * z1 + 65536 * z2 + 16777216 * z3, z4 + 256 * z5 + 65536 * z6 + 16777216 * z7, z8 + 256 * z9 + 65536 * z10 + 16777216 * z11, (z12) + 256, 0, ?_, ?_⟩
  · simp [pieceWords, wordAt]
    rw [← e]
  · simp only [num8, List.length_cons, List.length_nil]
    omega
theorem piece14 (z0 z1 z2 z3 z4 z5 z6 z7 z8 z9 z10 z11 z12 z13 : Int) (h0 : 0 ≤ z0 ∧ z0 ≤ 255) (h1 : 0 ≤ z1 ∧ z1 ≤ 255) (h2 : 0 ≤ z2 ∧ z2 ≤ 255) (h3 : 0 ≤ z3 ∧ z3 ≤ 255) (h4 : 0 ≤ z4 ∧ z4 ≤ 255) (h5 : 0 ≤ z5 ∧ z5 ≤ 255) (h6 : 0 ≤ z6 ∧ z6 ≤ 255) (h7 : 0 ≤ z7 ∧ z7 ≤ 255) (h8 : 0 ≤ z8 ∧ z8 ≤ 255) (h9 : 0 ≤ z9 ∧ z9 ≤ 255) (h10 : 0 ≤ z10 ∧ z10 ≤ 255) (h11 : 0 ≤ z11 ∧ z11 ≤ 255) (h12 : 0 ≤ z12 ∧ z12 ≤ 255) (h13 : 0 ≤ z13 ∧ z13 ≤ 255) : PieceOk [z0, z1, z2, z3, z4, z5, z6, z7, z8, z9, z10, z11, z12, z13] := by
  have e : bits .or .u32 (z12 + 256 * z13) 65536 = (z12 + 256 * z13) + 65536 := or32 16 _ _ (by decide) (by omega) (by decide) (by omega) (by omega) (by omega)
  refine ⟨z0 + 256 * z1 + 65536 * z2 + 16777216 * z3, z4 + 256 * z5 + 65536 * z6 + 16777216 * z7, z8 + 256 * z9 + 65536 * z10 + 16777216 * z11, (z12 + 256 * z13) + 65536, 0, ?_, ?_⟩
  · simp [pieceWords, wordAt]
    rw [← e]
  · simp only [num8, List.length_cons, List.length_nil]
    omega
theorem piece15 (z0 z1 z2 z3 z4 z5 z6 z7 z8 z9 z10 z11 z12 z13 z14 : Int) (h0 : 0 ≤ z0 ∧ z0 ≤ 255) (h1 : 0 ≤ z1 ∧ z1 ≤ 255) (h2 : 0 ≤ z2 ∧ z2 ≤ 255) (h3 : 0 ≤ z3 ∧ z3 ≤ 255) (h4 : 0 ≤ z4 ∧ z4 ≤ 255) (h5 : 0 ≤ z5 ∧ z5 ≤ 255) (h6 : 0 ≤ z6 ∧ z6 ≤ 255) (h7 : 0 ≤ z7 ∧ z7 ≤ 255) (h8 : 0 ≤ z8 ∧ z8 ≤ 255) (h9 : 0 ≤ z9 ∧ z9 ≤ 255) (h10 : 0 ≤ z10 ∧ z10 ≤ 255) (h11 : 0 ≤ z11 ∧ z11 ≤ 255) (h12 : 0 ≤ z12 ∧ z12 ≤ 255) (h13 : 0 ≤ z13 ∧ z13 ≤ 255) (h14 : 0 ≤ z14 ∧ z14 ≤ 255) : PieceOk [z0, z1, z2, z3, z4, z5, z6, z7, z8, z9, z10, z11, z12, z13, z14] := by
  have e : bits .or .u32 (z12 + 256 * z13 + 65536 * z14) 16777216 = (z12 + 256 * z13 + 65536 * z14) + 16777216 := or32 24 _ _ (by decide) (by omega) (by decide) (by omega) (by omega) (by omega)
  refine ⟨z0 + 256 * z1 + 65536 * z2 + 16777216 * z3, z4 + 256 * z5 + 65536 * z6 + 16777216 * z7, z8 + 256 * z9 + 65536 * z10 + 16777216 * z11, (z12 + 256 * z13 + 65536 * z14) + 16777216, 0, ?_, ?_⟩
  · simp [pieceWords, wordAt]
    rw [← e]
  · simp only [num8, List.length_cons, List.length_nil]
    omega
theorem piece16 (z0 z1 z2 z3 z4 z5 z6 z7 z8 z9 z10 z11 z12 z13 z14 z15 : Int) (h0 : 0 ≤ z0 ∧ z0 ≤ 255) (h1 : 0 ≤ z1 ∧ z1 ≤ 255) (h2 : 0 ≤ z2 ∧ z2 ≤ 255) (h3 : 0 ≤ z3 ∧ z3 ≤ 255) (h4 : 0 ≤ z4 ∧ z4 ≤ 255) (h5 : 0 ≤ z5 ∧ z5 ≤ 255) (h6 : 0 ≤ z6 ∧ z6 ≤ 255) (h7 : 0 ≤ z7 ∧ z7 ≤ 255) (h8 : 0 ≤ z8 ∧ z8 ≤ 255) (h9 : 0 ≤ z9 ∧ z9 ≤ 255) (h10 : 0 ≤ z10 ∧ z10 ≤ 255) (h11 : 0 ≤ z11 ∧ z11 ≤ 255) (h12 : 0 ≤ z12 ∧ z12 ≤ 255) (h13 : 0 ≤ z13 ∧ z13 ≤ 255) (h14 : 0 ≤ z14 ∧ z14 ≤ 255) (h15 : 0 ≤ z15 ∧ z15 ≤ 255) : PieceOk [z0, z1, z2, z3, z4, z5, z6, z7, z8, z9, z10, z11, z12, z13, z14, z15] := by
  have e : bits .or .u32 (0) 1 = (0) + 1 := or32 0 _ _ (by decide) (by omega) (by decide) (by omega) (by omega) (by omega)
  refine ⟨z0 + 256 * z1 + 65536 * z2 + 16777216 * z3, z4 + 256 * z5 + 65536 * z6 + 16777216 * z7, z8 + 256 * z9 + 65536 * z10 + 16777216 * z11, z12 + 256 * z13 + 65536 * z14 + 16777216 * z15, 1, ?_, ?_⟩
  · simp [pieceWords, wordAt]
    exact e.trans (by omega)
  · simp only [num8, List.length_cons, List.length_nil]
    omega
theorem piece_ok (zs : List Int) (h : Bytes zs) (h1 : 1 ≤ zs.length) (h16 : zs.length ≤ 16) : PieceOk zs := by
  have b0 := h 0
  have b1 := h 1
  have b2 := h 2
  have b3 := h 3
  have b4 := h 4
  have b5 := h 5
  have b6 := h 6
  have b7 := h 7
  have b8 := h 8
  have b9 := h 9
  have b10 := h 10
  have b11 := h 11
  have b12 := h 12
  have b13 := h 13
  have b14 := h 14
  have b15 := h 15
  match zs, h1, h16 with
  | [z0], _, _ => exact piece1 z0 b0
  | [z0, z1], _, _ => exact piece2 z0 z1 b0 b1
  | [z0, z1, z2], _, _ => exact piece3 z0 z1 z2 b0 b1 b2
  | [z0, z1, z2, z3], _, _ => exact piece4 z0 z1 z2 z3 b0 b1 b2 b3
  | [z0, z1, z2, z3, z4], _, _ => exact piece5 z0 z1 z2 z3 z4 b0 b1 b2 b3 b4
  | [z0, z1, z2, z3, z4, z5], _, _ => exact piece6 z0 z1 z2 z3 z4 z5 b0 b1 b2 b3 b4 b5
  | [z0, z1, z2, z3, z4, z5, z6], _, _ => exact piece7 z0 z1 z2 z3 z4 z5 z6 b0 b1 b2 b3 b4 b5 b6
  | [z0, z1, z2, z3, z4, z5, z6, z7], _, _ => exact piece8 z0 z1 z2 z3 z4 z5 z6 z7 b0 b1 b2 b3 b4 b5 b6 b7
  | [z0, z1, z2, z3, z4, z5, z6, z7, z8], _, _ => exact piece9 z0 z1 z2 z3 z4 z5 z6 z7 z8 b0 b1 b2 b3 b4 b5 b6 b7 b8
  | [z0, z1, z2, z3, z4, z5, z6, z7, z8, z9], _, _ => exact piece10 z0 z1 z2 z3 z4 z5 z6 z7 z8 z9 b0 b1 b2 b3 b4 b5 b6 b7 b8 b9
  | [z0, z1, z2, z3, z4, z5, z6, z7, z8, z9, z10], _, _ => exact piece11 z0 z1 z2 z3 z4 z5 z6 z7 z8 z9 z10 b0 b1 b2 b3 b4 b5 b6 b7 b8 b9 b10
  | [z0, z1, z2, z3, z4, z5, z6, z7, z8, z9, z10, z11], _, _ => exact piece12 z0 z1 z2 z3 z4 z5 z6 z7 z8 z9 z10 z11 b0 b1 b2 b3 b4 b5 b6 b7 b8 b9 b10 b11
  | [z0, z1, z2, z3, z4, z5, z6, z7, z8, z9, z10, z11, z12], _, _ => exact piece13 z0 z1 z2 z3 z4 z5 z6 z7 z8 z9 z10 z11 z12 b0 b1 b2 b3 b4 b5 b6 b7 b8 b9 b10 b11 b12
  | [z0, z1, z2, z3, z4, z5, z6, z7, z8, z9, z10, z11, z12, z13], _, _ => exact piece14 z0 z1 z2 z3 z4 z5 z6 z7 z8 z9 z10 z11 z12 z13 b0 b1 b2 b3 b4 b5 b6 b7 b8 b9 b10 b11 b12 b13
  | [z0, z1, z2, z3, z4, z5, z6, z7, z8, z9, z10, z11, z12, z13, z14], _, _ => exact piece15 z0 z1 z2 z3 z4 z5 z6 z7 z8 z9 z10 z11 z12 z13 z14 b0 b1 b2 b3 b4 b5 b6 b7 b8 b9 b10 b11 b12 b13 b14
  | [z0, z1, z2, z3, z4, z5, z6, z7, z8, z9, z10, z11, z12, z13, z14, z15], _, _ => exact piece16 z0 z1 z2 z3 z4 z5 z6 z7 z8 z9 z10 z11 z12 z13 z14 z15 b0 b1 b2 b3 b4 b5 b6 b7 b8 b9 b10 b11 b12 b13 b14 b15
  | _ :: _ :: _ :: _ :: _ :: _ :: _ :: _ :: _ :: _ :: _ :: _ :: _ :: _ :: _ :: _ :: _ :: _, _, h16 => simp at h16
end Go.Proofs.Ytbfjnepmhbnnjaa
