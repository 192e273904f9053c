/- 'layInto': parts are copied into a slice one behind the other. -/
import Derived.Test.YtceiljagdbafiaaRows
import Derived.Test.YtceiljagdbafiaaWire
import Derived.Test.YtceiljagdbafiaaCopy
import Derived.Test.YtceiljagdbafiaaWireM
namespace Go.Proofs.Ytceiljagdbafiaa
open Go.RowKit
set_option linter.unusedVariables false

structure Part where
  b : Nat
  o : Nat
  c : Nat
  l : List Int
def Part.val (p : Part) : Value := .slice (some ⟨p.b, p.o, none⟩) p.l.length p.c
/-- The part's bytes lie where it says. -/
def Part.lies (w : World) (p : Part) : Prop := ∀ j, j < p.l.length → w.cell? ⟨p.b, p.o + j, none⟩ = some (.int .u8 (p.l.getD j 0))
def allOf (ps : List Part) : List Int := (ps.map (·.l)).flatten

theorem part_lies {w : World} {g c : Nat} {r : Int} {z : List Int} {t : TypeId} {fr : Nat × Nat} (hg : w.heap[g]? = some (.cells (WL r z).toArray t fr)) (o n : Nat) (h : o + n ≤ z.length) : Part.lies w ⟨g, o + 1, c, partZ z o n⟩ := by
  intro j hj
  have hj' : j < n := by
    have : j < (partZ z o n).length := hj
    rw [partZ_length z o n _ rfl h] at this
    exact this
  show w.cell? ⟨g, o + 1 + j, none⟩ = some (.int .u8 ((partZ z o n).getD j 0))
  rw [cell_of_row _ _ _ _ _ _ hg, show o + 1 + j = (o + j) + 1 by omega, WL_byte r z (o + j) (by omega)]
  simp [partZ, hj']
theorem infoBy : (Try.prog.info? 5).map (·.size) = some 1 := by kernel_rfl
theorem allOf_step (ps : List Part) (j : Nat) (h : j < ps.length) : allOf (ps.take (j + 1)) = allOf (ps.take j) ++ ps[j].l := by
  unfold allOf
  rw [List.take_succ_eq_append_getElem h]
  simp only [List.map_append, List.flatten_append, List.map_cons, List.map_nil, List.flatten_cons, List.flatten_nil, List.append_nil]
theorem allOf_le (ps : List Part) (j : Nat) : (allOf (ps.take j)).length ≤ (allOf ps).length := by
  have : allOf ps = allOf (ps.take j) ++ allOf (ps.drop j) := by
    unfold allOf
    rw [← List.flatten_append, ← List.map_append, List.take_append_drop]
  rw [this]
  simp
def layed (L : List Int) (off : Nat) (m : List Int) : List Int := L.take off ++ (m ++ L.drop (off + m.length))
theorem layed_length (L : List Int) (off : Nat) (m : List Int) (h : off + m.length ≤ L.length) : (layed L off m).length = L.length := by
  simp [layed]; omega
theorem layed_more (L : List Int) (off : Nat) (m z : List Int) (h : off + m.length + z.length ≤ L.length) :
    (layed L off m).take (off + m.length) ++ (z ++ (layed L off m).drop (off + m.length + z.length)) = layed L off (m ++ z) := by
  have ht : (L.take off).length = off := by simp; omega
  have e1 : (layed L off m).take (off + m.length) = L.take off ++ m := by
    unfold layed
    rw [← List.append_assoc, List.take_append_of_le_length (by simp; omega), List.take_of_length_le (by simp; omega)]
  have e2 : (layed L off m).drop (off + m.length + z.length) = L.drop (off + m.length + z.length) := by
    unfold layed
    rw [← List.append_assoc, List.drop_append, List.drop_eq_nil_of_le (by simp; omega), List.nil_append, List.drop_drop]
    congr 1
    simp
    omega
  rw [e1, e2]
  unfold layed
  simp [Nat.add_assoc]

theorem layed_kind (k : Int) (M : Nat) (m : List Int) (hM : 4 ≤ M) (hm : m.length + 4 = M) : layed (kindL k M) 4 m = [k, 0, 0, 0] ++ m := by
  obtain ⟨N, rfl⟩ : ∃ N, M = N + 4 := ⟨M - 4, by omega⟩
  have e : kindL k (N + 4) = [k, 0, 0, 0] ++ List.replicate N 0 := by
    unfold kindL
    rw [show N + 4 - 1 = 3 + N by omega, ← List.replicate_append_replicate]
    rfl
  unfold layed
  rw [e, List.drop_eq_nil_of_le (by simp; omega), List.append_nil]
  rfl
set_option maxHeartbeats 1000000 in
theorem layInto_any (ps : List Part) (g off n c gp cp : Nat) (te tp : TypeId) (L : List Int) (w : World) (hg : w.heap[g]? = some (.cells (Iv .u8 L) te)) (hp : w.heap[gp]? = some (.cells (ps.map Part.val).toArray tp))
    (hgp : gp ≠ g) (hl : ∀ p ∈ ps, p.lies w ∧ p.b ≠ g ∧ 0 < p.l.length) (hn : (allOf ps).length ≤ n) (hc : n ≤ c) (hfit : off + n ≤ L.length) (hbig : L.length ≤ 1000000) (hps : ps.length ≤ 1000) (hcc : c ≤ 1000000) :
    Calls Try.prog 17 #[.slice (some ⟨g, off, none⟩) n c, .slice (some ⟨gp, 0, none⟩) ps.length cp] w fun e w' =>
      e = .returned (.tuple #[]) ∧ Put w g (Iv .u8 (layed L off (allOf ps))) te w' := by
  have HG : Hid _ := hg
  have HP : Hid _ := hp
  have HL : Hid _ := hl
  clear hg hp hl
  go_enter Try.func17, Try.ntmps17
  go_wp2
  go_loopw [0, 8] (fun a i wr => ∃ (j s x : Nat), j ≤ ps.length ∧ s = (allOf (ps.take j)).length ∧ (s < c → x = off + s) ∧ i = .int .i64 j ∧ a = .slice (some ⟨g, x, none⟩) (n - s) (c - s) ∧ Put w g (Iv .u8 (layed L off (allOf (ps.take j)))) te wr) (fun _ i _ => ps.length - (intOf i).toNat)
  case atStart =>
    refine ⟨0, 0, off, Nat.zero_le _, by simp [allOf], fun _ => rfl, rfl, rfl, ?_⟩
    have e : layed L off (allOf (ps.take 0)) = L := by simp [layed, allOf]
    rw [e]
    exact ⟨HG.out, fun k hk => rfl, rfl, fun B a h _ => h⟩
  case round =>
    obtain ⟨j, s, x, hj, hs, hx, rfl, rfl, hP⟩ := hrel
    by_cases hlt : j < ps.length
    · have hmem := HL.out ps[j] (List.getElem_mem hlt)
      have hcell : wr.cell? ⟨gp, j, none⟩ = some (.slice (some ⟨ps[j].b, ps[j].o, none⟩) ps[j].l.length ps[j].c) := by
        rw [cell_of_row _ _ _ _ _ _ ((hP.far gp hgp).trans HP.out)]
        simp [hlt]
        rfl
      have hstep := allOf_step ps j hlt
      have htot := allOf_le ps (j + 1)
      rw [hstep, List.length_append, ← hs] at htot
      have hsrc : ∀ k, k < ps[j].l.length → wr.cell? ⟨ps[j].b, ps[j].o + k, none⟩ = some (.int .u8 (ps[j].l.getD k 0)) := by
        intro k hk
        have h1 := hmem.1 k hk
        rw [← h1]
        unfold World.cell?
        rw [hP.far _ hmem.2.1]
      have hm0 := hmem.2.2
      obtain rfl : x = off + s := hx (by omega)
      clear hx
      have hpl := layed_length L off (allOf (ps.take j)) (by rw [← hs]; omega)
      have hmore := layed_more L off (allOf (ps.take j)) ps[j].l (by rw [← hs]; omega)
      rw [← hs, ← hstep] at hmore
      have HM : Hid _ := hmore
      have HST : Hid _ := hstep
      have HSS : Hid (s = (allOf (ps.take j)).length) := hs
      have HH : Hid _ := hP.here
      have HC : Hid _ := hsrc
      have HPP : Hid _ := hP
      generalize ps[j].b = pb at *
      generalize ps[j].o = po at *
      generalize ps[j].c = pc at *
      generalize ps[j].l = pl at *
      obtain ⟨m, hm⟩ : ∃ m, m = pl.length := ⟨_, rfl⟩
      rw [← hm] at hcell htot hm0
      have HML : Hid (pl.length = m) := hm.symm
      have HMIN : Hid (m = Nat.min m (n - s)) := by show m = min m (n - s); omega
      have HFIT : Hid (off + s + m ≤ (layed L off (allOf (ps.take j))).length) := by show _ ≤ _; rw [hpl]; omega
      rw [← hm] at HM HC
      clear hmem hmore hstep hs hsrc hP hm hpl
      go_wp2_with (refine copy_put .u8 rfl (.tmp 13) (.tmp 14) 44 44 rfl 5 Try.underlying44 infoBy g (off + s) (n - s) (c - s) pb po m pc rfl rfl (layed L off (allOf (ps.take j))) pl (layed L off (allOf (ps.take (j + 1)))) m te HH.out HML.out HMIN.out HC.out HFIT.out HM.out ?_; intro W2 hQ)
      go_roundw
      case rel =>
        refine ⟨j + 1, s + m, (if c - s = m then off + s else off + s + m), by omega, ?_, ?_, by go_num, ?_, ?_⟩
        · rw [HST.out, List.length_append, ← HSS.out, HML.out]
        · intro h
          rw [if_neg (by omega)]
          omega
        · rw [show n - s - m = n - (s + m) by omega, show c - s - m = c - (s + m) by omega]
          split <;> rfl
        · have hP := HPP.out
          exact ⟨hQ.here, fun k hk => (hQ.far k hk).trans (hP.far k hk), hQ.size.trans hP.size, fun B a h hB => hQ.below B a (hP.below B a h hB) hB⟩
      case measure => simp [intOf]; omega
    · obtain rfl : j = ps.length := by omega
      go_wp2
      go_end0
      refine ⟨rfl, ?_⟩
      rw [List.take_length] at hP
      exact hP
end Go.Proofs.Ytceiljagdbafiaa
