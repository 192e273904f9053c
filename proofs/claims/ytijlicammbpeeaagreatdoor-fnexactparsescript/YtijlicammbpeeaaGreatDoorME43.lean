import Derived.Test.YtijlicammbpeeaaGreatDoorME41
import Derived.Test.YtijlicammbpeeaaGreatDoorME42
/- A parsed script's own memory, written over and held. -/
namespace Go.Proofs.YtijlicammbpeeaaGreatDoor
open Go.RowKit
set_option linter.unusedVariables false
set_option linter.unusedSimpArgs false
section
variable {base : Nat} {w w' : World} {cv ov : Value} {ds : List Value} {cl : List Cl} {ops : List OpV}
theorem owns_keep {e : TypeId} {z n : Nat} {v : Value} {xs : List Value} (h : w.ownsRow base e z v n xs) (hk : ∀ b, v.ownBlock = some b → w'.heap[b]? = w.heap[b]?) : w'.ownsRow base e z v n xs :=
  ⟨h.1, h.2.imp id fun ⟨g, cap, cur, hv, h1, h2, r⟩ => ⟨g, cap, cur, hv, h1, (hk g (by rw [hv]; rfl)).trans h2, r⟩⟩
theorem DV.keep {d : Value} {l : List Int} (h : DV base w d l) (hk : ∀ b, d.ownBlock = some b → w'.heap[b]? = w.heap[b]?) : DV base w' d l :=
  h.imp id fun ⟨g, cap, cur, fz, hv, h1, h2, r⟩ => ⟨g, cap, cur, fz, hv, h1, (hk g (by rw [hv]; rfl)).trans h2, r⟩
theorem PsR.keep (h : PsR base w cv ov ds cl ops) (hk : ∀ v ∈ cv :: ov :: ds, ∀ b, v.ownBlock = some b → w'.heap[b]? = w.heap[b]?) : PsR base w' cv ov ds cl ops :=
  ⟨owns_keep h.cls (hk _ (.head _)), owns_keep h.opr (hk _ (.tail _ (.head _))), h.len, fun i o d ho hd => (h.dat i o d ho hd).keep (hk _ (.tail _ (.tail _ (List.mem_of_getElem? hd)))), h.apart⟩
structure OpR (base : Nat) (w : World) (ov : Value) (ds : List Value) (ops : List OpV) : Prop where
  opr : w.ownsRow base 52 21 ov ops.length (flatQ ops ds)
  len : ds.length = ops.length
  dat : ∀ (i : Nat) (o : OpV) (d : Value), ops[i]? = some o → ds[i]? = some d → DV base w d o.data
  apart : ApartV (ov :: ds)
theorem PsR.opR (h : PsR base w cv ov ds cl ops) : OpR base w ov ds ops := ⟨h.opr, h.len, h.dat, (List.pairwise_cons.1 h.apart).2⟩
theorem OpR.keep (h : OpR base w ov ds ops) (hk : ∀ v ∈ ov :: ds, ∀ b, v.ownBlock = some b → w'.heap[b]? = w.heap[b]?) : OpR base w' ov ds ops :=
  ⟨owns_keep h.opr (hk _ (.head _)), h.len, fun i o d ho hd => (h.dat i o d ho hd).keep (hk _ (.tail _ (List.mem_of_getElem? hd))), h.apart⟩
theorem OpR.low (h : OpR base w ov ds ops) {v : Value} (hv : v ∈ ov :: ds) : ∀ k, v.ownBlock = some k → base ≤ k := by
  rcases List.mem_cons.1 hv with rfl | hv
  · exact fun k hk => (World.ownsRow.lt h.opr k hk).1
  · obtain ⟨i, hi, e⟩ := List.getElem_of_mem hv
    have hi2 : i < ops.length := by rw [← h.len]; exact hi
    exact fun k hk => ((h.dat i ops[i] v (List.getElem?_eq_getElem hi2) (by rw [List.getElem?_eq_getElem hi, e])).lt k hk).1
end
def dvF (ds : List Value) (i : Nat) : Value := ds.getD i (.slice none 0 0)
def mF (ops : List OpV) (i : Nat) : Nat := (ops.map fun o => o.data.length).getD i 0
def KF (k0 : Nat) (ops : List OpV) (i : Nat) : Nat := k0 + i * 20 + psz (ops.take i)
theorem KF_zero (k0 : Nat) (ops : List OpV) : KF k0 ops 0 = k0 := by simp [KF, psz]
theorem KF_succ (k0 : Nat) (ops : List OpV) (i : Nat) (h : i < ops.length) : KF k0 ops (i + 1) = KF k0 ops i + 20 + mF ops i := by
  have e : ops.take (i + 1) = ops.take i ++ [ops[i]] := by simp
  have e2 : mF ops i = (ops[i]).data.length := by simp [mF, List.getD_eq_getElem?_getD, h]
  rw [KF, KF, e, psz_app, e2]
  simp [psz]
  omega
theorem KF_le (k0 : Nat) (ops : List OpV) (i : Nat) (h : i ≤ ops.length) : KF k0 ops i ≤ k0 + ops.length * 20 + psz ops := by
  have e : psz ops = psz (ops.take i) + psz (ops.drop i) := by rw [← psz_app, List.take_append_drop]
  rw [KF, e]
  omega
theorem dv_at {ds : List Value} {i : Nat} (h : i < ds.length) : dvF ds i = ds[i] := by simp [dvF, List.getD_eq_getElem?_getD, h]
theorem frozOf {w : World} {g : Nat} {cur : Array Value} {t : TypeId} (h : w.heap[g]? = some (.cells cur t (0, 0))) (j : Nat) : w.frozen? ⟨g, j, none⟩ = false := by simp [World.frozen?, h]
theorem someOf {w : World} {g : Nat} {cur : Array Value} {t : TypeId} {fz : Nat × Nat} (h : w.heap[g]? = some (.cells cur t fz)) (j : Nat) (hj : j < cur.size) : (w.cell? ⟨g, j, none⟩).isSome = true := by
  rw [cell_of_row _ _ _ _ _ _ h, Array.getElem?_eq_getElem hj]
  rfl
theorem OpR.opsM {base : Nat} {w : World} {g n cap k0 : Nat} {ds : List Value} {ops : List OpV} (h : OpR base w (.slice (some ⟨g, 0, none⟩) n cap) ds ops) (hk : k0 + ops.length * 20 + psz ops ≤ 500000000) : n = ops.length ∧ OpsM w g ops.length (KF k0 ops) (mF ops) (dvF ds) := by
  have ha := List.pairwise_cons.1 h.apart
  rcases h.opr.2 with ⟨e, _⟩ | ⟨g', cap', cur, e, hb, hg, h1, h2, h3, h4⟩
  · cases e
  · have e' := e
    cases e'
    refine ⟨rfl, fun i hi => KF_succ k0 ops i hi, fun i hi => Nat.le_trans (KF_le k0 ops i hi) hk, fun j hj => someOf hg j (by rw [h3]; exact Nat.lt_of_lt_of_le hj (Nat.mul_le_mul_right _ h1)), fun j => frozOf hg j, fun i hi => ?_, fun i hi => ?_, fun i hi => ?_, fun i j hi hj hne b hb1 hb2 => ?_⟩
    · have hd : i < ds.length := by rw [h.len]; exact hi
      have hr := owns_rangeP h.opr (i * 21) 21
      rw [flatQ_at ops ds i hi hd] at hr
      rw [dv_at hd]
      have ez : (opL ops[i] ds[i])[20]? = some ds[i] := by
        have el : ([Value.int .i64 ops[i].kind, Value.int .i64 ops[i].n] ++ srL ops[i].src).length = 20 := by simp [srL_len]
        rw [opL, ← List.append_assoc, List.getElem?_append_right (by omega), el]
        rfl
      exact hr 20 _ ez
    · have hd : i < ds.length := by rw [h.len]; exact hi
      have hm : mF ops i = ops[i].data.length := by simp [mF, List.getD_eq_getElem?_getD, hi]
      rw [dv_at hd, hm]
      rcases h.dat i ops[i] ds[i] (List.getElem?_eq_getElem hi) (List.getElem?_eq_getElem hd) with ⟨e1, e2⟩ | hM
      · exact ⟨none, 0, by rw [e1, e2]; rfl, .inl (by rw [e2]; rfl)⟩
      · obtain ⟨b, cp, ev, _, hs, _, _, hf⟩ := hM.sl
        refine ⟨some ⟨b, 0, none⟩, cp, ev, .inr ⟨b, rfl, fun j hj => ⟨?_, hf j hj⟩⟩⟩
        have := hs.2 j hj
        rw [Nat.zero_add] at this
        rw [this]; rfl
    · have hd : i < ds.length := by rw [h.len]; exact hi
      rw [dv_at hd]
      exact ha.1 _ (List.getElem_mem hd) g rfl
    · have hd : i < ds.length := by rw [h.len]; exact hi
      have hd2 : j < ds.length := by rw [h.len]; exact hj
      rw [dv_at hd] at hb1
      rw [dv_at hd2] at hb2
      have hp := List.pairwise_iff_getElem.1 ha.2
      rcases Nat.lt_or_gt_of_ne hne with hl | hl
      · exact hp i j hd hd2 hl b hb1 hb2
      · exact hp j i hd2 hd hl b hb2 hb1
/-- The operations hold their marks. -/
def OpH (k0 : Nat) (W : World) (ov : Value) (ds : List Value) (ops : List OpV) : Prop := (ov = .slice none 0 0 ∧ ops.length = 0) ∨ ∃ g cap, ov = .slice (some ⟨g, 0, none⟩) ops.length cap ∧ OpsH W g ops.length (KF k0 ops) (mF ops) (dvF ds)
theorem dv_mem {ds : List Value} {i : Nat} (h : i < ds.length) : dvF ds i ∈ ds := by rw [dv_at h]; exact List.getElem_mem h
theorem markOps_p (base k0 : Nat) (w : World) (ov : Value) (ds : List Value) (ops : List OpV) (h : OpR base w ov ds ops) (hn : ops.length ≤ 65537) (hk : k0 + ops.length * 20 + psz ops ≤ 500000000) :
    Calls Tryz.prog 23 #[ov, .int .i64 (k0 : Int)] w fun e w' => e = .returned (.int .i64 (KF k0 ops ops.length : Int)) ∧ OpH k0 w' ov ds ops ∧ (∀ b, (∀ v ∈ ov :: ds, v.ownBlock ≠ some b) → w'.heap[b]? = w.heap[b]?) ∧ Below base w w' := by
  rcases h.opr.2 with ⟨rfl, h0⟩ | ⟨g, cap, cur, rfl, hb, hg, h1, h2, h3, h4⟩
  · refine (markOpS_none none 0 k0 w).mono ?_
    rintro e w' ⟨rfl, rfl⟩
    exact ⟨by rw [h0, KF_zero], .inl ⟨rfl, h0⟩, fun b _ => rfl, Below.refl _ _⟩
  · have hM := (h.opsM (k0 := k0) hk).2
    have hc := markOpS_row g ops.length cap _ _ _ w (by omega) hM
    rw [KF_zero] at hc
    refine hc.mono ?_
    rintro e w' ⟨rfl, hO⟩
    refine ⟨rfl, .inr ⟨g, cap, rfl, hO.held hM⟩, fun b hv => hO.far b (fun e => hv _ (.head _) (by rw [e]; rfl)) (fun i hi => hv _ (.tail _ (dv_mem (by rw [h.len]; exact hi)))), ?_⟩
    exact hO.below base w (Below.refl _ _) hb (fun i hi b hb1 => h.low (.tail _ (dv_mem (by rw [h.len]; exact hi))) b hb1)
theorem heldOps_p (k0 : Nat) (w : World) (ov : Value) (ds : List Value) (ops : List OpV) (h : OpH k0 w ov ds ops) (hn : ops.length ≤ 65537) :
    Calls Tryz.prog 25 #[ov, .int .i64 (k0 : Int)] w fun e w' => e = .returned (.int .i64 (KF k0 ops ops.length : Int)) ∧ Below w.heap.size w w' := by
  rcases h with ⟨rfl, h0⟩ | ⟨g, cap, rfl, hO⟩
  · refine (heldOpS_none none 0 k0 w).mono ?_
    rintro e w' ⟨rfl, rfl⟩
    exact ⟨by rw [h0, KF_zero], Below.refl _ _⟩
  · have hc := heldOpS_row g ops.length cap _ _ _ w (by omega) hO
    rw [KF_zero] at hc
    refine hc.mono ?_
    rintro e w' ⟨rfl, d, rfl⟩
    exact ⟨rfl, below_drews (Below.refl _ _) d⟩
/-- The clients hold theirs. -/
def ClH (W : World) (cv : Value) (n : Nat) : Prop := (cv = .slice none 0 0 ∧ n = 0) ∨ ∃ g cap, cv = .slice (some ⟨g, 0, none⟩) n cap ∧ ∀ j, j < n * 51 → W.cell? ⟨g, j, none⟩ = some (mkC 1 j)
theorem ClH.keep {W W' : World} {cv : Value} {n : Nat} (h : ClH W cv n) (hk : ∀ b, cv.ownBlock = some b → W'.heap[b]? = W.heap[b]?) : ClH W' cv n :=
  h.imp id fun ⟨g, cap, e, hc⟩ => ⟨g, cap, e, fun j hj => (World.cell?_of_block (a := ⟨g, j, none⟩) (hk g (by rw [e]; rfl))).trans (hc j hj)⟩
theorem OpH.keep {k0 : Nat} {W W' : World} {ov : Value} {ds : List Value} {ops : List OpV} (h : OpH k0 W ov ds ops) (hl : ds.length = ops.length) (hk : ∀ v ∈ ov :: ds, ∀ b, v.ownBlock = some b → W'.heap[b]? = W.heap[b]?) : OpH k0 W' ov ds ops := by
  rcases h with h | ⟨g, cap, e, hO⟩
  · exact .inl h
  · refine .inr ⟨g, cap, e, hO.step, hO.bnd, fun j hj => (World.cell?_of_block (a := ⟨g, j, none⟩) (hk _ (.head _) g (by rw [e]; rfl))).trans (hO.cells j hj), fun i hi => ?_⟩
    obtain ⟨a, c, hv, h0⟩ := hO.dat i hi
    refine ⟨a, c, hv, h0.imp id fun ⟨b, ha, hc⟩ => ⟨b, ha, fun j hj => ?_⟩⟩
    exact (World.cell?_of_block (a := ⟨b, j, none⟩) (hk _ (.tail _ (dv_mem (by rw [hl]; exact hi))) b (by rw [hv, ha]; rfl))).trans (hc j hj)
theorem markCl_p (base : Nat) (w : World) (cv : Value) (cl : List Cl) (h : w.ownsRow base 75 51 cv cl.length (flatC cl)) (hn : cl.length ≤ 65537) :
    Calls Tryz.prog 42 #[cv, .int .i64 1] w fun e w' => e = .returned (.int .i64 ((1 + cl.length * 51 : Nat) : Int)) ∧ ClH w' cv cl.length ∧ (∀ b, cv.ownBlock ≠ some b → w'.heap[b]? = w.heap[b]?) ∧ Below base w w' := by
  rcases h.2 with ⟨rfl, h0⟩ | ⟨g, cap, cur, rfl, hb, hg, h1, h2, h3, h4⟩
  · refine (markClientS_none none 0 1 w).mono ?_
    rintro e w' ⟨rfl, rfl⟩
    exact ⟨by rw [h0], .inl ⟨rfl, h0⟩, fun b _ => rfl, Below.refl _ _⟩
  · refine (markClientS_row g cl.length cap 1 w (by omega) (by omega) (fun j hj => someOf hg j (by rw [h3]; exact Nat.lt_of_lt_of_le hj (Nat.mul_le_mul_right _ h1))) (fun j => frozOf hg j)).mono ?_
    rintro e w' ⟨rfl, hM⟩
    exact ⟨rfl, .inr ⟨g, cap, rfl, hM.cells⟩, fun b hv => hM.far b (fun e => hv (by rw [e]; rfl)) id, hM.below base w (Below.refl _ _) hb (fun _ f => f.elim)⟩
theorem heldCl_p (w : World) (cv : Value) (n : Nat) (h : ClH w cv n) (hn : n ≤ 65537) :
    Calls Tryz.prog 43 #[cv, .int .i64 1] w fun e w' => e = .returned (.int .i64 ((1 + n * 51 : Nat) : Int)) ∧ Below w.heap.size w w' := by
  rcases h with ⟨rfl, h0⟩ | ⟨g, cap, rfl, hc⟩
  · refine (heldClientS_none none 0 1 w).mono ?_
    rintro e w' ⟨rfl, rfl⟩
    exact ⟨by rw [h0], Below.refl _ _⟩
  · refine (heldClientS_row g n cap 1 w (by omega) (by omega) hc).mono ?_
    rintro e w' ⟨rfl, d, rfl⟩
    exact ⟨rfl, below_drews (Below.refl _ _) d⟩
end Go.Proofs.YtijlicammbpeeaaGreatDoor
