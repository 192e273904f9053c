/- 'cutInto': bytes are copied into parts one behind the other. -/
import Derived.Test.YtckjpnjfaiojgaaDoorRows
import Derived.Test.YtckjpnjfaiojgaaDoorWire
import Derived.Test.YtckjpnjfaiojgaaDoorCopy
namespace Go.Proofs.YtckjpnjfaiojgaaDoor
open Go.RowKit
set_option linter.unusedVariables false
theorem infoByt : (Tryd.prog.info? 5).map (·.size) = some 1 := by kernel_rfl
/-- The builtin copy of bytes into a row of whatever cells. -/
theorem copy_vals {P : Program} {w : World} {ops : Array Oper} {rest : List Oper} {o : Oper} {a : Act} {Q : Exit → Act → World → Prop} (hgd : o.guard = none) (d s : Operand) (dT sT : TypeId)
    (ho : o.op = .call { callee := .builtin .copy, args := #[d, s], argTypes := #[dT, sT] }) (elem : TypeId) (hu : P.underlying dT = some (.slice elem)) (hsz : (P.info? elem).map (·.size) = some 1)
    (g off dLen dCap b o' sLen sCap : Nat) (hd : a.eval d = .slice (some ⟨g, off, none⟩) dLen dCap) (hs : a.eval s = .slice (some ⟨b, o', none⟩) sLen sCap)
    (L new : List Value) (zs : List Int) (n : Nat) (t : TypeId) (hg : w.heap[g]? = some (.cells L.toArray t)) (hz : zs.length = n) (hn : n = Nat.min sLen dLen)
    (hsrc : ∀ j, j < n → w.cell? ⟨b, o' + j, none⟩ = some (.int .u8 (zs.getD j 0))) (hfit : off + n ≤ L.length) (hnew : L.take off ++ (zs.map (Value.int .u8) ++ L.drop (off + n)) = new)
    (h : ∀ W, Put w g new.toArray t W → wpList P ops Q rest (a.put o.dst (.int .i64 n)) W) : wpList P ops Q (o :: rest) a w := by
  subst hz
  subst hnew
  refine wpList_copy_own hgd d s dT sT ho elem hu hsz g off dLen dCap ⟨b, o', none⟩ sLen sCap hd hs L.toArray t hg (zs.map (Value.int .u8)) (by simpa using hn) ?_ (by simpa using hfit) ?_ ?_
  · intro j v hj
    have hj' : j < zs.length := by simpa using (List.getElem?_eq_some_iff.1 hj).1
    have hadd : (⟨b, o', none⟩ : Addr).add j = ⟨b, o' + j, none⟩ := by unfold Addr.add; split <;> simp_all
    rw [hadd, hsrc j hj', ← hj]
    simp [hj']
  · intro v hv
    obtain ⟨x, _, rfl⟩ := List.mem_map.1 hv
    rfl
  · have := h _ (put_setRow hg (L.take off ++ (zs.map (Value.int .u8) ++ L.drop (off + zs.length))).toArray)
    simpa [goInt] using this
/-- A part that bytes are copied into: its row ahead and behind. -/
structure Dst where
  g : Nat
  o : Nat
  n : Nat
  c : Nat
  row : List Value
  new : List Value
  t : TypeId
def Dst.val (p : Dst) : Value := .slice (some ⟨p.g, p.o, none⟩) p.n p.c
def cutAt (ps : List Dst) (j : Nat) : Nat := ((ps.take j).map (·.n)).sum
theorem cutAt_step (ps : List Dst) (j : Nat) (h : j < ps.length) : cutAt ps (j + 1) = cutAt ps j + ps[j].n := by
  unfold cutAt
  rw [List.take_succ_eq_append_getElem h]
  simp only [List.map_append, List.sum_append_nat, List.map_cons, List.map_nil, List.sum_cons, List.sum_nil, Nat.add_zero]
theorem cutAt_le (ps : List Dst) (j : Nat) : cutAt ps j ≤ cutAt ps ps.length := by
  have : cutAt ps ps.length = cutAt ps j + ((ps.drop j).map (·.n)).sum := by
    unfold cutAt
    rw [← List.sum_append_nat, ← List.map_append, List.take_append_drop, List.take_length]
  omega
set_option maxHeartbeats 1000000 in
theorem cutInto_any (ps : List Dst) (I : Nat → World → Prop) (b o n c gp cp : Nat) (tp : TypeId) (z : List Int) (w : World) (hI : I 0 w)
    (hp : ∀ j W, I j W → W.heap[gp]? = some (.cells (ps.map Dst.val).toArray tp))
    (hsrc : ∀ j W, I j W → ∀ k, k < n → W.cell? ⟨b, o + k, none⟩ = some (.int .u8 (z.getD k 0)))
    (hrow : ∀ j (h : j < ps.length) W, I j W → W.heap[ps[j].g]? = some (.cells ps[j].row.toArray ps[j].t))
    (hpos : ∀ j (h : j < ps.length), 0 < ps[j].n)
    (hfit : ∀ j (h : j < ps.length), ps[j].o + ps[j].n ≤ ps[j].row.length)
    (hnew : ∀ j (h : j < ps.length), ps[j].row.take ps[j].o ++ ((partZ z (cutAt ps j) ps[j].n).map (Value.int .u8) ++ ps[j].row.drop (ps[j].o + ps[j].n)) = ps[j].new)
    (hstep : ∀ j (h : j < ps.length) W W', I j W → Put W ps[j].g ps[j].new.toArray ps[j].t W' → I (j + 1) W')
    (hz : z.length = n) (hn : cutAt ps ps.length = n) (hc : n ≤ c) (hcc : c ≤ 2000000) (hps : ps.length ≤ 1000) :
    Calls Tryd.prog 26 #[.slice (some ⟨b, o, none⟩) n c, .slice (some ⟨gp, 0, none⟩) ps.length cp] w fun e w' => e = .returned (.tuple #[]) ∧ I ps.length w' := by
  have HI : Hid _ := hI
  have HP : Hid _ := hp
  have HS : Hid _ := hsrc
  have HR : Hid _ := hrow
  have HF : Hid _ := hfit
  have HO : Hid _ := hpos
  have HN : Hid _ := hnew
  have HT : Hid _ := hstep
  have HZ : Hid _ := hz
  clear hI hp hsrc hrow hfit hpos hnew hstep hz
  go_enter Tryd.func26, Tryd.ntmps26
  go_wp2
  go_loopw [0, 8] (fun a i wr => ∃ (j s x : Nat), j ≤ ps.length ∧ s = cutAt ps j ∧ (s < c → x = o + s) ∧ i = .int .i64 j ∧ a = .slice (some ⟨b, x, none⟩) (n - s) (c - s) ∧ I j wr) (fun _ i _ => ps.length - (intOf i).toNat)
  case atStart => exact ⟨0, 0, o, Nat.zero_le _, by simp [cutAt], fun _ => rfl, rfl, rfl, HI.out⟩
  case round =>
    obtain ⟨j, s, x, hj, hs, hx, rfl, rfl, hW⟩ := hrel
    by_cases hlt : j < ps.length
    · have hcell : wr.cell? ⟨gp, j, none⟩ = some (.slice (some ⟨ps[j].g, ps[j].o, none⟩) ps[j].n ps[j].c) := by
        rw [cell_of_row _ _ _ _ _ _ (HP.out j wr hW)]
        simp [hlt]
        rfl
      have hst := cutAt_step ps j hlt
      have htot := cutAt_le ps (j + 1)
      rw [hst, ← hs, hn] at htot
      have hm0 := HO.out j hlt
      have HFJ : Hid _ := HF.out j hlt
      have HNJ : Hid _ := HN.out j hlt
      have HTJ : Hid _ := fun W' => HT.out j hlt wr W' hW
      have HRJ : Hid _ := HR.out j hlt wr hW
      rw [← hs] at HNJ
      have hsr : Hid (∀ k, k < ps[j].n → wr.cell? ⟨b, o + s + k, none⟩ = some (.int .u8 ((partZ z s ps[j].n).getD k 0))) := by
        intro k hk
        have h1 := HS.out j wr hW (s + k) (by omega)
        rw [← Nat.add_assoc] at h1
        rw [h1]
        simp [partZ, hk]
      have HML : Hid ((partZ z s ps[j].n).length = ps[j].n) := partZ_length z s ps[j].n n HZ.out (by omega)
      have HCS : Hid (cutAt ps (j + 1) = s + ps[j].n) := by show _ = _; rw [hst, ← hs]
      clear hst hW
      generalize ps[j].g = pg at *
      generalize ps[j].o = po at *
      generalize ps[j].c = pc at *
      generalize ps[j].row = prow at *
      generalize ps[j].new = pnew at *
      generalize ps[j].t = pt at *
      generalize ps[j].n = m at *
      have HMIN : Hid (m = Nat.min (n - s) m) := by show m = min (n - s) m; omega
      obtain rfl : x = o + s := hx (by omega)
      clear hx hs
      go_wp2_with (refine copy_vals rfl (.tmp 13) (.tmp 14) 22 22 rfl 5 Tryd.underlying22 infoByt pg po m pc b (o + s) (n - s) (c - s) rfl rfl prow pnew (partZ z s m) m pt HRJ.out HML.out HMIN.out hsr.out HFJ.out HNJ.out ?_; intro W2 hQ)
      go_roundw
      case rel =>
        refine ⟨j + 1, s + m, (if c - s = m then o + s else o + s + m), by omega, HCS.out.symm, ?_, by go_num, ?_, HTJ.out _ hQ⟩
        · intro h
          rw [if_neg (by omega)]
          omega
        · rw [show n - s - m = n - (s + m) by omega, show c - s - m = c - (s + m) by omega]
          split <;> rfl
      case measure => simp [intOf]; omega
    · obtain rfl : j = ps.length := by omega
      go_wp2
      go_end0
      exact ⟨rfl, hW⟩
end Go.Proofs.YtckjpnjfaiojgaaDoor
