import Derived.Test.YtijlicammbpeeaaGreatDoorME25
import Derived.Test.YtijlicammbpeeaaGreatDoorME31
import Derived.Test.YtijlicammbpeeaaGreatDoorME37
/- Parsed scripts compared: what is equal. -/
namespace Go.Proofs.YtijlicammbpeeaaGreatDoor
open Go.RowKit
set_option linter.unusedVariables false
set_option linter.unusedSimpArgs false
theorem infoA16p (l : List Int) (h : l.length = 16) : (Tryz.prog.info? 47).map (·.size) = some (u8s l).length := by rw [u8s_len, h]; kernel_rfl
/-- Clients, operations, that can be read. -/
def ClAt (w : World) (v : Value) (cl : List Cl) : Prop := ∃ a cap, v = .slice a cl.length cap ∧ ∀ i (h : i < cl.length), ∃ g, a = some ⟨g, 0, none⟩ ∧ g < w.heap.size ∧ w.rangeAt g (i * 51) (clL cl[i])
def RdV (w : World) (d : Value) (l : List Int) : Prop := ∃ da dc, d = .slice da l.length dc ∧ ((da = none ∧ l = []) ∨ ∃ g, da = some ⟨g, 0, none⟩ ∧ Sl w g 0 l)
def OpAt (w : World) (v : Value) (ops : List OpV) : Prop := ∃ a cap, v = .slice a ops.length cap ∧ ∀ i (h : i < ops.length), ∃ g d, a = some ⟨g, 0, none⟩ ∧ g < w.heap.size ∧ w.rangeAt g (i * 21) (opL ops[i] d) ∧ RdV w d ops[i].data
theorem range_later {w w' : World} {g o : Nat} {l : List Value} (h : w.rangeAt g o l) (hb : Below w.heap.size w w') : w'.rangeAt g o l := fun j v hj => (hb.cell (p := ⟨g, o + j, none⟩) (World.block_lt_of_cell? _ _ (h j v hj))).trans (h j v hj)
theorem RdV.later {w w' : World} {d : Value} {l : List Int} (h : RdV w d l) (hb : Below w.heap.size w w') : RdV w' d l := by
  obtain ⟨da, dc, hd, h1 | ⟨g, hg, hs⟩⟩ := h
  · exact ⟨da, dc, hd, .inl h1⟩
  · exact ⟨da, dc, hd, .inr ⟨g, hg, hs.later hb hs.1⟩⟩
theorem ClAt.later {w w' : World} {v : Value} {cl : List Cl} (h : ClAt w v cl) (hb : Below w.heap.size w w') : ClAt w' v cl := by
  obtain ⟨a, cap, hv, hc⟩ := h
  refine ⟨a, cap, hv, fun i hi => ?_⟩
  obtain ⟨g, h1, h2, h3⟩ := hc i hi
  exact ⟨g, h1, Nat.lt_of_lt_of_le h2 hb.size, range_later h3 hb⟩
theorem OpAt.later {w w' : World} {v : Value} {ops : List OpV} (h : OpAt w v ops) (hb : Below w.heap.size w w') : OpAt w' v ops := by
  obtain ⟨a, cap, hv, hc⟩ := h
  refine ⟨a, cap, hv, fun i hi => ?_⟩
  obtain ⟨g, d, h1, h2, h3, h4⟩ := hc i hi
  exact ⟨g, d, h1, Nat.lt_of_lt_of_le h2 hb.size, range_later h3 hb, h4.later hb⟩
theorem flatC_at (cl : List Cl) (i : Nat) (h : i < cl.length) : ((flatC cl).drop (i * 51)).take 51 = clL cl[i] := by
  induction cl generalizing i with
  | nil => cases h
  | cons c r ih =>
    have e : flatC (c :: r) = clL c ++ flatC r := rfl
    cases i with
    | zero => rw [e, Nat.zero_mul, List.drop_zero, List.take_left' (clL_len c)]; rfl
    | succ i =>
      rw [e, show (i + 1) * 51 = 51 + i * 51 by omega, ← List.drop_drop, List.drop_left' (clL_len c), ih i (by simpa using h)]
      rfl
theorem flatQ_at (ops : List OpV) (ds : List Value) (i : Nat) (h : i < ops.length) (hd : i < ds.length) : ((flatQ ops ds).drop (i * 21)).take 21 = opL ops[i] ds[i] := by
  induction ops generalizing i ds with
  | nil => cases h
  | cons c r ih =>
    cases ds with
    | nil => cases hd
    | cons d t =>
      have e : flatQ (c :: r) (d :: t) = opL c d ++ flatQ r t := rfl
      cases i with
      | zero => rw [e, Nat.zero_mul, List.drop_zero, List.take_left' (opL_len c d)]; rfl
      | succ i =>
        rw [e, show (i + 1) * 21 = 21 + i * 21 by omega, ← List.drop_drop, List.drop_left' (opL_len c d), ih t i (by simpa using h) (by simpa using hd)]
        rfl
theorem owns_rangeP {w : World} {base : Nat} {e : TypeId} {z n g cap : Nat} {xs : List Value} (h : w.ownsRow base e z (.slice (some ⟨g, 0, none⟩) n cap) n xs) (o k : Nat) : w.rangeAt g o ((xs.drop o).take k) := by
  intro j v hj
  have hj2 : xs[o + j]? = some v := by
    rw [List.getElem?_take] at hj
    split at hj
    · rw [List.getElem?_drop] at hj; exact hj
    · cases hj
  have := h.cells (g := g) rfl (o + j) v hj2
  have e2 : (⟨g, 0, none⟩ : Addr).add (o + j) = ⟨g, o + j, none⟩ := by unfold Addr.add; split <;> simp_all
  rwa [e2] at this
theorem DV.rv {base : Nat} {w : World} {d : Value} {l : List Int} (h : DV base w d l) : RdV w d l := by
  rcases h with ⟨rfl, rfl⟩ | h
  · exact ⟨none, 0, rfl, .inl ⟨rfl, rfl⟩⟩
  · obtain ⟨g, cap, e, _, hs, _⟩ := h.sl
    exact ⟨_, cap, e, .inr ⟨g, rfl, hs⟩⟩
theorem PsR.clAt {base : Nat} {w : World} {cv ov : Value} {ds : List Value} {cl : List Cl} {ops : List OpV} (h : PsR base w cv ov ds cl ops) : ClAt w cv cl := by
  have hr := h.cls
  rcases hr.2 with ⟨rfl, h0⟩ | ⟨g, cap, cur, rfl, _, hg, _⟩
  · exact ⟨none, 0, by rw [h0], fun i hi => by omega⟩
  · refine ⟨_, cap, rfl, fun i hi => ⟨g, rfl, (Array.getElem?_eq_some_iff.1 hg).1, ?_⟩⟩
    rw [← flatC_at cl i hi]
    exact owns_rangeP hr _ _
theorem PsR.opAt {base : Nat} {w : World} {cv ov : Value} {ds : List Value} {cl : List Cl} {ops : List OpV} (h : PsR base w cv ov ds cl ops) : OpAt w ov ops := by
  have hr := h.opr
  rcases hr.2 with ⟨rfl, h0⟩ | ⟨g, cap, cur, rfl, _, hg, _⟩
  · exact ⟨none, 0, by rw [h0], fun i hi => by omega⟩
  · refine ⟨_, cap, rfl, fun i hi => ?_⟩
    have hd : i < ds.length := by rw [h.len]; exact hi
    refine ⟨g, ds[i], rfl, (Array.getElem?_eq_some_iff.1 hg).1, ?_, (h.dat i ops[i] ds[i] (List.getElem?_eq_getElem hi) (List.getElem?_eq_getElem hd)).rv⟩
    rw [← flatQ_at ops ds i hi hd]
    exact owns_rangeP hr _ _
set_option maxRecDepth 10000 in
theorem eqNone (a b : Option Addr) (c d : Nat) (w : World) : Calls Tryz.prog 8 #[.slice a 0 c, .slice b 0 d] w fun e w' => e = .returned (.bool true) ∧ Below w.heap.size w w' := by
  go_enter Tryz.func8, Tryz.ntmps8
  go_wp2
  go_loopw [5] (fun i wx => i = .int .i64 0 ∧ wx = w) (fun _ _ => 0)
  case atStart => exact ⟨rfl, rfl⟩
  case round =>
    obtain ⟨rfl, rfl⟩ := hrel
    go_wp2
    go_ret
    exact ⟨rfl, Below.refl _ _⟩
theorem eqRd (d1 d2 : Value) (l : List Int) (hl : l.length ≤ 1048576) (w : World) (h1 : RdV w d1 l) (h2 : RdV w d2 l) : Calls Tryz.prog 8 #[d1, d2] w fun e w' => e = .returned (.bool true) ∧ Below w.heap.size w w' := by
  obtain ⟨a1, c1, rfl, q1⟩ := h1
  obtain ⟨a2, c2, rfl, q2⟩ := h2
  by_cases h0 : l = []
  · subst h0
    exact eqNone a1 a2 c1 c2 w
  · rcases q1 with ⟨_, h⟩ | ⟨g1, rfl, s1⟩
    · exact absurd h h0
    · rcases q2 with ⟨_, h⟩ | ⟨g2, rfl, s2⟩
      · exact absurd h h0
      · refine (eqByteS_yes g1 g2 l c1 c2 w (by omega) (fun i hi => by simpa using s1.2 i hi) (fun i hi => by simpa using s2.2 i hi)).mono ?_
        rintro e w' ⟨rfl, d, rfl⟩
        exact ⟨rfl, below_drews (Below.refl _ _) d⟩
set_option maxRecDepth 10000 in
set_option maxHeartbeats 4000000 in
theorem eqSource_p (s : Sv) (w : World) : Calls Tryz.prog 57 #[.agg (srL s).toArray, .agg (srL s).toArray] w fun e w' => e = .returned (.bool true) ∧ Below w.heap.size w w' := by
  obtain ⟨n1, W, hW, hn1, F⟩ := psRn2 w (srL s).toArray (srL s).toArray 50 50
  have r1 := F.out.at (.tail _ (.head _))
  have r2 := F.out.at (.head _)
  have g0 : (srL s).toArray[0]? = some (.bool s.v6) := SrcL_v6 _ _ _
  have g17 : (srL s).toArray[17]? = some (.int .u16 s.po) := SrcL_port _ _ _ s.adl
  have g1 : ((srL s).drop 1).take 16 = u8s s.ad := SrcL_mid _ _ _ s.adl
  have a0 : W.cell? ⟨w.heap.size, 0, none⟩ = some (.bool s.v6) := (cell_of_row _ _ _ _ _ _ r1).trans g0
  have b0 : W.cell? ⟨n1, 0, none⟩ = some (.bool s.v6) := (cell_of_row _ _ _ _ _ _ r2).trans g0
  have X1 : Hid (W.rangeAt w.heap.size 1 (u8s s.ad)) := by show World.rangeAt _ _ _ _; rw [← g1]; exact range_row r1 1 16
  have X2 : Hid (W.rangeAt n1 1 (u8s s.ad)) := by show World.rangeAt _ _ _ _; rw [← g1]; exact range_row r2 1 16
  have hi : Hid _ := infoA16p s.ad s.adl
  have G17 : Hid _ := g17
  clear r1 r2 g0 g17 g1
  go_enter Tryz.func57, Tryz.ntmps57
  go_wp2_with ((with_reducible refine aLd ?_); first | refine wpList_load_mid rfl 47 _ rfl w.heap.size 1 rfl (u8s s.ad) _ X1.out Tryz.underlying47 rfl hi.out ?_ | refine wpList_load_mid rfl 47 _ rfl n1 1 rfl (u8s s.ad) _ X2.out Tryz.underlying47 rfl hi.out ?_)
  refine (eqByteA16_yes s.ad s.adl W).mono ?_
  rintro e w1 ⟨rfl, hb1⟩
  have F1 : Hid _ := F.out.later hb1 (Nat.le_refl _)
  clear hb1 F a0 b0 X1 X2 hi hW
  have a1 : w1.cell? ⟨w.heap.size, 17, none⟩ = some (.int .u16 s.po) := (cell_of_row _ _ _ _ _ _ (F1.out.at (.tail _ (.head _)))).trans G17.out
  have b1 : w1.cell? ⟨n1, 17, none⟩ = some (.int .u16 s.po) := (cell_of_row _ _ _ _ _ _ (F1.out.at (.head _))).trans G17.out
  go_wp2_with fail
  go_ret
  exact ⟨rfl, F1.out.bel⟩
set_option maxRecDepth 10000 in
set_option maxHeartbeats 4000000 in
theorem eqClient_p (c : Cl) (w : World) : Calls Tryz.prog 56 #[.agg (clL c).toArray, .agg (clL c).toArray] w fun e w' => e = .returned (.bool true) ∧ Below w.heap.size w w' := by
  obtain ⟨n1, W, hW, hn1, F⟩ := psRn2 w (clL c).toArray (clL c).toArray 75 75
  have r1 := F.out.at (.tail _ (.head _))
  have r2 := F.out.at (.head _)
  have gk : ((clL c).drop 0).take 32 = u8s c.key := by rw [List.drop_zero, clL, List.take_left' (by rw [u8s_len, c.keyl])]
  have gs : ((clL c).drop 32).take 18 = srL c.src := by rw [clL, List.drop_left' (by rw [u8s_len, c.keyl]), List.take_left' (srL_len _)]
  have g50 : (clL c).toArray[50]? = some (.bool c.known) := by
    have e : clL c = (u8s c.key ++ srL c.src) ++ [.bool c.known] := by simp [clL]
    rw [e, List.getElem?_toArray, List.getElem?_append_right (by simp [srL_len, c.keyl])]
    simp [srL_len, c.keyl]
  have X1 : Hid (W.rangeAt w.heap.size 0 (u8s c.key)) := by show World.rangeAt _ _ _ _; rw [← gk]; exact range_row r1 0 32
  have X2 : Hid (W.rangeAt n1 0 (u8s c.key)) := by show World.rangeAt _ _ _ _; rw [← gk]; exact range_row r2 0 32
  have hi : Hid _ := infoK32 c.key c.keyl
  have hs : Hid _ := infoSvl c.src
  have G50 : Hid _ := g50
  have GS : Hid _ := gs
  clear r1 r2 gk gs g50
  go_enter Tryz.func56, Tryz.ntmps56
  go_wp2_with ((with_reducible refine aLd ?_); first | refine wpList_load_mid rfl 23 _ rfl w.heap.size 0 rfl (u8s c.key) _ X1.out Tryz.underlying23 rfl hi.out ?_ | refine wpList_load_mid rfl 23 _ rfl n1 0 rfl (u8s c.key) _ X2.out Tryz.underlying23 rfl hi.out ?_)
  refine (eqByteA32_yes c.key c.keyl W).mono ?_
  rintro e w1 ⟨rfl, hb1⟩
  have F1 : Hid _ := F.out.later hb1 (Nat.le_refl _)
  have X3 : Hid (w1.rangeAt w.heap.size 32 (srL c.src)) := by show World.rangeAt _ _ _ _; rw [← GS.out]; exact range_row (F1.out.at (.tail _ (.head _))) 32 18
  have X4 : Hid (w1.rangeAt n1 32 (srL c.src)) := by show World.rangeAt _ _ _ _; rw [← GS.out]; exact range_row (F1.out.at (.head _)) 32 18
  clear hb1 F X1 X2 hi hW
  go_wp2_with ((with_reducible refine aLd ?_); first | refine wpList_load_mid rfl 50 _ rfl w.heap.size 32 rfl (srL c.src) _ X3.out Tryz.underlying50 rfl hs.out ?_ | refine wpList_load_mid rfl 50 _ rfl n1 32 rfl (srL c.src) _ X4.out Tryz.underlying50 rfl hs.out ?_)
  refine (eqSource_p c.src w1).mono ?_
  rintro e w2 ⟨rfl, hb2⟩
  have F2 : Hid _ := F1.out.later hb2 (Nat.le_refl _)
  clear hb2 F1 X3 X4 hs
  have a1 : w2.cell? ⟨w.heap.size, 50, none⟩ = some (.bool c.known) := (cell_of_row _ _ _ _ _ _ (F2.out.at (.tail _ (.head _)))).trans G50.out
  have b1 : w2.cell? ⟨n1, 50, none⟩ = some (.bool c.known) := (cell_of_row _ _ _ _ _ _ (F2.out.at (.head _))).trans G50.out
  go_wp2_with fail
  go_ret
  exact ⟨rfl, F2.out.bel⟩
set_option maxRecDepth 10000 in
set_option maxHeartbeats 4000000 in
theorem eqOp_p (o : OpV) (d1 d2 : Value) (hl : o.data.length ≤ 1048576) (w : World) (h1 : RdV w d1 o.data) (h2 : RdV w d2 o.data) : Calls Tryz.prog 41 #[.agg (opL o d1).toArray, .agg (opL o d2).toArray] w fun e w' => e = .returned (.bool true) ∧ Below w.heap.size w w' := by
  obtain ⟨n1, W, hW, hn1, F⟩ := psRn2 w (opL o d1).toArray (opL o d2).toArray 52 52
  have r1 := F.out.at (.tail _ (.head _))
  have r2 := F.out.at (.head _)
  have gs : ∀ d, ((opL o d).drop 2).take 18 = srL o.src := fun d => by show (srL o.src ++ [d]).take 18 = _; exact List.take_left' (srL_len _)
  have g20 : ∀ d, (opL o d).toArray[20]? = some d := fun d => by
    have e : opL o d = ([.int .i64 o.kind, .int .i64 o.n] ++ srL o.src) ++ [d] := by simp [opL]
    rw [e, List.getElem?_toArray, List.getElem?_append_right (by simp [srL_len])]
    simp [srL_len]
  have g0 : ∀ d, (opL o d).toArray[0]? = some (.int .i64 o.kind) := fun d => rfl
  have g1 : ∀ d, (opL o d).toArray[1]? = some (.int .i64 o.n) := fun d => rfl
  have a0 : W.cell? ⟨w.heap.size, 0, none⟩ = some (.int .i64 o.kind) := (cell_of_row _ _ _ _ _ _ r1).trans (g0 _)
  have b0 : W.cell? ⟨n1, 0, none⟩ = some (.int .i64 o.kind) := (cell_of_row _ _ _ _ _ _ r2).trans (g0 _)
  have a1 : W.cell? ⟨w.heap.size, 1, none⟩ = some (.int .i64 o.n) := (cell_of_row _ _ _ _ _ _ r1).trans (g1 _)
  have b1 : W.cell? ⟨n1, 1, none⟩ = some (.int .i64 o.n) := (cell_of_row _ _ _ _ _ _ r2).trans (g1 _)
  have X1 : Hid (W.rangeAt w.heap.size 2 (srL o.src)) := by show World.rangeAt _ _ _ _; rw [← gs d1]; exact range_row r1 2 18
  have X2 : Hid (W.rangeAt n1 2 (srL o.src)) := by show World.rangeAt _ _ _ _; rw [← gs d2]; exact range_row r2 2 18
  have hs : Hid _ := infoSvl o.src
  have G20 : Hid _ := g20
  have D1 : Hid (RdV W d1 o.data) := h1.later F.out.bel
  have D2 : Hid (RdV W d2 o.data) := h2.later F.out.bel
  clear r1 r2 gs g20 g0 g1 h1 h2
  go_enter Tryz.func41, Tryz.ntmps41
  go_wp2_with ((with_reducible refine aLd ?_); first | refine wpList_load_mid rfl 50 _ rfl w.heap.size 2 rfl (srL o.src) _ X1.out Tryz.underlying50 rfl hs.out ?_ | refine wpList_load_mid rfl 50 _ rfl n1 2 rfl (srL o.src) _ X2.out Tryz.underlying50 rfl hs.out ?_)
  refine (eqSource_p o.src W).mono ?_
  rintro e w2 ⟨rfl, hb2⟩
  have F2 : Hid _ := F.out.later hb2 (Nat.le_refl _)
  have E1 : Hid (RdV w2 d1 o.data) := D1.out.later hb2
  have E2 : Hid (RdV w2 d2 o.data) := D2.out.later hb2
  clear hb2 F X1 X2 hs D1 D2 a0 b0 a1 b1 hW
  have a2 : w2.cell? ⟨w.heap.size, 20, none⟩ = some d1 := (cell_of_row _ _ _ _ _ _ (F2.out.at (.tail _ (.head _)))).trans (G20.out _)
  have b2 : w2.cell? ⟨n1, 20, none⟩ = some d2 := (cell_of_row _ _ _ _ _ _ (F2.out.at (.head _))).trans (G20.out _)
  go_wp2_with fail
  refine (eqRd d1 d2 o.data hl w2 E1.out E2.out).mono ?_
  rintro e w3 ⟨rfl, hb3⟩
  have F3 : Hid _ := F2.out.later hb3 (Nat.le_refl _)
  clear hb3 a2 b2
  go_wp2_with fail
  go_ret
  exact ⟨rfl, F3.out.bel⟩
theorem run_idxZ {P : Program} {o : Oper} {ρ : Operand → Value} (t : TypeId) (x y : Operand) (ho : o.op = .indexAddr t x y) (z g len cap i : Nat) (hx : ρ x = .slice (some ⟨g, 0, none⟩) len cap) (hy : ρ y = .int .i64 i)
    (ht : P.underlying t = some (.slice (P.elem t))) (hs : (P.info? (P.elem t)).map (·.size) = some z) (h1 : i < len) (w : World) :
    (execOp ρ o).run P w = .ok (.value (.pointer (some ⟨g, i * z, none⟩))) w := by
  have hadd : (⟨g, 0, none⟩ : Addr).add (i * z) = ⟨g, i * z, none⟩ := by unfold Addr.add; split <;> simp_all
  have hsz : (sizeOf (P.elem t)).run P w = .ok z w := by
    obtain ⟨i, hi, h1⟩ := Option.map_eq_some_iff.1 hs
    simp [sizeOf, typeInfo, hi, h1]
  unfold execOp
  simp only [ho, hx, hy, Sem.run_bind, run_indexAt_slice w t _ len cap .i64 (i : Int) ht, hsz, Result.andThen_ok, Int.toNat_natCast, Sem.run_pure]
  rw [if_pos (by omega)]
  simp only [Result.andThen_ok, hadd]
theorem infoCe : (Tryz.prog.info? (Tryz.prog.elem 24)).map (·.size) = some 51 := by kernel_rfl
set_option maxRecDepth 10000 in
set_option maxHeartbeats 4000000 in
theorem eqClientS_p (xs : List Cl) (n : Nat) (hn : xs.length = n) (hn2 : n ≤ 1000000) (v1 v2 : Value) (w : World) (h1 : ClAt w v1 xs) (h2 : ClAt w v2 xs) : Calls Tryz.prog 40 #[v1, v2] w fun e w' => e = .returned (.bool true) ∧ Below w.heap.size w w' := by
  obtain ⟨a1, c1, rfl, q1⟩ := h1
  obtain ⟨a2, c2, rfl, q2⟩ := h2
  have Q1 : Hid _ := q1
  have Q2 : Hid _ := q2
  have HN : Hid _ := hn
  rw [hn]
  clear q1 q2 hn
  go_enter Tryz.func40, Tryz.ntmps40
  go_wp2
  go_loopw [5] (fun i wx => ∃ k : Nat, k ≤ n ∧ i = .int .i64 k ∧ Below w.heap.size w wx) (fun i _ => n - (intOf i).toNat)
  case atStart => exact ⟨0, Nat.zero_le _, rfl, Below.refl _ _⟩
  case round =>
    obtain ⟨k, hk, rfl, hb⟩ := hrel
    have HB : Hid _ := hb
    by_cases hlt : k < n
    · have hkl : k < xs.length := by rw [HN.out]; exact hlt
      obtain ⟨g1, rfl, l1, r1⟩ := Q1.out k hkl
      obtain ⟨g2, rfl, l2, r2⟩ := Q2.out k hkl
      have R1 : Hid (∀ x : Bel wr.heap.size wr, x.w.rangeAt g1 (k * 51) (clL xs[k])) := fun x => fun j v hj => (x.bel.cell (p := ⟨g1, k * 51 + j, none⟩) (Nat.lt_of_lt_of_le l1 HB.out.size)).trans ((HB.out.cell (p := ⟨g1, k * 51 + j, none⟩) l1).trans (r1 j v hj))
      have R2 : Hid (∀ x : Bel wr.heap.size wr, x.w.rangeAt g2 (k * 51) (clL xs[k])) := fun x => fun j v hj => (x.bel.cell (p := ⟨g2, k * 51 + j, none⟩) (Nat.lt_of_lt_of_le l2 HB.out.size)).trans ((HB.out.cell (p := ⟨g2, k * 51 + j, none⟩) l2).trans (r2 j v hj))
      generalize xs[k] = o at *
      clear r1 r2 hb
      go_wp2_with fail
      refine wp_region_bel wr.heap.size wr mixedPs (by kernel_rfl) (Below.refl _ _) ?_
      refine quietVal rfl (.slice (some ⟨g1, 0, none⟩) n c1) (fun w' => by kernel_rfl) ?_
      simp only [Act.put, List.setIfInBounds_toArray, List.set_cons_succ, List.set_cons_zero]
      refine quietVal rfl (.int .i64 k) (fun w' => by kernel_rfl) ?_
      simp only [Act.put, List.setIfInBounds_toArray, List.set_cons_succ, List.set_cons_zero]
      refine quietVal rfl (.pointer (some ⟨g1, k * 51, none⟩)) (fun w' => run_idxZ 24 _ _ rfl 51 g1 n c1 k rfl rfl Tryz.underlying24 infoCe hlt w') ?_
      simp only [Act.put, List.setIfInBounds_toArray, List.set_cons_succ, List.set_cons_zero]
      refine wpQuiet_load_mid rfl 75 _ rfl g1 (k * 51) rfl (clL o) _ (fun v ⟨x, e⟩ => by rw [e]; exact R1.out x) Tryz.underlying75 rfl (by rw [clL_len]; kernel_rfl) ?_
      simp only [Act.put, List.setIfInBounds_toArray, List.set_cons_succ, List.set_cons_zero]
      refine quietVal rfl (.slice (some ⟨g2, 0, none⟩) n c2) (fun w' => by kernel_rfl) ?_
      simp only [Act.put, List.setIfInBounds_toArray, List.set_cons_succ, List.set_cons_zero]
      refine quietVal rfl (.int .i64 k) (fun w' => by kernel_rfl) ?_
      simp only [Act.put, List.setIfInBounds_toArray, List.set_cons_succ, List.set_cons_zero]
      refine quietVal rfl (.pointer (some ⟨g2, k * 51, none⟩)) (fun w' => run_idxZ 24 _ _ rfl 51 g2 n c2 k rfl rfl Tryz.underlying24 infoCe hlt w') ?_
      simp only [Act.put, List.setIfInBounds_toArray, List.set_cons_succ, List.set_cons_zero]
      refine wpQuiet_load_mid rfl 75 _ rfl g2 (k * 51) rfl (clL o) _ (fun v ⟨x, e⟩ => by rw [e]; exact R2.out x) Tryz.underlying75 rfl (by rw [clL_len]; kernel_rfl) ?_
      simp only [Act.put, List.setIfInBounds_toArray, List.set_cons_succ, List.set_cons_zero]
      refine wpQuiet_call rfl 56 #[.agg (clL o).toArray, .agg (clL o).toArray] (.bool true) (fun w' => by kernel_rfl) (fun v ⟨x, e⟩ => by subst e; exact calls_bel x (Nat.le_refl _) (eqClient_p o x.w)) ?_
      simp only [Act.put, List.setIfInBounds_toArray, List.set_cons_succ, List.set_cons_zero]
      refine quietVal rfl (.bool false) (fun w' => by kernel_rfl) ?_
      simp only [Act.put, List.setIfInBounds_toArray, List.set_cons_succ, List.set_cons_zero]
      refine wpQuiet_nil ?_
      intro w2 hb2
      have HB2 : Hid (Below w.heap.size w w2) := HB.out.trans (hb2.mono HB.out.size)
      clear hb2
      go_wp2
      go_roundw
      case rel => exact ⟨k + 1, by omega, by go_num, HB2.out⟩
      case measure => simp [intOf]; omega
    · obtain rfl : k = n := by omega
      go_wp2
      go_ret
      exact ⟨rfl, HB.out⟩
theorem infoOe : (Tryz.prog.info? (Tryz.prog.elem 27)).map (·.size) = some 21 := by kernel_rfl
set_option maxRecDepth 10000 in
set_option maxHeartbeats 4000000 in
theorem eqOpS_p (xs : List OpV) (n : Nat) (hn : xs.length = n) (hn2 : n ≤ 1000000) (hl : ∀ o ∈ xs, o.data.length ≤ 1048576) (v1 v2 : Value) (w : World) (h1 : OpAt w v1 xs) (h2 : OpAt w v2 xs) : Calls Tryz.prog 21 #[v1, v2] w fun e w' => e = .returned (.bool true) ∧ Below w.heap.size w w' := by
  obtain ⟨a1, c1, rfl, q1⟩ := h1
  obtain ⟨a2, c2, rfl, q2⟩ := h2
  have Q1 : Hid _ := q1
  have Q2 : Hid _ := q2
  have HN : Hid _ := hn
  rw [hn]
  clear q1 q2 hn
  go_enter Tryz.func21, Tryz.ntmps21
  go_wp2
  go_loopw [5] (fun i wx => ∃ k : Nat, k ≤ n ∧ i = .int .i64 k ∧ Below w.heap.size w wx) (fun i _ => n - (intOf i).toNat)
  case atStart => exact ⟨0, Nat.zero_le _, rfl, Below.refl _ _⟩
  case round =>
    obtain ⟨k, hk, rfl, hb⟩ := hrel
    have HB : Hid _ := hb
    by_cases hlt : k < n
    · have hkl : k < xs.length := by rw [HN.out]; exact hlt
      obtain ⟨g1, d1, rfl, l1, r1, y1⟩ := Q1.out k hkl
      obtain ⟨g2, d2, rfl, l2, r2, y2⟩ := Q2.out k hkl
      have R1 : Hid (∀ x : Bel wr.heap.size wr, x.w.rangeAt g1 (k * 21) (opL xs[k] d1)) := fun x => fun j v hj => (x.bel.cell (p := ⟨g1, k * 21 + j, none⟩) (Nat.lt_of_lt_of_le l1 HB.out.size)).trans ((HB.out.cell (p := ⟨g1, k * 21 + j, none⟩) l1).trans (r1 j v hj))
      have R2 : Hid (∀ x : Bel wr.heap.size wr, x.w.rangeAt g2 (k * 21) (opL xs[k] d2)) := fun x => fun j v hj => (x.bel.cell (p := ⟨g2, k * 21 + j, none⟩) (Nat.lt_of_lt_of_le l2 HB.out.size)).trans ((HB.out.cell (p := ⟨g2, k * 21 + j, none⟩) l2).trans (r2 j v hj))
      have Y1 : Hid (RdV wr d1 xs[k].data) := y1.later hb
      have Y2 : Hid (RdV wr d2 xs[k].data) := y2.later hb
      have HLK := hl xs[k] (List.getElem_mem hkl)
      generalize xs[k] = o at *
      clear r1 r2 hb y1 y2
      go_wp2_with fail
      refine wp_region_bel wr.heap.size wr mixedPs (by kernel_rfl) (Below.refl _ _) ?_
      refine quietVal rfl (.slice (some ⟨g1, 0, none⟩) n c1) (fun w' => by kernel_rfl) ?_
      simp only [Act.put, List.setIfInBounds_toArray, List.set_cons_succ, List.set_cons_zero]
      refine quietVal rfl (.int .i64 k) (fun w' => by kernel_rfl) ?_
      simp only [Act.put, List.setIfInBounds_toArray, List.set_cons_succ, List.set_cons_zero]
      refine quietVal rfl (.pointer (some ⟨g1, k * 21, none⟩)) (fun w' => run_idxZ 27 _ _ rfl 21 g1 n c1 k rfl rfl Tryz.underlying27 infoOe hlt w') ?_
      simp only [Act.put, List.setIfInBounds_toArray, List.set_cons_succ, List.set_cons_zero]
      refine wpQuiet_load_mid rfl 52 _ rfl g1 (k * 21) rfl (opL o d1) _ (fun v ⟨x, e⟩ => by rw [e]; exact R1.out x) Tryz.underlying52 rfl (infoOpl o d1) ?_
      simp only [Act.put, List.setIfInBounds_toArray, List.set_cons_succ, List.set_cons_zero]
      refine quietVal rfl (.slice (some ⟨g2, 0, none⟩) n c2) (fun w' => by kernel_rfl) ?_
      simp only [Act.put, List.setIfInBounds_toArray, List.set_cons_succ, List.set_cons_zero]
      refine quietVal rfl (.int .i64 k) (fun w' => by kernel_rfl) ?_
      simp only [Act.put, List.setIfInBounds_toArray, List.set_cons_succ, List.set_cons_zero]
      refine quietVal rfl (.pointer (some ⟨g2, k * 21, none⟩)) (fun w' => run_idxZ 27 _ _ rfl 21 g2 n c2 k rfl rfl Tryz.underlying27 infoOe hlt w') ?_
      simp only [Act.put, List.setIfInBounds_toArray, List.set_cons_succ, List.set_cons_zero]
      refine wpQuiet_load_mid rfl 52 _ rfl g2 (k * 21) rfl (opL o d2) _ (fun v ⟨x, e⟩ => by rw [e]; exact R2.out x) Tryz.underlying52 rfl (infoOpl o d2) ?_
      simp only [Act.put, List.setIfInBounds_toArray, List.set_cons_succ, List.set_cons_zero]
      refine wpQuiet_call rfl 41 #[.agg (opL o d1).toArray, .agg (opL o d2).toArray] (.bool true) (fun w' => by kernel_rfl) (fun v ⟨x, e⟩ => by subst e; exact calls_bel x (Nat.le_refl _) (eqOp_p o d1 d2 HLK x.w (Y1.out.later x.bel) (Y2.out.later x.bel))) ?_
      simp only [Act.put, List.setIfInBounds_toArray, List.set_cons_succ, List.set_cons_zero]
      refine quietVal rfl (.bool false) (fun w' => by kernel_rfl) ?_
      simp only [Act.put, List.setIfInBounds_toArray, List.set_cons_succ, List.set_cons_zero]
      refine wpQuiet_nil ?_
      intro w2 hb2
      have HB2 : Hid (Below w.heap.size w w2) := HB.out.trans (hb2.mono HB.out.size)
      clear hb2
      go_wp2
      go_roundw
      case rel => exact ⟨k + 1, by omega, by go_num, HB2.out⟩
      case measure => simp [intOf]; omega
    · obtain rfl : k = n := by omega
      go_wp2
      go_ret
      exact ⟨rfl, HB.out⟩
end Go.Proofs.YtijlicammbpeeaaGreatDoor
