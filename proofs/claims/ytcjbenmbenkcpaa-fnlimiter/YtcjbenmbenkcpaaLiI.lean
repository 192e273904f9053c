/- The program's limiter: its small functions. -/
import Derived.Test.YtcjbenmbenkcpaaLiT
import Derived.Test.YtcjbenmbenkcpaaLiS0
import Derived.Lib.MinMax
namespace Go.Proofs.Ytcjbenmbenkcpaa
open Go.RowKit
set_option linter.unusedVariables false
set_option maxHeartbeats 1000000 in
theorem within_any (v m : Int) (w : World) : Calls Try.prog 26 #[.int .i64 v, .int .i64 m] w fun e w' => e = .returned (.bool (decide (0 ≤ v ∧ v ≤ m))) ∧ w' = w := by
  by_cases h1 : 0 ≤ v
  · by_cases h2 : v ≤ m
    · have e : decide (0 ≤ v ∧ v ≤ m) = true := by simp [h1, h2]
      rw [e]
      go_enter Try.func26, Try.ntmps26
      go_wp2
      go_ret
      exact ⟨rfl, rfl⟩
    · have e : decide (0 ≤ v ∧ v ≤ m) = false := by simp [h2]
      rw [e]
      go_enter Try.func26, Try.ntmps26
      go_wp2
      go_ret
      exact ⟨rfl, rfl⟩
  · have e : decide (0 ≤ v ∧ v ≤ m) = false := by simp [h1]
    rw [e]
    go_enter Try.func26, Try.ntmps26
    go_wp2
    go_ret
    exact ⟨rfl, rfl⟩
set_option maxRecDepth 10000 in
set_option maxHeartbeats 2000000 in
theorem refilled_any (b : Bk) (now : Int) (w : World) (h1 : 0 ≤ b.tok) (h2 : b.tok ≤ 250000000) (h3 : 0 ≤ b.last) (h4 : b.last ≤ now) (h5 : now ≤ 9223372036854775807) :
    Calls Try.prog 27 #[.agg (bkL b).toArray, .int .i64 now] w fun e w' => e = .returned (.agg (bkL (setBk b (grownB now b) now)).toArray) ∧ Below w.heap.size w w' := by
  obtain ⟨k0, k1, k2, k3, k4, k5, k6, k7, k8, hk⟩ := bk_open b
  have e : (bkL b).toArray = #[.int .u8 k0, .int .u8 k1, .int .u8 k2, .int .u8 k3, .int .u8 k4, .int .u8 k5, .int .u8 k6, .int .u8 k7, .int .u8 k8, .int .i64 b.tok, .int .i64 b.last] := by simp [bkL, hk]
  have e2 : (bkL (setBk b (grownB now b) now)).toArray = #[.int .u8 k0, .int .u8 k1, .int .u8 k2, .int .u8 k3, .int .u8 k4, .int .u8 k5, .int .u8 k6, .int .u8 k7, .int .u8 k8, .int .i64 (min (b.tok + min (now - b.last) 250000000) 250000000), .int .i64 now] := by simp [bkL, setBk, hk, grownB]
  rw [e, e2]
  have hmin : ∃ x, x = min (now - b.last) 250000000 ∧ 0 ≤ x ∧ x ≤ 250000000 := ⟨_, rfl, by omega, by omega⟩
  generalize b.tok = t, b.last = l at *
  clear e e2 hk
  go_enter Try.func27, Try.ntmps27
  go_wp2_with fail
  refine bodyPost_ret (v := .agg #[.int .u8 k0, .int .u8 k1, .int .u8 k2, .int .u8 k3, .int .u8 k4, .int .u8 k5, .int .u8 k6, .int .u8 k7, .int .u8 k8, .int .i64 (min (t + min (now - l) 250000000) 250000000), .int .i64 now]) (results_cell_row rfl _ _ (w.heap.size + 1) 37 #[.int .u8 k0, .int .u8 k1, .int .u8 k2, .int .u8 k3, .int .u8 k4, .int .u8 k5, .int .u8 k6, .int .u8 k7, .int .u8 k8, .int .i64 (min (t + min (now - l) 250000000) 250000000), .int .i64 now] (0, 0) _ rfl (by simp only [heapAt, World.size_alloc]; simp) Try.underlying37 rfl infoB) rfl ⟨rfl, ((Below.refl _ _).alloc (by simp) _).alloc (by simp) _⟩
theorem pair_one : ∀ {L : List Pl}, L.Pairwise (fun x y => x.b.key ≠ y.b.key) → ∀ {x y : Pl}, x ∈ L → y ∈ L → x.b.key = y.b.key → x = y
  | [], _, _, _, hx, _, _ => by cases hx
  | a :: r, hp, x, y, hx, hy, h => by
    obtain ⟨h1, h2⟩ := List.pairwise_cons.1 hp
    rcases List.mem_cons.1 hx with ex | hx'
    · rcases List.mem_cons.1 hy with ey | hy'
      · rw [ex, ey]
      · exact absurd (ex ▸ h) (h1 y hy')
    · rcases List.mem_cons.1 hy with ey | hy'
      · exact absurd (ey ▸ h).symm (h1 x hx')
      · exact pair_one h2 hx' hy' h
def notIdle (now : Int) (p : Pl) : Bool := !decide (1000000000 < now - p.b.last)
theorem row_last {w : World} {g : Nat} {p : Pl} {t : TypeId} {fr : Nat × Nat} (h : w.heap[g]? = some (.cells (plL p).toArray t fr)) : w.cell? ⟨g, 10, none⟩ = some (.int .i64 p.b.last) ∧ w.cell? ⟨g, 9, none⟩ = some (.int .i64 p.b.tok) ∧ w.rangeAt g 0 (bkL p.b) := by
  obtain ⟨k0, k1, k2, k3, k4, k5, k6, k7, k8, hk⟩ := bk_open p.b
  refine ⟨?_, ?_, ?_⟩
  · rw [cell_of_row _ _ _ _ _ _ h]; simp [plL, bkL, hk]
  · rw [cell_of_row _ _ _ _ _ _ h]; simp [plL, bkL, hk]
  · have := range_row h 0 11
    rwa [List.drop_zero, show (plL p).take 11 = bkL p.b by rw [plL, ← bkL_length p.b]; exact List.take_left] at this
set_option maxRecDepth 10000 in
set_option maxHeartbeats 2000000 in
theorem sweep_any (ps : List Pl) (b n : Nat) (now : Int) (w : World) (hT : Tab w b n ps) (hok : ∀ p ∈ ps, 0 ≤ p.b.last ∧ p.b.last ≤ now) (hnow : now ≤ 9223372036854775807) :
    Calls Try.prog 18 #[.map (some b), .int .i64 now] w fun e w' => e = .returned (.tuple #[]) ∧ Tab w' b n (ps.filter (notIdle now)) ∧ w.grownBy w' (some b) := by
  have HT : Hid (Tab _ _ _ _) := hT
  have OK : Hid _ := hok
  have AP : Hid _ := Tab.apart hT
  clear hT hok
  go_enter Try.func18, Try.ntmps18
  go_wp2_with (at_range; refine wpList_rangeT rfl _ rfl b n ps rfl HT.out ?_)
  intro w0 cnt0 hR0 hg0 hs0
  have R0 : Hid (TabR _ _ _ _ _ _ _) := hR0
  have G0 : Hid _ := hg0
  have bl : b < w.heap.size := Tab.lt HT.out
  obtain ⟨r, hr⟩ : ∃ x, x = w.heap.size := ⟨_, rfl⟩
  rw [← hr] at R0 ⊢
  have HRr : Hid _ := hr
  clear hR0 hg0 hs0 hr
  go_wp2_with fail
  go_loopw [8] (fun _ wr => ∃ (left : List Int → Bool) (cnt : Nat), TabR wr b r n (ps.filter (fun p => notIdle now p || left p.b.key)) left cnt ∧ w.grownBy wr (some b)) (fun _ wr => wr.rangeLeft b r)
  case atStart =>
    refine ⟨fun _ => true, cnt0, ?_, G0.out.but _⟩
    have e : ps.filter (fun p => notIdle now p || true) = ps := List.filter_eq_self.2 (fun p _ => by simp)
    rw [e]
    exact R0.out
  case round =>
    obtain ⟨left, cnt, hR, hG⟩ := hrel
    obtain ⟨L, hL⟩ : ∃ x, x = ps.filter (fun p => notIdle now p || left p.b.key) := ⟨_, rfl⟩
    rw [← hL] at hR
    have LD : Hid _ := hL
    have R : Hid (TabR _ _ _ _ _ _ _) := hR
    have G : Hid _ := hG
    clear hR hG R0 G0 hL
    have bwr : r < wr.heap.size := TabR.lt R.out
    have blr : b < wr.heap.size := Tab.lt (TabR.tab R.out)
    have nrb : r ≠ b := TabR.ne R.out
    go_wp2_with (at_next; refine wpList_nextT rfl _ rfl b r n L left cnt rfl R.out ?_ ?_)
    · intro hdone
      have D : Hid _ := hdone
      clear hdone
      go_wp2_with fail
      go_end0
      refine ⟨rfl, ?_, G.out⟩
      have e : L = ps.filter (notIdle now) := by
        rw [LD.out]
        apply List.filter_congr
        intro p hp
        cases hi : notIdle now p
        · cases hl : left p.b.key
          · rfl
          · have := D.out p (by rw [LD.out]; exact List.mem_filter.2 ⟨hp, by rw [hl]; simp⟩)
            rw [hl] at this
            cases this
        · rfl
      rw [← e]
      exact TabR.tab R.out
    · intro p w1 cnt1 hp hl hR1 hlt hg1 hs1 hen
      have R1 : Hid (TabR _ _ _ _ _ _ _) := hR1
      have G1 : Hid _ := hg1
      have HP : Hid (p ∈ ps) := (List.mem_filter.1 (LD.out ▸ hp)).1
      have b0 := (OK.out p HP.out).1
      have b1 := (OK.out p HP.out).2
      have HPL : Hid _ := hp
      have HL : Hid _ := hl
      have i9 : Hid ((Try.prog.info? 33).map (·.size) = some (Iv .u8 p.b.key).size) := by show _ = _; rw [Iv_size, p.b.len]; exact infoA9
      have i12 : Hid ((Try.prog.info? 66).map (·.size) = some (plL p).toArray.size) := by show _ = _; rw [List.size_toArray, plL_length]; exact infoP
      have z9 : Hid ((#[.int .u8 0, .int .u8 0, .int .u8 0, .int .u8 0, .int .u8 0, .int .u8 0, .int .u8 0, .int .u8 0, .int .u8 0] : Array Value).size = (Iv .u8 p.b.key).size) := by show _ = _; rw [Iv_size, p.b.len]; rfl
      have z12 : Hid ((#[.int .u8 0, .int .u8 0, .int .u8 0, .int .u8 0, .int .u8 0, .int .u8 0, .int .u8 0, .int .u8 0, .int .u8 0, .int .i64 0, .int .i64 0, .int .i64 0] : Array Value).size = (plL p).toArray.size) := by show _ = _; rw [show (plL p).toArray.size = 12 by rw [List.size_toArray, plL_length]]; rfl
      have o12 : Hid ((plL p).toArray.all (·.oneCell') = true) := by show _ = _; rw [List.all_toArray]; exact List.all_eq_true.2 (plL_one p)
      obtain ⟨zA, hzA⟩ : ∃ x : Array Value, x = #[.int .u8 0, .int .u8 0, .int .u8 0, .int .u8 0, .int .u8 0, .int .u8 0, .int .u8 0, .int .u8 0, .int .u8 0] := ⟨_, rfl⟩
      obtain ⟨zB, hzB⟩ : ∃ x : Array Value, x = #[.int .u8 0, .int .u8 0, .int .u8 0, .int .u8 0, .int .u8 0, .int .u8 0, .int .u8 0, .int .u8 0, .int .u8 0, .int .i64 0, .int .i64 0, .int .i64 0] := ⟨_, rfl⟩
      have M0 : Hid (Rn w1 [(w1.heap.size + 1, zB, 66), (w1.heap.size, zA, 33)] ((w1.alloc (.cells zA 33)).alloc (.cells zB 66))) := ((Rn.start w1).alloc _ _).alloc' _ (by simp) _ _
      rw [hzA, hzB] at M0
      clear hR1 hg1 hp hl hzA hzB hs1
      go_wp2_with (refine wpList_put_row rfl 33 _ _ rfl w1.heap.size (Iv .u8 p.b.key) rfl rfl 33 _ (M0.out.at (.tail _ (.head _))) i9.out z9.out (Iv_one _ _) ?_)
      intro w2 hP2
      have M1 : Hid _ := Rn.putK (R1 := [_]) M0.out hP2
      clear hP2 M0
      go_wp2_with (refine wpList_put_row rfl 66 _ _ rfl (w1.heap.size + 1) (plL p).toArray rfl rfl 66 _ (M1.out.at (.head _)) i12.out z12.out o12.out ?_)
      intro w3 hP3
      have M2 : Hid _ := M1.out.put hP3
      have R3 : Hid (TabR _ _ _ _ _ _ _) := TabR.later R1.out M2.out.bel
      have G3 : Hid (w.grownBy w3 (some b)) := (G.out.andThen G1.out (fun j e => by cases e; left; have := HRr.out; omega)).andThen (row' := none) ⟨M2.out.bel.os, M2.out.bel.tape, M2.out.bel.output, M2.out.bel.size, fun i hi _ => M2.out.bel.block i hi⟩ (fun j e => by cases e)
      clear hP3 M1 R1 G1 G
      have cl : w3.cell? ⟨w1.heap.size + 1, 10, none⟩ = some (.int .i64 p.b.last) := (row_last (M2.out.at (.head _))).1
      by_cases hid : 1000000000 < now - p.b.last
      · go_wp2_with (first
          | refine wpList_load_row rfl 33 _ rfl w1.heap.size rfl _ (Iv .u8 p.b.key) _ _ (M2.out.at (.tail _ (.head _))) Try.underlying33 rfl i9.out ?_
          | refine wpList_delT rfl _ _ rfl b r n L (strikeK left p.b.key) cnt1 rfl R3.out p rfl ?_)
        intro w4 cnt2 hR4 hle hg4
        have R4 : Hid (TabR _ _ _ _ _ _ _) := hR4
        have G4 : Hid (w.grownBy w4 (some b)) := G3.out.andThen hg4 (fun j e => by cases e; right; rfl)
        clear hR4 hg4
        go_wp2_with fail
        go_roundw
        case rel =>
          refine ⟨strikeK (strikeK left p.b.key) p.b.key, cnt2, ?_, G4.out⟩
          have e : L.filter (neK p) = ps.filter (fun x => notIdle now x || strikeK (strikeK left p.b.key) p.b.key x.b.key) := by
            rw [LD.out, List.filter_filter]
            apply List.filter_congr
            intro x hx
            unfold neK strikeK
            by_cases hk : x.b.key = p.b.key
            · have hxp : x = p := pair_one AP.out hx HP.out hk
              subst hxp
              simp [notIdle, hid]
            · simp [hk]
          rw [← e]
          exact R4.out
        case measure => rw [TabR.left_eq R4.out, TabR.left_eq R.out]; omega
      · go_wp2_with fail
        go_roundw
        case rel =>
          refine ⟨strikeK left p.b.key, cnt1, ?_, G3.out⟩
          have e : L = ps.filter (fun x => notIdle now x || strikeK left p.b.key x.b.key) := by
            rw [LD.out]
            apply List.filter_congr
            intro x hx
            unfold strikeK
            by_cases hk : x.b.key = p.b.key
            · have hxp : x = p := pair_one AP.out hx HP.out hk
              subst hxp
              have hni : notIdle now x = true := by simp [notIdle]; omega
              rw [hni]
              simp
            · simp [hk]
          rw [← e]
          exact R3.out
        case measure => rw [TabR.left_eq R3.out, TabR.left_eq R.out]; omega
end Go.Proofs.Ytcjbenmbenkcpaa
