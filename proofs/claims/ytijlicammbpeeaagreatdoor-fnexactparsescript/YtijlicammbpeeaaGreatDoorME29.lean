import Derived.Test.YtijlicammbpeeaaGreatDoorME28
import Derived.Test.YtijlicammbpeeaaGreatDoorME24
import Derived.Test.YtijlicammbpeeaaGreatDoorME00
import Derived.Laws.CopyOwn
/- The program's sources: 'sourceOf'. -/
namespace Go.Proofs.YtijlicammbpeeaaGreatDoor
open Go.RowKit
set_option linter.unusedVariables false
set_option linter.unusedSimpArgs false
theorem copy_val {P : Program} {w : World} {ops : Array Oper} {rest : List Oper} {o : Oper} {a : Act} {Q : Exit → Act → World → Prop} (k : IntKind) (hgd : o.guard = none) (d s : Operand) (dT sT : TypeId)
    (ho : o.op = .call { callee := .builtin .copy, args := #[d, s], argTypes := #[dT, sT] }) (elem : TypeId) (hu : P.underlying dT = some (.slice elem)) (hsz : (P.info? elem).map (·.size) = some 1)
    (g off dLen dCap b o' sLen sCap : Nat) (hd : a.eval d = .slice (some ⟨g, off, none⟩) dLen dCap) (hs : a.eval s = .slice (some ⟨b, o', none⟩) sLen sCap)
    (l : List Value) (zs : List Int) (new : List Value) (t : TypeId) (hg : w.heap[g]? = some (.cells l.toArray t)) (hn : zs.length = Nat.min sLen dLen)
    (hsrc : ∀ j, j < zs.length → w.cell? ⟨b, o' + j, none⟩ = some (.int k (zs.getD j 0))) (hfit : off + zs.length ≤ l.length) (hnew : l.take off ++ (zs.map (Value.int k) ++ l.drop (off + zs.length)) = new)
    (h : ∀ W, Put w g new.toArray t W → wpList P ops Q rest (a.put o.dst (.int .i64 zs.length)) W) : wpList P ops Q (o :: rest) a w := by
  subst hnew
  refine wpList_copy_own hgd d s dT sT ho elem hu hsz g off dLen dCap ⟨b, o', none⟩ sLen sCap hd hs l.toArray t hg (zs.map (Value.int k)) (by simpa using hn) ?_ (by simpa using hfit) ?_ ?_
  · intro j v hj
    have hj' : j < zs.length := by simpa using (List.getElem?_eq_some_iff.1 hj).1
    have hadd : (⟨b, o', none⟩ : Addr).add j = ⟨b, o' + j, none⟩ := by unfold Addr.add; split <;> simp_all
    rw [hadd, hsrc j hj', ← hj]
    simp [hj']
  · intro v hv
    obtain ⟨x, _, rfl⟩ := List.mem_map.1 hv
    rfl
  · have := h _ (put_setRow hg _)
    simpa [goInt] using this
def strV (q : List UInt8) : Value := .string ⟨q.toArray⟩
theorem split_any (c : UInt8) (t : List UInt8) (ht : t.length ≤ 1048576) (w : World) (hg : Gl w) :
    Calls Tryz.prog 16 #[.string ⟨t.toArray⟩, .string ⟨#[c]⟩] w fun e w' => e = .returned (.slice (some ⟨w.heap.size, 0, none⟩) (Lib.splitK [c] 0 (Lib.count t [c]) t).length (Lib.splitK [c] 0 (Lib.count t [c]) t).length) ∧ w' = w.alloc (.cells ((Lib.splitK [c] 0 (Lib.count t [c]) t).map strV).toArray 9) := by
  obtain ⟨m, hm⟩ := hg.mx
  have hsz : (ByteArray.mk t.toArray).size ≤ 1048576 := by show t.toArray.size ≤ _; simpa using ht
  have h1 : (ByteArray.mk #[c]).size = 1 := rfl
  refine (strings_Split ⟨t.toArray⟩ ⟨#[c]⟩ m w (by omega) hm (by rw [h1]; decide)).mono ?_
  rintro e w' ⟨rfl, rfl⟩
  have hc : Lib.countB ⟨t.toArray⟩ ⟨#[c]⟩ = Lib.count t [c] := by simp [Lib.countB]
  have hl := Lib.splitB_all ⟨#[c]⟩ (by rw [h1]; decide) 0 _ ⟨t.toArray⟩ rfl
  have hd := Lib.splitB_data ⟨#[c]⟩ 0 (Lib.countB ⟨t.toArray⟩ ⟨#[c]⟩) ⟨t.toArray⟩
  have hd2 : (Lib.splitB ⟨#[c]⟩ 0 (Lib.countB ⟨t.toArray⟩ ⟨#[c]⟩) ⟨t.toArray⟩).map (·.data.toList) = Lib.splitK [c] 0 (Lib.count t [c]) t := by rw [hd, hc]
  have hlen : (Lib.splitK [c] 0 (Lib.count t [c]) t).length = Lib.countB ⟨t.toArray⟩ ⟨#[c]⟩ + 1 := by rw [← hd2, List.length_map, hl]
  rw [hlen, ← hd2, List.map_map]
  refine ⟨rfl, ?_⟩
  congr 4
theorem strs_at {w : World} {b : Nat} {qs : List (List UInt8)} {t : TypeId} (h : w.heap[b]? = some (.cells (qs.map strV).toArray t)) (i : Nat) (q : List UInt8) (hq : qs[i]? = some q) : w.cell? ⟨b, i, none⟩ = some (.string ⟨q.toArray⟩) := by
  rw [cell_of_row _ _ _ _ _ _ h]
  simp [hq, strV]
theorem builtSb (v : Bool) (p : Int) : Tryz.prog.built 50 [(0, .bool v), (2, .int .u16 p)] = some (SrcL v (zeroL 16) p).toArray := by kernel_rfl
theorem SrcL_copy (v : Bool) (p : Int) (l : List Int) (n : Nat) (hl : l.length = n) (hn : n ≤ 16) : (SrcL v (zeroL 16) p).take 1 ++ (l.map (Value.int .u8) ++ (SrcL v (zeroL 16) p).drop (1 + l.length)) = SrcL v (fitN 16 l) p := by
  subst hl
  have e1 : fitN 16 l = l ++ zeroL (16 - l.length) := by
    rw [fitN, List.take_append, List.take_of_length_le hn, List.take_replicate, zeroL, show min (16 - l.length) 16 = 16 - l.length by omega]
  have e2 : (SrcL v (zeroL 16) p).drop (1 + l.length) = (zeroL (16 - l.length)).map (Value.int .u8) ++ [.int .u16 p] := by
    rw [SrcL, Nat.add_comm 1, List.drop_succ_cons, List.drop_append, List.length_map, zeroL, List.length_replicate, show l.length - 16 = 0 by omega, List.drop_zero, ← List.map_drop, List.drop_replicate]
    rfl
  rw [e1, e2]
  simp [SrcL]
theorem src_size {p0 p1 p2 w a : List Int} (h : cutB 58 w = [p0, p1, p2]) (h1 : pairsM p1 = some a) {z : Int} (h0 : p0 = [z]) (hs : a.length ≠ (if z = 54 then 16 else 4)) : srcM w = none := by
  subst h0
  rw [srcM_is h, h1]
  cases numM p2 with
  | none => rfl
  | some p =>
    simp only []
    split
    · split
      · rename_i hx
        have : z = 54 := by simpa using hx.1
        rw [if_pos this] at hs
        exact absurd hx.2 hs
      · split
        · rename_i hx
          have : z = 52 := by simpa using hx.1
          rw [if_neg (by omega)] at hs
          exact absurd hx.2 hs
        · rfl
    · rfl
theorem src_first {p0 p1 p2 w : List Int} (h : cutB 58 w = [p0, p1, p2]) (h4 : p0 ≠ [52]) (h6 : p0 ≠ [54]) : srcM w = none := by
  rw [srcM_is h]
  cases pairsM p1 with
  | none => rfl
  | some a => cases numM p2 with
    | none => rfl
    | some p =>
      simp only []
      split
      · rw [if_neg (fun hx => h6 hx.1), if_neg (fun hx => h4 hx.1)]
      · rfl
set_option maxRecDepth 10000 in
set_option maxHeartbeats 4000000 in
theorem sourceOf_any (s : List UInt8) (hs : s.length ≤ 1048576) (w : World) (hg : Gl w) :
    Calls Tryz.prog 51 #[.string ⟨s.toArray⟩] w fun e w' => Below w.heap.size w w' ∧ ∃ sv ok, e = .returned (.tuple #[.agg (srL sv).toArray, .bool ok]) ∧ ((ok = true ∧ srcM (ub s) = some sv) ∨ (ok = false ∧ srcM (ub s) = none)) := by
  have F0 : Hid _ := (Rn.start w).alloc (srL Sv.zero).toArray 50
  have hzv := zeroSv
  have iz : Hid _ := infoSv
  have az : Hid _ := srL_all
  have HLEN : Hid _ := cutB_mem 58 (ub s)
  have HG : Hid _ := hg.later F0.out.bel
  have HCU : Hid (cutB 58 (ub s) = (Lib.splitK [58] 0 (Lib.count s [58]) s).map ub) := (split_cut 58 s.length s (Nat.le_refl _)).symm
  clear hg
  go_enter Tryz.func51, Tryz.ntmps51
  go_wp2_with fail
  refine (split_any 58 s hs _ HG.out).mono ?_
  rintro e W1 ⟨rfl, eW⟩
  generalize Lib.splitK [58] 0 (Lib.count s [58]) s = qs at *
  have F1 : Hid (Rn w [((w.alloc (.cells (srL Sv.zero).toArray 50)).heap.size, (qs.map strV).toArray, 9), (w.heap.size, (srL Sv.zero).toArray, 50)] W1) := by rw [eW]; exact F0.out.alloc (qs.map strV).toArray 9
  have HG1 : Hid (Gl W1) := by rw [eW]; exact HG.out.later ((Below.refl _ _).alloc (Nat.le_refl _) _)
  obtain ⟨b4, eb4⟩ : ∃ b, (w.alloc (.cells (srL Sv.zero).toArray 50)).heap.size = b := ⟨_, rfl⟩
  rw [eb4] at F1 ⊢
  clear eb4 eW F0 HG
  by_cases h3 : qs.length = 3
  · obtain ⟨q0, q1, q2, rfl⟩ : ∃ q0 q1 q2, qs = [q0, q1, q2] := by
      rcases qs with _ | ⟨q0, _ | ⟨q1, _ | ⟨q2, _ | ⟨q3, r⟩⟩⟩⟩ <;> simp at h3
      exact ⟨_, _, _, rfl⟩
    have HQ : Hid (cutB 58 (ub s) = [ub q0, ub q1, ub q2]) := HCU.out
    have k0 : W1.cell? ⟨b4, 0, none⟩ = some (.string ⟨q0.toArray⟩) := strs_at (F1.out.at (.head _)) 0 q0 rfl
    have k1 : W1.cell? ⟨b4, 1, none⟩ = some (.string ⟨q1.toArray⟩) := strs_at (F1.out.at (.head _)) 1 q1 rfl
    rw [HQ.out] at HLEN
    have l1 := HLEN.out (ub q1) (by simp)
    have l2 := HLEN.out (ub q2) (by simp)
    rw [ub_length, ub_length] at l1 l2
    obtain ⟨m1, hm1⟩ : ∃ m, q1.length = m := ⟨_, rfl⟩
    obtain ⟨m2, hm2⟩ : ∃ m, q2.length = m := ⟨_, rfl⟩
    simp only [List.length_cons, List.length_nil]
    clear HCU HLEN h3
    by_cases g0 : q0 = [52]
    · have e52 : (q0 == [52]) = true := by rw [g0]; rfl
      have HQ0 : Hid (ub q0 = [52]) := by show _ = _; rw [g0]; rfl
      clear g0
      go_wp2_with fail
      refine (bytesOfHex_any q1 m1 hm1 (by omega) _).mono ?_
      rintro e W2 ⟨hb2, hpr⟩
      have F2 : Hid _ := F1.out.later hb2 (Nat.le_refl _)
      have HG2 : Hid _ := HG1.out.later hb2
      have cc2 : W2.cell? ⟨b4, 2, none⟩ = some (.string ⟨q2.toArray⟩) := strs_at (F2.out.at (.head _)) 2 q2 rfl
      clear hb2 F1 k0 k1 HG1
      rcases hpr with ⟨p, x, hp, rfl, hown⟩ | ⟨hp, rfl⟩
      · obtain ⟨gp, cp, rfl, hbg, _⟩ := hown.sl
        have HPP : Hid _ := hp
        have HO : Hid (OwnM W1.heap.size W2 (.slice (some ⟨gp, 0, none⟩) p.length cp) p) := hown
        obtain ⟨np, hpl⟩ : ∃ np, p.length = np := ⟨_, rfl⟩
        rw [hpl] at HO ⊢
        clear hp hown
        by_cases hsz : np = 4
        · subst hsz
          go_wp2_with fail
          refine (numberOf_any q2 (by omega) _ HG2.out).mono ?_
          rintro e W3 ⟨hb3, hnr⟩
          have F3 : Hid _ := F2.out.later hb3 (Nat.le_refl _)
          have HO3 : Hid (OwnM W1.heap.size W3 (.slice (some ⟨gp, 0, none⟩) 4 cp) p) := HO.out.later hb3
          clear hb3 F2 HO cc2 HG2
          rcases hnr with ⟨v, hv, rfl⟩ | ⟨hv, rfl⟩
          · have HSS : Hid _ := src_some HQ.out HPP.out hv
            clear hv
            by_cases hr : 0 ≤ v ∧ v ≤ 65535
            · obtain ⟨r1, r2⟩ := hr
              have q3 : ((65535 : Int) < v) = False := by simp; omega
              have q4 : (v < 0) = False := by simp; omega
              have hwv : IntKind.u16.wrap v = v := by rw [IntKind.wrap_u16]; omega
              obtain ⟨sv, esv⟩ : ∃ sv : Sv, sv = ⟨false, zeroL 16, v, by simp [zeroL], ⟨r1, r2⟩⟩ := ⟨_, rfl⟩
              obtain ⟨sw, esw⟩ : ∃ sv : Sv, sv = ⟨false, fitN 16 p, v, fitN_length _ _, ⟨r1, r2⟩⟩ := ⟨_, rfl⟩
              have HM : Hid (srcM (ub s) = some sw) := by
                show _ = _
                rw [HSS.out, dif_pos ⟨r1, r2⟩, HQ0.out, hpl]
                simp [esw]
              have BS : Hid (Tryz.prog.built 50 [(0, .bool false), (2, .int .u16 v)] = some (srL sv).toArray) := by show _ = _; rw [builtSb, esv]; rfl
              have F5 : Hid _ := F3.out.alloc (srL Sv.zero).toArray 50
              have z5 : Hid ((W3.alloc (.cells (srL Sv.zero).toArray 50)).heap[W3.heap.size]? = some (.cells (srL Sv.zero).toArray 50)) := heap_alloc_new _ _
              have hcp : Hid _ := SrcL_copy false v p 4 hpl (by omega)
              have hcp2 : Hid ((srL sv).take 1 ++ (p.map (Value.int .u8) ++ (srL sv).drop (1 + p.length)) = srL sw) := by show _ = _; rw [esv, esw]; exact hcp.out
              have HNP : Hid (4 ≤ 16) := by show _ ≤ _; omega
              clear esv esw hcp HSS
              go_wp2_with (first | (with_reducible refine aBd ?_; refine wpBuildP rfl _ _ rfl _ _ (by kernel_rfl) BS.out ?_) | (with_reducible refine aSt ?_; refine wpList_put_row rfl 50 _ _ rfl W3.heap.size (srL sv).toArray rfl rfl _ _ z5.out (iz.out _) ?hs (az.out _) ?_))
              case hs => simp [srL_len]
              intro W6 hP6
              have F6 : Hid _ := F5.out.put hP6
              have HO6 : Hid (OwnM W1.heap.size W6 (.slice (some ⟨gp, 0, none⟩) 4 cp) p) := by
                have h1 := HO3.out.later ((Below.refl W3.heap.size W3).alloc (Nat.le_refl _) (.cells (srL Sv.zero).toArray 50))
                exact h1.put hP6 (fun e => by have := own_eq e; have := (HO3.out.lt gp rfl).2; omega)
              have HSRC : Hid (∀ j, j < p.length → W6.cell? ⟨gp, 0 + j, none⟩ = some (.int .u8 (p.getD j 0))) := by
                intro j hj
                obtain ⟨b', o', e', _, h'⟩ := HO6.out.rdb j hj
                cases e'
                exact h'
              have z6 : Hid (W6.heap[W3.heap.size]? = some (.cells (srL sv).toArray 50)) := F6.out.at (.head _)
              have hfit : Hid (1 + p.length ≤ (srL sv).length) := by have := HNP.out; show _ ≤ _; rw [srL_len, hpl]; omega
              have hmin : Hid (p.length = Nat.min 4 16) := by have := HNP.out; show _ = _; rw [hpl]; show 4 = min 4 16; omega
              clear hP6 F5 z5 BS
              go_wp2_with (refine copy_val .u8 rfl (.tmp 64) (.tmp 65) 22 22 rfl 5 Tryz.underlying22 infoU1 W3.heap.size 1 16 16 gp 0 4 cp rfl rfl (srL sv) p (srL sw) 50 z6.out hmin.out HSRC.out hfit.out hcp2.out ?_)
              intro W7 hP7
              have F7 : Hid _ := F6.out.put hP7
              have z7 : Hid (W7.heap[W3.heap.size]? = some (.cells (srL sw).toArray 50)) := F7.out.at (.head _)
              have z2 : Hid (W7.heap[w.heap.size]? = some (.cells (srL Sv.zero).toArray 50)) := F7.out.at (.tail _ (.tail _ (.head _)))
              clear F6 hP7 z6 hcp2 HSRC HO6
              go_wp2_with (first
                | (with_reducible refine aLd ?_; refine wpList_load_row rfl 50 _ rfl W3.heap.size rfl _ (srL sw).toArray _ _ z7.out Tryz.underlying50 rfl (iz.out _) ?_)
                | (with_reducible refine aSt ?_; refine wpList_put_row rfl 50 _ _ rfl w.heap.size (srL sw).toArray rfl rfl _ _ z2.out (iz.out _) ?hs (az.out _) ?_))
              case hs => simp [srL_len]
              intro W9 hP9
              have F9 : Hid _ := F7.out.put2 hP9
              go_wp2
              exact bodyPost_ret (resRowTmp rfl _ _ w.heap.size _ _ _ _ rfl rfl (F9.out.at (.tail _ (.tail _ (.head _)))) Tryz.underlying50 rfl (infoSv _)) rfl ⟨F9.out.bel, _, _, rfl, .inl ⟨rfl, HM.out⟩⟩
            · have HM : Hid (srcM (ub s) = none) := by
                show _ = _
                rw [HSS.out, dif_neg hr]
              by_cases r1 : v < 0
              · have q4 : (v < 0) = True := by simp; omega
                have z9 : Hid (W3.heap[w.heap.size]? = some (.cells (srL Sv.zero).toArray 50)) := F3.out.at (.tail _ (.head _))
                go_wp2_with (first | (with_reducible refine aBd ?_; refine wpBuildP rfl _ _ rfl _ _ rfl built0Sv ?_) | (with_reducible refine aSt ?_; refine wpList_put_row rfl 50 _ _ rfl w.heap.size (srL Sv.zero).toArray rfl rfl _ _ z9.out (iz.out _) rfl (az.out _) ?_))
                intro W9 hP9
                have F9 : Hid _ := F3.out.put1 hP9
                go_wp2
                exact bodyPost_ret (resRowTmp rfl _ _ w.heap.size _ _ _ _ rfl rfl (F9.out.at (.tail _ (.head _))) Tryz.underlying50 rfl (infoSv _)) rfl ⟨F9.out.bel, _, _, rfl, .inr ⟨rfl, HM.out⟩⟩
              · have q4 : (v < 0) = False := by simp; omega
                have q3 : ((65535 : Int) < v) = True := by simp; omega
                have z9 : Hid (W3.heap[w.heap.size]? = some (.cells (srL Sv.zero).toArray 50)) := F3.out.at (.tail _ (.head _))
                go_wp2_with (first | (with_reducible refine aBd ?_; refine wpBuildP rfl _ _ rfl _ _ rfl built0Sv ?_) | (with_reducible refine aSt ?_; refine wpList_put_row rfl 50 _ _ rfl w.heap.size (srL Sv.zero).toArray rfl rfl _ _ z9.out (iz.out _) rfl (az.out _) ?_))
                intro W9 hP9
                have F9 : Hid _ := F3.out.put1 hP9
                go_wp2
                exact bodyPost_ret (resRowTmp rfl _ _ w.heap.size _ _ _ _ rfl rfl (F9.out.at (.tail _ (.head _))) Tryz.underlying50 rfl (infoSv _)) rfl ⟨F9.out.bel, _, _, rfl, .inr ⟨rfl, HM.out⟩⟩
          · have HM : Hid _ := num_fail HQ.out hv
            clear hv
            have z9 : Hid (W3.heap[w.heap.size]? = some (.cells (srL Sv.zero).toArray 50)) := F3.out.at (.tail _ (.head _))
            go_wp2_with (first | (with_reducible refine aBd ?_; refine wpBuildP rfl _ _ rfl _ _ rfl built0Sv ?_) | (with_reducible refine aSt ?_; refine wpList_put_row rfl 50 _ _ rfl w.heap.size (srL Sv.zero).toArray rfl rfl _ _ z9.out (iz.out _) rfl (az.out _) ?_))
            intro W9 hP9
            have F9 : Hid _ := F3.out.put1 hP9
            go_wp2
            exact bodyPost_ret (resRowTmp rfl _ _ w.heap.size _ _ _ _ rfl rfl (F9.out.at (.tail _ (.head _))) Tryz.underlying50 rfl (infoSv _)) rfl ⟨F9.out.bel, _, _, rfl, .inr ⟨rfl, HM.out⟩⟩
        · have e16 : ((np : Int) != 4) = true := by simp; omega
          have HM : Hid (srcM (ub s) = none) := src_size HQ.out HPP.out HQ0.out (by rw [hpl]; exact hsz)
          have z9 : Hid (W2.heap[w.heap.size]? = some (.cells (srL Sv.zero).toArray 50)) := F2.out.at (.tail _ (.head _))
          go_wp2_with (first | (with_reducible refine aBd ?_; refine wpBuildP rfl _ _ rfl _ _ rfl built0Sv ?_) | (with_reducible refine aSt ?_; refine wpList_put_row rfl 50 _ _ rfl w.heap.size (srL Sv.zero).toArray rfl rfl _ _ z9.out (iz.out _) rfl (az.out _) ?_))
          intro W9 hP9
          have F9 : Hid _ := F2.out.put1 hP9
          go_wp2
          exact bodyPost_ret (resRowTmp rfl _ _ w.heap.size _ _ _ _ rfl rfl (F9.out.at (.tail _ (.head _))) Tryz.underlying50 rfl (infoSv _)) rfl ⟨F9.out.bel, _, _, rfl, .inr ⟨rfl, HM.out⟩⟩
      · have HM : Hid _ := pairs_fail HQ.out hp
        clear hp
        have z9 : Hid (W2.heap[w.heap.size]? = some (.cells (srL Sv.zero).toArray 50)) := F2.out.at (.tail _ (.head _))
        go_wp2_with (first | (with_reducible refine aBd ?_; refine wpBuildP rfl _ _ rfl _ _ rfl built0Sv ?_) | (with_reducible refine aSt ?_; refine wpList_put_row rfl 50 _ _ rfl w.heap.size (srL Sv.zero).toArray rfl rfl _ _ z9.out (iz.out _) rfl (az.out _) ?_))
        intro W9 hP9
        have F9 : Hid _ := F2.out.put1 hP9
        go_wp2
        exact bodyPost_ret (resRowTmp rfl _ _ w.heap.size _ _ _ _ rfl rfl (F9.out.at (.tail _ (.head _))) Tryz.underlying50 rfl (infoSv _)) rfl ⟨F9.out.bel, _, _, rfl, .inr ⟨rfl, HM.out⟩⟩
    · by_cases g6 : q0 = [54]
      · have e52 : (q0 == [52]) = false := by simpa using g0
        have e54 : (q0 == [54]) = true := by rw [g6]; rfl
        have HQ0 : Hid (ub q0 = [54]) := by show _ = _; rw [g6]; rfl
        clear g0 g6
        go_wp2_with fail
        refine (bytesOfHex_any q1 m1 hm1 (by omega) _).mono ?_
        rintro e W2 ⟨hb2, hpr⟩
        have F2 : Hid _ := F1.out.later hb2 (Nat.le_refl _)
        have HG2 : Hid _ := HG1.out.later hb2
        have cc2 : W2.cell? ⟨b4, 2, none⟩ = some (.string ⟨q2.toArray⟩) := strs_at (F2.out.at (.head _)) 2 q2 rfl
        clear hb2 F1 k0 k1 HG1
        rcases hpr with ⟨p, x, hp, rfl, hown⟩ | ⟨hp, rfl⟩
        · obtain ⟨gp, cp, rfl, hbg, _⟩ := hown.sl
          have HPP : Hid _ := hp
          have HO : Hid (OwnM W1.heap.size W2 (.slice (some ⟨gp, 0, none⟩) p.length cp) p) := hown
          obtain ⟨np, hpl⟩ : ∃ np, p.length = np := ⟨_, rfl⟩
          rw [hpl] at HO ⊢
          clear hp hown
          by_cases hsz : np = 16
          · subst hsz
            go_wp2_with fail
            refine (numberOf_any q2 (by omega) _ HG2.out).mono ?_
            rintro e W3 ⟨hb3, hnr⟩
            have F3 : Hid _ := F2.out.later hb3 (Nat.le_refl _)
            have HO3 : Hid (OwnM W1.heap.size W3 (.slice (some ⟨gp, 0, none⟩) 16 cp) p) := HO.out.later hb3
            clear hb3 F2 HO cc2 HG2
            rcases hnr with ⟨v, hv, rfl⟩ | ⟨hv, rfl⟩
            · have HSS : Hid _ := src_some HQ.out HPP.out hv
              clear hv
              by_cases hr : 0 ≤ v ∧ v ≤ 65535
              · obtain ⟨r1, r2⟩ := hr
                have q3 : ((65535 : Int) < v) = False := by simp; omega
                have q4 : (v < 0) = False := by simp; omega
                have hwv : IntKind.u16.wrap v = v := by rw [IntKind.wrap_u16]; omega
                obtain ⟨sv, esv⟩ : ∃ sv : Sv, sv = ⟨true, zeroL 16, v, by simp [zeroL], ⟨r1, r2⟩⟩ := ⟨_, rfl⟩
                obtain ⟨sw, esw⟩ : ∃ sv : Sv, sv = ⟨true, fitN 16 p, v, fitN_length _ _, ⟨r1, r2⟩⟩ := ⟨_, rfl⟩
                have HM : Hid (srcM (ub s) = some sw) := by
                  show _ = _
                  rw [HSS.out, dif_pos ⟨r1, r2⟩, HQ0.out, hpl]
                  simp [esw]
                have BS : Hid (Tryz.prog.built 50 [(0, .bool true), (2, .int .u16 v)] = some (srL sv).toArray) := by show _ = _; rw [builtSb, esv]; rfl
                have F5 : Hid _ := F3.out.alloc (srL Sv.zero).toArray 50
                have z5 : Hid ((W3.alloc (.cells (srL Sv.zero).toArray 50)).heap[W3.heap.size]? = some (.cells (srL Sv.zero).toArray 50)) := heap_alloc_new _ _
                have hcp : Hid _ := SrcL_copy true v p 16 hpl (by omega)
                have hcp2 : Hid ((srL sv).take 1 ++ (p.map (Value.int .u8) ++ (srL sv).drop (1 + p.length)) = srL sw) := by show _ = _; rw [esv, esw]; exact hcp.out
                have HNP : Hid (16 ≤ 16) := by show _ ≤ _; omega
                clear esv esw hcp HSS
                go_wp2_with (first | (with_reducible refine aBd ?_; refine wpBuildP rfl _ _ rfl _ _ (by kernel_rfl) BS.out ?_) | (with_reducible refine aSt ?_; refine wpList_put_row rfl 50 _ _ rfl W3.heap.size (srL sv).toArray rfl rfl _ _ z5.out (iz.out _) ?hs (az.out _) ?_))
                case hs => simp [srL_len]
                intro W6 hP6
                have F6 : Hid _ := F5.out.put hP6
                have HO6 : Hid (OwnM W1.heap.size W6 (.slice (some ⟨gp, 0, none⟩) 16 cp) p) := by
                  have h1 := HO3.out.later ((Below.refl W3.heap.size W3).alloc (Nat.le_refl _) (.cells (srL Sv.zero).toArray 50))
                  exact h1.put hP6 (fun e => by have := own_eq e; have := (HO3.out.lt gp rfl).2; omega)
                have HSRC : Hid (∀ j, j < p.length → W6.cell? ⟨gp, 0 + j, none⟩ = some (.int .u8 (p.getD j 0))) := by
                  intro j hj
                  obtain ⟨b', o', e', _, h'⟩ := HO6.out.rdb j hj
                  cases e'
                  exact h'
                have z6 : Hid (W6.heap[W3.heap.size]? = some (.cells (srL sv).toArray 50)) := F6.out.at (.head _)
                have hfit : Hid (1 + p.length ≤ (srL sv).length) := by have := HNP.out; show _ ≤ _; rw [srL_len, hpl]; omega
                have hmin : Hid (p.length = Nat.min 16 16) := by have := HNP.out; show _ = _; rw [hpl]; show 16 = min 16 16; omega
                clear hP6 F5 z5 BS
                go_wp2_with (refine copy_val .u8 rfl (.tmp 64) (.tmp 65) 22 22 rfl 5 Tryz.underlying22 infoU1 W3.heap.size 1 16 16 gp 0 16 cp rfl rfl (srL sv) p (srL sw) 50 z6.out hmin.out HSRC.out hfit.out hcp2.out ?_)
                intro W7 hP7
                have F7 : Hid _ := F6.out.put hP7
                have z7 : Hid (W7.heap[W3.heap.size]? = some (.cells (srL sw).toArray 50)) := F7.out.at (.head _)
                have z2 : Hid (W7.heap[w.heap.size]? = some (.cells (srL Sv.zero).toArray 50)) := F7.out.at (.tail _ (.tail _ (.head _)))
                clear F6 hP7 z6 hcp2 HSRC HO6
                go_wp2_with (first
                  | (with_reducible refine aLd ?_; refine wpList_load_row rfl 50 _ rfl W3.heap.size rfl _ (srL sw).toArray _ _ z7.out Tryz.underlying50 rfl (iz.out _) ?_)
                  | (with_reducible refine aSt ?_; refine wpList_put_row rfl 50 _ _ rfl w.heap.size (srL sw).toArray rfl rfl _ _ z2.out (iz.out _) ?hs (az.out _) ?_))
                case hs => simp [srL_len]
                intro W9 hP9
                have F9 : Hid _ := F7.out.put2 hP9
                go_wp2
                exact bodyPost_ret (resRowTmp rfl _ _ w.heap.size _ _ _ _ rfl rfl (F9.out.at (.tail _ (.tail _ (.head _)))) Tryz.underlying50 rfl (infoSv _)) rfl ⟨F9.out.bel, _, _, rfl, .inl ⟨rfl, HM.out⟩⟩
              · have HM : Hid (srcM (ub s) = none) := by
                  show _ = _
                  rw [HSS.out, dif_neg hr]
                by_cases r1 : v < 0
                · have q4 : (v < 0) = True := by simp; omega
                  have z9 : Hid (W3.heap[w.heap.size]? = some (.cells (srL Sv.zero).toArray 50)) := F3.out.at (.tail _ (.head _))
                  go_wp2_with (first | (with_reducible refine aBd ?_; refine wpBuildP rfl _ _ rfl _ _ rfl built0Sv ?_) | (with_reducible refine aSt ?_; refine wpList_put_row rfl 50 _ _ rfl w.heap.size (srL Sv.zero).toArray rfl rfl _ _ z9.out (iz.out _) rfl (az.out _) ?_))
                  intro W9 hP9
                  have F9 : Hid _ := F3.out.put1 hP9
                  go_wp2
                  exact bodyPost_ret (resRowTmp rfl _ _ w.heap.size _ _ _ _ rfl rfl (F9.out.at (.tail _ (.head _))) Tryz.underlying50 rfl (infoSv _)) rfl ⟨F9.out.bel, _, _, rfl, .inr ⟨rfl, HM.out⟩⟩
                · have q4 : (v < 0) = False := by simp; omega
                  have q3 : ((65535 : Int) < v) = True := by simp; omega
                  have z9 : Hid (W3.heap[w.heap.size]? = some (.cells (srL Sv.zero).toArray 50)) := F3.out.at (.tail _ (.head _))
                  go_wp2_with (first | (with_reducible refine aBd ?_; refine wpBuildP rfl _ _ rfl _ _ rfl built0Sv ?_) | (with_reducible refine aSt ?_; refine wpList_put_row rfl 50 _ _ rfl w.heap.size (srL Sv.zero).toArray rfl rfl _ _ z9.out (iz.out _) rfl (az.out _) ?_))
                  intro W9 hP9
                  have F9 : Hid _ := F3.out.put1 hP9
                  go_wp2
                  exact bodyPost_ret (resRowTmp rfl _ _ w.heap.size _ _ _ _ rfl rfl (F9.out.at (.tail _ (.head _))) Tryz.underlying50 rfl (infoSv _)) rfl ⟨F9.out.bel, _, _, rfl, .inr ⟨rfl, HM.out⟩⟩
            · have HM : Hid _ := num_fail HQ.out hv
              clear hv
              have z9 : Hid (W3.heap[w.heap.size]? = some (.cells (srL Sv.zero).toArray 50)) := F3.out.at (.tail _ (.head _))
              go_wp2_with (first | (with_reducible refine aBd ?_; refine wpBuildP rfl _ _ rfl _ _ rfl built0Sv ?_) | (with_reducible refine aSt ?_; refine wpList_put_row rfl 50 _ _ rfl w.heap.size (srL Sv.zero).toArray rfl rfl _ _ z9.out (iz.out _) rfl (az.out _) ?_))
              intro W9 hP9
              have F9 : Hid _ := F3.out.put1 hP9
              go_wp2
              exact bodyPost_ret (resRowTmp rfl _ _ w.heap.size _ _ _ _ rfl rfl (F9.out.at (.tail _ (.head _))) Tryz.underlying50 rfl (infoSv _)) rfl ⟨F9.out.bel, _, _, rfl, .inr ⟨rfl, HM.out⟩⟩
          · have e16 : ((np : Int) != 16) = true := by simp; omega
            have HM : Hid (srcM (ub s) = none) := src_size HQ.out HPP.out HQ0.out (by rw [hpl]; exact hsz)
            have z9 : Hid (W2.heap[w.heap.size]? = some (.cells (srL Sv.zero).toArray 50)) := F2.out.at (.tail _ (.head _))
            go_wp2_with (first | (with_reducible refine aBd ?_; refine wpBuildP rfl _ _ rfl _ _ rfl built0Sv ?_) | (with_reducible refine aSt ?_; refine wpList_put_row rfl 50 _ _ rfl w.heap.size (srL Sv.zero).toArray rfl rfl _ _ z9.out (iz.out _) rfl (az.out _) ?_))
            intro W9 hP9
            have F9 : Hid _ := F2.out.put1 hP9
            go_wp2
            exact bodyPost_ret (resRowTmp rfl _ _ w.heap.size _ _ _ _ rfl rfl (F9.out.at (.tail _ (.head _))) Tryz.underlying50 rfl (infoSv _)) rfl ⟨F9.out.bel, _, _, rfl, .inr ⟨rfl, HM.out⟩⟩
        · have HM : Hid _ := pairs_fail HQ.out hp
          clear hp
          have z9 : Hid (W2.heap[w.heap.size]? = some (.cells (srL Sv.zero).toArray 50)) := F2.out.at (.tail _ (.head _))
          go_wp2_with (first | (with_reducible refine aBd ?_; refine wpBuildP rfl _ _ rfl _ _ rfl built0Sv ?_) | (with_reducible refine aSt ?_; refine wpList_put_row rfl 50 _ _ rfl w.heap.size (srL Sv.zero).toArray rfl rfl _ _ z9.out (iz.out _) rfl (az.out _) ?_))
          intro W9 hP9
          have F9 : Hid _ := F2.out.put1 hP9
          go_wp2
          exact bodyPost_ret (resRowTmp rfl _ _ w.heap.size _ _ _ _ rfl rfl (F9.out.at (.tail _ (.head _))) Tryz.underlying50 rfl (infoSv _)) rfl ⟨F9.out.bel, _, _, rfl, .inr ⟨rfl, HM.out⟩⟩
      · have e52 : (q0 == [52]) = false := by simpa using g0
        have e54 : (q0 == [54]) = false := by simpa using g6
        have HM : Hid (srcM (ub s) = none) := src_first HQ.out (fun h => g0 (ub_inj (b := [52]) h)) (fun h => g6 (ub_inj (b := [54]) h))
        clear g0 g6
        have z9 : Hid (W1.heap[w.heap.size]? = some (.cells (srL Sv.zero).toArray 50)) := F1.out.at (.tail _ (.head _))
        go_wp2_with (first | (with_reducible refine aBd ?_; refine wpBuildP rfl _ _ rfl _ _ rfl built0Sv ?_) | (with_reducible refine aSt ?_; refine wpList_put_row rfl 50 _ _ rfl w.heap.size (srL Sv.zero).toArray rfl rfl _ _ z9.out (iz.out _) rfl (az.out _) ?_))
        intro W9 hP9
        have F9 : Hid _ := F1.out.put1 hP9
        go_wp2
        exact bodyPost_ret (resRowTmp rfl _ _ w.heap.size _ _ _ _ rfl rfl (F9.out.at (.tail _ (.head _))) Tryz.underlying50 rfl (infoSv _)) rfl ⟨F9.out.bel, _, _, rfl, .inr ⟨rfl, HM.out⟩⟩
  · have HM : Hid _ := srcM_len (w := ub s) (by rw [HCU.out, List.length_map]; exact h3)
    obtain ⟨m, hm⟩ : ∃ m, qs.length = m := ⟨_, rfl⟩
    rw [hm] at h3 ⊢
    have h4 : ((m : Int) != 3) = true := by simp; omega
    have z9 : Hid (W1.heap[w.heap.size]? = some (.cells (srL Sv.zero).toArray 50)) := F1.out.at (.tail _ (.head _))
    go_wp2_with (first | (with_reducible refine aBd ?_; refine wpBuildP rfl _ _ rfl _ _ rfl built0Sv ?_) | (with_reducible refine aSt ?_; refine wpList_put_row rfl 50 _ _ rfl w.heap.size (srL Sv.zero).toArray rfl rfl _ _ z9.out (iz.out _) rfl (az.out _) ?_))
    intro W9 hP9
    have F9 : Hid _ := F1.out.put1 hP9
    go_wp2
    exact bodyPost_ret (resRowTmp rfl _ _ w.heap.size _ _ _ _ rfl rfl (F9.out.at (.tail _ (.head _))) Tryz.underlying50 rfl (infoSv _)) rfl ⟨F9.out.bel, _, _, rfl, .inr ⟨rfl, HM.out⟩⟩
end Go.Proofs.YtijlicammbpeeaaGreatDoor
