/- The walk of FnWire. Written by mk_FW.py. -/
import Derived.Test.YtppelebolgkghaaDoorFW2
import Derived.Test.YtppelebolgkghaaDoorGd
import Derived.Test.YtppelebolgkghaaDoorTL0
namespace Go.Proofs.YtppelebolgkghaaDoor
open Go.RowKit
set_option linter.unusedVariables false
theorem conv_slW {P : Program} {w : World} {g o : Nat} {l : List Int} (h : Sl w g o l) (hb : Bytes l) (src dst e : TypeId) (cap : Nat)
    (hs : P.underlying src = some (.slice e)) (he : P.underlying e = some (.int .u8)) (hd : P.underlying dst = some .string) :
    (convert src dst (.slice (some ⟨g, o, none⟩) l.length cap)).run P w = .ok (.string ⟨(Lib.bytesOf l).toArray⟩) w := by
  have := run_convert_bytes_back (P := P) w src dst e ⟨g, o, none⟩ cap (Lib.bytesOf l) hs he hd (by
    intro j hj
    have hj' : j < l.length := by simpa [Lib.bytesOf] using hj
    have hl := hb j
    have hadd : (⟨g, o, none⟩ : Addr).add j = ⟨g, o + j, none⟩ := by unfold Addr.add; split <;> simp_all
    rw [hadd, h.2 j hj']
    simp only [List.getD_eq_getElem?_getD, List.getElem?_eq_getElem hj', Option.getD_some] at hl ⊢
    simp [Lib.bytesOf]
    omega)
  simpa [Lib.bytesOf] using this
theorem run_convW {P : Program} {o : Oper} {ρ : Operand → Value} (t u : TypeId) (x : Operand) (ho : o.op = .convert t u x) (v : Value) (hx : ρ x = v) (r : Value) (w : World) (h : (convert t u v).run P w = .ok r w) : (execOp ρ o).run P w = .ok (.value r) w := by
  unfold execOp
  simp only [ho, hx, Sem.run_bind, h, Result.andThen_ok, Sem.run_pure]
theorem run_neqW {P : Program} {o : Oper} {ρ : Operand → Value} (t : TypeId) (x y : Operand) (u : TypeId) (ho : o.op = .binOp .neq t x y u) (S : ByteArray) (hx : ρ x = .string S) (hy : ρ y = .string S) (w : World) : (execOp ρ o).run P w = .ok (.value (.bool false)) w := by
  unfold execOp
  simp [ho, hx, hy, go_sem]
theorem Fd.above {w0 : World} {g : Nat} {ta : Option Addr} {zs : List Int} {c : Nat} {W W' : World} {b : Nat} {cs : Array Value} {t : TypeId} (h : Fd w0 g ta zs c [] W) (hP : Put W b cs t W') (hb : g < b) : Fd w0 g ta zs c [] W' :=
  have hle := h.le
  ⟨hP.below _ _ h.bel (by omega), h.le, h.drw.later (hP.below b W (Below.refl _ _) (Nat.le_refl _)) hb, fun r hr => (by cases hr)⟩
theorem guardIni : Tryd.prog.eqGuardType Tryd.prog.depth 31 = false := by kernel_rfl
set_option maxRecDepth 100000 in
set_option maxHeartbeats 16000000 in
theorem wire_walk (zs : List Int) (ta : Option Addr) (c : Nat) (hn2 : zs.length ≤ 1048576) (hzb : Bytes zs) (a : Addr) (w : World) (h0 : 0 < w.heap.size) (hv : w.cell? ⟨0, 0, none⟩ = some (.iface 89 (.pointer (some a))))
    (hcode : ∀ i, i < zs.length → ∃ b o, ta = some ⟨b, o, none⟩ ∧ b < w.heap.size ∧ w.cell? ⟨b, o + i, none⟩ = some (.int .u8 (zs.getD i 0))) :
    Calls Tryd.prog 3 #[.slice ta zs.length c] w fun e w' => e = .returned (.bool true) ∧ Below w.heap.size w w' := by
  have hni : ((1048576 : Int) < zs.length) = False := by simp; omega
  have HB : Hid (Bytes zs) := hzb
  have HV : Hid _ := hv
  have hzi := zeroIn
  have hzw := zeroW148
  have hzr := zeroWR
  have hz6 := zeroW64
  have hn9 : zs.length ≤ 2000000 := by omega
  have HC : Hid _ := hcode
  clear hv hcode hzb
  go_enter Tryd.func3, Tryd.ntmps3
  go_wp2_with fail
  refine (draw_any ta zs c w hn9 HC.out).mono ?_
  rintro e9 w1 ⟨g, rfl, hg, hD, hb⟩
  have F : Hid (Fd w g ta zs c [] w1) := ⟨hb, hg, hD, fun r hr => (by cases hr)⟩
  clear hb hD HC
  go_wp2_with fail
  refine (drawInit_any g ta zs c _ F.out.drw HB.out hn9).mono ?_
  rintro e9 w2 ⟨r, z, rfl, hz, hzb2, hr0, hr1, hD, hK⟩
  have F1 : Hid (Fd w g ta zs c [] w2) := F.out.keep hD hK
  clear F hD hK
  have F : Hid (Fd w g ta zs c [] w2) := F1.out
  clear F1
  have lz : Hid (z.length = 140) := hz
  have bz : Hid (Bytes z) := hzb2
  have hr : Hid (0 ≤ r ∧ r ≤ 4294967295) := ⟨hr0, hr1⟩
  clear hz hzb2 hr0 hr1
  have KA : Hid ((w2.alloc (.cells ((WL 0 (zeroL 140)).toArray) 31)).heap[w2.heap.size]? = some (.cells ((WL 0 (zeroL 140)).toArray) 31)) := heap_alloc_new _ _
  go_wp2_with (refine wpList_put_row rfl 31 _ _ rfl w2.heap.size ((WL r z).toArray) rfl rfl _ _ KA.out (infoIn lz.out) (zsIn lz.out) (WL_one _ _) (fun w3 hP => stop_here ?_))
  refine hid_mk ?_
  have hb : Below w2.heap.size w2 w3 := hP.below _ _ ((Below.refl _ _).alloc (Nat.le_refl _) _) (Nat.le_refl _)
  have F2 := F.out.newRow hP
  obtain ⟨bm, eb⟩ : ∃ x, x = w2.heap.size := ⟨_, rfl⟩
  rw [← eb] at F2 ⊢
  clear eb hP KA hb
  have F1 : Hid (Fd w g ta zs c [(bm, (WL r z).toArray, 31)] w3) := F2
  clear F F2
  have F : Hid (Fd w g ta zs c [(bm, (WL r z).toArray, 31)] w3) := F1.out
  clear F1
  have G0 : Hid _ := F.out.at List.mem_cons_self
  go_wp2_with (with_reducible refine wpList_id ?_; refine wpList_load_row rfl 31 _ rfl bm rfl _ ((WL r z).toArray) _ _ G0.out Tryd.underlying31 rfl (infoIn lz.out) ?_)
  clear G0
  refine Calls.mono (implWriteInitiation_any r z lz.out hr.out.1 _) ?_
  rintro e9 w4 ⟨rfl, hb⟩
  have F1 : Hid (Fd w g ta zs c [(bm, (WL r z).toArray, 31)] w4) := F.out.later hb (Nat.le_refl _)
  clear F hb
  have F : Hid (Fd w g ta zs c [(bm, (WL r z).toArray, 31)] w4) := F1.out
  clear F1
  have lb : Hid ((wireB 1 r z).length = 148) := by show _ = _; rw [wireB_length, lz.out]
  have bb9 : Hid (Bytes (wireB 1 r z)) := wireB_byt 1 r (by decide) z bz.out
  have isb : Hid (isWire (wireB 1 r z) 148 1 = true) := wire_is 1 r z 148 (by rw [lz.out])
  have eb1 : Hid (wordAt (partZ (wireB 1 r z) 4 4) 0 = r) := word_back r hr.out z 1
  have eb2 : Hid ((wireB 1 r z).drop 8 = z) := wire_drop 1 r z
  obtain ⟨b, eb⟩ : ∃ x, wireB 1 r z = x := ⟨_, rfl⟩
  rw [eb] at lb bb9 isb eb1 eb2 ⊢
  clear eb
  have KA : Hid ((w4.alloc (.cells (Iv .u8 (zeroL 148)) 33)).heap[w4.heap.size]? = some (.cells (Iv .u8 (zeroL 148)) 33)) := heap_alloc_new _ _
  go_wp2_with (refine wpList_put_row rfl 33 _ _ rfl w4.heap.size (Iv .u8 b) rfl rfl _ _ KA.out (infoW148 lb.out) (zsW148 lb.out) (Iv_one _ _) (fun w5 hP => stop_here ?_))
  refine hid_mk ?_
  have hb : Below w4.heap.size w4 w5 := hP.below _ _ ((Below.refl _ _).alloc (Nat.le_refl _) _) (Nat.le_refl _)
  have F2 := F.out.newRow hP
  obtain ⟨bb, eb⟩ : ∃ x, x = w4.heap.size := ⟨_, rfl⟩
  rw [← eb] at F2 ⊢
  clear eb hP KA hb
  have F1 : Hid (Fd w g ta zs c [(bb, Iv .u8 b, 33), (bm, (WL r z).toArray, 31)] w5) := F2
  clear F F2
  have F : Hid (Fd w g ta zs c [(bb, Iv .u8 b, 33), (bm, (WL r z).toArray, 31)] w5) := F1.out
  clear F1
  go_wp2_with fail
  refine (cp_sl b bb 0 148 148 lb.out (by decide) _ (Sl.of_row (F.out.at List.mem_cons_self))).mono ?_
  rintro e9 w6 ⟨x, rfl, ho, hb⟩
  obtain ⟨gc, cap, rfl, _, hS, hc1, hc2⟩ := ho.sl
  have HS : Hid (SlF _ gc b) := SlF.of_sl hS
  have hgc := hS.1
  clear ho hS
  have F1 : Hid (Fd w g ta zs c [(bb, Iv .u8 b, 33), (bm, (WL r z).toArray, 31)] w6) := F.out.later hb (Nat.le_refl _)
  clear F hb
  have F : Hid (Fd w g ta zs c [(bb, Iv .u8 b, 33), (bm, (WL r z).toArray, 31)] w6) := F1.out
  clear F1
  rw [lb.out] at hc1 ⊢
  have hsz := F.out.bel.size
  have hc9 : b.length ≤ cap := by rw [lb.out]; exact hc1
  have CP := implParseInitiation_yes gc b 5 a w6 isb.out bb9.out cap hc9 hc2 HS.out hgc (by omega) ((F.out.bel.cell h0).trans HV.out)
  rw [eb1.out, eb2.out] at CP
  have CPH : Hid _ := CP
  clear CP HS hc1 hc2 hc9 eb1 eb2 isb bb9
  go_wp2_with fail
  refine Calls.mono (CPH.out) ?_
  rintro e9 w7 ⟨rfl, hb⟩
  have F1 : Hid (Fd w g ta zs c [(bb, Iv .u8 b, 33), (bm, (WL r z).toArray, 31)] w7) := F.out.later hb (Nat.le_refl _)
  clear F hb
  have F : Hid (Fd w g ta zs c [(bb, Iv .u8 b, 33), (bm, (WL r z).toArray, 31)] w7) := F1.out
  clear F1
  clear CPH hgc hsz
  have KA : Hid ((w7.alloc (.cells ((WL 0 (zeroL 140)).toArray) 31)).heap[w7.heap.size]? = some (.cells ((WL 0 (zeroL 140)).toArray) 31)) := heap_alloc_new _ _
  go_wp2_with (refine wpList_put_row rfl 31 _ _ rfl w7.heap.size ((WL r z).toArray) rfl rfl _ _ KA.out (infoIn lz.out) (zsIn lz.out) (WL_one _ _) (fun w8 hP => stop_here ?_))
  refine hid_mk ?_
  have hb : Below w7.heap.size w7 w8 := hP.below _ _ ((Below.refl _ _).alloc (Nat.le_refl _) _) (Nat.le_refl _)
  have F2 := F.out.newRow hP
  obtain ⟨bk, eb⟩ : ∃ x, x = w7.heap.size := ⟨_, rfl⟩
  rw [← eb] at F2 ⊢
  clear eb hP KA hb
  have F1 : Hid (Fd w g ta zs c [(bk, (WL r z).toArray, 31), (bb, Iv .u8 b, 33), (bm, (WL r z).toArray, 31)] w8) := F2
  clear F F2
  have F : Hid (Fd w g ta zs c [(bk, (WL r z).toArray, 31), (bb, Iv .u8 b, 33), (bm, (WL r z).toArray, 31)] w8) := F1.out
  clear F1
  have G0 : Hid _ := F.out.at List.mem_cons_self
  have G1 : Hid _ := F.out.at (List.mem_cons_of_mem _ (List.mem_cons_of_mem _ List.mem_cons_self))
  have EQ : Hid (∀ w, _) := fun w => eqIni r hr.out z lz.out bz.out w
  go_wp2_with (with_reducible refine wpList_id ?_; first
    | refine wpList_load_row_w rfl bk rfl _ (WL r z).toArray _ _ G0.out Tryd.underlying31 rfl (infoIn lz.out) ?_
    | refine wpList_load_row_w rfl bm rfl _ (WL r z).toArray _ _ G1.out Tryd.underlying31 rfl (infoIn lz.out) ?_
    | refine wpList_neqs rfl (WL r z).toArray rfl rfl EQ.out guardIni ?_)
  clear G0 G1 EQ
  have F1 : Hid (Fd w g ta zs c [] w8) := F.out.none
  clear F
  have F : Hid (Fd w g ta zs c [] w8) := F1.out
  clear F1
  have hlt0 := F.out.lt
  have D0 : Draws (w8.alloc (.cells #[.int .u8 1, .int .u8 0, .int .u8 0, .int .u8 0] 5)) g ta zs c := F.out.drw.later ((Below.refl _ _).alloc (Nat.le_refl _) _) hlt0
  refine (drawBytes_N g ta zs c 144 _ D0 HB.out hn9 (by decide)).mono ?_
  rintro e9 w9 ⟨v, l, rfl, hl, hlb, ho, hne, hD, hK⟩
  clear D0
  obtain ⟨gb, cb, rfl, _, _, _, _, _⟩ := own_form ho hne
  have HN : Hid (∀ j, j < 144 → w9.cell? ⟨gb, 0 + j, none⟩ = some (.int .u8 (l.getD j 0))) := fun j hj => (Sl.of_own ho).2 j (by omega)
  rw [hl]
  have HL : Hid _ := hl
  have HLB : Hid (Bytes l) := hlb
  clear ho hne hlb
  have HO : Hid (Own .u8 5 w8.heap.size w9 (.slice (some ⟨w8.heap.size, 0, none⟩) 4 4) [1, 0, 0, 0]) := (Own.four w8 1 0 0 0 (Nat.le_refl _)).keeps hK hlt0
  have HSZ : Hid (w8.heap.size ≤ w9.heap.size) := by have h9 := hK.size; rw [World.size_alloc] at h9; show _ ≤ _; omega
  have HK : Hid _ := hK
  have HD : Hid _ := hD
  clear hK hD hl
  go_wp2_with (at_builtin; refine extend_law .u8 22 5 1 Tryd.underlying22 infoE8 (by decide) rfl (.tmp 43) (.tmp 45) rfl w8.heap.size w9 _ _ [1, 0, 0, 0] gb 0 144 cb l HL.out rfl rfl HO.out (Below.refl _ _) HSZ.out (by simp) HN.out ?_; intro v2 w10 hown2 hbel2 _ hd2; refine stop_here ?_)
  refine hid_mk ?_
  have hne2 : v2.ownBlock ≠ none := grown_ne (v := .slice (some ⟨w8.heap.size, 0, none⟩) 4 4) (by simp [Value.ownBlock]) hd2
  have F1 : Hid (Fd w g ta zs c [] w10) := F.out.app HK.out HD.out hbel2
  clear F HK HD hbel2
  have F : Hid (Fd w g ta zs c [] w10) := F1.out
  clear F1
  obtain ⟨g1, c1, rfl, hbg1, hcc1, hmc1, hlg1, _⟩ := own_form hown2 hne2
  have Ox1 := Own.mono hown2 (show g + 1 ≤ w8.heap.size by omega)
  clear hown2 hne2 hd2 HO HN HSZ
  have lx1 : Hid (([1, 0, 0, 0] ++ l).length = 148) := by show _ = _; rw [List.length_append, HL.out]; rfl
  have bx1 : Hid (Bytes ([1, 0, 0, 0] ++ l)) := bytes_append (head4_byt 1 (by decide)) HLB.out
  have ix1 : Hid (isWire ([1, 0, 0, 0] ++ l) 148 1 = true) := raw_is 1 l 148 (by rw [HL.out])
  have rx1 : Hid (0 ≤ wordAt (partZ ([1, 0, 0, 0] ++ l) 4 4) 0 ∧ wordAt (partZ ([1, 0, 0, 0] ++ l) 4 4) 0 ≤ 4294967295) := raw_word 1 l (by rw [HL.out]; decide) HLB.out
  have kx1 : Hid (wireB 1 (wordAt (partZ ([1, 0, 0, 0] ++ l) 4 4) 0) (([1, 0, 0, 0] ++ l).drop 8) = [1, 0, 0, 0] ++ l) := raw_back 1 l (by rw [HL.out]; decide) HLB.out
  have nx1 : Hid (∀ i, i < 4 → ∀ v, v ≠ ([1, 0, 0, 0] ++ l).getD i 0 → isWire (([1, 0, 0, 0] ++ l).set i v) 148 1 = false) := fun i hi v hv => changed_no 1 l 148 i hi v hv
  rw [lx1.out] at hcc1 Ox1 ⊢
  obtain ⟨x1, ex⟩ : ∃ y, [1, 0, 0, 0] ++ l = y := ⟨_, rfl⟩
  rw [ex] at lx1 bx1 ix1 rx1 kx1 nx1 Ox1
  clear ex HL HLB
  have XOx1 : Own .u8 5 (g + 1) w10 (.slice (some ⟨g1, 0, none⟩) 148 c1) x1 := Ox1
  clear Ox1
  have Ox1 : Hid (Own .u8 5 (g + 1) w10 (.slice (some ⟨g1, 0, none⟩) 148 c1) x1) := XOx1
  clear XOx1
  have zx1 : Hid (((x1).drop 8).length = 140) := by show _ = _; rw [List.length_drop, lx1.out]
  obtain ⟨qx1, eq⟩ : ∃ y, wordAt (partZ x1 4 4) 0 = y := ⟨_, rfl⟩
  obtain ⟨yx1, ey⟩ : ∃ y, (x1).drop 8 = y := ⟨_, rfl⟩
  rw [eq] at rx1 kx1
  rw [ey] at kx1 zx1
  have e1x1 : Hid _ := eq
  have e2x1 : Hid _ := ey
  clear eq ey
  go_wp2_with fail
  refine (cp_sl x1 g1 0 c1 148 lx1.out (by decide) _ (Sl.of_own Ox1.out)).mono ?_
  rintro e9 w11 ⟨xx, rfl, ho, hb⟩
  obtain ⟨gc, cap, rfl, _, hS, hc1, hc2⟩ := ho.sl
  have HS : Hid (SlF w11 gc x1) := SlF.of_sl hS
  have hgc := hS.1
  clear ho hS
  have XOx1 : Own .u8 5 (g + 1) w11 (.slice (some ⟨g1, 0, none⟩) 148 c1) x1 := Own.later Ox1.out hb
  clear Ox1
  have Ox1 : Hid (Own .u8 5 (g + 1) w11 (.slice (some ⟨g1, 0, none⟩) 148 c1) x1) := XOx1
  clear XOx1
  have F1 : Hid (Fd w g ta zs c [] w11) := F.out.later hb (Nat.le_refl _)
  clear F hb
  have F : Hid (Fd w g ta zs c [] w11) := F1.out
  clear F1
  rw [lx1.out] at hc1 ⊢
  have hsz := F.out.bel.size
  have hc9 : x1.length ≤ cap := by rw [lx1.out]; exact hc1
  have CP := implParseInitiation_yes gc x1 5 a w11 ix1.out bx1.out cap hc9 hc2 HS.out hgc (by omega) ((F.out.bel.cell h0).trans HV.out)
  rw [e1x1.out, e2x1.out] at CP
  have CPH : Hid _ := CP
  clear CP HS hc1 hc2 hc9
  go_wp2_with fail
  refine Calls.mono (CPH.out) ?_
  rintro e9 w12 ⟨rfl, hb⟩
  have XOx1 := Own.later Ox1.out hb
  clear Ox1
  have Ox1 : Hid (Own .u8 5 (g + 1) w12 (.slice (some ⟨g1, 0, none⟩) 148 c1) x1) := XOx1
  clear XOx1
  have F1 : Hid (Fd w g ta zs c [] w12) := F.out.later hb (Nat.le_refl _)
  clear F hb
  have F : Hid (Fd w g ta zs c [] w12) := F1.out
  clear F1
  clear CPH hgc hsz
  have KA : Hid ((w12.alloc (.cells ((WL 0 (zeroL 140)).toArray) 31)).heap[w12.heap.size]? = some (.cells ((WL 0 (zeroL 140)).toArray) 31)) := heap_alloc_new _ _
  go_wp2_with (refine wpList_put_row rfl 31 _ _ rfl w12.heap.size ((WL qx1 yx1).toArray) rfl rfl _ _ KA.out (infoIn zx1.out) (zsIn zx1.out) (WL_one _ _) (fun w13 hP => stop_here ?_))
  refine hid_mk ?_
  have hb : Below w12.heap.size w12 w13 := hP.below _ _ ((Below.refl _ _).alloc (Nat.le_refl _) _) (Nat.le_refl _)
  have XOx1 := Own.later Ox1.out hb
  clear Ox1
  have Ox1 : Hid (Own .u8 5 (g + 1) w13 (.slice (some ⟨g1, 0, none⟩) 148 c1) x1) := XOx1
  clear XOx1
  have F2 := F.out.newRow hP
  obtain ⟨bm2, eb⟩ : ∃ x, x = w12.heap.size := ⟨_, rfl⟩
  rw [← eb] at F2 ⊢
  clear eb hP KA hb
  have F1 : Hid (Fd w g ta zs c [(bm2, (WL qx1 yx1).toArray, 31)] w13) := F2
  clear F F2
  have F : Hid (Fd w g ta zs c [(bm2, (WL qx1 yx1).toArray, 31)] w13) := F1.out
  clear F1
  have G0 : Hid _ := F.out.at List.mem_cons_self
  go_wp2_with (with_reducible refine wpList_id ?_; refine wpList_load_row rfl 31 _ rfl bm2 rfl _ ((WL qx1 yx1).toArray) _ _ G0.out Tryd.underlying31 rfl (infoIn zx1.out) ?_)
  clear G0
  have CW := implWriteInitiation_any qx1 yx1 zx1.out rx1.out.1 w13
  rw [kx1.out] at CW
  have CWH : Hid _ := CW
  clear CW
  refine Calls.mono (CWH.out) ?_
  rintro e9 w14 ⟨rfl, hb⟩
  have XOx1 := Own.later Ox1.out hb
  clear Ox1
  have Ox1 : Hid (Own .u8 5 (g + 1) w14 (.slice (some ⟨g1, 0, none⟩) 148 c1) x1) := XOx1
  clear XOx1
  have F1 : Hid (Fd w g ta zs c [(bm2, (WL qx1 yx1).toArray, 31)] w14) := F.out.later hb (Nat.le_refl _)
  clear F hb
  have F : Hid (Fd w g ta zs c [(bm2, (WL qx1 yx1).toArray, 31)] w14) := F1.out
  clear F1
  clear CWH
  have KA : Hid ((w14.alloc (.cells (Iv .u8 (zeroL 148)) 33)).heap[w14.heap.size]? = some (.cells (Iv .u8 (zeroL 148)) 33)) := heap_alloc_new _ _
  go_wp2_with (refine wpList_put_row rfl 33 _ _ rfl w14.heap.size (Iv .u8 x1) rfl rfl _ _ KA.out (infoW148 lx1.out) (zsW148 lx1.out) (Iv_one _ _) (fun w15 hP => stop_here ?_))
  refine hid_mk ?_
  have hb : Below w14.heap.size w14 w15 := hP.below _ _ ((Below.refl _ _).alloc (Nat.le_refl _) _) (Nat.le_refl _)
  have XOx1 := Own.later Ox1.out hb
  clear Ox1
  have Ox1 : Hid (Own .u8 5 (g + 1) w15 (.slice (some ⟨g1, 0, none⟩) 148 c1) x1) := XOx1
  clear XOx1
  have F2 := F.out.newRow hP
  obtain ⟨bb2, eb⟩ : ∃ x, x = w14.heap.size := ⟨_, rfl⟩
  rw [← eb] at F2 ⊢
  clear eb hP KA hb
  have F1 : Hid (Fd w g ta zs c [(bb2, Iv .u8 x1, 33), (bm2, (WL qx1 yx1).toArray, 31)] w15) := F2
  clear F F2
  have F : Hid (Fd w g ta zs c [(bb2, Iv .u8 x1, 33), (bm2, (WL qx1 yx1).toArray, 31)] w15) := F1.out
  clear F1
  go_wp2_with fail
  refine wp_region_bel w15.heap.size w15 mixC (by kernel_rfl) (Below.refl _ _) ?_
  obtain ⟨TX, eTX⟩ : ∃ y : ByteArray, y = ⟨(Lib.bytesOf x1).toArray⟩ := ⟨_, rfl⟩
  have K0 : Hid (∀ w', Below w15.heap.size w15 w' → (convert 22 9 (.slice (some ⟨bb2, 0, none⟩) 148 148)).run Tryd.prog w' = .ok (.string TX) w') := fun w' hw' => by
    have h9 := conv_slW (P := Tryd.prog) (w := w') (Sl.of_row ((F.out.later hw' (Nat.le_refl _)).at List.mem_cons_self)) bx1.out 22 9 5 148 Tryd.underlying22 Tryd.underlying5 Tryd.underlying9
    rw [lx1.out, ← eTX] at h9
    exact h9
  have K1 : Hid (∀ w', Below w15.heap.size w15 w' → (convert 22 9 (.slice (some ⟨g1, 0, none⟩) 148 c1)).run Tryd.prog w' = .ok (.string TX) w') := fun w' hw' => by
    have h9 := conv_slW (P := Tryd.prog) (w := w') (Sl.of_own (Own.later Ox1.out hw')) bx1.out 22 9 5 c1 Tryd.underlying22 Tryd.underlying5 Tryd.underlying9
    rw [lx1.out, ← eTX] at h9
    exact h9
  clear eTX
  refine quietVal rfl (.bool true) (fun w' => by kernel_rfl) ?_
  simp only [Act.put, List.setIfInBounds_toArray, List.set_cons_succ, List.set_cons_zero]
  refine quietVal rfl (.bool false) (fun w' => by kernel_rfl) ?_
  simp only [Act.put, List.setIfInBounds_toArray, List.set_cons_succ, List.set_cons_zero]
  refine quietVal rfl (.bool false) (fun w' => by kernel_rfl) ?_
  simp only [Act.put, List.setIfInBounds_toArray, List.set_cons_succ, List.set_cons_zero]
  refine wpQuiet_want (by kernel_rfl) ?_
  refine quietVal rfl (.slice (some ⟨bb2, 0, none⟩) 148 148) (fun w' => by kernel_rfl) ?_
  simp only [Act.put, List.setIfInBounds_toArray, List.set_cons_succ, List.set_cons_zero]
  refine wpQuiet_want (by kernel_rfl) ?_
  refine quietIn rfl (.string TX) (fun w' hw' => by obtain ⟨y, rfl⟩ := hw'; exact run_convW 22 9 _ rfl (.slice (some ⟨bb2, 0, none⟩) 148 148) rfl _ _ (K0.out _ y.bel)) ?_
  simp only [Act.put, List.setIfInBounds_toArray, List.set_cons_succ, List.set_cons_zero]
  refine wpQuiet_want (by kernel_rfl) ?_
  refine quietVal rfl (.slice (some ⟨g1, 0, none⟩) 148 c1) (fun w' => by kernel_rfl) ?_
  simp only [Act.put, List.setIfInBounds_toArray, List.set_cons_succ, List.set_cons_zero]
  refine wpQuiet_want (by kernel_rfl) ?_
  refine quietIn rfl (.string TX) (fun w' hw' => by obtain ⟨y, rfl⟩ := hw'; exact run_convW 22 9 _ rfl (.slice (some ⟨g1, 0, none⟩) 148 c1) rfl _ _ (K1.out _ y.bel)) ?_
  simp only [Act.put, List.setIfInBounds_toArray, List.set_cons_succ, List.set_cons_zero]
  refine wpQuiet_want (by kernel_rfl) ?_
  refine quietIn rfl (.bool false) (fun w' hw' => run_neqW 9 _ _ _ rfl TX rfl rfl _) ?_
  simp only [Act.put, List.setIfInBounds_toArray, List.set_cons_succ, List.set_cons_zero]
  refine quietVal rfl (.bool false) (fun w' => by kernel_rfl) ?_
  simp only [Act.put, List.setIfInBounds_toArray, List.set_cons_succ, List.set_cons_zero]
  refine wpQuiet_nil ?_
  intro w16 hb
  clear K0 K1
  have XOx1 : Own .u8 5 (g + 1) w16 (.slice (some ⟨g1, 0, none⟩) 148 c1) x1 := Own.later Ox1.out hb
  clear Ox1
  have Ox1 : Hid (Own .u8 5 (g + 1) w16 (.slice (some ⟨g1, 0, none⟩) 148 c1) x1) := XOx1
  clear XOx1
  have F1 : Hid (Fd w g ta zs c [(bb2, Iv .u8 x1, 33), (bm2, (WL qx1 yx1).toArray, 31)] w16) := F.out.later hb (Nat.le_refl _)
  clear F hb
  have F : Hid (Fd w g ta zs c [(bb2, Iv .u8 x1, 33), (bm2, (WL qx1 yx1).toArray, 31)] w16) := F1.out
  clear F1
  have F1 : Hid (Fd w g ta zs c [] w16) := F.out.none
  clear F
  have F : Hid (Fd w g ta zs c [] w16) := F1.out
  clear F1
  go_wp2_with fail
  have hqOx1 := (Own.lt Ox1.out _ rfl).2
  have hlt0 := F.out.lt
  have D0 : Draws (w16.alloc (.cells #[.int .u8 3, .int .u8 0, .int .u8 0, .int .u8 0] 5)) g ta zs c := F.out.drw.later ((Below.refl _ _).alloc (Nat.le_refl _) _) hlt0
  refine (drawBytes_N g ta zs c 60 _ D0 HB.out hn9 (by decide)).mono ?_
  rintro e9 w17 ⟨v, l, rfl, hl, hlb, ho, hne, hD, hK⟩
  clear D0
  obtain ⟨gb, cb, rfl, _, _, _, _, _⟩ := own_form ho hne
  have HN : Hid (∀ j, j < 60 → w17.cell? ⟨gb, 0 + j, none⟩ = some (.int .u8 (l.getD j 0))) := fun j hj => (Sl.of_own ho).2 j (by omega)
  rw [hl]
  have HL : Hid _ := hl
  have HLB : Hid (Bytes l) := hlb
  clear ho hne hlb
  have HO : Hid (Own .u8 5 w16.heap.size w17 (.slice (some ⟨w16.heap.size, 0, none⟩) 4 4) [3, 0, 0, 0]) := (Own.four w16 3 0 0 0 (Nat.le_refl _)).keeps hK hlt0
  have HSZ : Hid (w16.heap.size ≤ w17.heap.size) := by have h9 := hK.size; rw [World.size_alloc] at h9; show _ ≤ _; omega
  have HK : Hid _ := hK
  have HD : Hid _ := hD
  clear hK hD hl
  go_wp2_with (at_builtin; refine extend_law .u8 22 5 1 Tryd.underlying22 infoE8 (by decide) rfl (.tmp 64) (.tmp 66) rfl w16.heap.size w17 _ _ [3, 0, 0, 0] gb 0 60 cb l HL.out rfl rfl HO.out (Below.refl _ _) HSZ.out (by simp) HN.out ?_; intro v2 w18 hown2 hbel2 _ hd2; refine stop_here ?_)
  refine hid_mk ?_
  have hne2 : v2.ownBlock ≠ none := grown_ne (v := .slice (some ⟨w16.heap.size, 0, none⟩) 4 4) (by simp [Value.ownBlock]) hd2
  have hgoOx1 := (Ox1.out).app (by omega) HK.out hbel2
  have XOx1 : Own .u8 5 (g + 1) w18 (.slice (some ⟨g1, 0, none⟩) 148 c1) x1 := hgoOx1
  clear Ox1
  have Ox1 : Hid (Own .u8 5 (g + 1) w18 (.slice (some ⟨g1, 0, none⟩) 148 c1) x1) := XOx1
  clear XOx1
  clear hgoOx1
  have F1 : Hid (Fd w g ta zs c [] w18) := F.out.app HK.out HD.out hbel2
  clear F HK HD hbel2
  have F : Hid (Fd w g ta zs c [] w18) := F1.out
  clear F1
  obtain ⟨g3, c3, rfl, hbg3, hcc3, hmc3, hlg3, _⟩ := own_form hown2 hne2
  have Ox3 := Own.mono hown2 (show g + 1 ≤ w16.heap.size by omega)
  clear hown2 hne2 hd2 HO HN HSZ
  have lx3 : Hid (([3, 0, 0, 0] ++ l).length = 64) := by show _ = _; rw [List.length_append, HL.out]; rfl
  have bx3 : Hid (Bytes ([3, 0, 0, 0] ++ l)) := bytes_append (head4_byt 3 (by decide)) HLB.out
  have ix3 : Hid (isWire ([3, 0, 0, 0] ++ l) 64 3 = true) := raw_is 3 l 64 (by rw [HL.out])
  have rx3 : Hid (0 ≤ wordAt (partZ ([3, 0, 0, 0] ++ l) 4 4) 0 ∧ wordAt (partZ ([3, 0, 0, 0] ++ l) 4 4) 0 ≤ 4294967295) := raw_word 3 l (by rw [HL.out]; decide) HLB.out
  have kx3 : Hid (wireB 3 (wordAt (partZ ([3, 0, 0, 0] ++ l) 4 4) 0) (([3, 0, 0, 0] ++ l).drop 8) = [3, 0, 0, 0] ++ l) := raw_back 3 l (by rw [HL.out]; decide) HLB.out
  have nx3 : Hid (∀ i, i < 4 → ∀ v, v ≠ ([3, 0, 0, 0] ++ l).getD i 0 → isWire (([3, 0, 0, 0] ++ l).set i v) 64 3 = false) := fun i hi v hv => changed_no 3 l 64 i hi v hv
  rw [lx3.out] at hcc3 Ox3 ⊢
  obtain ⟨x3, ex⟩ : ∃ y, [3, 0, 0, 0] ++ l = y := ⟨_, rfl⟩
  rw [ex] at lx3 bx3 ix3 rx3 kx3 nx3 Ox3
  clear ex HL HLB
  have hdOx1 : g1 ≠ g3 := by omega
  clear hqOx1
  have XOx3 : Own .u8 5 (g + 1) w18 (.slice (some ⟨g3, 0, none⟩) 64 c3) x3 := Ox3
  clear Ox3
  have Ox3 : Hid (Own .u8 5 (g + 1) w18 (.slice (some ⟨g3, 0, none⟩) 64 c3) x3) := XOx3
  clear XOx3
  have zx3 : Hid (((x3).drop 8).length = 56) := by show _ = _; rw [List.length_drop, lx3.out]
  obtain ⟨qx3, eq⟩ : ∃ y, wordAt (partZ x3 4 4) 0 = y := ⟨_, rfl⟩
  obtain ⟨yx3, ey⟩ : ∃ y, (x3).drop 8 = y := ⟨_, rfl⟩
  rw [eq] at rx3 kx3
  rw [ey] at kx3 zx3
  have e1x3 : Hid _ := eq
  have e2x3 : Hid _ := ey
  clear eq ey
  go_wp2_with fail
  refine (cp_sl x3 g3 0 c3 64 lx3.out (by decide) _ (Sl.of_own Ox3.out)).mono ?_
  rintro e9 w19 ⟨xx, rfl, ho, hb⟩
  obtain ⟨gc, cap, rfl, _, hS, hc1, hc2⟩ := ho.sl
  have HS : Hid (SlF w19 gc x3) := SlF.of_sl hS
  have hgc := hS.1
  clear ho hS
  have XOx1 : Own .u8 5 (g + 1) w19 (.slice (some ⟨g1, 0, none⟩) 148 c1) x1 := Own.later Ox1.out hb
  clear Ox1
  have Ox1 : Hid (Own .u8 5 (g + 1) w19 (.slice (some ⟨g1, 0, none⟩) 148 c1) x1) := XOx1
  clear XOx1
  have XOx3 : Own .u8 5 (g + 1) w19 (.slice (some ⟨g3, 0, none⟩) 64 c3) x3 := Own.later Ox3.out hb
  clear Ox3
  have Ox3 : Hid (Own .u8 5 (g + 1) w19 (.slice (some ⟨g3, 0, none⟩) 64 c3) x3) := XOx3
  clear XOx3
  have F1 : Hid (Fd w g ta zs c [] w19) := F.out.later hb (Nat.le_refl _)
  clear F hb
  have F : Hid (Fd w g ta zs c [] w19) := F1.out
  clear F1
  rw [lx3.out] at hc1 ⊢
  have hsz := F.out.bel.size
  have hc9 : x3.length ≤ cap := by rw [lx3.out]; exact hc1
  have CP := implParseReply_yes gc x3 5 a w19 ix3.out bx3.out cap hc9 hc2 HS.out hgc (by omega) ((F.out.bel.cell h0).trans HV.out)
  rw [e1x3.out, e2x3.out] at CP
  have CPH : Hid _ := CP
  clear CP HS hc1 hc2 hc9
  go_wp2_with fail
  refine Calls.mono (CPH.out) ?_
  rintro e9 w20 ⟨rfl, hb⟩
  have XOx1 := Own.later Ox1.out hb
  clear Ox1
  have Ox1 : Hid (Own .u8 5 (g + 1) w20 (.slice (some ⟨g1, 0, none⟩) 148 c1) x1) := XOx1
  clear XOx1
  have XOx3 := Own.later Ox3.out hb
  clear Ox3
  have Ox3 : Hid (Own .u8 5 (g + 1) w20 (.slice (some ⟨g3, 0, none⟩) 64 c3) x3) := XOx3
  clear XOx3
  have F1 : Hid (Fd w g ta zs c [] w20) := F.out.later hb (Nat.le_refl _)
  clear F hb
  have F : Hid (Fd w g ta zs c [] w20) := F1.out
  clear F1
  clear CPH hgc hsz
  have KA : Hid ((w20.alloc (.cells ((WL 0 (zeroL 56)).toArray) 41)).heap[w20.heap.size]? = some (.cells ((WL 0 (zeroL 56)).toArray) 41)) := heap_alloc_new _ _
  go_wp2_with (refine wpList_put_row rfl 41 _ _ rfl w20.heap.size ((WL qx3 yx3).toArray) rfl rfl _ _ KA.out (infoWR zx3.out) (zsWR zx3.out) (WL_one _ _) (fun w21 hP => stop_here ?_))
  refine hid_mk ?_
  have hb : Below w20.heap.size w20 w21 := hP.below _ _ ((Below.refl _ _).alloc (Nat.le_refl _) _) (Nat.le_refl _)
  have XOx1 := Own.later Ox1.out hb
  clear Ox1
  have Ox1 : Hid (Own .u8 5 (g + 1) w21 (.slice (some ⟨g1, 0, none⟩) 148 c1) x1) := XOx1
  clear XOx1
  have XOx3 := Own.later Ox3.out hb
  clear Ox3
  have Ox3 : Hid (Own .u8 5 (g + 1) w21 (.slice (some ⟨g3, 0, none⟩) 64 c3) x3) := XOx3
  clear XOx3
  have F2 := F.out.newRow hP
  obtain ⟨br, eb⟩ : ∃ x, x = w20.heap.size := ⟨_, rfl⟩
  rw [← eb] at F2 ⊢
  clear eb hP KA hb
  have F1 : Hid (Fd w g ta zs c [(br, (WL qx3 yx3).toArray, 41)] w21) := F2
  clear F F2
  have F : Hid (Fd w g ta zs c [(br, (WL qx3 yx3).toArray, 41)] w21) := F1.out
  clear F1
  have G0 : Hid _ := F.out.at List.mem_cons_self
  go_wp2_with (with_reducible refine wpList_id ?_; refine wpList_load_row rfl 41 _ rfl br rfl _ ((WL qx3 yx3).toArray) _ _ G0.out Tryd.underlying41 rfl (infoWR zx3.out) ?_)
  clear G0
  have CW := implWriteReply_any qx3 yx3 zx3.out rx3.out.1 w21
  rw [kx3.out] at CW
  have CWH : Hid _ := CW
  clear CW
  refine Calls.mono (CWH.out) ?_
  rintro e9 w22 ⟨rfl, hb⟩
  have XOx1 := Own.later Ox1.out hb
  clear Ox1
  have Ox1 : Hid (Own .u8 5 (g + 1) w22 (.slice (some ⟨g1, 0, none⟩) 148 c1) x1) := XOx1
  clear XOx1
  have XOx3 := Own.later Ox3.out hb
  clear Ox3
  have Ox3 : Hid (Own .u8 5 (g + 1) w22 (.slice (some ⟨g3, 0, none⟩) 64 c3) x3) := XOx3
  clear XOx3
  have F1 : Hid (Fd w g ta zs c [(br, (WL qx3 yx3).toArray, 41)] w22) := F.out.later hb (Nat.le_refl _)
  clear F hb
  have F : Hid (Fd w g ta zs c [(br, (WL qx3 yx3).toArray, 41)] w22) := F1.out
  clear F1
  clear CWH
  have KA : Hid ((w22.alloc (.cells (Iv .u8 (zeroL 64)) 44)).heap[w22.heap.size]? = some (.cells (Iv .u8 (zeroL 64)) 44)) := heap_alloc_new _ _
  go_wp2_with (refine wpList_put_row rfl 44 _ _ rfl w22.heap.size (Iv .u8 x3) rfl rfl _ _ KA.out (infoW64 lx3.out) (zsW64 lx3.out) (Iv_one _ _) (fun w23 hP => stop_here ?_))
  refine hid_mk ?_
  have hb : Below w22.heap.size w22 w23 := hP.below _ _ ((Below.refl _ _).alloc (Nat.le_refl _) _) (Nat.le_refl _)
  have XOx1 := Own.later Ox1.out hb
  clear Ox1
  have Ox1 : Hid (Own .u8 5 (g + 1) w23 (.slice (some ⟨g1, 0, none⟩) 148 c1) x1) := XOx1
  clear XOx1
  have XOx3 := Own.later Ox3.out hb
  clear Ox3
  have Ox3 : Hid (Own .u8 5 (g + 1) w23 (.slice (some ⟨g3, 0, none⟩) 64 c3) x3) := XOx3
  clear XOx3
  have F2 := F.out.newRow hP
  obtain ⟨bb3, eb⟩ : ∃ x, x = w22.heap.size := ⟨_, rfl⟩
  rw [← eb] at F2 ⊢
  clear eb hP KA hb
  have F1 : Hid (Fd w g ta zs c [(bb3, Iv .u8 x3, 44), (br, (WL qx3 yx3).toArray, 41)] w23) := F2
  clear F F2
  have F : Hid (Fd w g ta zs c [(bb3, Iv .u8 x3, 44), (br, (WL qx3 yx3).toArray, 41)] w23) := F1.out
  clear F1
  go_wp2_with fail
  refine wp_region_bel w23.heap.size w23 mixC (by kernel_rfl) (Below.refl _ _) ?_
  obtain ⟨TX, eTX⟩ : ∃ y : ByteArray, y = ⟨(Lib.bytesOf x3).toArray⟩ := ⟨_, rfl⟩
  have K0 : Hid (∀ w', Below w23.heap.size w23 w' → (convert 22 9 (.slice (some ⟨bb3, 0, none⟩) 64 64)).run Tryd.prog w' = .ok (.string TX) w') := fun w' hw' => by
    have h9 := conv_slW (P := Tryd.prog) (w := w') (Sl.of_row ((F.out.later hw' (Nat.le_refl _)).at List.mem_cons_self)) bx3.out 22 9 5 64 Tryd.underlying22 Tryd.underlying5 Tryd.underlying9
    rw [lx3.out, ← eTX] at h9
    exact h9
  have K1 : Hid (∀ w', Below w23.heap.size w23 w' → (convert 22 9 (.slice (some ⟨g3, 0, none⟩) 64 c3)).run Tryd.prog w' = .ok (.string TX) w') := fun w' hw' => by
    have h9 := conv_slW (P := Tryd.prog) (w := w') (Sl.of_own (Own.later Ox3.out hw')) bx3.out 22 9 5 c3 Tryd.underlying22 Tryd.underlying5 Tryd.underlying9
    rw [lx3.out, ← eTX] at h9
    exact h9
  clear eTX
  refine quietVal rfl (.bool true) (fun w' => by kernel_rfl) ?_
  simp only [Act.put, List.setIfInBounds_toArray, List.set_cons_succ, List.set_cons_zero]
  refine quietVal rfl (.bool false) (fun w' => by kernel_rfl) ?_
  simp only [Act.put, List.setIfInBounds_toArray, List.set_cons_succ, List.set_cons_zero]
  refine quietVal rfl (.bool false) (fun w' => by kernel_rfl) ?_
  simp only [Act.put, List.setIfInBounds_toArray, List.set_cons_succ, List.set_cons_zero]
  refine wpQuiet_want (by kernel_rfl) ?_
  refine quietVal rfl (.slice (some ⟨bb3, 0, none⟩) 64 64) (fun w' => by kernel_rfl) ?_
  simp only [Act.put, List.setIfInBounds_toArray, List.set_cons_succ, List.set_cons_zero]
  refine wpQuiet_want (by kernel_rfl) ?_
  refine quietIn rfl (.string TX) (fun w' hw' => by obtain ⟨y, rfl⟩ := hw'; exact run_convW 22 9 _ rfl (.slice (some ⟨bb3, 0, none⟩) 64 64) rfl _ _ (K0.out _ y.bel)) ?_
  simp only [Act.put, List.setIfInBounds_toArray, List.set_cons_succ, List.set_cons_zero]
  refine wpQuiet_want (by kernel_rfl) ?_
  refine quietVal rfl (.slice (some ⟨g3, 0, none⟩) 64 c3) (fun w' => by kernel_rfl) ?_
  simp only [Act.put, List.setIfInBounds_toArray, List.set_cons_succ, List.set_cons_zero]
  refine wpQuiet_want (by kernel_rfl) ?_
  refine quietIn rfl (.string TX) (fun w' hw' => by obtain ⟨y, rfl⟩ := hw'; exact run_convW 22 9 _ rfl (.slice (some ⟨g3, 0, none⟩) 64 c3) rfl _ _ (K1.out _ y.bel)) ?_
  simp only [Act.put, List.setIfInBounds_toArray, List.set_cons_succ, List.set_cons_zero]
  refine wpQuiet_want (by kernel_rfl) ?_
  refine quietIn rfl (.bool false) (fun w' hw' => run_neqW 9 _ _ _ rfl TX rfl rfl _) ?_
  simp only [Act.put, List.setIfInBounds_toArray, List.set_cons_succ, List.set_cons_zero]
  refine quietVal rfl (.bool false) (fun w' => by kernel_rfl) ?_
  simp only [Act.put, List.setIfInBounds_toArray, List.set_cons_succ, List.set_cons_zero]
  refine wpQuiet_nil ?_
  intro w24 hb
  clear K0 K1
  have XOx1 : Own .u8 5 (g + 1) w24 (.slice (some ⟨g1, 0, none⟩) 148 c1) x1 := Own.later Ox1.out hb
  clear Ox1
  have Ox1 : Hid (Own .u8 5 (g + 1) w24 (.slice (some ⟨g1, 0, none⟩) 148 c1) x1) := XOx1
  clear XOx1
  have XOx3 : Own .u8 5 (g + 1) w24 (.slice (some ⟨g3, 0, none⟩) 64 c3) x3 := Own.later Ox3.out hb
  clear Ox3
  have Ox3 : Hid (Own .u8 5 (g + 1) w24 (.slice (some ⟨g3, 0, none⟩) 64 c3) x3) := XOx3
  clear XOx3
  have F1 : Hid (Fd w g ta zs c [(bb3, Iv .u8 x3, 44), (br, (WL qx3 yx3).toArray, 41)] w24) := F.out.later hb (Nat.le_refl _)
  clear F hb
  have F : Hid (Fd w g ta zs c [(bb3, Iv .u8 x3, 44), (br, (WL qx3 yx3).toArray, 41)] w24) := F1.out
  clear F1
  have F1 : Hid (Fd w g ta zs c [] w24) := F.out.none
  clear F
  have F : Hid (Fd w g ta zs c [] w24) := F1.out
  clear F1
  go_wp2_with fail
  refine (drawN_any g ta zs c 4 _ F.out.drw HB.out hn9 (by decide)).mono ?_
  rintro e9 w25 ⟨i, hi0, hi1, rfl, hD, cs, hP⟩
  have hK := (Keeps.refl g _).put hP
  have XOx1 : Own .u8 5 (g + 1) w25 (.slice (some ⟨g1, 0, none⟩) 148 c1) x1 := Own.keeps Ox1.out hK (Nat.lt_succ_self _)
  clear Ox1
  have Ox1 : Hid (Own .u8 5 (g + 1) w25 (.slice (some ⟨g1, 0, none⟩) 148 c1) x1) := XOx1
  clear XOx1
  have XOx3 : Own .u8 5 (g + 1) w25 (.slice (some ⟨g3, 0, none⟩) 64 c3) x3 := Own.keeps Ox3.out hK (Nat.lt_succ_self _)
  clear Ox3
  have Ox3 : Hid (Own .u8 5 (g + 1) w25 (.slice (some ⟨g3, 0, none⟩) 64 c3) x3) := XOx3
  clear XOx3
  have F1 : Hid (Fd w g ta zs c [] w25) := F.out.keep hD hK
  clear F hD hP hK
  have F : Hid (Fd w g ta zs c [] w25) := F1.out
  clear F1
  obtain ⟨j, rfl⟩ : ∃ j : Nat, i = j := ⟨i.toNat, by omega⟩
  have hj : j < 4 := by omega
  clear hi0 hi1
  go_wp2_with fail
  have hdr : Below w25.heap.size w25 w25.drew := below_drews (Below.refl _ _) 1
  have XOx1 : Own .u8 5 (g + 1) w25.drew (.slice (some ⟨g1, 0, none⟩) 148 c1) x1 := Own.later Ox1.out hdr
  clear Ox1
  have Ox1 : Hid (Own .u8 5 (g + 1) w25.drew (.slice (some ⟨g1, 0, none⟩) 148 c1) x1) := XOx1
  clear XOx1
  have XOx3 : Own .u8 5 (g + 1) w25.drew (.slice (some ⟨g3, 0, none⟩) 64 c3) x3 := Own.later Ox3.out hdr
  clear Ox3
  have Ox3 : Hid (Own .u8 5 (g + 1) w25.drew (.slice (some ⟨g3, 0, none⟩) 64 c3) x3) := XOx3
  clear XOx3
  have F1 : Hid (Fd w g ta zs c [] w25.drew) := F.out.later hdr (Nat.le_refl _)
  clear F hdr
  have F : Hid (Fd w g ta zs c [] w25.drew) := F1.out
  clear F1
  refine wp_region_tree 10 (fun w' => ∃ y : Wp (fun v => Own .u8 5 (g + 1) v (.slice (some ⟨g1, 0, none⟩) 148 c1) x1), w' = y.w) (.held [0, 1, 2, 3, 4] (.tail 5 (.held [6, 7, 8, 9] (.last 10 .done)))) mixC (by kernel_rfl) ⟨⟨_, Ox1.out⟩, rfl⟩ ?_
  obtain ⟨w26, eV⟩ : ∃ y, y = w25.drew := ⟨_, rfl⟩
  rw [← eV] at F Ox1 Ox3 ⊢
  clear eV
  have hjl : j < x1.length := by rw [lx1.out]; omega
  obtain ⟨s0, es0⟩ : ∃ y, x1.getD j 0 = y := ⟨_, rfl⟩
  have ES : Hid _ := es0
  clear es0
  refine wpTr_held ?_
  simp only [opsAt_cons, opsAt_nil, nthOp_zero, nthOp_succ, List.cons_append, List.nil_append]
  refine quietVal rfl (.slice (some ⟨g1, 0, none⟩) 148 c1) (fun w' => by kernel_rfl) ?_
  simp only [Act.put, List.setIfInBounds_toArray, List.set_cons_succ, List.set_cons_zero]
  refine quietVal rfl (.int .i64 j) (fun w' => by kernel_rfl) ?_
  simp only [Act.put, List.setIfInBounds_toArray, List.set_cons_succ, List.set_cons_zero]
  refine quietIn rfl (.pointer (some ⟨g1, j, none⟩)) (fun w' hw' => run_idx 22 _ _ rfl g1 148 c1 j rfl rfl Tryd.underlying22 (by kernel_rfl) (by omega) w') ?_
  simp only [Act.put, List.setIfInBounds_toArray, List.set_cons_succ, List.set_cons_zero]
  refine quietIn rfl (.int .u8 s0) (fun w' hw' => by obtain ⟨y, rfl⟩ := hw'; exact run_cell 5 _ rfl ⟨g1, j, none⟩ rfl .u8 Tryd.underlying5 _ _ (by have h9 := (Sl.of_own y.p).2 j hjl; rw [Nat.zero_add, ES.out] at h9; exact h9)) ?_
  simp only [Act.put, List.setIfInBounds_toArray, List.set_cons_succ, List.set_cons_zero]
  refine quietVal rfl (.pointer (some ⟨g, 0, none⟩)) (fun w' => by kernel_rfl) ?_
  simp only [Act.put, List.setIfInBounds_toArray, List.set_cons_succ, List.set_cons_zero]
  refine wpQuiet_nil ?_
  refine wpTr_tail ?_
  simp only [opsAt_cons, opsAt_nil, nthOp_zero, nthOp_succ, List.cons_append, List.nil_append]
  go_wp2_with fail
  refine (drawN_any g ta zs c 255 _ F.out.drw HB.out hn9 (by decide)).mono ?_
  rintro e9 w27 ⟨u, hu0, hu1, rfl, hD, cs, hP⟩
  have hK := (Keeps.refl g _).put hP
  have XOx1 : Own .u8 5 (g + 1) w27 (.slice (some ⟨g1, 0, none⟩) 148 c1) x1 := Own.keeps Ox1.out hK (Nat.lt_succ_self _)
  clear Ox1
  have Ox1 : Hid (Own .u8 5 (g + 1) w27 (.slice (some ⟨g1, 0, none⟩) 148 c1) x1) := XOx1
  clear XOx1
  have XOx3 : Own .u8 5 (g + 1) w27 (.slice (some ⟨g3, 0, none⟩) 64 c3) x3 := Own.keeps Ox3.out hK (Nat.lt_succ_self _)
  clear Ox3
  have Ox3 : Hid (Own .u8 5 (g + 1) w27 (.slice (some ⟨g3, 0, none⟩) 64 c3) x3) := XOx3
  clear XOx3
  have F1 : Hid (Fd w g ta zs c [] w27) := F.out.keep hD hK
  clear F hD hP hK
  have F : Hid (Fd w g ta zs c [] w27) := F1.out
  clear F1
  go_wp2_with fail
  refine ⟨⟨⟨_, Ox1.out⟩, rfl⟩, ?_⟩
  have hwr : IntKind.u8.wrap (IntKind.i64.wrap (1 + u)) = 1 + u := by simp only [IntKind.wrap, IntKind.bits, IntKind.signed]; simp; omega
  refine wpTr_held ?_
  simp only [opsAt_cons, opsAt_nil, nthOp_zero, nthOp_succ, List.cons_append, List.nil_append]
  refine quietVal rfl (.int .i64 (IntKind.i64.wrap (1 + u))) (fun w' => by kernel_rfl) ?_
  simp only [Act.put, List.setIfInBounds_toArray, List.set_cons_succ, List.set_cons_zero]
  refine quietVal rfl (.int .u8 (IntKind.u8.wrap (IntKind.i64.wrap (1 + u)))) (fun w' => by kernel_rfl) ?_
  simp only [Act.put, List.setIfInBounds_toArray, List.set_cons_succ, List.set_cons_zero]
  refine quietVal rfl (.int .u8 (bits .xor .u8 s0 (IntKind.u8.wrap (IntKind.i64.wrap (1 + u))))) (fun w' => by kernel_rfl) ?_
  simp only [Act.put, List.setIfInBounds_toArray, List.set_cons_succ, List.set_cons_zero]
  refine quietIn rfl (.pointer (some ⟨g1, j, none⟩)) (fun w' hw' => run_idx 22 _ _ rfl g1 148 c1 j rfl rfl Tryd.underlying22 (by kernel_rfl) (by omega) w') ?_
  simp only [Act.put, List.setIfInBounds_toArray, List.set_cons_succ, List.set_cons_zero]
  refine wpQuiet_nil ?_
  rw [hwr]
  have hx0 := bx1.out j
  rw [ES.out] at hx0
  obtain ⟨f1, ef1⟩ : ∃ y : Fin 256, s0 = (y.val : Int) := ⟨⟨s0.toNat, by omega⟩, by simp only; omega⟩
  obtain ⟨f2, ef2⟩ : ∃ y : Fin 256, 1 + u = (y.val : Int) := ⟨⟨(1 + u).toNat, by omega⟩, by simp only; omega⟩
  have hxx := xor_ne f1 f2 (by omega)
  rw [← ef1, ← ef2] at hxx
  obtain ⟨V1, eV⟩ : ∃ y, bits .xor .u8 s0 (1 + u) = y := ⟨_, rfl⟩
  rw [eV] at hxx ⊢
  rw [← ES.out] at hxx
  have hV1 : Hid _ := hxx
  clear eV hxx ef1 ef2 hwr
  have co : w27.cell? ⟨g1, j, none⟩ = some (.int .u8 (x1.getD j 0)) := by have h9 := (Sl.of_own Ox1.out).2 j hjl; rw [Nat.zero_add] at h9; exact h9
  have fv := own_free Ox1.out j
  refine wpTr_last ?_
  simp only [opsAt_cons, opsAt_nil, nthOp_zero, nthOp_succ, List.cons_append, List.nil_append]
  go_wp2_with fail
  refine last_tr ?_
  have OS := Own.set Ox1.out j V1
  obtain ⟨gq, cq, curq, evq, _, hrow, _⟩ := OwnN.row (show OwnN .u8 5 (g + 1) w27 (.slice (some ⟨g1, 0, none⟩) 148 c1) x1 from ⟨Ox1.out, by simp [Value.ownBlock]⟩)
  have hgq : gq = g1 := by have h9 := evq; simp only [Value.slice.injEq, Option.some.injEq, Addr.mk.injEq] at h9; exact h9.1.1.symm
  rw [hgq] at hrow
  have hP := put_cell1 hrow j (.int .u8 V1)
  have hgg := (Own.lt Ox1.out _ rfl).1
  obtain ⟨w28, eW⟩ : ∃ y, y = w27.setCell ⟨g1, j, none⟩ (.int .u8 V1) := ⟨_, rfl⟩
  rw [← eW] at OS hP ⊢
  have Xo := own_put Ox3.out hP (by omega)
  have XOx3 : Own .u8 5 (g + 1) w28 (.slice (some ⟨g3, 0, none⟩) 64 c3) x3 := Xo
  clear Ox3
  have Ox3 : Hid (Own .u8 5 (g + 1) w28 (.slice (some ⟨g3, 0, none⟩) 64 c3) x3) := XOx3
  clear XOx3
  clear Xo
  have F2 := F.out.above hP (by omega)
  have F1 : Hid (Fd w g ta zs c [] w28) := F2
  clear F F2
  have F : Hid (Fd w g ta zs c [] w28) := F1.out
  clear F1
  have XOx1 : Own .u8 5 (g + 1) w28 (.slice (some ⟨g1, 0, none⟩) 148 c1) (x1.set j V1) := OS
  clear Ox1
  have Ox1 : Hid (Own .u8 5 (g + 1) w28 (.slice (some ⟨g1, 0, none⟩) 148 c1) (x1.set j V1)) := XOx1
  clear XOx1
  clear OS hP eW evq hrow co fv hgg hx0 hjl hu0 hu1 hgq ES
  go_wp2_with fail
  have hdr : Below w28.heap.size w28 w28.drew := below_drews (Below.refl _ _) 1
  have XOx1 : Own .u8 5 (g + 1) w28.drew (.slice (some ⟨g1, 0, none⟩) 148 c1) (x1.set j V1) := Own.later Ox1.out hdr
  clear Ox1
  have Ox1 : Hid (Own .u8 5 (g + 1) w28.drew (.slice (some ⟨g1, 0, none⟩) 148 c1) (x1.set j V1)) := XOx1
  clear XOx1
  have XOx3 : Own .u8 5 (g + 1) w28.drew (.slice (some ⟨g3, 0, none⟩) 64 c3) x3 := Own.later Ox3.out hdr
  clear Ox3
  have Ox3 : Hid (Own .u8 5 (g + 1) w28.drew (.slice (some ⟨g3, 0, none⟩) 64 c3) x3) := XOx3
  clear XOx3
  have F1 : Hid (Fd w g ta zs c [] w28.drew) := F.out.later hdr (Nat.le_refl _)
  clear F hdr
  have F : Hid (Fd w g ta zs c [] w28.drew) := F1.out
  clear F1
  refine wp_region_tree 10 (fun w' => ∃ y : Wp (fun v => Own .u8 5 (g + 1) v (.slice (some ⟨g3, 0, none⟩) 64 c3) x3), w' = y.w) (.held [0, 1, 2, 3, 4] (.tail 5 (.held [6, 7, 8, 9] (.last 10 .done)))) mixC (by kernel_rfl) ⟨⟨_, Ox3.out⟩, rfl⟩ ?_
  obtain ⟨w29, eV⟩ : ∃ y, y = w28.drew := ⟨_, rfl⟩
  rw [← eV] at F Ox1 Ox3 ⊢
  clear eV
  have hjl : j < x3.length := by rw [lx3.out]; omega
  obtain ⟨s0, es0⟩ : ∃ y, x3.getD j 0 = y := ⟨_, rfl⟩
  have ES : Hid _ := es0
  clear es0
  refine wpTr_held ?_
  simp only [opsAt_cons, opsAt_nil, nthOp_zero, nthOp_succ, List.cons_append, List.nil_append]
  refine quietVal rfl (.slice (some ⟨g3, 0, none⟩) 64 c3) (fun w' => by kernel_rfl) ?_
  simp only [Act.put, List.setIfInBounds_toArray, List.set_cons_succ, List.set_cons_zero]
  refine quietVal rfl (.int .i64 j) (fun w' => by kernel_rfl) ?_
  simp only [Act.put, List.setIfInBounds_toArray, List.set_cons_succ, List.set_cons_zero]
  refine quietIn rfl (.pointer (some ⟨g3, j, none⟩)) (fun w' hw' => run_idx 22 _ _ rfl g3 64 c3 j rfl rfl Tryd.underlying22 (by kernel_rfl) (by omega) w') ?_
  simp only [Act.put, List.setIfInBounds_toArray, List.set_cons_succ, List.set_cons_zero]
  refine quietIn rfl (.int .u8 s0) (fun w' hw' => by obtain ⟨y, rfl⟩ := hw'; exact run_cell 5 _ rfl ⟨g3, j, none⟩ rfl .u8 Tryd.underlying5 _ _ (by have h9 := (Sl.of_own y.p).2 j hjl; rw [Nat.zero_add, ES.out] at h9; exact h9)) ?_
  simp only [Act.put, List.setIfInBounds_toArray, List.set_cons_succ, List.set_cons_zero]
  refine quietVal rfl (.pointer (some ⟨g, 0, none⟩)) (fun w' => by kernel_rfl) ?_
  simp only [Act.put, List.setIfInBounds_toArray, List.set_cons_succ, List.set_cons_zero]
  refine wpQuiet_nil ?_
  refine wpTr_tail ?_
  simp only [opsAt_cons, opsAt_nil, nthOp_zero, nthOp_succ, List.cons_append, List.nil_append]
  go_wp2_with fail
  refine (drawN_any g ta zs c 255 _ F.out.drw HB.out hn9 (by decide)).mono ?_
  rintro e9 w30 ⟨u, hu0, hu1, rfl, hD, cs, hP⟩
  have hK := (Keeps.refl g _).put hP
  have XOx1 : Own .u8 5 (g + 1) w30 (.slice (some ⟨g1, 0, none⟩) 148 c1) (x1.set j V1) := Own.keeps Ox1.out hK (Nat.lt_succ_self _)
  clear Ox1
  have Ox1 : Hid (Own .u8 5 (g + 1) w30 (.slice (some ⟨g1, 0, none⟩) 148 c1) (x1.set j V1)) := XOx1
  clear XOx1
  have XOx3 : Own .u8 5 (g + 1) w30 (.slice (some ⟨g3, 0, none⟩) 64 c3) x3 := Own.keeps Ox3.out hK (Nat.lt_succ_self _)
  clear Ox3
  have Ox3 : Hid (Own .u8 5 (g + 1) w30 (.slice (some ⟨g3, 0, none⟩) 64 c3) x3) := XOx3
  clear XOx3
  have F1 : Hid (Fd w g ta zs c [] w30) := F.out.keep hD hK
  clear F hD hP hK
  have F : Hid (Fd w g ta zs c [] w30) := F1.out
  clear F1
  go_wp2_with fail
  refine ⟨⟨⟨_, Ox3.out⟩, rfl⟩, ?_⟩
  have hwr : IntKind.u8.wrap (IntKind.i64.wrap (1 + u)) = 1 + u := by simp only [IntKind.wrap, IntKind.bits, IntKind.signed]; simp; omega
  refine wpTr_held ?_
  simp only [opsAt_cons, opsAt_nil, nthOp_zero, nthOp_succ, List.cons_append, List.nil_append]
  refine quietVal rfl (.int .i64 (IntKind.i64.wrap (1 + u))) (fun w' => by kernel_rfl) ?_
  simp only [Act.put, List.setIfInBounds_toArray, List.set_cons_succ, List.set_cons_zero]
  refine quietVal rfl (.int .u8 (IntKind.u8.wrap (IntKind.i64.wrap (1 + u)))) (fun w' => by kernel_rfl) ?_
  simp only [Act.put, List.setIfInBounds_toArray, List.set_cons_succ, List.set_cons_zero]
  refine quietVal rfl (.int .u8 (bits .xor .u8 s0 (IntKind.u8.wrap (IntKind.i64.wrap (1 + u))))) (fun w' => by kernel_rfl) ?_
  simp only [Act.put, List.setIfInBounds_toArray, List.set_cons_succ, List.set_cons_zero]
  refine quietIn rfl (.pointer (some ⟨g3, j, none⟩)) (fun w' hw' => run_idx 22 _ _ rfl g3 64 c3 j rfl rfl Tryd.underlying22 (by kernel_rfl) (by omega) w') ?_
  simp only [Act.put, List.setIfInBounds_toArray, List.set_cons_succ, List.set_cons_zero]
  refine wpQuiet_nil ?_
  rw [hwr]
  have hx0 := bx3.out j
  rw [ES.out] at hx0
  obtain ⟨f1, ef1⟩ : ∃ y : Fin 256, s0 = (y.val : Int) := ⟨⟨s0.toNat, by omega⟩, by simp only; omega⟩
  obtain ⟨f2, ef2⟩ : ∃ y : Fin 256, 1 + u = (y.val : Int) := ⟨⟨(1 + u).toNat, by omega⟩, by simp only; omega⟩
  have hxx := xor_ne f1 f2 (by omega)
  rw [← ef1, ← ef2] at hxx
  obtain ⟨V3, eV⟩ : ∃ y, bits .xor .u8 s0 (1 + u) = y := ⟨_, rfl⟩
  rw [eV] at hxx ⊢
  rw [← ES.out] at hxx
  have hV3 : Hid _ := hxx
  clear eV hxx ef1 ef2 hwr
  have co : w30.cell? ⟨g3, j, none⟩ = some (.int .u8 (x3.getD j 0)) := by have h9 := (Sl.of_own Ox3.out).2 j hjl; rw [Nat.zero_add] at h9; exact h9
  have fv := own_free Ox3.out j
  refine wpTr_last ?_
  simp only [opsAt_cons, opsAt_nil, nthOp_zero, nthOp_succ, List.cons_append, List.nil_append]
  go_wp2_with fail
  refine last_tr ?_
  have OS := Own.set Ox3.out j V3
  obtain ⟨gq, cq, curq, evq, _, hrow, _⟩ := OwnN.row (show OwnN .u8 5 (g + 1) w30 (.slice (some ⟨g3, 0, none⟩) 64 c3) x3 from ⟨Ox3.out, by simp [Value.ownBlock]⟩)
  have hgq : gq = g3 := by have h9 := evq; simp only [Value.slice.injEq, Option.some.injEq, Addr.mk.injEq] at h9; exact h9.1.1.symm
  rw [hgq] at hrow
  have hP := put_cell1 hrow j (.int .u8 V3)
  have hgg := (Own.lt Ox3.out _ rfl).1
  obtain ⟨w31, eW⟩ : ∃ y, y = w30.setCell ⟨g3, j, none⟩ (.int .u8 V3) := ⟨_, rfl⟩
  rw [← eW] at OS hP ⊢
  have Xo := own_put Ox1.out hP (by omega)
  have XOx1 : Own .u8 5 (g + 1) w31 (.slice (some ⟨g1, 0, none⟩) 148 c1) (x1.set j V1) := Xo
  clear Ox1
  have Ox1 : Hid (Own .u8 5 (g + 1) w31 (.slice (some ⟨g1, 0, none⟩) 148 c1) (x1.set j V1)) := XOx1
  clear XOx1
  clear Xo
  have F2 := F.out.above hP (by omega)
  have F1 : Hid (Fd w g ta zs c [] w31) := F2
  clear F F2
  have F : Hid (Fd w g ta zs c [] w31) := F1.out
  clear F1
  have XOx3 : Own .u8 5 (g + 1) w31 (.slice (some ⟨g3, 0, none⟩) 64 c3) (x3.set j V3) := OS
  clear Ox3
  have Ox3 : Hid (Own .u8 5 (g + 1) w31 (.slice (some ⟨g3, 0, none⟩) 64 c3) (x3.set j V3)) := XOx3
  clear XOx3
  clear OS hP eW evq hrow co fv hgg hx0 hjl hu0 hu1 hgq ES
  go_wp2_with fail
  have hxl : (x1.set j V1).length = 148 := by rw [List.length_set, lx1.out]
  have hsz := F.out.bel.size
  have CP := implParseInitiation_no g1 (x1.set j V1) 5 a w31 (nx1.out j hj V1 hV1.out.1) (bx1.out.set j V1 hV1.out.2) (by rw [hxl]; decide) c1 (by rw [hxl]; exact hcc1) hmc1 (SlF.of_sl (Sl.of_own Ox1.out)) (Own.lt Ox1.out _ rfl).2 (by omega) ((F.out.bel.cell h0).trans HV.out)
  rw [hxl] at CP
  have CPH : Hid _ := CP
  clear CP hxl
  refine Calls.mono (CPH.out) ?_
  rintro e9 w32 ⟨rfl, hb⟩
  have XOx1 := Own.later Ox1.out hb
  clear Ox1
  have Ox1 : Hid (Own .u8 5 (g + 1) w32 (.slice (some ⟨g1, 0, none⟩) 148 c1) (x1.set j V1)) := XOx1
  clear XOx1
  have XOx3 := Own.later Ox3.out hb
  clear Ox3
  have Ox3 : Hid (Own .u8 5 (g + 1) w32 (.slice (some ⟨g3, 0, none⟩) 64 c3) (x3.set j V3)) := XOx3
  clear XOx3
  have F1 : Hid (Fd w g ta zs c [] w32) := F.out.later hb (Nat.le_refl _)
  clear F hb
  have F : Hid (Fd w g ta zs c [] w32) := F1.out
  clear F1
  clear CPH hsz
  have KA : Hid ((w32.alloc (.cells ((WL 0 (zeroL 140)).toArray) 31)).heap[w32.heap.size]? = some (.cells ((WL 0 (zeroL 140)).toArray) 31)) := heap_alloc_new _ _
  go_wp2_with (refine wpList_put_row rfl 31 _ _ rfl w32.heap.size ((WL 0 (zeroL 140)).toArray) rfl rfl _ _ KA.out (infoIn (r := 0) (z := zeroL 140) rfl) (rfl) (WL_one _ _) (fun w33 hP => stop_here ?_))
  refine hid_mk ?_
  have hb : Below w32.heap.size w32 w33 := hP.below _ _ ((Below.refl _ _).alloc (Nat.le_refl _) _) (Nat.le_refl _)
  have XOx1 := Own.later Ox1.out hb
  clear Ox1
  have Ox1 : Hid (Own .u8 5 (g + 1) w33 (.slice (some ⟨g1, 0, none⟩) 148 c1) (x1.set j V1)) := XOx1
  clear XOx1
  have XOx3 := Own.later Ox3.out hb
  clear Ox3
  have Ox3 : Hid (Own .u8 5 (g + 1) w33 (.slice (some ⟨g3, 0, none⟩) 64 c3) (x3.set j V3)) := XOx3
  clear XOx3
  have F2 := F.out.newRow hP
  obtain ⟨bz1, eb⟩ : ∃ x, x = w32.heap.size := ⟨_, rfl⟩
  rw [← eb] at F2 ⊢
  clear eb hP KA hb
  have F1 : Hid (Fd w g ta zs c [(bz1, (WL 0 (zeroL 140)).toArray, 31)] w33) := F2
  clear F F2
  have F : Hid (Fd w g ta zs c [(bz1, (WL 0 (zeroL 140)).toArray, 31)] w33) := F1.out
  clear F1
  go_wp2_with fail
  have hxl : (x3.set j V3).length = 64 := by rw [List.length_set, lx3.out]
  have hsz := F.out.bel.size
  have CP := implParseReply_no g3 (x3.set j V3) 5 a w33 (nx3.out j hj V3 hV3.out.1) (bx3.out.set j V3 hV3.out.2) (by rw [hxl]; decide) c3 (by rw [hxl]; exact hcc3) hmc3 (SlF.of_sl (Sl.of_own Ox3.out)) (Own.lt Ox3.out _ rfl).2 (by omega) ((F.out.bel.cell h0).trans HV.out)
  rw [hxl] at CP
  have CPH : Hid _ := CP
  clear CP hxl
  refine Calls.mono (CPH.out) ?_
  rintro e9 w34 ⟨rfl, hb⟩
  have XOx1 := Own.later Ox1.out hb
  clear Ox1
  have Ox1 : Hid (Own .u8 5 (g + 1) w34 (.slice (some ⟨g1, 0, none⟩) 148 c1) (x1.set j V1)) := XOx1
  clear XOx1
  have XOx3 := Own.later Ox3.out hb
  clear Ox3
  have Ox3 : Hid (Own .u8 5 (g + 1) w34 (.slice (some ⟨g3, 0, none⟩) 64 c3) (x3.set j V3)) := XOx3
  clear XOx3
  have F1 : Hid (Fd w g ta zs c [(bz1, (WL 0 (zeroL 140)).toArray, 31)] w34) := F.out.later hb (Nat.le_refl _)
  clear F hb
  have F : Hid (Fd w g ta zs c [(bz1, (WL 0 (zeroL 140)).toArray, 31)] w34) := F1.out
  clear F1
  clear CPH hsz
  have KA : Hid ((w34.alloc (.cells ((WL 0 (zeroL 56)).toArray) 41)).heap[w34.heap.size]? = some (.cells ((WL 0 (zeroL 56)).toArray) 41)) := heap_alloc_new _ _
  go_wp2_with (refine wpList_put_row rfl 41 _ _ rfl w34.heap.size ((WL 0 (zeroL 56)).toArray) rfl rfl _ _ KA.out (infoWR (r := 0) (z := zeroL 56) rfl) (rfl) (WL_one _ _) (fun w35 hP => stop_here ?_))
  refine hid_mk ?_
  have hb : Below w34.heap.size w34 w35 := hP.below _ _ ((Below.refl _ _).alloc (Nat.le_refl _) _) (Nat.le_refl _)
  have XOx1 := Own.later Ox1.out hb
  clear Ox1
  have Ox1 : Hid (Own .u8 5 (g + 1) w35 (.slice (some ⟨g1, 0, none⟩) 148 c1) (x1.set j V1)) := XOx1
  clear XOx1
  have XOx3 := Own.later Ox3.out hb
  clear Ox3
  have Ox3 : Hid (Own .u8 5 (g + 1) w35 (.slice (some ⟨g3, 0, none⟩) 64 c3) (x3.set j V3)) := XOx3
  clear XOx3
  have F2 := F.out.newRow hP
  obtain ⟨bz3, eb⟩ : ∃ x, x = w34.heap.size := ⟨_, rfl⟩
  rw [← eb] at F2 ⊢
  clear eb hP KA hb
  have F1 : Hid (Fd w g ta zs c [(bz3, (WL 0 (zeroL 56)).toArray, 41), (bz1, (WL 0 (zeroL 140)).toArray, 31)] w35) := F2
  clear F F2
  have F : Hid (Fd w g ta zs c [(bz3, (WL 0 (zeroL 56)).toArray, 41), (bz1, (WL 0 (zeroL 140)).toArray, 31)] w35) := F1.out
  clear F1
  have B9 : Hid _ := F.out.bel
  clear F
  go_wp2
  go_ret
  exact ⟨rfl, B9.out⟩
end Go.Proofs.YtppelebolgkghaaDoor
