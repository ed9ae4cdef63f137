/- The walk of the statement SuperBack. -/
import Derived.Test.YtkhimoclikhlaaaSuP
import Derived.Test.YtkhimoclikhlaaaInv
namespace Go.Proofs.Ytkhimoclikhlaaa.Su
open Go.RowKit Go.Shelf Go.Proofs.Ytkhimoclikhlaaa.Oct Go.Proofs.Ytkhimoclikhlaaa.Sf
set_option linter.unusedVariables false

theorem page_beq {s t : Sup} (hs : Ok s) (ht : Ok t) : (supPage s == supPage t) = (s == t) := by
  rw [Bool.eq_iff_iff]
  simp only [beq_iff_eq]
  exact ⟨page_inj hs ht, fun h => h ▸ rfl⟩
set_option maxRecDepth 100000 in
set_option maxHeartbeats 4000000 in
theorem back_walk (s : Sup) (t : Sup) (w : World) (hs : Ok s) (ht : Ok t) : Calls Try.prog 4 #[sval s, sval t] w fun e w' => e = .returned (.bool true) ∧ Below w.heap.size w w' := by
  have HA := Lib.hid (show ∀ w2 : World, Below w.heap.size w w2 → Calls Try.prog 10 #[] w2 fun e w' => e = .returned (.bool true) ∧ Below w.heap.size w w' from fun w2 k => (awake_any w2).mono fun e w' ⟨h1, h2⟩ => ⟨h1, k.trans (h2.mono k.size)⟩)
  have h0 := alloc_rowV w 27 (scells s)
  have k0 := (Below.refl w.heap.size w).alloc (Nat.le_refl _) (.cells (scells s).toArray 27)
  have s0 : (w.alloc (.cells (scells s).toArray 27)).heap.size = w.heap.size + 1 := by simp
  have h1 := alloc_rowV (w.alloc (.cells (scells s).toArray 27)) 27 (scells t)
  have k1 := (Below.refl (w.alloc (.cells (scells s).toArray 27)).heap.size (w.alloc (.cells (scells s).toArray 27))).alloc (Nat.le_refl _) (.cells (scells t).toArray 27)
  have HR1 := Lib.hid (h0.below h0.lt k1)
  have HB := Lib.hid (k0.trans (k1.mono k0.size))
  rw [s0] at h1
  have HR2 := Lib.hid h1
  clear h0 k0 h1 k1 s0
  unfold sval
  go_enter Try.func4, Try.ntmps4
  go_upto_region 1 with (fail)
  generalize (w.alloc (.cells (scells s).toArray 27)).alloc (.cells (scells t).toArray 27) = v0 at *
  by_cases fs : Fit s
  · skip
    go_wp2_with (first | (refine wpList_load_row rfl 27 (.tmp 2) rfl w.heap.size rfl _ (scells s).toArray _ _ HR1.out Try.underlying27 rfl (size_scells _) ?_) | (refine wpList_load_row rfl 27 (.tmp 3) rfl (w.heap.size + 1) rfl _ (scells t).toArray _ _ HR2.out Try.underlying27 rfl (size_scells _) ?_) | (refine wpList_load_row_g (by rfl) 27 (.tmp 2) rfl w.heap.size rfl _ (scells s).toArray _ _ HR1.out Try.underlying27 rfl (size_scells _) ?_) | (refine wpList_load_row_g (by rfl) 27 (.tmp 3) rfl (w.heap.size + 1) rfl _ (scells t).toArray _ _ HR2.out Try.underlying27 rfl (size_scells _) ?_))
    refine (encode_bts s hs v0 fs).mono ?_
    rintro e v1 ⟨g1, rfl, P1, -, -, kk⟩
    replace HR1 := Lib.hid (HR1.out.below HR1.out.lt kk)
    replace HR2 := Lib.hid (HR2.out.below HR2.out.lt kk)
    replace HB := Lib.hid (HB.out.trans (kk.mono HB.out.size))
    have HP1 := Lib.hid P1
    clear P1
    clear kk
    by_cases ft : Fit t
    · skip
      go_wp2_with (first | (refine wpList_load_row rfl 27 (.tmp 2) rfl w.heap.size rfl _ (scells s).toArray _ _ HR1.out Try.underlying27 rfl (size_scells _) ?_) | (refine wpList_load_row rfl 27 (.tmp 3) rfl (w.heap.size + 1) rfl _ (scells t).toArray _ _ HR2.out Try.underlying27 rfl (size_scells _) ?_) | (refine wpList_load_row_g (by rfl) 27 (.tmp 2) rfl w.heap.size rfl _ (scells s).toArray _ _ HR1.out Try.underlying27 rfl (size_scells _) ?_) | (refine wpList_load_row_g (by rfl) 27 (.tmp 3) rfl (w.heap.size + 1) rfl _ (scells t).toArray _ _ HR2.out Try.underlying27 rfl (size_scells _) ?_))
      refine (encode_bts t ht v1 ft).mono ?_
      rintro e v2 ⟨g2, rfl, P2, -, -, kk⟩
      replace HR1 := Lib.hid (HR1.out.below HR1.out.lt kk)
      replace HR2 := Lib.hid (HR2.out.below HR2.out.lt kk)
      replace HP1 := Lib.hid (HP1.out.below kk)
      replace HB := Lib.hid (HB.out.trans (kk.mono HB.out.size))
      have HP2 := Lib.hid P2
      clear P2
      clear kk
      go_wp2_with (first | (refine wpList_load_row rfl 27 (.tmp 2) rfl w.heap.size rfl _ (scells s).toArray _ _ HR1.out Try.underlying27 rfl (size_scells _) ?_) | (refine wpList_load_row rfl 27 (.tmp 3) rfl (w.heap.size + 1) rfl _ (scells t).toArray _ _ HR2.out Try.underlying27 rfl (size_scells _) ?_) | (refine wpList_load_row_g (by rfl) 27 (.tmp 2) rfl w.heap.size rfl _ (scells s).toArray _ _ HR1.out Try.underlying27 rfl (size_scells _) ?_) | (refine wpList_load_row_g (by rfl) 27 (.tmp 3) rfl (w.heap.size + 1) rfl _ (scells t).toArray _ _ HR2.out Try.underlying27 rfl (size_scells _) ?_))
      refine (right_yes s hs fs v2).mono ?_
      rintro e v3 ⟨rfl, kk⟩
      replace HR1 := Lib.hid (HR1.out.below HR1.out.lt kk)
      replace HR2 := Lib.hid (HR2.out.below HR2.out.lt kk)
      replace HP1 := Lib.hid (HP1.out.below kk)
      replace HP2 := Lib.hid (HP2.out.below kk)
      replace HB := Lib.hid (HB.out.trans (kk.mono HB.out.size))
      clear kk
      go_wp2_with (first | (refine wpList_load_row rfl 27 (.tmp 2) rfl w.heap.size rfl _ (scells s).toArray _ _ HR1.out Try.underlying27 rfl (size_scells _) ?_) | (refine wpList_load_row rfl 27 (.tmp 3) rfl (w.heap.size + 1) rfl _ (scells t).toArray _ _ HR2.out Try.underlying27 rfl (size_scells _) ?_) | (refine wpList_load_row_g (by rfl) 27 (.tmp 2) rfl w.heap.size rfl _ (scells s).toArray _ _ HR1.out Try.underlying27 rfl (size_scells _) ?_) | (refine wpList_load_row_g (by rfl) 27 (.tmp 3) rfl (w.heap.size + 1) rfl _ (scells t).toArray _ _ HR2.out Try.underlying27 rfl (size_scells _) ?_))
      refine (right_yes t ht ft v3).mono ?_
      rintro e v4 ⟨rfl, kk⟩
      replace HR1 := Lib.hid (HR1.out.below HR1.out.lt kk)
      replace HR2 := Lib.hid (HR2.out.below HR2.out.lt kk)
      replace HP1 := Lib.hid (HP1.out.below kk)
      replace HP2 := Lib.hid (HP2.out.below kk)
      replace HB := Lib.hid (HB.out.trans (kk.mono HB.out.size))
      clear kk
      go_wp2_with fail
      refine (decode_sup hs fs HP1.out).mono ?_
      rintro e v5 ⟨rfl, kk⟩
      replace HR1 := Lib.hid (HR1.out.below HR1.out.lt kk)
      replace HR2 := Lib.hid (HR2.out.below HR2.out.lt kk)
      replace HP1 := Lib.hid (HP1.out.below kk)
      replace HP2 := Lib.hid (HP2.out.below kk)
      replace HB := Lib.hid (HB.out.trans (kk.mono HB.out.size))
      clear kk
      have hst := run_storeCells_new (P := Try.prog) v5 27 #[(.int .u64 0), (.int .u32 0), (.int .u32 0), (.int .u32 0), (.int .u32 0), (.int .u32 0), (.int .u32 0), (.int .u32 0), (.int .u32 0), (.int .u32 0), (.int .u64 0), (.int .u64 0), (.int .u64 0), (.int .u64 0), (.int .u64 0), (.int .u64 0), (.int .u64 0), (.int .u64 0)] (scells s).toArray (size_scells _) (by simp [length_scells]) (one_scells _)
      have hlc := length_scells s
      go_upto_region 8 with (fail)
      clear hst hlc
      have HX := Lib.hid (alloc_rowV v5 27 (scells s))
      have kk := (Below.refl v5.heap.size v5).alloc (Nat.le_refl _) (.cells (scells s).toArray 27)
      replace HR1 := Lib.hid (HR1.out.below HR1.out.lt kk)
      replace HR2 := Lib.hid (HR2.out.below HR2.out.lt kk)
      replace HP1 := Lib.hid (HP1.out.below kk)
      replace HP2 := Lib.hid (HP2.out.below kk)
      replace HB := Lib.hid (HB.out.trans (kk.mono HB.out.size))
      clear kk
      generalize v5.alloc (.cells (scells s).toArray 27) = v6 at *
      generalize v5.heap.size = x9 at *
      have HEQ := Lib.hid (show (.bool ((supPage s == supPage t) == (s == t)) : Value) = .bool true by rw [page_beq hs ht]; simp)
      refine Inv.wp_region_inv (fun b a wy => ∃ z4 z50 z51 z52 z53 z54 z55 z56 z57 z58 z59 z60 z61 z62 z63 z64 z65 z66 z67 z68 z69 z70 z71 z72, a = ⟨#[Value.agg (scells s).toArray, Value.agg (scells t).toArray, Value.pointer (some { block := w.heap.size, off := 0 }), Value.pointer (some { block := w.heap.size + 1, off := 0 }), z4, Value.slice (some { block := g1, off := 0 }) 128 128, Value.int IntKind.i64 0, Value.slice (some { block := g2, off := 0 }) 128 128, Value.int IntKind.i64 0, Value.pointer (some { block := x9, off := 0 }), Value.int IntKind.i64 0, Value.tuple #[Value.slice (some { block := g1, off := 0 }) 128 128, Value.int IntKind.i64 0], Value.agg (scells s).toArray, Value.tuple #[Value.slice (some { block := g1, off := 0 }) 128 128, Value.int IntKind.i64 0], Value.slice (some { block := g1, off := 0 }) 128 128, Value.int IntKind.i64 0, Value.tuple #[Value.slice (some { block := g2, off := 0 }) 128 128, Value.int IntKind.i64 0], Value.agg (scells t).toArray, Value.tuple #[Value.slice (some { block := g2, off := 0 }) 128 128, Value.int IntKind.i64 0], Value.slice (some { block := g2, off := 0 }) 128 128, Value.int IntKind.i64 0, Value.int IntKind.i64 0, Value.bool true, Value.agg (scells s).toArray, Value.bool true, Value.bool false, Value.bool false, Value.int IntKind.i64 0, Value.bool true, Value.agg (scells t).toArray, Value.bool true, Value.bool false, Value.bool false, Value.int IntKind.i64 0, Value.bool false, undef, undef, undef, undef, undef, undef, undef, undef, undef, undef, Value.tuple #[Value.agg (scells s).toArray, Value.int IntKind.i64 0], Value.slice (some { block := g1, off := 0 }) 128 128, Value.tuple #[Value.agg (scells s).toArray, Value.int IntKind.i64 0], Value.agg (scells s).toArray, Value.int IntKind.i64 0, z50, z51, z52, z53, z54, z55, z56, z57, z58, z59, z60, z61, z62, z63, z64, z65, z66, z67, z68, z69, z70, z71, z72], []⟩ ∧ Hid ((b 0 = true → z50 = Value.int IntKind.i64 0) ∧ (b 1 = true → z51 = .bool true) ∧ (b 2 = true → z52 = .bool true) ∧ (b 3 = true → z53 = .agg (scells s).toArray) ∧ (b 4 = true → z54 = .agg (scells s).toArray) ∧ (b 5 = true → z55 = .bool true) ∧ (b 6 = true → z56 = .bool true) ∧ (b 7 = true → z57 = .bool true) ∧ (b 8 = true → z58 = Value.int IntKind.i64 0) ∧ (b 9 = true → z59 = .bool false) ∧ (b 10 = true → z60 = .bool false) ∧ (b 11 = true → z61 = Value.slice (some { block := g1, off := 0 }) 128 128) ∧ (b 12 = true → z62 = Value.slice (some { block := g2, off := 0 }) 128 128) ∧ (b 13 = true → z63 = .bool (supPage s == supPage t)) ∧ (b 14 = true → z64 = .agg (scells s).toArray) ∧ (b 15 = true → z65 = .agg (scells t).toArray) ∧ (b 16 = true → z66 = .bool (s == t)) ∧ (b 17 = true → z67 = .bool true) ∧ (b 18 = true → z68 = .bool true) ∧ (b 19 = true → z69 = .bool true) ∧ (b 20 = true → z70 = .bool true) ∧ (b 21 = true → z71 = .bool true) ∧ (b 22 = true → z72 = .bool true) ∧ (b 23 = true → z4 = .bool true)) ∧ Hid (Below v6.heap.size v6 wy)) (by kernel_rfl) (by kernel_rfl) ?startR1 ?stepsR1 ?doneR1
      case startR1 =>
        intro b hb
        refine ⟨Value.bool false, undef, undef, undef, undef, undef, undef, undef, undef, undef, undef, undef, undef, undef, undef, undef, undef, undef, undef, undef, undef, undef, undef, undef, rfl, Lib.hid ⟨?_, ?_, ?_, ?_, ?_, ?_, ?_, ?_, ?_, ?_, ?_, ?_, ?_, ?_, ?_, ?_, ?_, ?_, ?_, ?_, ?_, ?_, ?_, ?_⟩, Lib.hid ((show Still v6 v6.drew from ⟨rfl, rfl, rfl, rfl⟩).below _)⟩
        all_goals (intro e; first | rfl | (rw [hb _ (by decide)] at e; cases e))
      case stepsR1 =>
        refine ⟨?_, ?_, ?_, ?_, ?_, ?_, ?_, ?_, ?_, ?_, ?_, ?_, ?_, ?_, ?_, ?_, ?_, ?_, ?_, ?_, ?_, ?_, ?_, ?_, trivial⟩
        · rintro b a wy hb hd ⟨z4, z50, z51, z52, z53, z54, z55, z56, z57, z58, z59, z60, z61, z62, z63, z64, z65, z66, z67, z68, z69, z70, z71, z72, rfl, HV, HW⟩ K hK
          obtain ⟨h0, h1, h2, h3, h4, h5, h6, h7, h8, h9, h10, h11, h12, h13, h14, h15, h16, h17, h18, h19, h20, h21, h22, h23⟩ := HV.out
          clear hd
          go_simp
          exact hK _ _ ⟨_, _, _, _, _, _, _, _, _, _, _, _, _, _, _, _, _, _, _, _, _, _, _, _, rfl, Lib.hid ⟨fun _ => rfl, h1, h2, h3, h4, h5, h6, h7, h8, h9, h10, h11, h12, h13, h14, h15, h16, h17, h18, h19, h20, h21, h22, h23⟩, HW⟩
        · rintro b a wy hb hd ⟨z4, z50, z51, z52, z53, z54, z55, z56, z57, z58, z59, z60, z61, z62, z63, z64, z65, z66, z67, z68, z69, z70, z71, z72, rfl, HV, HW⟩ K hK
          obtain ⟨h0, h1, h2, h3, h4, h5, h6, h7, h8, h9, h10, h11, h12, h13, h14, h15, h16, h17, h18, h19, h20, h21, h22, h23⟩ := HV.out
          simp [Region.binds] at hd
          obtain rfl := h0 (by simp [hd])
          clear hd
          go_simp
          exact hK _ _ ⟨_, _, _, _, _, _, _, _, _, _, _, _, _, _, _, _, _, _, _, _, _, _, _, _, rfl, Lib.hid ⟨h0, fun _ => rfl, h2, h3, h4, h5, h6, h7, h8, h9, h10, h11, h12, h13, h14, h15, h16, h17, h18, h19, h20, h21, h22, h23⟩, HW⟩
        · rintro b a wy hb hd ⟨z4, z50, z51, z52, z53, z54, z55, z56, z57, z58, z59, z60, z61, z62, z63, z64, z65, z66, z67, z68, z69, z70, z71, z72, rfl, HV, HW⟩ K hK
          obtain ⟨h0, h1, h2, h3, h4, h5, h6, h7, h8, h9, h10, h11, h12, h13, h14, h15, h16, h17, h18, h19, h20, h21, h22, h23⟩ := HV.out
          simp [Region.binds] at hd
          obtain rfl := h1 (by simp [hd])
          clear hd
          go_simp
          exact hK _ _ ⟨_, _, _, _, _, _, _, _, _, _, _, _, _, _, _, _, _, _, _, _, _, _, _, _, rfl, Lib.hid ⟨h0, h1, fun _ => rfl, h3, h4, h5, h6, h7, h8, h9, h10, h11, h12, h13, h14, h15, h16, h17, h18, h19, h20, h21, h22, h23⟩, HW⟩
        · rintro b a wy hb hd ⟨z4, z50, z51, z52, z53, z54, z55, z56, z57, z58, z59, z60, z61, z62, z63, z64, z65, z66, z67, z68, z69, z70, z71, z72, rfl, HV, HW⟩ K hK
          obtain ⟨h0, h1, h2, h3, h4, h5, h6, h7, h8, h9, h10, h11, h12, h13, h14, h15, h16, h17, h18, h19, h20, h21, h22, h23⟩ := HV.out
          simp [Region.binds] at hd
          obtain rfl := h2 (by simp [hd])
          clear hd
          refine if_wanted (by rfl) (wp_load_row 27 (.tmp 9) rfl x9 rfl _ (scells s).toArray _ _ (HX.out.below HX.out.lt HW.out) Try.underlying27 rfl (size_scells _) ?_)
          exact hK _ _ ⟨_, _, _, _, _, _, _, _, _, _, _, _, _, _, _, _, _, _, _, _, _, _, _, _, rfl, Lib.hid ⟨h0, h1, h2, fun _ => rfl, h4, h5, h6, h7, h8, h9, h10, h11, h12, h13, h14, h15, h16, h17, h18, h19, h20, h21, h22, h23⟩, HW⟩
        · rintro b a wy hb hd ⟨z4, z50, z51, z52, z53, z54, z55, z56, z57, z58, z59, z60, z61, z62, z63, z64, z65, z66, z67, z68, z69, z70, z71, z72, rfl, HV, HW⟩ K hK
          obtain ⟨h0, h1, h2, h3, h4, h5, h6, h7, h8, h9, h10, h11, h12, h13, h14, h15, h16, h17, h18, h19, h20, h21, h22, h23⟩ := HV.out
          simp [Region.binds] at hd
          obtain rfl := h2 (by simp [hd])
          clear hd
          refine if_wanted (by rfl) (wp_load_row 27 (.tmp 2) rfl w.heap.size rfl _ (scells s).toArray _ _ (HR1.out.below HR1.out.lt HW.out) Try.underlying27 rfl (size_scells _) ?_)
          exact hK _ _ ⟨_, _, _, _, _, _, _, _, _, _, _, _, _, _, _, _, _, _, _, _, _, _, _, _, rfl, Lib.hid ⟨h0, h1, h2, h3, fun _ => rfl, h5, h6, h7, h8, h9, h10, h11, h12, h13, h14, h15, h16, h17, h18, h19, h20, h21, h22, h23⟩, HW⟩
        · rintro b a wy hb hd ⟨z4, z50, z51, z52, z53, z54, z55, z56, z57, z58, z59, z60, z61, z62, z63, z64, z65, z66, z67, z68, z69, z70, z71, z72, rfl, HV, HW⟩ K hK
          obtain ⟨h0, h1, h2, h3, h4, h5, h6, h7, h8, h9, h10, h11, h12, h13, h14, h15, h16, h17, h18, h19, h20, h21, h22, h23⟩ := HV.out
          simp [Region.binds] at hd
          obtain rfl := h2 (by simp [hd])
          obtain rfl := h3 (by simp [hd])
          obtain rfl := h4 (by simp [hd])
          clear hd
          refine if_wanted (by rfl) (wp_eql_sup (.tmp 53) (.tmp 54) _ rfl s s hs hs rfl rfl ?_)
          rw [show (s == s) = true from by simp]
          exact hK _ _ ⟨_, _, _, _, _, _, _, _, _, _, _, _, _, _, _, _, _, _, _, _, _, _, _, _, rfl, Lib.hid ⟨h0, h1, h2, h3, h4, fun _ => rfl, h6, h7, h8, h9, h10, h11, h12, h13, h14, h15, h16, h17, h18, h19, h20, h21, h22, h23⟩, HW⟩
        · rintro b a wy hb hd ⟨z4, z50, z51, z52, z53, z54, z55, z56, z57, z58, z59, z60, z61, z62, z63, z64, z65, z66, z67, z68, z69, z70, z71, z72, rfl, HV, HW⟩ K hK
          obtain ⟨h0, h1, h2, h3, h4, h5, h6, h7, h8, h9, h10, h11, h12, h13, h14, h15, h16, h17, h18, h19, h20, h21, h22, h23⟩ := HV.out
          simp [Region.binds] at hd
          obtain rfl := h2 (by simp [hd])
          obtain rfl := h5 (by simp [hd])
          clear hd
          go_simp
          exact hK _ _ ⟨_, _, _, _, _, _, _, _, _, _, _, _, _, _, _, _, _, _, _, _, _, _, _, _, rfl, Lib.hid ⟨h0, h1, h2, h3, h4, h5, fun _ => rfl, h7, h8, h9, h10, h11, h12, h13, h14, h15, h16, h17, h18, h19, h20, h21, h22, h23⟩, HW⟩
        · rintro b a wy hb hd ⟨z4, z50, z51, z52, z53, z54, z55, z56, z57, z58, z59, z60, z61, z62, z63, z64, z65, z66, z67, z68, z69, z70, z71, z72, rfl, HV, HW⟩ K hK
          obtain ⟨h0, h1, h2, h3, h4, h5, h6, h7, h8, h9, h10, h11, h12, h13, h14, h15, h16, h17, h18, h19, h20, h21, h22, h23⟩ := HV.out
          simp [Region.binds] at hd
          obtain rfl := h6 (by simp [hd])
          clear hd
          go_simp
          exact hK _ _ ⟨_, _, _, _, _, _, _, _, _, _, _, _, _, _, _, _, _, _, _, _, _, _, _, _, rfl, Lib.hid ⟨h0, h1, h2, h3, h4, h5, h6, fun _ => rfl, h8, h9, h10, h11, h12, h13, h14, h15, h16, h17, h18, h19, h20, h21, h22, h23⟩, HW⟩
        · rintro b a wy hb hd ⟨z4, z50, z51, z52, z53, z54, z55, z56, z57, z58, z59, z60, z61, z62, z63, z64, z65, z66, z67, z68, z69, z70, z71, z72, rfl, HV, HW⟩ K hK
          obtain ⟨h0, h1, h2, h3, h4, h5, h6, h7, h8, h9, h10, h11, h12, h13, h14, h15, h16, h17, h18, h19, h20, h21, h22, h23⟩ := HV.out
          simp [Region.binds] at hd
          obtain rfl := h7 (by simp [hd])
          clear hd
          go_simp
          exact hK _ _ ⟨_, _, _, _, _, _, _, _, _, _, _, _, _, _, _, _, _, _, _, _, _, _, _, _, rfl, Lib.hid ⟨h0, h1, h2, h3, h4, h5, h6, h7, fun _ => rfl, h9, h10, h11, h12, h13, h14, h15, h16, h17, h18, h19, h20, h21, h22, h23⟩, HW⟩
        · rintro b a wy hb hd ⟨z4, z50, z51, z52, z53, z54, z55, z56, z57, z58, z59, z60, z61, z62, z63, z64, z65, z66, z67, z68, z69, z70, z71, z72, rfl, HV, HW⟩ K hK
          obtain ⟨h0, h1, h2, h3, h4, h5, h6, h7, h8, h9, h10, h11, h12, h13, h14, h15, h16, h17, h18, h19, h20, h21, h22, h23⟩ := HV.out
          simp [Region.binds] at hd
          obtain rfl := h7 (by simp [hd])
          obtain rfl := h8 (by simp [hd])
          clear hd
          go_simp
          exact hK _ _ ⟨_, _, _, _, _, _, _, _, _, _, _, _, _, _, _, _, _, _, _, _, _, _, _, _, rfl, Lib.hid ⟨h0, h1, h2, h3, h4, h5, h6, h7, h8, fun _ => rfl, h10, h11, h12, h13, h14, h15, h16, h17, h18, h19, h20, h21, h22, h23⟩, HW⟩
        · rintro b a wy hb hd ⟨z4, z50, z51, z52, z53, z54, z55, z56, z57, z58, z59, z60, z61, z62, z63, z64, z65, z66, z67, z68, z69, z70, z71, z72, rfl, HV, HW⟩ K hK
          obtain ⟨h0, h1, h2, h3, h4, h5, h6, h7, h8, h9, h10, h11, h12, h13, h14, h15, h16, h17, h18, h19, h20, h21, h22, h23⟩ := HV.out
          simp [Region.binds] at hd
          obtain rfl := h7 (by simp [hd])
          obtain rfl := h9 (by simp [hd])
          clear hd
          go_simp
          exact hK _ _ ⟨_, _, _, _, _, _, _, _, _, _, _, _, _, _, _, _, _, _, _, _, _, _, _, _, rfl, Lib.hid ⟨h0, h1, h2, h3, h4, h5, h6, h7, h8, h9, fun _ => rfl, h11, h12, h13, h14, h15, h16, h17, h18, h19, h20, h21, h22, h23⟩, HW⟩
        · rintro b a wy hb hd ⟨z4, z50, z51, z52, z53, z54, z55, z56, z57, z58, z59, z60, z61, z62, z63, z64, z65, z66, z67, z68, z69, z70, z71, z72, rfl, HV, HW⟩ K hK
          obtain ⟨h0, h1, h2, h3, h4, h5, h6, h7, h8, h9, h10, h11, h12, h13, h14, h15, h16, h17, h18, h19, h20, h21, h22, h23⟩ := HV.out
          simp [Region.binds] at hd
          obtain rfl := h10 (by simp [hd])
          clear hd
          go_simp
          exact hK _ _ ⟨_, _, _, _, _, _, _, _, _, _, _, _, _, _, _, _, _, _, _, _, _, _, _, _, rfl, Lib.hid ⟨h0, h1, h2, h3, h4, h5, h6, h7, h8, h9, h10, fun _ => rfl, h12, h13, h14, h15, h16, h17, h18, h19, h20, h21, h22, h23⟩, HW⟩
        · rintro b a wy hb hd ⟨z4, z50, z51, z52, z53, z54, z55, z56, z57, z58, z59, z60, z61, z62, z63, z64, z65, z66, z67, z68, z69, z70, z71, z72, rfl, HV, HW⟩ K hK
          obtain ⟨h0, h1, h2, h3, h4, h5, h6, h7, h8, h9, h10, h11, h12, h13, h14, h15, h16, h17, h18, h19, h20, h21, h22, h23⟩ := HV.out
          simp [Region.binds] at hd
          obtain rfl := h10 (by simp [hd])
          clear hd
          go_simp
          exact hK _ _ ⟨_, _, _, _, _, _, _, _, _, _, _, _, _, _, _, _, _, _, _, _, _, _, _, _, rfl, Lib.hid ⟨h0, h1, h2, h3, h4, h5, h6, h7, h8, h9, h10, h11, fun _ => rfl, h13, h14, h15, h16, h17, h18, h19, h20, h21, h22, h23⟩, HW⟩
        · rintro b a wy hb hd ⟨z4, z50, z51, z52, z53, z54, z55, z56, z57, z58, z59, z60, z61, z62, z63, z64, z65, z66, z67, z68, z69, z70, z71, z72, rfl, HV, HW⟩ K hK
          obtain ⟨h0, h1, h2, h3, h4, h5, h6, h7, h8, h9, h10, h11, h12, h13, h14, h15, h16, h17, h18, h19, h20, h21, h22, h23⟩ := HV.out
          simp [Region.binds] at hd
          obtain rfl := h10 (by simp [hd])
          obtain rfl := h11 (by simp [hd])
          obtain rfl := h12 (by simp [hd])
          clear hd
          go_simp
          go_at_call 18
          refine (equal_len _ _ 128 128 128 128 (supPage s) (supPage t) (length_supPage _) (length_supPage _) wy (HP1.out.below HW.out).told (HP2.out.below HW.out).told).mono ?_
          rintro e wz ⟨rfl, rfl⟩
          try go_simp
          exact hK _ _ ⟨_, _, _, _, _, _, _, _, _, _, _, _, _, _, _, _, _, _, _, _, _, _, _, _, rfl, Lib.hid ⟨h0, h1, h2, h3, h4, h5, h6, h7, h8, h9, h10, h11, h12, fun _ => rfl, h14, h15, h16, h17, h18, h19, h20, h21, h22, h23⟩, HW⟩
        · rintro b a wy hb hd ⟨z4, z50, z51, z52, z53, z54, z55, z56, z57, z58, z59, z60, z61, z62, z63, z64, z65, z66, z67, z68, z69, z70, z71, z72, rfl, HV, HW⟩ K hK
          obtain ⟨h0, h1, h2, h3, h4, h5, h6, h7, h8, h9, h10, h11, h12, h13, h14, h15, h16, h17, h18, h19, h20, h21, h22, h23⟩ := HV.out
          simp [Region.binds] at hd
          obtain rfl := h10 (by simp [hd])
          clear hd
          refine if_wanted (by rfl) (wp_load_row 27 (.tmp 2) rfl w.heap.size rfl _ (scells s).toArray _ _ (HR1.out.below HR1.out.lt HW.out) Try.underlying27 rfl (size_scells _) ?_)
          exact hK _ _ ⟨_, _, _, _, _, _, _, _, _, _, _, _, _, _, _, _, _, _, _, _, _, _, _, _, rfl, Lib.hid ⟨h0, h1, h2, h3, h4, h5, h6, h7, h8, h9, h10, h11, h12, h13, fun _ => rfl, h15, h16, h17, h18, h19, h20, h21, h22, h23⟩, HW⟩
        · rintro b a wy hb hd ⟨z4, z50, z51, z52, z53, z54, z55, z56, z57, z58, z59, z60, z61, z62, z63, z64, z65, z66, z67, z68, z69, z70, z71, z72, rfl, HV, HW⟩ K hK
          obtain ⟨h0, h1, h2, h3, h4, h5, h6, h7, h8, h9, h10, h11, h12, h13, h14, h15, h16, h17, h18, h19, h20, h21, h22, h23⟩ := HV.out
          simp [Region.binds] at hd
          obtain rfl := h10 (by simp [hd])
          clear hd
          refine if_wanted (by rfl) (wp_load_row 27 (.tmp 3) rfl (w.heap.size + 1) rfl _ (scells t).toArray _ _ (HR2.out.below HR2.out.lt HW.out) Try.underlying27 rfl (size_scells _) ?_)
          exact hK _ _ ⟨_, _, _, _, _, _, _, _, _, _, _, _, _, _, _, _, _, _, _, _, _, _, _, _, rfl, Lib.hid ⟨h0, h1, h2, h3, h4, h5, h6, h7, h8, h9, h10, h11, h12, h13, h14, fun _ => rfl, h16, h17, h18, h19, h20, h21, h22, h23⟩, HW⟩
        · rintro b a wy hb hd ⟨z4, z50, z51, z52, z53, z54, z55, z56, z57, z58, z59, z60, z61, z62, z63, z64, z65, z66, z67, z68, z69, z70, z71, z72, rfl, HV, HW⟩ K hK
          obtain ⟨h0, h1, h2, h3, h4, h5, h6, h7, h8, h9, h10, h11, h12, h13, h14, h15, h16, h17, h18, h19, h20, h21, h22, h23⟩ := HV.out
          simp [Region.binds] at hd
          obtain rfl := h10 (by simp [hd])
          obtain rfl := h14 (by simp [hd])
          obtain rfl := h15 (by simp [hd])
          clear hd
          refine if_wanted (by rfl) (wp_eql_sup (.tmp 64) (.tmp 65) _ rfl s t hs ht rfl rfl ?_)
          exact hK _ _ ⟨_, _, _, _, _, _, _, _, _, _, _, _, _, _, _, _, _, _, _, _, _, _, _, _, rfl, Lib.hid ⟨h0, h1, h2, h3, h4, h5, h6, h7, h8, h9, h10, h11, h12, h13, h14, h15, fun _ => rfl, h17, h18, h19, h20, h21, h22, h23⟩, HW⟩
        · rintro b a wy hb hd ⟨z4, z50, z51, z52, z53, z54, z55, z56, z57, z58, z59, z60, z61, z62, z63, z64, z65, z66, z67, z68, z69, z70, z71, z72, rfl, HV, HW⟩ K hK
          obtain ⟨h0, h1, h2, h3, h4, h5, h6, h7, h8, h9, h10, h11, h12, h13, h14, h15, h16, h17, h18, h19, h20, h21, h22, h23⟩ := HV.out
          simp [Region.binds] at hd
          obtain rfl := h10 (by simp [hd])
          obtain rfl := h13 (by simp [hd])
          obtain rfl := h16 (by simp [hd])
          clear hd
          go_simp
          exact hK _ _ ⟨_, _, _, _, _, _, _, _, _, _, _, _, _, _, _, _, _, _, _, _, _, _, _, _, rfl, Lib.hid ⟨h0, h1, h2, h3, h4, h5, h6, h7, h8, h9, h10, h11, h12, h13, h14, h15, h16, fun _ => HEQ.out, h18, h19, h20, h21, h22, h23⟩, HW⟩
        · rintro b a wy hb hd ⟨z4, z50, z51, z52, z53, z54, z55, z56, z57, z58, z59, z60, z61, z62, z63, z64, z65, z66, z67, z68, z69, z70, z71, z72, rfl, HV, HW⟩ K hK
          obtain ⟨h0, h1, h2, h3, h4, h5, h6, h7, h8, h9, h10, h11, h12, h13, h14, h15, h16, h17, h18, h19, h20, h21, h22, h23⟩ := HV.out
          simp [Region.binds] at hd
          obtain rfl := h7 (by simp [hd])
          obtain rfl := h10 (by simp [hd])
          obtain rfl := h17 (by simp [hd])
          clear hd
          go_simp
          exact hK _ _ ⟨_, _, _, _, _, _, _, _, _, _, _, _, _, _, _, _, _, _, _, _, _, _, _, _, rfl, Lib.hid ⟨h0, h1, h2, h3, h4, h5, h6, h7, h8, h9, h10, h11, h12, h13, h14, h15, h16, h17, fun _ => rfl, h19, h20, h21, h22, h23⟩, HW⟩
        · rintro b a wy hb hd ⟨z4, z50, z51, z52, z53, z54, z55, z56, z57, z58, z59, z60, z61, z62, z63, z64, z65, z66, z67, z68, z69, z70, z71, z72, rfl, HV, HW⟩ K hK
          obtain ⟨h0, h1, h2, h3, h4, h5, h6, h7, h8, h9, h10, h11, h12, h13, h14, h15, h16, h17, h18, h19, h20, h21, h22, h23⟩ := HV.out
          simp [Region.binds] at hd
          obtain rfl := h7 (by simp [hd])
          obtain rfl := h18 (by simp [hd])
          clear hd
          go_simp
          exact hK _ _ ⟨_, _, _, _, _, _, _, _, _, _, _, _, _, _, _, _, _, _, _, _, _, _, _, _, rfl, Lib.hid ⟨h0, h1, h2, h3, h4, h5, h6, h7, h8, h9, h10, h11, h12, h13, h14, h15, h16, h17, h18, fun _ => rfl, h20, h21, h22, h23⟩, HW⟩
        · rintro b a wy hb hd ⟨z4, z50, z51, z52, z53, z54, z55, z56, z57, z58, z59, z60, z61, z62, z63, z64, z65, z66, z67, z68, z69, z70, z71, z72, rfl, HV, HW⟩ K hK
          obtain ⟨h0, h1, h2, h3, h4, h5, h6, h7, h8, h9, h10, h11, h12, h13, h14, h15, h16, h17, h18, h19, h20, h21, h22, h23⟩ := HV.out
          simp [Region.binds] at hd
          obtain rfl := h19 (by simp [hd])
          clear hd
          go_simp
          exact hK _ _ ⟨_, _, _, _, _, _, _, _, _, _, _, _, _, _, _, _, _, _, _, _, _, _, _, _, rfl, Lib.hid ⟨h0, h1, h2, h3, h4, h5, h6, h7, h8, h9, h10, h11, h12, h13, h14, h15, h16, h17, h18, h19, fun _ => rfl, h21, h22, h23⟩, HW⟩
        · rintro b a wy hb hd ⟨z4, z50, z51, z52, z53, z54, z55, z56, z57, z58, z59, z60, z61, z62, z63, z64, z65, z66, z67, z68, z69, z70, z71, z72, rfl, HV, HW⟩ K hK
          obtain ⟨h0, h1, h2, h3, h4, h5, h6, h7, h8, h9, h10, h11, h12, h13, h14, h15, h16, h17, h18, h19, h20, h21, h22, h23⟩ := HV.out
          simp [Region.binds] at hd
          obtain rfl := h20 (by simp [hd])
          clear hd
          go_simp
          go_at_call 10
          refine (awake_any wy).mono ?_
          rintro e wz ⟨rfl, kz⟩
          try go_simp
          exact hK _ _ ⟨_, _, _, _, _, _, _, _, _, _, _, _, _, _, _, _, _, _, _, _, _, _, _, _, rfl, Lib.hid ⟨h0, h1, h2, h3, h4, h5, h6, h7, h8, h9, h10, h11, h12, h13, h14, h15, h16, h17, h18, h19, h20, fun _ => rfl, h22, h23⟩, Lib.hid (HW.out.trans (kz.mono HW.out.size))⟩
        · rintro b a wy hb hd ⟨z4, z50, z51, z52, z53, z54, z55, z56, z57, z58, z59, z60, z61, z62, z63, z64, z65, z66, z67, z68, z69, z70, z71, z72, rfl, HV, HW⟩ K hK
          obtain ⟨h0, h1, h2, h3, h4, h5, h6, h7, h8, h9, h10, h11, h12, h13, h14, h15, h16, h17, h18, h19, h20, h21, h22, h23⟩ := HV.out
          simp [Region.binds] at hd
          obtain rfl := h20 (by simp [hd])
          obtain rfl := h21 (by simp [hd])
          clear hd
          go_simp
          exact hK _ _ ⟨_, _, _, _, _, _, _, _, _, _, _, _, _, _, _, _, _, _, _, _, _, _, _, _, rfl, Lib.hid ⟨h0, h1, h2, h3, h4, h5, h6, h7, h8, h9, h10, h11, h12, h13, h14, h15, h16, h17, h18, h19, h20, h21, fun _ => rfl, h23⟩, HW⟩
        · rintro b a wy hb hd ⟨z4, z50, z51, z52, z53, z54, z55, z56, z57, z58, z59, z60, z61, z62, z63, z64, z65, z66, z67, z68, z69, z70, z71, z72, rfl, HV, HW⟩ K hK
          obtain ⟨h0, h1, h2, h3, h4, h5, h6, h7, h8, h9, h10, h11, h12, h13, h14, h15, h16, h17, h18, h19, h20, h21, h22, h23⟩ := HV.out
          simp [Region.binds] at hd
          obtain rfl := h22 (by simp [hd])
          clear hd
          go_simp
          exact hK _ _ ⟨_, _, _, _, _, _, _, _, _, _, _, _, _, _, _, _, _, _, _, _, _, _, _, _, rfl, Lib.hid ⟨h0, h1, h2, h3, h4, h5, h6, h7, h8, h9, h10, h11, h12, h13, h14, h15, h16, h17, h18, h19, h20, h21, h22, fun _ => rfl⟩, HW⟩
      case doneR1 =>
        rintro b a wy hb ⟨z4, z50, z51, z52, z53, z54, z55, z56, z57, z58, z59, z60, z61, z62, z63, z64, z65, z66, z67, z68, z69, z70, z71, z72, rfl, HV, HW⟩
        obtain ⟨h0, h1, h2, h3, h4, h5, h6, h7, h8, h9, h10, h11, h12, h13, h14, h15, h16, h17, h18, h19, h20, h21, h22, h23⟩ := HV.out
        obtain rfl := h0 (hb 0)
        obtain rfl := h1 (hb 1)
        obtain rfl := h2 (hb 2)
        obtain rfl := h3 (hb 3)
        obtain rfl := h4 (hb 4)
        obtain rfl := h5 (hb 5)
        obtain rfl := h6 (hb 6)
        obtain rfl := h7 (hb 7)
        obtain rfl := h8 (hb 8)
        obtain rfl := h9 (hb 9)
        obtain rfl := h10 (hb 10)
        obtain rfl := h11 (hb 11)
        obtain rfl := h12 (hb 12)
        obtain rfl := h13 (hb 13)
        obtain rfl := h14 (hb 14)
        obtain rfl := h15 (hb 15)
        obtain rfl := h16 (hb 16)
        obtain rfl := h17 (hb 17)
        obtain rfl := h18 (hb 18)
        obtain rfl := h19 (hb 19)
        obtain rfl := h20 (hb 20)
        obtain rfl := h21 (hb 21)
        obtain rfl := h22 (hb 22)
        obtain rfl := h23 (hb 23)
        clear HV hb h0 h1 h2 h3 h4 h5 h6 h7 h8 h9 h10 h11 h12 h13 h14 h15 h16 h17 h18 h19 h20 h21 h22 h23
        go_wp2_with fail
        go_ret
        exact ⟨rfl, HB.out.trans (HW.out.mono HB.out.size)⟩
    · skip
      go_wp2_with (first | (refine wpList_load_row rfl 27 (.tmp 2) rfl w.heap.size rfl _ (scells s).toArray _ _ HR1.out Try.underlying27 rfl (size_scells _) ?_) | (refine wpList_load_row rfl 27 (.tmp 3) rfl (w.heap.size + 1) rfl _ (scells t).toArray _ _ HR2.out Try.underlying27 rfl (size_scells _) ?_) | (refine wpList_load_row_g (by rfl) 27 (.tmp 2) rfl w.heap.size rfl _ (scells s).toArray _ _ HR1.out Try.underlying27 rfl (size_scells _) ?_) | (refine wpList_load_row_g (by rfl) 27 (.tmp 3) rfl (w.heap.size + 1) rfl _ (scells t).toArray _ _ HR2.out Try.underlying27 rfl (size_scells _) ?_))
      refine (encode_none t ht v1 ft).mono ?_
      rintro e v2 ⟨rfl, kk⟩
      replace HR1 := Lib.hid (HR1.out.below HR1.out.lt kk)
      replace HR2 := Lib.hid (HR2.out.below HR2.out.lt kk)
      replace HP1 := Lib.hid (HP1.out.below kk)
      replace HB := Lib.hid (HB.out.trans (kk.mono HB.out.size))
      clear kk
      go_wp2_with (first | (refine wpList_load_row rfl 27 (.tmp 2) rfl w.heap.size rfl _ (scells s).toArray _ _ HR1.out Try.underlying27 rfl (size_scells _) ?_) | (refine wpList_load_row rfl 27 (.tmp 3) rfl (w.heap.size + 1) rfl _ (scells t).toArray _ _ HR2.out Try.underlying27 rfl (size_scells _) ?_) | (refine wpList_load_row_g (by rfl) 27 (.tmp 2) rfl w.heap.size rfl _ (scells s).toArray _ _ HR1.out Try.underlying27 rfl (size_scells _) ?_) | (refine wpList_load_row_g (by rfl) 27 (.tmp 3) rfl (w.heap.size + 1) rfl _ (scells t).toArray _ _ HR2.out Try.underlying27 rfl (size_scells _) ?_))
      refine (right_yes s hs fs v2).mono ?_
      rintro e v3 ⟨rfl, kk⟩
      replace HR1 := Lib.hid (HR1.out.below HR1.out.lt kk)
      replace HR2 := Lib.hid (HR2.out.below HR2.out.lt kk)
      replace HP1 := Lib.hid (HP1.out.below kk)
      replace HB := Lib.hid (HB.out.trans (kk.mono HB.out.size))
      clear kk
      go_wp2_with (first | (refine wpList_load_row rfl 27 (.tmp 2) rfl w.heap.size rfl _ (scells s).toArray _ _ HR1.out Try.underlying27 rfl (size_scells _) ?_) | (refine wpList_load_row rfl 27 (.tmp 3) rfl (w.heap.size + 1) rfl _ (scells t).toArray _ _ HR2.out Try.underlying27 rfl (size_scells _) ?_) | (refine wpList_load_row_g (by rfl) 27 (.tmp 2) rfl w.heap.size rfl _ (scells s).toArray _ _ HR1.out Try.underlying27 rfl (size_scells _) ?_) | (refine wpList_load_row_g (by rfl) 27 (.tmp 3) rfl (w.heap.size + 1) rfl _ (scells t).toArray _ _ HR2.out Try.underlying27 rfl (size_scells _) ?_))
      refine (right_no t ht ft v3).mono ?_
      rintro e v4 ⟨rfl, kk⟩
      replace HR1 := Lib.hid (HR1.out.below HR1.out.lt kk)
      replace HR2 := Lib.hid (HR2.out.below HR2.out.lt kk)
      replace HP1 := Lib.hid (HP1.out.below kk)
      replace HB := Lib.hid (HB.out.trans (kk.mono HB.out.size))
      clear kk
      go_wp2_with fail
      refine (decode_sup hs fs HP1.out).mono ?_
      rintro e v5 ⟨rfl, kk⟩
      replace HR1 := Lib.hid (HR1.out.below HR1.out.lt kk)
      replace HR2 := Lib.hid (HR2.out.below HR2.out.lt kk)
      replace HP1 := Lib.hid (HP1.out.below kk)
      replace HB := Lib.hid (HB.out.trans (kk.mono HB.out.size))
      clear kk
      have hst := run_storeCells_new (P := Try.prog) v5 27 #[(.int .u64 0), (.int .u32 0), (.int .u32 0), (.int .u32 0), (.int .u32 0), (.int .u32 0), (.int .u32 0), (.int .u32 0), (.int .u32 0), (.int .u32 0), (.int .u64 0), (.int .u64 0), (.int .u64 0), (.int .u64 0), (.int .u64 0), (.int .u64 0), (.int .u64 0), (.int .u64 0)] (scells s).toArray (size_scells _) (by simp [length_scells]) (one_scells _)
      have hlc := length_scells s
      go_upto_region 8 with (fail)
      clear hst hlc
      have HX := Lib.hid (alloc_rowV v5 27 (scells s))
      have kk := (Below.refl v5.heap.size v5).alloc (Nat.le_refl _) (.cells (scells s).toArray 27)
      replace HR1 := Lib.hid (HR1.out.below HR1.out.lt kk)
      replace HR2 := Lib.hid (HR2.out.below HR2.out.lt kk)
      replace HP1 := Lib.hid (HP1.out.below kk)
      replace HB := Lib.hid (HB.out.trans (kk.mono HB.out.size))
      clear kk
      generalize v5.alloc (.cells (scells s).toArray 27) = v6 at *
      generalize v5.heap.size = x9 at *
      refine Inv.wp_region_inv (fun b a wy => ∃ z4 z50 z51 z52 z53 z54 z55 z56 z57 z58 z59 z60 z61 z62 z63 z64 z65 z66 z67 z68 z69 z70 z71 z72, a = ⟨#[Value.agg (scells s).toArray, Value.agg (scells t).toArray, Value.pointer (some { block := w.heap.size, off := 0 }), Value.pointer (some { block := w.heap.size + 1, off := 0 }), z4, Value.slice (some { block := g1, off := 0 }) 128 128, Value.int IntKind.i64 0, Value.slice none 0 0, Value.int IntKind.i64 60, Value.pointer (some { block := x9, off := 0 }), Value.int IntKind.i64 0, Value.tuple #[Value.slice (some { block := g1, off := 0 }) 128 128, Value.int IntKind.i64 0], Value.agg (scells s).toArray, Value.tuple #[Value.slice (some { block := g1, off := 0 }) 128 128, Value.int IntKind.i64 0], Value.slice (some { block := g1, off := 0 }) 128 128, Value.int IntKind.i64 0, Value.tuple #[Value.slice none 0 0, Value.int IntKind.i64 60], Value.agg (scells t).toArray, Value.tuple #[Value.slice none 0 0, Value.int IntKind.i64 60], Value.slice none 0 0, Value.int IntKind.i64 60, Value.int IntKind.i64 0, Value.bool true, Value.agg (scells s).toArray, Value.bool true, Value.bool false, Value.bool false, Value.int IntKind.i64 60, Value.bool false, Value.agg (scells t).toArray, Value.bool false, Value.bool false, Value.bool false, Value.int IntKind.i64 0, Value.bool false, undef, undef, undef, undef, undef, undef, undef, undef, undef, undef, Value.tuple #[Value.agg (scells s).toArray, Value.int IntKind.i64 0], Value.slice (some { block := g1, off := 0 }) 128 128, Value.tuple #[Value.agg (scells s).toArray, Value.int IntKind.i64 0], Value.agg (scells s).toArray, Value.int IntKind.i64 0, z50, z51, z52, z53, z54, z55, z56, z57, z58, z59, z60, z61, z62, z63, z64, z65, z66, z67, z68, z69, z70, z71, z72], []⟩ ∧ Hid ((b 0 = true → z50 = Value.int IntKind.i64 0) ∧ (b 1 = true → z51 = .bool true) ∧ (b 2 = true → z52 = .bool true) ∧ (b 3 = true → z53 = .agg (scells s).toArray) ∧ (b 4 = true → z54 = .agg (scells s).toArray) ∧ (b 5 = true → z55 = .bool true) ∧ (b 6 = true → z56 = .bool true) ∧ (b 7 = true → z57 = .bool true) ∧ (b 8 = true → z58 = Value.int IntKind.i64 60) ∧ (b 9 = true → z59 = .bool true) ∧ (b 10 = true → z60 = .bool true) ∧ (b 11 = true → z61 = undef) ∧ (b 12 = true → z62 = undef) ∧ (b 13 = true → z63 = undef) ∧ (b 14 = true → z64 = undef) ∧ (b 15 = true → z65 = undef) ∧ (b 16 = true → z66 = undef) ∧ (b 17 = true → z67 = undef) ∧ (b 18 = true → z68 = Value.bool true) ∧ (b 19 = true → z69 = Value.bool true) ∧ (b 20 = true → z70 = Value.bool true) ∧ (b 21 = true → z71 = .bool true) ∧ (b 22 = true → z72 = .bool true) ∧ (b 23 = true → z4 = .bool true)) ∧ Hid (Below v6.heap.size v6 wy)) (by kernel_rfl) (by kernel_rfl) ?startR0 ?stepsR0 ?doneR0
      case startR0 =>
        intro b hb
        refine ⟨Value.bool false, undef, undef, undef, undef, undef, undef, undef, undef, undef, undef, undef, undef, undef, undef, undef, undef, undef, undef, undef, undef, undef, undef, undef, rfl, Lib.hid ⟨?_, ?_, ?_, ?_, ?_, ?_, ?_, ?_, ?_, ?_, ?_, ?_, ?_, ?_, ?_, ?_, ?_, ?_, ?_, ?_, ?_, ?_, ?_, ?_⟩, Lib.hid ((show Still v6 v6.drew from ⟨rfl, rfl, rfl, rfl⟩).below _)⟩
        all_goals (intro e; first | rfl | (rw [hb _ (by decide)] at e; cases e))
      case stepsR0 =>
        refine ⟨?_, ?_, ?_, ?_, ?_, ?_, ?_, ?_, ?_, ?_, ?_, ?_, ?_, ?_, ?_, ?_, ?_, ?_, ?_, ?_, ?_, ?_, ?_, ?_, trivial⟩
        · rintro b a wy hb hd ⟨z4, z50, z51, z52, z53, z54, z55, z56, z57, z58, z59, z60, z61, z62, z63, z64, z65, z66, z67, z68, z69, z70, z71, z72, rfl, HV, HW⟩ K hK
          obtain ⟨h0, h1, h2, h3, h4, h5, h6, h7, h8, h9, h10, h11, h12, h13, h14, h15, h16, h17, h18, h19, h20, h21, h22, h23⟩ := HV.out
          clear hd
          go_simp
          exact hK _ _ ⟨_, _, _, _, _, _, _, _, _, _, _, _, _, _, _, _, _, _, _, _, _, _, _, _, rfl, Lib.hid ⟨fun _ => rfl, h1, h2, h3, h4, h5, h6, h7, h8, h9, h10, h11, h12, h13, h14, h15, h16, h17, h18, h19, h20, h21, h22, h23⟩, HW⟩
        · rintro b a wy hb hd ⟨z4, z50, z51, z52, z53, z54, z55, z56, z57, z58, z59, z60, z61, z62, z63, z64, z65, z66, z67, z68, z69, z70, z71, z72, rfl, HV, HW⟩ K hK
          obtain ⟨h0, h1, h2, h3, h4, h5, h6, h7, h8, h9, h10, h11, h12, h13, h14, h15, h16, h17, h18, h19, h20, h21, h22, h23⟩ := HV.out
          simp [Region.binds] at hd
          obtain rfl := h0 (by simp [hd])
          clear hd
          go_simp
          exact hK _ _ ⟨_, _, _, _, _, _, _, _, _, _, _, _, _, _, _, _, _, _, _, _, _, _, _, _, rfl, Lib.hid ⟨h0, fun _ => rfl, h2, h3, h4, h5, h6, h7, h8, h9, h10, h11, h12, h13, h14, h15, h16, h17, h18, h19, h20, h21, h22, h23⟩, HW⟩
        · rintro b a wy hb hd ⟨z4, z50, z51, z52, z53, z54, z55, z56, z57, z58, z59, z60, z61, z62, z63, z64, z65, z66, z67, z68, z69, z70, z71, z72, rfl, HV, HW⟩ K hK
          obtain ⟨h0, h1, h2, h3, h4, h5, h6, h7, h8, h9, h10, h11, h12, h13, h14, h15, h16, h17, h18, h19, h20, h21, h22, h23⟩ := HV.out
          simp [Region.binds] at hd
          obtain rfl := h1 (by simp [hd])
          clear hd
          go_simp
          exact hK _ _ ⟨_, _, _, _, _, _, _, _, _, _, _, _, _, _, _, _, _, _, _, _, _, _, _, _, rfl, Lib.hid ⟨h0, h1, fun _ => rfl, h3, h4, h5, h6, h7, h8, h9, h10, h11, h12, h13, h14, h15, h16, h17, h18, h19, h20, h21, h22, h23⟩, HW⟩
        · rintro b a wy hb hd ⟨z4, z50, z51, z52, z53, z54, z55, z56, z57, z58, z59, z60, z61, z62, z63, z64, z65, z66, z67, z68, z69, z70, z71, z72, rfl, HV, HW⟩ K hK
          obtain ⟨h0, h1, h2, h3, h4, h5, h6, h7, h8, h9, h10, h11, h12, h13, h14, h15, h16, h17, h18, h19, h20, h21, h22, h23⟩ := HV.out
          simp [Region.binds] at hd
          obtain rfl := h2 (by simp [hd])
          clear hd
          refine if_wanted (by rfl) (wp_load_row 27 (.tmp 9) rfl x9 rfl _ (scells s).toArray _ _ (HX.out.below HX.out.lt HW.out) Try.underlying27 rfl (size_scells _) ?_)
          exact hK _ _ ⟨_, _, _, _, _, _, _, _, _, _, _, _, _, _, _, _, _, _, _, _, _, _, _, _, rfl, Lib.hid ⟨h0, h1, h2, fun _ => rfl, h4, h5, h6, h7, h8, h9, h10, h11, h12, h13, h14, h15, h16, h17, h18, h19, h20, h21, h22, h23⟩, HW⟩
        · rintro b a wy hb hd ⟨z4, z50, z51, z52, z53, z54, z55, z56, z57, z58, z59, z60, z61, z62, z63, z64, z65, z66, z67, z68, z69, z70, z71, z72, rfl, HV, HW⟩ K hK
          obtain ⟨h0, h1, h2, h3, h4, h5, h6, h7, h8, h9, h10, h11, h12, h13, h14, h15, h16, h17, h18, h19, h20, h21, h22, h23⟩ := HV.out
          simp [Region.binds] at hd
          obtain rfl := h2 (by simp [hd])
          clear hd
          refine if_wanted (by rfl) (wp_load_row 27 (.tmp 2) rfl w.heap.size rfl _ (scells s).toArray _ _ (HR1.out.below HR1.out.lt HW.out) Try.underlying27 rfl (size_scells _) ?_)
          exact hK _ _ ⟨_, _, _, _, _, _, _, _, _, _, _, _, _, _, _, _, _, _, _, _, _, _, _, _, rfl, Lib.hid ⟨h0, h1, h2, h3, fun _ => rfl, h5, h6, h7, h8, h9, h10, h11, h12, h13, h14, h15, h16, h17, h18, h19, h20, h21, h22, h23⟩, HW⟩
        · rintro b a wy hb hd ⟨z4, z50, z51, z52, z53, z54, z55, z56, z57, z58, z59, z60, z61, z62, z63, z64, z65, z66, z67, z68, z69, z70, z71, z72, rfl, HV, HW⟩ K hK
          obtain ⟨h0, h1, h2, h3, h4, h5, h6, h7, h8, h9, h10, h11, h12, h13, h14, h15, h16, h17, h18, h19, h20, h21, h22, h23⟩ := HV.out
          simp [Region.binds] at hd
          obtain rfl := h2 (by simp [hd])
          obtain rfl := h3 (by simp [hd])
          obtain rfl := h4 (by simp [hd])
          clear hd
          refine if_wanted (by rfl) (wp_eql_sup (.tmp 53) (.tmp 54) _ rfl s s hs hs rfl rfl ?_)
          rw [show (s == s) = true from by simp]
          exact hK _ _ ⟨_, _, _, _, _, _, _, _, _, _, _, _, _, _, _, _, _, _, _, _, _, _, _, _, rfl, Lib.hid ⟨h0, h1, h2, h3, h4, fun _ => rfl, h6, h7, h8, h9, h10, h11, h12, h13, h14, h15, h16, h17, h18, h19, h20, h21, h22, h23⟩, HW⟩
        · rintro b a wy hb hd ⟨z4, z50, z51, z52, z53, z54, z55, z56, z57, z58, z59, z60, z61, z62, z63, z64, z65, z66, z67, z68, z69, z70, z71, z72, rfl, HV, HW⟩ K hK
          obtain ⟨h0, h1, h2, h3, h4, h5, h6, h7, h8, h9, h10, h11, h12, h13, h14, h15, h16, h17, h18, h19, h20, h21, h22, h23⟩ := HV.out
          simp [Region.binds] at hd
          obtain rfl := h2 (by simp [hd])
          obtain rfl := h5 (by simp [hd])
          clear hd
          go_simp
          exact hK _ _ ⟨_, _, _, _, _, _, _, _, _, _, _, _, _, _, _, _, _, _, _, _, _, _, _, _, rfl, Lib.hid ⟨h0, h1, h2, h3, h4, h5, fun _ => rfl, h7, h8, h9, h10, h11, h12, h13, h14, h15, h16, h17, h18, h19, h20, h21, h22, h23⟩, HW⟩
        · rintro b a wy hb hd ⟨z4, z50, z51, z52, z53, z54, z55, z56, z57, z58, z59, z60, z61, z62, z63, z64, z65, z66, z67, z68, z69, z70, z71, z72, rfl, HV, HW⟩ K hK
          obtain ⟨h0, h1, h2, h3, h4, h5, h6, h7, h8, h9, h10, h11, h12, h13, h14, h15, h16, h17, h18, h19, h20, h21, h22, h23⟩ := HV.out
          simp [Region.binds] at hd
          obtain rfl := h6 (by simp [hd])
          clear hd
          go_simp
          exact hK _ _ ⟨_, _, _, _, _, _, _, _, _, _, _, _, _, _, _, _, _, _, _, _, _, _, _, _, rfl, Lib.hid ⟨h0, h1, h2, h3, h4, h5, h6, fun _ => rfl, h8, h9, h10, h11, h12, h13, h14, h15, h16, h17, h18, h19, h20, h21, h22, h23⟩, HW⟩
        · rintro b a wy hb hd ⟨z4, z50, z51, z52, z53, z54, z55, z56, z57, z58, z59, z60, z61, z62, z63, z64, z65, z66, z67, z68, z69, z70, z71, z72, rfl, HV, HW⟩ K hK
          obtain ⟨h0, h1, h2, h3, h4, h5, h6, h7, h8, h9, h10, h11, h12, h13, h14, h15, h16, h17, h18, h19, h20, h21, h22, h23⟩ := HV.out
          simp [Region.binds] at hd
          obtain rfl := h7 (by simp [hd])
          clear hd
          go_simp
          exact hK _ _ ⟨_, _, _, _, _, _, _, _, _, _, _, _, _, _, _, _, _, _, _, _, _, _, _, _, rfl, Lib.hid ⟨h0, h1, h2, h3, h4, h5, h6, h7, fun _ => rfl, h9, h10, h11, h12, h13, h14, h15, h16, h17, h18, h19, h20, h21, h22, h23⟩, HW⟩
        · rintro b a wy hb hd ⟨z4, z50, z51, z52, z53, z54, z55, z56, z57, z58, z59, z60, z61, z62, z63, z64, z65, z66, z67, z68, z69, z70, z71, z72, rfl, HV, HW⟩ K hK
          obtain ⟨h0, h1, h2, h3, h4, h5, h6, h7, h8, h9, h10, h11, h12, h13, h14, h15, h16, h17, h18, h19, h20, h21, h22, h23⟩ := HV.out
          simp [Region.binds] at hd
          obtain rfl := h7 (by simp [hd])
          obtain rfl := h8 (by simp [hd])
          clear hd
          go_simp
          exact hK _ _ ⟨_, _, _, _, _, _, _, _, _, _, _, _, _, _, _, _, _, _, _, _, _, _, _, _, rfl, Lib.hid ⟨h0, h1, h2, h3, h4, h5, h6, h7, h8, fun _ => rfl, h10, h11, h12, h13, h14, h15, h16, h17, h18, h19, h20, h21, h22, h23⟩, HW⟩
        · rintro b a wy hb hd ⟨z4, z50, z51, z52, z53, z54, z55, z56, z57, z58, z59, z60, z61, z62, z63, z64, z65, z66, z67, z68, z69, z70, z71, z72, rfl, HV, HW⟩ K hK
          obtain ⟨h0, h1, h2, h3, h4, h5, h6, h7, h8, h9, h10, h11, h12, h13, h14, h15, h16, h17, h18, h19, h20, h21, h22, h23⟩ := HV.out
          simp [Region.binds] at hd
          obtain rfl := h7 (by simp [hd])
          obtain rfl := h9 (by simp [hd])
          clear hd
          go_simp
          exact hK _ _ ⟨_, _, _, _, _, _, _, _, _, _, _, _, _, _, _, _, _, _, _, _, _, _, _, _, rfl, Lib.hid ⟨h0, h1, h2, h3, h4, h5, h6, h7, h8, h9, fun _ => rfl, h11, h12, h13, h14, h15, h16, h17, h18, h19, h20, h21, h22, h23⟩, HW⟩
        · rintro b a wy hb hd ⟨z4, z50, z51, z52, z53, z54, z55, z56, z57, z58, z59, z60, z61, z62, z63, z64, z65, z66, z67, z68, z69, z70, z71, z72, rfl, HV, HW⟩ K hK
          obtain ⟨h0, h1, h2, h3, h4, h5, h6, h7, h8, h9, h10, h11, h12, h13, h14, h15, h16, h17, h18, h19, h20, h21, h22, h23⟩ := HV.out
          simp [Region.binds] at hd
          obtain rfl := h10 (by simp [hd])
          clear hd
          go_simp
          exact hK _ _ ⟨_, _, _, _, _, _, _, _, _, _, _, _, _, _, _, _, _, _, _, _, _, _, _, _, rfl, Lib.hid ⟨h0, h1, h2, h3, h4, h5, h6, h7, h8, h9, h10, fun _ => rfl, h12, h13, h14, h15, h16, h17, h18, h19, h20, h21, h22, h23⟩, HW⟩
        · rintro b a wy hb hd ⟨z4, z50, z51, z52, z53, z54, z55, z56, z57, z58, z59, z60, z61, z62, z63, z64, z65, z66, z67, z68, z69, z70, z71, z72, rfl, HV, HW⟩ K hK
          obtain ⟨h0, h1, h2, h3, h4, h5, h6, h7, h8, h9, h10, h11, h12, h13, h14, h15, h16, h17, h18, h19, h20, h21, h22, h23⟩ := HV.out
          simp [Region.binds] at hd
          obtain rfl := h10 (by simp [hd])
          clear hd
          go_simp
          exact hK _ _ ⟨_, _, _, _, _, _, _, _, _, _, _, _, _, _, _, _, _, _, _, _, _, _, _, _, rfl, Lib.hid ⟨h0, h1, h2, h3, h4, h5, h6, h7, h8, h9, h10, h11, fun _ => rfl, h13, h14, h15, h16, h17, h18, h19, h20, h21, h22, h23⟩, HW⟩
        · rintro b a wy hb hd ⟨z4, z50, z51, z52, z53, z54, z55, z56, z57, z58, z59, z60, z61, z62, z63, z64, z65, z66, z67, z68, z69, z70, z71, z72, rfl, HV, HW⟩ K hK
          obtain ⟨h0, h1, h2, h3, h4, h5, h6, h7, h8, h9, h10, h11, h12, h13, h14, h15, h16, h17, h18, h19, h20, h21, h22, h23⟩ := HV.out
          simp [Region.binds] at hd
          obtain rfl := h10 (by simp [hd])
          clear hd
          go_simp
          exact hK _ _ ⟨_, _, _, _, _, _, _, _, _, _, _, _, _, _, _, _, _, _, _, _, _, _, _, _, rfl, Lib.hid ⟨h0, h1, h2, h3, h4, h5, h6, h7, h8, h9, h10, h11, h12, fun _ => rfl, h14, h15, h16, h17, h18, h19, h20, h21, h22, h23⟩, HW⟩
        · rintro b a wy hb hd ⟨z4, z50, z51, z52, z53, z54, z55, z56, z57, z58, z59, z60, z61, z62, z63, z64, z65, z66, z67, z68, z69, z70, z71, z72, rfl, HV, HW⟩ K hK
          obtain ⟨h0, h1, h2, h3, h4, h5, h6, h7, h8, h9, h10, h11, h12, h13, h14, h15, h16, h17, h18, h19, h20, h21, h22, h23⟩ := HV.out
          simp [Region.binds] at hd
          obtain rfl := h10 (by simp [hd])
          clear hd
          go_simp
          exact hK _ _ ⟨_, _, _, _, _, _, _, _, _, _, _, _, _, _, _, _, _, _, _, _, _, _, _, _, rfl, Lib.hid ⟨h0, h1, h2, h3, h4, h5, h6, h7, h8, h9, h10, h11, h12, h13, fun _ => rfl, h15, h16, h17, h18, h19, h20, h21, h22, h23⟩, HW⟩
        · rintro b a wy hb hd ⟨z4, z50, z51, z52, z53, z54, z55, z56, z57, z58, z59, z60, z61, z62, z63, z64, z65, z66, z67, z68, z69, z70, z71, z72, rfl, HV, HW⟩ K hK
          obtain ⟨h0, h1, h2, h3, h4, h5, h6, h7, h8, h9, h10, h11, h12, h13, h14, h15, h16, h17, h18, h19, h20, h21, h22, h23⟩ := HV.out
          simp [Region.binds] at hd
          obtain rfl := h10 (by simp [hd])
          clear hd
          go_simp
          exact hK _ _ ⟨_, _, _, _, _, _, _, _, _, _, _, _, _, _, _, _, _, _, _, _, _, _, _, _, rfl, Lib.hid ⟨h0, h1, h2, h3, h4, h5, h6, h7, h8, h9, h10, h11, h12, h13, h14, fun _ => rfl, h16, h17, h18, h19, h20, h21, h22, h23⟩, HW⟩
        · rintro b a wy hb hd ⟨z4, z50, z51, z52, z53, z54, z55, z56, z57, z58, z59, z60, z61, z62, z63, z64, z65, z66, z67, z68, z69, z70, z71, z72, rfl, HV, HW⟩ K hK
          obtain ⟨h0, h1, h2, h3, h4, h5, h6, h7, h8, h9, h10, h11, h12, h13, h14, h15, h16, h17, h18, h19, h20, h21, h22, h23⟩ := HV.out
          simp [Region.binds] at hd
          obtain rfl := h10 (by simp [hd])
          clear hd
          go_simp
          exact hK _ _ ⟨_, _, _, _, _, _, _, _, _, _, _, _, _, _, _, _, _, _, _, _, _, _, _, _, rfl, Lib.hid ⟨h0, h1, h2, h3, h4, h5, h6, h7, h8, h9, h10, h11, h12, h13, h14, h15, fun _ => rfl, h17, h18, h19, h20, h21, h22, h23⟩, HW⟩
        · rintro b a wy hb hd ⟨z4, z50, z51, z52, z53, z54, z55, z56, z57, z58, z59, z60, z61, z62, z63, z64, z65, z66, z67, z68, z69, z70, z71, z72, rfl, HV, HW⟩ K hK
          obtain ⟨h0, h1, h2, h3, h4, h5, h6, h7, h8, h9, h10, h11, h12, h13, h14, h15, h16, h17, h18, h19, h20, h21, h22, h23⟩ := HV.out
          simp [Region.binds] at hd
          obtain rfl := h10 (by simp [hd])
          clear hd
          go_simp
          exact hK _ _ ⟨_, _, _, _, _, _, _, _, _, _, _, _, _, _, _, _, _, _, _, _, _, _, _, _, rfl, Lib.hid ⟨h0, h1, h2, h3, h4, h5, h6, h7, h8, h9, h10, h11, h12, h13, h14, h15, h16, fun _ => rfl, h18, h19, h20, h21, h22, h23⟩, HW⟩
        · rintro b a wy hb hd ⟨z4, z50, z51, z52, z53, z54, z55, z56, z57, z58, z59, z60, z61, z62, z63, z64, z65, z66, z67, z68, z69, z70, z71, z72, rfl, HV, HW⟩ K hK
          obtain ⟨h0, h1, h2, h3, h4, h5, h6, h7, h8, h9, h10, h11, h12, h13, h14, h15, h16, h17, h18, h19, h20, h21, h22, h23⟩ := HV.out
          simp [Region.binds] at hd
          obtain rfl := h7 (by simp [hd])
          obtain rfl := h10 (by simp [hd])
          obtain rfl := h17 (by simp [hd])
          clear hd
          go_simp
          exact hK _ _ ⟨_, _, _, _, _, _, _, _, _, _, _, _, _, _, _, _, _, _, _, _, _, _, _, _, rfl, Lib.hid ⟨h0, h1, h2, h3, h4, h5, h6, h7, h8, h9, h10, h11, h12, h13, h14, h15, h16, h17, fun _ => rfl, h19, h20, h21, h22, h23⟩, HW⟩
        · rintro b a wy hb hd ⟨z4, z50, z51, z52, z53, z54, z55, z56, z57, z58, z59, z60, z61, z62, z63, z64, z65, z66, z67, z68, z69, z70, z71, z72, rfl, HV, HW⟩ K hK
          obtain ⟨h0, h1, h2, h3, h4, h5, h6, h7, h8, h9, h10, h11, h12, h13, h14, h15, h16, h17, h18, h19, h20, h21, h22, h23⟩ := HV.out
          simp [Region.binds] at hd
          obtain rfl := h7 (by simp [hd])
          obtain rfl := h18 (by simp [hd])
          clear hd
          go_simp
          exact hK _ _ ⟨_, _, _, _, _, _, _, _, _, _, _, _, _, _, _, _, _, _, _, _, _, _, _, _, rfl, Lib.hid ⟨h0, h1, h2, h3, h4, h5, h6, h7, h8, h9, h10, h11, h12, h13, h14, h15, h16, h17, h18, fun _ => rfl, h20, h21, h22, h23⟩, HW⟩
        · rintro b a wy hb hd ⟨z4, z50, z51, z52, z53, z54, z55, z56, z57, z58, z59, z60, z61, z62, z63, z64, z65, z66, z67, z68, z69, z70, z71, z72, rfl, HV, HW⟩ K hK
          obtain ⟨h0, h1, h2, h3, h4, h5, h6, h7, h8, h9, h10, h11, h12, h13, h14, h15, h16, h17, h18, h19, h20, h21, h22, h23⟩ := HV.out
          simp [Region.binds] at hd
          obtain rfl := h19 (by simp [hd])
          clear hd
          go_simp
          exact hK _ _ ⟨_, _, _, _, _, _, _, _, _, _, _, _, _, _, _, _, _, _, _, _, _, _, _, _, rfl, Lib.hid ⟨h0, h1, h2, h3, h4, h5, h6, h7, h8, h9, h10, h11, h12, h13, h14, h15, h16, h17, h18, h19, fun _ => rfl, h21, h22, h23⟩, HW⟩
        · rintro b a wy hb hd ⟨z4, z50, z51, z52, z53, z54, z55, z56, z57, z58, z59, z60, z61, z62, z63, z64, z65, z66, z67, z68, z69, z70, z71, z72, rfl, HV, HW⟩ K hK
          obtain ⟨h0, h1, h2, h3, h4, h5, h6, h7, h8, h9, h10, h11, h12, h13, h14, h15, h16, h17, h18, h19, h20, h21, h22, h23⟩ := HV.out
          simp [Region.binds] at hd
          obtain rfl := h20 (by simp [hd])
          clear hd
          go_simp
          go_at_call 10
          refine (awake_any wy).mono ?_
          rintro e wz ⟨rfl, kz⟩
          try go_simp
          exact hK _ _ ⟨_, _, _, _, _, _, _, _, _, _, _, _, _, _, _, _, _, _, _, _, _, _, _, _, rfl, Lib.hid ⟨h0, h1, h2, h3, h4, h5, h6, h7, h8, h9, h10, h11, h12, h13, h14, h15, h16, h17, h18, h19, h20, fun _ => rfl, h22, h23⟩, Lib.hid (HW.out.trans (kz.mono HW.out.size))⟩
        · rintro b a wy hb hd ⟨z4, z50, z51, z52, z53, z54, z55, z56, z57, z58, z59, z60, z61, z62, z63, z64, z65, z66, z67, z68, z69, z70, z71, z72, rfl, HV, HW⟩ K hK
          obtain ⟨h0, h1, h2, h3, h4, h5, h6, h7, h8, h9, h10, h11, h12, h13, h14, h15, h16, h17, h18, h19, h20, h21, h22, h23⟩ := HV.out
          simp [Region.binds] at hd
          obtain rfl := h20 (by simp [hd])
          obtain rfl := h21 (by simp [hd])
          clear hd
          go_simp
          exact hK _ _ ⟨_, _, _, _, _, _, _, _, _, _, _, _, _, _, _, _, _, _, _, _, _, _, _, _, rfl, Lib.hid ⟨h0, h1, h2, h3, h4, h5, h6, h7, h8, h9, h10, h11, h12, h13, h14, h15, h16, h17, h18, h19, h20, h21, fun _ => rfl, h23⟩, HW⟩
        · rintro b a wy hb hd ⟨z4, z50, z51, z52, z53, z54, z55, z56, z57, z58, z59, z60, z61, z62, z63, z64, z65, z66, z67, z68, z69, z70, z71, z72, rfl, HV, HW⟩ K hK
          obtain ⟨h0, h1, h2, h3, h4, h5, h6, h7, h8, h9, h10, h11, h12, h13, h14, h15, h16, h17, h18, h19, h20, h21, h22, h23⟩ := HV.out
          simp [Region.binds] at hd
          obtain rfl := h22 (by simp [hd])
          clear hd
          go_simp
          exact hK _ _ ⟨_, _, _, _, _, _, _, _, _, _, _, _, _, _, _, _, _, _, _, _, _, _, _, _, rfl, Lib.hid ⟨h0, h1, h2, h3, h4, h5, h6, h7, h8, h9, h10, h11, h12, h13, h14, h15, h16, h17, h18, h19, h20, h21, h22, fun _ => rfl⟩, HW⟩
      case doneR0 =>
        rintro b a wy hb ⟨z4, z50, z51, z52, z53, z54, z55, z56, z57, z58, z59, z60, z61, z62, z63, z64, z65, z66, z67, z68, z69, z70, z71, z72, rfl, HV, HW⟩
        obtain ⟨h0, h1, h2, h3, h4, h5, h6, h7, h8, h9, h10, h11, h12, h13, h14, h15, h16, h17, h18, h19, h20, h21, h22, h23⟩ := HV.out
        obtain rfl := h0 (hb 0)
        obtain rfl := h1 (hb 1)
        obtain rfl := h2 (hb 2)
        obtain rfl := h3 (hb 3)
        obtain rfl := h4 (hb 4)
        obtain rfl := h5 (hb 5)
        obtain rfl := h6 (hb 6)
        obtain rfl := h7 (hb 7)
        obtain rfl := h8 (hb 8)
        obtain rfl := h9 (hb 9)
        obtain rfl := h10 (hb 10)
        obtain rfl := h11 (hb 11)
        obtain rfl := h12 (hb 12)
        obtain rfl := h13 (hb 13)
        obtain rfl := h14 (hb 14)
        obtain rfl := h15 (hb 15)
        obtain rfl := h16 (hb 16)
        obtain rfl := h17 (hb 17)
        obtain rfl := h18 (hb 18)
        obtain rfl := h19 (hb 19)
        obtain rfl := h20 (hb 20)
        obtain rfl := h21 (hb 21)
        obtain rfl := h22 (hb 22)
        obtain rfl := h23 (hb 23)
        clear HV hb h0 h1 h2 h3 h4 h5 h6 h7 h8 h9 h10 h11 h12 h13 h14 h15 h16 h17 h18 h19 h20 h21 h22 h23
        go_wp2_with fail
        go_ret
        exact ⟨rfl, HB.out.trans (HW.out.mono HB.out.size)⟩
  · skip
    go_wp2_with (first | (refine wpList_load_row rfl 27 (.tmp 2) rfl w.heap.size rfl _ (scells s).toArray _ _ HR1.out Try.underlying27 rfl (size_scells _) ?_) | (refine wpList_load_row rfl 27 (.tmp 3) rfl (w.heap.size + 1) rfl _ (scells t).toArray _ _ HR2.out Try.underlying27 rfl (size_scells _) ?_) | (refine wpList_load_row_g (by rfl) 27 (.tmp 2) rfl w.heap.size rfl _ (scells s).toArray _ _ HR1.out Try.underlying27 rfl (size_scells _) ?_) | (refine wpList_load_row_g (by rfl) 27 (.tmp 3) rfl (w.heap.size + 1) rfl _ (scells t).toArray _ _ HR2.out Try.underlying27 rfl (size_scells _) ?_))
    refine (encode_none s hs v0 fs).mono ?_
    rintro e v1 ⟨rfl, kk⟩
    replace HR1 := Lib.hid (HR1.out.below HR1.out.lt kk)
    replace HR2 := Lib.hid (HR2.out.below HR2.out.lt kk)
    replace HB := Lib.hid (HB.out.trans (kk.mono HB.out.size))
    clear kk
    by_cases ft : Fit t
    · skip
      go_wp2_with (first | (refine wpList_load_row rfl 27 (.tmp 2) rfl w.heap.size rfl _ (scells s).toArray _ _ HR1.out Try.underlying27 rfl (size_scells _) ?_) | (refine wpList_load_row rfl 27 (.tmp 3) rfl (w.heap.size + 1) rfl _ (scells t).toArray _ _ HR2.out Try.underlying27 rfl (size_scells _) ?_) | (refine wpList_load_row_g (by rfl) 27 (.tmp 2) rfl w.heap.size rfl _ (scells s).toArray _ _ HR1.out Try.underlying27 rfl (size_scells _) ?_) | (refine wpList_load_row_g (by rfl) 27 (.tmp 3) rfl (w.heap.size + 1) rfl _ (scells t).toArray _ _ HR2.out Try.underlying27 rfl (size_scells _) ?_))
      refine (encode_bts t ht v1 ft).mono ?_
      rintro e v2 ⟨g2, rfl, P2, -, -, kk⟩
      replace HR1 := Lib.hid (HR1.out.below HR1.out.lt kk)
      replace HR2 := Lib.hid (HR2.out.below HR2.out.lt kk)
      replace HB := Lib.hid (HB.out.trans (kk.mono HB.out.size))
      have HP2 := Lib.hid P2
      clear P2
      clear kk
      go_wp2_with (first | (refine wpList_load_row rfl 27 (.tmp 2) rfl w.heap.size rfl _ (scells s).toArray _ _ HR1.out Try.underlying27 rfl (size_scells _) ?_) | (refine wpList_load_row rfl 27 (.tmp 3) rfl (w.heap.size + 1) rfl _ (scells t).toArray _ _ HR2.out Try.underlying27 rfl (size_scells _) ?_) | (refine wpList_load_row_g (by rfl) 27 (.tmp 2) rfl w.heap.size rfl _ (scells s).toArray _ _ HR1.out Try.underlying27 rfl (size_scells _) ?_) | (refine wpList_load_row_g (by rfl) 27 (.tmp 3) rfl (w.heap.size + 1) rfl _ (scells t).toArray _ _ HR2.out Try.underlying27 rfl (size_scells _) ?_))
      refine (right_no s hs fs v2).mono ?_
      rintro e v3 ⟨rfl, kk⟩
      replace HR1 := Lib.hid (HR1.out.below HR1.out.lt kk)
      replace HR2 := Lib.hid (HR2.out.below HR2.out.lt kk)
      replace HP2 := Lib.hid (HP2.out.below kk)
      replace HB := Lib.hid (HB.out.trans (kk.mono HB.out.size))
      clear kk
      go_wp2_with (first | (refine wpList_load_row rfl 27 (.tmp 2) rfl w.heap.size rfl _ (scells s).toArray _ _ HR1.out Try.underlying27 rfl (size_scells _) ?_) | (refine wpList_load_row rfl 27 (.tmp 3) rfl (w.heap.size + 1) rfl _ (scells t).toArray _ _ HR2.out Try.underlying27 rfl (size_scells _) ?_) | (refine wpList_load_row_g (by rfl) 27 (.tmp 2) rfl w.heap.size rfl _ (scells s).toArray _ _ HR1.out Try.underlying27 rfl (size_scells _) ?_) | (refine wpList_load_row_g (by rfl) 27 (.tmp 3) rfl (w.heap.size + 1) rfl _ (scells t).toArray _ _ HR2.out Try.underlying27 rfl (size_scells _) ?_))
      refine (right_yes t ht ft v3).mono ?_
      rintro e v4 ⟨rfl, kk⟩
      replace HR1 := Lib.hid (HR1.out.below HR1.out.lt kk)
      replace HR2 := Lib.hid (HR2.out.below HR2.out.lt kk)
      replace HP2 := Lib.hid (HP2.out.below kk)
      replace HB := Lib.hid (HB.out.trans (kk.mono HB.out.size))
      clear kk
      go_wp2_with fail
      refine (HA.out _ HB.out).mono ?_
      rintro e wl ⟨rfl, kl⟩
      go_wp2_with fail
      go_ret
      exact ⟨rfl, kl⟩
    · skip
      go_wp2_with (first | (refine wpList_load_row rfl 27 (.tmp 2) rfl w.heap.size rfl _ (scells s).toArray _ _ HR1.out Try.underlying27 rfl (size_scells _) ?_) | (refine wpList_load_row rfl 27 (.tmp 3) rfl (w.heap.size + 1) rfl _ (scells t).toArray _ _ HR2.out Try.underlying27 rfl (size_scells _) ?_) | (refine wpList_load_row_g (by rfl) 27 (.tmp 2) rfl w.heap.size rfl _ (scells s).toArray _ _ HR1.out Try.underlying27 rfl (size_scells _) ?_) | (refine wpList_load_row_g (by rfl) 27 (.tmp 3) rfl (w.heap.size + 1) rfl _ (scells t).toArray _ _ HR2.out Try.underlying27 rfl (size_scells _) ?_))
      refine (encode_none t ht v1 ft).mono ?_
      rintro e v2 ⟨rfl, kk⟩
      replace HR1 := Lib.hid (HR1.out.below HR1.out.lt kk)
      replace HR2 := Lib.hid (HR2.out.below HR2.out.lt kk)
      replace HB := Lib.hid (HB.out.trans (kk.mono HB.out.size))
      clear kk
      go_wp2_with (first | (refine wpList_load_row rfl 27 (.tmp 2) rfl w.heap.size rfl _ (scells s).toArray _ _ HR1.out Try.underlying27 rfl (size_scells _) ?_) | (refine wpList_load_row rfl 27 (.tmp 3) rfl (w.heap.size + 1) rfl _ (scells t).toArray _ _ HR2.out Try.underlying27 rfl (size_scells _) ?_) | (refine wpList_load_row_g (by rfl) 27 (.tmp 2) rfl w.heap.size rfl _ (scells s).toArray _ _ HR1.out Try.underlying27 rfl (size_scells _) ?_) | (refine wpList_load_row_g (by rfl) 27 (.tmp 3) rfl (w.heap.size + 1) rfl _ (scells t).toArray _ _ HR2.out Try.underlying27 rfl (size_scells _) ?_))
      refine (right_no s hs fs v2).mono ?_
      rintro e v3 ⟨rfl, kk⟩
      replace HR1 := Lib.hid (HR1.out.below HR1.out.lt kk)
      replace HR2 := Lib.hid (HR2.out.below HR2.out.lt kk)
      replace HB := Lib.hid (HB.out.trans (kk.mono HB.out.size))
      clear kk
      go_wp2_with (first | (refine wpList_load_row rfl 27 (.tmp 2) rfl w.heap.size rfl _ (scells s).toArray _ _ HR1.out Try.underlying27 rfl (size_scells _) ?_) | (refine wpList_load_row rfl 27 (.tmp 3) rfl (w.heap.size + 1) rfl _ (scells t).toArray _ _ HR2.out Try.underlying27 rfl (size_scells _) ?_) | (refine wpList_load_row_g (by rfl) 27 (.tmp 2) rfl w.heap.size rfl _ (scells s).toArray _ _ HR1.out Try.underlying27 rfl (size_scells _) ?_) | (refine wpList_load_row_g (by rfl) 27 (.tmp 3) rfl (w.heap.size + 1) rfl _ (scells t).toArray _ _ HR2.out Try.underlying27 rfl (size_scells _) ?_))
      refine (right_no t ht ft v3).mono ?_
      rintro e v4 ⟨rfl, kk⟩
      replace HR1 := Lib.hid (HR1.out.below HR1.out.lt kk)
      replace HR2 := Lib.hid (HR2.out.below HR2.out.lt kk)
      replace HB := Lib.hid (HB.out.trans (kk.mono HB.out.size))
      clear kk
      go_wp2_with fail
      refine (HA.out _ HB.out).mono ?_
      rintro e wl ⟨rfl, kl⟩
      go_wp2_with fail
      go_ret
      exact ⟨rfl, kl⟩
end Go.Proofs.Ytkhimoclikhlaaa.Su
