/- Contract: awake, the chapter's examples. -/
import Derived.Test.YtkhimoclikhlaaaSuJ
import Derived.Great.Walk
namespace Go.Proofs.Ytkhimoclikhlaaa.Su
open Go.RowKit Go.Shelf Go.Proofs.Ytkhimoclikhlaaa.Oct Go.Proofs.Ytkhimoclikhlaaa.Sf
set_option linter.unusedVariables false

def trio : List Value := scells bare ++ scells small ++ scells far
def ex (k : Nat) : Sup := if k = 0 then bare else if k = 1 then small else far
theorem ok_ex (k : Nat) : Ok (ex k) := by unfold ex; split; exact ok_bare; split; exact ok_small; exact ok_far
theorem unfit_ex (k : Nat) : ¬ Fit (ex k) := by unfold ex; split; exact unfit_bare; split; exact unfit_small; exact unfit_far
theorem range_three {w : World} {B : Nat} {T : TypeId} (h : RowV w B T trio) (k : Nat) (hk : k < 3) : w.rangeAt B (k * 18) (scells (ex k)) := by
  intro j v hv
  have hj : j < 18 := by have := (List.getElem?_eq_some_iff.1 hv).1; rwa [length_scells] at this
  refine h.cellAt ?_
  unfold trio
  rcases (show k = 0 ∨ k = 1 ∨ k = 2 by omega) with rfl | rfl | rfl
  · rw [List.getElem?_append_left (by simp [length_scells]; omega), List.getElem?_append_left (by simp [length_scells]; omega), Nat.zero_mul, Nat.zero_add]; exact hv
  · rw [List.getElem?_append_left (by simp [length_scells]; omega), List.getElem?_append_right (by simp [length_scells]), length_scells, show 1 * 18 + j - 18 = j by omega]; exact hv
  · rw [List.getElem?_append_right (by simp [length_scells]), List.length_append, length_scells, length_scells, show 2 * 18 + j - (18 + 18) = j by omega]; exact hv
set_option maxRecDepth 100000 in
set_option maxHeartbeats 4000000 in
theorem awake_any (w : World) : Calls Try.prog 10 #[] w fun e w' => e = .returned (.bool true) ∧ Below w.heap.size w w' := by
  have h0 : RowV (w.alloc (.cells #[(.int .u64 0), (.int .u32 0), (.int .u32 0), (.int .u32 0), (.int .u32 0), (.int .u32 0), (.int .u32 0), (.int .u32 0), (.int .u32 0), (.int .u32 0), (.int .u64 0), (.int .u64 0), (.int .u64 0), (.int .u64 0), (.int .u64 0), (.int .u64 0), (.int .u64 0), (.int .u64 0)] 27)) w.heap.size 27 (scells zero18) := alloc_rowV w 27 (scells zero18)
  have k0 := (Below.refl w.heap.size w).alloc (Nat.le_refl _) (.cells #[(.int .u64 0), (.int .u32 0), (.int .u32 0), (.int .u32 0), (.int .u32 0), (.int .u32 0), (.int .u32 0), (.int .u32 0), (.int .u32 0), (.int .u32 0), (.int .u64 0), (.int .u64 0), (.int .u64 0), (.int .u64 0), (.int .u64 0), (.int .u64 0), (.int .u64 0), (.int .u64 0)] 27)
  have s0 := Lib.hid (show (w.alloc (.cells #[(.int .u64 0), (.int .u32 0), (.int .u32 0), (.int .u32 0), (.int .u32 0), (.int .u32 0), (.int .u32 0), (.int .u32 0), (.int .u32 0), (.int .u32 0), (.int .u64 0), (.int .u64 0), (.int .u64 0), (.int .u64 0), (.int .u64 0), (.int .u64 0), (.int .u64 0), (.int .u64 0)] 27)).heap.size = w.heap.size + 1 by simp)
  obtain ⟨wa, hwa⟩ : ∃ x, x = w.alloc (.cells #[(.int .u64 0), (.int .u32 0), (.int .u32 0), (.int .u32 0), (.int .u32 0), (.int .u32 0), (.int .u32 0), (.int .u32 0), (.int .u32 0), (.int .u32 0), (.int .u64 0), (.int .u64 0), (.int .u64 0), (.int .u64 0), (.int .u64 0), (.int .u64 0), (.int .u64 0), (.int .u64 0)] 27) := ⟨_, rfl⟩
  rw [← hwa] at h0 k0 s0
  have h1 : RowV (wa.alloc (.cells #[(.int .u64 0), (.int .u32 0), (.int .u32 0), (.int .u32 0), (.int .u32 0), (.int .u32 0), (.int .u32 0), (.int .u32 0), (.int .u32 0), (.int .u32 0), (.int .u64 0), (.int .u64 0), (.int .u64 0), (.int .u64 0), (.int .u64 0), (.int .u64 0), (.int .u64 0), (.int .u64 0)] 27)) wa.heap.size 27 (scells zero18) := alloc_rowV wa 27 (scells zero18)
  have k1 := (Below.refl wa.heap.size wa).alloc (Nat.le_refl _) (.cells #[(.int .u64 0), (.int .u32 0), (.int .u32 0), (.int .u32 0), (.int .u32 0), (.int .u32 0), (.int .u32 0), (.int .u32 0), (.int .u32 0), (.int .u32 0), (.int .u64 0), (.int .u64 0), (.int .u64 0), (.int .u64 0), (.int .u64 0), (.int .u64 0), (.int .u64 0), (.int .u64 0)] 27)
  have h2 := h0.below h0.lt k1
  have hne : w.heap.size ≠ wa.heap.size := by have := s0.out; omega
  have HA := Lib.hid h2
  have HR2 := Lib.hid (row_setRow_same (us := scells three) (row_setRow_other h1 (scells two).toArray (fun e => hne e.symm)))
  have HR1 := Lib.hid (row_setRow_other (row_setRow_same (us := scells two) h2) (scells three).toArray hne)
  have HA2 := Lib.hid (row_setRow_other h1 (scells two).toArray (fun e => hne e.symm))
  have HB := Lib.hid ((k0.trans (k1.mono k0.size)).trans ((setRow_below (scells two).toArray (Nat.le_refl _)).trans (setRow_below (scells three).toArray k0.size)))
  clear h0 k0 h1 k1 h2 hne
  rw [s0.out] at HR1 HR2 HA2 HB
  clear s0
  subst hwa
  go_enter Try.func10, Try.ntmps10
  go_upto_region 2 with (first | (refine wpList_build_as rfl 27 #[(0, .const (.int .u64 2)), (1, .const (.int .u32 16))] rfl (scells two).toArray ?_ ?_; kernel_rfl) | (refine wpList_build_as rfl 27 #[(0, .const (.int .u64 3)), (1, .const (.int .u32 16))] rfl (scells three).toArray ?_ ?_; kernel_rfl) | (refine wpList_store_row rfl 27 (.tmp 1) (.tmp 22) rfl w.heap.size (scells two).toArray rfl rfl _ _ HA.out (size_scells _) (by simp [length_scells]) (one_scells _) ?_) | (refine wpList_store_row rfl 27 (.tmp 2) (.tmp 23) rfl (w.heap.size + 1) (scells three).toArray rfl rfl _ _ HA2.out (size_scells _) (by simp [length_scells]) (one_scells _) ?_))
  clear HA HA2
  generalize (((w.alloc (.cells #[(.int .u64 0), (.int .u32 0), (.int .u32 0), (.int .u32 0), (.int .u32 0), (.int .u32 0), (.int .u32 0), (.int .u32 0), (.int .u32 0), (.int .u32 0), (.int .u64 0), (.int .u64 0), (.int .u64 0), (.int .u64 0), (.int .u64 0), (.int .u64 0), (.int .u64 0), (.int .u64 0)] 27)).alloc (.cells #[(.int .u64 0), (.int .u32 0), (.int .u32 0), (.int .u32 0), (.int .u32 0), (.int .u32 0), (.int .u32 0), (.int .u32 0), (.int .u32 0), (.int .u32 0), (.int .u64 0), (.int .u64 0), (.int .u64 0), (.int .u64 0), (.int .u64 0), (.int .u64 0), (.int .u64 0), (.int .u64 0)] 27)).setRow w.heap.size (scells two).toArray).setRow (w.heap.size + 1) (scells three).toArray = w1 at *
  have hp12 := Lib.hid HR2.out.lt
  go_wp2_with (refine wpList_load_row rfl 27 (.tmp 1) rfl w.heap.size rfl _ (scells two).toArray _ _ HR1.out Try.underlying27 rfl (size_scells _) ?_)
  refine (encode_bts two ok_two w1 fit_two).mono ?_
  rintro e wn ⟨g1, rfl, P1, F1, l1, kk⟩
  replace HR1 := Lib.hid (HR1.out.below HR1.out.lt kk)
  replace HR2 := Lib.hid (HR2.out.below HR2.out.lt kk)
  replace HB := Lib.hid (HB.out.trans (kk.mono HB.out.size))
  have HP1 := Lib.hid P1
  clear P1 F1 l1 kk
  obtain ⟨w2, hw⟩ : ∃ x, x = wn := ⟨_, rfl⟩
  subst hw
  go_wp2_with (refine wpList_load_row rfl 27 (.tmp 2) rfl (w.heap.size + 1) rfl _ (scells three).toArray _ _ HR2.out Try.underlying27 rfl (size_scells _) ?_)
  refine (encode_bts three ok_three w2 fit_three).mono ?_
  rintro e wn ⟨g2, rfl, P2, F2, l2, kk⟩
  replace HR1 := Lib.hid (HR1.out.below HR1.out.lt kk)
  replace HR2 := Lib.hid (HR2.out.below HR2.out.lt kk)
  replace HP1 := Lib.hid (HP1.out.below kk)
  replace HB := Lib.hid (HB.out.trans (kk.mono HB.out.size))
  have HP2 := Lib.hid P2
  clear P2 F2 l2 kk
  obtain ⟨w3, hw⟩ : ∃ x, x = wn := ⟨_, rfl⟩
  subst hw
  go_wp2_with fail
  have R3 := alloc_row w3 [6, 0, 0, 0, 0, 0, 0, 0, 2, 0, 0, 0, 16, 0]
  have kk := (Below.refl w3.heap.size w3).alloc (Nat.le_refl _) (.cells (vals [6, 0, 0, 0, 0, 0, 0, 0, 2, 0, 0, 0, 16, 0]).toArray 5)
  change Row (w3.alloc (.cells #[.int .u8 6, .int .u8 0, .int .u8 0, .int .u8 0, .int .u8 0, .int .u8 0, .int .u8 0, .int .u8 0, .int .u8 2, .int .u8 0, .int .u8 0, .int .u8 0, .int .u8 16, .int .u8 0] 5)) _ _ at R3
  change Below _ _ (w3.alloc (.cells #[.int .u8 6, .int .u8 0, .int .u8 0, .int .u8 0, .int .u8 0, .int .u8 0, .int .u8 0, .int .u8 0, .int .u8 2, .int .u8 0, .int .u8 0, .int .u8 0, .int .u8 16, .int .u8 0] 5)) at kk
  generalize w3.alloc (.cells #[.int .u8 6, .int .u8 0, .int .u8 0, .int .u8 0, .int .u8 0, .int .u8 0, .int .u8 0, .int .u8 0, .int .u8 2, .int .u8 0, .int .u8 0, .int .u8 0, .int .u8 16, .int .u8 0] 5) = w4 at *
  replace HR1 := Lib.hid (HR1.out.below HR1.out.lt kk)
  replace HR2 := Lib.hid (HR2.out.below HR2.out.lt kk)
  replace HP1 := Lib.hid (HP1.out.below kk)
  replace HP2 := Lib.hid (HP2.out.below kk)
  replace HB := Lib.hid (HB.out.trans (kk.mono HB.out.size))
  have HH1 : Hid (Has w4 g1 0 (supPage two)) := Lib.hid (by
    rcases HP1.out.told with h | ⟨b, o, h, h2⟩
    · exact absurd (congrArg List.length h) (by rw [length_supPage]; decide)
    · cases h; exact h2)
  refine (equal_yes _ _ 14 14 128 14 ((supPage two).take 14) [6, 0, 0, 0, 0, 0, 0, 0, 2, 0, 0, 0, 16, 0] head_two (by rw [head_two]; rfl) rfl _ ((HH1.out.pre 14).told) R3.has.told).mono ?_
  rintro e w' ⟨rfl, rfl⟩
  clear R3 kk HH1
  have hst := run_storeCells_new (P := Try.prog) w4 27 #[(.int .u64 0), (.int .u32 0), (.int .u32 0), (.int .u32 0), (.int .u32 0), (.int .u32 0), (.int .u32 0), (.int .u32 0), (.int .u32 0), (.int .u32 0), (.int .u64 0), (.int .u64 0), (.int .u64 0), (.int .u64 0), (.int .u64 0), (.int .u64 0), (.int .u64 0), (.int .u64 0)] (scells two).toArray (size_scells _) (by simp [length_scells]) (one_scells _)
  have hlc := length_scells two
  go_upto_region 7 with (refine wpList_load_row rfl 27 (.tmp 1) rfl w.heap.size rfl _ (scells two).toArray _ _ HR1.out Try.underlying27 rfl (size_scells _) ?_)
  clear hst hlc
  have R7 := alloc_rowV w4 27 (scells two)
  have c9 := R7.cellAt (scells_at two 9 (by decide))
  have f9 := R7.free 9
  rw [scell_small _ _ (by decide) (by decide)] at c9
  have R8 : RowV (w4.alloc (.cells ((scells two).set 9 (.int .u32 16)).toArray 27)) w4.heap.size 27 (scells far) := alloc_rowV w4 27 ((scells two).set 9 (.int .u32 16))
  have kk := (Below.refl w4.heap.size w4).alloc (Nat.le_refl _) (.cells ((scells two).set 9 (.int .u32 16)).toArray 27)
  have HR7 := Lib.hid R8
  clear R7 R8
  replace HR1 := Lib.hid (HR1.out.below HR1.out.lt kk)
  replace HR2 := Lib.hid (HR2.out.below HR2.out.lt kk)
  replace HP1 := Lib.hid (HP1.out.below kk)
  replace HP2 := Lib.hid (HP2.out.below kk)
  replace HB := Lib.hid (HB.out.trans (kk.mono HB.out.size))
  clear kk
  go_upto_region 8 with (fail)
  clear c9 f9
  generalize w4.alloc (.cells ((scells two).set 9 (.int .u32 16)).toArray 27) = w5 at *
  generalize w4.heap.size = p7 at *
  have HSL := Lib.hid (alloc_rowV w5 27 trio)
  have kk := (Below.refl w5.heap.size w5).alloc (Nat.le_refl _) (.cells trio.toArray 27)
  go_wp2_with (first | (refine wpList_build_as rfl 27 #[(1, .const (.int .u32 16))] rfl (scells bare).toArray ?_ ?_; kernel_rfl) | (refine wpList_build_as rfl 27 #[(0, .const (.int .u64 1)), (1, .const (.int .u32 15))] rfl (scells small).toArray ?_ ?_; kernel_rfl) | (refine wpList_load_row rfl 27 (.tmp 7) rfl p7 rfl _ (scells far).toArray _ _ HR7.out Try.underlying27 rfl (size_scells _) ?_) | (refine Great.wpList_buildSliceTo rfl 52 27 3 #[(0, .tmp 55), (1, .tmp 56), (2, .tmp 57)] rfl w5.heap.size rfl (some 58) rfl Try.underlying52 trio.toArray ?_ ?_; (simp [Act.eval]); kernel_rfl))
  
  replace HR1 := Lib.hid (HR1.out.below HR1.out.lt kk)
  replace HR2 := Lib.hid (HR2.out.below HR2.out.lt kk)
  replace HR7 := Lib.hid (HR7.out.below HR7.out.lt kk)
  replace HP1 := Lib.hid (HP1.out.below kk)
  replace HP2 := Lib.hid (HP2.out.below kk)
  replace HB := Lib.hid (HB.out.trans (kk.mono HB.out.size))
  clear kk
  generalize w5.alloc (.cells trio.toArray 27) = w6 at *
  generalize w5.heap.size = sl at *
  go_loopw [60] (fun i wr => ∃ k : Nat, k ≤ 3 ∧ i = .int .i64 (k : Int) ∧ Hid (Below w6.heap.size w6 wr)) (fun i _ => 3 - (intOf i).toNat)
  case atStart => exact ⟨0, by omega, rfl, Lib.hid (Below.refl _ _)⟩
  case round =>
    obtain ⟨k, hk, rfl, HBR⟩ := hrel
    by_cases hlt : k < 3
    · have HRG := Lib.hid (range_three (HSL.out.below HSL.out.lt HBR.out) k hlt)
      have hk0 : (0 : Int) ≤ (k : Int) := by omega
      have hst := run_storeCells_new (P := Try.prog) wr 27 #[(.int .u64 0), (.int .u32 0), (.int .u32 0), (.int .u32 0), (.int .u32 0), (.int .u32 0), (.int .u32 0), (.int .u32 0), (.int .u32 0), (.int .u32 0), (.int .u64 0), (.int .u64 0), (.int .u64 0), (.int .u64 0), (.int .u64 0), (.int .u64 0), (.int .u64 0), (.int .u64 0)] (scells (ex k)).toArray (size_scells _) (by simp [length_scells]) (one_scells _)
      have hlc := length_scells (ex k)
      go_upto_region 11 with (refine wpList_load_mid rfl 27 (.tmp 62) rfl sl (k * 18) rfl (scells (ex k)) _ HRG.out Try.underlying27 rfl (by rw [super_size, length_scells]) ?_)
      clear hst hlc HRG
      have HN := Lib.hid (alloc_rowV wr 27 (scells (ex k)))
      have kk := (Below.refl wr.heap.size wr).alloc (Nat.le_refl _) (.cells (scells (ex k)).toArray 27)
      have HB2 := Lib.hid (HBR.out.trans (kk.mono HBR.out.size))
      clear kk
      generalize wr.alloc (.cells (scells (ex k)).toArray 27) = wx at *
      go_wp2_with (refine wpList_load_row rfl 27 (.tmp 9) rfl wr.heap.size rfl _ (scells (ex k)).toArray _ _ HN.out Try.underlying27 rfl (size_scells _) ?_)
      refine (encode_none (ex k) (ok_ex k) wx (unfit_ex k)).mono ?_
      rintro e wn ⟨rfl, kk⟩
      have HB3 := Lib.hid (HB2.out.trans (kk.mono HB2.out.size))
      clear kk
      go_wp2_with fail
      go_roundw
      case rel => exact ⟨k + 1, by omega, by go_num, HB3⟩
      case measure => simp [intOf]; omega
    · obtain rfl : k = 3 := by omega
      have kk := HBR.out
      clear HBR
      replace HR1 := Lib.hid (HR1.out.below HR1.out.lt kk)
      replace HR2 := Lib.hid (HR2.out.below HR2.out.lt kk)
      replace HP1 := Lib.hid (HP1.out.below kk)
      replace HP2 := Lib.hid (HP2.out.below kk)
      replace HB := Lib.hid (HB.out.trans (kk.mono HB.out.size))
      clear kk HSL
      go_wp2_with fail
      refine (filled_any 0 0 rfl wr).mono ?_
      rintro e w9 ⟨gn, rfl, l9, R9, kk⟩
      replace HR1 := Lib.hid (HR1.out.below HR1.out.lt kk)
      replace HR2 := Lib.hid (HR2.out.below HR2.out.lt kk)
      replace HP1 := Lib.hid (HP1.out.below kk)
      replace HP2 := Lib.hid (HP2.out.below kk)
      replace HB := Lib.hid (HB.out.trans (kk.mono HB.out.size))
      have HPN := Lib.hid (show Bts w9 (some ⟨gn, 0, none⟩) 128 128 (List.replicate 128 0) from Bts.page R9.has rfl)
      clear kk R9 l9
      go_wp2_with fail
      refine (pick_bts HP1.out HP2.out (pick_both ok_two ok_three fit_two fit_three rfl rfl (by decide))).mono ?_
      rintro e wb ⟨rfl, kk⟩
      replace HR1 := Lib.hid (HR1.out.below HR1.out.lt kk)
      replace HR2 := Lib.hid (HR2.out.below HR2.out.lt kk)
      replace HP1 := Lib.hid (HP1.out.below kk)
      replace HP2 := Lib.hid (HP2.out.below kk)
      replace HPN := Lib.hid (HPN.out.below kk)
      replace HB := Lib.hid (HB.out.trans (kk.mono HB.out.size))
      clear kk
      have hst := run_storeCells_new (P := Try.prog) wb 27 #[(.int .u64 0), (.int .u32 0), (.int .u32 0), (.int .u32 0), (.int .u32 0), (.int .u32 0), (.int .u32 0), (.int .u32 0), (.int .u32 0), (.int .u32 0), (.int .u64 0), (.int .u64 0), (.int .u64 0), (.int .u64 0), (.int .u64 0), (.int .u64 0), (.int .u64 0), (.int .u64 0)] (scells three).toArray (size_scells _) (by simp [length_scells]) (one_scells _)
      have hlc := length_scells three
      go_upto_region 17 with (fail)
      clear hst hlc
      have HX1 := Lib.hid (alloc_rowV wb 27 (scells three))
      have kk := (Below.refl wb.heap.size wb).alloc (Nat.le_refl _) (.cells (scells three).toArray 27)
      replace HR1 := Lib.hid (HR1.out.below HR1.out.lt kk)
      replace HR2 := Lib.hid (HR2.out.below HR2.out.lt kk)
      replace HP1 := Lib.hid (HP1.out.below kk)
      replace HP2 := Lib.hid (HP2.out.below kk)
      replace HPN := Lib.hid (HPN.out.below kk)
      replace HB := Lib.hid (HB.out.trans (kk.mono HB.out.size))
      clear kk
      generalize wb.alloc (.cells (scells three).toArray 27) = wc at *
      generalize wb.heap.size = x1 at *
      go_wp2_with fail
      refine (pick_bts HP1.out HPN.out (pick_first ok_two fit_two rfl (fun h => none_zeros 0 (by decide) h.1))).mono ?_
      rintro e wd ⟨rfl, kk⟩
      replace HR1 := Lib.hid (HR1.out.below HR1.out.lt kk)
      replace HR2 := Lib.hid (HR2.out.below HR2.out.lt kk)
      replace HX1 := Lib.hid (HX1.out.below HX1.out.lt kk)
      replace HP1 := Lib.hid (HP1.out.below kk)
      replace HP2 := Lib.hid (HP2.out.below kk)
      replace HPN := Lib.hid (HPN.out.below kk)
      replace HB := Lib.hid (HB.out.trans (kk.mono HB.out.size))
      clear kk
      have hst := run_storeCells_new (P := Try.prog) wd 27 #[(.int .u64 0), (.int .u32 0), (.int .u32 0), (.int .u32 0), (.int .u32 0), (.int .u32 0), (.int .u32 0), (.int .u32 0), (.int .u32 0), (.int .u32 0), (.int .u64 0), (.int .u64 0), (.int .u64 0), (.int .u64 0), (.int .u64 0), (.int .u64 0), (.int .u64 0), (.int .u64 0)] (scells two).toArray (size_scells _) (by simp [length_scells]) (one_scells _)
      have hlc := length_scells two
      go_upto_region 18 with (fail)
      clear hst hlc
      have HX2 := Lib.hid (alloc_rowV wd 27 (scells two))
      have kk := (Below.refl wd.heap.size wd).alloc (Nat.le_refl _) (.cells (scells two).toArray 27)
      replace HR1 := Lib.hid (HR1.out.below HR1.out.lt kk)
      replace HR2 := Lib.hid (HR2.out.below HR2.out.lt kk)
      replace HX1 := Lib.hid (HX1.out.below HX1.out.lt kk)
      replace HP1 := Lib.hid (HP1.out.below kk)
      replace HP2 := Lib.hid (HP2.out.below kk)
      replace HPN := Lib.hid (HPN.out.below kk)
      replace HB := Lib.hid (HB.out.trans (kk.mono HB.out.size))
      clear kk
      generalize wd.alloc (.cells (scells two).toArray 27) = we at *
      generalize wd.heap.size = x2 at *
      go_wp2_with fail
      refine (pick_bts HPN.out HP1.out (pick_none (fun h => none_zeros 0 (by decide) h.1) (fun h => absurd ((counts_page ok_two fit_two 1).1 h) (by decide)))).mono ?_
      rintro e wf ⟨rfl, kk⟩
      replace HR1 := Lib.hid (HR1.out.below HR1.out.lt kk)
      replace HR2 := Lib.hid (HR2.out.below HR2.out.lt kk)
      replace HX1 := Lib.hid (HX1.out.below HX1.out.lt kk)
      replace HX2 := Lib.hid (HX2.out.below HX2.out.lt kk)
      replace HP1 := Lib.hid (HP1.out.below kk)
      replace HP2 := Lib.hid (HP2.out.below kk)
      replace HPN := Lib.hid (HPN.out.below kk)
      replace HB := Lib.hid (HB.out.trans (kk.mono HB.out.size))
      clear kk
      have hst := run_storeCells_new (P := Try.prog) wf 27 #[(.int .u64 0), (.int .u32 0), (.int .u32 0), (.int .u32 0), (.int .u32 0), (.int .u32 0), (.int .u32 0), (.int .u32 0), (.int .u32 0), (.int .u32 0), (.int .u64 0), (.int .u64 0), (.int .u64 0), (.int .u64 0), (.int .u64 0), (.int .u64 0), (.int .u64 0), (.int .u64 0)] (scells zero18).toArray (size_scells _) (by simp [length_scells]) (one_scells _)
      have hlc := length_scells zero18
      go_upto_region 19 with (fail)
      clear hst hlc
      have HX3 := Lib.hid (alloc_rowV wf 27 (scells zero18))
      have kk := (Below.refl wf.heap.size wf).alloc (Nat.le_refl _) (.cells (scells zero18).toArray 27)
      replace HR1 := Lib.hid (HR1.out.below HR1.out.lt kk)
      replace HR2 := Lib.hid (HR2.out.below HR2.out.lt kk)
      replace HX1 := Lib.hid (HX1.out.below HX1.out.lt kk)
      replace HX2 := Lib.hid (HX2.out.below HX2.out.lt kk)
      replace HP1 := Lib.hid (HP1.out.below kk)
      replace HP2 := Lib.hid (HP2.out.below kk)
      replace HPN := Lib.hid (HPN.out.below kk)
      replace HB := Lib.hid (HB.out.trans (kk.mono HB.out.size))
      clear kk
      generalize wf.alloc (.cells (scells zero18).toArray 27) = wg at *
      generalize wf.heap.size = x3 at *
      have q1 : (three == three) = true := by decide
      have q2 : (two == two) = true := by decide
      go_wp2_with (first | (refine wpList_load_row_g (by rfl) 27 (.tmp 13) rfl x1 rfl _ (scells three).toArray _ _ HX1.out Try.underlying27 rfl (size_scells _) ?_) | (refine wpList_load_row_g (by rfl) 27 (.tmp 2) rfl (w.heap.size + 1) rfl _ (scells three).toArray _ _ HR2.out Try.underlying27 rfl (size_scells _) ?_) | (refine wpList_load_row_g (by rfl) 27 (.tmp 16) rfl x2 rfl _ (scells two).toArray _ _ HX2.out Try.underlying27 rfl (size_scells _) ?_) | (refine wpList_load_row_g (by rfl) 27 (.tmp 1) rfl w.heap.size rfl _ (scells two).toArray _ _ HR1.out Try.underlying27 rfl (size_scells _) ?_) | (refine wpList_eql_sup (by rfl) (.tmp 105) (.tmp 106) _ rfl three three ok_three ok_three rfl rfl ?_; rw [q1]) | (refine wpList_eql_sup (by rfl) (.tmp 114) (.tmp 115) _ rfl two two ok_two ok_two rfl rfl ?_; rw [q2]))
      refine (slot_any 2 (by decide) wg).mono ?_
      rintro e w' ⟨rfl, rfl⟩
      go_wp2_with fail
      refine (slot_any 3 (by decide) wg).mono ?_
      rintro e w' ⟨rfl, rfl⟩
      go_wp2_with fail
      go_ret
      exact ⟨rfl, HB.out⟩ 
end Go.Proofs.Ytkhimoclikhlaaa.Su
