/- TallyNone's walk. -/
import Derived.Test.YtigmgaedpdeleaaTlK
namespace Go.Proofs.Ytigmgaedpdeleaa.Tl
open Go.RowKit Go.Proofs.Ytigmgaedpdeleaa.Oct Go.Proofs.Ytigmgaedpdeleaa.Mv Go.Maps
set_option linter.unusedVariables false

theorem zero_tally (w : World) : (zeroValue 57).run Try.prog w = .ok (.agg #[.slice none 0 0, .map none, .pointer none]) w := by kernel_rfl
set_option maxRecDepth 100000 in
set_option maxHeartbeats 1000000 in
theorem none_walk (b : Int) (w : World) (hb : (Lit.int .i64 b).wf = true) : Calls Try.prog 8 #[.int .i64 b] w fun e w' => e = .returned (.bool true) ∧ Below w.heap.size w w' := by
  have hz := zero_tally
  have R1 := alloc_rowV w 57 [.slice none 0 0, .map none, .pointer none]
  have B1 := (Below.refl w.heap.size w).alloc (Nat.le_refl _) (.cells #[.slice none 0 0, .map none, .pointer none] 57)
  have e1 : (w.alloc (.cells #[.slice none 0 0, .map none, .pointer none] 57)).heap.size = w.heap.size + 1 := by simp
  have B2 := (Below.refl _ (w.alloc (.cells #[.slice none 0 0, .map none, .pointer none] 57))).alloc (Nat.le_refl _) (.cells #[.pointer none, .pointer (some ⟨w.heap.size, 0, none⟩)] 25)
  have R2 := alloc_rowV (w.alloc (.cells #[.slice none 0 0, .map none, .pointer none] 57)) 25 [.pointer none, .pointer (some ⟨w.heap.size, 0, none⟩)]
  rw [e1] at R2 B2
  have HB0 := Lib.hid (B1.trans (B2.mono (by omega)))
  have HR1 := Lib.hid (R1.below (by omega) B2)
  have HR2 := Lib.hid R2
  clear R1 B1 B2 R2 e1
  go_enter Try.func8, Try.ntmps8
  go_wp2_with fail
  generalize (w.alloc (.cells #[.slice none 0 0, .map none, .pointer none] 57)).alloc (.cells #[.pointer none, .pointer (some ⟨w.heap.size, 0, none⟩)] 25) = w1 at *
  go_loopw [9] (fun i wr => ∃ k : Nat, k ≤ 2 ∧ i = .int .i64 (k : Int) ∧ Hid (Below w1.heap.size w1 wr)) (fun i _ => 2 - (Go.RowKit.intOf i).toNat)
  case atStart => exact ⟨0, by omega, rfl, Lib.hid (Below.refl _ _)⟩
  case round =>
    obtain ⟨k, hk, rfl, HB⟩ := hrel
    have r2 := HR2.out.below HR2.out.lt HB.out
    rcases (show k = 0 ∨ k = 1 ∨ k = 2 by omega) with rfl | rfl | rfl
    · have c0 := r2.cellAt (i := 0) rfl
      have HN := Lib.hid (show Nay wr (.pointer none) from .inl rfl)
      clear r2
      go_wp2_with fail
      refine (keep_nay _ _ HN.out).mono ?_
      rintro e w' ⟨rfl, rfl⟩
      dsimp only
      go_wp2_with fail
      refine (back_nay _ _ HN.out).mono ?_
      rintro e w' ⟨rfl, rfl⟩
      dsimp only
      go_wp2_with fail
      refine (up_nay _ _ _ HN.out).mono ?_
      rintro e w' ⟨rfl, rfl⟩
      go_wp2_with fail
      refine (down_nay _ _ _ HN.out).mono ?_
      rintro e w' ⟨rfl, rfl⟩
      go_wp2_with fail
      refine (free_nay _ _ _ HN.out).mono ?_
      rintro e w' ⟨rfl, rfl⟩
      go_wp2_with fail
      refine (get_nay _ _ _ HN.out).mono ?_
      rintro e w' ⟨rfl, rfl⟩
      go_wp2_with fail
      refine (blocks_nay _ _ HN.out).mono ?_
      rintro e w' ⟨rfl, rfl⟩
      go_wp2_with fail
      refine (frees_nay _ _ HN.out).mono ?_
      rintro e w3 ⟨rfl, bz⟩
      have HN3 := Lib.hid (HN.out.below bz)
      have HB3 := Lib.hid (HB.out.trans (bz.mono HB.out.size))
      clear bz
      go_wp2_with fail
      refine (idle_nay _ _ HN3.out).mono ?_
      rintro e w4 ⟨rfl, bz⟩
      have HN4 := Lib.hid (HN3.out.below bz)
      have HB4 := Lib.hid (HB3.out.trans (bz.mono HB3.out.size))
      clear bz
      go_wp2_with fail
      refine (list_nay _ _ HN4.out).mono ?_
      rintro e w' ⟨rfl, rfl⟩
      go_wp2_with fail
      go_roundw
      case rel => exact ⟨1, by omega, rfl, HB4⟩
      case measure => simp [Go.RowKit.intOf]
    · have c0 := r2.cellAt (i := 1) rfl
      have HN := Lib.hid (show Nay wr (.pointer (some ⟨w.heap.size, 0, none⟩)) from .inr ⟨_, rfl, (HR1.out.below HR1.out.lt HB.out).cellAt (i := 2) rfl⟩)
      clear r2
      go_wp2_with fail
      refine (keep_nay _ _ HN.out).mono ?_
      rintro e w' ⟨rfl, rfl⟩
      dsimp only
      go_wp2_with fail
      refine (back_nay _ _ HN.out).mono ?_
      rintro e w' ⟨rfl, rfl⟩
      dsimp only
      go_wp2_with fail
      refine (up_nay _ _ _ HN.out).mono ?_
      rintro e w' ⟨rfl, rfl⟩
      go_wp2_with fail
      refine (down_nay _ _ _ HN.out).mono ?_
      rintro e w' ⟨rfl, rfl⟩
      go_wp2_with fail
      refine (free_nay _ _ _ HN.out).mono ?_
      rintro e w' ⟨rfl, rfl⟩
      go_wp2_with fail
      refine (get_nay _ _ _ HN.out).mono ?_
      rintro e w' ⟨rfl, rfl⟩
      go_wp2_with fail
      refine (blocks_nay _ _ HN.out).mono ?_
      rintro e w' ⟨rfl, rfl⟩
      go_wp2_with fail
      refine (frees_nay _ _ HN.out).mono ?_
      rintro e w3 ⟨rfl, bz⟩
      have HN3 := Lib.hid (HN.out.below bz)
      have HB3 := Lib.hid (HB.out.trans (bz.mono HB.out.size))
      clear bz
      go_wp2_with fail
      refine (idle_nay _ _ HN3.out).mono ?_
      rintro e w4 ⟨rfl, bz⟩
      have HN4 := Lib.hid (HN3.out.below bz)
      have HB4 := Lib.hid (HB3.out.trans (bz.mono HB3.out.size))
      clear bz
      go_wp2_with fail
      refine (list_nay _ _ HN4.out).mono ?_
      rintro e w' ⟨rfl, rfl⟩
      go_wp2_with fail
      go_roundw
      case rel => exact ⟨2, by omega, rfl, HB4⟩
      case measure => simp [Go.RowKit.intOf]
    · clear r2
      go_wp2_with fail
      refine (awake_any _).mono ?_
      rintro e w3 ⟨rfl, bz⟩
      have HB3 := Lib.hid (HB0.out.trans ((HB.out.trans (bz.mono HB.out.size)).mono HB0.out.size))
      clear bz
      go_wp2_with fail
      go_ret
      exact ⟨rfl, HB3.out⟩
end Go.Proofs.Ytigmgaedpdeleaa.Tl
