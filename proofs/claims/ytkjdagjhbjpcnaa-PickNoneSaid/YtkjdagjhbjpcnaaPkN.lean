/- PickNone's walk. (Written by bin/gen_pknone.py.) -/
import Derived.Test.YtkjdagjhbjpcnaaPkE
namespace Go.Proofs.Ytkjdagjhbjpcnaa.Pk
open Go.RowKit Go.Proofs.Ytkjdagjhbjpcnaa.Oct Go.Proofs.Ytkjdagjhbjpcnaa.Mv Go.Proofs.Ytkjdagjhbjpcnaa.Tl Go.Maps
set_option linter.unusedVariables false

theorem zero_tally (w : World) : (zeroValue 66).run Try.prog w = .ok (.agg #[.slice none 0 0, .map none, .pointer none]) w := by kernel_rfl
theorem zero_pick (w : World) : (zeroValue 61).run Try.prog w = .ok (.agg #[.pointer none, .int .i64 0, .int .i64 0, .int .i64 0, .pointer none]) w := by kernel_rfl
set_option maxRecDepth 100000 in
set_option maxHeartbeats 1000000 in
theorem none_walk (n : Int) (w : World) (hn : (Lit.int .i64 n).wf = true) : Calls Try.prog 8 #[.int .i64 n] w fun e w' => e = .returned (.bool true) ∧ Below w.heap.size w w' := by
  have hz := zero_pick
  have hzt := zero_tally
  have R1 := alloc_rowV w 61 [.pointer none, .int .i64 0, .int .i64 0, .int .i64 0, .pointer none]
  have B1 := (Below.refl w.heap.size w).alloc (Nat.le_refl _) (.cells #[.pointer none, .int .i64 0, .int .i64 0, .int .i64 0, .pointer none] 61)
  have e1 : (w.alloc (.cells #[.pointer none, .int .i64 0, .int .i64 0, .int .i64 0, .pointer none] 61)).heap.size = w.heap.size + 1 := by simp
  have B2 := (Below.refl _ (w.alloc (.cells #[.pointer none, .int .i64 0, .int .i64 0, .int .i64 0, .pointer none] 61))).alloc (Nat.le_refl _) (.cells #[.pointer none, .pointer (some ⟨w.heap.size, 0, none⟩)] 27)
  have R2 := alloc_rowV (w.alloc (.cells #[.pointer none, .int .i64 0, .int .i64 0, .int .i64 0, .pointer none] 61)) 27 [.pointer none, .pointer (some ⟨w.heap.size, 0, none⟩)]
  rw [e1] at R2 B2
  have HB0 := Lib.hid (B1.trans (B2.mono (by omega)))
  have HR1 := Lib.hid (R1.below (by omega) B2)
  have HR2 := Lib.hid R2
  clear R1 B1 B2 R2 e1
  go_enter Try.func8, Try.ntmps8
  go_wp2_with fail
  generalize (w.alloc (.cells #[.pointer none, .int .i64 0, .int .i64 0, .int .i64 0, .pointer none] 61)).alloc (.cells #[.pointer none, .pointer (some ⟨w.heap.size, 0, none⟩)] 27) = w1 at *
  go_loopw [15] (fun i wr => ∃ k : Nat, k ≤ 2 ∧ i = .int .i64 (k : Int) ∧ wr = w1) (fun i _ => 2 - (Go.RowKit.intOf i).toNat)
  case atStart => exact ⟨0, by omega, rfl, rfl⟩
  case round =>
    obtain ⟨k, hk, rfl, rfl⟩ := hrel
    have r2 := HR2.out
    rcases (show k = 0 ∨ k = 1 ∨ k = 2 by omega) with rfl | rfl | rfl
    · have c0 := r2.cellAt (i := 0) rfl
      have HN := Lib.hid (show PNay wr (.pointer none) from .inl rfl)
      clear r2
      go_wp2_with fail
      refine (take_nay _ _ HN.out).mono ?_
      rintro e w' ⟨rfl, rfl⟩
      go_wp2_with fail
      refine (ask_nay _ _ _ HN.out).mono ?_
      rintro e w' ⟨rfl, rfl⟩
      go_wp2_with fail
      refine (done_nay _ _ _ HN.out).mono ?_
      rintro e w' ⟨rfl, rfl⟩
      go_wp2_with fail
      refine (room_nay _ _ HN.out).mono ?_
      rintro e w' ⟨rfl, rfl⟩
      go_wp2_with fail
      refine (next_nay _ _ HN.out).mono ?_
      rintro e w' ⟨rfl, rfl⟩
      go_wp2_with fail
      refine (asked_nay _ _ HN.out).mono ?_
      rintro e w' ⟨rfl, rfl⟩
      go_wp2_with fail
      go_roundw
      case rel => exact ⟨1, by omega, rfl, by first | rfl | trivial⟩
      case measure => simp [Go.RowKit.intOf]
    · have c0 := r2.cellAt (i := 1) rfl
      have HN := Lib.hid (show PNay wr (.pointer (some ⟨w.heap.size, 0, none⟩)) from .inr ⟨_, rfl, HR1.out.cellAt (i := 4) rfl⟩)
      clear r2
      go_wp2_with fail
      refine (take_nay _ _ HN.out).mono ?_
      rintro e w' ⟨rfl, rfl⟩
      go_wp2_with fail
      refine (ask_nay _ _ _ HN.out).mono ?_
      rintro e w' ⟨rfl, rfl⟩
      go_wp2_with fail
      refine (done_nay _ _ _ HN.out).mono ?_
      rintro e w' ⟨rfl, rfl⟩
      go_wp2_with fail
      refine (room_nay _ _ HN.out).mono ?_
      rintro e w' ⟨rfl, rfl⟩
      go_wp2_with fail
      refine (next_nay _ _ HN.out).mono ?_
      rintro e w' ⟨rfl, rfl⟩
      go_wp2_with fail
      refine (asked_nay _ _ HN.out).mono ?_
      rintro e w' ⟨rfl, rfl⟩
      go_wp2_with fail
      go_roundw
      case rel => exact ⟨2, by omega, rfl, by first | rfl | trivial⟩
      case measure => simp [Go.RowKit.intOf]
    · clear r2
      have HT := Lib.hid (show Tl.Nay wr (.pointer none) from .inl rfl)
      go_wp2_with fail
      refine (pnew_nay _ _ _ HT.out).mono ?_
      rintro e w' ⟨rfl, rfl⟩
      have R3 := alloc_rowV wr 66 [.slice none 0 0, .map none, .pointer none]
      have B3 := (Below.refl wr.heap.size wr).alloc (Nat.le_refl _) (.cells #[.slice none 0 0, .map none, .pointer none] 66)
      have HB3 := Lib.hid (HB0.out.trans (B3.mono HB0.out.size))
      have HT3 := Lib.hid (show Tl.Nay (wr.alloc (.cells #[.slice none 0 0, .map none, .pointer none] 66)) (.pointer (some ⟨wr.heap.size, 0, none⟩)) from .inr ⟨_, rfl, R3.cellAt (i := 2) rfl⟩)
      clear R3 B3
      go_wp2_with fail
      refine (pnew_nay _ _ _ HT3.out).mono ?_
      rintro e w' ⟨rfl, rfl⟩
      go_wp2_with fail
      refine (awake_any _).mono ?_
      rintro e w3 ⟨rfl, bz⟩
      have HB4 := Lib.hid (HB3.out.trans (bz.mono HB3.out.size))
      clear bz
      go_wp2_with fail
      go_ret
      exact ⟨rfl, HB4.out⟩
end Go.Proofs.Ytkjdagjhbjpcnaa.Pk
