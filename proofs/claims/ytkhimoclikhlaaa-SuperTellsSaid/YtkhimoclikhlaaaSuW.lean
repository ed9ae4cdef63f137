/- The reference's Right. -/
import Derived.Test.YtkhimoclikhlaaaSuP
import Derived.Test.YtkhimoclikhlaaaInv2
namespace Go.Proofs.Ytkhimoclikhlaaa.Su
open Go.RowKit Go.Shelf Go.Proofs.Ytkhimoclikhlaaa.Oct Go.Proofs.Ytkhimoclikhlaaa.Sf
set_option linter.unusedVariables false
set_option maxRecDepth 100000 in
set_option maxHeartbeats 4000000 in
theorem rright_any (s : Sup) (hs : Ok s) (w : World) :
    Calls Try.prog 20 #[.agg (scells s).toArray] w fun e w' => e = .returned (.bool (decide (Fit s))) ∧ Below w.heap.size w w' := by
  have HR := Lib.hid (alloc_rowV w 27 (scells s))
  have HB := Lib.hid ((Below.refl w.heap.size w).alloc (Nat.le_refl _) (.cells (scells s).toArray 27))
  have HF := Lib.hid (show Fit s ↔ (1 ≤ nth s 0 ∧ 16 ≤ nth s 1 ∧ nth s 1 ≤ 4096 ∧ ∀ i, i < 8 → nth s (2 + i) < nth s 1) from Iff.rfl)
  go_enter Try.func20, Try.ntmps20
  go_upto_region 1 with (fail)
  generalize w.alloc (.cells (scells s).toArray 27) = w1 at *
  go_wp2_with fail
  go_loopw [3] (fun i wr => ∃ k : Nat, k ≤ 8 ∧ i = .int .i64 (k : Int) ∧ Hid (∀ i, i < k → nth s (2 + i) < nth s 1) ∧ Hid (RowV wr w.heap.size 27 (scells s)) ∧ Hid (Below w.heap.size w wr)) (fun i _ => 8 - (intOf i).toNat)
  case atStart => exact ⟨0, by omega, rfl, Lib.hid (fun i hi => by omega), HR, HB⟩
  case round =>
    obtain ⟨k, hk, rfl, HA, HR', HB'⟩ := hrel
    clear HR HB
    have hb := hs.small 1 (by decide) (by decide)
    have c1 := HR'.out.cellAt (scells_at s 1 (by decide))
    rw [scell_small _ _ (by decide) (by decide)] at c1
    by_cases hlt : k < 8
    · have hki : (k : Int) < 8 := by omega
      have ck := HR'.out.cellAt (scells_at s (2 + k) (by omega))
      rw [scell_small _ _ (by omega) (by omega)] at ck
      have hsmall := hs.small (2 + k) (by omega) (by omega)
      go_upto_region 4 with (fail)
      have hmx : Try.prog.follows .mixedOrders = true := by kernel_rfl
      by_cases hge : nth s 1 ≤ nth s (2 + k)
      · have hgi : (nth s 1 : Int) ≤ (nth s (2 + k) : Int) := by omega
        go_quiet (fail)
        go_wp2_with fail
        go_ret
        exact ⟨by rw [decide_eq_false (p := Fit s) (fun hf => by have := (HF.out.1 hf).2.2.2 k hlt; omega)]; rfl, HB'.out.trans ((Still.drewN wr _).below _)⟩
      · have hgi : ¬ (nth s 1 : Int) ≤ (nth s (2 + k) : Int) := by omega
        go_quiet (fail)
        go_wp2_with fail
        go_roundw
        case rel => exact ⟨k + 1, by omega, by go_num, Lib.hid (fun i hi => by rcases Nat.lt_or_ge i k with h | h; (exact HA.out i h); (obtain rfl : i = k := (by omega)); omega), Lib.hid (HR'.out.still (Still.drewN wr _)), Lib.hid (HB'.out.trans ((Still.drewN wr _).below _))⟩
        case measure => simp [intOf]; omega
    · obtain rfl : k = 8 := by omega
      have c0 := HR'.out.cellAt (scells_at s 0 (by decide))
      rw [scell_wide _ _ (.inl rfl)] at c0
      have hg := hs.lt 0
      have key : Fit s ↔ (1 ≤ nth s 0 ∧ 16 ≤ nth s 1 ∧ nth s 1 ≤ 4096) := ⟨fun h => ⟨(HF.out.1 h).1, (HF.out.1 h).2.1, (HF.out.1 h).2.2.1⟩, fun h => HF.out.2 ⟨h.1, h.2.1, h.2.2, HA.out⟩⟩
      have HK := Lib.hid key
      clear key
      by_cases h0 : 1 ≤ nth s 0
      · have h0i : (1 : Int) ≤ (nth s 0 : Int) := by omega
        by_cases h1 : 16 ≤ nth s 1
        · have h1i : (16 : Int) ≤ (nth s 1 : Int) := by omega
          by_cases h2 : nth s 1 ≤ 4096
          · have h2i : (nth s 1 : Int) ≤ 4096 := by omega
            go_wp2_with fail
            go_ret
            exact ⟨by rw [decide_eq_true (HK.out.2 ⟨h0, h1, h2⟩)]; rfl, HB'.out⟩
          · have h2i : ¬ (nth s 1 : Int) ≤ 4096 := by omega
            go_wp2_with fail
            go_ret
            exact ⟨by rw [decide_eq_false (p := Fit s) (fun hf => h2 (HK.out.1 hf).2.2)]; rfl, HB'.out⟩
        · have h1i : ¬ (16 : Int) ≤ (nth s 1 : Int) := by omega
          go_wp2_with fail
          go_ret
          exact ⟨by rw [decide_eq_false (p := Fit s) (fun hf => h1 (HK.out.1 hf).2.1)]; rfl, HB'.out⟩
      · have h0i : ¬ (1 : Int) ≤ (nth s 0 : Int) := by omega
        go_wp2_with fail
        go_ret
        exact ⟨by rw [decide_eq_false (p := Fit s) (fun hf => h0 (HK.out.1 hf).1)]; rfl, HB'.out⟩
end Go.Proofs.Ytkhimoclikhlaaa.Su
