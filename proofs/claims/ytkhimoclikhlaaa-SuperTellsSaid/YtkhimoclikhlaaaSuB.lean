/- Contracts: super.Right, super.Slot. -/
import Derived.Test.YtkhimoclikhlaaaSuA
import Derived.Deep.MidRow
import Derived.Deep.WholeRow
namespace Go.Proofs.Ytkhimoclikhlaaa.Su
open Go.RowKit Go.Proofs.Ytkhimoclikhlaaa.Oct Go.Proofs.Ytkhimoclikhlaaa.Sf
set_option linter.unusedVariables false

theorem slot_any (n : Nat) (h : n < 18446744073709551616) (w : World) :
    Calls Try.prog 21 #[.int .u64 (n : Int)] w fun e w' => e = .returned (.int .i64 ((n % 2 : Nat) : Int)) ∧ w = w' := by
  have hm : (n : Int).tmod 2 = ((n % 2 : Nat) : Int) := by rw [Int.tmod_eq_emod_of_nonneg (by omega)]; rfl
  go_enter Try.func21, Try.ntmps21
  go_wp2
  go_ret
  refine ⟨?_, rfl⟩
  congr 2

def rcells (s : Sup) : List Value := (List.range 8).map fun i => .int .u32 (nth s (2 + i) : Int)
theorem length_rcells (s : Sup) : (rcells s).length = 8 := by simp [rcells]
theorem row_roots {w : World} {B : Nat} {T : TypeId} {s : Sup} (h : RowV w B T (scells s)) : w.rangeAt B 2 (rcells s) := by
  intro j v hv
  have hj : j < 8 := by have := (List.getElem?_eq_some_iff.1 hv).1; rwa [length_rcells] at this
  have : v = scell (2 + j) (nth s (2 + j)) := by
    rw [scell_small _ _ (by omega) (by omega)]
    simpa [rcells, hj] using hv.symm
  rw [this]
  exact h.cellAt (scells_at s (2 + j) (by omega))
theorem roots_size : (Try.prog.info? 24).map (·.size) = some 8 := by kernel_rfl

/-- The root at i, as an index reads it. -/
theorem run_root (s : Sup) (w : World) (i : Nat) (h : i < 8) : (Instr.index 24 (.agg (rcells s).toArray) (.int .i64 (i : Int))).run Try.prog w = .ok (.int .u32 (nth s (2 + i) : Int)) w := by
  have h1 : (rcells s)[i]? = some (.int .u32 (nth s (2 + i) : Int)) := by simp [rcells, h]
  unfold Instr.index
  simp [go_sem]
  rw [if_pos h, h1]
  rfl

set_option maxRecDepth 100000 in
set_option maxHeartbeats 1000000 in
theorem right_any (s : Sup) (hs : Ok s) (w : World) :
    Calls Try.prog 19 #[sval s] w fun e w' => e = .returned (.bool (decide (Fit s))) ∧ Below w.heap.size w w' := by
  have R1 := alloc_rowV w 27 (scells s)
  have b1 := Lib.hid ((Below.refl w.heap.size w).alloc (Nat.le_refl _) (.cells (scells s).toArray 27))
  have c0 := R1.cellAt (scells_at s 0 (by decide))
  have c1 := R1.cellAt (scells_at s 1 (by decide))
  rw [scell_wide _ _ (.inl rfl)] at c0
  rw [scell_small _ _ (by decide) (by decide)] at c1
  have HRA := Lib.hid (row_roots R1)
  have HIX := Lib.hid (run_root s)
  have HF := Lib.hid (show Fit s ↔ (1 ≤ nth s 0 ∧ 16 ≤ nth s 1 ∧ nth s 1 ≤ 4096 ∧ ∀ i, i < 8 → nth s (2 + i) < nth s 1) from Iff.rfl)
  have hg := hs.lt 0
  have hb := hs.small 1 (by decide) (by decide)
  clear R1
  unfold sval
  by_cases h0 : nth s 0 < 1
  · go_enter Try.func19, Try.ntmps19
    have h0' : ((nth s 0 : Nat) : Int) < 1 := by omega
    go_wp2_with fail
    go_ret
    exact ⟨by rw [decide_eq_false (p := Fit s) (fun hf => by have := (HF.out.1 hf).1; omega)]; rfl, b1.out⟩
  · by_cases h1 : nth s 1 < 16
    · go_enter Try.func19, Try.ntmps19
      have h0' : ¬ ((nth s 0 : Nat) : Int) < 1 := by omega
      have h1' : ((nth s 1 : Nat) : Int) < 16 := by omega
      go_wp2_with fail
      go_ret
      exact ⟨by rw [decide_eq_false (p := Fit s) (fun hf => by have := (HF.out.1 hf).2.1; omega)]; rfl, b1.out⟩
    · by_cases h2 : 4096 < nth s 1
      · go_enter Try.func19, Try.ntmps19
        have h0' : ¬ ((nth s 0 : Nat) : Int) < 1 := by omega
        have h1' : ¬ ((nth s 1 : Nat) : Int) < 16 := by omega
        have h2' : (4096 : Int) < ((nth s 1 : Nat) : Int) := by omega
        go_wp2_with fail
        go_ret
        exact ⟨by rw [decide_eq_false (p := Fit s) (fun hf => by have := (HF.out.1 hf).2.2.1; omega)]; rfl, b1.out⟩
      · go_enter Try.func19, Try.ntmps19
        have h0' : ¬ ((nth s 0 : Nat) : Int) < 1 := by omega
        have h1' : ¬ ((nth s 1 : Nat) : Int) < 16 := by omega
        have h2' : ¬ (4096 : Int) < ((nth s 1 : Nat) : Int) := by omega
        go_wp2_with (refine wpList_load_mid rfl 24 (.tmp 18) rfl w.heap.size 2 rfl (rcells s) _ HRA.out Try.underlying24 rfl (by rw [roots_size, length_rcells]) ?_)
        generalize w.alloc (.cells (scells s).toArray 27) = w1 at *
        go_loopw [20] (fun i wr => ∃ k : Nat, k ≤ 8 ∧ i = .int .i64 (k : Int) ∧ Hid (∀ i, i < k → nth s (2 + i) < nth s 1) ∧ wr = w1) (fun i _ => 8 - (intOf i).toNat)
        case atStart => exact ⟨0, by omega, rfl, Lib.hid (fun i hi => by omega), rfl⟩
        case round =>
          obtain ⟨k, hk, rfl, HA, rfl⟩ := hrel
          by_cases hlt : k < 8
          · have hix := HIX.out wr k hlt
            have hx := hs.small (2 + k) (by omega) (by omega)
            by_cases hge : nth s 1 ≤ nth s (2 + k)
            · have hge' : ((nth s 1 : Nat) : Int) ≤ ((nth s (2 + k) : Nat) : Int) := by omega
              go_wp2_with fail
              go_ret
              exact ⟨by rw [decide_eq_false (p := Fit s) (fun hf => by have := (HF.out.1 hf).2.2.2 k hlt; omega)]; rfl, b1.out⟩
            · have hge' : ¬ ((nth s 1 : Nat) : Int) ≤ ((nth s (2 + k) : Nat) : Int) := by omega
              go_wp2_with fail
              go_roundw
              case rel => exact ⟨k + 1, by omega, by go_num, Lib.hid (fun i hi => by
                by_cases e : i = k
                · subst e; omega
                · exact HA.out i (by omega)), by first | rfl | trivial⟩
              case measure => simp [intOf]; omega
          · obtain rfl : k = 8 := by omega
            go_wp2_with fail
            go_ret
            exact ⟨by rw [decide_eq_true (p := Fit s) (HF.out.2 ⟨by omega, by omega, by omega, HA.out⟩)]; rfl, b1.out⟩
end Go.Proofs.Ytkhimoclikhlaaa.Su
