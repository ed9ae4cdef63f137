/- Two lists that are the same. -/
import Derived.Test.YtigmgaedpdeleaaTlH
namespace Go.Proofs.Ytigmgaedpdeleaa.Tl
open Go.RowKit Go.Proofs.Ytigmgaedpdeleaa.Oct Go.Proofs.Ytigmgaedpdeleaa.Mv Go.Maps
set_option linter.unusedVariables false

theorem List64.still {w w' : World} {v : Value} {l : List Nat} (h : List64 w v l) (k : Below w.heap.size w w') : List64 w' v l := by
  obtain ⟨A, cap, e, h2⟩ := h
  exact ⟨A, cap, e, h2.below k⟩
theorem ints_at (l : List Nat) (i : Nat) (h : i < l.length) : (ints l)[i]? = some (.int .i64 (l[i] : Int)) := by simp [ints, h]
set_option maxRecDepth 100000 in
theorem same_yes {w : World} {v1 v2 : Value} {l : List Nat} (h1 : List64 w v1 l) (h2 : List64 w v2 l) (hl : l.length ≤ 4096) :
    Calls Try.prog 18 #[v1, v2] w fun e w' => e = .returned (.bool true) ∧ Below w.heap.size w w' := by
  obtain ⟨A1, c1, rfl, t1⟩ := h1
  obtain ⟨A2, c2, rfl, t2⟩ := h2
  have H1 := Lib.hid t1
  have H2 := Lib.hid t2
  clear t1 t2
  go_enter Try.func18, Try.ntmps18
  go_wp2_with fail
  go_loopw [13] (fun i wr => ∃ k : Nat, k ≤ l.length ∧ i = .int .i64 (k : Int) ∧ wr.heap = w.heap ∧ Hid (Still w wr)) (fun i _ => l.length - (Go.RowKit.intOf i).toNat)
  case atStart => exact ⟨0, Nat.zero_le _, rfl, rfl, Lib.hid ⟨rfl, rfl, rfl, rfl⟩⟩
  case round =>
    obtain ⟨k, hk, rfl, hw, HS⟩ := hrel
    clear hw
    by_cases hlt : k < l.length
    · have hki : (k : Int) < (l.length : Int) := by omega
      have hge : (0 : Int) ≤ (k : Int) := by omega
      obtain ⟨b1, o1, rfl, m1⟩ := (H1.out.still HS.out).has (by rw [length_ints]; omega)
      obtain ⟨b2, o2, rfl, m2⟩ := (H2.out.still HS.out).has (by rw [length_ints]; omega)
      have d1 := m1.cellAt (ints_at l k hlt)
      have d2 := m2.cellAt (ints_at l k hlt)
      have HD := fun n => Lib.hid (show Still w (wr.drewN n) from ⟨HS.out.os, HS.out.tape, HS.out.output, HS.out.heap⟩)
      clear m1 m2
      go_wp2_with fail
      go_region
      go_wp2_with fail
      go_roundw
      case rel => exact ⟨k + 1, by omega, by go_num, HS.out.heap, HD 1⟩
      case measure => simp [Go.RowKit.intOf]; omega
    · obtain rfl : k = l.length := by omega
      go_wp2_with fail
      go_ret
      exact ⟨rfl, HS.out.below _⟩
end Go.Proofs.Ytigmgaedpdeleaa.Tl
