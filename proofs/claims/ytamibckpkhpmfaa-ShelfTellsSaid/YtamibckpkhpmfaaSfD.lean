/- Contracts: cmp's isNaN, Compare and Or, as shelf.rising calls them. -/
import Derived.Test.YtamibckpkhpmfaaSfB
namespace Go.Proofs.Ytamibckpkhpmfaa.Sf
open Go.RowKit Go.Proofs.Ytamibckpkhpmfaa.Oct
set_option linter.unusedVariables false

/-- What Compare tells of two numbers. -/
def cmp3 (a b : Nat) : Int := if a < b then -1 else if b < a then 1 else 0

theorem nan64 (a : Nat) (w : World) : Calls Try.prog 45 #[.int .u64 (a : Int)] w fun e w' => e = .returned (.bool false) ∧ w = w' := by
  have h : ((a : Int) != (a : Int)) = false := by simp
  go_enter Try.func45, Try.ntmps45
  go_wp2
  go_ret
  exact ⟨rfl, rfl⟩
theorem nan32 (a : Nat) (w : World) : Calls Try.prog 46 #[.int .u32 (a : Int)] w fun e w' => e = .returned (.bool false) ∧ w = w' := by
  have h : ((a : Int) != (a : Int)) = false := by simp
  go_enter Try.func46, Try.ntmps46
  go_wp2
  go_ret
  exact ⟨rfl, rfl⟩
theorem cmp64 (a b : Nat) (w : World) : Calls Try.prog 41 #[.int .u64 (a : Int), .int .u64 (b : Int)] w fun e w' => e = .returned (.int .i64 (cmp3 a b)) ∧ w = w' := by
  by_cases h1 : a < b
  · have HC := Lib.hid (show cmp3 a b = -1 by unfold cmp3; rw [if_pos h1])
    go_enter Try.func41, Try.ntmps41
    go_wp2_with (go_at_call 45; refine (nan64 _ _).mono ?_; rintro e w' ⟨rfl, rfl⟩)
    go_ret
    exact ⟨by rw [HC.out]; rfl, rfl⟩
  · by_cases h2 : b < a
    · have HC := Lib.hid (show cmp3 a b = 1 by unfold cmp3; rw [if_neg h1, if_pos h2])
      go_enter Try.func41, Try.ntmps41
      go_wp2_with (go_at_call 45; refine (nan64 _ _).mono ?_; rintro e w' ⟨rfl, rfl⟩)
      go_ret
      exact ⟨by rw [HC.out]; rfl, rfl⟩
    · have HC := Lib.hid (show cmp3 a b = 0 by unfold cmp3; rw [if_neg h1, if_neg h2])
      go_enter Try.func41, Try.ntmps41
      go_wp2_with (go_at_call 45; refine (nan64 _ _).mono ?_; rintro e w' ⟨rfl, rfl⟩)
      go_ret
      exact ⟨by rw [HC.out]; rfl, rfl⟩
theorem cmp32 (a b : Nat) (w : World) : Calls Try.prog 42 #[.int .u32 (a : Int), .int .u32 (b : Int)] w fun e w' => e = .returned (.int .i64 (cmp3 a b)) ∧ w = w' := by
  by_cases h1 : a < b
  · have HC := Lib.hid (show cmp3 a b = -1 by unfold cmp3; rw [if_pos h1])
    go_enter Try.func42, Try.ntmps42
    go_wp2_with (go_at_call 46; refine (nan32 _ _).mono ?_; rintro e w' ⟨rfl, rfl⟩)
    go_ret
    exact ⟨by rw [HC.out]; rfl, rfl⟩
  · by_cases h2 : b < a
    · have HC := Lib.hid (show cmp3 a b = 1 by unfold cmp3; rw [if_neg h1, if_pos h2])
      go_enter Try.func42, Try.ntmps42
      go_wp2_with (go_at_call 46; refine (nan32 _ _).mono ?_; rintro e w' ⟨rfl, rfl⟩)
      go_ret
      exact ⟨by rw [HC.out]; rfl, rfl⟩
    · have HC := Lib.hid (show cmp3 a b = 0 by unfold cmp3; rw [if_neg h1, if_neg h2])
      go_enter Try.func42, Try.ntmps42
      go_wp2_with (go_at_call 46; refine (nan32 _ _).mono ?_; rintro e w' ⟨rfl, rfl⟩)
      go_ret
      exact ⟨by rw [HC.out]; rfl, rfl⟩

def or2 (x y : Int) : Int := if x = 0 then y else x
/-- Or of two. -/
theorem or_two (b : Nat) (x y : Int) (w : World) (h1 : w.cell? ⟨b, 0, none⟩ = some (.int .i64 x)) (h2 : w.cell? ⟨b, 1, none⟩ = some (.int .i64 y)) :
    Calls Try.prog 40 #[.slice (some ⟨b, 0, none⟩) 2 2] w fun e w' => e = .returned (.int .i64 (or2 x y)) ∧ w = w' := by
  by_cases hx : x = 0
  · subst hx
    have hxx : ((0 : Int) != 0) = false := by simp
    by_cases hy : y = 0
    · subst hy
      go_enter Try.func40, Try.ntmps40
      go_wp2_with fail
      refine wp_loop_rounds 3 ?_
      rw [rounds_succ]
      go_wp2_with fail
      rw [rounds_succ]
      go_wp2_with fail
      rw [rounds_succ]
      go_wp2_with fail
      go_ret
      exact ⟨rfl, rfl⟩
    · have hyy : (y != 0) = true := by simp [hy]
      have HC := Lib.hid (show or2 0 y = y by simp [or2])
      clear hy
      go_enter Try.func40, Try.ntmps40
      go_wp2_with fail
      refine wp_loop_rounds 3 ?_
      rw [rounds_succ]
      go_wp2_with fail
      rw [rounds_succ]
      go_wp2_with fail
      go_ret
      exact ⟨by rw [HC.out]; rfl, rfl⟩
  · have hxx : (x != 0) = true := by simp [hx]
    have HC := Lib.hid (show or2 x y = x by simp [or2, hx])
    clear hx
    go_enter Try.func40, Try.ntmps40
    go_wp2_with fail
    refine wp_loop_rounds 3 ?_
    rw [rounds_succ]
    go_wp2_with fail
    go_ret
    exact ⟨by rw [HC.out]; rfl, rfl⟩

theorem or_lt (a b : Ent) : (or2 (cmp3 a.1.toNat b.1.toNat) (cmp3 a.2.toNat b.2.toNat) ≥ 0) ↔ ¬ lt a b := by
  unfold or2 cmp3 lt
  repeat' split
  all_goals omega
end Go.Proofs.Ytamibckpkhpmfaa.Sf
