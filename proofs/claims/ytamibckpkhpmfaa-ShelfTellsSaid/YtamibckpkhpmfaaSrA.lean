/- The reference of shelf: ahead, Bit, and which shelves it calls right. -/
import Derived.Test.YtamibckpkhpmfaaSfF
import Derived.StillTailTactics
namespace Go.Proofs.Ytamibckpkhpmfaa.Sf
open Go.RowKit Go.Proofs.Ytamibckpkhpmfaa.Oct
set_option linter.unusedVariables false

/-! ### Bits, one by one -/
def bit (x k : Nat) : Nat := x / 2 ^ (63 - k) % 2
theorem bits_zero (x y : UInt64) : x.toNat / 2 ^ (64 - 0) = y.toNat / 2 ^ (64 - 0) := by
  have := u64_lt x
  have := u64_lt y
  rw [Nat.div_eq_of_lt (by omega), Nat.div_eq_of_lt (by omega)]
theorem bits_next (x y k : Nat) (hk : k < 64) : x / 2 ^ (64 - (k + 1)) = y / 2 ^ (64 - (k + 1)) ↔ x / 2 ^ (64 - k) = y / 2 ^ (64 - k) ∧ bit x k = bit y k := by
  unfold bit
  rw [show 64 - (k + 1) = 63 - k by omega, show 64 - k = (63 - k) + 1 by omega, Nat.pow_succ, ← Nat.div_div_eq_div_mul, ← Nat.div_div_eq_div_mul]
  omega
theorem bits_less (x y k d : Nat) (h : k ≤ d) (hd : d ≤ 64) (hn : ¬ x / 2 ^ (64 - k) = y / 2 ^ (64 - k)) : ¬ x / 2 ^ (64 - d) = y / 2 ^ (64 - d) := fun e => hn (by
  rw [show 64 - k = (64 - d) + (d - k) by omega, Nat.pow_add, ← Nat.div_div_eq_div_mul, ← Nat.div_div_eq_div_mul, e])

theorem bit_any (x : UInt64) (k : Nat) (hk : k < 64) (w : World) : Calls Try.prog 34 #[.int .u64 (x.toNat : Int), .int .i64 (k : Int)] w fun e w' => e = .returned (.int .i64 (bit x.toNat k : Int)) ∧ w = w' := by
  have hx := u64_lt x
  have HB := Lib.hid (show ((x.toNat : Int) / 2 ^ (63 - k) % 2) = (bit x.toNat k : Int) by unfold bit; simp)
  have e : ((x.toNat : Int) / 2 ^ (63 - k)) = ((x.toNat / 2 ^ (63 - k) : Nat) : Int) := by simp
  have h0 : (0 : Int) ≤ (x.toNat : Int) / 2 ^ (63 - k) := by rw [e]; exact Int.natCast_nonneg _
  have h1 : (x.toNat : Int) / 2 ^ (63 - k) ≤ 18446744073709551615 := by rw [e]; exact Int.ofNat_le.2 (show x.toNat / 2 ^ (63 - k) ≤ 18446744073709551615 from Nat.le_trans (Nat.div_le_self _ _) (by omega))
  clear e
  go_enter Try.func34, Try.ntmps34
  go_wp2_with fail
  go_ret
  exact ⟨by rw [← HB.out]; go_num, rfl⟩

theorem ahead_any (a b : Ent) (w : World) : Calls Try.prog 33 #[.agg #[.int .u64 (a.1.toNat : Int), .int .u32 (a.2.toNat : Int)], .agg #[.int .u64 (b.1.toNat : Int), .int .u32 (b.2.toNat : Int)]] w fun e w' => e = .returned (.bool (decide (lt a b))) ∧ Below w.heap.size w w' := by
  have b1 := (Below.refl w.heap.size w).alloc (Nat.le_refl _) (.cells #[.int .u64 (a.1.toNat : Int), .int .u32 (a.2.toNat : Int)] 40)
  have BB := Lib.hid (b1.alloc b1.size (.cells #[.int .u64 (b.1.toNat : Int), .int .u32 (b.2.toNat : Int)] 40))
  clear b1
  have HL := Lib.hid (show lt a b ↔ (a.1.toNat < b.1.toNat ∨ (a.1.toNat = b.1.toNat ∧ a.2.toNat < b.2.toNat)) from Iff.rfl)
  by_cases h1 : a.1.toNat < b.1.toNat
  · have HD := Lib.hid (decide_eq_true (HL.out.2 (.inl h1)))
    go_enter Try.func33, Try.ntmps33
    go_wp2_with fail
    go_ret
    exact ⟨by rw [HD.out]; rfl, BB.out⟩
  · by_cases h2 : a.1.toNat = b.1.toNat
    · have hb : ((a.1.toNat : Int) == (b.1.toNat : Int)) = true := by rw [h2]; simp
      by_cases h3 : a.2.toNat < b.2.toNat
      · have HD := Lib.hid (decide_eq_true (HL.out.2 (.inr ⟨h2, h3⟩)))
        clear h2
        go_enter Try.func33, Try.ntmps33
        go_wp2_with fail
        go_ret
        exact ⟨by rw [HD.out]; rfl, BB.out⟩
      · have HD := Lib.hid (decide_eq_false (fun h => by rcases HL.out.1 h with h | h; exact h1 h; exact h3 h.2))
        clear h2
        go_enter Try.func33, Try.ntmps33
        go_wp2_with fail
        go_ret
        exact ⟨by rw [HD.out]; rfl, BB.out⟩
    · have hb : ((a.1.toNat : Int) == (b.1.toNat : Int)) = false := by rw [beq_eq_false_iff_ne]; omega
      have HD := Lib.hid (decide_eq_false (fun h => by rcases HL.out.1 h with h | h; exact h1 h; exact h2 h.1))
      clear h2
      go_enter Try.func33, Try.ntmps33
      go_wp2_with fail
      go_ret
      exact ⟨by rw [HD.out]; rfl, BB.out⟩
end Go.Proofs.Ytamibckpkhpmfaa.Sf
