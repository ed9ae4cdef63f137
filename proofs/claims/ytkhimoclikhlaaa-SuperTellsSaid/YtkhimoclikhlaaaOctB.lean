/- What octets.Get answers, with its bytes in memory as told. -/
import Derived.Test.YtkhimoclikhlaaaOctA
import Derived.Test.YtkhimoclikhlaaaOctM
namespace Go.Proofs.Ytkhimoclikhlaaa.Oct
open Go.RowKit
set_option linter.unusedVariables false

set_option maxHeartbeats 400000 in
theorem get_yes (b o cap : Nat) (bs : List UInt8) (p s : Nat) (w : World) (hl : bs.length ≤ maxLen) (hb : Has w b o bs) (h1 : 1 ≤ s) (h8 : s ≤ 8) (hp : p + s ≤ bs.length) :
    Calls Try.prog 31 #[.slice (some ⟨b, o, none⟩) bs.length cap, .int .i64 p, .int .i64 s] w fun e w' => e = .returned (.tuple #[.int .u64 (num ((bs.drop p).take s)), .bool true]) ∧ w = w' := by
  unfold maxLen at hl
  have HB := Lib.hid hb
  clear hb
  go_enter Try.func31, Try.ntmps31
  go_wp2_with (go_at_call 39; refine (within_yes _ _ _ _ _ _ (by unfold maxLen; omega) (by omega) (by omega) (by omega) (by omega)).mono ?_; rintro e w' ⟨rfl, rfl⟩)
  go_loop [8, 16] (fun t i => ∃ k : Nat, k ≤ s ∧ i = .int .i64 k ∧ t = .int .u64 (num ((bs.drop p).take k))) (fun _ i => s - (intOf i).toNat)
  case atStart => exact ⟨0, Nat.zero_le _, rfl, rfl⟩
  case round =>
    obtain ⟨k, hk, rfl, rfl⟩ := hrel
    by_cases hlt : k < s
    · have hc := HB.out (p + k) (by omega)
      have hn := num_lt7 ((bs.drop p).take k) (by simp; omega)
      have hs := Lib.hid (window_snoc bs p k (by omega))
      generalize bs[p + k]'(by omega) = c at hc hs
      have hc2 := u8_lt c
      have ho := Lib.hid (or_step (num ((bs.drop p).take k)) c hn)
      go_wp2
      go_round
      case rel => exact ⟨k + 1, by omega, by go_num, by rw [hs.out, num_snoc, ho.out]⟩
      case measure => simp [intOf]; omega
    · go_wp2
      go_ret2
      have : k = s := by omega
      subst this
      exact ⟨rfl, rfl⟩

theorem get_no (a : Option Addr) (len cap : Nat) (p s : Int) (w : World) (hl : len ≤ maxLen) (h : ¬ (1 ≤ s ∧ s ≤ 8 ∧ 0 ≤ p ∧ p ≤ len - s)) :
    Calls Try.prog 31 #[.slice a len cap, .int .i64 p, .int .i64 s] w fun e w' => e = .returned (.tuple #[.int .u64 0, .bool false]) ∧ w = w' := by
  have H := Lib.hid h
  clear h
  go_enter Try.func31, Try.ntmps31
  go_wp2_with (go_at_call 39; refine (within_no _ _ _ _ _ _ hl H.out).mono ?_; rintro e w' ⟨rfl, rfl⟩)
  go_ret2
  exact ⟨rfl, rfl⟩

set_option maxHeartbeats 400000 in
theorem sum_any (b o cap : Nat) (bs : List UInt8) (w : World) (hl : bs.length ≤ maxLen) (hb : Has w b o bs) :
    Calls Try.prog 37 #[.slice (some ⟨b, o, none⟩) bs.length cap] w fun e w' => e = .returned (.int .u32 (sum bs)) ∧ w = w' := by
  unfold maxLen at hl
  have HB := Lib.hid hb
  clear hb
  go_enter Try.func37, Try.ntmps37
  go_wp2
  go_loop [3, 7] (fun t i => ∃ k : Nat, k ≤ bs.length ∧ i = .int .i64 k ∧ t = .int .u64 (sum (bs.take k))) (fun _ i => bs.length - (intOf i).toNat)
  case atStart => exact ⟨0, Nat.zero_le _, rfl, rfl⟩
  case round =>
    obtain ⟨k, hk, rfl, rfl⟩ := hrel
    have hn := sum_lt (bs.take k)
    by_cases hlt : k < bs.length
    · have hc := HB.out k hlt
      have hs := Lib.hid (show bs.take (k + 1) = bs.take k ++ [bs[k]] from by rw [List.take_succ_eq_append_getElem hlt])
      generalize bs[k] = c at hc hs
      have hc2 := u8_lt c
      go_wp2
      go_round
      case rel => exact ⟨k + 1, by omega, by go_num, by rw [hs.out, sum_snoc]; unfold step; go_num⟩
      case measure => simp [intOf]; omega
    · go_wp2
      go_ret
      have : k = bs.length := by omega
      subst this
      exact ⟨ret_int (by rw [List.take_of_length_le (Nat.le_refl _)]), rfl⟩
end Go.Proofs.Ytkhimoclikhlaaa.Oct
