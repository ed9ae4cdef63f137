/- What the reference's there, Number, Get, plus, Sum answer, with their bytes in memory as told. -/
import Derived.Test.YtkhimoclikhlaaaOctP
namespace Go.Proofs.Ytkhimoclikhlaaa.Oct
open Go.RowKit
set_option linter.unusedVariables false

set_option maxHeartbeats 400000 in
theorem number_any (b o len cap : Nat) (bs : List UInt8) (hlen : bs.length = len) (w : World) (hl : len ≤ 8) (hb : Has w b o bs) :
    Calls Try.prog 35 #[.slice (some ⟨b, o, none⟩) len cap] w fun e w' => e = .returned (.int .u64 (num bs)) ∧ w = w' := by
  have HB := Lib.hid hb
  have HL := Lib.hid hlen
  clear hb hlen
  go_enter Try.func35, Try.ntmps35
  go_wp2
  go_loop [3, 4] (fun t i => ∃ k : Nat, k ≤ len ∧ i = .int .i64 k ∧ t = .int .u64 (num (bs.take k))) (fun _ i => len - (intOf i).toNat)
  case atStart => exact ⟨0, Nat.zero_le _, rfl, rfl⟩
  case round =>
    obtain ⟨k, hk, rfl, rfl⟩ := hrel
    by_cases hlt : k < len
    · have hc := HB.out k (by rw [HL.out]; exact hlt)
      have hn := num_lt7 (bs.take k) (by simp; omega)
      have hs := Lib.hid (show bs.take (k + 1) = bs.take k ++ [bs[k]'(by rw [HL.out]; exact hlt)] from by rw [List.take_succ_eq_append_getElem (by rw [HL.out]; exact hlt)])
      generalize bs[k]'(by rw [HL.out]; exact hlt) = c at hc hs
      have hc2 := u8_lt c
      go_wp2
      go_round
      case rel => exact ⟨k + 1, by omega, by go_num, by rw [hs.out, num_snoc]; go_num⟩
      case measure => simp [intOf]; omega
    · go_wp2
      go_ret
      exact ⟨ret_int (by rw [List.take_of_length_le (by rw [HL.out]; omega)]), rfl⟩

theorem plus_any (a b : Nat) (w : World) (ha : a < 4294967291) (hb : b < 4294967291) :
    Calls Try.prog 41 #[.int .u32 a, .int .u32 b] w fun e w' => e = .returned (.int .u32 ((a + b) % 4294967291 : Nat)) ∧ w = w' := by
  by_cases h : 4294967291 - b ≤ a
  · have h2 : (4294967291 : Int) - b ≤ a := by omega
    go_enter Try.func41, Try.ntmps41
    go_wp2
    go_ret
    exact ⟨ret_int (by omega), rfl⟩
  · have h2 : ¬ (4294967291 : Int) - b ≤ a := by omega
    go_enter Try.func41, Try.ntmps41
    go_wp2
    go_ret
    exact ⟨ret_int (by omega), rfl⟩

theorem plus_lit (ai bi : Int) (a b : Nat) (ea : ai = a) (eb : bi = b) (w : World) (ha : a < 4294967291) (hb : b < 4294967291) :
    Calls Try.prog 41 #[.int .u32 ai, .int .u32 bi] w fun e w' => e = .returned (.int .u32 ((a + b) % 4294967291 : Nat)) ∧ w = w' := by
  subst ea eb
  exact plus_any a b w ha hb

/-- t is j times S, less what it is beyond the prime. -/
def Times (S j t : Nat) : Prop := t = j * S % 4294967291
theorem Times.zero (S : Nat) : Times S 0 0 := by simp [Times]
theorem Times.next {S j t : Nat} (h : Times S j t) : Times S (j + 1) ((t + S) % 4294967291) := by
  unfold Times at *
  rw [h, Nat.succ_mul, Nat.mod_add_mod]
theorem Times.lt {S j t : Nat} (h : Times S j t) : t < 4294967291 := by
  unfold Times at h
  rw [h]
  exact Nat.mod_lt _ (by decide)
theorem Times.step {S t : Nat} (h : Times S 31 t) (c : UInt8) : ((t + c.toNat) % 4294967291 + 7) % 4294967291 = step S c := by
  unfold Times at h
  subst h
  unfold Oct.step
  omega
theorem step_plus (s : Nat) (c : UInt8) : ((31 * s % 4294967291 + c.toNat) % 4294967291 + 7) % 4294967291 = step s c := by
  unfold step
  omega

set_option maxRecDepth 100000 in
set_option maxHeartbeats 800000 in
theorem rsum_any (b o len cap : Nat) (bs : List UInt8) (hlen : bs.length = len) (w : World) (hl : len ≤ maxLen) (hb : Has w b o bs) :
    Calls Try.prog 40 #[.slice (some ⟨b, o, none⟩) len cap] w fun e w' => e = .returned (.int .u32 (sum bs)) ∧ w = w' := by
  have HB := Lib.hid hb
  have HL := Lib.hid hlen
  clear hb hlen
  unfold maxLen at hl
  go_enter Try.func40, Try.ntmps40
  go_wp2
  go_loop [3, 4] (fun t i => ∃ k : Nat, k ≤ len ∧ i = .int .i64 k ∧ t = .int .u32 (sum (bs.take k))) (fun _ i => len - (intOf i).toNat)
  case atStart => exact ⟨0, Nat.zero_le _, rfl, rfl⟩
  case round =>
    obtain ⟨k, hk, rfl, rfl⟩ := hrel
    have hn := sum_lt (bs.take k)
    by_cases hlt : k < len
    · have hc := HB.out k (by rw [HL.out]; exact hlt)
      have hs := Lib.hid (show bs.take (k + 1) = bs.take k ++ [bs[k]'(by rw [HL.out]; exact hlt)] from by rw [List.take_succ_eq_append_getElem (by rw [HL.out]; exact hlt)])
      generalize bs[k]'(by rw [HL.out]; exact hlt) = c at hc hs
      have hc2 := u8_lt c
      generalize hS : sum (bs.take k) = S at *
      have HS := Lib.hid hS
      clear hS
      go_wp2
      go_loop [5, 6] (fun t i => ∃ j u : Nat, j ≤ 31 ∧ i = .int .i64 j ∧ t = .int .u32 (u : Int) ∧ Times S j u) (fun _ i => 31 - (intOf i).toNat)
      case atStart => exact ⟨0, 0, Nat.zero_le _, rfl, rfl, Times.zero S⟩
      case round =>
        obtain ⟨j, u, hj, rfl, rfl, htm⟩ := hrel
        have hu := htm.lt
        by_cases hj2 : j < 31
        · go_wp2_with fail
          refine (plus_any u S _ hu hn).mono ?_
          rintro e w' ⟨rfl, rfl⟩
          go_wp2_with fail
          go_round
          case rel => exact ⟨j + 1, (u + S) % 4294967291, by omega, by go_num, by go_num, htm.next⟩
          case measure => simp [intOf]; omega
        · obtain rfl : j = 31 := by omega
          have hst := Lib.hid (htm.step c)
          have hm1 : (u + c.toNat) % 4294967291 < 4294967291 := Nat.mod_lt _ (by decide)
          go_wp2_with fail
          refine (plus_any u c.toNat _ hu (by omega)).mono ?_
          rintro e w' ⟨rfl, rfl⟩
          generalize (u + c.toNat) % 4294967291 = v at hst hm1
          go_wp2_with fail
          refine (plus_lit v 7 v 7 rfl rfl _ hm1 (by omega)).mono ?_
          rintro e w' ⟨rfl, rfl⟩
          rw [hst.out]
          go_wp2_with fail
          go_round
          case rel => exact ⟨k + 1, by omega, by go_num, by rw [hs.out, sum_snoc, HS.out]⟩
          case measure => simp [intOf]; omega
    · go_wp2
      go_ret
      exact ⟨ret_int (by rw [List.take_of_length_le (by rw [HL.out]; omega)]), rfl⟩
end Go.Proofs.Ytkhimoclikhlaaa.Oct
