/- What the reference's Bytes answers; bytes that a call owns, and what append makes of them. -/
import Derived.Test.YtkhimoclikhlaaaRoR
import Derived.Deep.AppendLies
namespace Go.Proofs.Ytkhimoclikhlaaa.Oct
open Go.RowKit
set_option linter.unusedVariables false

theorem has_at' {w : World} {g i : Nat} {bs : List UInt8} {c : UInt8} (h : Has w g 0 bs) (hc : bs[i]? = some c) : w.cell? ⟨g, i, none⟩ = some (.int .u8 (c.toNat : Int)) := by
  obtain ⟨hi, e⟩ := List.getElem?_eq_some_iff.1 hc
  have := h i hi
  rw [Nat.zero_add, e] at this
  exact this
theorem bytesOf_high (n k : Nat) : bytesOf n (k + 1) = UInt8.ofNat (n / 256 ^ k % 256) :: bytesOf n k := by
  induction k generalizing n with
  | zero => simp [bytesOf]
  | succ k ih =>
    rw [bytesOf, ih (n / 256), bytesOf, Nat.div_div_eq_div_mul, Nat.pow_succ, Nat.mul_comm 256]
    rfl
/-- m is what is left of n behind k bytes. -/
def Left (n k m : Nat) : Prop := m = n / 256 ^ k
theorem Left.zero (n : Nat) : Left n 0 n := by simp [Left]
theorem Left.next {n k m : Nat} (h : Left n k m) : Left n (k + 1) (m / 256) := by
  unfold Left at *
  rw [h, Nat.div_div_eq_div_mul, Nat.pow_succ]
theorem Left.test {n k m : Nat} (h : Left n k m) : ((m : Int) == 0) = decide (n < 256 ^ k) := by
  unfold Left at h
  have hp : 0 < 256 ^ k := Nat.pow_pos (by decide)
  by_cases hn : n < 256 ^ k
  · rw [decide_eq_true hn, h, Nat.div_eq_of_lt hn]
    rfl
  · rw [decide_eq_false hn, beq_eq_false_iff_ne]
    have : 0 < n / 256 ^ k := Nat.div_pos (by omega) hp
    omega
/-- The row behind k rounds. -/
def some0 (n s k : Nat) : List UInt8 := List.replicate (s - k) 0 ++ bytesOf n k
theorem some0_set {n s k m : Nat} (h : Left n k m) (hk : k < s) : (some0 n s k).set (s - 1 - k) (UInt8.ofNat (m % 256)) = some0 n s (k + 1) := by
  unfold Left at h
  unfold some0
  rw [bytesOf_high, ← h, show s - k = (s - 1 - k) + 1 by omega, List.replicate_succ', List.append_assoc, List.set_append_right (h := by simp), List.length_replicate, Nat.sub_self, show s - (k + 1) = s - 1 - k by omega]
  rfl
theorem some0_start (n s : Nat) : some0 n s 0 = List.replicate s 0 := by simp [some0, bytesOf]
theorem some0_end (n s : Nat) : some0 n s s = bytesOf n s := by simp [some0]
theorem length_some0 (n s k : Nat) (h : k ≤ s) : (some0 n s k).length = s := by simp [some0, length_bytesOf]; omega

set_option maxRecDepth 100000 in
set_option maxHeartbeats 800000 in
theorem bytes_any (n s : Nat) (w : World) (hn : n < 18446744073709551616) (hs : s ≤ 8) :
    Calls Try.prog 28 #[.int .u64 n, .int .i64 s] w fun e w' => ∃ g, e = .returned (.tuple #[.slice (some ⟨g, 0, none⟩) s s, .bool (decide (n < 256 ^ s))]) ∧ w.heap.size ≤ g ∧ Row w' g (bytesOf n s) ∧ Below w.heap.size w w' := by
  have hmk := run_make_bytes w s (by omega)
  have R1 := alloc_row w (List.replicate s 0)
  have B1 := (Below.refl w.heap.size w).alloc (Nat.le_refl _) (.cells (vals (List.replicate s 0)).toArray 5)
  generalize w.alloc (.cells (vals (List.replicate s 0)).toArray 5) = w1 at hmk R1 B1
  obtain ⟨g, hg⟩ : ∃ g, g = w.heap.size := ⟨_, rfl⟩
  rw [← hg] at hmk R1
  have HG : w.heap.size ≤ g := by omega
  clear hg
  rw [← some0_start n s] at R1
  go_enter Try.func28, Try.ntmps28
  go_wp2_with fail
  go_loopw [0, 7] (fun q i wr => ∃ k m : Nat, k ≤ s ∧ i = .int .i64 ((s : Int) - 1 - k) ∧ q = .int .u64 (m : Int) ∧ m ≤ n ∧ Left n k m ∧ Row wr g (some0 n s k) ∧ Below w.heap.size w wr) (fun _ i _ => (intOf i + 1).toNat)
  case atStart => exact ⟨0, n, Nat.zero_le _, by simp, rfl, Nat.le_refl _, Left.zero n, R1, B1⟩
  case round =>
    obtain ⟨k, m, hk, rfl, rfl, hmn, hm, hR, hB⟩ := hrel
    have HM := Lib.hid hm
    have HR := Lib.hid hR
    have HB := Lib.hid hB
    clear hm hR hB
    by_cases hlt : k < s
    · have hi : (s : Int) - 1 - k = ((s - 1 - k : Nat) : Int) := by omega
      have c0 := has_at' HR.out.has (i := s - 1 - k) (c := 0) (by unfold some0; rw [List.getElem?_append_left (by simp; omega), List.getElem?_replicate, if_pos (by omega)])
      have f0 := HR.out.free 0 s (s - 1 - k) (by omega)
      rw [Nat.zero_add] at f0
      have hv : ((m : Int) % 256) = (((UInt8.ofNat (m % 256)).toNat : Nat) : Int) := by simp
      have R2 : Row (wr.setCell ⟨g, s - 1 - k, none⟩ (.int .u8 ((m : Int) % 256))) g (some0 n s (k + 1)) := by
        rw [hv, ← some0_set HM.out hlt]
        exact HR.out.set _ _
      have B2 := HB.out.setCell (p := ⟨g, s - 1 - k, none⟩) HG (.int .u8 ((m : Int) % 256))
      have HR2 := Lib.hid R2
      have HB2 := Lib.hid B2
      clear hv R2 B2
      go_wp2
      go_roundw
      case rel => exact ⟨k + 1, m / 256, by omega, by congr 1; omega, by go_num, by omega, HM.out.next, HR2.out, HB2.out⟩
      case measure => simp [intOf]; omega
    · obtain rfl : k = s := by omega
      have ht := HM.out.test
      have hR := HR.out
      rw [some0_end] at hR
      go_wp2
      go_ret2
      exact ⟨g, rfl, HG, hR, HB.out⟩
end Go.Proofs.Ytkhimoclikhlaaa.Oct
