/- What octets.Put does, with its bytes in memory as told. -/
import Derived.Test.YtkhimoclikhlaaaOctB
namespace Go.Proofs.Ytkhimoclikhlaaa.Oct
open Go.RowKit
set_option linter.unusedVariables false
/-- What stands there behind k rounds of Put. -/
structure PutRel (w wr : World) (b o p s n k : Nat) : Prop where
  wrote : Wrote w wr b (o + p) (o + p + s)
  low : ∀ j, j < s - k → wr.cell? ⟨b, o + p + j, none⟩ = w.cell? ⟨b, o + p + j, none⟩
  high : ∀ j, s - k ≤ j → j < s → wr.cell? ⟨b, o + p + j, none⟩ = some (.int .u8 ((n / 256 ^ (s - 1 - j) % 256 : Nat) : Int))
theorem PutRel.start (w : World) (b o p s n : Nat) : PutRel w w b o p s n 0 := ⟨Wrote.refl _ _ _ _, fun _ _ => rfl, fun j _ _ => by omega⟩
theorem two_pow8 (k : Nat) : (2 : Nat) ^ (8 * k) = 256 ^ k := by rw [Nat.pow_mul]
theorem shr8 (n k : Nat) : ((n : Int) / 2 ^ (8 * k) % 256) = ((n / 256 ^ k % 256 : Nat) : Int) := by
  rw [← two_pow8]
  simp
theorem PutRel.next {w wr : World} {b o p s n k : Nat} (h : PutRel w wr b o p s n k) (hk : k < s) {u : Value} (hu : wr.cell? ⟨b, o + (p + s - 1 - k), none⟩ = some u) :
    PutRel w (wr.setCell ⟨b, o + (p + s - 1 - k), none⟩ (.int .u8 ((n : Int) / 2 ^ (8 * k) % 256))) b o p s n (k + 1) := by
  rw [show o + (p + s - 1 - k) = o + p + (s - 1 - k) by omega] at hu ⊢
  refine ⟨h.wrote.set (by omega) (by omega) _, fun j hj => ?_, fun j h1 h2 => ?_⟩
  · rw [set_other (by omega)]
    exact h.low j (by omega)
  · by_cases hj : j = s - 1 - k
    · subst hj
      rw [set_same hu, shr8]
      rw [show s - 1 - (s - 1 - k) = k by omega]
    · rw [set_other (by omega)]
      exact h.high j (by omega) h2
theorem PutRel.done {w wr : World} {b o p s n : Nat} {bs : List UInt8} (h : PutRel w wr b o p s n s) (hb : Has w b o bs) (hp : p + s ≤ bs.length) :
    Has wr b o (bs.take p ++ bytesOf n s ++ bs.drop (p + s)) := by
  intro i hi
  have hlen : (bytesOf n s).length = s := length_bytesOf s n
  simp only [List.length_append, List.length_take, List.length_drop, hlen] at hi
  by_cases h1 : i < p
  · rw [h.wrote.cell _ (by omega), hb i (by omega)]
    rw [List.getElem_append_left (by simp [hlen]; omega), List.getElem_append_left (by simp; omega), List.getElem_take]
  · by_cases h2 : i < p + s
    · have := h.high (i - p) (by omega) (by omega)
      rw [show o + p + (i - p) = o + i by omega] at this
      rw [this, List.getElem_append_left (by simp [hlen]; omega), List.getElem_append_right (by simp; omega)]
      simp only [List.length_take, show min p bs.length = p by omega]
      rw [getElem_bytesOf s n (i - p) (by omega)]
      simp
    · rw [h.wrote.cell _ (by omega), hb i (by omega)]
      have hpl : (bs.take p).length = p := by rw [List.length_take]; omega
      rw [List.getElem_append_right (by rw [List.length_append, hpl, hlen]; omega)]
      simp only [List.length_append, hpl, hlen, List.getElem_drop, show p + s + (i - (p + s)) = i by omega]
/-- Behind a Put that was done. -/
structure Did (w w' : World) (b o : Nat) (bs : List UInt8) (p s n : Nat) : Prop where
  has : Has w' b o (bs.take p ++ bytesOf n s ++ bs.drop (p + s))
  wrote : Wrote w w' b (o + p) (o + p + s)
theorem fits_test (n s : Nat) (h : n < 256 ^ s) : ((n : Int) / 2 ^ (8 * s) != 0) = false := by
  have : n / 2 ^ (8 * s) = 0 := Nat.div_eq_of_lt (by rw [two_pow8]; exact h)
  have e : ((n : Int) / 2 ^ (8 * s)) = ((n / 2 ^ (8 * s) : Nat) : Int) := by simp
  rw [e, this]
  rfl
set_option maxHeartbeats 400000 in
theorem put_yes (b o cap : Nat) (bs : List UInt8) (p s n : Nat) (w : World) (hl : bs.length ≤ maxLen) (hb : Has w b o bs) (hf : Free w b o bs.length) (h1 : 1 ≤ s) (h8 : s ≤ 8) (hp : p + s ≤ bs.length) (hn : n < 256 ^ s) :
    Calls Try.prog 27 #[.slice (some ⟨b, o, none⟩) bs.length cap, .int .i64 p, .int .i64 s, .int .u64 n] w fun e w' => e = .returned (.bool true) ∧ Did w w' b o bs p s n := by
  unfold maxLen at hl
  have HB := Lib.hid hb
  clear hb
  have HF := Lib.hid hf
  clear hf
  have ht := fits_test n s hn
  clear hn
  go_enter Try.func27, Try.ntmps27
  go_wp2_with (go_at_call 39; refine (within_yes _ _ _ _ _ _ (by unfold maxLen; omega) (by omega) (by omega) (by omega) (by omega)).mono ?_; rintro e w' ⟨rfl, rfl⟩)
  go_loopw [23] (fun i wr => ∃ k : Nat, k ≤ s ∧ i = .int .i64 k ∧ PutRel w wr b o p s n k) (fun i _ => s - (intOf i).toNat)
  case atStart => exact ⟨0, Nat.zero_le _, rfl, PutRel.start _ _ _ _ _ _⟩
  case round =>
    obtain ⟨k, hk, rfl, hrel⟩ := hrel
    have HR := Lib.hid hrel
    clear hrel
    by_cases hlt : k < s
    · have hcc : wr.cell? ⟨b, o + (p + s - 1 - k), none⟩ = some (.int .u8 ((bs[p + s - 1 - k]'(by omega)).toNat : Int)) := by
        have h2 := HR.out.low (s - 1 - k) (by omega)
        rw [show o + p + (s - 1 - k) = o + (p + s - 1 - k) by omega] at h2
        exact h2.trans (HB.out (p + s - 1 - k) (by omega))
      have hff : wr.frozen? ⟨b, o + (p + s - 1 - k), none⟩ = false := (HR.out.wrote.frz _).trans (HF.out _ (by omega))
      generalize bs[p + s - 1 - k]'(by omega) = c at hcc
      go_wp2
      go_roundw
      case rel => exact ⟨k + 1, by omega, by go_num, HR.out.next hlt hcc⟩
      case measure => simp [intOf]; omega
    · go_wp2
      go_ret
      have : k = s := by omega
      subst this
      exact ⟨rfl, HR.out.done HB.out hp, HR.out.wrote⟩
theorem put_out (a : Option Addr) (len cap : Nat) (p s : Int) (n : Int) (w : World) (hl : len ≤ maxLen) (h : ¬ (1 ≤ s ∧ s ≤ 8 ∧ 0 ≤ p ∧ p ≤ len - s)) :
    Calls Try.prog 27 #[.slice a len cap, .int .i64 p, .int .i64 s, .int .u64 n] w fun e w' => e = .returned (.bool false) ∧ w = w' := by
  have H := Lib.hid h
  clear h
  go_enter Try.func27, Try.ntmps27
  go_wp2_with (go_at_call 39; refine (within_no _ _ _ _ _ _ hl H.out).mono ?_; rintro e w' ⟨rfl, rfl⟩)
  go_ret
  exact ⟨rfl, rfl⟩
theorem big_test (n s : Nat) (h : ¬ n < 256 ^ s) : ((n : Int) / 2 ^ (8 * s) != 0) = true := by
  have h1 : 0 < n / 2 ^ (8 * s) := Nat.div_pos (by rw [two_pow8]; omega) (Nat.two_pow_pos _)
  have e : ((n : Int) / 2 ^ (8 * s)) = ((n / 2 ^ (8 * s) : Nat) : Int) := by simp
  rw [e, bne_iff_ne]
  omega
theorem put_big (a : Option Addr) (len cap : Nat) (p s n : Nat) (w : World) (hl : len ≤ maxLen) (h1 : 1 ≤ s) (h8 : s ≤ 8) (hp : p + s ≤ len) (hn : ¬ n < 256 ^ s) :
    Calls Try.prog 27 #[.slice a len cap, .int .i64 p, .int .i64 s, .int .u64 n] w fun e w' => e = .returned (.bool false) ∧ w = w' := by
  have ht := big_test n s hn
  clear hn
  go_enter Try.func27, Try.ntmps27
  go_wp2_with (go_at_call 39; refine (within_yes _ _ _ _ _ _ hl (by omega) (by omega) (by omega) (by omega)).mono ?_; rintro e w' ⟨rfl, rfl⟩)
  go_ret
  exact ⟨rfl, rfl⟩
end Go.Proofs.Ytkhimoclikhlaaa.Oct
