/- TallyMost's walk: 65535 times up, and down. -/
import Derived.Test.YtlemjegngnfanaaTlK
namespace Go.Proofs.Ytlemjegngnfanaa.Tl
open Go.RowKit Go.Proofs.Ytlemjegngnfanaa.Oct Go.Proofs.Ytlemjegngnfanaa.Mv Go.Maps
set_option linter.unusedVariables false

theorem put_put (s : St) (i : Nat) (x y : UInt16) : (s.put i x).put i y = s.put i y := by simp [St.put, List.set_set]
/-- So many times up. -/
def most (n i k : Nat) : St := (St.new n).put i (UInt16.ofNat k)
theorem n_new (n : Nat) : (St.new n).n = n := by simp [St.n, St.new]
theorem cnt_new (n j : Nat) : (St.new n).cnt j = 0 := by
  unfold St.cnt St.new
  simp only [List.getD_eq_getElem?_getD, List.getElem?_replicate]
  split <;> rfl
theorem was_new (n j : Nat) : (St.new n).was j = 0 := cnt_new n j
theorem n_most (n i k : Nat) : (most n i k).n = n := by unfold most; rw [n_put, n_new]
theorem cnt_most {n i : Nat} (hi : i < n) (k j : Nat) : (most n i k).cnt j = if j = i then UInt16.ofNat k else 0 := by
  unfold most
  rw [cnt_put (by rw [n_new]; exact hi), cnt_new]
theorem most_zero {n i : Nat} (hi : i < n) : most n i 0 = St.new n := by
  unfold most
  exact put_same (by rw [n_new]; exact hi) (by rw [cnt_new]; rfl)
theorem isIn_most {n i k : Nat} (hi : i < n) : (most n i k).isIn (i : Int) := ⟨by omega, by rw [n_most]; omega⟩
theorem toNat_of {k : Nat} (h : k < 65536) : (UInt16.ofNat k).toNat = k := by simp [UInt16.toNat_ofNat']; omega
theorem most_up {n i k : Nat} (hi : i < n) (hk : k < 65535) : (most n i k).up (i : Int) = (0, most n i (k + 1)) := by
  unfold St.up
  rw [if_pos (isIn_most hi), Int.toNat_natCast, cnt_most hi, if_pos rfl, if_neg]
  · unfold most
    rw [put_put]
    congr 2
    apply UInt16.toNat_inj.1
    rw [UInt16.toNat_add, toNat_of (by omega), toNat_of (by omega)]
    show (k + 1) % 65536 = k + 1
    omega
  · intro e
    have := congrArg UInt16.toNat e
    rw [toNat_of (by omega)] at this
    have e2 : (65535 : UInt16).toNat = 65535 := rfl
    omega
theorem most_full {n i : Nat} (hi : i < n) : (most n i 65535).up (i : Int) = (81, most n i 65535) := by
  unfold St.up
  rw [if_pos (isIn_most hi), Int.toNat_natCast, cnt_most hi, if_pos rfl]
  exact if_pos (by decide)
theorem most_down {n i k : Nat} (hi : i < n) (h0 : 0 < k) (hk : k ≤ 65535) : (most n i k).down (i : Int) = (0, most n i (k - 1)) := by
  unfold St.down
  rw [if_pos (isIn_most hi), Int.toNat_natCast, cnt_most hi, if_pos rfl, if_neg]
  · unfold most
    rw [put_put]
    congr 2
    apply UInt16.toNat_inj.1
    rw [UInt16.toNat_sub, toNat_of (by omega), toNat_of (by omega)]
    show (65536 - 1 + k) % 65536 = k - 1
    omega
  · intro e
    have := congrArg UInt16.toNat e
    rw [toNat_of (by omega)] at this
    have e2 : (0 : UInt16).toNat = 0 := rfl
    omega
theorem most_none {n i : Nat} (hi : i < n) : (most n i 0).down (i : Int) = (82, most n i 0) := by
  unfold St.down
  rw [if_pos (isIn_most hi), Int.toNat_natCast, cnt_most hi, if_pos rfl]
  exact if_pos (by decide)
theorem most_beyond (n i k : Nat) : (most n i k).up (n : Int) = (80, most n i k) := by
  unfold St.up
  rw [if_neg]
  rintro ⟨_, h⟩
  rw [n_most] at h
  omega
theorem most_before (n i k : Nat) : (most n i k).down (-1) = (80, most n i k) := by
  unfold St.down
  rw [if_neg]
  rintro ⟨h, _⟩
  omega
theorem countP_true (p : Nat → Bool) (n : Nat) (h : ∀ j, j < n → p j = true) : (List.range n).countP p = n := by
  have : (List.range n).countP p = (List.range n).length := List.countP_eq_length.2 fun j hj => h j (List.mem_range.1 hj)
  rw [this, List.length_range]
theorem countP_but (p : Nat → Bool) (i : Nat) (hp : p i = false) (h : ∀ j, j ≠ i → p j = true) (n : Nat) : (List.range n).countP p = if i < n then n - 1 else n := by
  induction n with
  | zero => rfl
  | succ n ih =>
    rw [countP_succ, ih]
    by_cases e : n = i
    · subst e
      simp [hp]
    · rw [h n e]
      simp only [if_true]
      split <;> split <;> omega
theorem frees_new (n : Nat) : (St.new n).frees = n := by
  unfold St.frees
  rw [n_new]
  exact countP_true _ _ fun j _ => by simp [St.free, cnt_new, was_new]
theorem frees_most {n i : Nat} (hi : i < n) : (most n i 65535).frees = n - 1 := by
  unfold St.frees
  rw [n_most, countP_but _ i _ _ n, if_pos hi]
  · unfold St.free
    rw [cnt_most hi, if_pos rfl]
    rfl
  · intro j hj
    unfold St.free
    rw [cnt_most hi, if_neg hj]
    have : (most n i 65535).was j = 0 := was_new n j
    rw [this]
    rfl
end Go.Proofs.Ytlemjegngnfanaa.Tl

