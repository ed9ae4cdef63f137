/- TallyMost's walk: 65535 times up, and down. -/
import Derived.Test.YtigmgaedpdeleaaTlK
namespace Go.Proofs.Ytigmgaedpdeleaa.Tl
open Go.RowKit Go.Proofs.Ytigmgaedpdeleaa.Oct Go.Proofs.Ytigmgaedpdeleaa.Mv Go.Maps
set_option linter.unusedVariables false

theorem put_put (s : St) (i : Nat) (x y : UInt16) : (s.put i x).put i y = s.put i y := by simp [St.put, List.set_set]
/-- So many times up. -/
def most (n i k : Nat) : St := (St.new n).put i (UInt16.ofNat k)
theorem n_new (n : Nat) : (St.new n).n = n := by simp [St.n, St.new]
theorem cnt_new (n j : Nat) : (St.new n).cnt j = 0 := by
  unfold St.cnt St.new
  simp only [List.getD_eq_getElem?_getD, List.getElem?_replicate]
  split <;> rfl
theorem was_new (n j : Nat) : (St.new n).was j = 0 := cnt_new n j
theorem n_most (n i k : Nat) : (most n i k).n = n := by unfold most; rw [n_put, n_new]
theorem cnt_most {n i : Nat} (hi : i < n) (k j : Nat) : (most n i k).cnt j = if j = i then UInt16.ofNat k else 0 := by
  unfold most
  rw [cnt_put (by rw [n_new]; exact hi), cnt_new]
theorem most_zero {n i : Nat} (hi : i < n) : most n i 0 = St.new n := by
  unfold most
  exact put_same (by rw [n_new]; exact hi) (by rw [cnt_new]; rfl)
theorem isIn_most {n i k : Nat} (hi : i < n) : (most n i k).isIn (i : Int) := ⟨by omega, by rw [n_most]; omega⟩
theorem toNat_of {k : Nat} (h : k < 65536) : (UInt16.ofNat k).toNat = k := by simp [UInt16.toNat_ofNat']; omega
theorem most_up {n i k : Nat} (hi : i < n) (hk : k < 65535) : (most n i k).up (i : Int) = (0, most n i (k + 1)) := by
  unfold St.up
  rw [if_pos (isIn_most hi), Int.toNat_natCast, cnt_most hi, if_pos rfl, if_neg]
  · unfold most
    rw [put_put]
    congr 2
    apply UInt16.toNat_inj.1
    rw [UInt16.toNat_add, toNat_of (by omega), toNat_of (by omega)]
    show (k + 1) % 65536 = k + 1
    omega
  · intro e
    have := congrArg UInt16.toNat e
    rw [toNat_of (by omega)] at this
    have e2 : (65535 : UInt16).toNat = 65535 := rfl
    omega
theorem most_full {n i : Nat} (hi : i < n) : (most n i 65535).up (i : Int) = (81, most n i 65535) := by
  unfold St.up
  rw [if_pos (isIn_most hi), Int.toNat_natCast, cnt_most hi, if_pos rfl]
  exact if_pos (by decide)
theorem most_down {n i k : Nat} (hi : i < n) (h0 : 0 < k) (hk : k ≤ 65535) : (most n i k).down (i : Int) = (0, most n i (k - 1)) := by
  unfold St.down
  rw [if_pos (isIn_most hi), Int.toNat_natCast, cnt_most hi, if_pos rfl, if_neg]
  · unfold most
    rw [put_put]
    congr 2
    apply UInt16.toNat_inj.1
    rw [UInt16.toNat_sub, toNat_of (by omega), toNat_of (by omega)]
    show (65536 - 1 + k) % 65536 = k - 1
    omega
  · intro e
    have := congrArg UInt16.toNat e
    rw [toNat_of (by omega)] at this
    have e2 : (0 : UInt16).toNat = 0 := rfl
    omega
theorem most_none {n i : Nat} (hi : i < n) : (most n i 0).down (i : Int) = (82, most n i 0) := by
  unfold St.down
  rw [if_pos (isIn_most hi), Int.toNat_natCast, cnt_most hi, if_pos rfl]
  exact if_pos (by decide)
theorem most_beyond (n i k : Nat) : (most n i k).up (n : Int) = (80, most n i k) := by
  unfold St.up
  rw [if_neg]
  rintro ⟨_, h⟩
  rw [n_most] at h
  omega
theorem most_before (n i k : Nat) : (most n i k).down (-1) = (80, most n i k) := by
  unfold St.down
  rw [if_neg]
  rintro ⟨h, _⟩
  omega
theorem countP_true (p : Nat → Bool) (n : Nat) (h : ∀ j, j < n → p j = true) : (List.range n).countP p = n := by
  have : (List.range n).countP p = (List.range n).length := List.countP_eq_length.2 fun j hj => h j (List.mem_range.1 hj)
  rw [this, List.length_range]
theorem countP_but (p : Nat → Bool) (i : Nat) (hp : p i = false) (h : ∀ j, j ≠ i → p j = true) (n : Nat) : (List.range n).countP p = if i < n then n - 1 else n := by
  induction n with
  | zero => rfl
  | succ n ih =>
    rw [countP_succ, ih]
    by_cases e : n = i
    · subst e
      simp [hp]
    · rw [h n e]
      simp only [if_true]
      split <;> split <;> omega
theorem frees_new (n : Nat) : (St.new n).frees = n := by
  unfold St.frees
  rw [n_new]
  exact countP_true _ _ fun j _ => by simp [St.free, cnt_new, was_new]
theorem frees_most {n i : Nat} (hi : i < n) : (most n i 65535).frees = n - 1 := by
  unfold St.frees
  rw [n_most, countP_but _ i _ _ n, if_pos hi]
  · unfold St.free
    rw [cnt_most hi, if_pos rfl]
    rfl
  · intro j hj
    unfold St.free
    rw [cnt_most hi, if_neg hj]
    have : (most n i 65535).was j = 0 := was_new n j
    rw [this]
    rfl
set_option maxRecDepth 100000 in
set_option maxHeartbeats 1000000 in
theorem most_walk (a0 a1 : Int) (w : World) (h0 : (Lit.int .u8 a0).wf = true) (h1 : (Lit.int .u8 a1).wf = true) : Calls Try.prog 7 #[.int .u8 a0, .int .u8 a1] w fun e w' => e = .returned (.bool true) ∧ Below w.heap.size w w' := by
  obtain ⟨x, rfl⟩ := u8_of h0
  obtain ⟨y, rfl⟩ := u8_of h1
  clear h0 h1
  have hx := u8_lt x
  have hy := u8_lt y
  obtain ⟨n, hn⟩ : ∃ n : Nat, n = 1 + x.toNat := ⟨_, rfl⟩
  obtain ⟨i, hi⟩ : ∃ i : Nat, i = y.toNat % n := ⟨_, rfl⟩
  have hin : i < n := by rw [hi]; exact Nat.mod_lt _ (by omega)
  have e1 : (1 : Int) + (x.toNat : Int) = (n : Int) := by omega
  have e2 : (y.toNat : Int) % (n : Int) = (i : Int) := by rw [hi]; omega
  have e3 : Int.tmod (y.toNat : Int) (n : Int) = (i : Int) := by rw [Int.tmod_eq_emod_of_nonneg (by omega), e2]
  have hnz : ¬ ((n : Int) = 0) := by omega
  have h1n : 1 ≤ n := by omega
  have hn2 : n ≤ 256 := by omega
  have HI := Lib.hid hin
  clear hn hi
  go_enter Try.func7, Try.ntmps7
  go_wp2_with fail
  refine (new_yes n h1n (by omega) w).mono ?_
  rintro e w0 ⟨a, cb, mb, rfl, hf⟩
  have HA0 := Lib.hid (show At w0 a cb mb n (most n i 0) by rw [most_zero HI.out]; exact hf.at')
  have HB0 := Lib.hid hf.below
  have HC := Lib.hid hf.hc
  have HM := Lib.hid hf.hm
  clear hf
  go_wp2_with fail
  refine (down_eq HA0.out (i : Int) 82 (most_none HI.out)).mono ?_
  rintro e w1 ⟨rfl, az, bz⟩
  have HA1 := Lib.hid az
  have HB1 := Lib.hid (HB0.out.trans (bz.below HC.out HM.out HB0.out.size))
  clear az bz HA0
  go_wp2_with fail
  go_loopw [29] (fun c wr => ∃ k : Nat, k ≤ 65535 ∧ c = .int .i64 (k : Int) ∧ Hid (At wr a cb mb n (most n i k)) ∧ Hid (Below w.heap.size w wr)) (fun c _ => 65535 - (Go.RowKit.intOf c).toNat)
  case atStart => exact ⟨0, by omega, rfl, HA1, HB1⟩
  case round =>
    obtain ⟨k, hk, rfl, HA, HB⟩ := hrel
    by_cases hlt : k < 65535
    · have hki : (k : Int) < 65535 := by omega
      go_wp2_with fail
      refine (up_eq HA.out (i : Int) 0 (most_up HI.out hlt)).mono ?_
      rintro e w2 ⟨rfl, az, bz⟩
      have HA2 := Lib.hid az
      have HB2 := Lib.hid (HB.out.trans (bz.below HC.out HM.out HB.out.size))
      clear az bz
      go_wp2_with fail
      go_roundw
      case rel => exact ⟨k + 1, by omega, by go_num, HA2, HB2⟩
      case measure => simp [Go.RowKit.intOf]; omega
    · obtain rfl : k = 65535 := by omega
      go_wp2_with fail
      refine (up_eq HA.out (i : Int) 81 (most_full HI.out)).mono ?_
      rintro e w2 ⟨rfl, az, bz⟩
      have HA2 := Lib.hid az
      have HB2 := Lib.hid (HB.out.trans (bz.below HC.out HM.out HB.out.size))
      clear az bz HA
      go_wp2_with fail
      refine (get_eq HA2.out i (by rw [n_most]; exact HI.out) 65535 (by rw [cnt_most HI.out, if_pos rfl]; rfl)).mono ?_
      rintro e w' ⟨rfl, rfl⟩
      go_wp2_with fail
      refine (frees_eq HA2.out ((n : Int) - 1) (by rw [frees_most HI.out]; omega)).mono ?_
      rintro e w3 ⟨rfl, bz⟩
      have HA3 := Lib.hid (HA2.out.kept bz)
      have HB3 := Lib.hid (HB2.out.trans (bz.mono HB2.out.size))
      clear bz HA2
      go_wp2_with fail
      refine (up_eq HA3.out (n : Int) 80 (most_beyond _ _ _)).mono ?_
      rintro e w4 ⟨rfl, az, bz⟩
      have HA4 := Lib.hid az
      have HB4 := Lib.hid (HB3.out.trans (bz.below HC.out HM.out HB3.out.size))
      clear az bz HA3
      go_wp2_with fail
      refine (down_eq HA4.out (-1) 80 (most_before _ _ _)).mono ?_
      rintro e w5 ⟨rfl, az, bz⟩
      have HA5 := Lib.hid az
      have HB5 := Lib.hid (HB4.out.trans (bz.below HC.out HM.out HB4.out.size))
      clear az bz HA4
      go_wp2_with fail
      go_loopw [64] (fun c wr => ∃ k : Nat, k ≤ 65535 ∧ c = .int .i64 (k : Int) ∧ Hid (At wr a cb mb n (most n i (65535 - k))) ∧ Hid (Below w.heap.size w wr)) (fun c _ => 65535 - (Go.RowKit.intOf c).toNat)
      case atStart => exact ⟨0, by omega, rfl, HA5, HB5⟩
      case round =>
        obtain ⟨k, hk, rfl, HA, HB⟩ := hrel
        by_cases hlt : k < 65535
        · have hki : (k : Int) < 65535 := by omega
          go_wp2_with fail
          refine (down_eq HA.out (i : Int) 0 (most_down HI.out (by omega) (by omega))).mono ?_
          rintro e w2 ⟨rfl, az, bz⟩
          have HA2 := Lib.hid az
          have HB2 := Lib.hid (HB.out.trans (bz.below HC.out HM.out HB.out.size))
          clear az bz
          go_wp2_with fail
          go_roundw
          case rel => exact ⟨k + 1, by omega, by go_num, by rw [show 65535 - (k + 1) = 65535 - k - 1 by omega]; exact HA2, HB2⟩
          case measure => simp [Go.RowKit.intOf]; omega
        · obtain rfl : k = 65535 := by omega
          go_wp2_with fail
          refine (down_eq HA.out (i : Int) 82 (most_none HI.out)).mono ?_
          rintro e w2 ⟨rfl, az, bz⟩
          have HA2 := Lib.hid az
          have HB2 := Lib.hid (HB.out.trans (bz.below HC.out HM.out HB.out.size))
          clear az bz HA
          go_wp2_with fail
          refine (get_eq HA2.out i (by rw [n_most]; exact HI.out) 0 (by rw [cnt_most HI.out, if_pos rfl]; rfl)).mono ?_
          rintro e w' ⟨rfl, rfl⟩
          go_wp2_with fail
          refine (frees_eq HA2.out (n : Int) (by rw [most_zero HI.out, frees_new])).mono ?_
          rintro e w3 ⟨rfl, bz⟩
          have HB3 := Lib.hid (HB2.out.trans (bz.mono HB2.out.size))
          clear bz HA2
          go_wp2_with fail
          refine (awake_any _).mono ?_
          rintro e w4 ⟨rfl, bz⟩
          have HB4 := Lib.hid (HB3.out.trans (bz.mono HB3.out.size))
          clear bz
          go_wp2_with fail
          go_ret
          exact ⟨rfl, HB4.out⟩
end Go.Proofs.Ytigmgaedpdeleaa.Tl
