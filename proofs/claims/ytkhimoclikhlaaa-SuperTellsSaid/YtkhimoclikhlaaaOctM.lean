/- Plain mathematics of bytes: the number that bytes are, the bytes of a number, the document's sum. No condition; nothing of the program is named here. -/
import Derived.Test.YtkhimoclikhlaaaMem
import Derived.WalkKit
namespace Go.Proofs.Ytkhimoclikhlaaa.Oct
/-- The number that bytes are, the highest first. -/
def num (bs : List UInt8) : Nat := bs.foldl (fun n c => n * 256 + c.toNat) 0
theorem num_nil : num [] = 0 := rfl
theorem num_snoc (bs : List UInt8) (c : UInt8) : num (bs ++ [c]) = num bs * 256 + c.toNat := by simp [num, List.foldl_append]
theorem num_append (x y : List UInt8) : num (x ++ y) = num x * 256 ^ y.length + num y := by
  induction y using snoc_ind with
  | h0 => simp [num_nil]
  | h1 y c ih =>
    rw [← List.append_assoc, num_snoc, ih, num_snoc, List.length_append]
    simp only [List.length_singleton, Nat.pow_succ]
    rw [Nat.add_mul, Nat.mul_assoc, Nat.add_assoc]
theorem num_lt (bs : List UInt8) : num bs < 256 ^ bs.length := by
  induction bs using snoc_ind with
  | h0 => simp [num_nil]
  | h1 bs c ih =>
    rw [num_snoc, List.length_append, List.length_singleton, Nat.pow_succ]
    have := u8_lt c
    omega
theorem pow256_le (k : Nat) (h : k ≤ 7) : 256 ^ k ≤ 72057594037927936 := by
  have : (256 : Nat) ^ k ≤ 256 ^ 7 := Nat.pow_le_pow_right (by decide) h
  simpa using this
theorem num_lt7 (bs : List UInt8) (h : bs.length ≤ 7) : num bs < 72057594037927936 :=
  Nat.lt_of_lt_of_le (num_lt bs) (pow256_le _ h)
theorem num_lt8 (bs : List UInt8) (h : bs.length ≤ 8) : num bs < 18446744073709551616 := by
  have h1 := num_lt bs
  have : (256 : Nat) ^ bs.length ≤ 256 ^ 8 := Nat.pow_le_pow_right (by decide) h
  have h8 : (256 : Nat) ^ 8 = 18446744073709551616 := by decide
  omega
theorem window_snoc (bs : List UInt8) (p k : Nat) (h : p + k < bs.length) : (bs.drop p).take (k + 1) = (bs.drop p).take k ++ [bs[p + k]] := by
  rw [List.take_succ_eq_append_getElem (by simp; omega)]
  simp
theorem or_step (n : Nat) (c : UInt8) (h : n < 72057594037927936) :
    bits BinOp.or IntKind.u64 ((n : Int) * 256) (c.toNat : Int) = ((n * 256 + c.toNat : Nat) : Int) := by
  have hc := u8_lt c
  rw [show ((n : Int) * 256) = ((n * 256 : Nat) : Int) by omega]
  have h1 : (BitVec.ofInt 64 ((n * 256 : Nat) : Int)).toNat = n * 256 := by
    rw [BitVec.ofInt_natCast, BitVec.toNat_ofNat]; exact Nat.mod_eq_of_lt (by omega)
  have h2 : (BitVec.ofInt 64 ((c.toNat : Nat) : Int)).toNat = c.toNat := by
    rw [BitVec.ofInt_natCast, BitVec.toNat_ofNat]; exact Nat.mod_eq_of_lt (by omega)
  show IntKind.u64.wrap ((BitVec.ofInt 64 ((n * 256 : Nat) : Int) ||| BitVec.ofInt 64 ((c.toNat : Nat) : Int)).toNat : Int) = _
  rw [BitVec.toNat_or, h1, h2]
  have h3 : n * 256 ||| c.toNat = n * 256 + c.toNat := by
    have := Nat.shiftLeft_add_eq_or_of_lt (b := c.toNat) (i := 8) (by omega) n
    rw [Nat.shiftLeft_eq] at this
    exact this.symm
  rw [h3, IntKind.wrap_u64]
  omega
/-- The bytes of a number, s of them, the highest first. -/
def bytesOf (n : Nat) : Nat → List UInt8
  | 0 => []
  | s + 1 => bytesOf (n / 256) s ++ [UInt8.ofNat (n % 256)]
theorem length_bytesOf (s n : Nat) : (bytesOf n s).length = s := by
  induction s generalizing n with
  | zero => rfl
  | succ s ih => simp [bytesOf, ih]
theorem num_bytesOf (s n : Nat) : num (bytesOf n s) = n % 256 ^ s := by
  induction s generalizing n with
  | zero => simp [bytesOf, num_nil, Nat.mod_one]
  | succ s ih =>
    rw [bytesOf, num_snoc, ih]
    have : (UInt8.ofNat (n % 256)).toNat = n % 256 := by simp
    rw [this, Nat.pow_succ, Nat.mul_comm (256 ^ s) 256, Nat.mod_mul]
    omega
theorem bytesOf_num (bs : List UInt8) : bytesOf (num bs) bs.length = bs := by
  induction bs using snoc_ind with
  | h0 => rfl
  | h1 bs c ih =>
    have hc := u8_lt c
    rw [List.length_append, List.length_singleton, bytesOf, num_snoc]
    rw [show (num bs * 256 + c.toNat) / 256 = num bs by omega, show (num bs * 256 + c.toNat) % 256 = c.toNat by omega, ih]
    simp
theorem getElem_bytesOf (s n i : Nat) (h : i < s) : (bytesOf n s)[i]'(by rw [length_bytesOf]; exact h) = UInt8.ofNat (n / 256 ^ (s - 1 - i) % 256) := by
  induction s generalizing n i with
  | zero => omega
  | succ s ih =>
    simp only [bytesOf]
    by_cases hi : i < s
    · rw [List.getElem_append_left (by rw [length_bytesOf]; exact hi), ih _ _ hi, Nat.div_div_eq_div_mul]
      rw [show s + 1 - 1 - i = (s - 1 - i) + 1 by omega, Nat.pow_succ, Nat.mul_comm 256]
    · have : i = s := by omega
      subst this
      rw [List.getElem_append_right (by rw [length_bytesOf]; omega)]
      simp
/-! ### The sum -/
def step (s : Nat) (c : UInt8) : Nat := (31 * s + c.toNat + 7) % 4294967291
def sumFrom (s : Nat) (bs : List UInt8) : Nat := bs.foldl step s
def sum (bs : List UInt8) : Nat := sumFrom 1 bs
theorem step_lt (s : Nat) (c : UInt8) : step s c < 4294967291 := Nat.mod_lt _ (by decide)
theorem sumFrom_lt (s : Nat) (bs : List UInt8) (h : s < 4294967291) : sumFrom s bs < 4294967291 := by
  induction bs generalizing s with
  | nil => exact h
  | cons c bs ih => exact ih _ (step_lt s c)
theorem sum_lt (bs : List UInt8) : sum bs < 4294967291 := sumFrom_lt _ _ (by decide)
theorem sum_snoc (bs : List UInt8) (c : UInt8) : sum (bs ++ [c]) = step (sum bs) c := by simp [sum, sumFrom, List.foldl_append]
theorem step_inj (s t : Nat) (c : UInt8) (hs : s < 4294967291) (ht : t < 4294967291) (h : step s c = step t c) : s = t := by
  unfold step at h
  omega
theorem step_byte (s : Nat) (c d : UInt8) (h : step s c = step s d) : c = d := by
  unfold step at h
  have := u8_lt c
  have := u8_lt d
  have e : c.toNat = d.toNat := by omega
  exact UInt8.toNat_inj.1 e
theorem swap_nat (s c d : Nat) (hc : c < 256) (hd : d < 256) (h : (31 * (31 * s + c + 7) + d + 7) % 4294967291 = (31 * (31 * s + d + 7) + c + 7) % 4294967291) : c = d := by
  generalize hx : 31 * (31 * s + c + 7) + d + 7 = x at h
  generalize hy : 31 * (31 * s + d + 7) + c + 7 = y at h
  have hd : x + 30 * d = y + 30 * c := by omega
  clear hx hy
  omega
theorem step_swap (s : Nat) (c d : UInt8) (h : step (step s c) d = step (step s d) c) : c = d := by
  have e0 (x k : Nat) : (31 * (x % 4294967291) + k + 7) % 4294967291 = (31 * x + k + 7) % 4294967291 := by omega
  unfold step at h
  rw [e0, e0] at h
  exact UInt8.toNat_inj.1 (swap_nat _ _ _ (u8_lt c) (u8_lt d) h)
theorem sumFrom_inj (s t : Nat) (bs : List UInt8) (hs : s < 4294967291) (ht : t < 4294967291) (h : sumFrom s bs = sumFrom t bs) : s = t := by
  induction bs generalizing s t with
  | nil => exact h
  | cons c bs ih => exact step_inj s t c hs ht (ih _ _ (step_lt s c) (step_lt t c) h)
theorem sumFrom_append (s : Nat) (x y : List UInt8) : sumFrom s (x ++ y) = sumFrom (sumFrom s x) y := by simp [sumFrom, List.foldl_append]
theorem sumFrom_cons (s : Nat) (c : UInt8) (y : List UInt8) : sumFrom s (c :: y) = sumFrom (step s c) y := rfl
/-- One byte changed: another sum. -/
theorem sum_change (x y : List UInt8) (c d : UInt8) (h : sum (x ++ c :: y) = sum (x ++ d :: y)) : c = d := by
  unfold sum at h
  rw [sumFrom_append, sumFrom_append, sumFrom_cons, sumFrom_cons] at h
  exact step_byte _ _ _ (sumFrom_inj _ _ _ (step_lt _ _) (step_lt _ _) h)
/-- Two neighbours exchanged: another sum, if they are unlike. -/
theorem sum_swap (x y : List UInt8) (c d : UInt8) (h : sum (x ++ c :: d :: y) = sum (x ++ d :: c :: y)) : c = d := by
  unfold sum at h
  rw [sumFrom_append, sumFrom_append, sumFrom_cons, sumFrom_cons, sumFrom_cons, sumFrom_cons] at h
  exact step_swap _ _ _ (sumFrom_inj _ _ _ (step_lt _ _) (step_lt _ _) h)
end Go.Proofs.Ytkhimoclikhlaaa.Oct
