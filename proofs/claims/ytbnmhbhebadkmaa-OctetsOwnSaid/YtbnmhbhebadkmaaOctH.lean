/- The statements' own check of the chapter's examples ('awake') answers true. -/
import Derived.Test.YtbnmhbhebadkmaaOctP
namespace Go.Proofs.Ytbnmhbhebadkmaa.Oct
open Go.RowKit
set_option linter.unusedVariables false

/-! ### Contracts at numbers that are written out -/
theorem get_lit (b o len cap : Nat) (bs : List UInt8) (hlen : bs.length = len) (pi si : Int) (p s : Nat) (e1 : pi = p) (e2 : si = s) (w : World) (hl : len ≤ maxLen) (hb : Has w b o bs) (h1 : 1 ≤ s) (h8 : s ≤ 8) (hp : p + s ≤ len) :
    Calls Try.prog 11 #[.slice (some ⟨b, o, none⟩) len cap, .int .i64 pi, .int .i64 si] w fun e w' => e = .returned (.tuple #[.int .u64 (num ((bs.drop p).take s)), .bool true]) ∧ w = w' := by
  subst e1 e2 hlen
  exact get_yes b o cap bs p s w hl hb h1 h8 hp
theorem put_lit (b o len cap : Nat) (bs : List UInt8) (hlen : bs.length = len) (pi si ni : Int) (p s n : Nat) (e1 : pi = p) (e2 : si = s) (e3 : ni = n) (w : World) (hl : len ≤ maxLen) (hb : Has w b o bs) (hf : Free w b o len) (h1 : 1 ≤ s) (h8 : s ≤ 8) (hp : p + s ≤ len) (hn : n < 256 ^ s) :
    Calls Try.prog 20 #[.slice (some ⟨b, o, none⟩) len cap, .int .i64 pi, .int .i64 si, .int .u64 ni] w fun e w' => e = .returned (.bool true) ∧ Did w w' b o bs p s n := by
  subst e1 e2 e3 hlen
  exact put_yes b o cap bs p s n w hl hb hf h1 h8 hp hn
theorem put_big_lit (a : Option Addr) (len cap : Nat) (pi si ni : Int) (p s n : Nat) (e1 : pi = p) (e2 : si = s) (e3 : ni = n) (w : World) (hl : len ≤ maxLen) (h1 : 1 ≤ s) (h8 : s ≤ 8) (hp : p + s ≤ len) (hn : ¬ n < 256 ^ s) :
    Calls Try.prog 20 #[.slice a len cap, .int .i64 pi, .int .i64 si, .int .u64 ni] w fun e w' => e = .returned (.bool false) ∧ w = w' := by
  subst e1 e2 e3
  exact put_big a len cap p s n w hl h1 h8 hp hn
theorem equal_len (a c : Option Addr) (len len' cap cap' : Nat) (xs ys : List UInt8) (hx' : xs.length = len) (hy' : ys.length = len') (w : World) (hx : Told w a xs) (hy : Told w c ys) :
    Calls Try.prog 15 #[.slice a len cap, .slice c len' cap'] w fun e w' => e = .returned (.bool (xs == ys)) ∧ w = w' := by
  subst hx' hy'
  exact equal_any a c cap cap' xs ys w hx hy

theorem equal_yes (a c : Option Addr) (len len' cap cap' : Nat) (xs ys : List UInt8) (hxy : xs = ys) (hx' : xs.length = len) (hy' : ys.length = len') (w : World) (hx : Told w a xs) (hy : Told w c ys) :
    Calls Try.prog 15 #[.slice a len cap, .slice c len' cap'] w fun e w' => e = .returned (.bool true) ∧ w = w' := by
  subst hxy
  have h := equal_len a c len len' cap cap' xs xs hx' hy' w hx hy
  rwa [beq_self_eq_true] at h
theorem sum_none (cap : Nat) (a : Option Addr) (w : World) :
    Calls Try.prog 13 #[.slice a 0 cap] w fun e w' => e = .returned (.int .u32 1) ∧ w = w' := by
  go_enter Try.func13, Try.ntmps13
  go_wp2
  go_loop [3, 7] (fun t i => i = .int .i64 0 ∧ t = .int .u64 1) (fun _ _ => 0)
  case atStart => exact ⟨rfl, rfl⟩
  case round =>
    obtain ⟨rfl, rfl⟩ := hrel
    go_wp2
    go_ret
    exact ⟨rfl, rfl⟩
theorem Has.below {w w' : World} {b o B : Nat} {bs : List UInt8} (h : Has w b o bs) (hb : b < B) (k : Below B w w') : Has w' b o bs := fun i hi => (k.cell hb).trans (h i hi)

set_option maxHeartbeats 400000 in
theorem awake_any (w : World) : Calls Try.prog 9 #[] w fun e w' => e = .returned (.bool true) ∧ Below w.heap.size w w' := by
  go_enter Try.func9, Try.ntmps9
  go_wp2_with fail
  have R1 : Row (w.alloc (.cells #[.int .u8 0, .int .u8 0, .int .u8 0] 5)) w.heap.size [0, 0, 0] := alloc_row w [0, 0, 0]
  have B1 := (Below.refl w.heap.size w).alloc (Nat.le_refl _) (.cells #[.int .u8 0, .int .u8 0, .int .u8 0] 5)
  have L1 := R1.lt
  obtain ⟨g, hg⟩ : ∃ g, g = w.heap.size := ⟨_, rfl⟩
  rw [← hg] at R1 L1 ⊢
  generalize w.alloc (.cells #[.int .u8 0, .int .u8 0, .int .u8 0] 5) = w1 at *
  have HG : w.heap.size ≤ g := by omega
  clear hg
  refine (put_lit g 0 3 3 [0, 0, 0] rfl 1 2 258 1 2 258 rfl rfl rfl _ (by decide) R1.has (R1.free 0 3) (by omega) (by omega) (by omega) (by decide)).mono ?_
  rintro e w2 ⟨rfl, D2⟩
  have H2 : Has w2 g 0 [0, 1, 2] := D2.has
  have B2 := B1.trans (D2.wrote.below HG)
  have L2 : g < w2.heap.size := by rw [D2.wrote.size]; exact L1
  clear R1 B1 D2 L1
  go_wp2_with fail
  refine (put_big_lit _ 3 3 1 2 65536 1 2 65536 rfl rfl rfl _ (by decide) (by omega) (by omega) (by omega) (by decide)).mono ?_
  rintro e w' ⟨rfl, rfl⟩
  go_wp2_with fail
  refine (put_out _ 3 3 2 2 1 _ (by decide) (by omega)).mono ?_
  rintro e w' ⟨rfl, rfl⟩
  go_wp2_with fail
  have R3 : Row (w2.alloc (.cells #[.int .u8 0, .int .u8 1, .int .u8 2] 5)) w2.heap.size [0, 1, 2] := alloc_row w2 [0, 1, 2]
  have b3 := (Below.refl w2.heap.size w2).alloc (Nat.le_refl _) (.cells #[.int .u8 0, .int .u8 1, .int .u8 2] 5)
  have H3 := H2.below L2 b3
  have B3 := B2.trans (b3.mono B2.size)
  have L3 := Nat.lt_of_lt_of_le L2 b3.size
  refine (equal_yes _ _ 3 3 3 3 [0, 1, 2] [0, 1, 2] rfl rfl rfl _ H3.told R3.has.told).mono ?_
  rintro e w' ⟨rfl, rfl⟩
  generalize w2.alloc (.cells #[.int .u8 0, .int .u8 1, .int .u8 2] 5) = w3 at *
  clear R3 b3 H2 B2 L2
  go_wp2_with fail
  refine (get_lit g 0 3 3 [0, 1, 2] rfl 0 2 0 2 rfl rfl _ (by decide) H3 (by omega) (by omega) (by omega)).mono ?_
  rintro e w' ⟨rfl, rfl⟩
  rw [show num ((([0, 1, 2] : List UInt8).drop 0).take 2) = 1 from rfl]
  go_wp2_with fail
  refine (get_no _ 3 3 2 2 _ (by decide) (by omega)).mono ?_
  rintro e w' ⟨rfl, rfl⟩
  go_wp2_with fail
  have R4 : Row (w3.alloc (.cells #[.int .u8 9] 5)) w3.heap.size [9] := alloc_row w3 [9]
  have b4 := (Below.refl w3.heap.size w3).alloc (Nat.le_refl _) (.cells #[.int .u8 9] 5)
  have B4 := B3.trans (b4.mono B3.size)
  refine (seal_any 4 _ 1 1 [9] rfl _ (by omega) R4.has.told).mono ?_
  rintro e w5 ⟨p, rfl, F5⟩
  have B5 := B4.trans (F5.below.mono B4.size)
  have HP : w.heap.size ≤ p := Nat.le_trans B4.size F5.lo
  have LP := F5.hi
  have lp : (page 4 [9]).length = 128 := length_page 4 [9] (by decide)
  have c0 : w5.cell? ⟨p, 0, none⟩ = some (.int .u8 4) := F5.has 0 (by omega)
  have c1 : w5.cell? ⟨p, 1, none⟩ = some (.int .u8 9) := F5.has 1 (by omega)
  have c2 : w5.cell? ⟨p, 2, none⟩ = some (.int .u8 0) := F5.has 2 (by omega)
  have H5 := Lib.hid F5.has
  have Z5 := Lib.hid F5.free
  clear lp F5 R4 b4 B4 H3 B3 L3
  go_wp2_with fail
  refine (open_page p 0 128 4 [9] (by decide) _ H5.out (by decide) (by decide)).mono ?_
  rintro e w6 ⟨q, rfl, F6⟩
  have B6 := B5.trans (F6.below.mono B5.size)
  have H6 := H5.out.below LP F6.below
  have Z6 : w6.frozen? ⟨p, 127, none⟩ = false := (F6.below.frozen (p := ⟨p, 127, none⟩) LP).trans (by have := Z5.out 127 (by rw [length_page 4 [9] (by decide)]; omega); rwa [Nat.zero_add] at this)
  have QP : p < q := Nat.lt_of_lt_of_le LP F6.lo
  have q0 : w6.cell? ⟨q, 0, none⟩ = some (.int .u8 9) := F6.has 0 (by simp)
  have q1 : w6.cell? ⟨q, 1, none⟩ = some (.int .u8 0) := F6.has 1 (by simp)
  have lp : 127 < (page 4 [9]).length := by rw [length_page 4 [9] (by decide)]; omega
  have c127 := H6 127 lp
  have HS := H6.set 127 lp ((page 4 [9])[127]'lp + (1 : UInt8))
  rw [Nat.zero_add] at c127 HS
  have hne : (page 4 [9])[127]'lp + (1 : UInt8) ≠ (page 4 [9])[127]'lp := add_ne _ _ (by decide)
  have HW : Wrote w6 (w6.setCell ⟨p, 127, none⟩ (.int .u8 (((page 4 [9])[127]'lp + (1 : UInt8)).toNat : Int))) p 127 128 := (Wrote.refl _ _ _ _).set (by omega) (by omega) _
  generalize hc : (page 4 [9])[127]'lp = c at c127 HS hne HW
  have HC := Lib.hid hc
  have hx : (((c + 1).toNat : Nat) : Int) = ((c.toNat : Int) + 1) % 256 := by rw [UInt8.toNat_add]; simp
  rw [hx] at HS HW
  clear hx hc H6
  have HN := Lib.hid hne
  clear hne
  have H6 := Lib.hid HS
  have W6 := Lib.hid HW
  clear HS HW
  go_wp2_with fail
  refine (open_changed p 0 128 4 [9] (by decide) 127 lp (c + 1) (by rw [HC.out]; exact HN.out) _ H6.out (by decide) (by decide)).mono ?_
  rintro e w7 ⟨rfl, S7⟩
  have B7 := (B6.trans (W6.out.below HP)).trans (S7.below _)
  have q0' : w7.cell? ⟨q, 0, none⟩ = some (.int .u8 9) := ((S7.cell _).trans (W6.out.other (by omega) 0)).trans q0
  have q1' : w7.cell? ⟨q, 1, none⟩ = some (.int .u8 0) := ((S7.cell _).trans (W6.out.other (by omega) 1)).trans q1
  have Q7 : q < w7.heap.size := by rw [S7.heap, W6.out.size]; exact F6.hi
  clear c127 Z6 q0 q1 S7 W6 H6 HC HN B6 B5 c0 c1 c2 F6
  go_wp2_with fail
  refine (sum_none 0 none _).mono ?_
  rintro e w' ⟨rfl, rfl⟩
  go_wp2_with fail
  have R8 : Row (w7.alloc (.cells #[.int .u8 0] 5)) w7.heap.size [0] := alloc_row w7 [0]
  have b8 := (Below.refl w7.heap.size w7).alloc (Nat.le_refl _) (.cells #[.int .u8 0] 5)
  refine (sum_len _ 0 1 1 [0] rfl _ (by decide) R8.has).mono ?_
  rintro e w' ⟨rfl, rfl⟩
  rw [show sum [0] = 38 from rfl]
  have B8 := B7.trans (b8.mono B7.size)
  have q0 := (b8.cell (p := ⟨q, 0, none⟩) Q7).trans q0'
  have q1 := (b8.cell (p := ⟨q, 1, none⟩) Q7).trans q1'
  have Q8 := Nat.lt_of_lt_of_le Q7 b8.size
  generalize w7.alloc (.cells #[.int .u8 0] 5) = w8 at *
  clear R8 b8 q0' q1' B7
  go_wp2_with fail
  have R9 : Row (w8.alloc (.cells #[.int .u8 0, .int .u8 0] 5)) w8.heap.size [0, 0] := alloc_row w8 [0, 0]
  have b9 := (Below.refl w8.heap.size w8).alloc (Nat.le_refl _) (.cells #[.int .u8 0, .int .u8 0] 5)
  refine (sum_len _ 0 2 2 [0, 0] rfl _ (by decide) R9.has).mono ?_
  rintro e w' ⟨rfl, rfl⟩
  rw [show sum [0, 0] = 1185 from rfl]
  have B9 := B8.trans (b9.mono B8.size)
  have q0' := (b9.cell (p := ⟨q, 0, none⟩) Q8).trans q0
  have q1' := (b9.cell (p := ⟨q, 1, none⟩) Q8).trans q1
  generalize w8.alloc (.cells #[.int .u8 0, .int .u8 0] 5) = w9 at *
  clear R9 b9 q0 q1 B8
  go_wp2_with fail
  go_ret
  exact ⟨rfl, B9⟩
end Go.Proofs.Ytbnmhbhebadkmaa.Oct
