/- A disk in memory, as a plain state; what made, Len, Down and has answer of it. -/
import Derived.Test.YthcjhbjhghfhjaaMemLow
import Derived.Outline
import Derived.LaidEqlPtr
namespace Go.Proofs.Ythcjhbjhghfhjaa.Dsk
open Go.RowKit Go.Proofs.Ythcjhbjhghfhjaa.Oct
set_option linter.unusedVariables false

/-- A disk: how many blocks; all their bytes, block by block; what waits; the power. -/
structure St where
  n : Nat
  B : List UInt8
  W : List (Nat × List UInt8)
  gone : Bool
  armed : Bool
  left : Nat

/-- The cells of writes that wait. -/
def wcells (W : List (Nat × List UInt8)) : List Value := W.flatMap fun x => .int .i64 (x.1 : Int) :: vals x.2

structure St.Ok (s : St) : Prop where
  lo : 16 ≤ s.n
  hi : s.n ≤ 4096
  len : s.B.length = s.n * 128
  wait : ∀ x, x ∈ s.W → x.1 < s.n ∧ x.2.length = 128
  few : s.W.length ≤ 1000000
  left : s.left ≤ 9223372036854775807

structure At (w : World) (base a bb bc : Nat) (wv : Value) (s : St) : Prop where
  lo : base ≤ a
  head : w.heap[a]? = some (.cells #[.slice (some ⟨bb, 0, none⟩) s.n bc, wv, .bool s.gone, .bool s.armed, .int .i64 (s.left : Int), .pointer (some ⟨a, 0, none⟩)] 79 (0, 0))
  blocks : w.ownsRow base 89 128 (.slice (some ⟨bb, 0, none⟩) s.n bc) s.n (vals s.B)
  waits : w.ownsRow base 91 129 wv s.W.length (wcells s.W)
  ok : s.Ok

section
variable {w : World} {base a bb bc : Nat} {wv : Value} {s : St}
theorem At.c0 (h : At w base a bb bc wv s) : w.cell? ⟨a, 0, none⟩ = some (.slice (some ⟨bb, 0, none⟩) s.n bc) := cell_of_row w a 0 _ _ _ h.head
theorem At.c1 (h : At w base a bb bc wv s) : w.cell? ⟨a, 1, none⟩ = some wv := cell_of_row w a 1 _ _ _ h.head
theorem At.c2 (h : At w base a bb bc wv s) : w.cell? ⟨a, 2, none⟩ = some (.bool s.gone) := cell_of_row w a 2 _ _ _ h.head
theorem At.c3 (h : At w base a bb bc wv s) : w.cell? ⟨a, 3, none⟩ = some (.bool s.armed) := cell_of_row w a 3 _ _ _ h.head
theorem At.c4 (h : At w base a bb bc wv s) : w.cell? ⟨a, 4, none⟩ = some (.int .i64 (s.left : Int)) := cell_of_row w a 4 _ _ _ h.head
theorem At.c5 (h : At w base a bb bc wv s) : w.cell? ⟨a, 5, none⟩ = some (.pointer (some ⟨a, 0, none⟩)) := cell_of_row w a 5 _ _ _ h.head
theorem At.f (h : At w base a bb bc wv s) (i : Nat) : w.frozen? ⟨a, i, none⟩ = false := by simp [World.frozen?, h.head]
theorem At.lt (h : At w base a bb bc wv s) : a < w.heap.size := (Array.getElem?_eq_some_iff.1 h.head).1
theorem At.cap (h : At w base a bb bc wv s) : s.n ≤ bc ∧ bc ≤ maxLen := by
  rcases h.blocks.2 with ⟨h0, _⟩ | ⟨g, cap, cur, hv, _, _, h1, h2, _⟩
  · cases h0
  · cases hv
    exact ⟨h1, h2⟩
end

/-! ### made -/
theorem disk_info : (Try.prog.info? 79).isSome = true := by kernel_rfl
theorem eql_self (a : Nat) (w : World) : (binOp .eql 24 (.pointer (some ⟨a, 0, none⟩)) (.pointer (some ⟨a, 0, none⟩))).run Try.prog w = .ok (.bool true) w := by
  obtain ⟨j, hj⟩ := Option.isSome_iff_exists.1 disk_info
  exact run_eql_ptr_same (P := Try.prog) w ⟨a, 0, none⟩ Try.underlying24 hj
theorem eql_nil (a : Addr) (w : World) : (binOp .eql 24 (.pointer none) (.pointer (some a))).run Try.prog w = .ok (.bool false) w := by
  have h : ∀ d : Nat, (Op.equalIn (d + 1) 24 (.pointer none) (.pointer (some a))).run Try.prog w = .ok false w := fun d => by
    simp [Op.equalIn, run_underlying Try.underlying24]
  simp only [binOp]
  simp [Op.equal, Op.maxDepth, h 9999]

set_option maxRecDepth 100000 in
theorem made_self (a : Nat) (w : World) (h : w.cell? ⟨a, 5, none⟩ = some (.pointer (some ⟨a, 0, none⟩))) :
    Calls Try.prog 37 #[.pointer (some ⟨a, 0, none⟩)] w fun e w' => e = .returned (.bool true) ∧ w = w' := by
  have k := eql_self a w
  go_enter Try.func37, Try.ntmps37
  go_wp2
  go_ret
  exact ⟨rfl, rfl⟩
theorem made_none (w : World) :
    Calls Try.prog 37 #[.pointer none] w fun e w' => e = .returned (.bool false) ∧ w = w' := by
  go_enter Try.func37, Try.ntmps37
  go_wp2
  go_ret
  exact ⟨rfl, rfl⟩
set_option maxRecDepth 100000 in
theorem made_bare (a : Nat) (w : World) (h : w.cell? ⟨a, 5, none⟩ = some (.pointer none)) :
    Calls Try.prog 37 #[.pointer (some ⟨a, 0, none⟩)] w fun e w' => e = .returned (.bool false) ∧ w = w' := by
  have k := eql_nil ⟨a, 0, none⟩ w
  go_enter Try.func37, Try.ntmps37
  go_wp2
  go_ret
  exact ⟨rfl, rfl⟩

/-! ### Len, Down, has -/
theorem len_at {w : World} {base a bb bc : Nat} {wv : Value} {s : St} (h : At w base a bb bc wv s) :
    Calls Try.prog 29 #[.pointer (some ⟨a, 0, none⟩)] w fun e w' => e = .returned (.int .i64 (s.n : Int)) ∧ w = w' := by
  have c0 := h.c0
  have c5 := h.c5
  have H := Lib.hid h
  clear h
  go_enter Try.func29, Try.ntmps29
  go_wp2_with fail
  refine (made_self a _ c5).mono ?_
  rintro e w' ⟨rfl, rfl⟩
  go_wp2
  go_ret
  exact ⟨rfl, rfl⟩
theorem down_at {w : World} {base a bb bc : Nat} {wv : Value} {s : St} (h : At w base a bb bc wv s) :
    Calls Try.prog 20 #[.pointer (some ⟨a, 0, none⟩)] w fun e w' => e = .returned (.bool s.gone) ∧ w = w' := by
  have c2 := h.c2
  have c5 := h.c5
  have H := Lib.hid h
  clear h
  go_enter Try.func20, Try.ntmps20
  go_wp2_with fail
  refine (made_self a _ c5).mono ?_
  rintro e w' ⟨rfl, rfl⟩
  go_wp2
  go_ret
  exact ⟨rfl, rfl⟩
theorem has_yes (a bb n bc : Nat) (i : Int) (w : World) (c0 : w.cell? ⟨a, 0, none⟩ = some (.slice (some ⟨bb, 0, none⟩) n bc)) (h0 : 0 ≤ i) (h1 : i < n) :
    Calls Try.prog 40 #[.pointer (some ⟨a, 0, none⟩), .int .i64 i] w fun e w' => e = .returned (.bool true) ∧ w = w' := by
  go_enter Try.func40, Try.ntmps40
  go_wp2
  go_ret
  exact ⟨rfl, rfl⟩
theorem has_no (a bb n bc : Nat) (i : Int) (w : World) (c0 : w.cell? ⟨a, 0, none⟩ = some (.slice (some ⟨bb, 0, none⟩) n bc)) (h : ¬ (0 ≤ i ∧ i < n)) :
    Calls Try.prog 40 #[.pointer (some ⟨a, 0, none⟩), .int .i64 i] w fun e w' => e = .returned (.bool false) ∧ w = w' := by
  by_cases h0 : 0 ≤ i
  · have h1 : decide (i < (n : Int)) = false := by simp; omega
    clear h
    go_enter Try.func40, Try.ntmps40
    go_wp2
    go_ret
    exact ⟨rfl, rfl⟩
  · clear h
    go_enter Try.func40, Try.ntmps40
    go_wp2
    go_ret
    exact ⟨rfl, rfl⟩
end Go.Proofs.Ythcjhbjhghfhjaa.Dsk
