/- A pick's plain state, and a pick in memory; made, Next, Asked, Room. -/
import Derived.Test.YtlemjegngnfanaaTlU
import Derived.Lib.MinMax
namespace Go.Proofs.Ytlemjegngnfanaa.Pk
open Go.RowKit Go.Proofs.Ytlemjegngnfanaa.Oct Go.Proofs.Ytlemjegngnfanaa.Mv Go.Proofs.Ytlemjegngnfanaa.Tl Go.Maps
set_option linter.unusedVariables false

/-- A pick: its tally, the first block, where it looks first, how much was asked for. -/
structure Q where
  s : St
  first : Nat
  next : Nat
  asked : Nat
structure Q.Ok (q : Q) : Prop where
  s : q.s.Ok
  first : q.first ≤ q.s.n
  le : q.first ≤ q.next
  next : q.next < q.s.n ∨ q.next = q.first
  asked : q.asked ≤ q.s.n
theorem Q.Ok.nextn {q : Q} (h : q.Ok) : q.next ≤ q.s.n := by have := h.next; have := h.first; omega
/-- How many of k blocks from f on are free. -/
def St.count (s : St) (f k : Nat) : Nat := (List.range' f k).countP s.free
theorem count_succ (s : St) (f k : Nat) : St.count s f (k + 1) = St.count s f k + (if s.free (f + k) then 1 else 0) := by
  unfold St.count
  rw [List.range'_concat, List.countP_append]
  simp [List.countP_cons]
theorem count_le (s : St) (f k : Nat) : St.count s f k ≤ k := by
  have := List.countP_le_length (p := s.free) (l := List.range' f k)
  rwa [List.length_range'] at this
def Q.room (q : Q) : Nat := St.count q.s q.first (q.s.n - q.first)
theorem Q.room_le (q : Q) : q.room ≤ q.s.n := by have := count_le q.s q.first (q.s.n - q.first); unfold Q.room; omega

/-- What has turned in w' of w: the blocks p, q and r alone; new ones may have been made. -/
structure But3 (w w' : World) (p q r : Nat) : Prop where
  os : w'.os = w.os
  tape : w'.tape = w.tape
  output : w'.output = w.output
  size : w.heap.size ≤ w'.heap.size
  block : ∀ k, k < w.heap.size → k ≠ p → k ≠ q → k ≠ r → w'.heap[k]? = w.heap[k]?
theorem But3.refl (w : World) (p q r : Nat) : But3 w w p q r := ⟨rfl, rfl, rfl, Nat.le_refl _, fun _ _ _ _ _ => rfl⟩
theorem But3.trans {w w' w'' : World} {p q r : Nat} (h : But3 w w' p q r) (k : But3 w' w'' p q r) : But3 w w'' p q r :=
  ⟨k.os.trans h.os, k.tape.trans h.tape, k.output.trans h.output, Nat.le_trans h.size k.size, fun j hj hp hq hr => (k.block j (Nat.lt_of_lt_of_le hj h.size) hp hq hr).trans (h.block j hj hp hq hr)⟩
theorem But3.of_below {w w' : World} {B : Nat} (p q r : Nat) (h : Below B w w') (hB : w.heap.size ≤ B) : But3 w w' p q r :=
  ⟨h.os, h.tape, h.output, h.size, fun k hk _ _ _ => h.block k (by omega)⟩
theorem But3.of_but {w w' : World} {p q : Nat} (r : Nat) (h : But w w' p q) : But3 w w' p q r :=
  ⟨h.os, h.tape, h.output, h.size, fun k hk hp hq _ => h.block k hk hp hq⟩
theorem But3.below {w w' : World} {p q r B : Nat} (h : But3 w w' p q r) (hp : B ≤ p) (hq : B ≤ q) (hr : B ≤ r) (hB : B ≤ w.heap.size) : Below B w w' :=
  ⟨h.os, h.tape, h.output, h.size, fun k hk => h.block k (by omega) (by omega) (by omega) (by omega)⟩
theorem But3.set (w : World) (p q r i : Nat) (v : Value) : But3 w (w.setCell ⟨r, i, none⟩ v) p q r :=
  ⟨rfl, rfl, rfl, by simp, fun k _ _ _ hr => heap_setCell_other _ _ _ _ hr⟩
theorem But3.still {w w' : World} {p q r : Nat} (h : Still w w') : But3 w w' p q r := .of_below p q r (h.below w.heap.size) (Nat.le_refl _)

/-! ### In memory -/
def pcells (p a : Nat) (q : Q) : List Value := [.pointer (some ⟨a, 0, none⟩), .int .i64 (q.first : Int), .int .i64 (q.next : Int), .int .i64 (q.asked : Int), .pointer (some ⟨p, 0, none⟩)]
structure PAt (w : World) (p a cb mb c : Nat) (q : Q) : Prop where
  row : RowV w p 85 (pcells p a q)
  tally : At w a cb mb c q.s
  ok : q.Ok
theorem row_ne {w : World} {g r : Nat} {T U : TypeId} {vs us : List Value} (h : RowV w g T vs) (k : RowV w r U us) (hT : T ≠ U) : g ≠ r := by
  rintro rfl
  unfold RowV at h k
  rw [h] at k
  simp only [Option.some.injEq, Obj.cells.injEq] at k
  exact hT k.2.1
section
variable {w w' : World} {p a cb mb c : Nat} {q : Q}
theorem PAt.p_a (h : PAt w p a cb mb c q) : p ≠ a := row_ne h.row h.tally.row (by decide)
theorem PAt.p_cb (h : PAt w p a cb mb c q) : p ≠ cb := by obtain ⟨sp, k⟩ := h.tally.nums; exact row_ne h.row k (by decide)
theorem PAt.p_mb (h : PAt w p a cb mb c q) : p ≠ mb := by obtain ⟨_, _, h1, _⟩ := h.tally.mp; exact own_row h1 h.row
theorem PAt.c0 (h : PAt w p a cb mb c q) : w.cell? ⟨p, 0, none⟩ = some (.pointer (some ⟨a, 0, none⟩)) := h.row.cellAt rfl
theorem PAt.c1 (h : PAt w p a cb mb c q) : w.cell? ⟨p, 1, none⟩ = some (.int .i64 (q.first : Int)) := h.row.cellAt rfl
theorem PAt.c2 (h : PAt w p a cb mb c q) : w.cell? ⟨p, 2, none⟩ = some (.int .i64 (q.next : Int)) := h.row.cellAt rfl
theorem PAt.c3 (h : PAt w p a cb mb c q) : w.cell? ⟨p, 3, none⟩ = some (.int .i64 (q.asked : Int)) := h.row.cellAt rfl
theorem PAt.c4 (h : PAt w p a cb mb c q) : w.cell? ⟨p, 4, none⟩ = some (.pointer (some ⟨p, 0, none⟩)) := h.row.cellAt rfl
theorem PAt.blocks (h : PAt w p a cb mb c q) (k0 : w'.heap[p]? = w.heap[p]?) (k1 : w'.heap[a]? = w.heap[a]?) (k2 : w'.heap[cb]? = w.heap[cb]?) (k3 : w'.heap[mb]? = w.heap[mb]?) : PAt w' p a cb mb c q :=
  ⟨h.row.block k0, h.tally.blocks k1 k2 k3, h.ok⟩
theorem PAt.kept (h : PAt w p a cb mb c q) (k : Below w.heap.size w w') : PAt w' p a cb mb c q :=
  ⟨h.row.below h.row.lt k, h.tally.kept k, h.ok⟩
/-- Its tally has turned. -/
theorem PAt.turned (h : PAt w p a cb mb c q) {s : St} (k : At w' a cb mb c s) (b : But w w' cb mb) (hn : s.n = q.s.n) : PAt w' p a cb mb c ⟨s, q.first, q.next, q.asked⟩ :=
  ⟨h.row.block (b.block p h.row.lt h.p_cb h.p_mb), k, ⟨k.ok, by rw [hn]; exact h.ok.first, h.ok.le, by rw [hn]; exact h.ok.next, by rw [hn]; exact h.ok.asked⟩⟩
end

/-! ### made -/
theorem pick_info : (Try.prog.info? 85).isSome = true := by kernel_rfl
theorem peql_self (a : Nat) (w : World) : (binOp .eql 28 (.pointer (some ⟨a, 0, none⟩)) (.pointer (some ⟨a, 0, none⟩))).run Try.prog w = .ok (.bool true) w := by
  obtain ⟨j, hj⟩ := Option.isSome_iff_exists.1 pick_info
  exact run_eql_ptr_same (P := Try.prog) w ⟨a, 0, none⟩ Try.underlying28 hj
theorem peql_nil (a : Addr) (w : World) : (binOp .eql 28 (.pointer none) (.pointer (some a))).run Try.prog w = .ok (.bool false) w := by
  have h : ∀ d : Nat, (Op.equalIn (d + 1) 28 (.pointer none) (.pointer (some a))).run Try.prog w = .ok false w := fun d => by
    simp [Op.equalIn, run_underlying Try.underlying28]
  simp only [binOp]
  simp [Op.equal, Op.maxDepth, h 9999]
set_option maxRecDepth 100000 in
theorem pmade_self (a : Nat) (w : World) (h : w.cell? ⟨a, 4, none⟩ = some (.pointer (some ⟨a, 0, none⟩))) :
    Calls Try.prog 39 #[.pointer (some ⟨a, 0, none⟩)] w fun e w' => e = .returned (.bool true) ∧ w = w' := by
  have k := peql_self a w
  go_enter Try.func39, Try.ntmps39
  go_wp2
  go_ret
  exact ⟨rfl, rfl⟩
/-- What is no pick: nil, or one that was made by nobody. -/
def PNay (w : World) (v : Value) : Prop := v = .pointer none ∨ ∃ a, v = .pointer (some ⟨a, 0, none⟩) ∧ w.cell? ⟨a, 4, none⟩ = some (.pointer none)
theorem PNay.below {w w' : World} {v : Value} (h : PNay w v) (k : Below w.heap.size w w') : PNay w' v := by
  rcases h with h | ⟨a, h, h2⟩
  · exact .inl h
  · exact .inr ⟨a, h, (k.cell (World.block_lt_of_cell? w _ h2)).trans h2⟩
set_option maxRecDepth 100000 in
theorem pmade_nay (v : Value) (w : World) (h : PNay w v) :
    Calls Try.prog 39 #[v] w fun e w' => e = .returned (.bool false) ∧ w = w' := by
  rcases h with rfl | ⟨a, rfl, h⟩
  · go_enter Try.func39, Try.ntmps39
    go_wp2
    go_ret
    exact ⟨rfl, rfl⟩
  · have k := peql_nil ⟨a, 0, none⟩ w
    go_enter Try.func39, Try.ntmps39
    go_wp2
    go_ret
    exact ⟨rfl, rfl⟩

/-! ### Next, Asked -/
/-! ### Room -/
set_option maxRecDepth 100000 in
theorem room_at {w : World} {p a cb mb c : Nat} {q : Q} (h : PAt w p a cb mb c q) :
    Calls Try.prog 31 #[.pointer (some ⟨p, 0, none⟩)] w fun e w' => e = .returned (.int .i64 (q.room : Int)) ∧ w = w' := by
  have c0 := h.c0
  have c1 := h.c1
  have c4 := h.c4
  have H := Lib.hid h.tally
  have hf : q.first ≤ q.s.n := h.ok.first
  have hn : q.s.n ≤ 4096 := h.ok.s.hi
  clear h
  go_enter Try.func31, Try.ntmps31
  go_wp2_with fail
  refine (pmade_self p _ c4).mono ?_
  rintro e w' ⟨rfl, rfl⟩
  go_wp2_with fail
  go_loopw [4, 3] (fun i m wr => ∃ k : Nat, q.first + k ≤ q.s.n ∧ i = .int .i64 ((q.first + k : Nat) : Int) ∧ m = .int .i64 (St.count q.s q.first k : Int) ∧ wr = w) (fun i _ _ => q.s.n - (Go.RowKit.intOf i).toNat)
  case atStart => exact ⟨0, by omega, rfl, rfl, rfl⟩
  case round =>
    obtain ⟨k, hk, rfl, rfl, rfl⟩ := hrel
    go_wp2_with fail
    refine (blocks_at H.out).mono ?_
    rintro e w' ⟨rfl, rfl⟩
    by_cases hlt : q.first + k < q.s.n
    · have hki : ((q.first + k : Nat) : Int) < (q.s.n : Int) := by omega
      have hle := count_le q.s q.first k
      have HS := Lib.hid (count_succ q.s q.first k)
      cases hfr : q.s.free (q.first + k)
      all_goals
        rw [hfr] at HS
        go_wp2_with fail
        refine (free_yes H.out (q.first + k) hlt).mono ?_
        rintro e w' ⟨rfl, rfl⟩
        rw [hfr]
        go_wp2_with fail
        go_roundw
        case rel => exact ⟨k + 1, by omega, by go_num, by rw [HS.out]; first | rfl | (congr 1), by first | rfl | trivial⟩
        case measure => simp [Go.RowKit.intOf]; omega
    · have hki : ¬ ((q.first + k : Nat) : Int) < (q.s.n : Int) := by omega
      have hkk : k = q.s.n - q.first := by omega
      go_wp2_with fail
      go_ret
      exact ⟨by unfold Q.room; rw [← hkk]; rfl, rfl⟩
theorem room_nay (v : Value) (w : World) (h : PNay w v) :
    Calls Try.prog 31 #[v] w fun e w' => e = .returned (.int .i64 0) ∧ w = w' := by
  go_enter Try.func31, Try.ntmps31
  go_wp2_with fail
  refine (pmade_nay v _ h).mono ?_
  rintro e w' ⟨rfl, rfl⟩
  go_wp2_with fail
  go_ret
  exact ⟨rfl, rfl⟩
end Go.Proofs.Ytlemjegngnfanaa.Pk

