/- The reference's disk in memory, as a plain state; New, through, Arm; a list of waits made anew with one more. -/
import Derived.Test.YthcjhbjhghfhjaaDskL
namespace Go.Proofs.Ythcjhbjhghfhjaa.Dsk
open Go.RowKit Go.Proofs.Ythcjhbjhghfhjaa.Oct
set_option linter.unusedVariables false

structure Rf where
  N : Int
  came : List (Nat × List UInt8)
  waits : List (Nat × List UInt8)
  left : Int
  down : Bool
def txt (bs : List UInt8) : Value := .string ⟨bs.toArray⟩
def wz (l : List (Nat × List UInt8)) : List Value := l.flatMap fun x => [.int .i64 (x.1 : Int), txt x.2]
theorem length_wz (l : List (Nat × List UInt8)) : (wz l).length = l.length * 2 := by
  induction l with
  | nil => rfl
  | cons x l ih =>
    simp only [wz, List.flatMap_cons, List.length_append, List.length_cons, List.length_nil] at *
    omega
theorem wz_one (l : List (Nat × List UInt8)) (u : Value) (hu : u ∈ wz l) : u.oneCell' = true := by
  simp only [wz, List.mem_flatMap] at hu
  obtain ⟨x, _, h⟩ := hu
  simp only [List.mem_cons, List.mem_nil_iff, or_false] at h
  rcases h with rfl | rfl <;> rfl
theorem wz_snoc (l : List (Nat × List UInt8)) (p : Nat) (bs : List UInt8) : wz (l ++ [(p, bs)]) = wz l ++ [.int .i64 (p : Int), txt bs] := by simp [wz]
theorem wz_at (l : List (Nat × List UInt8)) (i : Nat) (hi : i < l.length) : (wz l)[i * 2]? = some (.int .i64 (l[i].1 : Int)) ∧ (wz l)[i * 2 + 1]? = some (txt l[i].2) := by
  induction l generalizing i with
  | nil => simp at hi
  | cons x l ih =>
    have hx : wz (x :: l) = .int .i64 (x.1 : Int) :: txt x.2 :: wz l := by simp [wz]
    rw [hx]
    cases i with
    | zero => exact ⟨rfl, rfl⟩
    | succ i =>
      have := ih i (by simpa using hi)
      rw [show (i + 1) * 2 = i * 2 + 1 + 1 by omega]
      simpa using this

structure RAt (w : World) (base rb : Nat) (cv wv : Value) (r : Rf) : Prop where
  lo : base ≤ rb
  head : w.heap[rb]? = some (.cells #[.int .i64 r.N, cv, wv, .int .i64 r.left, .bool r.down] 30 (0, 0))
  came : w.ownsRow base 99 2 cv r.came.length (wz r.came)
  waits : w.ownsRow base 99 2 wv r.waits.length (wz r.waits)
  few : r.came.length ≤ 1000000 ∧ r.waits.length ≤ 1000000
  left : -1 ≤ r.left ∧ r.left ≤ 9223372036854775807
def rT (t : TypeId) : Bool := t == 30
theorem rT_dT (t : TypeId) (h : dT t = true) : rT t = false := by
  unfold dT at h
  simp only [Bool.or_eq_true, beq_iff_eq] at h
  rcases h with rfl | rfl | rfl <;> rfl
section
variable {w w' : World} {base rb : Nat} {cv wv : Value} {r : Rf}
theorem RAt.c0 (h : RAt w base rb cv wv r) : w.cell? ⟨rb, 0, none⟩ = some (.int .i64 r.N) := cell_of_row w rb 0 _ _ _ h.head
theorem RAt.c1 (h : RAt w base rb cv wv r) : w.cell? ⟨rb, 1, none⟩ = some cv := cell_of_row w rb 1 _ _ _ h.head
theorem RAt.c2 (h : RAt w base rb cv wv r) : w.cell? ⟨rb, 2, none⟩ = some wv := cell_of_row w rb 2 _ _ _ h.head
theorem RAt.c3 (h : RAt w base rb cv wv r) : w.cell? ⟨rb, 3, none⟩ = some (.int .i64 r.left) := cell_of_row w rb 3 _ _ _ h.head
theorem RAt.c4 (h : RAt w base rb cv wv r) : w.cell? ⟨rb, 4, none⟩ = some (.bool r.down) := cell_of_row w rb 4 _ _ _ h.head
theorem RAt.f (h : RAt w base rb cv wv r) (i : Nat) : w.frozen? ⟨rb, i, none⟩ = false := by simp [World.frozen?, h.head]
theorem RAt.lt (h : RAt w base rb cv wv r) : rb < w.heap.size := (Array.getElem?_eq_some_iff.1 h.head).1
theorem own_block {e : TypeId} {size n : Nat} {v : Value} {xs : List Value} (h : w.ownsRow base e size v n xs) (k : Nat) (hk : v.ownBlock = some k) : ∃ cur, w.heap[k]? = some (.cells cur e (0, 0)) := by
  rcases h.2 with ⟨rfl, _⟩ | ⟨g, cap, cur, rfl, _, h1, _⟩
  · cases hk
  · cases hk
    exact ⟨_, h1⟩
theorem RAt.same (h : RAt w base rb cv wv r) (hk : ∀ k cs t fr, base ≤ k → k < w.heap.size → w.heap[k]? = some (.cells cs t fr) → (t = 30 ∨ t = 99) → w'.heap[k]? = w.heap[k]?) : RAt w' base rb cv wv r where
  lo := h.lo
  head := (hk rb _ _ _ h.lo h.lt h.head (.inl rfl)).trans h.head
  came := own_same h.came fun k hb hl => by obtain ⟨cur, hc⟩ := own_block h.came k hb; exact hk k _ _ _ (World.ownsRow.lt h.came k hb).1 hl hc (.inr rfl)
  waits := own_same h.waits fun k hb hl => by obtain ⟨cur, hc⟩ := own_block h.waits k hb; exact hk k _ _ _ (World.ownsRow.lt h.waits k hb).1 hl hc (.inr rfl)
  few := h.few
  left := h.left
theorem RAt.below (h : RAt w base rb cv wv r) (hb : Below w.heap.size w w') : RAt w' base rb cv wv r := h.same fun k _ _ _ _ hl _ _ => hb.block k hl
theorem RAt.drew (h : RAt w base rb cv wv r) : RAt w.drew base rb cv wv r := h.same fun _ _ _ _ _ _ _ _ => rfl
theorem RAt.other {base' : Nat} (h : RAt w base rb cv wv r) (hb : Turned dT base' w w') : RAt w' base rb cv wv r :=
  h.same fun k cs t fr _ hl hc ht => hb.block k hl (.inr fun cs' t' fr' hc' => by rw [hc] at hc'; cases hc'; rcases ht with rfl | rfl <;> rfl)
/-- The head alone is new, and what the slices own. -/
theorem RAt.heads (h : RAt w base rb cv wv r) (l : Int) (d : Bool) (hl : -1 ≤ l ∧ l ≤ 9223372036854775807) (hw : w'.heap[rb]? = some (.cells #[.int .i64 r.N, cv, wv, .int .i64 l, .bool d] 30 (0, 0)))
    (hk : ∀ k, k ≠ rb → w'.heap[k]? = w.heap[k]?) : RAt w' base rb cv wv { r with left := l, down := d } where
  lo := h.lo
  head := hw
  came := own_same h.came fun k hb _ => hk k (by rintro rfl; obtain ⟨cur, hc⟩ := own_block h.came _ hb; rw [h.head] at hc; cases hc)
  waits := own_same h.waits fun k hb _ => hk k (by rintro rfl; obtain ⟨cur, hc⟩ := own_block h.waits _ hb; rw [h.head] at hc; cases hc)
  few := h.few
  left := hl
end

/-! ### through, Arm -/
def Rf.can (r : Rf) : Bool := !(r.left == 0)
def Rf.spent (r : Rf) : Rf := if r.left = 0 then { r with left := -1, down := true } else if 0 < r.left then { r with left := r.left - 1 } else r
set_option maxRecDepth 100000 in
theorem rthrough_at {w : World} {base rb : Nat} {cv wv : Value} {r : Rf} (h : RAt w base rb cv wv r) :
    Calls Try.prog 45 #[.pointer (some ⟨rb, 0, none⟩)] w fun e w' => e = .returned (.bool r.can) ∧ RAt w' base rb cv wv r.spent ∧ Turned rT base w w' := by
  have c3 := h.c3
  have c4 := h.c4
  have f3 := h.f 3
  have f4 := h.f 4
  have H := Lib.hid h
  have hl := h.left
  clear h
  obtain ⟨N, C, W, l, d⟩ := r
  by_cases h0 : l = 0
  · subst h0
    go_enter Try.func45, Try.ntmps45
    go_wp2
    go_ret
    have e3 := heap_setCell_same w rb 3 _ _ (.int .i64 (-1)) H.out.head
    have e4 := heap_setCell_same _ rb 4 _ _ (.bool true) e3
    refine ⟨rfl, H.out.heads (-1) true (by omega) e4 (fun k hk => ?_), ?_⟩
    · rw [heap_setCell_other _ _ _ _ hk, heap_setCell_other _ _ _ _ hk]
    · exact ((Turned.refl rT base w).setCell H.out.lo H.out.head rfl _).setCell H.out.lo e3 rfl _
  · by_cases h1 : 0 < l
    · replace hl : -1 ≤ l ∧ l ≤ 9223372036854775807 := hl
      have HS := Lib.hid (show Rf.spent ⟨N, C, W, l, d⟩ = ⟨N, C, W, l - 1, d⟩ by simp [Rf.spent, h0, h1])
      have HC := Lib.hid (show Rf.can ⟨N, C, W, l, d⟩ = true by simp [Rf.can, h0])
      go_enter Try.func45, Try.ntmps45
      go_wp2
      go_ret
      have e3 := heap_setCell_same w rb 3 _ _ (.int .i64 (l - 1)) H.out.head
      rw [HS.out, HC.out]
      exact ⟨rfl, H.out.heads (l - 1) d (by omega) e3 (fun k hk => heap_setCell_other _ _ _ _ hk), (Turned.refl rT base w).setCell H.out.lo H.out.head rfl _⟩
    · replace hl : -1 ≤ l ∧ l ≤ 9223372036854775807 := hl
      have HS := Lib.hid (show Rf.spent ⟨N, C, W, l, d⟩ = ⟨N, C, W, l, d⟩ by simp [Rf.spent, h0, h1])
      have HC := Lib.hid (show Rf.can ⟨N, C, W, l, d⟩ = true by simp [Rf.can, h0])
      go_enter Try.func45, Try.ntmps45
      go_wp2
      go_ret
      rw [HS.out, HC.out]
      exact ⟨rfl, H.out, Turned.refl _ _ _⟩

def Rf.doArm (r : Rf) (n : Int) : Int × Rf := if r.down = true then (20, r) else if n < 0 then (2, r) else (0, { r with left := n })
set_option maxRecDepth 100000 in
theorem rarm_at {w : World} {base rb : Nat} {cv wv : Value} {r : Rf} (h : RAt w base rb cv wv r) (n : Int) (hn : n ≤ 9223372036854775807) :
    Calls Try.prog 33 #[.pointer (some ⟨rb, 0, none⟩), .int .i64 n] w fun e w' => e = .returned (.int .i64 (r.doArm n).1) ∧ RAt w' base rb cv wv (r.doArm n).2 ∧ Turned rT base w w' := by
  have c3 := h.c3
  have c4 := h.c4
  have f3 := h.f 3
  have H := Lib.hid h
  clear h
  obtain ⟨N, C, W, l, d⟩ := r
  cases d with
  | true =>
    go_enter Try.func33, Try.ntmps33
    go_wp2
    go_ret
    exact ⟨rfl, H.out, Turned.refl _ _ _⟩
  | false =>
    by_cases h0 : n < 0
    · have HD := Lib.hid (show Rf.doArm ⟨N, C, W, l, false⟩ n = (2, ⟨N, C, W, l, false⟩) by simp [Rf.doArm, h0])
      go_enter Try.func33, Try.ntmps33
      go_wp2
      go_ret
      rw [HD.out]
      exact ⟨rfl, H.out, Turned.refl _ _ _⟩
    · have HD := Lib.hid (show Rf.doArm ⟨N, C, W, l, false⟩ n = (0, ⟨N, C, W, n, false⟩) by simp [Rf.doArm, h0])
      go_enter Try.func33, Try.ntmps33
      go_wp2
      go_ret
      have e3 := heap_setCell_same w rb 3 _ _ (.int .i64 n) H.out.head
      rw [HD.out]
      exact ⟨rfl, H.out.heads n false (by omega) e3 (fun k hk => heap_setCell_other _ _ _ _ hk), (Turned.refl rT base w).setCell H.out.lo H.out.head rfl _⟩

/-! ### A list of waits, made anew with one more -/
theorem wait_row : (Try.prog.info? 99).map (fun i => (i.zero, i.size, i.bytes)) = some (some (.agg #[.int .i64 0, .string ⟨#[]⟩]), 2, 24) := by kernel_rfl
theorem own_mono {w : World} {base base' : Nat} {e : TypeId} {size n : Nat} {v : Value} {xs : List Value} (h : w.ownsRow base e size v n xs) (hb : base' ≤ base) : w.ownsRow base' e size v n xs := by
  refine ⟨h.1, ?_⟩
  rcases h.2 with hn | ⟨g, cap, cur, rfl, h1, rest⟩
  · exact .inl hn
  · exact .inr ⟨g, cap, cur, rfl, Nat.le_trans hb h1, rest⟩
set_option maxRecDepth 100000 in
theorem push_runs (w : World) {base n : Nat} {v : Value} {xs : List Value} (h : w.ownsRow base 99 2 v n xs) (h1 : ∀ u ∈ xs, u.oneCell' = true) (hn : n ≤ 1000000) (hbase : base ≤ w.heap.size) (p : Int) (bs : List UInt8) (ty ty2 : TypeId) :
    ∃ v1 w1 v2 w2, (Builtin.append_ #[28, 28] ty #[.slice (some ⟨w.heap.size, 0, none⟩) 0 0, v]).run Try.prog (w.alloc (.cells #[] 99)) = .ok v1 w1 ∧
      (Builtin.append_ #[28, 28] ty2 #[v1, .slice (some ⟨w1.heap.size, 0, none⟩) 1 1]).run Try.prog (w1.alloc (.cells #[.int .i64 p, txt bs] 99)) = .ok v2 w2 ∧
      w2.ownsRow base 99 2 v2 (n + 1) (xs ++ [.int .i64 p, txt bs]) ∧ Below w.heap.size w w2 := by
  obtain ⟨i0, hi, hz0, hz1, hz2⟩ := info_parts wait_row
  have b1 : Below w.heap.size w (w.alloc (.cells #[] 99)) := (Below.refl _ _).alloc (Nat.le_refl _) _
  have hown : (w.alloc (.cells #[] 99)).ownsRow w.heap.size 99 2 (.slice (some ⟨w.heap.size, 0, none⟩) 0 0) 0 [] := World.ownsRow_made w #[] 0 (Nat.le_refl _) (Nat.zero_le _) rfl
  have hold := World.ownsRow.alloc h (.cells #[] 99)
  have first : ∃ v1 w1, (Builtin.append_ #[28, 28] ty #[.slice (some ⟨w.heap.size, 0, none⟩) 0 0, v]).run Try.prog (w.alloc (.cells #[] 99)) = .ok v1 w1 ∧
      w1.ownsRow w.heap.size 99 2 v1 n xs ∧ Below w.heap.size w w1 := by
    rcases h.2 with ⟨rfl, rfl⟩ | ⟨g, cap, cur, rfl, hb, hg, _⟩
    · have hx : xs = [] := List.eq_nil_of_length_eq_zero (by have := h.1; omega)
      subst hx
      exact ⟨_, _, run_append_owned_none (P := Try.prog) (w := w.alloc (.cells #[] 99)) w.heap.size 28 ty 99 i0 2 Try.underlying28 hi _ _ _ hown, hown, b1⟩
    · obtain ⟨v', w2, hrun, ho, hgr, _⟩ := run_append_own (P := Try.prog) (w.alloc (.cells #[] 99)) w.heap.size 28 ty 99 i0 _ 2 24 Try.underlying28 hi hz0 hz1 hz2 rfl (by decide) (.slice (some ⟨w.heap.size, 0, none⟩) 0 0) 0 [] hown ⟨g, 0, none⟩ n cap xs h.1 (hold.cells (g := g) rfl) h1
        (by unfold maxLen; omega) (by omega) b1.size
      rw [Nat.zero_add, List.nil_append] at ho
      exact ⟨v', w2, hrun, ho, b1.grown hgr b1.size (fun k hk => by cases hk; exact Nat.le_refl _)⟩
  obtain ⟨v1, w1, r1, o1, d1⟩ := first
  have hc := heap_alloc_new w1 (.cells #[.int .i64 p, txt bs] 99)
  obtain ⟨v2, w2, r2, o2, g2, _⟩ := run_append_own (P := Try.prog) (w1.alloc (.cells #[.int .i64 p, txt bs] 99)) w.heap.size 28 ty2 99 i0 _ 2 24 Try.underlying28 hi hz0 hz1 hz2 rfl (by decide) v1 n xs (World.ownsRow.alloc o1 _) ⟨w1.heap.size, 0, none⟩ 1 1 [.int .i64 p, txt bs] rfl
    (fun j u hj => by
      rw [Oct.add_plain, Nat.zero_add]
      refine (cell_of_row _ _ j _ _ _ hc).trans ?_
      simpa using hj)
    (fun u hu => by
      simp only [List.mem_cons, List.mem_nil_iff, or_false] at hu
      rcases hu with rfl | rfl <;> rfl)
    (by unfold maxLen; omega) (by omega) (by have := d1.size; simp; omega)
  have d2 : Below w.heap.size w (w1.alloc (.cells #[.int .i64 p, txt bs] 99)) := d1.alloc d1.size _
  exact ⟨v1, w1, v2, w2, r1, r2, own_mono o2 hbase, d2.grown g2 d2.size (fun k hk => (World.ownsRow.lt o1 k hk).1)⟩
end Go.Proofs.Ythcjhbjhghfhjaa.Dsk
