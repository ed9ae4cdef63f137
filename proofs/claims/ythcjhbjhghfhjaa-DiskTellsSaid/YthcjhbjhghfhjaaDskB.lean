/- What a call of disk may turn; what spend, Arm and through do. -/
import Derived.Test.YthcjhbjhghfhjaaDskA
namespace Go.Proofs.Ythcjhbjhghfhjaa.Dsk
open Go.RowKit Go.Proofs.Ythcjhbjhghfhjaa.Oct
set_option linter.unusedVariables false

/-- From block number base on, blocks of types of T alone may have turned; all else is as it was. -/
structure Turned (T : TypeId → Bool) (base : Nat) (w w' : World) : Prop where
  os : w'.os = w.os
  tape : w'.tape = w.tape
  output : w'.output = w.output
  size : w.heap.size ≤ w'.heap.size
  block : ∀ k, k < w.heap.size → (k < base ∨ ∀ cs t fr, w.heap[k]? = some (.cells cs t fr) → T t = false) → w'.heap[k]? = w.heap[k]?
theorem Turned.refl (T : TypeId → Bool) (base : Nat) (w : World) : Turned T base w w := ⟨rfl, rfl, rfl, Nat.le_refl _, fun _ _ _ => rfl⟩
theorem Turned.trans {T : TypeId → Bool} {base : Nat} {a b c : World} (h : Turned T base a b) (k : Turned T base b c) : Turned T base a c :=
  ⟨k.os.trans h.os, k.tape.trans h.tape, k.output.trans h.output, Nat.le_trans h.size k.size, fun i hi hc => by
    have e := h.block i hi hc
    refine (k.block i (Nat.lt_of_lt_of_le hi h.size) ?_).trans e
    rw [e]
    exact hc⟩
theorem Turned.of_below {T : TypeId → Bool} {base : Nat} {w w' : World} (h : Below w.heap.size w w') : Turned T base w w' :=
  ⟨h.os, h.tape, h.output, h.size, fun k hk _ => h.block k hk⟩
theorem Turned.below {T : TypeId → Bool} {base : Nat} {w w' : World} (h : Turned T base w w') (hb : base ≤ w.heap.size) : Below base w w' :=
  ⟨h.os, h.tape, h.output, h.size, fun k hk => h.block k (by omega) (.inl hk)⟩
theorem Turned.setCell {T : TypeId → Bool} {base : Nat} {a w : World} (h : Turned T base a w) {p : Addr} (hp : base ≤ p.block) {cs : Array Value} {t : TypeId} {fr : Nat × Nat} (hc : w.heap[p.block]? = some (.cells cs t fr)) (ht : T t = true) (u : Value) : Turned T base a (w.setCell p u) :=
  h.trans ⟨rfl, rfl, rfl, by simp [World.setCell], fun k hk hk2 => by
    refine Below.heap_setCell _ _ _ _ fun e => ?_
    subst e
    rcases hk2 with h1 | h1
    · omega
    · rw [h1 _ _ _ hc] at ht; cases ht⟩
theorem Turned.mono {T : TypeId → Bool} {base base' : Nat} {w w' : World} (h : Turned T base w w') (hb : base' ≤ base) : Turned T base' w w' :=
  ⟨h.os, h.tape, h.output, h.size, fun k hk hc => h.block k hk (hc.imp (fun h => by omega) id)⟩

/-- The types of a disk's own blocks. -/
def dT (t : TypeId) : Bool := t == 79 || (t == 89 || t == 91)

section
variable {w w' : World} {base a bb bc : Nat} {wv : Value} {s s' : St}
theorem At.ne_blocks (h : At w base a bb bc wv s) : bb ≠ a := by
  rcases h.blocks.2 with ⟨h0, _⟩ | ⟨g, cap, cur, hv, _, h1, _⟩
  · cases h0
  · cases hv
    rintro rfl
    rw [h.head] at h1
    cases h1
theorem At.ne_waits (h : At w base a bb bc wv s) : wv.ownBlock ≠ some a := by
  rcases h.waits.2 with ⟨rfl, _⟩ | ⟨g, cap, cur, rfl, _, h1, _⟩
  · simp [Value.ownBlock]
  · intro e
    have : g = a := by simpa [Value.ownBlock] using e
    subst this
    rw [h.head] at h1
    cases h1
/-- Rows whose block is as it was. -/
theorem own_same {e : TypeId} {size n : Nat} {v : Value} {xs : List Value} (h : w.ownsRow base e size v n xs) (hk : ∀ k, v.ownBlock = some k → k < w.heap.size → w'.heap[k]? = w.heap[k]?) : w'.ownsRow base e size v n xs := by
  refine ⟨h.1, ?_⟩
  rcases h.2 with hn | ⟨g, cap, cur, rfl, hb, hgg, rest⟩
  · exact .inl hn
  · exact .inr ⟨g, cap, cur, rfl, hb, (hk g rfl (Array.getElem?_eq_some_iff.1 hgg).1).trans hgg, rest⟩
/-- Nothing of the disk's blocks has turned. -/
theorem At.same (h : At w base a bb bc wv s) (hk : ∀ k cs t fr, base ≤ k → k < w.heap.size → w.heap[k]? = some (.cells cs t fr) → dT t = true → w'.heap[k]? = w.heap[k]?) : At w' base a bb bc wv s where
  lo := h.lo
  head := (hk a _ _ _ h.lo h.lt h.head rfl).trans h.head
  blocks := own_same h.blocks fun k hb hl => by
    rcases h.blocks.2 with ⟨h0, _⟩ | ⟨g, cap, cur, hv, hg, h1, _⟩
    · cases h0
    · cases hv
      cases hb
      exact hk _ _ _ _ hg hl h1 rfl
  waits := own_same h.waits fun k hb hl => by
    rcases h.waits.2 with ⟨rfl, h0⟩ | ⟨g, cap, cur, rfl, hg, h1, _⟩
    · cases hb
    · cases hb
      exact hk _ _ _ _ hg hl h1 rfl
  ok := h.ok
theorem At.below (h : At w base a bb bc wv s) (hb : Below w.heap.size w w') : At w' base a bb bc wv s := h.same fun k _ _ _ _ hl _ _ => hb.block k hl
theorem At.other {T : TypeId → Bool} {base' : Nat} (h : At w base a bb bc wv s) (hb : Turned T base' w w') (hT : ∀ t, dT t = true → T t = false) : At w' base a bb bc wv s :=
  h.same fun k cs t fr hk hl hc ht => hb.block k hl (.inr fun cs' t' fr' hc' => by
    rw [hc] at hc'
    cases hc'
    exact hT t ht)
/-- Only the power has turned. -/
theorem At.power (h : At w base a bb bc wv s) (g m : Bool) (l : Nat) (hl : l ≤ 9223372036854775807)
    (hw : w'.heap[a]? = some (.cells #[.slice (some ⟨bb, 0, none⟩) s.n bc, wv, .bool g, .bool m, .int .i64 (l : Int), .pointer (some ⟨a, 0, none⟩)] 79 (0, 0)))
    (hk : ∀ k, k ≠ a → w'.heap[k]? = w.heap[k]?) : At w' base a bb bc wv { s with gone := g, armed := m, left := l } where
  lo := h.lo
  head := hw
  blocks := own_same h.blocks fun k hb _ => hk k (by have := h.ne_blocks; cases hb; exact this)
  waits := own_same h.waits fun k hb _ => hk k (fun e => h.ne_waits (by rw [hb, e]))
  ok := ⟨h.ok.lo, h.ok.hi, h.ok.len, h.ok.wait, h.ok.few, hl⟩
end

def St.can (s : St) : Bool := !(s.armed && s.left == 0)
def St.spent (s : St) : St := { s with gone := if s.armed && s.left == 0 then true else s.gone, armed := if s.armed && s.left == 0 then false else s.armed, left := if s.armed then s.left - 1 else s.left }

set_option maxRecDepth 100000 in
theorem spend_at {w : World} {base a bb bc : Nat} {wv : Value} {s : St} (h : At w base a bb bc wv s) :
    Calls Try.prog 44 #[.pointer (some ⟨a, 2, none⟩)] w fun e w' => e = .returned (.bool s.can) ∧ At w' base a bb bc wv s.spent ∧ Turned dT base w w' := by
  have c2 := h.c2
  have c3 := h.c3
  have c4 := h.c4
  have f2 := h.f 2
  have f3 := h.f 3
  have f4 := h.f 4
  have H := Lib.hid h
  have hleft := h.ok.left
  clear h
  obtain ⟨n, B, W, g, m, l⟩ := s
  cases m with
  | false =>
    go_enter Try.func44, Try.ntmps44
    go_wp2
    go_ret
    exact ⟨rfl, H.out, Turned.refl _ _ _⟩
  | true =>
    cases l with
    | zero =>
      go_enter Try.func44, Try.ntmps44
      go_wp2
      go_ret
      have e2 := heap_setCell_same w a 2 _ _ (.bool true) H.out.head
      have e3 := heap_setCell_same _ a 3 _ _ (.bool false) e2
      have e4 := heap_setCell_same _ a 4 _ _ (.int .i64 0) e3
      refine ⟨rfl, H.out.power true false 0 (by omega) e4 (fun k hk => ?_), ?_⟩
      · rw [heap_setCell_other _ _ _ _ hk, heap_setCell_other _ _ _ _ hk, heap_setCell_other _ _ _ _ hk]
      · exact (((Turned.refl dT base w).setCell H.out.lo H.out.head rfl _).setCell H.out.lo e2 rfl _).setCell H.out.lo e3 rfl _
    | succ l =>
      replace c4 : w.cell? ⟨a, 4, none⟩ = some (.int .i64 ((l + 1 : Nat) : Int)) := c4
      replace hleft : l + 1 ≤ 9223372036854775807 := hleft
      go_enter Try.func44, Try.ntmps44
      go_wp2
      go_ret
      have e4 := heap_setCell_same w a 4 _ _ (.int .i64 (l : Int)) H.out.head
      refine ⟨by simp [St.can], ?_, (Turned.refl dT base w).setCell H.out.lo H.out.head rfl _⟩
      have hp := H.out.power (w' := w.setCell ⟨a, 4, none⟩ (.int .i64 (l : Int))) g true l (by omega) e4 (fun k hk => heap_setCell_other _ _ _ _ hk)
      simpa [St.spent] using hp

def St.arm (s : St) (n : Nat) : St := { s with gone := false, armed := true, left := n }
theorem arm_yes {w : World} {base a bb bc : Nat} {wv : Value} {s : St} (h : At w base a bb bc wv s) (hg : s.gone = false) (n : Int) (h0 : 0 ≤ n) (h1 : n ≤ 9223372036854775807) :
    Calls Try.prog 24 #[.pointer (some ⟨a, 0, none⟩), .int .i64 n] w fun e w' => e = .returned (.int .i64 0) ∧ At w' base a bb bc wv (s.arm n.toNat) ∧ Turned dT base w w' := by
  have c2 := h.c2
  rw [hg] at c2
  have c3 := h.c3
  have c4 := h.c4
  have c5 := h.c5
  have f2 := h.f 2
  have f3 := h.f 3
  have f4 := h.f 4
  have H := Lib.hid h
  clear h hg
  go_enter Try.func24, Try.ntmps24
  go_wp2_with fail
  refine (made_self a _ c5).mono ?_
  rintro e w' ⟨rfl, rfl⟩
  go_wp2
  go_ret
  have e2 := heap_setCell_same w a 2 _ _ (.bool false) H.out.head
  have e3 := heap_setCell_same _ a 3 _ _ (.bool true) e2
  have e4 := heap_setCell_same _ a 4 _ _ (.int .i64 n) e3
  refine ⟨rfl, ?_, ?_⟩
  · refine H.out.power false true n.toNat (by omega) ?_ (fun k hk => ?_)
    · rw [Int.toNat_of_nonneg h0]; exact e4
    · rw [heap_setCell_other _ _ _ _ hk, heap_setCell_other _ _ _ _ hk, heap_setCell_other _ _ _ _ hk]
  · exact (((Turned.refl dT base w).setCell H.out.lo H.out.head rfl _).setCell H.out.lo e2 rfl _).setCell H.out.lo e3 rfl _
theorem arm_down {w : World} {base a bb bc : Nat} {wv : Value} {s : St} (h : At w base a bb bc wv s) (hg : s.gone = true) (n : Int) :
    Calls Try.prog 24 #[.pointer (some ⟨a, 0, none⟩), .int .i64 n] w fun e w' => e = .returned (.int .i64 20) ∧ w = w' := by
  have c2 := h.c2
  rw [hg] at c2
  have c5 := h.c5
  have H := Lib.hid h
  clear h hg
  go_enter Try.func24, Try.ntmps24
  go_wp2_with fail
  refine (made_self a _ c5).mono ?_
  rintro e w' ⟨rfl, rfl⟩
  go_wp2
  go_ret
  exact ⟨rfl, rfl⟩
theorem arm_neg {w : World} {base a bb bc : Nat} {wv : Value} {s : St} (h : At w base a bb bc wv s) (hg : s.gone = false) (n : Int) (h0 : n < 0) :
    Calls Try.prog 24 #[.pointer (some ⟨a, 0, none⟩), .int .i64 n] w fun e w' => e = .returned (.int .i64 2) ∧ w = w' := by
  have c2 := h.c2
  rw [hg] at c2
  have c5 := h.c5
  have H := Lib.hid h
  clear h hg
  go_enter Try.func24, Try.ntmps24
  go_wp2_with fail
  refine (made_self a _ c5).mono ?_
  rintro e w' ⟨rfl, rfl⟩
  go_wp2
  go_ret
  exact ⟨rfl, rfl⟩
end Go.Proofs.Ythcjhbjhghfhjaa.Dsk
