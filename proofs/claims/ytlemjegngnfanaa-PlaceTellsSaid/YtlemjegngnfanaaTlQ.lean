/- TallyFree's walk. (Written by bin/gen_tlfree.py.) -/
import Derived.Test.YtlemjegngnfanaaTlP
namespace Go.Proofs.Ytlemjegngnfanaa.Tl
open Go.RowKit Go.Proofs.Ytlemjegngnfanaa.Oct Go.Proofs.Ytlemjegngnfanaa.Mv Go.Maps
set_option linter.unusedVariables false

/-! ### What an operation makes of a tally -/
theorem n_up (s : St) (b : Int) : (s.up b).2.n = s.n := by
  unfold St.up
  split
  · split
    · rfl
    · exact n_put _ _ _
  · rfl
theorem n_down (s : St) (b : Int) : (s.down b).2.n = s.n := by
  unfold St.down
  split
  · split
    · rfl
    · exact n_put _ _ _
  · rfl
theorem n_did {s : St} (h : s.Ok) (x : Opr) : (s.did x).n = s.n := by
  unfold St.did
  split
  · exact n_up _ _
  · split
    · exact n_down _ _
    · split
      · rfl
      · exact h.len
theorem free_up {s : St} {x : Opr} (hx : x.what.toNat % 4 = 0) {j : Nat} (hf : (s.did x).free j = true) : s.free j = true := by
  unfold St.did at hf
  rw [if_pos hx] at hf
  unfold St.up at hf
  by_cases hb : s.isIn (spot s.n x.b : Int)
  · rw [if_pos hb, Int.toNat_natCast] at hf
    by_cases hc : s.cnt (spot s.n x.b) = 65535
    · rw [if_pos hc] at hf
      exact hf
    · rw [if_neg hc] at hf
      have hp : spot s.n x.b < s.n := by have := hb.2; omega
      have h2 : (s.put (spot s.n x.b) (s.cnt (spot s.n x.b) + 1)).free j = true := hf
      unfold St.free at h2 ⊢
      rw [cnt_put hp, was_put] at h2
      by_cases e : j = spot s.n x.b
      · rw [if_pos e] at h2
        have h3 : s.cnt (spot s.n x.b) + 1 = 0 := by
          have := (Bool.and_eq_true _ _ ▸ h2).1
          simpa using this
        have h4 := congrArg UInt16.toNat h3
        rw [UInt16.toNat_add] at h4
        have h5 : (s.cnt (spot s.n x.b)).toNat ≠ 65535 := fun e' => hc (UInt16.toNat_inj.1 (by rw [e']; rfl))
        have h6 := u16_lt (s.cnt (spot s.n x.b))
        have h7 : ((s.cnt (spot s.n x.b)).toNat + 1) % 65536 = 0 := h4
        omega
      · rw [if_neg e] at h2
        exact h2
  · rw [if_neg hb] at hf
    exact hf
def St.nought (s : St) (j : Nat) : Bool := s.cnt j == 0
theorem nought_split (s : St) (k : Nat) : (List.range k).countP s.nought = (List.range k).countP s.free + (List.range k).countP s.waits := by
  induction k with
  | zero => rfl
  | succ k ih =>
    rw [countP_succ, countP_succ, countP_succ, ih]
    unfold St.nought St.free St.waits
    cases s.cnt k == 0 <;> cases e : (s.was k == 0) <;> simp [bne, e] <;> omega
theorem idle_same (l : List UInt16) : (St.mk l l).idle = 0 := by
  unfold St.idle
  rw [List.countP_eq_zero]
  intro j _
  simp [St.waits, St.cnt, St.was]
theorem changed_same (l : List UInt16) : (St.mk l l).changed = [] := by
  unfold St.changed
  rw [List.filter_eq_nil_iff]
  intro j _
  rw [moved_same]
  simp
theorem idle_keep (s : St) : s.keep.idle = 0 := idle_same _
theorem changed_keep (s : St) : s.keep.changed = [] := changed_same _
theorem changed_back (s : St) : s.back.changed = [] := changed_same _
theorem did_keep {s : St} {x : Opr} (h : x.what.toNat % 4 = 2) : s.did x = s.keep := by
  unfold St.did
  rw [if_neg (by omega), if_neg (by omega), if_pos h]
theorem did_back {s : St} {x : Opr} (h : x.what.toNat % 4 = 3) : s.did x = s.back := by
  unfold St.did
  rw [if_neg (by omega), if_neg (by omega), if_neg (by omega)]
theorem cnt_of_free {s : St} {j : Nat} (h : s.free j = true) : ((s.cnt j).toNat : Int) = 0 := by
  unfold St.free at h
  have := (Bool.and_eq_true _ _ ▸ h).1
  have h2 : s.cnt j = 0 := by simpa using this
  rw [h2]
  rfl

/-! ### A row of flags -/
def bools (l : List Bool) : List Value := l.map .bool
theorem bool_info : (Try.prog.info? 4).map (fun i => (i.zero, i.size, i.bytes)) = some (some (.bool false), 1, 1) := by kernel_rfl
theorem made_flags (n : Nat) : madeCells (Value.bool false).cells n = (bools (List.replicate n false)).toArray := by
  apply Array.ext
  · simp [madeCells, bools]
  · intro i h1 h2
    simp [madeCells, bools, Value.cells, Nat.mod_one]
theorem run_make_flags (w : World) (n : Nat) (hn : n ≤ 4096) :
    (Instr.makeSlice 55 (.int .i64 (n : Int)) (.int .i64 (n : Int))).run Try.prog w = .ok (.slice (some ⟨w.heap.size, 0, none⟩) n n) (w.alloc (.cells (bools (List.replicate n false)).toArray 4)) := by
  obtain ⟨i0, hi, hz0, hz1, hz2⟩ := info_parts bool_info
  have h := run_make (P := Try.prog) w 55 4 i0 (.bool false) Try.underlying55 hi hz0 .i64 .i64 n n (by omega) (by omega) (by rw [hz2]; omega) (by omega)
  rw [hz1, Nat.mul_one, Int.toNat_natCast, made_flags] at h
  exact h
/-- The flags of the first k of n. -/
def flags (p : Nat → Bool) (n k : Nat) : List Value := (List.range n).map fun j => .bool (decide (j < k) && p j)
theorem flags_zero (p : Nat → Bool) (n : Nat) : flags p n 0 = bools (List.replicate n false) := by
  unfold flags bools
  refine List.ext_getElem (by simp) fun i h1 h2 => by simp
theorem flags_succ (p : Nat → Bool) {n k : Nat} (hk : k < n) : (flags p n k).set k (.bool (p k)) = flags p n (k + 1) := by
  unfold flags
  refine List.ext_getElem (by simp) fun i h1 h2 => ?_
  rw [List.getElem_set]
  by_cases e : k = i
  · subst e; simp
  · have : (i < k) = (i < k + 1) := propext ⟨fun h => by omega, fun h => by omega⟩
    simp [e, this]
theorem flags_at (p : Nat → Bool) {n i : Nat} (hi : i < n) : (flags p n n)[i]? = some (.bool (p i)) := by
  unfold flags
  simp [hi]
theorem At.setOther {w : World} {a cb mb c : Nat} {s : St} (h : At w a cb mb c s) {q : Nat} (h1 : a ≠ q) (h2 : cb ≠ q) (h3 : mb ≠ q) (i : Nat) (v : Value) : At (w.setCell ⟨q, i, none⟩ v) a cb mb c s :=
  h.blocks (heap_setCell_other _ _ _ _ h1) (heap_setCell_other _ _ _ _ h2) (heap_setCell_other _ _ _ _ h3)
theorem At.lts {w : World} {a cb mb c : Nat} {s : St} (h : At w a cb mb c s) : a < w.heap.size ∧ cb < w.heap.size ∧ mb < w.heap.size := ⟨h.row.lt, h.cb_lt, h.mp.lt⟩
theorem row_but {w w' : World} {g p q : Nat} {T : TypeId} {vs : List Value} (h : RowV w g T vs) (k : But w w' p q) (h1 : g ≠ p) (h2 : g ≠ q) : RowV w' g T vs := h.block (k.block g h.lt h1 h2)

end Go.Proofs.Ytlemjegngnfanaa.Tl

