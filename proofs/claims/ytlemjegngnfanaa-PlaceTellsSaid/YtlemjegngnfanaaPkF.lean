/- How many are free: mathematics of a pick. No function of the program is walked but Take once more. -/
import Derived.Test.YtlemjegngnfanaaPkE
namespace Go.Proofs.Ytlemjegngnfanaa.Pk
open Go.RowKit Go.Proofs.Ytlemjegngnfanaa.Oct Go.Proofs.Ytlemjegngnfanaa.Mv Go.Proofs.Ytlemjegngnfanaa.Tl Go.Maps
set_option linter.unusedVariables false

theorem count_all (s : St) (f m : Nat) (h : ∀ j, f ≤ j → j < f + m → s.free j = true) : St.count s f m = m := by
  unfold St.count
  have : (List.range' f m).countP s.free = (List.range' f m).length := List.countP_eq_length.2 fun a ha => by
    rw [List.mem_range'_1] at ha
    exact h a ha.1 ha.2
  rw [this, List.length_range']
theorem count_zero (s : St) (f m : Nat) : St.count s f m = 0 ↔ ∀ j, f ≤ j → j < f + m → s.free j = false := by
  unfold St.count
  rw [List.countP_eq_zero]
  constructor
  · intro h j h1 h2
    have := h j (List.mem_range'_1.2 ⟨h1, h2⟩)
    simpa using this
  · intro h a ha
    rw [List.mem_range'_1] at ha
    rw [h a ha.1 ha.2]
    decide
theorem room_zero {q : Q} (hok : q.Ok) : q.room = 0 ↔ q.None := by
  have h1 := hok.le
  have h2 := hok.nextn
  have h3 := hok.first
  unfold Q.room
  rw [count_zero]
  constructor
  · intro h
    exact ⟨fun j a b => h j (by have : q.lo 0 = q.next := rfl; omega) (by omega), fun j a b => h j (by have : q.lo 1 = q.first := rfl; omega) (by omega)⟩
  · intro h j a b
    by_cases e : j < q.next
    · exact h.2 j a e
    · exact h.1 j (by show q.next ≤ j; omega) (by omega)
theorem look_room {q : Q} (hok : q.Ok) {b : Nat} {ok : Bool} (h : q.Look b ok) : ok = decide (0 < q.room) := by
  cases ok
  · rw [(room_zero hok).2 h.2]
    rfl
  · have : q.room ≠ 0 := fun e => found_not h ((room_zero hok).1 e)
    exact (decide_eq_true (by omega)).symm
/-- One that was free is not any more. -/
theorem count_but {s t : St} {b : Nat} (hb : s.free b = true) (ht : t.free b = false) (he : ∀ j, j ≠ b → t.free j = s.free j) (f m : Nat) (h1 : f ≤ b) : St.count s f m = St.count t f m + if b < f + m then 1 else 0 := by
  induction m with
  | zero => rw [if_neg (by omega)]; rfl
  | succ m ih =>
    rw [count_succ, count_succ, ih]
    by_cases e : f + m = b
    · have a1 : (if b < f + m then 1 else 0) = (0 : Nat) := if_neg (by omega)
      have a2 : (if b < f + (m + 1) then 1 else 0) = (1 : Nat) := if_pos (by omega)
      rw [a1, a2, e, hb, ht]
      rfl
    · have a1 : (if b < f + m then 1 else 0) = (if b < f + (m + 1) then 1 else 0 : Nat) := by split <;> split <;> omega
      rw [he _ e, a1]
      omega
theorem free_put {s : St} {b : Nat} (hb : b < s.n) (c : UInt16) (hc : c ≠ 0) (j : Nat) : (s.put b c).free j = if j = b then false else s.free j := by
  unfold St.free
  rw [cnt_put hb, was_put]
  by_cases e : j = b
  · rw [if_pos e, if_pos e]
    have : (c == 0) = false := by simpa using hc
    rw [this]
    rfl
  · rw [if_neg e, if_neg e]
theorem one_ne {s : St} {b : Nat} (h : s.free b = true) : s.cnt b + 1 = 1 := by rw [cnt_free h]; rfl
theorem free_took {q : Q} {b : Nat} (h : q.Found b) (j : Nat) : (q.took b).s.free j = if j = b then false else q.s.free j := by
  show (q.s.put b (q.s.cnt b + 1)).free j = _
  rw [one_ne h.2.1]
  exact free_put h.1 1 (by decide) j
theorem n_took (q : Q) (b : Nat) : (q.took b).s.n = q.s.n := n_put _ _ _
theorem room_took {q : Q} (hok : q.Ok) {b : Nat} (h : q.Found b) : q.room = (q.took b).room + 1 := by
  have h1 := h.lo hok
  have h2 := h.1
  unfold Q.room
  rw [n_took]
  show St.count q.s q.first (q.s.n - q.first) = St.count (q.took b).s q.first (q.s.n - q.first) + 1
  rw [count_but h.2.1 (by rw [free_took h, if_pos rfl]) (fun j e => by rw [free_took h, if_neg e]) q.first (q.s.n - q.first) h1, if_pos (by omega)]
theorem cnt_took {q : Q} {b : Nat} (h : q.Found b) : (q.took b).s.cnt b = 1 := by
  show (q.s.put b (q.s.cnt b + 1)).cnt b = 1
  rw [cnt_put h.1, if_pos rfl, one_ne h.2.1]
/-- The block that is looked at first is free. -/
theorem found_next {q : Q} (h : q.next < q.s.n) (hf : q.s.free q.next = true) : q.Found q.next := ⟨h, hf, .inl ⟨Nat.le_refl _, fun j h1 h2 => absurd h2 (by have : q.lo 0 = q.next := rfl; omega)⟩⟩
section
variable {w : World} {p a cb mb c : Nat} {q q' : Q}
theorem take_found (h : PAt w p a cb mb c q) (b : Nat) (hs : q.Found b) (hq : q.took b = q') :
    Calls Try.prog 15 #[.pointer (some ⟨p, 0, none⟩)] w fun e w' => e = .returned (.tuple #[.int .i64 (b : Int), .int .i64 0]) ∧ PAt w' p a cb mb c q' ∧ But3 w w' cb mb p := by
  subst hq
  refine (take_at h).mono fun e w' ⟨d, ok, h1, h2, h3, h4⟩ => ?_
  obtain ⟨rfl, rfl⟩ := look_one h2 (show q.Look b true from hs)
  exact ⟨h1, h3, h4⟩
theorem take_none (h : PAt w p a cb mb c q) (hs : q.room = 0) :
    Calls Try.prog 15 #[.pointer (some ⟨p, 0, none⟩)] w fun e w' => e = .returned (.tuple #[.int .i64 0, .int .i64 90]) ∧ PAt w' p a cb mb c q ∧ But3 w w' cb mb p := by
  refine (take_at h).mono fun e w' ⟨d, ok, h1, h2, h3, h4⟩ => ?_
  obtain ⟨rfl, rfl⟩ := look_one h2 (show q.Look 0 false from ⟨rfl, (room_zero h.ok).1 hs⟩)
  exact ⟨h1, h3, h4⟩
/-- There is room: some block is handed out. -/
theorem take_some (h : PAt w p a cb mb c q) (hs : 0 < q.room) :
    Calls Try.prog 15 #[.pointer (some ⟨p, 0, none⟩)] w fun e w' => ∃ b, e = .returned (.tuple #[.int .i64 ((b : Nat) : Int), .int .i64 0]) ∧ q.Found b ∧ PAt w' p a cb mb c (q.took b) ∧ But3 w w' cb mb p := by
  refine (take_at h).mono fun e w' ⟨d, ok, h1, h2, h3, h4⟩ => ?_
  obtain rfl : ok = true := (look_room h.ok h2).trans (decide_eq_true hs)
  exact ⟨d, h1, h2, h3, h4⟩
end

/-! ### Counts of which the first ones are one -/
theorem free_new {n j : Nat} : (St.new n).free j = true := by unfold St.free; rw [cnt_new, was_new]; rfl
/-- The first k of n have x as count, all others y; the kept counts are z. -/
def row (n k : Nat) (x y z : UInt16) : St := ⟨(List.range n).map fun i => if i < k then x else y, List.replicate n z⟩
section
variable (n k : Nat) (x y z : UInt16)
theorem n_row : (row n k x y z).n = n := by simp [row, St.n]
theorem cnt_row {n j : Nat} (k : Nat) (x y z : UInt16) (h : j < n) : (row n k x y z).cnt j = if j < k then x else y := by simp [row, St.cnt, h]
theorem was_row {n j : Nat} (k : Nat) (x y z : UInt16) (h : j < n) : (row n k x y z).was j = z := by simp [row, St.was, h]
theorem row_ok (h1 : 1 ≤ n) (h2 : n ≤ 4096) : (row n k x y z).Ok := ⟨by simp [row], by simpa [row] using h1, by simpa [row] using h2⟩
theorem row_put (h : k < n) : (row n k x y z).put k x = row n (k + 1) x y z := by
  unfold row St.put
  congr 1
  refine List.ext_getElem (by simp) fun i h1 h2 => ?_
  rw [List.getElem_set]
  simp only [List.getElem_map, List.getElem_range]
  by_cases e : k = i
  · subst e; simp
  · by_cases e2 : i < k
    · simp [e, e2, show i < k + 1 by omega]
    · simp [e, e2, show ¬ i < k + 1 by omega]
theorem row_zero : row n 0 x y z = ⟨List.replicate n y, List.replicate n z⟩ := by
  unfold row
  congr 1
  refine List.ext_getElem (by simp) fun i h1 h2 => by simp
theorem row_full : row n n x y z = ⟨List.replicate n x, List.replicate n z⟩ := by
  unfold row
  congr 1
  refine List.ext_getElem (by simp) fun i h1 h2 => ?_
  simp at h1
  simp [h1]
theorem row_new : row n 0 1 0 0 = St.new n := row_zero n 1 0 0
end
theorem free_row {n j : Nat} (k : Nat) (x y z : UInt16) (h : j < n) : (row n k x y z).free j = ((if j < k then x else y) == 0 && z == 0) := by
  unfold St.free
  rw [cnt_row k x y z h, was_row k x y z h]
/-- Behind k Takes of n blocks, from the first one on. -/
def taken (n k g : Nat) : Q := ⟨row n k 1 0 0, 0, if k = n then 0 else k, g⟩
theorem taken_ok {n k g : Nat} (h1 : 1 ≤ n) (h2 : n ≤ 4096) (hk : k ≤ n) (hg : g ≤ n) : (taken n k g).Ok :=
  ⟨row_ok n k 1 0 0 h1 h2, Nat.zero_le _, Nat.zero_le _, by show (if k = n then 0 else k) < (row n k 1 0 0).n ∨ _; rw [n_row]; split <;> omega, by show g ≤ (row n k 1 0 0).n; rw [n_row]; exact hg⟩
theorem taken_new (n g : Nat) (h : 1 ≤ n) : taken n 0 g = ⟨St.new n, 0, 0, g⟩ := by
  unfold taken
  rw [row_new, if_neg (by omega)]
theorem taken_found {n k g : Nat} (h : k < n) : (taken n k g).Found k := by
  have e : (taken n k g).next = k := by show (if k = n then 0 else k) = k; rw [if_neg (by omega)]
  have := @found_next (taken n k g) (by rw [e]; show k < (row n k 1 0 0).n; rw [n_row]; exact h) (by rw [e]; show (row n k 1 0 0).free k = true; rw [free_row k 1 0 0 h, if_neg (by omega)]; rfl)
  rwa [e] at this
theorem taken_took {n k g : Nat} (h : k < n) : (taken n k g).took k = taken n (k + 1) g := by
  have hc : (row n k 1 0 0).cnt k + 1 = 1 := by rw [cnt_row k 1 0 0 h, if_neg (by omega)]; rfl
  show Q.mk ((row n k 1 0 0).put k ((row n k 1 0 0).cnt k + 1)) 0 (if k + 1 = (row n k 1 0 0).n then 0 else k + 1) g = Q.mk (row n (k + 1) 1 0 0) 0 (if k + 1 = n then 0 else k + 1) g
  rw [hc, row_put n k 1 0 0 h, n_row]
theorem taken_room (n g : Nat) : (taken n n g).room = 0 := by
  unfold Q.room
  rw [count_zero]
  intro j _ h
  have hn : (taken n n g).s.n = n := n_row _ _ _ _ _
  have h0 : (taken n n g).first = 0 := rfl
  rw [hn, h0] at h
  have hj : j < n := by omega
  show (row n n 1 0 0).free j = false
  rw [free_row n 1 0 0 hj, if_pos hj]
  rfl
theorem new_room (n f m g : Nat) : (Q.mk (St.new n) f m g).room = n - f := by
  show St.count (St.new n) f ((St.new n).n - f) = n - f
  rw [n_new]
  exact count_all _ _ _ fun j _ _ => free_new
end Go.Proofs.Ytlemjegngnfanaa.Pk

