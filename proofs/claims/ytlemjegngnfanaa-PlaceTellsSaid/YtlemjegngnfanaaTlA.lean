/- A tally's plain state; what its map of kept counts says; a tally in memory. No function of the program is walked. -/
import Derived.Test.YtlemjegngnfanaaMv
import Derived.Maps.OwnSet
import Derived.Maps.RangeWalk
import Derived.Lib.SlKeysI
namespace Go.Proofs.Ytlemjegngnfanaa.Tl
open Go.RowKit Go.Proofs.Ytlemjegngnfanaa.Oct Go.Proofs.Ytlemjegngnfanaa.Mv Go.Maps
set_option linter.unusedVariables false

def num (c : UInt16) : Value := .int .u16 (c.toNat : Int)
def nums (l : List UInt16) : List Value := l.map num
theorem length_nums (l : List UInt16) : (nums l).length = l.length := by simp [nums]
theorem nums_at (l : List UInt16) (i : Nat) (h : i < l.length) : (nums l)[i]? = some (num (l.getD i 0)) := by simp [nums, h]
theorem nums_set (l : List UInt16) (i : Nat) (c : UInt16) : nums (l.set i c) = (nums l).set i (num c) := by simp [nums, List.map_set]
theorem u16_lt (c : UInt16) : c.toNat < 65536 := c.toNat_lt
theorem num_wf (c : UInt16) : (Lit.int .u16 (c.toNat : Int)).wf = true := by
  have := u16_lt c
  have h : IntKind.u16.min ≤ (c.toNat : Int) ∧ (c.toNat : Int) ≤ IntKind.u16.max := by
    refine ⟨?_, ?_⟩
    · show (0 : Int) ≤ _
      omega
    · show _ ≤ (65535 : Int)
      omega
  simpa [Lit.wf] using h

/-- A tally's plain state: the counts, and the kept ones. -/
structure St where
  now : List UInt16
  kept : List UInt16
def St.n (s : St) : Nat := s.now.length
def St.cnt (s : St) (i : Nat) : UInt16 := s.now.getD i 0
def St.was (s : St) (i : Nat) : UInt16 := s.kept.getD i 0
/-- Has a block changed? -/
def St.moved (s : St) (i : Nat) : Bool := s.cnt i != s.was i
def St.free (s : St) (i : Nat) : Bool := s.cnt i == 0 && s.was i == 0
def St.waits (s : St) (i : Nat) : Bool := s.cnt i == 0 && s.was i != 0
def St.keep (s : St) : St := ⟨s.now, s.now⟩
def St.back (s : St) : St := ⟨s.kept, s.kept⟩
def St.put (s : St) (i : Nat) (c : UInt16) : St := ⟨s.now.set i c, s.kept⟩
def St.frees (s : St) : Nat := (List.range s.n).countP s.free
def St.idle (s : St) : Nat := (List.range s.n).countP s.waits
def St.changed (s : St) : List Nat := (List.range s.n).filter s.moved
def St.new (n : Nat) : St := ⟨List.replicate n 0, List.replicate n 0⟩
def St.of (l : List UInt16) : St := ⟨l, l⟩
/-- As many kept counts as counts; 1 to 4096 of them. -/
structure St.Ok (s : St) : Prop where
  len : s.kept.length = s.now.length
  lo : 1 ≤ s.now.length
  hi : s.now.length ≤ 4096

theorem moved_lt {s : St} (h : s.Ok) {i : Nat} (hm : s.moved i = true) : i < s.n := by
  unfold St.n
  rcases Nat.lt_or_ge i s.now.length with h1 | h1
  · exact h1
  · have hl := h.len
    unfold St.moved St.cnt St.was at hm
    simp only [List.getD_eq_getElem?_getD] at hm
    rw [List.getElem?_eq_none h1, List.getElem?_eq_none (by omega)] at hm
    simp at hm
theorem cnt_put {s : St} {i : Nat} {c : UInt16} (hi : i < s.n) (j : Nat) : (s.put i c).cnt j = if j = i then c else s.cnt j := by
  unfold St.n at hi
  unfold St.put St.cnt
  simp only [List.getD_eq_getElem?_getD, List.getElem?_set]
  by_cases e : j = i
  · subst e
    simp [hi]
  · rw [if_neg (Ne.symm e), if_neg e]
theorem was_put (s : St) (i : Nat) (c : UInt16) (j : Nat) : (s.put i c).was j = s.was j := rfl
theorem n_put (s : St) (i : Nat) (c : UInt16) : (s.put i c).n = s.n := by simp [St.n, St.put]
theorem St.Ok.put {s : St} (h : s.Ok) (i : Nat) (c : UInt16) : (s.put i c).Ok := ⟨by simpa [St.put] using h.len, by simpa [St.put] using h.lo, by simpa [St.put] using h.hi⟩
theorem St.Ok.keep {s : St} (h : s.Ok) : s.keep.Ok := ⟨rfl, h.lo, h.hi⟩
theorem St.Ok.back {s : St} (h : s.Ok) : s.back.Ok := ⟨rfl, by show 1 ≤ s.kept.length; rw [h.len]; exact h.lo, by show s.kept.length ≤ 4096; rw [h.len]; exact h.hi⟩
theorem St.Ok.new {n : Nat} (h1 : 1 ≤ n) (h2 : n ≤ 4096) : (St.new n).Ok := ⟨by simp [St.new], by simpa [St.new] using h1, by simpa [St.new] using h2⟩
theorem St.Ok.of {l : List UInt16} (h1 : 1 ≤ l.length) (h2 : l.length ≤ 4096) : (St.of l).Ok := ⟨rfl, h1, h2⟩
theorem moved_same (l : List UInt16) (i : Nat) : (St.mk l l).moved i = false := by simp [St.moved, St.cnt, St.was]

/-! ### The map of kept counts -/
def key (i : Nat) : Lit := .int .i64 (i : Int)
def dat (c : UInt16) : DataW Unit := .lit (.int .u16 (c.toNat : Int))
theorem key_inj {i j : Nat} (h : key i = key j) : i = j := by
  simp only [key, Lit.int.injEq, true_and] at h
  omega
theorem dat_inj {a b : UInt16} (h : dat a = dat b) : a = b := by
  simp only [dat, DataW.lit.injEq, Lit.int.injEq, true_and] at h
  exact UInt16.toNat_inj.1 (by omega)
theorem key_lit (i : Nat) : WideAt.IsKeyLit (key i) := trivial
/-- What the map says: just the blocks that have changed, with their kept counts. -/
structure Says (D : DataW Unit) (s : St) : Prop where
  has : ∀ k, Maps.has D k = true ↔ ∃ i, k = key i ∧ s.moved i = true
  at' : ∀ i z, s.moved i = true → D.atKey (key i) z = dat (s.was i)
theorem Says.hasKey {D : DataW Unit} {s : St} (h : Says D s) (i : Nat) : Maps.has D (key i) = s.moved i := by
  cases hm : s.moved i
  · cases hh : Maps.has D (key i)
    · rfl
    · obtain ⟨j, e, hj⟩ := (h.has _).1 hh
      rw [key_inj e, hj] at hm
      cases hm
  · exact (h.has _).2 ⟨i, rfl, hm⟩
theorem says_none (l : List UInt16) : Says (.map []) ⟨l, l⟩ :=
  ⟨fun k => ⟨fun h => (by cases h), fun ⟨i, _, h⟩ => by rw [moved_same] at h; cases h⟩, fun i z h => by rw [moved_same] at h; cases h⟩
theorem moved_put {s : St} {i : Nat} {c : UInt16} (hi : i < s.n) (j : Nat) : (s.put i c).moved j = if j = i then c != s.was i else s.moved j := by
  unfold St.moved
  rw [cnt_put hi, was_put]
  by_cases e : j = i
  · subst e; simp
  · simp [e]
/-- An entry that stands there already. -/
theorem Says.old {D : DataW Unit} {s : St} (h : Says D s) {i : Nat} {c : UInt16} (hi : i < s.n) (hm : s.moved i = true) (hc : c ≠ s.was i) : Says D (s.put i c) := by
  have key : ∀ j, (s.put i c).moved j = s.moved j := fun j => by
    rw [moved_put hi]
    by_cases e : j = i
    · subst e; simp [hm, hc]
    · rw [if_neg e]
  exact ⟨fun k => by simp only [key]; exact h.has k, fun j z hj => by rw [key] at hj; exact h.at' j z hj⟩
/-- An entry more. -/
theorem Says.put {D : DataW Unit} {s : St} (h : Says D s) (hD : IsMap D) {i : Nat} {c : UInt16} (hi : i < s.n) (hm : s.moved i = false) (hc : c ≠ s.was i) : Says (D.put (key i) (dat (s.was i))) (s.put i c) := by
  refine ⟨fun k => ?_, fun j z hj => ?_⟩
  · by_cases e : k = key i
    · subst e
      rw [has_put_same hD (key_lit i)]
      simp only [true_iff]
      exact ⟨i, rfl, by rw [moved_put hi, if_pos rfl]; simp [hc]⟩
    · rw [has_put_other e, h.has]
      constructor
      · rintro ⟨j, rfl, hj⟩
        exact ⟨j, rfl, by rw [moved_put hi, if_neg (fun e' => e (by rw [e']))]; exact hj⟩
      · rintro ⟨j, rfl, hj⟩
        rw [moved_put hi, if_neg (fun e' => e (by rw [e']))] at hj
        exact ⟨j, rfl, hj⟩
  · rw [moved_put hi] at hj
    rw [was_put]
    by_cases e : j = i
    · subst e
      exact atKey_put_same hD (key_lit j) _ _
    · rw [if_neg e] at hj
      rw [atKey_put_other (fun e' => e (key_inj e'))]
      exact h.at' j z hj
/-- An entry less. -/
theorem Says.del {D : DataW Unit} {s : St} (h : Says D s) {i : Nat} (hi : i < s.n) : Says (D.del (key i)) (s.put i (s.was i)) := by
  refine ⟨fun k => ?_, fun j z hj => ?_⟩
  · by_cases e : k = key i
    · subst e
      rw [has_del_same]
      simp only [Bool.false_eq_true, false_iff]
      rintro ⟨j, e', hj⟩
      obtain rfl := key_inj e'
      rw [moved_put hi, if_pos rfl] at hj
      simp at hj
    · rw [has_del_other e, h.has]
      constructor
      · rintro ⟨j, rfl, hj⟩
        exact ⟨j, rfl, by rw [moved_put hi, if_neg (fun e' => e (by rw [e']))]; exact hj⟩
      · rintro ⟨j, rfl, hj⟩
        rw [moved_put hi, if_neg (fun e' => e (by rw [e']))] at hj
        exact ⟨j, rfl, hj⟩
  · rw [moved_put hi] at hj
    rw [was_put]
    by_cases e : j = i
    · subst e
      simp at hj
    · rw [if_neg e] at hj
      rw [atKey_del_other (fun e' => e (key_inj e'))]
      exact h.at' j z hj
/-- An entry put and struck again. -/
theorem del_put {D : DataW Unit} {s : St} (h : Says D s) {i : Nat} (hi : i < s.n) (hm : s.moved i = false) (d : DataW Unit) : Says ((D.put (key i) d).del (key i)) s := by
  refine ⟨fun k => ?_, fun j z hj => ?_⟩
  · by_cases e : k = key i
    · subst e
      rw [has_del_same]
      simp only [Bool.false_eq_true, false_iff]
      rintro ⟨j, e', hj⟩
      obtain rfl := key_inj e'
      rw [hm] at hj
      cases hj
    · rw [has_del_other e, has_put_other e, h.has]
  · have e : j ≠ i := fun e => by rw [e, hm] at hj; cases hj
    rw [atKey_del_other (fun e' => e (key_inj e')), atKey_put_other (fun e' => e (key_inj e'))]
    exact h.at' j z hj
theorem put_same {s : St} {i : Nat} {c : UInt16} (hi : i < s.n) (hc : c = s.cnt i) : s.put i c = s := by
  subst hc
  unfold St.n at hi
  unfold St.put St.cnt
  have : s.now.set i (s.now.getD i 0) = s.now := by
    apply List.ext_getElem?
    intro j
    rw [List.getElem?_set]
    by_cases e : i = j
    · subst e
      simp [hi]
    · rw [if_neg e]
  rw [this]

/-! ### A tally in memory -/
theorem law : Keyed Try.prog 3 := int_keyed Try.underlying3
theorem key_of (i : Nat) (hi : i ≤ 4096) : keyOf Try.prog 3 (.int .i64 (i : Int)) = some (key i) := keyOf_int_mk Try.underlying3 (WalkArith.wf_i64 (by omega))
theorem elem_of (c : UInt16) : plainElem (H := Unit) Try.prog 22 (num c) = some (dat c, []) := plainElem_int Try.underlying22 (num_wf c)
theorem zero_num (w : World) : (zeroValue 22).run Try.prog w = .ok (.int .u16 0) w := by kernel_rfl
/-- The map of kept counts, at block mb. -/
def Mp (w : World) (mb : Nat) (s : St) : Prop := ∃ nn D, w.ownsMap Try.prog 3 (plainElem Try.prog 22) mb nn D ∧ Says D s
def tcells (a cb mb n c : Nat) : List Value := [.slice (some ⟨cb, 0, none⟩) n c, .map (some mb), .pointer (some ⟨a, 0, none⟩)]
/-- A tally: its struct at a, its counts at cb (room for c of them), its map at mb. -/
structure At (w : World) (a cb mb c : Nat) (s : St) : Prop where
  row : RowV w a 80 (tcells a cb mb s.n c)
  nums : ∃ sp, RowV w cb 22 (nums s.now ++ sp)
  mp : Mp w mb s
  ok : s.Ok
  room : s.n ≤ c
  ne : a ≠ cb

theorem changed_perm {w : World} {mb nn : Nat} {s : St} {D : DataW Unit} (h : w.ownsMap Try.prog 3 (plainElem Try.prog 22) mb nn D) (hs : Says D s) (hok : s.Ok) :
    (s.changed.map fun i : Nat => (i : Int)).Perm (intKeys D) := by
  refine CollectedI.perm (left := fun _ => false) (k := 3) ⟨?_, fun x => ?_⟩ h law Try.underlying3 (fun _ => rfl)
  · unfold St.changed
    refine List.pairwise_map.2 (List.Pairwise.imp (fun {a b} (h : a < b) => ?_) (List.pairwise_lt_range.filter _))
    omega
  · simp only [List.mem_map, and_true]
    rw [hs.has]
    constructor
    · rintro ⟨i, hi, rfl⟩
      exact ⟨i, rfl, (List.mem_filter.1 hi).2⟩
    · rintro ⟨i, e, hm⟩
      simp only [key, Lit.int.injEq, true_and] at e
      exact ⟨i, List.mem_filter.2 ⟨List.mem_range.2 (moved_lt hok hm), hm⟩, e.symm⟩
theorem size_changed {w : World} {mb nn : Nat} {s : St} {D : DataW Unit} (h : w.ownsMap Try.prog 3 (plainElem Try.prog 22) mb nn D) (hs : Says D s) (hok : s.Ok) : Maps.size D = s.changed.length := by
  have := (changed_perm h hs hok).length_eq
  obtain ⟨es, rfl⟩ := h.isMap
  rw [List.length_map] at this
  rw [this]
  simp [Maps.size, intKeys]
theorem few_changed {s : St} (hok : s.Ok) : s.changed.length ≤ 4096 := by
  unfold St.changed
  have h1 := List.length_filter_le s.moved (List.range s.n)
  have h2 := hok.hi
  rw [List.length_range] at h1
  unfold St.n at *
  omega
theorem own_tight {w : World} {mb nn : Nat} {D : DataW Unit} (h : w.ownsMap Try.prog 3 (plainElem Try.prog 22) mb nn D) : w.ownsMap Try.prog 3 (plainElem Try.prog 22) mb (Maps.size D) D := by
  obtain ⟨es, clock, hb, F, hs, rfl⟩ := h
  exact ⟨es, clock, hb, F, by rw [Maps.size, length_read]; exact Nat.le_refl _, rfl⟩
theorem Mp.own {w : World} {mb : Nat} {s : St} (h : Mp w mb s) (hok : s.Ok) : ∃ D, w.ownsMap Try.prog 3 (plainElem Try.prog 22) mb 4096 D ∧ Says D s := by
  obtain ⟨nn, D, h1, h2⟩ := h
  exact ⟨D, (own_tight h1).mono (by rw [size_changed h1 h2 hok]; exact few_changed hok), h2⟩
theorem Mp.block {w w' : World} {mb : Nat} {s : St} (h : Mp w mb s) (k : w'.heap[mb]? = w.heap[mb]?) : Mp w' mb s := by
  obtain ⟨nn, D, ⟨es, clock, hb, F, hs, hD⟩, h2⟩ := h
  exact ⟨nn, D, ⟨es, clock, k.trans hb, F, hs, hD⟩, h2⟩
theorem Mp.lt {w : World} {mb : Nat} {s : St} (h : Mp w mb s) : mb < w.heap.size := by
  obtain ⟨_, _, h1, _⟩ := h
  exact h1.lt
theorem own_row {w : World} {mb nn g : Nat} {T : TypeId} {vs : List Value} {D : DataW Unit} (h : w.ownsMap Try.prog 3 (plainElem Try.prog 22) mb nn D) (k : RowV w g T vs) : g ≠ mb := by
  obtain ⟨es, clock, hb, _⟩ := h
  rintro rfl
  unfold RowV at k
  rw [hb] at k
  cases k
section
variable {w w' : World} {a cb mb c : Nat} {s : St}
theorem At.a_mb (h : At w a cb mb c s) : a ≠ mb := by obtain ⟨_, _, h1, _⟩ := h.mp; exact own_row h1 h.row
theorem At.cb_mb (h : At w a cb mb c s) : cb ≠ mb := by obtain ⟨_, _, h1, _⟩ := h.mp; obtain ⟨_, h2⟩ := h.nums; exact own_row h1 h2
theorem At.cb_lt (h : At w a cb mb c s) : cb < w.heap.size := by obtain ⟨_, h2⟩ := h.nums; exact h2.lt
theorem At.c0 (h : At w a cb mb c s) : w.cell? ⟨a, 0, none⟩ = some (.slice (some ⟨cb, 0, none⟩) s.n c) := h.row.cellAt rfl
theorem At.c1 (h : At w a cb mb c s) : w.cell? ⟨a, 1, none⟩ = some (.map (some mb)) := h.row.cellAt rfl
theorem At.c2 (h : At w a cb mb c s) : w.cell? ⟨a, 2, none⟩ = some (.pointer (some ⟨a, 0, none⟩)) := h.row.cellAt rfl
theorem At.count (h : At w a cb mb c s) {i : Nat} (hi : i < s.n) : w.cell? ⟨cb, i, none⟩ = some (.int .u16 ((s.cnt i).toNat : Int)) := by
  obtain ⟨sp, h2⟩ := h.nums
  refine h2.cellAt ?_
  rw [List.getElem?_append_left (by rw [length_nums]; exact hi)]
  exact nums_at _ _ hi
theorem row_count {w : World} {cb i : Nat} {s : St} {T : TypeId} {sp : List Value} (h : RowV w cb T (Tl.nums s.now ++ sp)) (hi : i < s.n) : w.cell? ⟨cb, i, none⟩ = some (.int .u16 ((s.cnt i).toNat : Int)) := by
  refine h.cellAt ?_
  rw [List.getElem?_append_left (by rw [length_nums]; exact hi)]
  exact nums_at _ _ hi
theorem row_put {w : World} {cb i : Nat} {s : St} {T : TypeId} {sp : List Value} (h : RowV w cb T (Tl.nums s.now ++ sp)) (hi : i < s.n) (x : UInt16) : RowV (w.setCell ⟨cb, i, none⟩ (.int .u16 (x.toNat : Int))) cb T (Tl.nums (s.put i x).now ++ sp) := by
  have := h.set i (num x)
  rw [List.set_append_left i (num x) (by rw [length_nums]; exact hi), ← nums_set] at this
  exact this
theorem At.free (h : At w a cb mb c s) (i : Nat) : w.frozen? ⟨cb, i, none⟩ = false := by obtain ⟨sp, h2⟩ := h.nums; exact h2.free i
theorem At.blocks (h : At w a cb mb c s) (k1 : w'.heap[a]? = w.heap[a]?) (k2 : w'.heap[cb]? = w.heap[cb]?) (k3 : w'.heap[mb]? = w.heap[mb]?) : At w' a cb mb c s :=
  ⟨h.row.block k1, (by obtain ⟨sp, h2⟩ := h.nums; exact ⟨sp, h2.block k2⟩), h.mp.block k3, h.ok, h.room, h.ne⟩
theorem At.kept (h : At w a cb mb c s) (k : Below w.heap.size w w') : At w' a cb mb c s := h.blocks (k.block _ h.row.lt) (k.block _ h.cb_lt) (k.block _ h.mp.lt)
theorem At.but (h : At w a cb mb c s) {p q : Nat} (k : But w w' p q) (h1 : a ≠ p) (h2 : a ≠ q) (h3 : cb ≠ p) (h4 : cb ≠ q) (h5 : mb ≠ p) (h6 : mb ≠ q) : At w' a cb mb c s :=
  h.blocks (k.block _ h.row.lt h1 h2) (k.block _ h.cb_lt h3 h4) (k.block _ h.mp.lt h5 h6)
end
end Go.Proofs.Ytlemjegngnfanaa.Tl

