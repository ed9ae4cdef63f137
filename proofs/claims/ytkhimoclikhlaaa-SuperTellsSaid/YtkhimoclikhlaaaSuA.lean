/- Words for super: a super as a list of 18 numbers and its cells; the 19 numbers of a body and their places; its page. No function of the program is named. -/
import Derived.Test.YtkhimoclikhlaaaSfA
import Derived.Test.YtkhimoclikhlaaaOctP
namespace Go.Proofs.Ytkhimoclikhlaaa.Su
open Go.RowKit Go.Proofs.Ytkhimoclikhlaaa.Oct Go.Proofs.Ytkhimoclikhlaaa.Sf
set_option linter.unusedVariables false

/-- A super: its generation, how many blocks, eight roots, eight marks. -/
abbrev Sup := List Nat
def nth (s : Sup) (j : Nat) : Nat := s.getD j 0
def scell (j n : Nat) : Value := if 1 ≤ j ∧ j < 10 then .int .u32 (n : Int) else .int .u64 (n : Int)
def scells (s : Sup) : List Value := (List.range 18).map fun j => scell j (nth s j)
def sval (s : Sup) : Value := .agg (scells s).toArray
theorem length_scells (s : Sup) : (scells s).length = 18 := by simp [scells]
theorem scells_at (s : Sup) (j : Nat) (h : j < 18) : (scells s)[j]? = some (scell j (nth s j)) := by simp [scells, h]
theorem scell_wide (j n : Nat) (h : j = 0 ∨ 10 ≤ j) : scell j n = .int .u64 (n : Int) := by unfold scell; rw [if_neg (by omega)]
theorem scell_small (j n : Nat) (h : 1 ≤ j) (h2 : j < 10) : scell j n = .int .u32 (n : Int) := by unfold scell; rw [if_pos ⟨h, h2⟩]
theorem scells_one (s : Sup) : ∀ v ∈ scells s, v.oneCell' = true := by
  intro v hv
  simp only [scells, List.mem_map] at hv
  obtain ⟨j, _, rfl⟩ := hv
  unfold scell
  split <;> rfl
structure Ok (s : Sup) : Prop where
  len : s.length = 18
  lt : ∀ j, nth s j < 18446744073709551616
  small : ∀ j, 1 ≤ j → j < 10 → nth s j < 4294967296
/-- Which supers are right. -/
def Fit (s : Sup) : Prop := 1 ≤ nth s 0 ∧ 16 ≤ nth s 1 ∧ nth s 1 ≤ 4096 ∧ ∀ i, i < 8 → nth s (2 + i) < nth s 1
instance (s : Sup) : Decidable (Fit s) := by unfold Fit; infer_instance
theorem sup_ext {s t : Sup} (hs : s.length = 18) (ht : t.length = 18) (h : ∀ j, j < 18 → nth s j = nth t j) : s = t := by
  apply List.ext_getElem
  · rw [hs, ht]
  · intro i h1 h2
    have := h i (by omega)
    simpa [nth, h1, h2] using this
theorem scell_inj {j a b : Nat} (h : scell j a = scell j b) : a = b := by
  unfold scell at h
  split at h
  · simp only [Value.int.injEq, true_and] at h; omega
  · simp only [Value.int.injEq, true_and] at h; omega
theorem scells_inj {s t : Sup} (hs : s.length = 18) (ht : t.length = 18) (h : scells s = scells t) : s = t := by
  refine sup_ext hs ht fun j hj => ?_
  have h1 := scells_at s j hj
  rw [h, scells_at t j hj] at h1
  exact (scell_inj (Option.some.inj h1)).symm
def zero18 : Sup := List.replicate 18 0
theorem ok_zero : Ok zero18 := ⟨rfl, fun j => by unfold nth zero18; rw [List.getD_eq_getElem?_getD, List.getElem?_replicate]; split <;> decide, fun j _ _ => by unfold nth zero18; rw [List.getD_eq_getElem?_getD, List.getElem?_replicate]; split <;> decide⟩
theorem unfit_zero : ¬ Fit zero18 := by decide

/-! ### The numbers of a body -/
def cont (s : Sup) (j : Nat) : Nat := if j = 18 then nth s 0 else nth s j
def size (j : Nat) : Nat := if 1 ≤ j ∧ j < 10 then 4 else 8
def pos (j : Nat) : Nat := if j = 0 then 0 else if j = 1 then 8 else if j < 10 then 12 + 4 * (j - 2) else if j < 18 then 44 + 8 * (j - 10) else 115
def cvals (f : Nat → Nat) : List Value := (List.range 19).map fun j => .int .u64 (f j : Int)
theorem length_cvals (f : Nat → Nat) : (cvals f).length = 19 := by simp [cvals]
theorem cvals_at (f : Nat → Nat) (j : Nat) (h : j < 19) : (cvals f)[j]? = some (.int .u64 (f j : Int)) := by simp [cvals, h]
theorem cvals_one (f : Nat → Nat) : ∀ v ∈ cvals f, v.oneCell' = true := by
  intro v hv
  simp only [cvals, List.mem_map] at hv
  obtain ⟨j, _, rfl⟩ := hv
  rfl
def upd (f : Nat → Nat) (j v : Nat) : Nat → Nat := fun k => if k = j then v else f k
theorem cvals_set (f : Nat → Nat) (j v : Nat) : (cvals f).set j (.int .u64 (v : Int)) = cvals (upd f j v) := by
  apply List.ext_getElem
  · simp [cvals]
  · intro i h1 h2
    rw [List.getElem_set]
    simp only [cvals, List.getElem_map, List.getElem_range, upd]
    by_cases h : j = i
    · subst h; simp
    · rw [if_neg h, if_neg (fun e => h e.symm)]
/-- A body of 19 numbers, piece by piece. -/
def pieces (f : Nat → Nat) : List (List UInt8) :=
  [bytesOf (f 0) 8, bytesOf (f 1) 4, bytesOf (f 2) 4, bytesOf (f 3) 4, bytesOf (f 4) 4, bytesOf (f 5) 4, bytesOf (f 6) 4, bytesOf (f 7) 4, bytesOf (f 8) 4, bytesOf (f 9) 4,
   bytesOf (f 10) 8, bytesOf (f 11) 8, bytesOf (f 12) 8, bytesOf (f 13) 8, bytesOf (f 14) 8, bytesOf (f 15) 8, bytesOf (f 16) 8, bytesOf (f 17) 8, List.replicate 7 0, bytesOf (f 18) 8]
def cbody (f : Nat → Nat) : List UInt8 := (pieces f).flatten
theorem length_cbody (f : Nat → Nat) : (cbody f).length = 123 := by simp [cbody, pieces, length_bytesOf]
theorem cbody_zero : cbody (fun _ => 0) = List.replicate 123 0 := by decide
def off (L : List (List UInt8)) (j : Nat) : Nat := ((L.take j).map List.length).sum
theorem flat_put (L : List (List UInt8)) (j : Nat) (X : List UInt8) (s : Nat) (h : j < L.length) (hs : (L[j]).length = s) : L.flatten.take (off L j) ++ X ++ L.flatten.drop (off L j + s) = (L.set j X).flatten := by
  subst hs
  induction L generalizing j with
  | nil => simp at h
  | cons a L ih =>
    cases j with
    | zero => simp [off]
    | succ j =>
      have h' := ih j (by simpa using h)
      have e : off (a :: L) (j + 1) = a.length + off L j := by simp [off]
      rw [e, List.flatten_cons, List.take_length_add_append, Nat.add_assoc, List.drop_length_add_append, List.set_cons_succ, List.flatten_cons, ← h']
      simp [List.append_assoc]
theorem flat_get (L : List (List UInt8)) (j : Nat) (h : j < L.length) : (L.flatten.drop (off L j)).take (L[j]).length = L[j] := by
  induction L generalizing j with
  | nil => simp at h
  | cons a L ih =>
    cases j with
    | zero => simp [off]
    | succ j =>
      have h' := ih j (by simpa using h)
      have e : off (a :: L) (j + 1) = a.length + off L j := by simp [off]
      rw [e, List.flatten_cons, List.drop_length_add_append]
      exact h'
theorem cases19 {P : Nat → Prop} (j : Nat) (h : j < 19) (h0 : P 0) (h1 : P 1) (h2 : P 2) (h3 : P 3) (h4 : P 4) (h5 : P 5) (h6 : P 6) (h7 : P 7) (h8 : P 8) (h9 : P 9) (h10 : P 10) (h11 : P 11) (h12 : P 12) (h13 : P 13) (h14 : P 14) (h15 : P 15) (h16 : P 16) (h17 : P 17) (h18 : P 18) : P j := by
  match j, h with
  | 0, _ => exact h0
  | 1, _ => exact h1
  | 2, _ => exact h2
  | 3, _ => exact h3
  | 4, _ => exact h4
  | 5, _ => exact h5
  | 6, _ => exact h6
  | 7, _ => exact h7
  | 8, _ => exact h8
  | 9, _ => exact h9
  | 10, _ => exact h10
  | 11, _ => exact h11
  | 12, _ => exact h12
  | 13, _ => exact h13
  | 14, _ => exact h14
  | 15, _ => exact h15
  | 16, _ => exact h16
  | 17, _ => exact h17
  | 18, _ => exact h18
  | n + 19, h => exact absurd h (by omega)
def idx (j : Nat) : Nat := if j = 18 then 19 else j
theorem pieces_idx (f : Nat → Nat) (j : Nat) (h : j < 19) : (pieces f)[idx j]? = some (bytesOf (f j) (size j)) := by
  apply cases19 (P := fun j => (pieces f)[idx j]? = some (bytesOf (f j) (size j))) j h
  all_goals rfl
theorem pieces_off (f : Nat → Nat) (j : Nat) (h : j < 19) : off (pieces f) (idx j) = pos j := by
  apply cases19 (P := fun j => off (pieces f) (idx j) = pos j) j h
  all_goals simp [off, pieces, idx, pos, length_bytesOf]
theorem pieces_set (f : Nat → Nat) (j v : Nat) (h : j < 19) : (pieces f).set (idx j) (bytesOf v (size j)) = pieces (upd f j v) := by
  apply cases19 (P := fun j => (pieces f).set (idx j) (bytesOf v (size j)) = pieces (upd f j v)) j h
  all_goals simp [pieces, idx, upd, size]
theorem cbody_put (f : Nat → Nat) (j v : Nat) (h : j < 19) : (cbody f).take (pos j) ++ bytesOf v (size j) ++ (cbody f).drop (pos j + size j) = cbody (upd f j v) := by
  obtain ⟨h1, h2⟩ := List.getElem?_eq_some_iff.1 (pieces_idx f j h)
  have := flat_put (pieces f) (idx j) (bytesOf v (size j)) (size j) h1 (by rw [h2, length_bytesOf])
  rwa [pieces_off f j h, pieces_set f j v h] at this
theorem cbody_get (f : Nat → Nat) (j : Nat) (h : j < 19) : ((cbody f).drop (pos j)).take (size j) = bytesOf (f j) (size j) := by
  obtain ⟨h1, h2⟩ := List.getElem?_eq_some_iff.1 (pieces_idx f j h)
  have := flat_get (pieces f) (idx j) h1
  rwa [pieces_off f j h, h2, length_bytesOf] at this
theorem pos_size (j : Nat) (h : j < 19) : pos j + size j ≤ 123 := by
  unfold pos size; repeat' split
  all_goals omega
theorem size_range (j : Nat) : 1 ≤ size j ∧ size j ≤ 8 := by unfold size; split <;> omega
theorem cont_lt {s : Sup} (h : Ok s) (j : Nat) : cont s j < 256 ^ size j := by
  unfold cont size
  split
  · rename_i e; subst e; exact h.lt 0
  · split
    · rename_i e; exact h.small j e.1 e.2
    · exact h.lt j
theorem cont_lt64 {s : Sup} (h : Ok s) (j : Nat) : cont s j < 18446744073709551616 := by unfold cont; split <;> exact h.lt _

/-- In which order a body's numbers are told. -/
def order : List (Fin 19) := [0, 1, 2, 10, 3, 11, 4, 12, 5, 13, 6, 14, 7, 15, 8, 16, 9, 17, 18]
/-- Those of a list have their number, all others are noughts. -/
def told (l : List (Fin 19)) (f : Nat → Nat) : Nat → Nat := fun k => if l.any (fun x => x.val == k) then f k else 0
theorem told_nil (f : Nat → Nat) : told [] f = fun _ => 0 := rfl
theorem told_snoc (l : List (Fin 19)) (f : Nat → Nat) (x : Fin 19) : told (l ++ [x]) f = upd (told l f) x.val (f x.val) := by
  funext k
  unfold told upd
  by_cases h : k = x.val
  · subst h; simp
  · rw [if_neg h, List.any_append]
    have : ([x].any fun y => y.val == k) = false := by simp; exact fun e => h e.symm
    rw [this, Bool.or_false]
theorem told_order (f : Nat → Nat) (k : Nat) (h : k < 19) : told order f k = f k := by
  unfold told
  rw [if_pos]
  exact cases19 (P := fun k => (order.any fun x => x.val == k) = true) k h (by decide) (by decide) (by decide) (by decide) (by decide) (by decide) (by decide) (by decide) (by decide) (by decide) (by decide) (by decide) (by decide) (by decide) (by decide) (by decide) (by decide) (by decide) (by decide)
theorem cbody_order (f : Nat → Nat) : cbody (told order f) = cbody f := by
  unfold cbody pieces
  repeat rw [told_order f _ (by decide)]
theorem cvals_order (f : Nat → Nat) : cvals (told order f) = cvals f := by
  unfold cvals
  apply List.map_congr_left
  intro j hj
  rw [told_order f j (by simpa using hj)]
theorem cvals_congr {f g : Nat → Nat} (h : ∀ j, j < 19 → f j = g j) : cvals f = cvals g := by
  unfold cvals
  apply List.map_congr_left
  intro j hj
  rw [h j (by simpa using hj)]

/-! ### The page -/
def supPage (s : Sup) : List UInt8 := page 6 (cbody (cont s))
theorem length_supPage (s : Sup) : (supPage s).length = 128 := length_page _ _ (by rw [length_cbody]; exact Nat.le_refl _)
def bodyIn (ps : List UInt8) : List UInt8 := (ps.drop 1).take 123
/-- The number that stands in a body at a place. -/
def rd (bs : List UInt8) (j : Nat) : Nat := num ((bs.drop (pos j)).take (size j))
/-- What a page tells. -/
def sIn (ps : List UInt8) : Sup := (List.range 18).map (rd (bodyIn ps))
theorem rd_lt (bs : List UInt8) (j : Nat) : rd bs j < 256 ^ size j := by
  unfold rd
  refine Nat.lt_of_lt_of_le (num_lt _) (Nat.pow_le_pow_right (by decide) ?_)
  simp; omega
theorem rd_lt64 (bs : List UInt8) (j : Nat) : rd bs j < 18446744073709551616 := by
  have h := rd_lt bs j
  have h2 : 256 ^ size j ≤ 256 ^ 8 := Nat.pow_le_pow_right (by decide) (size_range j).2
  have h3 : (256 : Nat) ^ 8 = 18446744073709551616 := by decide
  omega
theorem rd_small (bs : List UInt8) (j : Nat) (h1 : 1 ≤ j) (h2 : j < 10) : rd bs j < 4294967296 := by
  have h := rd_lt bs j
  unfold size at h
  rw [if_pos ⟨h1, h2⟩] at h
  exact h
theorem nth_sIn (ps : List UInt8) (j : Nat) (h : j < 18) : nth (sIn ps) j = rd (bodyIn ps) j := by simp [nth, sIn, h]
theorem nth_over {s : Sup} (hs : s.length = 18) (j : Nat) (h : ¬ j < 18) : nth s j = 0 := by
  unfold nth
  rw [List.getD_eq_getElem?_getD, List.getElem?_eq_none (by omega)]
  rfl
theorem length_sIn (ps : List UInt8) : (sIn ps).length = 18 := by simp [sIn]
theorem ok_sIn (ps : List UInt8) : Ok (sIn ps) := by
  refine ⟨length_sIn ps, fun j => ?_, fun j h1 h2 => ?_⟩
  · by_cases h : j < 18
    · rw [nth_sIn ps j h]; exact rd_lt64 _ _
    · rw [nth_over (length_sIn ps) j h]; decide
  · rw [nth_sIn ps j (by omega)]; exact rd_small _ _ h1 h2
theorem bodyIn_page (s : Sup) : bodyIn (supPage s) = cbody (cont s) := by
  unfold bodyIn supPage
  rw [page_body 6 _ (by rw [length_cbody]; exact Nat.le_refl _), length_cbody]
  simp
theorem sIn_page {s : Sup} (h : Ok s) : sIn (supPage s) = s := by
  refine sup_ext (length_sIn _) h.len fun j hj => ?_
  rw [nth_sIn _ j hj, bodyIn_page]
  unfold rd
  rw [cbody_get _ j (by omega), num_bytesOf, Nat.mod_eq_of_lt (cont_lt h j)]
  unfold cont
  rw [if_neg (by omega)]
/-- The page is one of a right super. -/
def Holds (ps : List UInt8) : Prop := ps.length = 128 ∧ Oct.Good ps ∧ Fit (sIn ps) ∧ supPage (sIn ps) = ps
theorem holds_page {s : Sup} (h : Ok s) (hf : Fit s) : Holds (supPage s) :=
  ⟨length_supPage s, page_good 6 _ (by rw [length_cbody]; exact Nat.le_refl _), by rw [sIn_page h]; exact hf, by rw [sIn_page h]⟩
theorem page_inj {s t : Sup} (hs : Ok s) (ht : Ok t) (h : supPage s = supPage t) : s = t := by
  rw [← sIn_page hs, h, sIn_page ht]
theorem holds_iff {ps : List UInt8} : Holds ps ↔ ∃ s, Ok s ∧ Fit s ∧ ps = supPage s :=
  ⟨fun h => ⟨sIn ps, ok_sIn ps, h.2.2.1, h.2.2.2.symm⟩, fun ⟨s, h1, h2, h3⟩ => h3 ▸ holds_page h1 h2⟩
end Go.Proofs.Ytkhimoclikhlaaa.Su
