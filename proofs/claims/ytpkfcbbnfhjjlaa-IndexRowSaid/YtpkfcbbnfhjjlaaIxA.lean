/- Words for index: numbers of 16 bits in memory, their bytes, the page of numbers. No function of the program is named. -/
import Derived.Test.YtpkfcbbnfhjjlaaSfA
import Derived.Test.YtpkfcbbnfhjjlaaOctP
namespace Go.Proofs.Ytpkfcbbnfhjjlaa.Ix
open Go.RowKit Go.Proofs.Ytpkfcbbnfhjjlaa.Oct Go.Proofs.Ytpkfcbbnfhjjlaa.Sf
set_option linter.unusedVariables false

theorem u16_lt (x : UInt16) : x.toNat < 65536 := x.toNat_lt
/-- Numbers of 16 bits as cells. -/
def wvals (l : List UInt16) : List Value := l.map fun n => .int .u16 (n.toNat : Int)
theorem length_wvals (l : List UInt16) : (wvals l).length = l.length := by simp [wvals]
theorem wvals_at (l : List UInt16) (i : Nat) (h : i < l.length) : (wvals l)[i]? = some (.int .u16 ((l[i]).toNat : Int)) := by simp [wvals, h]
theorem wvals_append (x y : List UInt16) : wvals (x ++ y) = wvals x ++ wvals y := by simp [wvals]
theorem wvals_set (x : List UInt16) (i : Nat) (v : UInt16) : (wvals x).set i (.int .u16 (v.toNat : Int)) = wvals (x.set i v) := by simp [wvals, List.map_set]
/-- A slice's numbers are told. -/
structure Wd (w : World) (A : Option Addr) (n c : Nat) (l : List UInt16) : Prop where
  el : l.length = n
  kc : n ≤ c
  km : c ≤ maxLen
  ws : ToldV w A (wvals l)
theorem Wd.below {w w' : World} {A : Option Addr} {n c : Nat} {l : List UInt16} (h : Wd w A n c l) (k : Below w.heap.size w w') : Wd w' A n c l := ⟨h.el, h.kc, h.km, h.ws.below k⟩
theorem Wd.still {w w' : World} {A : Option Addr} {n c : Nat} {l : List UInt16} (h : Wd w A n c l) (S : Still w w') : Wd w' A n c l := ⟨h.el, h.kc, h.km, h.ws.still S⟩
theorem Wd.at {w : World} {A : Option Addr} {n c k : Nat} {l : List UInt16} (h : Wd w A n c l) (hk : k < n) :
    ∃ b o, A = some ⟨b, o, none⟩ ∧ b < w.heap.size ∧ w.cell? ⟨b, o + k, none⟩ = some (.int .u16 ((l[k]'(by rw [h.el]; exact hk)).toNat : Int)) := by
  have hl := length_wvals l
  have he := h.el
  obtain ⟨b, o, rfl, hb⟩ := h.ws.has (by omega)
  exact ⟨b, o, rfl, hb.lt (by omega), hb.cellAt (wvals_at l k (by omega))⟩
theorem wd_nil (w : World) (c : Nat) (h : c ≤ maxLen) : Wd w none 0 c [] := ⟨rfl, Nat.zero_le _, h, .inl rfl⟩

/-! ### Bytes -/
def nbytes : List UInt16 → List UInt8
  | [] => []
  | n :: l => bytesOf n.toNat 2 ++ nbytes l
theorem length_nbytes (l : List UInt16) : (nbytes l).length = 2 * l.length := by
  induction l with
  | nil => rfl
  | cons n l ih => simp [nbytes, length_bytesOf, ih]; omega
theorem nbytes_snoc (l : List UInt16) (n : UInt16) : nbytes (l ++ [n]) = nbytes l ++ bytesOf n.toNat 2 := by
  induction l with
  | nil => simp [nbytes]
  | cons x l ih => simp [nbytes, ih]
def idxBody (l : List UInt16) : List UInt8 := bytesOf l.length 1 ++ nbytes l
theorem length_body (l : List UInt16) : (idxBody l).length = 1 + 2 * l.length := by simp [idxBody, length_bytesOf, length_nbytes]
def full (P : List UInt8) : List UInt8 := P ++ List.replicate (123 - P.length) 0
theorem length_full (P : List UInt8) (h : P.length ≤ 123) : (full P).length = 123 := by simp [full]; omega
theorem full_put (P X : List UInt8) (s : Nat) (hX : X.length = s) (h : P.length + s ≤ 123) : (full P).take P.length ++ X ++ (full P).drop (P.length + s) = full (P ++ X) := by
  unfold full
  rw [List.take_append_of_le_length (Nat.le_refl _), List.take_length, List.drop_append, List.drop_of_length_le (by omega), List.nil_append, List.length_append, hX, List.drop_replicate]
  congr 2
  omega
theorem page_full (k : UInt8) (bs : List UInt8) (h : bs.length ≤ 123) : page k (full bs) = page k bs := by
  have e : face k (full bs) = face k bs := by
    unfold face full
    rw [List.length_append, List.length_replicate, show 123 - (bs.length + (123 - bs.length)) = 0 by omega, List.replicate_zero, List.append_nil]
  unfold page
  rw [e]
def idxPage (k : UInt8) (l : List UInt16) : List UInt8 := page k (idxBody l)
theorem length_idxPage (k : UInt8) (l : List UInt16) (h : l.length ≤ 61) : (idxPage k l).length = 128 := length_page _ _ (by rw [length_body]; omega)
/-- Which numbers have a page of that kind. -/
def Fit (k : UInt8) (l : List UInt16) : Prop := (k = 4 ∨ k = 5) ∧ l.length ≤ 61
instance (k : UInt8) (l : List UInt16) : Decidable (Fit k l) := by unfold Fit; infer_instance

/-! ### What a body tells -/
def cAt (bs : List UInt8) : Nat := num (bs.take 1)
def wAt (bs : List UInt8) (j : Nat) : UInt16 := UInt16.ofNat (num ((bs.drop (1 + 2 * j)).take 2))
def bodyIn (ps : List UInt8) : List UInt8 := (ps.drop 1).take 123
/-- The numbers that stand there: so many as are told, and fit. -/
def wIn (ps : List UInt8) : List UInt16 := (List.range (min (cAt (bodyIn ps)) 61)).map (wAt (bodyIn ps))
/-- The page is one of that kind. -/
def Holds (k : UInt8) (ps : List UInt8) : Prop := ps.length = 128 ∧ Oct.Good ps ∧ (k = 4 ∨ k = 5) ∧ idxPage k (wIn ps) = ps
theorem length_wIn (ps : List UInt8) : (wIn ps).length = min (cAt (bodyIn ps)) 61 := by simp [wIn]
theorem wIn_le (ps : List UInt8) : (wIn ps).length ≤ 61 := by rw [length_wIn]; omega

theorem num_u16 (bs : List UInt8) (h : bs.length = 2) : (UInt16.ofNat (num bs)).toNat = num bs := by
  have := num_lt bs; rw [h] at this; simp; omega
theorem num_take1 (n : Nat) (h : n < 256) (x : List UInt8) : num ((bytesOf n 1 ++ x).take 1) = n := by
  rw [List.take_append_of_le_length (by simp [length_bytesOf]), List.take_of_length_le (by simp [length_bytesOf]), num_bytesOf]
  simpa using h
theorem drop_past (a b : List UInt8) (n k : Nat) (h : a.length = n) : (a ++ b).drop (n + k) = b.drop k := by
  subst h
  simp
theorem drop_nbytes (l : List UInt16) (j : Nat) (h : j < l.length) (x : List UInt8) : ((nbytes l ++ x).drop (2 * j)).take 2 = bytesOf (l[j]).toNat 2 := by
  induction l generalizing j with
  | nil => simp at h
  | cons n l ih =>
    cases j with
    | zero =>
      simp only [nbytes, Nat.mul_zero, List.drop_zero, List.append_assoc, List.getElem_cons_zero]
      rw [List.take_append_of_le_length (by rw [length_bytesOf]; exact Nat.le_refl _), List.take_of_length_le (by rw [length_bytesOf]; exact Nat.le_refl _)]
    | succ j =>
      have e : (bytesOf n.toNat 2).length = 2 := length_bytesOf 2 _
      simp only [nbytes, List.append_assoc, List.getElem_cons_succ]
      rw [show 2 * (j + 1) = 2 + 2 * j by omega, drop_past _ _ 2 _ e]
      exact ih j (by simpa using h)
theorem wAt_body (l : List UInt16) (j : Nat) (h : j < l.length) (x : List UInt8) : wAt (idxBody l ++ x) j = l[j] := by
  unfold wAt idxBody
  have e : (bytesOf l.length 1).length = 1 := length_bytesOf 1 _
  rw [List.append_assoc, drop_past _ _ 1 _ e, drop_nbytes l j h x, num_bytesOf]
  apply UInt16.toNat_inj.1
  have := u16_lt l[j]
  simp
theorem bodyIn_page (k : UInt8) (l : List UInt16) (h : l.length ≤ 61) : bodyIn (idxPage k l) = full (idxBody l) := by
  unfold bodyIn idxPage
  rw [page_body k _ (by rw [length_body]; omega)]
  rfl
theorem wIn_page (k : UInt8) (l : List UInt16) (h : l.length ≤ 61) : wIn (idxPage k l) = l := by
  have hc : cAt (bodyIn (idxPage k l)) = l.length := by
    rw [bodyIn_page k l h]
    unfold cAt full idxBody
    rw [List.append_assoc]
    exact num_take1 _ (by omega) _
  unfold wIn
  rw [hc, bodyIn_page k l h]
  apply List.ext_getElem
  · simp; omega
  · intro i h1 h2
    simp only [List.getElem_map, List.getElem_range]
    exact wAt_body l i h2 _
theorem holds_page (k : UInt8) (l : List UInt16) (h : l.length ≤ 61) (hk : k = 4 ∨ k = 5) : Holds k (idxPage k l) :=
  ⟨length_idxPage k l h, page_good k _ (by rw [length_body]; omega), hk, by rw [wIn_page k l h]⟩
theorem page_head (k : UInt8) (l : List UInt16) : (idxPage k l).head? = some k := rfl
theorem holds_kind {k j : UInt8} {l : List UInt16} (h : Holds k (idxPage j l)) : k = j := by
  have := congrArg List.head? h.2.2.2
  rw [page_head, page_head] at this
  exact Option.some.inj this
theorem page_inj {k : UInt8} {l m : List UInt16} (h1 : l.length ≤ 61) (h2 : m.length ≤ 61) (h : idxPage k l = idxPage k m) : l = m := by
  rw [← wIn_page k l h1, h, wIn_page k m h2]
end Go.Proofs.Ytpkfcbbnfhjjlaa.Ix
