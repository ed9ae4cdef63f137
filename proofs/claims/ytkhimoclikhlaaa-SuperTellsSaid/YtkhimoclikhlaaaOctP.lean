/- Pages: what is sealed is opened; with one byte changed a page is none. Plain mathematics and the contracts of Open at such pages. -/
import Derived.Test.YtkhimoclikhlaaaOctG
namespace Go.Proofs.Ytkhimoclikhlaaa.Oct
open Go.RowKit
set_option linter.unusedVariables false
theorem add_ne (c d : UInt8) (hd : d.toNat ≠ 0) : c + d ≠ c := fun h => by
  have h2 : (c + d).toNat = c.toNat := by rw [h]
  rw [UInt8.toNat_add] at h2
  have := u8_lt c
  have := u8_lt d
  omega
/-- 128 bytes whose last four are the sum of the others. -/
def Good (ps : List UInt8) : Prop := num (ps.drop 124) = sum (ps.take 124)
theorem page_take (k : UInt8) (bs : List UInt8) (h : bs.length ≤ 123) : (page k bs).take 124 = face k bs := by
  have hf := length_face k bs h
  unfold page
  rw [List.take_append_of_le_length (by omega), List.take_of_length_le (by omega)]
theorem page_drop (k : UInt8) (bs : List UInt8) (h : bs.length ≤ 123) : (page k bs).drop 124 = bytesOf (sum (face k bs)) 4 := by
  have hf := length_face k bs h
  unfold page
  rw [List.drop_append_of_le_length (by omega), List.drop_of_length_le (by omega), List.nil_append]
theorem page_good (k : UInt8) (bs : List UInt8) (h : bs.length ≤ 123) : Good (page k bs) := by
  unfold Good
  rw [page_take k bs h, page_drop k bs h, num_bytesOf]
  have := sum_lt (face k bs)
  exact Nat.mod_eq_of_lt (by omega)
theorem page_body (k : UInt8) (bs : List UInt8) (h : bs.length ≤ 123) : ((page k bs).drop 1).take 123 = bs ++ List.replicate (123 - bs.length) 0 := by
  unfold page face
  rw [List.cons_append, List.drop_succ_cons, List.drop_zero, List.take_append_of_le_length (by simp; omega), List.take_of_length_le (by simp; omega)]
theorem page_kind (k : UInt8) (bs : List UInt8) (h : 0 < (page k bs).length) : (page k bs)[0] = k := rfl
theorem num_inj (x y : List UInt8) (hl : x.length = y.length) (h : num x = num y) : x = y := by
  rw [← bytesOf_num x, ← bytesOf_num y, h, hl]
theorem sum_set (l : List UInt8) (i : Nat) (h : i < l.length) (c : UInt8) (hc : c ≠ l[i]) : sum (l.set i c) ≠ sum l := by
  intro e
  rw [set_split l i h c] at e
  have e2 : sum (l.take i ++ c :: l.drop (i + 1)) = sum (l.take i ++ l[i] :: l.drop (i + 1)) := by rw [e, ← get_split l i h]
  exact hc (sum_change _ _ _ _ e2)
theorem bad_set (ps : List UInt8) (hl : ps.length = 128) (h : Good ps) (i : Nat) (hi : i < ps.length) (c : UInt8) (hc : c ≠ ps[i]) : ¬ Good (ps.set i c) := by
  unfold Good at h ⊢
  by_cases h1 : i < 124
  · rw [List.drop_set_of_lt (by omega), h, List.take_set]
    exact fun e => sum_set (ps.take 124) i (by simp; omega) c (by rw [List.getElem_take]; exact hc) e.symm
  · rw [List.take_set_of_le (by omega), List.drop_set, if_neg (by omega), ← h]
    intro e
    have e2 := num_inj _ _ (by simp) e
    have e3 : ((ps.drop 124).set (i - 124) c)[i - 124]? = (ps.drop 124)[i - 124]? := by rw [e2]
    rw [List.getElem?_set_self (by simp; omega), List.getElem?_drop, show 124 + (i - 124) = i by omega, List.getElem?_eq_getElem hi] at e3
    exact hc (Option.some.inj e3)
theorem open_page (b o cap : Nat) (k : UInt8) (bs : List UInt8) (hk : bs.length ≤ 123) (w : World) (hb : Has w b o (page k bs)) (hc : 128 ≤ cap) (hm : cap ≤ maxLen) :
    Calls Try.prog 30 #[.slice (some ⟨b, o, none⟩) 128 cap] w (OpenPost w k (bs ++ List.replicate (123 - bs.length) 0)) := by
  have h := open_good b o cap (page k bs) w hb (length_page k bs hk) hc hm (page_good k bs hk)
  rwa [page_body k bs hk, page_kind] at h
theorem open_changed (b o cap : Nat) (k : UInt8) (bs : List UInt8) (hk : bs.length ≤ 123) (i : Nat) (hi : i < (page k bs).length) (c : UInt8) (hne : c ≠ (page k bs)[i]) (w : World) (hb : Has w b o ((page k bs).set i c)) (hc : 128 ≤ cap) (hm : cap ≤ maxLen) :
    Calls Try.prog 30 #[.slice (some ⟨b, o, none⟩) 128 cap] w fun e w' => e = .returned (.tuple #[.int .u8 0, .slice none 0 0, .int .i64 10]) ∧ Still w w' :=
  open_bad b o cap _ w hb (by rw [List.length_set, length_page k bs hk]) hc hm (bad_set _ (length_page k bs hk) (page_good k bs hk) i hi c hne)
end Go.Proofs.Ytkhimoclikhlaaa.Oct
