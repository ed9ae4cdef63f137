/- What is encoded is decoded; entries that a call owns; the contract of wrong, catchmentlaw04's own. -/
import Derived.Test.YtamibckpkhpmfaaSfL
namespace Go.Proofs.Ytamibckpkhpmfaa.Sf
open Go.RowKit Go.Proofs.Ytamibckpkhpmfaa.Oct
set_option linter.unusedVariables false

theorem ebytes_drop (es : List Ent) (j : Nat) (hj : j ≤ es.length) : (ebytes es).drop (12 * j) = ebytes (es.drop j) := by
  induction j generalizing es with
  | zero => simp
  | succ j ih =>
    cases es with
    | nil => simp at hj
    | cons e es =>
      simp only [ebytes, List.drop_succ_cons]
      rw [← ih es (by simpa using hj), List.drop_append, List.drop_of_length_le (by simp [length_bytesOf]; omega)]
      simp only [List.length_append, length_bytesOf, List.nil_append]
      rw [show 12 * (j + 1) - (8 + 4) = 12 * j by omega]
theorem full_take (d : UInt8) (nx : UInt32) (es : List Ent) (R : List UInt8) : (fullBody d nx es) = bytesOf d.toNat 1 ++ (bytesOf es.length 1 ++ (bytesOf nx.toNat 4 ++ (ebytes es ++ List.replicate (123 - (shelfBody d nx es).length) 0))) := by
  unfold fullBody shelfBody head
  simp [List.append_assoc]
theorem dAt_full (d : UInt8) (nx : UInt32) (es : List Ent) : dAt (fullBody d nx es) = d := by
  unfold dAt
  rw [full_take d nx es [], List.take_append_of_le_length (by rw [length_bytesOf]; omega), List.take_of_length_le (by rw [length_bytesOf]; omega), num_bytesOf]
  have := u8_le d
  rw [Nat.mod_eq_of_lt (by omega)]
  simp
theorem cAt_full (d : UInt8) (nx : UInt32) (es : List Ent) (h : es.length ≤ 9) : cAt (fullBody d nx es) = es.length := by
  unfold cAt
  rw [full_take d nx es [], List.drop_append, List.drop_of_length_le (by rw [length_bytesOf]; omega), List.nil_append, length_bytesOf, Nat.sub_self, List.drop_zero, List.take_append_of_le_length (by rw [length_bytesOf]; omega), List.take_of_length_le (by rw [length_bytesOf]; omega), num_bytesOf]
  exact Nat.mod_eq_of_lt (by omega)
theorem nAt_full (d : UInt8) (nx : UInt32) (es : List Ent) : nAt (fullBody d nx es) = nx := by
  unfold nAt
  rw [full_take d nx es [], ← List.append_assoc, List.drop_append, List.drop_of_length_le (by simp [length_bytesOf]), List.nil_append]
  rw [show 2 - (bytesOf d.toNat 1 ++ bytesOf es.length 1).length = 0 by simp [length_bytesOf], List.drop_zero, List.take_append_of_le_length (by rw [length_bytesOf]; omega), List.take_of_length_le (by rw [length_bytesOf]; omega), num_bytesOf]
  have := u32_lt nx
  rw [Nat.mod_eq_of_lt (by omega)]
  simp
theorem full_drop (d : UInt8) (nx : UInt32) (es : List Ent) (j : Nat) (hj : j ≤ es.length) : (fullBody d nx es).drop (6 + 12 * j) = ebytes (es.drop j) ++ List.replicate (123 - (shelfBody d nx es).length) 0 := by
  unfold fullBody shelfBody
  rw [List.append_assoc, List.drop_append, List.drop_of_length_le (by rw [length_head]; omega), List.nil_append, length_head, show 6 + 12 * j - 6 = 12 * j by omega, List.drop_append_of_le_length (by rw [length_ebytes]; omega), ebytes_drop _ _ hj]
theorem eAt_full (d : UInt8) (nx : UInt32) (es : List Ent) (j : Nat) (hj : j < es.length) : eAt (fullBody d nx es) j = es[j] := by
  have h1 : ((fullBody d nx es).drop (6 + 12 * j)).take 8 = bytesOf es[j].1.toNat 8 := by
    rw [full_drop d nx es j (by omega), List.drop_eq_getElem_cons hj]
    simp only [ebytes]
    rw [List.append_assoc, List.append_assoc, List.take_append_of_le_length (by rw [length_bytesOf]; omega), List.take_of_length_le (by rw [length_bytesOf]; omega)]
  have h2 : ((fullBody d nx es).drop (14 + 12 * j)).take 4 = bytesOf es[j].2.toNat 4 := by
    rw [show 14 + 12 * j = (6 + 12 * j) + 8 by omega, ← List.drop_drop, full_drop d nx es j (by omega), List.drop_eq_getElem_cons hj]
    simp only [ebytes]
    rw [List.append_assoc, List.append_assoc, List.drop_append, List.drop_of_length_le (by rw [length_bytesOf]; omega), List.nil_append, length_bytesOf, Nat.sub_self, List.drop_zero, List.take_append_of_le_length (by rw [length_bytesOf]; omega), List.take_of_length_le (by rw [length_bytesOf]; omega)]
  unfold eAt
  rw [h1, h2, num_bytesOf, num_bytesOf]
  have := u64_lt es[j].1
  have := u32_lt es[j].2
  rw [Nat.mod_eq_of_lt (by have e : (256 : Nat) ^ 8 = 18446744073709551616 := by decide
                           omega), Nat.mod_eq_of_lt (by omega)]
  simp
theorem body_in (d : UInt8) (nx : UInt32) (es : List Ent) (h : es.length ≤ 9) : bodyIn (shelfPage d nx es) = fullBody d nx es := by
  unfold bodyIn shelfPage fullBody
  exact page_body _ _ (by rw [length_body]; omega)
theorem d_in (d : UInt8) (nx : UInt32) (es : List Ent) (h : es.length ≤ 9) : dIn (shelfPage d nx es) = d := by unfold dIn; rw [body_in d nx es h, dAt_full]
theorem n_in (d : UInt8) (nx : UInt32) (es : List Ent) (h : es.length ≤ 9) : nIn (shelfPage d nx es) = nx := by unfold nIn; rw [body_in d nx es h, nAt_full]
theorem c_in (d : UInt8) (nx : UInt32) (es : List Ent) (h : es.length ≤ 9) : cIn (shelfPage d nx es) = es.length := by unfold cIn; rw [body_in d nx es h, cAt_full d nx es h]
theorem e_in (d : UInt8) (nx : UInt32) (es : List Ent) (h : es.length ≤ 9) : eIn (shelfPage d nx es) = es := by
  unfold eIn
  rw [c_in d nx es h, body_in d nx es h]
  apply List.ext_getElem
  · simp
  · intro i h1 h2
    simp only [List.getElem_map, List.getElem_range]
    exact eAt_full d nx es i h2
theorem length_shelfPage (d : UInt8) (nx : UInt32) (es : List Ent) (h : es.length ≤ 9) : (shelfPage d nx es).length = 128 := length_page _ _ (by rw [length_body]; omega)
theorem good_shelfPage (d : UInt8) (nx : UInt32) (es : List Ent) (h : es.length ≤ 9) : Oct.Good (shelfPage d nx es) := page_good _ _ (by rw [length_body]; omega)
theorem fit_len {d : UInt8} {nx : UInt32} {es : List Ent} (h : Fit d nx es) : es.length ≤ 9 := h.2.2.1
theorem holds_page {d : UInt8} {nx : UInt32} {es : List Ent} (hf : Fit d nx es) : Holds (shelfPage d nx es) := by
  have h := fit_len hf
  refine ⟨length_shelfPage d nx es h, good_shelfPage d nx es h, ?_, ?_, ?_⟩
  · rw [c_in d nx es h]; exact h
  · rw [d_in d nx es h, n_in d nx es h, e_in d nx es h]; exact hf
  · rw [d_in d nx es h, n_in d nx es h, e_in d nx es h]
/-- Unlike shelves have unlike pages. -/
theorem page_inj {d d' : UInt8} {nx nx' : UInt32} {es es' : List Ent} (h : Fit d nx es) (h' : Fit d' nx' es') (e : shelfPage d nx es = shelfPage d' nx' es') : Same d d' nx nx' es es' := by
  refine ⟨?_, ?_, ?_⟩
  · rw [← d_in d nx es (fit_len h), e, d_in _ _ _ (fit_len h')]
  · rw [← n_in d nx es (fit_len h), e, n_in _ _ _ (fit_len h')]
  · rw [← e_in d nx es (fit_len h), e, e_in _ _ _ (fit_len h')]

/-- Behind a Decode of a shelf's page. -/
structure Dec (w : World) (d : UInt8) (nx : UInt32) (es : List Ent) (e : Ending) (w' : World) (n g : Nat) : Prop where
  e : e = .returned (.tuple #[.agg #[.int .u8 (d.toNat : Int), .int .u32 (nx.toNat : Int), .slice (some ⟨g, 0, none⟩) n n], .int .i64 0])
  row : RowV w' g 40 (evals es)
  lo : w.heap.size ≤ g
  below : Below w.heap.size w w'
  len : es.length = n
  small : n ≤ 9
theorem Dec.sh {w w' : World} {d : UInt8} {nx : UInt32} {es : List Ent} {e : Ending} {n g : Nat} (h : Dec w d nx es e w' n g) : Sh w' (some ⟨g, 0, none⟩) n n es := ⟨h.len, Nat.le_refl _, by have := h.small; unfold maxLen; omega, h.row.has.told⟩

theorem decode_page {d : UInt8} {nx : UInt32} {es : List Ent} (hf : Fit d nx es) (n : Nat) (hn : es.length = n) (b o cap : Nat) (w : World) (hb : Has w b o (shelfPage d nx es)) (hc : 128 ≤ cap) (hm : cap ≤ maxLen) :
    Calls Try.prog 12 #[.slice (some ⟨b, o, none⟩) 128 cap] w fun e w' => ∃ g, Dec w d nx es e w' n g := by
  have h := fit_len hf
  refine (decode_good b o cap _ w hb (length_shelfPage d nx es h) hc hm (good_shelfPage d nx es h)).mono ?_
  rintro e w' (⟨_, g, D⟩ | ⟨hno, _⟩)
  · have he := D.e
    have hk := D.es
    rw [d_in d nx es h, n_in d nx es h, c_in d nx es h, hn] at he
    rw [e_in d nx es h] at hk
    exact ⟨g, he, hk, D.lo, D.below, hn, by omega⟩
  · exact absurd (holds_page hf) hno

theorem decode_any (a : Option Addr) (len cap : Nat) (ps : List UInt8) (hlen : ps.length = len) (hc : len ≤ cap) (hm : cap ≤ maxLen) (w : World) (hb : Oct.Told w a ps) :
    Calls Try.prog 12 #[.slice a len cap] w (fun e w' => (Holds ps ∧ ∃ g, DecYes w ps e w' g) ∨ (¬ Holds ps ∧ DecNo w e w')) := by
  by_cases h128 : len = 128
  · subst h128
    rcases hb with h0 | ⟨b, o, rfl, hb⟩
    · subst h0; simp at hlen
    · by_cases hg : Oct.Good ps
      · exact decode_good b o cap ps w hb hlen hc hm hg
      · exact (decode_sum b o cap ps w hb hlen hc hm hg).mono fun e w' h => .inr ⟨fun hh => hg hh.2.1, h⟩
  · exact (decode_len a len cap w h128 (Nat.le_trans hc hm)).mono fun e w' h => .inr ⟨fun hh => h128 (by rw [← hlen, hh.1]), h⟩

theorem wrong_any (d : UInt8) (nx : UInt32) {w : World} {A : Option Addr} {n c : Nat} {es : List Ent} (h : Sh w A n c es) (hf : ¬ Fit d nx es) :
    Calls Try.prog 18 #[.int .u8 (d.toNat : Int), .int .u32 (nx.toNat : Int), .slice A n c] w fun e w' => e = .returned (.bool true) ∧ Below w.heap.size w w' := by
  have HD := Lib.hid h
  have HF := Lib.hid hf
  clear h hf
  go_enter Try.func18, Try.ntmps18
  go_wp2_with fail
  refine (encode_no d nx HD.out HF.out).mono ?_
  rintro e w2 ⟨rfl, B2⟩
  go_wp2_with fail
  go_ret
  exact ⟨rfl, B2⟩

/-! ### Entries that a call owns -/
theorem evals_one (es : List Ent) : ∀ u ∈ evals es, u.oneCell' = true := by
  induction es with
  | nil => intro u hu; simp [evals] at hu
  | cons e es ih =>
    intro u hu
    simp only [evals, List.mem_cons] at hu
    rcases hu with rfl | rfl | hu
    · rfl
    · rfl
    · exact ih u hu
def OwnE (w : World) (base : Nat) (v : Value) (es : List Ent) : Prop := w.ownsRow base 40 2 v es.length (evals es)
theorem OwnE.nil (w : World) (base : Nat) : OwnE w base (.slice none 0 0) [] := ⟨by simp [evals], .inl ⟨rfl, rfl⟩⟩
theorem OwnE.slice {w : World} {base : Nat} {v : Value} {es : List Ent} (h : OwnE w base v es) : ∃ A c, v = .slice A es.length c ∧ Sh w A es.length c es := by
  rcases h.2 with ⟨rfl, h0⟩ | ⟨g, cap, cur, rfl, hb, hg, hn, hm, hs, ht⟩
  · have : es = [] := List.eq_nil_of_length_eq_zero h0
    subst this
    exact ⟨none, 0, rfl, rfl, Nat.le_refl _, Nat.zero_le _, .inl rfl⟩
  · refine ⟨_, cap, rfl, rfl, hn, hm, HasV.told (b := g) (o := 0) fun i hi => ?_⟩
    rw [Nat.zero_add]
    have := World.ownsRow.cellAt h i (by rw [length_evals] at hi; omega)
    rw [this]
    simp [hi]
theorem OwnE.kept {w w' : World} {base B : Nat} {v : Value} {es : List Ent} (h : OwnE w base v es) (k : Below B w w') (hB : w.heap.size ≤ B) : OwnE w' base v es := by
  refine ⟨h.1, ?_⟩
  rcases h.2 with hn | ⟨g, cap, cur, rfl, hb, hgg, rest⟩
  · exact .inl hn
  · refine .inr ⟨g, cap, cur, rfl, hb, ?_, rest⟩
    rw [k.block g (Nat.lt_of_lt_of_le (Array.getElem?_eq_some_iff.1 hgg).1 hB)]
    exact hgg
theorem ent_info : (Try.prog.info? 40).map (fun i => (i.zero, i.size, i.bytes)) = some (some (.agg #[.int .u64 0, .int .u32 0]), 2, 16) := by kernel_rfl
theorem run_append_ents (w : World) (ty : TypeId) (base : Nat) (v : Value) (xs ys : List Ent) (hown : OwnE w base v xs) (x : Addr) (len cap : Nat) (hlen : ys.length = len) (hT : HasV w x.block x.off (evals ys)) (hx : x.spot = none)
    (hsz : xs.length + len ≤ 1000000) (hbase : base ≤ w.heap.size) :
    ∃ v' w', (Builtin.append_ #[23, 23] ty #[v, .slice (some x) len cap]).run Try.prog w = .ok v' w' ∧ OwnE w' base v' (xs ++ ys) ∧ Below base w w' := by
  obtain ⟨i0, hi, hz0, hz1, hz2⟩ := info_parts ent_info
  obtain ⟨b, o, sp⟩ := x
  obtain rfl : sp = none := hx
  have hnews : ∀ j u, (evals ys)[j]? = some u → w.cell? ((⟨b, o, none⟩ : Addr).add j) = some u := fun j u hj => by
    rw [add_plain]
    exact hT.cellAt hj
  obtain ⟨v', w', hr, ho, hg, _⟩ := run_append_own (P := Try.prog) w base 23 ty 40 i0 (.agg #[.int .u64 0, .int .u32 0]) 2 16 Try.underlying23 hi hz0 hz1 hz2 rfl (by omega) v xs.length (evals xs) hown ⟨b, o, none⟩ len cap (evals ys)
    (by rw [length_evals, hlen, Nat.mul_comm]) hnews (evals_one ys) (by unfold maxLen; omega) (by omega) hbase
  refine ⟨v', w', hr, ?_, ⟨hg.os, hg.tape, hg.output, hg.size, fun k hk => hg.block k (by omega) (fun e => ?_)⟩⟩
  · unfold OwnE
    rw [List.length_append, hlen, evals_append]
    exact ho
  · have := (World.ownsRow.lt hown k e.symm).1
    omega
end Go.Proofs.Ytamibckpkhpmfaa.Sf
