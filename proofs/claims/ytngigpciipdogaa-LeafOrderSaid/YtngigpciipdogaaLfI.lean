/- What is encoded is decoded; the contracts of refused and of awake, catchmentlaw03's own. -/
import Derived.Test.YtngigpciipdogaaLfH
namespace Go.Proofs.Ytngigpciipdogaa.Lf
open Go.RowKit Go.Proofs.Ytngigpciipdogaa.Oct
set_option linter.unusedVariables false

theorem pairs_drop (ks vs : List UInt64) (h : ks.length = vs.length) (j : Nat) (hj : j ≤ ks.length) : (pairs ks vs).drop (16 * j) = pairs (ks.drop j) (vs.drop j) := by
  induction j generalizing ks vs with
  | zero => simp
  | succ j ih =>
    cases ks with
    | nil => simp at hj
    | cons k ks =>
      cases vs with
      | nil => simp at h
      | cons v vs =>
        simp only [pairs, List.drop_succ_cons]
        rw [← ih ks vs (by simpa using h) (by simpa using hj), List.drop_append, List.drop_of_length_le (by simp [length_bytesOf]; omega)]
        simp only [List.length_append, length_bytesOf, List.nil_append]
        rw [show 16 * (j + 1) - (8 + 8) = 16 * j by omega]
theorem full_drop (ks vs : List UInt64) (h : vs.length = ks.length) (j : Nat) (hj : j ≤ ks.length) : (fullBody ks vs).drop (1 + 16 * j) = pairs (ks.drop j) (vs.drop j) ++ List.replicate (123 - (nodeBody ks vs).length) 0 := by
  unfold fullBody nodeBody
  rw [List.append_assoc, List.drop_append, List.drop_of_length_le (by rw [length_bytesOf]; omega), List.nil_append, length_bytesOf, show 1 + 16 * j - 1 = 16 * j by omega, List.drop_append_of_le_length (by rw [length_pairs _ _ h.symm]; omega), pairs_drop _ _ h.symm _ hj]
theorem num_u64 (x : UInt64) : UInt64.ofNat (num (bytesOf x.toNat 8)) = x := by
  rw [num_bytesOf, Nat.mod_eq_of_lt (by have := u64_lt x; have e : (256 : Nat) ^ 8 = 18446744073709551616 := by decide
                                        omega)]
  simp
theorem kAt_full (ks vs : List UInt64) (h : vs.length = ks.length) (j : Nat) (hj : j < ks.length) : kAt (fullBody ks vs) j = ks[j] := by
  unfold kAt
  rw [full_drop ks vs h j (by omega), List.drop_eq_getElem_cons hj, List.drop_eq_getElem_cons (by omega : j < vs.length)]
  simp only [pairs]
  rw [List.append_assoc, List.append_assoc, List.take_append_of_le_length (by rw [length_bytesOf]; omega), List.take_of_length_le (by rw [length_bytesOf]; omega), num_u64]
theorem vAt_full (ks vs : List UInt64) (h : vs.length = ks.length) (j : Nat) (hj : j < ks.length) : vAt (fullBody ks vs) j = vs[j]'(by omega) := by
  unfold vAt
  rw [show 9 + 16 * j = (1 + 16 * j) + 8 by omega, ← List.drop_drop, full_drop ks vs h j (by omega), List.drop_eq_getElem_cons hj, List.drop_eq_getElem_cons (by omega : j < vs.length)]
  simp only [pairs]
  rw [List.append_assoc, List.append_assoc, List.drop_append, List.drop_of_length_le (by rw [length_bytesOf]; omega), List.nil_append, length_bytesOf, Nat.sub_self, List.drop_zero, List.take_append_of_le_length (by rw [length_bytesOf]; omega), List.take_of_length_le (by rw [length_bytesOf]; omega), num_u64]
theorem cAt_full (ks vs : List UInt64) (h7 : ks.length ≤ 7) : (cAt (fullBody ks vs)).toNat = ks.length := by
  unfold cAt fullBody nodeBody
  rw [List.drop_zero, List.append_assoc, List.take_append_of_le_length (by rw [length_bytesOf]; omega), List.take_of_length_le (by rw [length_bytesOf]; omega), num_bytesOf]
  simp
  omega
theorem body_in (l : Bool) (ks vs : List UInt64) (h : vs.length = ks.length) (h7 : ks.length ≤ 7) : bodyIn (nodePage l ks vs) = fullBody ks vs := by
  unfold bodyIn nodePage fullBody
  exact page_body _ _ (by rw [length_nodeBody ks vs h]; omega)
theorem leaf_in (l : Bool) (ks vs : List UInt64) : leafIn (nodePage l ks vs) = l := by
  cases l <;> rfl
theorem keys_in (l : Bool) (ks vs : List UInt64) (h : vs.length = ks.length) (h7 : ks.length ≤ 7) : keysIn (nodePage l ks vs) = ks := by
  unfold keysIn
  rw [body_in l ks vs h h7, cAt_full ks vs h7, upTo_seven _ _ h7]
  apply List.ext_getElem
  · simp
  · intro i h1 h2
    simp only [List.getElem_map, List.getElem_range]
    exact kAt_full ks vs h i h2
theorem vals_in (l : Bool) (ks vs : List UInt64) (h : vs.length = ks.length) (h7 : ks.length ≤ 7) : valsIn (nodePage l ks vs) = vs := by
  unfold valsIn
  rw [body_in l ks vs h h7, cAt_full ks vs h7, upTo_seven _ _ h7]
  apply List.ext_getElem
  · simp [h]
  · intro i h1 h2
    simp only [List.getElem_map, List.getElem_range]
    exact vAt_full ks vs h i (by omega)
theorem length_nodePage (l : Bool) (ks vs : List UInt64) (h : vs.length = ks.length) (h7 : ks.length ≤ 7) : (nodePage l ks vs).length = 128 := length_page _ _ (by rw [length_nodeBody ks vs h]; omega)
theorem good_nodePage (l : Bool) (ks vs : List UInt64) (h : vs.length = ks.length) (h7 : ks.length ≤ 7) : Oct.Good (nodePage l ks vs) := page_good _ _ (by rw [length_nodeBody ks vs h]; omega)
theorem holds_page (l : Bool) (ks vs : List UInt64) (hf : Fit l ks vs) : Holds (nodePage l ks vs) := by
  have h := hf.2.1
  have h7 := hf.1
  refine ⟨length_nodePage l ks vs h h7, good_nodePage l ks vs h h7, ?_, ?_, ?_⟩
  · rw [body_in l ks vs h h7, cAt_full ks vs h7]; exact h7
  · rw [leaf_in, keys_in l ks vs h h7, vals_in l ks vs h h7]; exact hf
  · rw [leaf_in, keys_in l ks vs h h7, vals_in l ks vs h h7]
/-- Unlike nodes have unlike pages. -/
theorem page_inj {l l' : Bool} {ks vs ks' vs' : List UInt64} (h : Fit l ks vs) (h' : Fit l' ks' vs') (e : nodePage l ks vs = nodePage l' ks' vs') : l = l' ∧ ks = ks' ∧ vs = vs' := by
  refine ⟨?_, ?_, ?_⟩
  · rw [← leaf_in l ks vs, e, leaf_in]
  · rw [← keys_in l ks vs h.2.1 h.1, e, keys_in _ _ _ h'.2.1 h'.1]
  · rw [← vals_in l ks vs h.2.1 h.1, e, vals_in _ _ _ h'.2.1 h'.1]

/-- Behind a Decode of a node's page. -/
structure Dec (w : World) (l : Bool) (ks vs : List UInt64) (e : Ending) (w' : World) (n g g' : Nat) : Prop where
  e : e = .returned (.tuple #[.agg #[.bool l, .slice (some ⟨g, 0, none⟩) n n, .slice (some ⟨g', 0, none⟩) n n], .int .i64 0])
  ks : RowN w' g 28 ks
  vs : RowN w' g' 28 vs
  lo : w.heap.size ≤ g
  lo' : w.heap.size ≤ g'
  ne : g ≠ g'
  below : Below w.heap.size w w'

theorem decode_page (l : Bool) (ks vs : List UInt64) (hf : Fit l ks vs) (n : Nat) (hn : ks.length = n) (b o cap : Nat) (w : World) (hb : Has w b o (nodePage l ks vs)) (hc : 128 ≤ cap) (hm : cap ≤ maxLen) :
    Calls Try.prog 10 #[.slice (some ⟨b, o, none⟩) 128 cap] w fun e w' => ∃ g g', Dec w l ks vs e w' n g g' := by
  have h := hf.2.1
  have h7 := hf.1
  refine (decode_good b o cap _ w hb (length_nodePage l ks vs h h7) hc hm (good_nodePage l ks vs h h7)).mono ?_
  rintro e w' (⟨_, g, g', D⟩ | ⟨hno, _⟩)
  · have he := D.e
    have hk := D.ks
    have hv := D.vs
    rw [leaf_in, keys_in l ks vs h h7, hn] at he
    rw [keys_in l ks vs h h7] at hk
    rw [vals_in l ks vs h h7] at hv
    exact ⟨g, g', he, hk, hv, D.lo, D.lo', D.ne, D.below⟩
  · exact absurd (holds_page l ks vs hf) hno

theorem decode_any (a : Option Addr) (len cap : Nat) (ps : List UInt8) (hlen : ps.length = len) (hc : len ≤ cap) (hm : cap ≤ maxLen) (w : World) (hb : Oct.Told w a ps) :
    Calls Try.prog 10 #[.slice a len cap] w (fun e w' => (Holds ps ∧ ∃ g g', DecYes w ps e w' g g') ∨ (¬ Holds ps ∧ DecNo w e w')) := by
  by_cases h128 : len = 128
  · subst h128
    rcases hb with h0 | ⟨b, o, rfl, hb⟩
    · subst h0; simp at hlen
    · by_cases hg : Oct.Good ps
      · exact decode_good b o cap ps w hb hlen hc hm hg
      · exact (decode_sum b o cap ps w hb hlen hc hm hg).mono fun e w' h => .inr ⟨fun hh => hg hh.2.1, h⟩
  · exact (decode_len a len cap w h128 (Nat.le_trans hc hm)).mono fun e w' h => .inr ⟨fun hh => h128 (by rw [← hlen, hh.1]), h⟩

theorem refused_any (l : Bool) {w : World} {A B : Option Addr} {n c m d : Nat} {ks vs : List UInt64} (h : Nd w A n c B m d ks vs) (hn : n ≤ 1000) (hm : m ≤ 1000) (hf : ¬ Fit l ks vs) :
    Calls Try.prog 12 #[.bool l, .slice A n c, .slice B m d] w fun e w' => e = .returned (.bool true) ∧ Below w.heap.size w w' := by
  have HD := Lib.hid h
  have HF := Lib.hid hf
  clear h hf
  go_enter Try.func12, Try.ntmps12
  go_wp2_with fail
  refine (encode_no l HD.out hn hm HF.out).mono ?_
  rintro e w2 ⟨rfl, B2⟩
  go_wp2_with fail
  go_ret
  exact ⟨rfl, B2⟩

theorem has_at {w : World} {g i : Nat} {bs : List UInt8} {c : UInt8} (h : Has w g 0 bs) (hc : bs[i]? = some c) : w.cell? ⟨g, i, none⟩ = some (.int .u8 (c.toNat : Int)) := by
  obtain ⟨hi, e⟩ := List.getElem?_eq_some_iff.1 hc
  have := h i hi
  rw [Nat.zero_add, e] at this
  exact this
theorem lit_one (w : World) (x : UInt64) : RowN (w.alloc (.cells #[.int .u64 (x.toNat : Int)] 28)) w.heap.size 28 [x] := alloc_rowN w 28 [x]
theorem nd_two (w : World) (x y : UInt64) : Nd ((w.alloc (.cells #[.int .u64 (x.toNat : Int)] 28)).alloc (.cells #[.int .u64 (y.toNat : Int)] 28)) (some ⟨w.heap.size, 0, none⟩) 1 1 (some ⟨w.heap.size + 1, 0, none⟩) 1 1 [x] [y] := by
  have R1 := lit_one w x
  have hs : (w.alloc (.cells #[.int .u64 (x.toNat : Int)] 28)).heap.size = w.heap.size + 1 := by simp
  generalize w.alloc (.cells #[.int .u64 (x.toNat : Int)] 28) = w1 at *
  have R2 := lit_one w1 y
  have R3 := R1.below R1.lt ((Below.refl w1.heap.size w1).alloc (Nat.le_refl _) (.cells #[.int .u64 (y.toNat : Int)] 28))
  rw [hs] at R2
  exact ⟨rfl, rfl, Nat.le_refl _, by decide, Nat.le_refl _, by decide, R3.has.told, R2.has.told⟩
theorem nd_rows (w : World) (xs ys : List UInt64) (hx : xs.length ≤ 8 := by decide) (hy : ys.length ≤ 8 := by decide) : Nd ((w.alloc (.cells (nvals xs).toArray 28)).alloc (.cells (nvals ys).toArray 28)) (some ⟨w.heap.size, 0, none⟩) xs.length xs.length (some ⟨w.heap.size + 1, 0, none⟩) ys.length ys.length xs ys := by
  have R1 := alloc_rowN w 28 xs
  have hs : (w.alloc (.cells (nvals xs).toArray 28)).heap.size = w.heap.size + 1 := by simp
  generalize w.alloc (.cells (nvals xs).toArray 28) = w1 at *
  have R2 := alloc_rowN w1 28 ys
  have R3 := R1.below R1.lt ((Below.refl w1.heap.size w1).alloc (Nat.le_refl _) (.cells (nvals ys).toArray 28))
  rw [hs] at R2
  exact ⟨rfl, rfl, Nat.le_refl _, by unfold maxLen; omega, Nat.le_refl _, by unfold maxLen; omega, R3.has.told, R2.has.told⟩
theorem nd_nil (w : World) : Nd w none 0 0 none 0 0 [] [] := ⟨rfl, rfl, Nat.le_refl _, Nat.zero_le _, Nat.le_refl _, Nat.zero_le _, .inl rfl, .inl rfl⟩

def eight : List UInt64 := [0, 1, 2, 3, 4, 5, 6, 7]
theorem nd_eight {w : World} {e : Nat} (R : RowN w e 28 eight) (k : Nat) (hk : k ≤ 8) (ys : List UInt64) (m : Nat) (hm : ys.length = m) (h8 : m ≤ 8) :
    Nd (w.alloc (.cells (nvals ys).toArray 28)) (some ⟨e, 0, none⟩) k 8 (some ⟨w.heap.size, 0, none⟩) m m (eight.take k) ys := by
  have b := (Below.refl w.heap.size w).alloc (Nat.le_refl _) (.cells (nvals ys).toArray 28)
  exact ⟨by simp [eight]; omega, hm, hk, by decide, Nat.le_refl _, by unfold maxLen; omega, ((R.below R.lt b).has.pre k).told, (alloc_rowN w 28 ys).has.told⟩
theorem fit59 : Fit true [5] [9] := by decide
theorem fit0 : Fit true [] [] := by decide

set_option maxRecDepth 100000 in
set_option maxHeartbeats 2000000 in
theorem awake_any (w : World) : Calls Try.prog 5 #[] w fun e w' => e = .returned (.bool true) ∧ Below w.heap.size w w' := by
  have N1 := Lib.hid (show Nd ((w.alloc (.cells #[.int .u64 5] 28)).alloc (.cells #[.int .u64 9] 28)) (some ⟨w.heap.size, 0, none⟩) 1 1 (some ⟨w.heap.size + 1, 0, none⟩) 1 1 [5] [9] from nd_two w 5 9)
  have b1 := (Below.refl w.heap.size w).alloc (Nat.le_refl _) (.cells #[.int .u64 5] 28)
  have BB := Lib.hid (b1.alloc b1.size (.cells #[.int .u64 9] 28))
  clear b1
  go_enter Try.func5, Try.ntmps5
  go_wp2_with fail
  refine (encode_yes true N1.out fit59).mono ?_
  rintro e w1 ⟨g1, rfl, F1⟩
  have B1 := BB.out.trans (F1.below.mono BB.out.size)
  go_wp2_with fail
  refine (encode_yes true (nd_nil _) fit0).mono ?_
  rintro e w2 ⟨g2, rfl, F2⟩
  have H1 : Has w2 g1 0 (nodePage true [5] [9]) := F1.has.below F1.hi F2.below
  have H2 : Has w2 g2 0 (nodePage true [] []) := F2.has
  have BB2 := Lib.hid (B1.trans (F2.below.mono B1.size))
  have c0 : w2.cell? ⟨g1, 0, none⟩ = some (.int .u8 1) := has_at H1 (i := 0) (c := 1) rfl
  have c1 : w2.cell? ⟨g1, 1, none⟩ = some (.int .u8 1) := has_at H1 (i := 1) (c := 1) rfl
  have c9 : w2.cell? ⟨g1, 9, none⟩ = some (.int .u8 5) := has_at H1 (i := 9) (c := 5) rfl
  have c17 : w2.cell? ⟨g1, 17, none⟩ = some (.int .u8 9) := has_at H1 (i := 17) (c := 9) rfl
  have c18 : w2.cell? ⟨g1, 18, none⟩ = some (.int .u8 0) := has_at H1 (i := 18) (c := 0) rfl
  have d0 : w2.cell? ⟨g2, 0, none⟩ = some (.int .u8 1) := has_at H2 (i := 0) (c := 1) rfl
  have d1 : w2.cell? ⟨g2, 1, none⟩ = some (.int .u8 0) := has_at H2 (i := 1) (c := 0) rfl
  have HH1 := Lib.hid H1
  clear F1 F2 B1 H1 H2
  go_wp2_with fail
  refine (decode_page true [5] [9] fit59 1 rfl g1 0 128 _ HH1.out (by decide) (by decide)).mono ?_
  rintro e w3 ⟨h1, h2, D⟩
  obtain rfl := D.e
  have BB3 := Lib.hid (BB2.out.trans (D.below.mono BB2.out.size))
  have hk := Lib.hid (And.intro D.ks D.vs)
  clear c0 c1 c9 c17 c18 d0 d1 D HH1
  have NA := Lib.hid (show Nd ((w3.alloc (.cells #[.bool true, .slice (some ⟨h1, 0, none⟩) 1 1, .slice (some ⟨h2, 0, none⟩) 1 1] 24)).alloc (.cells #[.int .u64 5] 28) |>.alloc (.cells #[.int .u64 9] 28)) (some ⟨h1, 0, none⟩) 1 1 (some ⟨h2, 0, none⟩) 1 1 [5] [9] from
    ((show Nd w3 (some ⟨h1, 0, none⟩) 1 1 (some ⟨h2, 0, none⟩) 1 1 [5] [9] from ⟨rfl, rfl, Nat.le_refl _, by decide, Nat.le_refl _, by decide, hk.out.1.has.told, hk.out.2.has.told⟩).boxed _ |>.boxed _ |>.boxed _))
  have NB := Lib.hid (nd_two (w3.alloc (.cells #[.bool true, .slice (some ⟨h1, 0, none⟩) 1 1, .slice (some ⟨h2, 0, none⟩) 1 1] 24)) 5 9)
  have hs3 : (w3.alloc (.cells #[.bool true, .slice (some ⟨h1, 0, none⟩) 1 1, .slice (some ⟨h2, 0, none⟩) 1 1] 24)).heap.size = w3.heap.size + 1 := by simp
  rw [hs3] at NB
  clear hs3
  have BB4 := Lib.hid (((BB3.out.alloc BB3.out.size (.cells #[.bool true, .slice (some ⟨h1, 0, none⟩) 1 1, .slice (some ⟨h2, 0, none⟩) 1 1] 24)).alloc (Nat.le_trans BB3.out.size (by simp)) (.cells #[.int .u64 5] 28)).alloc (Nat.le_trans BB3.out.size (by simp; omega)) (.cells #[.int .u64 9] 28))
  go_wp2_with fail
  refine (eqnodes_any true true NA.out NB.out (by decide) (by decide)).mono ?_
  rintro e w5 ⟨rfl, B5⟩
  have BB5 := Lib.hid (BB4.out.trans (B5.mono BB4.out.size))
  clear B5 NA NB BB4
  go_wp2_with fail
  have R6 := alloc_rowN w5 28 eight
  have b6 := BB5.out.alloc BB5.out.size (.cells #[.int .u64 0, .int .u64 1, .int .u64 2, .int .u64 3, .int .u64 4, .int .u64 5, .int .u64 6, .int .u64 7] 28)
  obtain ⟨q, hq⟩ : ∃ q, q = w5.heap.size := ⟨_, rfl⟩
  rw [← hq] at R6 ⊢
  change RowN (w5.alloc (.cells #[.int .u64 0, .int .u64 1, .int .u64 2, .int .u64 3, .int .u64 4, .int .u64 5, .int .u64 6, .int .u64 7] 28)) q _ _ at R6
  generalize w5.alloc (.cells #[.int .u64 0, .int .u64 1, .int .u64 2, .int .u64 3, .int .u64 4, .int .u64 5, .int .u64 6, .int .u64 7] 28) = v0 at *
  have V0 := Lib.hid (And.intro b6 R6)
  clear b6 R6 hq BB5
  refine (refused_any false (nd_nil _) (by decide) (by decide) (by decide)).mono ?_
  rintro e x1 ⟨rfl, C1⟩
  have V1 := Lib.hid (And.intro (V0.out.1.trans (C1.mono V0.out.1.size)) (V0.out.2.below V0.out.2.lt C1))
  clear C1 V0
  have N1 := Lib.hid (show Nd (x1.alloc (.cells #[.int .u64 0] 28)) (some ⟨q, 0, none⟩) 1 8 (some ⟨x1.heap.size, 0, none⟩) 1 1 (eight.take 1) [0] from nd_eight V1.out.2 1 (by decide) [0] 1 rfl (by decide))
  go_wp2_with fail
  refine (refused_any false N1.out (by decide) (by decide) (by decide)).mono ?_
  rintro e x2 ⟨rfl, C2⟩
  have V2 := Lib.hid (And.intro ((V1.out.1.alloc V1.out.1.size (.cells #[.int .u64 0] 28)).trans (C2.mono (Nat.le_trans V1.out.1.size (by simp)))) ((V1.out.2.below V1.out.2.lt ((Below.refl x1.heap.size x1).alloc (Nat.le_refl _) (.cells #[.int .u64 0] 28))).below (Nat.lt_of_lt_of_le V1.out.2.lt (by simp)) C2))
  clear C2 V1 N1
  have N2 := Lib.hid (show Nd (x2.alloc (.cells #[.int .u64 4096] 28)) (some ⟨q, 0, none⟩) 1 8 (some ⟨x2.heap.size, 0, none⟩) 1 1 (eight.take 1) [4096] from nd_eight V2.out.2 1 (by decide) [4096] 1 rfl (by decide))
  go_wp2_with fail
  refine (refused_any false N2.out (by decide) (by decide) (by decide)).mono ?_
  rintro e x3 ⟨rfl, C3⟩
  have V3 := Lib.hid (And.intro ((V2.out.1.alloc V2.out.1.size (.cells #[.int .u64 4096] 28)).trans (C3.mono (Nat.le_trans V2.out.1.size (by simp)))) ((V2.out.2.below V2.out.2.lt ((Below.refl x2.heap.size x2).alloc (Nat.le_refl _) (.cells #[.int .u64 4096] 28))).below (Nat.lt_of_lt_of_le V2.out.2.lt (by simp)) C3))
  clear C3 V2 N2
  have N3 := Lib.hid (show Nd (x3.alloc (.cells #[.int .u64 3, .int .u64 3] 28)) (some ⟨q, 0, none⟩) 2 8 (some ⟨x3.heap.size, 0, none⟩) 2 2 (eight.take 2) [3, 3] from nd_eight V3.out.2 2 (by decide) [3, 3] 2 rfl (by decide))
  go_wp2_with fail
  refine (refused_any false N3.out (by decide) (by decide) (by decide)).mono ?_
  rintro e x4 ⟨rfl, C4⟩
  have V4 := Lib.hid (And.intro ((V3.out.1.alloc V3.out.1.size (.cells #[.int .u64 3, .int .u64 3] 28)).trans (C4.mono (Nat.le_trans V3.out.1.size (by simp)))) ((V3.out.2.below V3.out.2.lt ((Below.refl x3.heap.size x3).alloc (Nat.le_refl _) (.cells #[.int .u64 3, .int .u64 3] 28))).below (Nat.lt_of_lt_of_le V3.out.2.lt (by simp)) C4))
  clear C4 V3 N3
  have N4 := Lib.hid (show Nd ((x4.alloc (.cells #[.int .u64 5, .int .u64 5] 28)).alloc (.cells #[.int .u64 1, .int .u64 2] 28)) (some ⟨x4.heap.size, 0, none⟩) 2 2 (some ⟨x4.heap.size + 1, 0, none⟩) 2 2 [5, 5] [1, 2] from nd_rows x4 [5, 5] [1, 2])
  go_wp2_with fail
  refine (refused_any true N4.out (by decide) (by decide) (by decide)).mono ?_
  rintro e x5 ⟨rfl, C5⟩
  have b5 := (V4.out.1.alloc V4.out.1.size (.cells #[.int .u64 5, .int .u64 5] 28)).alloc (Nat.le_trans V4.out.1.size (by simp)) (.cells #[.int .u64 1, .int .u64 2] 28)
  have a5 := ((Below.refl x4.heap.size x4).alloc (Nat.le_refl _) (.cells #[.int .u64 5, .int .u64 5] 28)).alloc (by simp) (.cells #[.int .u64 1, .int .u64 2] 28)
  have V5 := Lib.hid (And.intro (b5.trans (C5.mono b5.size)) ((V4.out.2.below V4.out.2.lt a5).below (Nat.lt_of_lt_of_le V4.out.2.lt a5.size) C5))
  clear C5 V4 N4 a5 b5
  have N5 := Lib.hid (show Nd x5 (some ⟨q, 0, none⟩) 8 8 (some ⟨q, 0, none⟩) 8 8 eight eight from ⟨rfl, rfl, Nat.le_refl _, by decide, Nat.le_refl _, by decide, V5.out.2.has.told, V5.out.2.has.told⟩)
  go_wp2_with fail
  refine (refused_any true N5.out (by decide) (by decide) (by decide)).mono ?_
  rintro e x6 ⟨rfl, C6⟩
  have V6 := Lib.hid (And.intro (V5.out.1.trans (C6.mono V5.out.1.size)) (V5.out.2.below V5.out.2.lt C6))
  clear C6 V5 N5
  have N6 := Lib.hid (show Nd (x6.alloc (.cells #[.int .u64 1] 28)) (some ⟨q, 0, none⟩) 2 8 (some ⟨x6.heap.size, 0, none⟩) 1 1 (eight.take 2) [1] from nd_eight V6.out.2 2 (by decide) [1] 1 rfl (by decide))
  go_wp2_with fail
  refine (refused_any true N6.out (by decide) (by decide) (by decide)).mono ?_
  rintro e x7 ⟨rfl, C7⟩
  have b7 := V6.out.1.alloc V6.out.1.size (.cells #[.int .u64 1] 28)
  have V7 := Lib.hid (b7.trans (C7.mono b7.size))
  clear C7 V6 N6 b7
  go_wp2_with fail
  go_ret
  exact ⟨rfl, V7.out⟩
end Go.Proofs.Ytngigpciipdogaa.Lf
