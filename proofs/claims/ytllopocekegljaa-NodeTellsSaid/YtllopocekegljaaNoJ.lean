/- Layer 12: the contract of Join. (Written by bin/gen_noj.py.) -/
import Derived.Test.YtllopocekegljaaNoI
namespace Go.Proofs.Ytllopocekegljaa.No
open Go.RowKit Go.Proofs.Ytllopocekegljaa.Oct Go.Proofs.Ytllopocekegljaa.Lf Go.Proofs.Ytllopocekegljaa.Mv
set_option linter.unusedVariables false
set_option linter.unusedSimpArgs false

/-- Two halves of a list, the greater one of an odd number first. -/
def hlf (ks : List UInt64) : Nat := (ks.length + 1) / 2
def joinR (l : Bool) (ks vs : List UInt64) (l' : Bool) (ks' vs' : List UInt64) : List PN × Nat :=
  if Ok l ks vs ∧ Ok l' ks' vs' ∧ l = l' ∧ Rises (ks ++ ks') then
    (if (ks ++ ks').length ≤ 7 then ([(l, ks ++ ks', vs ++ vs')], 0)
     else ([(l, cutIn (ks ++ ks') (hlf (ks ++ ks')) (ks ++ ks').length [], cutIn (vs ++ vs') (hlf (ks ++ ks')) (ks ++ ks').length []), (l, cutIn (ks ++ ks') 0 (hlf (ks ++ ks')) [], cutIn (vs ++ vs') 0 (hlf (ks ++ ks')) [])], 0))
  else ([], 30)
theorem cutIn_end {ks ks' : List UInt64} {n : Nat} (h : ks.length = n) : cutIn ks n n ks' = ks ++ ks' := by
  unfold cutIn
  rw [List.take_of_length_le (by omega), List.drop_of_length_le (by omega), List.append_nil]

/-- The cells of some nodes. -/
def rowOf (us : List (Bool × Value × Value)) : List Value := us.flatMap fun u => [.bool u.1, u.2.1, u.2.2]
/-- v is a list of nodes of the call's own. -/
def ListD (w : World) (base : Nat) (v : Value) (L : List PN) : Prop :=
  (v = .slice none 0 0 ∧ L = []) ∨ ∃ g us, v = .slice (some ⟨g, 0, none⟩) L.length L.length ∧ base ≤ g ∧ RowV w g 24 (rowOf us) ∧ us.length = L.length ∧ ∀ i (h1 : i < L.length) (h2 : i < us.length), us[i].1 = L[i].1 ∧ OwnN w base us[i].2.1 L[i].2.1 ∧ OwnN w base us[i].2.2 L[i].2.2
theorem ListD.mono {w : World} {base base' : Nat} {v : Value} {L : List PN} (h : ListD w base v L) (hb : base' ≤ base) : ListD w base' v L := by
  rcases h with h | ⟨g, us, e, h1, h2, h3, h4⟩
  · exact .inl h
  · exact .inr ⟨g, us, e, by omega, h2, h3, fun i a b => ⟨(h4 i a b).1, own_mono (h4 i a b).2.1 hb, own_mono (h4 i a b).2.2 hb⟩⟩
theorem ListD.at {w w' : World} {base : Nat} {v : Value} {L : List PN} (h : ListD w base v L) (k : Below w.heap.size w w') : ListD w' base v L := by
  rcases h with h | ⟨g, us, e, h1, h2, h3, h4⟩
  · exact .inl h
  · exact .inr ⟨g, us, e, h1, h2.below h2.lt k, h3, fun i a b => ⟨(h4 i a b).1, own_at (h4 i a b).2.1 k, own_at (h4 i a b).2.2 k⟩⟩
theorem list_one {w : World} {base g : Nat} {l : Bool} {x y : Value} {ks vs : List UInt64} (hb : base ≤ g) (hr : RowV w g 24 [.bool l, x, y]) (h1 : OwnN w base x ks) (h2 : OwnN w base y vs) : ListD w base (.slice (some ⟨g, 0, none⟩) 1 1) [(l, ks, vs)] := by
  refine .inr ⟨g, [(l, x, y)], rfl, hb, hr, rfl, fun i a b => ?_⟩
  obtain rfl : i = 0 := by simpa using a
  exact ⟨rfl, h1, h2⟩
theorem list_two {w : World} {base g : Nat} {l l' : Bool} {x y x' y' : Value} {ks vs ks' vs' : List UInt64} (hb : base ≤ g) (hr : RowV w g 24 [.bool l, x, y, .bool l', x', y']) (h1 : OwnN w base x ks) (h2 : OwnN w base y vs) (h3 : OwnN w base x' ks') (h4 : OwnN w base y' vs') : ListD w base (.slice (some ⟨g, 0, none⟩) 2 2) [(l, ks, vs), (l', ks', vs')] := by
  refine .inr ⟨g, [(l, x, y), (l', x', y')], rfl, hb, hr, rfl, fun i a b => ?_⟩
  match i, a with
  | 0, _ => exact ⟨rfl, h1, h2⟩
  | 1, _ => exact ⟨rfl, h3, h4⟩
theorem BoxD.of {w : World} {r : Nat} {x y z : Value} (h : BoxD w r (.agg #[x, y, z])) : RowV w r 24 [x, y, z] := by
  obtain ⟨x', y', z', e, h⟩ := h
  simp only [Value.agg.injEq, Array.mk.injEq, List.cons.injEq, and_true] at e
  obtain ⟨rfl, rfl, rfl⟩ := e
  exact h

set_option maxRecDepth 100000 in
set_option maxHeartbeats 4000000 in
theorem join_any (l l' : Bool) {w : World} {A B A' B' : Option Addr} {n c m d n' c' m' d' : Nat} {ks vs ks' vs' : List UInt64} (h : Nd w A n c B m d ks vs) (h' : Nd w A' n' c' B' m' d' ks' vs') (t : List PN × Nat) (ht : t = joinR l ks vs l' ks' vs') :
    Calls Try.prog 21 #[.agg #[.bool l, .slice A n c, .slice B m d], .agg #[.bool l', .slice A' n' c', .slice B' m' d']] w fun e w' => ∃ v, e = .returned (.tuple #[v, .int .i64 (t.2 : Nat)]) ∧ ListD w' w.heap.size v t.1 ∧ Below w.heap.size w w' := by
  have b1 := (Below.refl w.heap.size w).alloc (Nat.le_refl _) (.cells #[.bool l, .slice A n c, .slice B m d] 24)
  have BB := Lib.hid (b1.alloc b1.size (.cells #[.bool l', .slice A' n' c', .slice B' m' d'] 24))
  have HX := Lib.hid ((box_row w l A n c B m d).below (by simp) ((Below.refl _ _).alloc (Nat.le_refl _) (.cells #[.bool l', .slice A' n' c', .slice B' m' d'] 24)))
  have HY := Lib.hid (show RowV ((w.alloc (.cells #[.bool l, .slice A n c, .slice B m d] 24)).alloc (.cells #[.bool l', .slice A' n' c', .slice B' m' d'] 24)) (w.alloc (.cells #[.bool l, .slice A n c, .slice B m d] 24)).heap.size 24 [.bool l', .slice A' n' c', .slice B' m' d'] from box_row (w.alloc (.cells #[.bool l, .slice A n c, .slice B m d] 24)) l' A' n' c' B' m' d')
  rw [show (w.alloc (.cells #[.bool l, .slice A n c, .slice B m d] 24)).heap.size = w.heap.size + 1 by simp] at HY
  have HN := Lib.hid (h.below BB.out)
  have HM := Lib.hid (h'.below BB.out)
  have kl := h.kl
  have kl' := h'.kl
  have HT := Lib.hid ht
  have hz := node_zero
  have hs2 : ((w.alloc (.cells #[.bool l, .slice A n c, .slice B m d] 24)).alloc (.cells #[.bool l', .slice A' n' c', .slice B' m' d'] 24)).heap.size = w.heap.size + 2 := by simp
  clear h h' ht b1
  go_enter Try.func21, Try.ntmps21
  go_wp2_with fail
  generalize (w.alloc (.cells #[.bool l, .slice A n c, .slice B m d] 24)).alloc (.cells #[.bool l', .slice A' n' c', .slice B' m' d'] 24) = w1 at *
  refine (right_any l HN.out).mono ?_
  rintro e w2 ⟨rfl, k2⟩
  have BB2 := Lib.hid (BB.out.trans (k2.mono BB.out.size))
  have HX2 := Lib.hid (HX.out.below HX.out.lt k2)
  have HY2 := Lib.hid (HY.out.below HY.out.lt k2)
  have HN2 := Lib.hid (HN.out.below k2)
  have HM2 := Lib.hid (HM.out.below k2)
  have hw2 : w.heap.size + 2 ≤ w2.heap.size := by have := k2.size; omega
  clear k2
  by_cases hok : Ok l ks vs
  · rw [decide_eq_true hok]
    have HK := Lib.hid hok
    clear hok
    have d0 := HY2.out.cellAt (i := 0) rfl
    have d1 := HY2.out.cellAt (i := 1) rfl
    have d2 := HY2.out.cellAt (i := 2) rfl
    go_wp2_with fail
    refine (right_any l' HM2.out).mono ?_
    rintro e w3 ⟨rfl, k3⟩
    have BB3 := Lib.hid (BB2.out.trans (k3.mono BB2.out.size))
    have HX3 := Lib.hid (HX2.out.below HX2.out.lt k3)
    have HY3 := Lib.hid (HY2.out.below HY2.out.lt k3)
    have HN3 := Lib.hid (HN2.out.below k3)
    have HM3 := Lib.hid (HM2.out.below k3)
    have hw3 : w.heap.size + 2 ≤ w3.heap.size := by have := k3.size; omega
    clear k3 d0 d1 d2
    by_cases hok' : Ok l' ks' vs'
    · rw [decide_eq_true hok']
      have HK' := Lib.hid hok'
      clear hok'
      have e0 := HX3.out.cellAt (i := 0) rfl
      have d0 := HY3.out.cellAt (i := 0) rfl
      by_cases hll : l = l'
      · subst hll
        have hl1 : (l != l) = false := by simp
        obtain rfl : m = n := by rw [← HN3.out.vl, ← kl]; exact HK.out.2.1
        obtain rfl : m' = n' := by rw [← HM3.out.vl, ← kl']; exact HK'.out.2.1
        have h7 := HK.out.1
        have h7' := HK'.out.1
        have e1 := HX3.out.cellAt (i := 1) rfl
        have e2 := HX3.out.cellAt (i := 2) rfl
        have d1 := HY3.out.cellAt (i := 1) rfl
        have d2 := HY3.out.cellAt (i := 2) rfl
        go_wp2_with fail
        refine (change_any l HN3.out m m (Nat.le_refl _) (Nat.le_refl _) HM3.out.kl HM3.out.vl HM3.out.ks HM3.out.vs (by omega) (by omega)).mono ?_
        rintro e w4 ⟨vk, vv, rfl, o1, o2, k4⟩
        rw [cutIn_end HN3.out.kl] at o1
        rw [cutIn_end HN3.out.vl] at o2
        have BB4 := Lib.hid (BB3.out.trans (k4.mono BB3.out.size))
        have hw4 : w.heap.size + 2 ≤ w4.heap.size := by have := k4.size; omega
        have hlen : (ks ++ ks').length = m + m' := by rw [List.length_append, kl, kl']
        have hlenv : (vs ++ vs').length = m + m' := by rw [List.length_append, HN3.out.vl, HM3.out.vl]
        obtain ⟨A1, c1, B1, d1', rfl, rfl, N4⟩ := own_nd o1 o2
        rw [hlen, hlenv] at N4
        rw [hlen] at o1
        rw [hlenv] at o2
        rw [hlen, hlenv]
        have q1 := (Below.refl w4.heap.size w4).alloc (Nat.le_refl _) (.cells #[.bool false, .slice none 0 0, .slice none 0 0] 24)
        have X1 := Lib.hid (box_d w4 (.bool false) (.slice none 0 0) (.slice none 0 0))
        have Q1 := Lib.hid q1
        have HN4 := Lib.hid N4
        have O4 := Lib.hid (show OwnD w4 (w.heap.size + 2) (.agg #[.bool l, .slice A1 (m + m') c1, .slice B1 (m + m') d1']) l (ks ++ ks') (vs ++ vs') from ⟨_, _, rfl, own_mono o1 (by omega), own_mono o2 (by omega)⟩)
        clear e0 e1 e2 d0 d1 d2 k4 o1 o2 N4 q1
        go_upto_region 4 with (first | (refine wpList_store_d rfl (.tmp 6) (.tmp 35) rfl w4.heap.size (w.heap.size + 2) _ _ _ _ _ rfl rfl X1.out (O4.out.at Q1.out) ?_; intro cs HC))
        have k5 := Q1.out.trans (row_below cs (Nat.le_refl _))
        have O5 := Lib.hid (O4.out.at k5)
        have HN5 := Lib.hid (HN4.out.below k5)
        have BB5 := Lib.hid (BB4.out.trans (k5.mono BB4.out.size))
        have HR5 := Lib.hid HC.of
        have hw5 := k5.size
        have hlt5 := HC.lt
        clear k5 HC X1 Q1 O4 HN4
        generalize (w4.alloc (.cells #[.bool false, .slice none 0 0, .slice none 0 0] 24)).setRow w4.heap.size cs = w5 at *
        have c1' := HR5.out.cellAt (i := 1) rfl
        go_wp2_with fail
        refine (rising_any A1 (m + m') c1 (ks ++ ks') hlen _ (by omega) HN5.out.ks).mono ?_
        rintro e w6 ⟨rfl, S6⟩
        have O6 := Lib.hid (O5.out.at (S6.below _))
        have HN6 := Lib.hid (HN5.out.still S6)
        have BB6 := Lib.hid (BB5.out.trans (S6.below _))
        have HR6 := Lib.hid (HR5.out.still S6)
        have hw6 : w6.heap.size = w5.heap.size := by rw [S6.heap]
        clear S6 c1'
        by_cases hr : Rises (ks ++ ks')
        · rw [decide_eq_true hr]
          have E := Lib.hid (show t = (if (ks ++ ks').length ≤ 7 then ([(l, ks ++ ks', vs ++ vs')], 0) else ([(l, cutIn (ks ++ ks') (hlf (ks ++ ks')) (ks ++ ks').length [], cutIn (vs ++ vs') (hlf (ks ++ ks')) (ks ++ ks').length []), (l, cutIn (ks ++ ks') 0 (hlf (ks ++ ks')) [], cutIn (vs ++ vs') 0 (hlf (ks ++ ks')) [])], 0)) by rw [HT.out]; unfold joinR; rw [if_pos ⟨HK.out, HK'.out, rfl, hr⟩])
          have f0 := HR6.out.cellAt (i := 0) rfl
          have f1 := HR6.out.cellAt (i := 1) rfl
          have f2 := HR6.out.cellAt (i := 2) rfl
          by_cases hf : m + m' ≤ 7
          · have E2 := E.out
            rw [if_pos (by rw [hlen]; exact hf)] at E2
            subst E2
            have hfi : (m : Int) + (m' : Int) ≤ 7 := by omega
            have r6 := alloc_rowV w6 24 [.bool l, .slice A1 (m + m') c1, .slice B1 (m + m') d1']
            have q6 := (Below.refl w6.heap.size w6).alloc (Nat.le_refl _) (.cells #[.bool l, .slice A1 (m + m') c1, .slice B1 (m + m') d1'] 24)
            have H9 := Lib.hid (And.intro r6 (And.intro (O6.out.at q6) (BB6.out.trans (q6.mono BB6.out.size))))
            clear r6 q6
            go_wp2_with fail
            go_ret2
            obtain ⟨r9, o9, b9⟩ := H9.out
            obtain ⟨x, y, e9, o9, o9'⟩ := o9
            simp only [Value.agg.injEq, Array.mk.injEq, List.cons.injEq, and_true, true_and] at e9
            obtain ⟨rfl, rfl⟩ := e9
            rw [hw6] at r9
            exact ⟨_, rfl, list_one (by omega) r9 (own_mono o9 (by omega)) (own_mono o9' (by omega)), b9⟩
          · have E2 := E.out
            rw [if_neg (by rw [hlen]; exact hf)] at E2
            subst E2
            have hfi : ¬ (m : Int) + (m' : Int) ≤ 7 := by omega
            go_wp2_with fail
            refine (halves_any l HN6.out (by omega) (hlf (ks ++ ks')) (by unfold hlf; rw [hlen])).mono ?_
            rintro e w7 ⟨u, v, rfl, o1, o2, k7⟩
            have BB7 := Lib.hid (BB6.out.trans (k7.mono BB6.out.size))
            have hw7 : w.heap.size + 2 ≤ w7.heap.size := by have := k7.size; omega
            have q1 := (Below.refl w7.heap.size w7).alloc (Nat.le_refl _) (.cells #[.bool false, .slice none 0 0, .slice none 0 0] 24)
            have q2 := q1.alloc q1.size (.cells #[.bool false, .slice none 0 0, .slice none 0 0] 24)
            have X1 := Lib.hid ((box_d w7 (.bool false) (.slice none 0 0) (.slice none 0 0)).new (.cells #[.bool false, .slice none 0 0, .slice none 0 0] 24))
            have X2 := Lib.hid (box_d (w7.alloc (.cells #[.bool false, .slice none 0 0, .slice none 0 0] 24)) (.bool false) (.slice none 0 0) (.slice none 0 0))
            rw [show (w7.alloc (.cells #[.bool false, .slice none 0 0, .slice none 0 0] 24)).heap.size = w7.heap.size + 1 by simp] at X2
            have Q2 := Lib.hid q2
            have O1 := Lib.hid (o1.mono (base' := w.heap.size) (by omega))
            have O2 := Lib.hid (o2.mono (base' := w.heap.size) (by omega))
            clear k7 o1 o2 q1 q2 f0 f1 f2
            go_upto_region 9 with (first | (refine wpList_store_d rfl (.tmp 7) (.tmp 51) rfl w7.heap.size w.heap.size u _ _ _ _ rfl rfl X1.out (O1.out.at Q2.out) ?_; intro cs HC) | (refine wpList_store_d rfl (.tmp 8) (.tmp 52) rfl (w7.heap.size + 1) w.heap.size v _ _ _ _ rfl rfl (X2.out.other _ (by omega)) (O2.out.at (Q2.out.trans (row_below cs (Nat.le_refl _)))) ?_; intro cs2 HC2))
            have k7 := (Q2.out.trans (row_below cs (Nat.le_refl _))).trans (row_below cs2 (show w7.heap.size ≤ w7.heap.size + 1 by omega))
            have U8 := O1.out.at k7
            have V8 := O2.out.at k7
            have X8 := HC.other cs2 (show w7.heap.size ≠ w7.heap.size + 1 by omega)
            have Y8 := HC2
            have BB8 := Lib.hid (BB7.out.trans (k7.mono BB7.out.size))
            have hw8 := k7.size
            clear k7 HC HC2 X1 X2 O1 O2 Q2
            generalize (((w7.alloc (.cells #[.bool false, .slice none 0 0, .slice none 0 0] 24)).alloc (.cells #[.bool false, .slice none 0 0, .slice none 0 0] 24)).setRow w7.heap.size cs).setRow (w7.heap.size + 1) cs2 = w8 at *
            obtain ⟨uk, uv, rfl, u1, u2⟩ := U8
            obtain ⟨vk2, vv2, rfl, v1, v2⟩ := V8
            obtain ⟨a1, x1, a2, x2, rfl, rfl, _⟩ := own_nd u1 u2
            obtain ⟨a3, x3, a4, x4, rfl, rfl, _⟩ := own_nd v1 v2
            have g0 := X8.of.cellAt (i := 0) rfl
            have g1 := X8.of.cellAt (i := 1) rfl
            have g2 := X8.of.cellAt (i := 2) rfl
            have g3 := Y8.of.cellAt (i := 0) rfl
            have g4 := Y8.of.cellAt (i := 1) rfl
            have g5 := Y8.of.cellAt (i := 2) rfl
            rw [hlen] at *
            have H9 := Lib.hid (And.intro (And.intro u1 u2) (And.intro v1 v2))
            clear X8 Y8 u1 u2 v1 v2
            go_wp2_with fail
            go_ret2
            have q9 := (Below.refl w8.heap.size w8).alloc (Nat.le_refl _) (.cells #[.bool l, .slice a1 (cutIn (ks ++ ks') (hlf (ks ++ ks')) (m + m') []).length x1, .slice a2 (cutIn (vs ++ vs') (hlf (ks ++ ks')) (m + m') []).length x2, .bool l, .slice a3 (cutIn (ks ++ ks') 0 (hlf (ks ++ ks')) []).length x3, .slice a4 (cutIn (vs ++ vs') 0 (hlf (ks ++ ks')) []).length x4] 24)
            exact ⟨_, rfl, list_two (by omega) (alloc_rowV w8 _ [_, _, _, _, _, _]) (own_at H9.out.1.1 q9) (own_at H9.out.1.2 q9) (own_at H9.out.2.1 q9) (own_at H9.out.2.2 q9), BB8.out.trans (q9.mono BB8.out.size)⟩
        · rw [decide_eq_false hr]
          obtain rfl : t = ([], 30) := by rw [HT.out]; unfold joinR; rw [if_neg (fun h => hr h.2.2.2)]
          go_wp2_with fail
          go_ret2
          exact ⟨_, rfl, .inl ⟨rfl, rfl⟩, BB6.out⟩
      · have hl1 : (l != l') = true := by simp [hll]
        obtain rfl : t = ([], 30) := by rw [HT.out]; unfold joinR; rw [if_neg (fun h => hll h.2.2.1)]
        cases l <;> cases l'
        · exact absurd rfl hll
        · go_wp2_with fail
          go_ret2
          exact ⟨_, rfl, .inl ⟨rfl, rfl⟩, BB3.out⟩
        · go_wp2_with fail
          go_ret2
          exact ⟨_, rfl, .inl ⟨rfl, rfl⟩, BB3.out⟩
        · exact absurd rfl hll
    · rw [decide_eq_false hok']
      obtain rfl : t = ([], 30) := by rw [HT.out]; unfold joinR; rw [if_neg (fun h => hok' h.2.1)]
      go_wp2_with fail
      go_ret2
      exact ⟨_, rfl, .inl ⟨rfl, rfl⟩, BB3.out⟩
  · rw [decide_eq_false hok]
    obtain rfl : t = ([], 30) := by rw [HT.out]; unfold joinR; rw [if_neg (fun h => hok h.1)]
    go_wp2_with fail
    go_ret2
    exact ⟨_, rfl, .inl ⟨rfl, rfl⟩, BB2.out⟩
end Go.Proofs.Ytllopocekegljaa.No

