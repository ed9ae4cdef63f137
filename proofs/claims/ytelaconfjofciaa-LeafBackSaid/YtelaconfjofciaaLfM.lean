/- The walk of the statement LeafBack. -/
import Derived.Test.YtelaconfjofciaaLfL
import Derived.StillTailTactics
namespace Go.Proofs.Ytelaconfjofciaa.Lf
open Go.RowKit Go.Proofs.Ytelaconfjofciaa.Oct
set_option linter.unusedVariables false

/-- The two nodes that came in, in their variables. -/
structure Boxes (w : World) (p : Nat) (l l' : Bool) (A : Option Addr) (n c : Nat) (B : Option Addr) (m d : Nat) (A' : Option Addr) (n' c' : Nat) (B' : Option Addr) (m' d' : Nat) : Prop where
  a0 : w.cell? ⟨p, 0, none⟩ = some (.bool l)
  a1 : w.cell? ⟨p, 1, none⟩ = some (.slice A n c)
  a2 : w.cell? ⟨p, 2, none⟩ = some (.slice B m d)
  b0 : w.cell? ⟨p + 1, 0, none⟩ = some (.bool l')
  b1 : w.cell? ⟨p + 1, 1, none⟩ = some (.slice A' n' c')
  b2 : w.cell? ⟨p + 1, 2, none⟩ = some (.slice B' m' d')
  lt : p + 1 < w.heap.size
theorem boxes_new (w : World) (l l' : Bool) (A : Option Addr) (n c : Nat) (B : Option Addr) (m d : Nat) (A' : Option Addr) (n' c' : Nat) (B' : Option Addr) (m' d' : Nat) :
    Boxes ((w.alloc (.cells #[.bool l, .slice A n c, .slice B m d] 24)).alloc (.cells #[.bool l', .slice A' n' c', .slice B' m' d'] 24)) w.heap.size l l' A n c B m d A' n' c' B' m' d' :=
  ⟨by simp, by simp, by simp, by simp, by simp, by simp, by simp⟩
theorem Boxes.below {w w' : World} {p : Nat} {l l' : Bool} {A : Option Addr} {n c : Nat} {B : Option Addr} {m d : Nat} {A' : Option Addr} {n' c' : Nat} {B' : Option Addr} {m' d' : Nat} (h : Boxes w p l l' A n c B m d A' n' c' B' m' d') (k : Below w.heap.size w w') : Boxes w' p l l' A n c B m d A' n' c' B' m' d' := by
  have hl := h.lt
  have hp : p < w.heap.size := by omega
  exact ⟨(k.cell (p := ⟨p, 0, none⟩) hp).trans h.a0, (k.cell (p := ⟨p, 1, none⟩) hp).trans h.a1, (k.cell (p := ⟨p, 2, none⟩) hp).trans h.a2, (k.cell (p := ⟨p + 1, 0, none⟩) hl).trans h.b0, (k.cell (p := ⟨p + 1, 1, none⟩) hl).trans h.b1, (k.cell (p := ⟨p + 1, 2, none⟩) hl).trans h.b2, Nat.lt_of_lt_of_le hl k.size⟩

theorem still_skip {P : Program} {ops : Array Oper} {w : World} {Q : Act → Prop} {a : Act} {o : Oper} {rest : List Oper} (hw : Region.wanted o (yielded ops a.tmps) = false) (h : wpStill P ops w Q rest (a.put o.dst undef)) : wpStill P ops w Q (o :: rest) a := by
  unfold wpStill
  rw [if_neg (by rw [hw]; decide)]
  exact h

theorem still_skip2 {P : Program} {ops : Array Oper} {w : World} {Q : Act → Prop} {a : Act} {o : Oper} {rest : List Oper} (hw : Region.wanted o (yielded ops a.tmps) = false) (hu : a.put o.dst undef = a) (h : wpStill P ops w Q rest a) : wpStill P ops w Q (o :: rest) a :=
  still_skip hw (by rw [hu]; exact h)

theorem same_pages {l l' : Bool} {ks vs ks' vs' : List UInt64} (h : Fit l ks vs) (h' : Fit l' ks' vs') :
    ∃ bv : Bool, (nodePage l ks vs == nodePage l' ks' vs') = bv ∧ decide (l = l' ∧ ks = ks' ∧ vs = vs') = bv := by
  by_cases e : l = l' ∧ ks = ks' ∧ vs = vs'
  · refine ⟨true, ?_, decide_eq_true e⟩
    obtain ⟨rfl, rfl, rfl⟩ := e
    exact beq_self_eq_true _
  · exact ⟨false, beq_eq_false_iff_ne.2 (fun hp => e (page_inj h h' hp)), decide_eq_false e⟩

set_option maxRecDepth 100000 in
set_option maxHeartbeats 4000000 in
theorem back_walk (l : Bool) (A : Option Addr) (n c : Nat) (B : Option Addr) (m d : Nat) (ks vs : List UInt64) (l' : Bool) (A' : Option Addr) (n' c' : Nat) (B' : Option Addr) (m' d' : Nat) (ks' vs' : List UInt64) (w : World) (h : Nd w A n c B m d ks vs) (h' : Nd w A' n' c' B' m' d' ks' vs') :
    Calls Try.prog 4 #[.agg #[.bool l, .slice A n c, .slice B m d], .agg #[.bool l', .slice A' n' c', .slice B' m' d']] w fun e w' => e = .returned (.bool true) ∧ Below w.heap.size w w' := by
  have BX := Lib.hid (boxes_new w l l' A n c B m d A' n' c' B' m' d')
  have b1 := (Below.refl w.heap.size w).alloc (Nat.le_refl _) (.cells #[.bool l, .slice A n c, .slice B m d] 24)
  have b2 := b1.alloc b1.size (.cells #[.bool l', .slice A' n' c', .slice B' m' d'] 24)
  have BB := Lib.hid b2
  have HD := Lib.hid (h.below b2)
  have HD' := Lib.hid (h'.below b2)
  clear h h' b1 b2
  by_cases hbig : n ≤ 20 ∧ n' ≤ 20 ∧ m ≤ 20 ∧ m' ≤ 20
  · obtain ⟨h1, h2, h3, h4⟩ := hbig
    go_enter Try.func4, Try.ntmps4
    go_upto_region 3 with (fail)
    -- GEN
    have HN1 := Lib.hid (And.intro HD.out HD'.out)
    have X1 := BX
    have Y1 := BB
    generalize (w.alloc (.cells #[.bool l, .slice A n c, .slice B m d] 24)).alloc (.cells #[.bool l', .slice A' n' c', .slice B' m' d'] 24) = w1 at *
    clear BX BB HD HD'
    by_cases f1 : Fit l ks vs
    · by_cases f2 : Fit l' ks' vs'
      · have H1 := Lib.hid f1
        have H2 := Lib.hid f2
        obtain rfl : n = m := by have := f1.2.1; have := HN1.out.1.kl; have := HN1.out.1.vl; omega
        have HKL := Lib.hid HN1.out.1.kl
        have HVL := Lib.hid HN1.out.1.vl
        obtain rfl : n' = m' := by have := f2.2.1; have := HN1.out.2.kl; have := HN1.out.2.vl; omega
        clear f1 f2
        have a0 := X1.out.a0
        have a1 := X1.out.a1
        have a2 := X1.out.a2
        have b0 := X1.out.b0
        have b1 := X1.out.b1
        have b2 := X1.out.b2
        go_wp2_with fail
        refine (encode_yes l HN1.out.1 H1.out).mono ?_
        rintro e w2 ⟨g1, rfl, F2⟩
        have X2 := Lib.hid (X1.out.below F2.below)
        have Y2 := Lib.hid (Y1.out.trans (F2.below.mono Y1.out.size))
        have HN2 := Lib.hid (And.intro (HN1.out.1.below F2.below) (HN1.out.2.below F2.below))
        clear X1 HN1
        have P2 := Lib.hid (And.intro F2.has F2.hi)
        clear F2
        clear a0 a1 a2 b0 b1 b2
        have a0 := X2.out.a0
        have a1 := X2.out.a1
        have a2 := X2.out.a2
        have b0 := X2.out.b0
        have b1 := X2.out.b1
        have b2 := X2.out.b2
        go_wp2_with fail
        refine (encode_yes l' HN2.out.2 H2.out).mono ?_
        rintro e w3 ⟨g2, rfl, F3⟩
        have X3 := Lib.hid (X2.out.below F3.below)
        have Y3 := Lib.hid (Y2.out.trans (F3.below.mono Y2.out.size))
        have HN3 := Lib.hid (And.intro (HN2.out.1.below F3.below) (HN2.out.2.below F3.below))
        clear X2 HN2
        have P3 := Lib.hid (show Has w3 g1 0 (nodePage l ks vs) ∧ g1 < w3.heap.size from ⟨P2.out.1.below P2.out.2 F3.below, Nat.lt_of_lt_of_le P2.out.2 F3.below.size⟩)
        have Q3 := Lib.hid (show Has w3 g2 0 (nodePage l' ks' vs') ∧ g2 < w3.heap.size from ⟨F3.has, F3.hi⟩)
        clear F3
        clear a0 a1 a2 b0 b1 b2
        have a0 := X3.out.a0
        have a1 := X3.out.a1
        have a2 := X3.out.a2
        have b0 := X3.out.b0
        have b1 := X3.out.b1
        have b2 := X3.out.b2
        go_wp2_with fail
        refine (right_any l HN3.out.1 (by omega) (by omega)).mono ?_
        rintro e w4 ⟨rfl, F4⟩
        rw [decide_eq_true H1.out]
        have X4 := Lib.hid (X3.out.below F4)
        have Y4 := Lib.hid (Y3.out.trans (F4.mono Y3.out.size))
        have HN4 := Lib.hid (And.intro (HN3.out.1.below F4) (HN3.out.2.below F4))
        clear X3 HN3
        have P4 := Lib.hid (And.intro (P3.out.1.below P3.out.2 F4) (Nat.lt_of_lt_of_le P3.out.2 F4.size))
        have Q4 := Lib.hid (And.intro (Q3.out.1.below Q3.out.2 F4) (Nat.lt_of_lt_of_le Q3.out.2 F4.size))
        clear F4
        clear a0 a1 a2 b0 b1 b2
        have a0 := X4.out.a0
        have a1 := X4.out.a1
        have a2 := X4.out.a2
        have b0 := X4.out.b0
        have b1 := X4.out.b1
        have b2 := X4.out.b2
        go_wp2_with fail
        refine (right_any l' HN4.out.2 (by omega) (by omega)).mono ?_
        rintro e w5 ⟨rfl, F5⟩
        rw [decide_eq_true H2.out]
        have X5 := Lib.hid (X4.out.below F5)
        have Y5 := Lib.hid (Y4.out.trans (F5.mono Y4.out.size))
        have HN5 := Lib.hid (And.intro (HN4.out.1.below F5) (HN4.out.2.below F5))
        clear X4 HN4
        have P5 := Lib.hid (And.intro (P4.out.1.below P4.out.2 F5) (Nat.lt_of_lt_of_le P4.out.2 F5.size))
        have Q5 := Lib.hid (And.intro (Q4.out.1.below Q4.out.2 F5) (Nat.lt_of_lt_of_le Q4.out.2 F5.size))
        clear F5
        clear a0 a1 a2 b0 b1 b2
        have a0 := X5.out.a0
        have a1 := X5.out.a1
        have a2 := X5.out.a2
        have b0 := X5.out.b0
        have b1 := X5.out.b1
        have b2 := X5.out.b2
        go_wp2_with fail
        refine (decode_page l ks vs H1.out n HKL.out g1 0 128 _ P5.out.1 (by decide) (by decide)).mono ?_
        rintro e w6 ⟨h1, h2, D⟩
        obtain rfl := D.e
        have X6 := Lib.hid (X5.out.below D.below)
        have Y6 := Lib.hid (Y5.out.trans (D.below.mono Y5.out.size))
        have HN6 := Lib.hid (And.intro (HN5.out.1.below D.below) (HN5.out.2.below D.below))
        clear X5 HN5
        have P6 := Lib.hid (And.intro (P5.out.1.below P5.out.2 D.below) (Nat.lt_of_lt_of_le P5.out.2 D.below.size))
        have Q6 := Lib.hid (And.intro (Q5.out.1.below Q5.out.2 D.below) (Nat.lt_of_lt_of_le Q5.out.2 D.below.size))
        have k7 := (Below.refl w6.heap.size w6).alloc (Nat.le_refl _) (.cells #[.bool l, .slice (some ⟨h1, 0, none⟩) n n, .slice (some ⟨h2, 0, none⟩) n n] 24)
        have ND7 := Lib.hid ((show Nd w6 (some ⟨h1, 0, none⟩) n n (some ⟨h2, 0, none⟩) n n ks vs from ⟨HKL.out, HVL.out, Nat.le_refl _, by unfold maxLen; omega, Nat.le_refl _, by unfold maxLen; omega, D.ks.has.told, D.vs.has.told⟩).below k7)
        have X7 := Lib.hid (X6.out.below k7)
        have Y7 := Lib.hid (Y6.out.trans (k7.mono Y6.out.size))
        have HN7 := Lib.hid (And.intro (HN6.out.1.below k7) (HN6.out.2.below k7))
        clear X6 HN6
        have P7 := Lib.hid (And.intro (P6.out.1.below P6.out.2 k7) (Nat.lt_of_lt_of_le P6.out.2 k7.size))
        have Q7 := Lib.hid (And.intro (Q6.out.1.below Q6.out.2 k7) (Nat.lt_of_lt_of_le Q6.out.2 k7.size))
        clear D k7
        clear a0 a1 a2 b0 b1 b2
        have a0 := X7.out.a0
        have a1 := X7.out.a1
        have a2 := X7.out.a2
        have b0 := X7.out.b0
        have b1 := X7.out.b1
        have b2 := X7.out.b2
        go_wp2_with fail
        refine (eqnodes_any l l ND7.out HN7.out.1 (by omega) (by omega)).mono ?_
        rintro e w8 ⟨rfl, F8⟩
        rw [decide_eq_true (show l = l ∧ ks = ks ∧ vs = vs from ⟨rfl, rfl, rfl⟩)]
        have X8 := Lib.hid (X7.out.below F8)
        have Y8 := Lib.hid (Y7.out.trans (F8.mono Y7.out.size))
        have HN8 := Lib.hid (And.intro (HN7.out.1.below F8) (HN7.out.2.below F8))
        clear X7 HN7
        have P8 := Lib.hid (And.intro (P7.out.1.below P7.out.2 F8) (Nat.lt_of_lt_of_le P7.out.2 F8.size))
        have Q8 := Lib.hid (And.intro (Q7.out.1.below Q7.out.2 F8) (Nat.lt_of_lt_of_le Q7.out.2 F8.size))
        clear F8 ND7
        clear a0 a1 a2 b0 b1 b2
        obtain ⟨a0, a1, a2, b0, b1, b2, hlt⟩ := X8.out
        have KS := Lib.hid (show ∀ w', Below w8.heap.size w8 w' → (w'.cell? ⟨w.heap.size, 0, none⟩ = some (.bool l) ∧ w'.cell? ⟨w.heap.size, 1, none⟩ = some (.slice A n c) ∧ w'.cell? ⟨w.heap.size, 2, none⟩ = some (.slice B n d) ∧ w'.cell? ⟨w.heap.size + 1, 0, none⟩ = some (.bool l') ∧ w'.cell? ⟨w.heap.size + 1, 1, none⟩ = some (.slice A' n' c') ∧ w'.cell? ⟨w.heap.size + 1, 2, none⟩ = some (.slice B' n' d')) from fun w' k => let x := X8.out.below k; ⟨x.a0, x.a1, x.a2, x.b0, x.b1, x.b2⟩)
        have HN8' := Lib.hid (And.intro (HN8.out.1.still (Still.drew w8)) (HN8.out.2.still (Still.drew w8)))
        obtain ⟨bv, hv1, hv2⟩ := same_pages H1.out H2.out
        have HV1 := Lib.hid hv1
        have HV2 := Lib.hid hv2
        have hbb : (bv == bv) = true := by simp
        clear hv1 hv2
        have PL := Lib.hid (And.intro (length_nodePage l ks vs H1.out.2.1 H1.out.1) (length_nodePage l' ks' vs' H2.out.2.1 H2.out.1))
        have PT := Lib.hid (And.intro (P8.out.1.still (Still.drew w8)).told (Q8.out.1.still (Still.drew w8)).told)
        go_wp2_with fail
        go_region_held3 (fun w' => w'.cell? ⟨w.heap.size, 0, none⟩ = some (.bool l) ∧ w'.cell? ⟨w.heap.size, 1, none⟩ = some (.slice A n c) ∧ w'.cell? ⟨w.heap.size, 2, none⟩ = some (.slice B n d) ∧ w'.cell? ⟨w.heap.size + 1, 0, none⟩ = some (.bool l') ∧ w'.cell? ⟨w.heap.size + 1, 1, none⟩ = some (.slice A' n' c') ∧ w'.cell? ⟨w.heap.size + 1, 2, none⟩ = some (.slice B' n' d')) ((refine KS.out _ ?_; (repeat' (first | with_reducible exact Below.refl _ _ | with_reducible exact HBQ.out | with_reducible exact HBR.out | with_reducible refine Below.drew ?_)))) (first | (go_at_call 16; with_reducible refine (equal_len _ _ 128 128 128 128 (nodePage l ks vs) (nodePage l' ks' vs') PL.out.1 PL.out.2 _ PT.out.1 PT.out.2).mono ?_; rintro e wq ⟨rfl, rfl⟩; rw [HV1.out]) | (go_at_call 17; with_reducible refine (eqnodes_any l l' HN8'.out.1 HN8'.out.2 (by omega) (by omega)).mono ?_; rintro e wq ⟨rfl, Bq⟩; rw [HV2.out]; have HBQ := Lib.hid (show Below w8.heap.size w8 wq from ((Still.drew w8).below _).trans (Bq.mono (Nat.le_refl _))); clear Bq) | (go_at_call 9; with_reducible refine (awake_any _).mono ?_; rintro e wr ⟨rfl, Br⟩; have HBR := Lib.hid (show Below w8.heap.size w8 wr from HBQ.out.trans (Br.mono HBQ.out.size)); clear Br))
        all_goals
          go_wp2_with fail
          go_ret
          exact ⟨rfl, Y8.out.trans (HBR.out.mono Y8.out.size)⟩
      · have H1 := Lib.hid f1
        have H2 := Lib.hid f2
        obtain rfl : n = m := by have := f1.2.1; have := HN1.out.1.kl; have := HN1.out.1.vl; omega
        have HKL := Lib.hid HN1.out.1.kl
        have HVL := Lib.hid HN1.out.1.vl
        clear f1 f2
        have a0 := X1.out.a0
        have a1 := X1.out.a1
        have a2 := X1.out.a2
        have b0 := X1.out.b0
        have b1 := X1.out.b1
        have b2 := X1.out.b2
        go_wp2_with fail
        refine (encode_yes l HN1.out.1 H1.out).mono ?_
        rintro e w2 ⟨g1, rfl, F2⟩
        have X2 := Lib.hid (X1.out.below F2.below)
        have Y2 := Lib.hid (Y1.out.trans (F2.below.mono Y1.out.size))
        have HN2 := Lib.hid (And.intro (HN1.out.1.below F2.below) (HN1.out.2.below F2.below))
        clear X1 HN1
        have P2 := Lib.hid (And.intro F2.has F2.hi)
        clear F2
        clear a0 a1 a2 b0 b1 b2
        have a0 := X2.out.a0
        have a1 := X2.out.a1
        have a2 := X2.out.a2
        have b0 := X2.out.b0
        have b1 := X2.out.b1
        have b2 := X2.out.b2
        go_wp2_with fail
        refine (encode_no l' HN2.out.2 (by omega) (by omega) H2.out).mono ?_
        rintro e w3 ⟨rfl, F3⟩
        have X3 := Lib.hid (X2.out.below F3)
        have Y3 := Lib.hid (Y2.out.trans (F3.mono Y2.out.size))
        have HN3 := Lib.hid (And.intro (HN2.out.1.below F3) (HN2.out.2.below F3))
        clear X2 HN2
        have P3 := Lib.hid (show Has w3 g1 0 (nodePage l ks vs) ∧ g1 < w3.heap.size from ⟨P2.out.1.below P2.out.2 F3, Nat.lt_of_lt_of_le P2.out.2 F3.size⟩)
        clear F3
        clear a0 a1 a2 b0 b1 b2
        have a0 := X3.out.a0
        have a1 := X3.out.a1
        have a2 := X3.out.a2
        have b0 := X3.out.b0
        have b1 := X3.out.b1
        have b2 := X3.out.b2
        go_wp2_with fail
        refine (right_any l HN3.out.1 (by omega) (by omega)).mono ?_
        rintro e w4 ⟨rfl, F4⟩
        rw [decide_eq_true H1.out]
        have X4 := Lib.hid (X3.out.below F4)
        have Y4 := Lib.hid (Y3.out.trans (F4.mono Y3.out.size))
        have HN4 := Lib.hid (And.intro (HN3.out.1.below F4) (HN3.out.2.below F4))
        clear X3 HN3
        have P4 := Lib.hid (And.intro (P3.out.1.below P3.out.2 F4) (Nat.lt_of_lt_of_le P3.out.2 F4.size))
        clear F4
        clear a0 a1 a2 b0 b1 b2
        have a0 := X4.out.a0
        have a1 := X4.out.a1
        have a2 := X4.out.a2
        have b0 := X4.out.b0
        have b1 := X4.out.b1
        have b2 := X4.out.b2
        go_wp2_with fail
        refine (right_any l' HN4.out.2 (by omega) (by omega)).mono ?_
        rintro e w5 ⟨rfl, F5⟩
        rw [decide_eq_false H2.out]
        have X5 := Lib.hid (X4.out.below F5)
        have Y5 := Lib.hid (Y4.out.trans (F5.mono Y4.out.size))
        have HN5 := Lib.hid (And.intro (HN4.out.1.below F5) (HN4.out.2.below F5))
        clear X4 HN4
        have P5 := Lib.hid (And.intro (P4.out.1.below P4.out.2 F5) (Nat.lt_of_lt_of_le P4.out.2 F5.size))
        clear F5
        clear a0 a1 a2 b0 b1 b2
        have a0 := X5.out.a0
        have a1 := X5.out.a1
        have a2 := X5.out.a2
        have b0 := X5.out.b0
        have b1 := X5.out.b1
        have b2 := X5.out.b2
        go_wp2_with fail
        refine (decode_page l ks vs H1.out n HKL.out g1 0 128 _ P5.out.1 (by decide) (by decide)).mono ?_
        rintro e w6 ⟨h1, h2, D⟩
        obtain rfl := D.e
        have X6 := Lib.hid (X5.out.below D.below)
        have Y6 := Lib.hid (Y5.out.trans (D.below.mono Y5.out.size))
        have HN6 := Lib.hid (And.intro (HN5.out.1.below D.below) (HN5.out.2.below D.below))
        clear X5 HN5
        have P6 := Lib.hid (And.intro (P5.out.1.below P5.out.2 D.below) (Nat.lt_of_lt_of_le P5.out.2 D.below.size))
        have k7 := (Below.refl w6.heap.size w6).alloc (Nat.le_refl _) (.cells #[.bool l, .slice (some ⟨h1, 0, none⟩) n n, .slice (some ⟨h2, 0, none⟩) n n] 24)
        have ND7 := Lib.hid ((show Nd w6 (some ⟨h1, 0, none⟩) n n (some ⟨h2, 0, none⟩) n n ks vs from ⟨HKL.out, HVL.out, Nat.le_refl _, by unfold maxLen; omega, Nat.le_refl _, by unfold maxLen; omega, D.ks.has.told, D.vs.has.told⟩).below k7)
        have X7 := Lib.hid (X6.out.below k7)
        have Y7 := Lib.hid (Y6.out.trans (k7.mono Y6.out.size))
        have HN7 := Lib.hid (And.intro (HN6.out.1.below k7) (HN6.out.2.below k7))
        clear X6 HN6
        have P7 := Lib.hid (And.intro (P6.out.1.below P6.out.2 k7) (Nat.lt_of_lt_of_le P6.out.2 k7.size))
        clear D k7
        clear a0 a1 a2 b0 b1 b2
        have a0 := X7.out.a0
        have a1 := X7.out.a1
        have a2 := X7.out.a2
        have b0 := X7.out.b0
        have b1 := X7.out.b1
        have b2 := X7.out.b2
        go_wp2_with fail
        refine (eqnodes_any l l ND7.out HN7.out.1 (by omega) (by omega)).mono ?_
        rintro e w8 ⟨rfl, F8⟩
        rw [decide_eq_true (show l = l ∧ ks = ks ∧ vs = vs from ⟨rfl, rfl, rfl⟩)]
        have X8 := Lib.hid (X7.out.below F8)
        have Y8 := Lib.hid (Y7.out.trans (F8.mono Y7.out.size))
        have HN8 := Lib.hid (And.intro (HN7.out.1.below F8) (HN7.out.2.below F8))
        clear X7 HN7
        have P8 := Lib.hid (And.intro (P7.out.1.below P7.out.2 F8) (Nat.lt_of_lt_of_le P7.out.2 F8.size))
        clear F8 ND7
        clear a0 a1 a2 b0 b1 b2
        obtain ⟨a0, a1, a2, b0, b1, b2, hlt⟩ := X8.out
        have KS := Lib.hid (show ∀ w', Below w8.heap.size w8 w' → (w'.cell? ⟨w.heap.size, 0, none⟩ = some (.bool l) ∧ w'.cell? ⟨w.heap.size, 1, none⟩ = some (.slice A n c) ∧ w'.cell? ⟨w.heap.size, 2, none⟩ = some (.slice B n d) ∧ w'.cell? ⟨w.heap.size + 1, 0, none⟩ = some (.bool l') ∧ w'.cell? ⟨w.heap.size + 1, 1, none⟩ = some (.slice A' n' c') ∧ w'.cell? ⟨w.heap.size + 1, 2, none⟩ = some (.slice B' m' d')) from fun w' k => let x := X8.out.below k; ⟨x.a0, x.a1, x.a2, x.b0, x.b1, x.b2⟩)
        have HN8' := Lib.hid (And.intro (HN8.out.1.still (Still.drew w8)) (HN8.out.2.still (Still.drew w8)))
        go_wp2_with fail
        refine wp_region_still_tail 16 (by kernel_rfl) (by kernel_rfl) ?_
        simp only [List.take_succ_cons, List.take_zero, List.drop_succ_cons, List.drop_zero]
        iterate 7 still_step
        iterate 7 (with_reducible refine still_skip2 ?_ ?_ ?_; (kernel_rfl); (kernel_rfl))
        iterate 2 still_step
        refine wpStill_nil ?_
        change wpList _ _ _ _ _ w8.drew
        go_wp2_with fail
        refine (awake_any _).mono ?_
        rintro e wr ⟨rfl, Br⟩
        have HBR := Lib.hid (show Below w8.heap.size w8 wr from ((Still.drew w8).below _).trans (Br.mono (Nat.le_refl _)))
        clear Br
        all_goals
          go_wp2_with fail
          go_ret
          exact ⟨rfl, Y8.out.trans (HBR.out.mono Y8.out.size)⟩
    · by_cases f2 : Fit l' ks' vs'
      · have H1 := Lib.hid f1
        have H2 := Lib.hid f2
        obtain rfl : n' = m' := by have := f2.2.1; have := HN1.out.2.kl; have := HN1.out.2.vl; omega
        clear f1 f2
        have a0 := X1.out.a0
        have a1 := X1.out.a1
        have a2 := X1.out.a2
        have b0 := X1.out.b0
        have b1 := X1.out.b1
        have b2 := X1.out.b2
        go_wp2_with fail
        refine (encode_no l HN1.out.1 (by omega) (by omega) H1.out).mono ?_
        rintro e w2 ⟨rfl, F2⟩
        have X2 := Lib.hid (X1.out.below F2)
        have Y2 := Lib.hid (Y1.out.trans (F2.mono Y1.out.size))
        have HN2 := Lib.hid (And.intro (HN1.out.1.below F2) (HN1.out.2.below F2))
        clear X1 HN1
        clear F2
        clear a0 a1 a2 b0 b1 b2
        have a0 := X2.out.a0
        have a1 := X2.out.a1
        have a2 := X2.out.a2
        have b0 := X2.out.b0
        have b1 := X2.out.b1
        have b2 := X2.out.b2
        go_wp2_with fail
        refine (encode_yes l' HN2.out.2 H2.out).mono ?_
        rintro e w3 ⟨g2, rfl, F3⟩
        have X3 := Lib.hid (X2.out.below F3.below)
        have Y3 := Lib.hid (Y2.out.trans (F3.below.mono Y2.out.size))
        have HN3 := Lib.hid (And.intro (HN2.out.1.below F3.below) (HN2.out.2.below F3.below))
        clear X2 HN2
        have Q3 := Lib.hid (show Has w3 g2 0 (nodePage l' ks' vs') ∧ g2 < w3.heap.size from ⟨F3.has, F3.hi⟩)
        clear F3
        clear a0 a1 a2 b0 b1 b2
        have a0 := X3.out.a0
        have a1 := X3.out.a1
        have a2 := X3.out.a2
        have b0 := X3.out.b0
        have b1 := X3.out.b1
        have b2 := X3.out.b2
        go_wp2_with fail
        refine (right_any l HN3.out.1 (by omega) (by omega)).mono ?_
        rintro e w4 ⟨rfl, F4⟩
        rw [decide_eq_false H1.out]
        have X4 := Lib.hid (X3.out.below F4)
        have Y4 := Lib.hid (Y3.out.trans (F4.mono Y3.out.size))
        have HN4 := Lib.hid (And.intro (HN3.out.1.below F4) (HN3.out.2.below F4))
        clear X3 HN3
        have Q4 := Lib.hid (And.intro (Q3.out.1.below Q3.out.2 F4) (Nat.lt_of_lt_of_le Q3.out.2 F4.size))
        clear F4
        clear a0 a1 a2 b0 b1 b2
        have a0 := X4.out.a0
        have a1 := X4.out.a1
        have a2 := X4.out.a2
        have b0 := X4.out.b0
        have b1 := X4.out.b1
        have b2 := X4.out.b2
        go_wp2_with fail
        refine (right_any l' HN4.out.2 (by omega) (by omega)).mono ?_
        rintro e w5 ⟨rfl, F5⟩
        rw [decide_eq_true H2.out]
        have X5 := Lib.hid (X4.out.below F5)
        have Y5 := Lib.hid (Y4.out.trans (F5.mono Y4.out.size))
        have HN5 := Lib.hid (And.intro (HN4.out.1.below F5) (HN4.out.2.below F5))
        clear X4 HN4
        have Q5 := Lib.hid (And.intro (Q4.out.1.below Q4.out.2 F5) (Nat.lt_of_lt_of_le Q4.out.2 F5.size))
        clear F5
        clear a0 a1 a2 b0 b1 b2
        obtain ⟨a0, a1, a2, b0, b1, b2, hlt⟩ := X5.out
        have KS := Lib.hid (show ∀ w', Below w5.heap.size w5 w' → (w'.cell? ⟨w.heap.size, 0, none⟩ = some (.bool l) ∧ w'.cell? ⟨w.heap.size, 1, none⟩ = some (.slice A n c) ∧ w'.cell? ⟨w.heap.size, 2, none⟩ = some (.slice B m d) ∧ w'.cell? ⟨w.heap.size + 1, 0, none⟩ = some (.bool l') ∧ w'.cell? ⟨w.heap.size + 1, 1, none⟩ = some (.slice A' n' c') ∧ w'.cell? ⟨w.heap.size + 1, 2, none⟩ = some (.slice B' n' d')) from fun w' k => let x := X5.out.below k; ⟨x.a0, x.a1, x.a2, x.b0, x.b1, x.b2⟩)
        have HN5' := Lib.hid (And.intro (HN5.out.1.still (Still.drew w5)) (HN5.out.2.still (Still.drew w5)))
        go_wp2_with fail
        refine wp_region_still_tail 16 (by kernel_rfl) (by kernel_rfl) ?_
        simp only [List.take_succ_cons, List.take_zero, List.drop_succ_cons, List.drop_zero]
        iterate 3 still_step
        iterate 2 (with_reducible refine still_skip2 ?_ ?_ ?_; (kernel_rfl); (kernel_rfl))
        iterate 2 still_step
        iterate 7 (with_reducible refine still_skip2 ?_ ?_ ?_; (kernel_rfl); (kernel_rfl))
        iterate 2 still_step
        refine wpStill_nil ?_
        change wpList _ _ _ _ _ w5.drew
        go_wp2_with fail
        refine (awake_any _).mono ?_
        rintro e wr ⟨rfl, Br⟩
        have HBR := Lib.hid (show Below w5.heap.size w5 wr from ((Still.drew w5).below _).trans (Br.mono (Nat.le_refl _)))
        clear Br
        all_goals
          go_wp2_with fail
          go_ret
          exact ⟨rfl, Y5.out.trans (HBR.out.mono Y5.out.size)⟩
      · have H1 := Lib.hid f1
        have H2 := Lib.hid f2
        clear f1 f2
        have a0 := X1.out.a0
        have a1 := X1.out.a1
        have a2 := X1.out.a2
        have b0 := X1.out.b0
        have b1 := X1.out.b1
        have b2 := X1.out.b2
        go_wp2_with fail
        refine (encode_no l HN1.out.1 (by omega) (by omega) H1.out).mono ?_
        rintro e w2 ⟨rfl, F2⟩
        have X2 := Lib.hid (X1.out.below F2)
        have Y2 := Lib.hid (Y1.out.trans (F2.mono Y1.out.size))
        have HN2 := Lib.hid (And.intro (HN1.out.1.below F2) (HN1.out.2.below F2))
        clear X1 HN1
        clear F2
        clear a0 a1 a2 b0 b1 b2
        have a0 := X2.out.a0
        have a1 := X2.out.a1
        have a2 := X2.out.a2
        have b0 := X2.out.b0
        have b1 := X2.out.b1
        have b2 := X2.out.b2
        go_wp2_with fail
        refine (encode_no l' HN2.out.2 (by omega) (by omega) H2.out).mono ?_
        rintro e w3 ⟨rfl, F3⟩
        have X3 := Lib.hid (X2.out.below F3)
        have Y3 := Lib.hid (Y2.out.trans (F3.mono Y2.out.size))
        have HN3 := Lib.hid (And.intro (HN2.out.1.below F3) (HN2.out.2.below F3))
        clear X2 HN2
        clear F3
        clear a0 a1 a2 b0 b1 b2
        have a0 := X3.out.a0
        have a1 := X3.out.a1
        have a2 := X3.out.a2
        have b0 := X3.out.b0
        have b1 := X3.out.b1
        have b2 := X3.out.b2
        go_wp2_with fail
        refine (right_any l HN3.out.1 (by omega) (by omega)).mono ?_
        rintro e w4 ⟨rfl, F4⟩
        rw [decide_eq_false H1.out]
        have X4 := Lib.hid (X3.out.below F4)
        have Y4 := Lib.hid (Y3.out.trans (F4.mono Y3.out.size))
        have HN4 := Lib.hid (And.intro (HN3.out.1.below F4) (HN3.out.2.below F4))
        clear X3 HN3
        clear F4
        clear a0 a1 a2 b0 b1 b2
        have a0 := X4.out.a0
        have a1 := X4.out.a1
        have a2 := X4.out.a2
        have b0 := X4.out.b0
        have b1 := X4.out.b1
        have b2 := X4.out.b2
        go_wp2_with fail
        refine (right_any l' HN4.out.2 (by omega) (by omega)).mono ?_
        rintro e w5 ⟨rfl, F5⟩
        rw [decide_eq_false H2.out]
        have X5 := Lib.hid (X4.out.below F5)
        have Y5 := Lib.hid (Y4.out.trans (F5.mono Y4.out.size))
        have HN5 := Lib.hid (And.intro (HN4.out.1.below F5) (HN4.out.2.below F5))
        clear X4 HN4
        clear F5
        clear a0 a1 a2 b0 b1 b2
        obtain ⟨a0, a1, a2, b0, b1, b2, hlt⟩ := X5.out
        have KS := Lib.hid (show ∀ w', Below w5.heap.size w5 w' → (w'.cell? ⟨w.heap.size, 0, none⟩ = some (.bool l) ∧ w'.cell? ⟨w.heap.size, 1, none⟩ = some (.slice A n c) ∧ w'.cell? ⟨w.heap.size, 2, none⟩ = some (.slice B m d) ∧ w'.cell? ⟨w.heap.size + 1, 0, none⟩ = some (.bool l') ∧ w'.cell? ⟨w.heap.size + 1, 1, none⟩ = some (.slice A' n' c') ∧ w'.cell? ⟨w.heap.size + 1, 2, none⟩ = some (.slice B' m' d')) from fun w' k => let x := X5.out.below k; ⟨x.a0, x.a1, x.a2, x.b0, x.b1, x.b2⟩)
        have HN5' := Lib.hid (And.intro (HN5.out.1.still (Still.drew w5)) (HN5.out.2.still (Still.drew w5)))
        go_wp2_with fail
        refine wp_region_still_tail 16 (by kernel_rfl) (by kernel_rfl) ?_
        simp only [List.take_succ_cons, List.take_zero, List.drop_succ_cons, List.drop_zero]
        iterate 3 still_step
        iterate 2 (with_reducible refine still_skip2 ?_ ?_ ?_; (kernel_rfl); (kernel_rfl))
        iterate 2 still_step
        iterate 7 (with_reducible refine still_skip2 ?_ ?_ ?_; (kernel_rfl); (kernel_rfl))
        iterate 2 still_step
        refine wpStill_nil ?_
        change wpList _ _ _ _ _ w5.drew
        go_wp2_with fail
        refine (awake_any _).mono ?_
        rintro e wr ⟨rfl, Br⟩
        have HBR := Lib.hid (show Below w5.heap.size w5 wr from ((Still.drew w5).below _).trans (Br.mono (Nat.le_refl _)))
        clear Br
        all_goals
          go_wp2_with fail
          go_ret
          exact ⟨rfl, Y5.out.trans (HBR.out.mono Y5.out.size)⟩
  · have ha : ∀ w2 : World, Below w.heap.size w w2 → Calls Try.prog 9 #[] w2 fun e w' => e = .returned (.bool true) ∧ Below w.heap.size w w' := fun w2 k => (awake_any w2).mono fun e w' ⟨h1, h2⟩ => ⟨h1, k.trans (h2.mono k.size)⟩
    have HA := Lib.hid ha
    clear ha
    by_cases g1 : n ≤ 20
    · by_cases g2 : n' ≤ 20
      · by_cases g3 : m ≤ 20
        · have g4 : ¬ m' ≤ 20 := fun g4 => hbig ⟨g1, g2, g3, g4⟩
          clear hbig
          go_enter Try.func4, Try.ntmps4
          go_wp2_with fail
          refine (HA.out _ BB.out).mono ?_
          rintro e w2 ⟨rfl, B2⟩
          go_wp2_with fail
          go_ret
          exact ⟨rfl, B2⟩
        · clear hbig
          go_enter Try.func4, Try.ntmps4
          go_wp2_with fail
          refine (HA.out _ BB.out).mono ?_
          rintro e w2 ⟨rfl, B2⟩
          go_wp2_with fail
          go_ret
          exact ⟨rfl, B2⟩
      · clear hbig
        go_enter Try.func4, Try.ntmps4
        go_wp2_with fail
        refine (HA.out _ BB.out).mono ?_
        rintro e w2 ⟨rfl, B2⟩
        go_wp2_with fail
        go_ret
        exact ⟨rfl, B2⟩
    · clear hbig
      go_enter Try.func4, Try.ntmps4
      go_wp2_with fail
      refine (HA.out _ BB.out).mono ?_
      rintro e w2 ⟨rfl, B2⟩
      go_wp2_with fail
      go_ret
      exact ⟨rfl, B2⟩
end Go.Proofs.Ytelaconfjofciaa.Lf
