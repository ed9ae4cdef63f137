/- The walk of ShelfBack. -/
import Derived.Test.YtamibckpkhpmfaaSfN
import Derived.StillTailTactics
import Derived.Deep.DeepCutAuto
namespace Go.Proofs.Ytamibckpkhpmfaa.Sf
open Go.RowKit Go.Proofs.Ytamibckpkhpmfaa.Oct
set_option linter.unusedVariables false

/-- The two shelves that came in, in their variables. -/
structure Two (w0 w : World) (d : UInt8) (nx : UInt32) (A : Option Addr) (n c : Nat) (es : List Ent) (d' : UInt8) (nx' : UInt32) (A' : Option Addr) (n' c' : Nat) (es' : List Ent) : Prop where
  below : Below w0.heap.size w0 w
  a : Box w w0.heap.size d nx A n c
  b : Box w (w0.heap.size + 1) d' nx' A' n' c'
  sa : Sh w A n c es
  sb : Sh w A' n' c' es'
section
variable {w0 w w' : World} {d d' : UInt8} {nx nx' : UInt32} {A A' : Option Addr} {n c n' c' : Nat} {es es' : List Ent}
theorem Two.grow (h : Two w0 w d nx A n c es d' nx' A' n' c' es') (k : Below w.heap.size w w') : Two w0 w' d nx A n c es d' nx' A' n' c' es' :=
  ⟨h.below.trans (k.mono h.below.size), h.a.below k h.a.lt, h.b.below k h.b.lt, h.sa.below k, h.sb.below k⟩
end
theorem two_new (w : World) (d : UInt8) (nx : UInt32) (A : Option Addr) (n c : Nat) (es : List Ent) (d' : UInt8) (nx' : UInt32) (A' : Option Addr) (n' c' : Nat) (es' : List Ent) (h : Sh w A n c es) (h' : Sh w A' n' c' es') :
    Two w ((w.alloc (.cells #[.int .u8 (d.toNat : Int), .int .u32 (nx.toNat : Int), .slice A n c] 25)).alloc (.cells #[.int .u8 (d'.toNat : Int), .int .u32 (nx'.toNat : Int), .slice A' n' c'] 25)) d nx A n c es d' nx' A' n' c' es' := by
  have X1 := box_new (T := 25) w d nx A n c
  have b1 := (Below.refl w.heap.size w).alloc (Nat.le_refl _) (.cells #[.int .u8 (d.toNat : Int), .int .u32 (nx.toNat : Int), .slice A n c] 25)
  have hs : (w.alloc (.cells #[.int .u8 (d.toNat : Int), .int .u32 (nx.toNat : Int), .slice A n c] 25)).heap.size = w.heap.size + 1 := by simp
  generalize w.alloc (.cells #[.int .u8 (d.toNat : Int), .int .u32 (nx.toNat : Int), .slice A n c] 25) = w1 at *
  have X2 := box_new (T := 25) w1 d' nx' A' n' c'
  have b2 := (Below.refl w1.heap.size w1).alloc (Nat.le_refl _) (.cells #[.int .u8 (d'.toNat : Int), .int .u32 (nx'.toNat : Int), .slice A' n' c'] 25)
  rw [hs] at X2
  exact ⟨b1.trans (b2.mono b1.size), X1.below b2 X1.lt, X2, (h.below b1).below b2, (h'.below b1).below b2⟩

theorem still_skip {P : Program} {ops : Array Oper} {w : World} {Q : Act → Prop} {a : Act} {o : Oper} {rest : List Oper} (hw : Region.wanted o (yielded ops a.tmps) = false) (h : wpStill P ops w Q rest (a.put o.dst undef)) : wpStill P ops w Q (o :: rest) a := by
  unfold wpStill
  rw [if_neg (by rw [hw]; decide)]
  exact h
theorem still_skip2 {P : Program} {ops : Array Oper} {w : World} {Q : Act → Prop} {a : Act} {o : Oper} {rest : List Oper} (hw : Region.wanted o (yielded ops a.tmps) = false) (hu : a.put o.dst undef = a) (h : wpStill P ops w Q rest a) : wpStill P ops w Q (o :: rest) a :=
  still_skip hw (by rw [hu]; exact h)
theorem same_pages {d d' : UInt8} {nx nx' : UInt32} {es es' : List Ent} (h : Fit d nx es) (h' : Fit d' nx' es') :
    ∃ bv : Bool, (shelfPage d nx es == shelfPage d' nx' es') = bv ∧ decide (Same d d' nx nx' es es') = bv := by
  by_cases e : Same d d' nx nx' es es'
  · refine ⟨true, ?_, decide_eq_true e⟩
    obtain ⟨rfl, rfl, rfl⟩ := e
    exact beq_self_eq_true _
  · exact ⟨false, beq_eq_false_iff_ne.2 (fun hp => e (page_inj h h' hp)), decide_eq_false e⟩

set_option maxRecDepth 100000 in
set_option maxHeartbeats 4000000 in
theorem back_walk (d : UInt8) (nx : UInt32) (A : Option Addr) (n c : Nat) (es : List Ent) (d' : UInt8) (nx' : UInt32) (A' : Option Addr) (n' c' : Nat) (es' : List Ent) (w : World) (h : Sh w A n c es) (h' : Sh w A' n' c' es') :
    Calls Try.prog 4 #[.agg #[.int .u8 (d.toNat : Int), .int .u32 (nx.toNat : Int), .slice A n c], .agg #[.int .u8 (d'.toNat : Int), .int .u32 (nx'.toNat : Int), .slice A' n' c']] w fun e w' => e = .returned (.bool true) ∧ Below w.heap.size w w' := by
  have T1 := Lib.hid (two_new w d nx A n c es d' nx' A' n' c' es' h h')
  have hcm := h.km
  have hnc := h.kc
  have hcm' := h'.km
  have hnc' := h'.kc
  unfold maxLen at hcm hcm'
  clear h h'
  by_cases hbig : n ≤ 20 ∧ n' ≤ 20
  · obtain ⟨h1, h2⟩ := hbig
    go_enter Try.func4, Try.ntmps4
    go_upto_region 3 with (fail)
    generalize (w.alloc (.cells #[.int .u8 (d.toNat : Int), .int .u32 (nx.toNat : Int), .slice A n c] 25)).alloc (.cells #[.int .u8 (d'.toNat : Int), .int .u32 (nx'.toNat : Int), .slice A' n' c'] 25) = w1 at *
    by_cases f1 : Fit d nx es
    · have H1 := Lib.hid f1
      have HL := Lib.hid T1.out.sa.el
      clear f1
      obtain ⟨a0, a1, a2, _⟩ := T1.out.a
      go_wp2_with fail
      refine (encode_yes d nx T1.out.sa H1.out).mono ?_
      rintro e w2 ⟨g1, rfl, F2⟩
      have T2 := Lib.hid (T1.out.grow F2.below)
      have P2 := Lib.hid (show Has w2 g1 0 (shelfPage d nx es) ∧ g1 < w2.heap.size from ⟨F2.has, F2.hi⟩)
      clear F2 T1 a0 a1 a2
      by_cases f2 : Fit d' nx' es'
      · have H2 := Lib.hid f2
        clear f2
        obtain ⟨b0, b1, b2, _⟩ := T2.out.b
        go_wp2_with fail
        refine (encode_yes d' nx' T2.out.sb H2.out).mono ?_
        rintro e w3 ⟨g2, rfl, F3⟩
        have T3 := Lib.hid (T2.out.grow F3.below)
        have P3 := Lib.hid (And.intro (P2.out.1.below P2.out.2 F3.below) (Nat.lt_of_lt_of_le P2.out.2 F3.below.size))
        clear P2
        have Q3 := Lib.hid (show Has w3 g2 0 (shelfPage d' nx' es') ∧ g2 < w3.heap.size from ⟨F3.has, F3.hi⟩)
        clear F3 T2 b0 b1 b2
        obtain ⟨a0, a1, a2, _⟩ := T3.out.a
        go_wp2_with fail
        refine (right_any d nx T3.out.sa).mono ?_
        rintro e w4 ⟨rfl, B4⟩
        rw [decide_eq_true H1.out]
        have T4 := Lib.hid (T3.out.grow B4)
        have P4 := Lib.hid (And.intro (P3.out.1.below P3.out.2 B4) (Nat.lt_of_lt_of_le P3.out.2 B4.size))
        clear P3
        have Q4 := Lib.hid (And.intro (Q3.out.1.below Q3.out.2 B4) (Nat.lt_of_lt_of_le Q3.out.2 B4.size))
        clear Q3
        clear B4 T3 a0 a1 a2
        obtain ⟨b0, b1, b2, _⟩ := T4.out.b
        go_wp2_with fail
        refine (right_any d' nx' T4.out.sb).mono ?_
        rintro e w5 ⟨rfl, B5⟩
        rw [decide_eq_true H2.out]
        have T5 := Lib.hid (T4.out.grow B5)
        have P5 := Lib.hid (And.intro (P4.out.1.below P4.out.2 B5) (Nat.lt_of_lt_of_le P4.out.2 B5.size))
        clear P4
        have Q5 := Lib.hid (And.intro (Q4.out.1.below Q4.out.2 B5) (Nat.lt_of_lt_of_le Q4.out.2 B5.size))
        clear Q4
        clear B5 T4 b0 b1 b2
        go_wp2_with fail
        refine (decode_page H1.out n HL.out g1 0 128 _ P5.out.1 (by decide) (by decide)).mono ?_
        rintro e w6 ⟨ex, D⟩
        obtain rfl := D.e
        have k6 := (Below.refl w6.heap.size w6).alloc (Nat.le_refl _) (.cells #[.int .u8 (d.toNat : Int), .int .u32 (nx.toNat : Int), .slice (some ⟨ex, 0, none⟩) n n] 25)
        have b56 : Below w5.heap.size w5 (w6.alloc (.cells #[.int .u8 (d.toNat : Int), .int .u32 (nx.toNat : Int), .slice (some ⟨ex, 0, none⟩) n n] 25)) := D.below.trans (k6.mono D.below.size)
        have T7 := Lib.hid (T5.out.grow b56)
        have P7 := Lib.hid (And.intro (P5.out.1.below P5.out.2 b56) (Nat.lt_of_lt_of_le P5.out.2 b56.size))
        clear P5
        have Q7 := Lib.hid (And.intro (Q5.out.1.below Q5.out.2 b56) (Nat.lt_of_lt_of_le Q5.out.2 b56.size))
        clear Q5
        have V7 := Lib.hid (box_new (T := 25) w6 d nx (some ⟨ex, 0, none⟩) n n)
        have S7 := Lib.hid (D.sh.below k6)
        clear D k6 b56 T5
        obtain ⟨a0, a1, a2, _⟩ := T7.out.a
        obtain ⟨v0, v1, v2, _⟩ := V7.out
        go_wp2_with fail
        generalize w6.alloc (.cells #[.int .u8 (d.toNat : Int), .int .u32 (nx.toNat : Int), .slice (some ⟨ex, 0, none⟩) n n] 25) = w7 at *
        refine (eqshelves_any d d nx nx S7.out T7.out.sa).mono ?_
        rintro e w8 ⟨rfl, B8⟩
        rw [decide_eq_true (show Same d d nx nx es es from ⟨rfl, rfl, rfl⟩)]
        have T8 := Lib.hid (T7.out.grow B8)
        have P8 := Lib.hid (And.intro (P7.out.1.below P7.out.2 B8) (Nat.lt_of_lt_of_le P7.out.2 B8.size))
        clear P7
        have Q8 := Lib.hid (And.intro (Q7.out.1.below Q7.out.2 B8) (Nat.lt_of_lt_of_le Q7.out.2 B8.size))
        clear Q7
        clear B8 T7 S7 V7 a0 a1 a2 v0 v1 v2
        have KS := Lib.hid (show ∀ w', Below w8.heap.size w8 w' → (w'.cell? ⟨w.heap.size, 0, none⟩ = some (.int .u8 (d.toNat : Int)) ∧ w'.cell? ⟨w.heap.size, 1, none⟩ = some (.int .u32 (nx.toNat : Int)) ∧ w'.cell? ⟨w.heap.size, 2, none⟩ = some (.slice A n c) ∧ w'.cell? ⟨w.heap.size + 1, 0, none⟩ = some (.int .u8 (d'.toNat : Int)) ∧ w'.cell? ⟨w.heap.size + 1, 1, none⟩ = some (.int .u32 (nx'.toNat : Int)) ∧ w'.cell? ⟨w.heap.size + 1, 2, none⟩ = some (.slice A' n' c')) from fun w' k => let t := T8.out.grow k; ⟨t.a.c0, t.a.c1, t.a.c2, t.b.c0, t.b.c1, t.b.c2⟩)
        obtain ⟨bv, hv1, hv2⟩ := same_pages H1.out H2.out
        have HV1 := Lib.hid hv1
        have HV2 := Lib.hid hv2
        have hbb : (bv == bv) = true := by simp
        clear hv1 hv2
        have PL := Lib.hid (And.intro (length_shelfPage d nx es (fit_len H1.out)) (length_shelfPage d' nx' es' (fit_len H2.out)))
        have PT := Lib.hid (And.intro (P8.out.1.still (Still.drew w8)).told (Q8.out.1.still (Still.drew w8)).told)
        have ST := Lib.hid (And.intro (T8.out.sa.still (Still.drew w8)) (T8.out.sb.still (Still.drew w8)))
        obtain ⟨a0, a1, a2, b0, b1, b2⟩ := KS.out _ (Below.refl _ _)
        go_wp2_with fail
        go_region_held3 (fun w' => w'.cell? ⟨w.heap.size, 0, none⟩ = some (.int .u8 (d.toNat : Int)) ∧ w'.cell? ⟨w.heap.size, 1, none⟩ = some (.int .u32 (nx.toNat : Int)) ∧ w'.cell? ⟨w.heap.size, 2, none⟩ = some (.slice A n c) ∧ w'.cell? ⟨w.heap.size + 1, 0, none⟩ = some (.int .u8 (d'.toNat : Int)) ∧ w'.cell? ⟨w.heap.size + 1, 1, none⟩ = some (.int .u32 (nx'.toNat : Int)) ∧ w'.cell? ⟨w.heap.size + 1, 2, none⟩ = some (.slice A' n' c')) ((refine KS.out _ ?_; (repeat' (first | with_reducible exact Below.refl _ _ | with_reducible exact HBQ.out | with_reducible exact HBR.out | with_reducible refine Below.drew ?_)))) (first | (go_at_call 14; with_reducible refine (equal_len _ _ 128 128 128 128 (shelfPage d nx es) (shelfPage d' nx' es') PL.out.1 PL.out.2 _ PT.out.1 PT.out.2).mono ?_; rintro e wq ⟨rfl, rfl⟩; rw [HV1.out]) | (go_at_call 15; with_reducible refine (eqshelves_any d d' nx nx' ST.out.1 ST.out.2).mono ?_; rintro e wq ⟨rfl, Bq⟩; rw [HV2.out]; have HBQ := Lib.hid (show Below w8.heap.size w8 wq from ((Still.drew w8).below _).trans (Bq.mono (Nat.le_refl _))); clear Bq) | (go_at_call 8; with_reducible refine (awake_any _).mono ?_; rintro e wr ⟨rfl, Br⟩; have HBR := Lib.hid (show Below w8.heap.size w8 wr from HBQ.out.trans (Br.mono HBQ.out.size)); clear Br) | fail)
        all_goals
          go_wp2_with fail
          go_ret
          exact ⟨rfl, T8.out.below.trans (HBR.out.mono T8.out.below.size)⟩
      · have H2 := Lib.hid f2
        clear f2
        obtain ⟨b0, b1, b2, _⟩ := T2.out.b
        go_wp2_with fail
        refine (encode_no d' nx' T2.out.sb H2.out).mono ?_
        rintro e w3 ⟨rfl, F3⟩
        have T3 := Lib.hid (T2.out.grow F3)
        have P3 := Lib.hid (And.intro (P2.out.1.below P2.out.2 F3) (Nat.lt_of_lt_of_le P2.out.2 F3.size))
        clear P2
        clear F3 T2 b0 b1 b2
        obtain ⟨a0, a1, a2, _⟩ := T3.out.a
        go_wp2_with fail
        refine (right_any d nx T3.out.sa).mono ?_
        rintro e w4 ⟨rfl, B4⟩
        rw [decide_eq_true H1.out]
        have T4 := Lib.hid (T3.out.grow B4)
        have P4 := Lib.hid (And.intro (P3.out.1.below P3.out.2 B4) (Nat.lt_of_lt_of_le P3.out.2 B4.size))
        clear P3
        clear B4 T3 a0 a1 a2
        obtain ⟨b0, b1, b2, _⟩ := T4.out.b
        go_wp2_with fail
        refine (right_any d' nx' T4.out.sb).mono ?_
        rintro e w5 ⟨rfl, B5⟩
        rw [decide_eq_false H2.out]
        have T5 := Lib.hid (T4.out.grow B5)
        have P5 := Lib.hid (And.intro (P4.out.1.below P4.out.2 B5) (Nat.lt_of_lt_of_le P4.out.2 B5.size))
        clear P4
        clear B5 T4 b0 b1 b2
        go_wp2_with fail
        refine (decode_page H1.out n HL.out g1 0 128 _ P5.out.1 (by decide) (by decide)).mono ?_
        rintro e w6 ⟨ex, D⟩
        obtain rfl := D.e
        have k6 := (Below.refl w6.heap.size w6).alloc (Nat.le_refl _) (.cells #[.int .u8 (d.toNat : Int), .int .u32 (nx.toNat : Int), .slice (some ⟨ex, 0, none⟩) n n] 25)
        have b56 : Below w5.heap.size w5 (w6.alloc (.cells #[.int .u8 (d.toNat : Int), .int .u32 (nx.toNat : Int), .slice (some ⟨ex, 0, none⟩) n n] 25)) := D.below.trans (k6.mono D.below.size)
        have T7 := Lib.hid (T5.out.grow b56)
        have P7 := Lib.hid (And.intro (P5.out.1.below P5.out.2 b56) (Nat.lt_of_lt_of_le P5.out.2 b56.size))
        clear P5
        have V7 := Lib.hid (box_new (T := 25) w6 d nx (some ⟨ex, 0, none⟩) n n)
        have S7 := Lib.hid (D.sh.below k6)
        clear D k6 b56 T5
        obtain ⟨a0, a1, a2, _⟩ := T7.out.a
        obtain ⟨v0, v1, v2, _⟩ := V7.out
        go_wp2_with fail
        generalize w6.alloc (.cells #[.int .u8 (d.toNat : Int), .int .u32 (nx.toNat : Int), .slice (some ⟨ex, 0, none⟩) n n] 25) = w7 at *
        refine (eqshelves_any d d nx nx S7.out T7.out.sa).mono ?_
        rintro e w8 ⟨rfl, B8⟩
        rw [decide_eq_true (show Same d d nx nx es es from ⟨rfl, rfl, rfl⟩)]
        have T8 := Lib.hid (T7.out.grow B8)
        have P8 := Lib.hid (And.intro (P7.out.1.below P7.out.2 B8) (Nat.lt_of_lt_of_le P7.out.2 B8.size))
        clear P7
        clear B8 T7 S7 V7 a0 a1 a2 v0 v1 v2
        go_wp2_with fail
        refine wp_region_still_tail 12 (by kernel_rfl) (by kernel_rfl) ?_
        simp only [List.take_succ_cons, List.take_zero, List.drop_succ_cons, List.drop_zero]
        iterate 3 still_step
        iterate 7 (with_reducible refine still_skip2 ?_ ?_ ?_; (kernel_rfl); (kernel_rfl))
        iterate 2 still_step
        refine wpStill_nil ?_
        change wpList _ _ _ _ _ w8.drew
        go_wp2_with fail
        refine (awake_any _).mono ?_
        rintro e wr ⟨rfl, Br⟩
        have HBR := Lib.hid (show Below w8.heap.size w8 wr from ((Still.drew w8).below _).trans (Br.mono (Nat.le_refl _)))
        clear Br
        go_wp2_with fail
        go_ret
        exact ⟨rfl, T8.out.below.trans (HBR.out.mono T8.out.below.size)⟩
    · have H1 := Lib.hid f1
      clear f1
      obtain ⟨a0, a1, a2, _⟩ := T1.out.a
      go_wp2_with fail
      refine (encode_no d nx T1.out.sa H1.out).mono ?_
      rintro e w2 ⟨rfl, B2⟩
      have T2 := Lib.hid (T1.out.grow B2)
      clear B2 T1 a0 a1 a2
      by_cases f2 : Fit d' nx' es'
      · have H2 := Lib.hid f2
        clear f2
        obtain ⟨b0, b1, b2, _⟩ := T2.out.b
        go_wp2_with fail
        refine (encode_yes d' nx' T2.out.sb H2.out).mono ?_
        rintro e w3 ⟨g2, rfl, F3⟩
        have T3 := Lib.hid (T2.out.grow F3.below)
        have Q3 := Lib.hid (show Has w3 g2 0 (shelfPage d' nx' es') ∧ g2 < w3.heap.size from ⟨F3.has, F3.hi⟩)
        clear F3 T2 b0 b1 b2
        obtain ⟨a0, a1, a2, _⟩ := T3.out.a
        go_wp2_with fail
        refine (right_any d nx T3.out.sa).mono ?_
        rintro e w4 ⟨rfl, B4⟩
        rw [decide_eq_false H1.out]
        have T4 := Lib.hid (T3.out.grow B4)
        have Q4 := Lib.hid (And.intro (Q3.out.1.below Q3.out.2 B4) (Nat.lt_of_lt_of_le Q3.out.2 B4.size))
        clear Q3
        clear B4 T3 a0 a1 a2
        obtain ⟨b0, b1, b2, _⟩ := T4.out.b
        go_wp2_with fail
        refine (right_any d' nx' T4.out.sb).mono ?_
        rintro e w5 ⟨rfl, B5⟩
        rw [decide_eq_true H2.out]
        have T5 := Lib.hid (T4.out.grow B5)
        have Q5 := Lib.hid (And.intro (Q4.out.1.below Q4.out.2 B5) (Nat.lt_of_lt_of_le Q4.out.2 B5.size))
        clear Q4
        clear B5 T4 b0 b1 b2
        go_wp2_with fail
        refine (awake_any _).mono ?_
        rintro e w6 ⟨rfl, B6⟩
        have Y6 := Lib.hid (T5.out.below.trans (B6.mono T5.out.below.size))
        clear B6
        go_wp2_with fail
        go_ret
        exact ⟨rfl, Y6.out⟩
      · have H2 := Lib.hid f2
        clear f2
        obtain ⟨b0, b1, b2, _⟩ := T2.out.b
        go_wp2_with fail
        refine (encode_no d' nx' T2.out.sb H2.out).mono ?_
        rintro e w3 ⟨rfl, F3⟩
        have T3 := Lib.hid (T2.out.grow F3)
        clear F3 T2 b0 b1 b2
        obtain ⟨a0, a1, a2, _⟩ := T3.out.a
        go_wp2_with fail
        refine (right_any d nx T3.out.sa).mono ?_
        rintro e w4 ⟨rfl, B4⟩
        rw [decide_eq_false H1.out]
        have T4 := Lib.hid (T3.out.grow B4)
        clear B4 T3 a0 a1 a2
        obtain ⟨b0, b1, b2, _⟩ := T4.out.b
        go_wp2_with fail
        refine (right_any d' nx' T4.out.sb).mono ?_
        rintro e w5 ⟨rfl, B5⟩
        rw [decide_eq_false H2.out]
        have T5 := Lib.hid (T4.out.grow B5)
        clear B5 T4 b0 b1 b2
        go_wp2_with fail
        refine (awake_any _).mono ?_
        rintro e w6 ⟨rfl, B6⟩
        have Y6 := Lib.hid (T5.out.below.trans (B6.mono T5.out.below.size))
        clear B6
        go_wp2_with fail
        go_ret
        exact ⟨rfl, Y6.out⟩
  · by_cases h1 : n ≤ 20
    · have h2 : ¬ n' ≤ 20 := fun k => hbig ⟨h1, k⟩
      clear hbig
      go_enter Try.func4, Try.ntmps4
      go_wp2_with fail
      refine (awake_any _).mono ?_
      rintro e w2 ⟨rfl, B2⟩
      go_wp2_with fail
      go_ret
      exact ⟨rfl, T1.out.below.trans (B2.mono T1.out.below.size)⟩
    · clear hbig
      go_enter Try.func4, Try.ntmps4
      go_wp2_with fail
      refine (awake_any _).mono ?_
      rintro e w2 ⟨rfl, B2⟩
      go_wp2_with fail
      go_ret
      exact ⟨rfl, T1.out.below.trans (B2.mono T1.out.below.size)⟩
end Go.Proofs.Ytamibckpkhpmfaa.Sf
