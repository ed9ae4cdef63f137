/- Contract: super.Encode. -/
import Derived.Test.YtkhimoclikhlaaaSuE
import Derived.Test.YtkhimoclikhlaaaSuC
import Derived.Test.YtkhimoclikhlaaaInvIn
import Derived.Test.YtkhimoclikhlaaaOctF
namespace Go.Proofs.Ytkhimoclikhlaaa.Su
open Go.RowKit Go.Shelf Go.Proofs.Ytkhimoclikhlaaa.Oct Go.Proofs.Ytkhimoclikhlaaa.Sf
set_option linter.unusedVariables false
attribute [local go_sem] Oper.semAt_some

set_option maxRecDepth 100000 in
set_option maxHeartbeats 1000000 in
theorem encode_no (s : Sup) (hs : Ok s) (w : World) (hf : ¬ Fit s) :
    Calls Try.prog 12 #[sval s] w fun e w' => e = .returned (.tuple #[.slice none 0 0, .int .i64 60]) ∧ Below w.heap.size w w' := by
  have HR1 := Lib.hid (alloc_rowV w 27 (scells s))
  have HB1 := Lib.hid ((Below.refl w.heap.size w).alloc (Nat.le_refl _) (.cells (scells s).toArray 27))
  have HF := Lib.hid hf
  clear hf
  refine (callsIn_wide (n := 5)).1 ?_
  refine callsIn_of_wp_marks Try.func12 rfl trivial ?_ rfl
  simp only [Try.ntmps12, List.size_toArray, List.length_cons, List.length_nil, Nat.reduceAdd, Nat.reduceSub, Array.replicate_succ, Array.replicate_zero, List.push_toArray, List.append_toArray, List.nil_append, List.cons_append]
  refine wpIn_wide.2 ?_
  unfold sval
  go_upto_region 1 with (fail)
  generalize w.alloc (.cells (scells s).toArray 27) = w1 at *
  go_wp2_with (refine wpList_load_row rfl 27 (.tmp 1) rfl w.heap.size rfl _ (scells s).toArray _ _ HR1.out Try.underlying27 rfl (size_scells _) ?_)
  refine (right_any s hs w1).mono ?_
  rintro e w2 ⟨rfl, B2⟩
  rw [decide_eq_false HF.out]
  have HB2 := Lib.hid (HB1.out.trans (B2.mono HB1.out.size))
  clear B2
  go_wp2_with fail
  exact ⟨_, results_tmp2 rfl _ _ _, rfl, HB2.out⟩

/-- What lies behind so many of the steps that lay a content and a body. -/
structure Laid (w0 w : World) (b : Nat → Bool) (s : Sup) (v4 v5 v11 v12 v13 : Value) : Prop where
  below : Below w0.heap.size w0 w
  x : b 0 = true → v11 = .agg (scells s).toArray
  c : b 1 = true → v12 = .agg (cvals (cont s)).toArray
  m : b 2 = true → ∃ g, v13 = .slice (some ⟨g, 0, none⟩) 123 123 ∧ w0.heap.size ≤ g ∧ RowV w g 5 (vals (List.replicate 123 0))
  p : b 3 = true → ∃ q, v4 = .pointer (some ⟨q, 0, none⟩) ∧ w0.heap.size ≤ q ∧ ∃ f, RowV w q 55 (cvals f) ∧ (b 5 = true → f = cont s)
  r : b 4 = true → ∃ r v, v5 = .pointer (some ⟨r, 0, none⟩) ∧ w0.heap.size ≤ r ∧ RowV w r 28 [v] ∧ (b 6 = true → v = v13)
  i5 : b 5 = true → b 3 = true
  i6 : b 6 = true → b 4 = true ∧ b 2 = true
theorem Laid.grow {w0 w w' : World} {b : Nat → Bool} {s : Sup} {v4 v5 v11 v12 v13 : Value} (h : Laid w0 w b s v4 v5 v11 v12 v13) (k : Below w.heap.size w w') : Laid w0 w' b s v4 v5 v11 v12 v13 :=
  ⟨h.below.trans (k.mono h.below.size), h.x, h.c, fun e => let ⟨g, h1, h2, h3⟩ := h.m e; ⟨g, h1, h2, h3.below h3.lt k⟩, fun e => let ⟨q, h1, h2, f, h3, h4⟩ := h.p e; ⟨q, h1, h2, f, h3.below h3.lt k, h4⟩,
   fun e => let ⟨r, v, h1, h2, h3, h4⟩ := h.r e; ⟨r, v, h1, h2, h3.below h3.lt k, h4⟩, h.i5, h.i6⟩
theorem row_ne {w : World} {g q : Nat} {T U : TypeId} {vs us : List Value} (h : RowV w g T vs) (k : RowV w q U us) (hTU : T ≠ U) : g ≠ q := by
  rintro rfl
  unfold RowV at h k
  rw [h] at k
  exact hTU (by injection (Option.some.inj k))
theorem row_setRow_other {w : World} {g q : Nat} {T : TypeId} {vs : List Value} (h : RowV w g T vs) (cs : Array Value) (hq : g ≠ q) : RowV (w.setRow q cs) g T vs := by
  unfold RowV at h ⊢
  rw [setRow_other _ _ _ _ hq, h]
theorem row_setRow_same {w : World} {g : Nat} {T : TypeId} {vs us : List Value} (h : RowV w g T vs) : RowV (w.setRow g us.toArray) g T us := by
  unfold RowV at h ⊢
  exact setRow_heap _ _ _ _ _ _ h
theorem setRow_below {w : World} {B q : Nat} (cs : Array Value) (h : B ≤ q) : Below B w (w.setRow q cs) := ⟨rfl, rfl, rfl, by simp, fun k hk => setRow_other _ _ _ _ (by omega)⟩
theorem wp_make {P : Program} {o : Oper} {a : Act} {w : World} {K : Act → World → Prop} {Q : Exit → Act → World → Prop} (ty : TypeId) (l c : Operand) (ho : o.op = .makeSlice ty l c) (v : Value) (w' : World)
    (hrun : (Instr.makeSlice ty (a.eval l) (a.eval c)).run P w = .ok v w') (h : K (a.put o.dst v) w') : o.wp P a w K Q := by
  unfold Oper.wp
  simp [execOp, ho, hrun, Result.andThen]
  exact h
theorem has_lt' {w : World} {b o : Nat} {bs : List UInt8} (h : Has w b o bs) (h0 : 0 < bs.length) : b < w.heap.size := World.block_lt_of_cell? w _ (h 0 h0)
/-- The body, written so far. -/
structure Pen (w : World) (g : Nat) (bs : List UInt8) : Prop where
  has : Has w g 0 bs
  free : Free w g 0 123
  len : bs.length = 123
theorem pen_own {β : Type} (g : Nat) (f : β → List UInt8) : Own (fun s W => Pen W g (f s)) := fun s X Y row hs hg hr =>
  ⟨fun i hi => cell_kept (hs.has i hi) hg hr, fun i hi => (frozen_kept (hs.has i (by rw [hs.len]; exact hi)) hg hr).trans (hs.free i hi), hs.len⟩
theorem rowV_own {β : Type} (g : Nat) (T : TypeId) (f : β → List Value) : Own (fun s W => RowV W g T (f s)) := fun s X Y row hs hg hr =>
  (hg.block g hs.lt (fun e => by obtain ⟨o, ho, hc⟩ := hr g e.symm; rw [show X.heap[g]? = _ from hs] at ho; cases ho; cases hc)).trans hs
theorem put_pen {w : World} {g : Nat} {bs : List UInt8} (h : Pen w g bs) (o s n : Nat) (h1 : 1 ≤ s) (h8 : s ≤ 8) (hs : o + s ≤ 123) (hn : n < 256 ^ s) :
    Calls Try.prog 27 #[.slice (some ⟨g, 0, none⟩) 123 123, .int .i64 (o : Int), .int .i64 (s : Int), .int .u64 (n : Int)] w fun e w' => e = .returned (.bool true) ∧ Pen w' g (bs.take o ++ bytesOf n s ++ bs.drop (o + s)) ∧ Wrote w w' g o (o + s) := by
  have hp := put_yes g 0 123 bs o s n w (by rw [h.len]; decide) h.has (by rw [h.len]; exact h.free) h1 h8 (by rw [h.len]; exact hs) hn
  rw [h.len] at hp
  refine hp.mono fun e w' ⟨he, D⟩ => ⟨he, ⟨D.has, fun i hi => (D.wrote.frz _).trans (h.free i hi), ?_⟩, by simpa using D.wrote⟩
  have := h.len
  simp [length_bytesOf]
  omega
theorem wrote_keeps {w w' : World} {b lo hi B : Nat} (W : Wrote w w' b lo hi) (h : b < B) : KeepsFrom B w w' :=
  ⟨by rw [W.size]; exact Nat.le_refl _, fun k o hk ho _ => (W.block k (by omega)).trans ho⟩
theorem if_wanted {c : Bool} {A B : Prop} (h : c = true) (a : A) : if c = true then A else B := by rw [if_pos h]; exact a

set_option maxRecDepth 100000 in
set_option maxHeartbeats 1000000 in
theorem encode_yes (s : Sup) (hs : Ok s) (w : World) (hf : Fit s) :
    Calls Try.prog 12 #[sval s] w (SealPost w 6 (cbody (cont s))) := by
  have HR1 := Lib.hid (alloc_rowV w 27 (scells s))
  have HB1 := Lib.hid ((Below.refl w.heap.size w).alloc (Nat.le_refl _) (.cells (scells s).toArray 27))
  have HF := Lib.hid hf
  have HO := Lib.hid hs
  clear hf
  refine (callsIn_wide (n := 5)).1 ?_
  refine callsIn_of_wp_marks Try.func12 rfl trivial ?_ rfl
  simp only [Try.ntmps12, List.size_toArray, List.length_cons, List.length_nil, Nat.reduceAdd, Nat.reduceSub, Array.replicate_succ, Array.replicate_zero, List.push_toArray, List.append_toArray, List.nil_append, List.cons_append]
  refine wpIn_wide.2 ?_
  unfold sval
  go_upto_region 1 with (fail)
  generalize w.alloc (.cells (scells s).toArray 27) = w1 at *
  go_wp2_with (refine wpList_load_row rfl 27 (.tmp 1) rfl w.heap.size rfl _ (scells s).toArray _ _ HR1.out Try.underlying27 rfl (size_scells _) ?_)
  refine (right_any s hs w1).mono ?_
  rintro e w2 ⟨rfl, B2⟩
  rw [decide_eq_true HF.out]
  have HB2 := Lib.hid (HB1.out.trans (B2.mono HB1.out.size))
  have HR2 := Lib.hid (HR1.out.below HR1.out.lt B2)
  clear B2 HR1 HB1
  go_wp2_with fail
  refine Inv.wp_region_inv (fun b a wx => ∃ v4 v5 v11 v12 v13, a = ⟨#[.agg (scells s).toArray, .pointer (some ⟨w.heap.size, 0, none⟩), .slice none 0 0, .int .i64 0, v4, v5, undef, undef, .agg (scells s).toArray, .bool true, .bool false, v11, v12, v13, undef, undef, undef, undef, undef, undef, undef, undef, undef, undef, undef, undef, undef, undef, undef, undef], []⟩ ∧ Hid (Laid w2 wx b s v4 v5 v11 v12 v13)) (by kernel_rfl) (by kernel_rfl) ?start ?steps ?done
  case start =>
    intro b hb
    refine ⟨undef, undef, undef, undef, undef, rfl, Lib.hid ⟨(show Still w2 w2.drew from ⟨rfl, rfl, rfl, rfl⟩).below _, ?_, ?_, ?_, ?_, ?_, ?_, ?_⟩⟩
    all_goals (intro e; rw [hb _ (by decide)] at e; cases e)
  case steps =>
    refine ⟨?_, ?_, ?_, ?_, ?_, ?_, ?_, trivial⟩
    · rintro b a wx hb hd ⟨v4, v5, v11, v12, v13, rfl, HL⟩ K hK
      have HR3 := HR2.out.below HR2.out.lt HL.out.below
      refine if_wanted rfl (wp_load_row 27 (.tmp 1) rfl w.heap.size rfl _ (scells s).toArray _ _ HR3 Try.underlying27 rfl (size_scells _) ?_)
      refine hK _ _ ⟨v4, v5, _, v12, v13, rfl, Lib.hid ⟨HL.out.below, fun _ => rfl, HL.out.c, HL.out.m, HL.out.p, HL.out.r, HL.out.i5, HL.out.i6⟩⟩
    · rintro b a wx hb hd ⟨v4, v5, v11, v12, v13, rfl, HL⟩ K hK
      simp [Region.binds] at hd
      obtain rfl := HL.out.x hd
      go_simp
      go_at_call 25
      refine (content_any s HO.out wx).mono ?_
      rintro e wy ⟨rfl, By⟩
      have HM := Lib.hid (HL.out.grow By)
      try go_simp
      refine hK _ _ ⟨v4, v5, _, _, v13, rfl, Lib.hid ⟨HM.out.below, HM.out.x, fun _ => rfl, HM.out.m, HM.out.p, HM.out.r, HM.out.i5, HM.out.i6⟩⟩
    · rintro b a wx hb hd ⟨v4, v5, v11, v12, v13, rfl, HL⟩ K hK
      have hmk := run_make_bytes wx 123 (by omega)
      have RN := alloc_row wx (List.replicate 123 0)
      have BN := (Below.refl wx.heap.size wx).alloc (Nat.le_refl _) (.cells (vals (List.replicate 123 0)).toArray 5)
      have HM := Lib.hid (And.intro RN (HL.out.grow BN))
      clear RN BN
      generalize wx.alloc (.cells (vals (List.replicate 123 0)).toArray 5) = wy at *
      refine if_wanted rfl (wp_make 28 (.const (.int .i64 123)) (.const (.int .i64 123)) rfl _ _ hmk ?_)
      refine hK _ _ ⟨v4, v5, v11, v12, _, rfl, Lib.hid ⟨HM.out.2.below, HM.out.2.x, HM.out.2.c, fun _ => ⟨_, rfl, HL.out.below.size, HM.out.1⟩, HM.out.2.p, fun e => ?_, HM.out.2.i5, fun e => ⟨(HM.out.2.i6 e).1, rfl⟩⟩⟩
      obtain ⟨r, v, h1, h2, h3, h4⟩ := HM.out.2.r e
      exact ⟨r, v, h1, h2, h3, fun e6 => by have := (HM.out.2.i6 e6).2; rw [hb] at this; cases this⟩
    · rintro b a wx hb hd ⟨v4, v5, v11, v12, v13, rfl, HL⟩ K hK
      have RN := alloc_rowV wx 55 (cvals fun _ => 0)
      change RowV (wx.alloc (.cells #[.int .u64 0, .int .u64 0, .int .u64 0, .int .u64 0, .int .u64 0, .int .u64 0, .int .u64 0, .int .u64 0, .int .u64 0, .int .u64 0, .int .u64 0, .int .u64 0, .int .u64 0, .int .u64 0, .int .u64 0, .int .u64 0, .int .u64 0, .int .u64 0, .int .u64 0] 55)) _ _ _ at RN
      have HM := Lib.hid (And.intro RN (HL.out.grow ((Below.refl wx.heap.size wx).alloc (Nat.le_refl _) (.cells #[.int .u64 0, .int .u64 0, .int .u64 0, .int .u64 0, .int .u64 0, .int .u64 0, .int .u64 0, .int .u64 0, .int .u64 0, .int .u64 0, .int .u64 0, .int .u64 0, .int .u64 0, .int .u64 0, .int .u64 0, .int .u64 0, .int .u64 0, .int .u64 0, .int .u64 0] 55))))
      clear RN
      go_simp
      generalize wx.alloc (.cells #[.int .u64 0, .int .u64 0, .int .u64 0, .int .u64 0, .int .u64 0, .int .u64 0, .int .u64 0, .int .u64 0, .int .u64 0, .int .u64 0, .int .u64 0, .int .u64 0, .int .u64 0, .int .u64 0, .int .u64 0, .int .u64 0, .int .u64 0, .int .u64 0, .int .u64 0] 55) = wy at *
      refine hK _ _ ⟨_, v5, v11, v12, v13, rfl, Lib.hid ⟨HM.out.2.below, HM.out.2.x, HM.out.2.c, HM.out.2.m, fun _ => ⟨_, rfl, HL.out.below.size, _, HM.out.1, fun e5 => by have := HM.out.2.i5 e5; rw [hb] at this; cases this⟩, HM.out.2.r, fun _ => rfl, HM.out.2.i6⟩⟩
    · rintro b a wx hb hd ⟨v4, v5, v11, v12, v13, rfl, HL⟩ K hK
      have RN := alloc_rowV wx 28 [.slice none 0 0]
      change RowV (wx.alloc (.cells #[.slice none 0 0] 28)) _ _ _ at RN
      have HM := Lib.hid (And.intro RN (HL.out.grow ((Below.refl wx.heap.size wx).alloc (Nat.le_refl _) (.cells #[.slice none 0 0] 28))))
      clear RN
      go_simp
      generalize wx.alloc (.cells #[.slice none 0 0] 28) = wy at *
      refine hK _ _ ⟨v4, _, v11, v12, v13, rfl, Lib.hid ⟨HM.out.2.below, HM.out.2.x, HM.out.2.c, HM.out.2.m, HM.out.2.p, fun _ => ⟨_, _, rfl, HL.out.below.size, HM.out.1, fun e6 => by have := (HM.out.2.i6 e6).1; rw [hb] at this; cases this⟩, HM.out.2.i5, fun e => ⟨rfl, (HM.out.2.i6 e).2⟩⟩⟩
    · rintro b a wx hb hd ⟨v4, v5, v11, v12, v13, rfl, HL⟩ K hK
      simp [Region.binds] at hd
      obtain ⟨h3, h1, -⟩ := hd
      obtain rfl := HL.out.c h1
      obtain ⟨q, rfl, hq, f, hrow, -⟩ := HL.out.p h3
      have HQ := Lib.hid (And.intro hq hrow)
      clear hq hrow
      refine if_wanted rfl (wp_store_row 55 (.tmp 4) (.tmp 12) rfl q (cvals (cont s)).toArray rfl rfl _ _ HQ.out.2 (size_cvals _) (by simp [length_cvals]) (one_cvals _) ?_)
      refine hK _ _ ⟨_, v5, v11, _, v13, rfl, Lib.hid ⟨HL.out.below.trans (setRow_below _ HQ.out.1), HL.out.x, HL.out.c, fun e => ?_, fun _ => ⟨q, rfl, HQ.out.1, cont s, row_setRow_same HQ.out.2, fun _ => rfl⟩, fun e => ?_, fun _ => h3, HL.out.i6⟩⟩
      · obtain ⟨g, k1, k2, k3⟩ := HL.out.m e
        exact ⟨g, k1, k2, row_setRow_other k3 _ (row_ne k3 HQ.out.2 (by decide))⟩
      · obtain ⟨r, v, k1, k2, k3, k4⟩ := HL.out.r e
        exact ⟨r, v, k1, k2, row_setRow_other k3 _ (row_ne k3 HQ.out.2 (by decide)), k4⟩
    · rintro b a wx hb hd ⟨v4, v5, v11, v12, v13, rfl, HL⟩ K hK
      simp [Region.binds] at hd
      obtain ⟨h4, h2, -⟩ := hd
      obtain ⟨g, rfl, hg, hgrow⟩ := HL.out.m h2
      obtain ⟨r, v, rfl, hr, hrow, -⟩ := HL.out.r h4
      have HQ := Lib.hid (And.intro hr hrow)
      have hc := hrow.cellAt (i := 0) rfl
      have hfz := hrow.free 0
      clear hr hrow hg hgrow
      go_simp
      refine hK _ _ ⟨v4, _, v11, v12, _, rfl, Lib.hid ⟨HL.out.below.setCell (p := ⟨r, 0, none⟩) HQ.out.1 _, HL.out.x, HL.out.c, fun e => ?_, fun e => ?_, fun _ => ⟨r, _, rfl, HQ.out.1, (show RowV _ r _ _ from HQ.out.2.set 0 _), fun _ => rfl⟩, HL.out.i5, fun _ => ⟨h4, h2⟩⟩⟩
      · obtain ⟨g, k1, k2, k3⟩ := HL.out.m e
        exact ⟨g, k1, k2, k3.other (row_ne k3 HQ.out.2 (by decide))⟩
      · obtain ⟨q, k1, k2, f, k3, k4⟩ := HL.out.p e
        exact ⟨q, k1, k2, f, k3.other (row_ne k3 HQ.out.2 (by decide)), k4⟩
  case done =>
    rintro b a wx hb ⟨v4, v5, v11, v12, v13, rfl, HL⟩
    obtain rfl := HL.out.x (hb 0)
    obtain rfl := HL.out.c (hb 1)
    obtain ⟨g, rfl, hg, hgrow⟩ := HL.out.m (hb 2)
    obtain ⟨q, rfl, hq, f, hqrow, hfc⟩ := HL.out.p (hb 3)
    obtain ⟨r, v, rfl, hr, hrrow, hvc⟩ := HL.out.r (hb 4)
    obtain rfl := hfc (hb 5)
    obtain rfl := hvc (hb 6)
    have HX := Lib.hid (And.intro hg (And.intro hq hr))
    have HG := Lib.hid hgrow
    have HQ := Lib.hid hqrow
    have HRr := Lib.hid hrrow
    have HB := Lib.hid (HB2.out.trans (HL.out.below.mono HB2.out.size))
    clear hg hgrow hq hqrow hfc hr hrrow hvc HL hb HR2
    go_wp2_with fail
    refine (callsIn_wide.1 (numbers_any 5 q _)).mono ?_
    rintro e w' ⟨rfl, rfl⟩
    go_wp2_with fail
    have bN := alloc_rowV wx 75 [.pointer (some ⟨q, 0, none⟩)]
    have kN := (Below.refl wx.heap.size wx).alloc (Nat.le_refl _) (.cells #[.pointer (some ⟨q, 0, none⟩)] 75)
    have sN : (wx.alloc (.cells #[.pointer (some ⟨q, 0, none⟩)] 75)).heap.size = wx.heap.size + 1 := by simp
    change RowV (wx.alloc (.cells #[.pointer (some ⟨q, 0, none⟩)] 75)) _ _ _ at bN
    generalize wx.alloc (.cells #[.pointer (some ⟨q, 0, none⟩)] 75) = W0 at *
    have hg0 : Pen W0 g (cbody (told [] (cont s))) := by
      have := HG.out.below HG.out.lt kN
      have hrow : Row W0 g (List.replicate 123 0) := this
      exact ⟨by rw [told_nil, cbody_zero]; exact hrow.has, hrow.free 0 123, length_cbody _⟩
    have hq0 := HQ.out.below HQ.out.lt kN
    have hr0 := HRr.out.below HRr.out.lt kN
    have hlt := And.intro HG.out.lt (And.intro HQ.out.lt HRr.out.lt)
    have HB0 := HB.out.trans (kN.mono HB.out.size)
    have HY := Lib.hid (And.intro hlt sN)
    obtain ⟨hgw, hqw, hrw⟩ := HX.out
    have hc0 := bN.cellAt (i := 0) rfl
    have h2w := HB2.out.size
    have HY0 := Lib.hid (And.intro hlt.1 hgw)
    have HNE := Lib.hid (And.intro (row_ne hq0 (show RowV W0 g 5 _ from HG.out.below HG.out.lt kN) (by decide)) (row_ne hr0 (show RowV W0 g 5 _ from HG.out.below HG.out.lt kN) (by decide)))
    refine (wpIn_wide (n := 5)).1 ?_
    refine wpIn_rangeFunc_ownH rfl (by decide) (gf := 38) (lb := #[.pointer (some ⟨wx.heap.size, 0, none⟩)]) rfl trivial (enters_of Try.func38 (by kernel_rfl) rfl)
      (numbers_stops (5 - 1) (by decide) wx.heap.size w.heap.size q W0 (by omega) (by omega) hc0) keep_t (keep_b (by omega) (by omega)) (Below.refl _ _) (fun _ => rfl)
      (fun pre W => ((Pen W g (cbody (told pre (cont s))) ∧ RowV W q 55 (cvals (cont s))) ∧ RowV W r 28 [.slice (some ⟨g, 0, none⟩) 123 123]) ∧ Below w.heap.size W0 W)
      (fun _ _ _ => False)
      (OwnFrom.and (OwnFrom.and (OwnFrom.and (Own.from (pen_own g (fun pre => cbody (told pre (cont s)))) _) (Own.from (rowV_own q _ (fun _ => cvals (cont s))) _)) (Own.from (rowV_own r _ (fun _ => [.slice (some ⟨g, 0, none⟩) 123 123])) _)) (ownFrom_below (by omega) (by omega)))
      (fun _ _ _ _ _ hs _ _ => hs)
      ⟨⟨⟨hg0, hq0⟩, hr0⟩, Below.refl _ _⟩
      (fun x a' W => ∃ Bx, wx.heap.size < Bx ∧ RowV W Bx 61 [.int .i64 (pos x.val : Int), .int .i64 (size x.val : Int)] ∧ a' = ⟨#[.agg (scells s).toArray, .pointer (some ⟨w.heap.size, 0, none⟩), .slice none 0 0, .int .i64 0, .pointer (some ⟨q, 0, none⟩), .pointer (some ⟨r, 0, none⟩), .pointer (some ⟨Bx, 0, none⟩), .pointer (some ⟨q, x.val, none⟩), .agg (scells s).toArray, .bool true, .bool false, .agg (scells s).toArray, .agg (cvals (cont s)).toArray, .slice (some ⟨g, 0, none⟩) 123 123, .func (.func 38) #[] #[.pointer (some ⟨wx.heap.size, 0, none⟩)], .agg #[.int .i64 (pos x.val : Int), .int .i64 (size x.val : Int)], .pointer (some ⟨q, x.val, none⟩), undef, undef, undef, undef, undef, undef, undef, undef, undef, undef, undef, undef, undef], []⟩)
      ?hax ?assign ?body ?done ?stop
    case hax =>
      rintro x a' _ X Y row ⟨Bx, h1, h2, h3⟩ hg hr
      exact ⟨Bx, h1, rowV_own (β := Unit) Bx _ (fun _ => _) () X Y row h2 hg (fun r e => (hr r e).2), h3⟩
    case assign =>
      intro l pre x W K hI hK
      unfold encs
      gi_wp2
      obtain ⟨⟨⟨hp, hqr⟩, hrr⟩, hB⟩ := hI
      have kA := (Below.refl W.heap.size W).alloc (Nat.le_refl _) (.cells #[.int .i64 (pos x.val : Int), .int .i64 (size x.val : Int)] 61)
      have hgW := has_lt' hp.has (by rw [hp.len]; decide)
      refine hK _ _ ((KeepsOthers.alloc _ _).from _) ⟨kA.mono (by have := hB.size; omega), kA.block _ ?_⟩ ⟨⟨⟨⟨hp.has.below hgW kA, fun i hi => (kA.frozen (p := ⟨g, 0 + i, none⟩) hgW).trans (hp.free i hi), hp.len⟩, hqr.below hqr.lt kA⟩, hrr.below hrr.lt kA⟩, hB.trans (kA.mono (by have := hB.size; omega))⟩ ⟨W.heap.size, ?_, alloc_rowV W 61 [.int .i64 (pos x.val : Int), .int .i64 (size x.val : Int)], rfl⟩
      · have := hB.size; omega
      · have := hB.size; omega
    case body =>
      rintro l pre x a' W hl ⟨r', hr'⟩ ⟨⟨⟨hp, hqr⟩, hrr⟩, hB⟩ ⟨Bx, hBx, bX, rfl⟩ hlt
      have x0 := bX.cellAt (i := 0) rfl
      have x1 := bX.cellAt (i := 1) rfl
      have y0 := hrr.cellAt (i := 0) rfl
      have z0 := hqr.cellAt (cvals_at (cont s) x.val x.isLt)
      have hmx : Try.prog.follows .mixedOrders = true := by kernel_rfl
      have HPP := Lib.hid hp
      have HPN := Lib.hid (show Calls Try.prog 27 #[.slice (some ⟨g, 0, none⟩) 123 123, .int .i64 (pos x.val : Int), .int .i64 (size x.val : Int), .int .u64 (cont s x.val : Int)] W.drew _ from put_pen (w := W.drew) (g := g) (bs := cbody (told pre (cont s))) ⟨hp.has.still ⟨rfl, rfl, rfl, rfl⟩, hp.free, hp.len⟩ (pos x.val) (size x.val) (cont s x.val) (size_range _).1 (size_range _).2 (pos_size _ x.isLt) (cont_lt HO.out x.val))
      have hmt : (cbody (told pre (cont s))).take (pos x.val) ++ bytesOf (cont s x.val) (size x.val) ++ (cbody (told pre (cont s))).drop (pos x.val + size x.val) = cbody (told (pre ++ [x]) (cont s)) := by rw [cbody_put _ _ _ x.isLt, told_snoc]
      rw [hmt] at HPN
      clear hp hmt
      gi_wp2
      refine InvIn.wpIn_region_inv (fun b a wy => ∃ u17 u18 u19 u20 u21 u22 u23 u24 u25, a = ⟨#[.agg (scells s).toArray, .pointer (some ⟨w.heap.size, 0, none⟩), .slice none 0 0, .int .i64 0, .pointer (some ⟨q, 0, none⟩), .pointer (some ⟨r, 0, none⟩), .pointer (some ⟨Bx, 0, none⟩), .pointer (some ⟨q, x.val, none⟩), .agg (scells s).toArray, .bool true, .bool false, .agg (scells s).toArray, .agg (cvals (cont s)).toArray, .slice (some ⟨g, 0, none⟩) 123 123, .func (.func 38) #[] #[.pointer (some ⟨wx.heap.size, 0, none⟩)], .agg #[.int .i64 (pos x.val : Int), .int .i64 (size x.val : Int)], .pointer (some ⟨q, x.val, none⟩), u17, u18, u19, u20, u21, u22, u23, u24, u25, undef, undef, undef, undef], []⟩ ∧ Hid ((b 0 = true → u17 = .slice (some ⟨g, 0, none⟩) 123 123) ∧ (b 1 = true → u18 = .pointer (some ⟨Bx, 0, none⟩)) ∧ (b 2 = true → u19 = .int .i64 (pos x.val : Int)) ∧ (b 3 = true → u20 = .pointer (some ⟨Bx, 1, none⟩)) ∧ (b 4 = true → u21 = .int .i64 (size x.val : Int)) ∧ (b 5 = true → u22 = .pointer (some ⟨q, x.val, none⟩)) ∧ (b 6 = true → u23 = .pointer (some ⟨q, x.val, none⟩)) ∧ (b 7 = true → u24 = .int .u64 (cont s x.val : Int))) ∧ Hid (b 8 = true → b 0 = true ∧ b 2 = true ∧ b 4 = true ∧ b 7 = true) ∧ Hid (b 8 = false → wy = W.drew) ∧ Hid (b 8 = true → Pen wy g (cbody (told (pre ++ [x]) (cont s))) ∧ Wrote W.drew wy g (pos x.val) (pos x.val + size x.val))) hmx (by kernel_rfl) ?start2 ?steps2 ?done2
      case start2 =>
        intro b hb
        refine ⟨undef, undef, undef, undef, undef, undef, undef, undef, undef, rfl, Lib.hid ⟨?_, ?_, ?_, ?_, ?_, ?_, ?_, ?_⟩, Lib.hid ?_, Lib.hid (fun _ => rfl), Lib.hid ?_⟩
        all_goals (intro e; rw [hb _ (by decide)] at e; cases e)
      case steps2 =>
        refine ⟨?_, ?_, ?_, ?_, ?_, ?_, ?_, ?_, ?_, trivial⟩
        · rintro b a wy hb hd ⟨u17, u18, u19, u20, u21, u22, u23, u24, u25, rfl, HV, HD, HN, HY⟩ K hK
          obtain ⟨h0, h1, h2, h3, h4, h5, h6, h7⟩ := HV.out
          have h8f : b 8 = false := by
            cases e8 : b 8 with
            | false => rfl
            | true => have := (HD.out e8).1; rw [hb] at this; cases this
          obtain rfl := HN.out h8f
          go_simp
          exact hK _ _ ⟨_, _, _, _, _, _, _, _, _, rfl, Lib.hid ⟨fun _ => rfl, h1, h2, h3, h4, h5, h6, h7⟩, Lib.hid (fun e => ⟨rfl, (HD.out e).2.1, (HD.out e).2.2.1, (HD.out e).2.2.2⟩), HN, HY⟩
        · rintro b a wy hb hd ⟨u17, u18, u19, u20, u21, u22, u23, u24, u25, rfl, HV, HD, HN, HY⟩ K hK
          obtain ⟨h0, h1, h2, h3, h4, h5, h6, h7⟩ := HV.out
          go_simp
          exact hK _ _ ⟨_, _, _, _, _, _, _, _, _, rfl, Lib.hid ⟨h0, fun _ => rfl, h2, h3, h4, h5, h6, h7⟩, HD, HN, HY⟩
        · rintro b a wy hb hd ⟨u17, u18, u19, u20, u21, u22, u23, u24, u25, rfl, HV, HD, HN, HY⟩ K hK
          simp [Region.binds] at hd
          obtain ⟨h0, h1, h2, h3, h4, h5, h6, h7⟩ := HV.out
          obtain rfl := h1 hd
          have h8f : b 8 = false := by
            cases e8 : b 8 with
            | false => rfl
            | true => have := (HD.out e8).2.1; rw [hb] at this; cases this
          obtain rfl := HN.out h8f
          go_simp
          exact hK _ _ ⟨_, _, _, _, _, _, _, _, _, rfl, Lib.hid ⟨h0, h1, fun _ => rfl, h3, h4, h5, h6, h7⟩, Lib.hid (fun e => ⟨(HD.out e).1, rfl, (HD.out e).2.2.1, (HD.out e).2.2.2⟩), HN, HY⟩
        · rintro b a wy hb hd ⟨u17, u18, u19, u20, u21, u22, u23, u24, u25, rfl, HV, HD, HN, HY⟩ K hK
          obtain ⟨h0, h1, h2, h3, h4, h5, h6, h7⟩ := HV.out
          go_simp
          exact hK _ _ ⟨_, _, _, _, _, _, _, _, _, rfl, Lib.hid ⟨h0, h1, h2, fun _ => rfl, h4, h5, h6, h7⟩, HD, HN, HY⟩
        · rintro b a wy hb hd ⟨u17, u18, u19, u20, u21, u22, u23, u24, u25, rfl, HV, HD, HN, HY⟩ K hK
          simp [Region.binds] at hd
          obtain ⟨h0, h1, h2, h3, h4, h5, h6, h7⟩ := HV.out
          obtain rfl := h3 hd
          have h8f : b 8 = false := by
            cases e8 : b 8 with
            | false => rfl
            | true => have := (HD.out e8).2.2.1; rw [hb] at this; cases this
          obtain rfl := HN.out h8f
          go_simp
          exact hK _ _ ⟨_, _, _, _, _, _, _, _, _, rfl, Lib.hid ⟨h0, h1, h2, h3, fun _ => rfl, h5, h6, h7⟩, Lib.hid (fun e => ⟨(HD.out e).1, (HD.out e).2.1, rfl, (HD.out e).2.2.2⟩), HN, HY⟩
        · rintro b a wy hb hd ⟨u17, u18, u19, u20, u21, u22, u23, u24, u25, rfl, HV, HD, HN, HY⟩ K hK
          obtain ⟨h0, h1, h2, h3, h4, h5, h6, h7⟩ := HV.out
          go_simp
          exact hK _ _ ⟨_, _, _, _, _, _, _, _, _, rfl, Lib.hid ⟨h0, h1, h2, h3, h4, fun _ => rfl, h6, h7⟩, HD, HN, HY⟩
        · rintro b a wy hb hd ⟨u17, u18, u19, u20, u21, u22, u23, u24, u25, rfl, HV, HD, HN, HY⟩ K hK
          simp [Region.binds] at hd
          obtain ⟨h0, h1, h2, h3, h4, h5, h6, h7⟩ := HV.out
          obtain rfl := h5 hd
          go_simp
          exact hK _ _ ⟨_, _, _, _, _, _, _, _, _, rfl, Lib.hid ⟨h0, h1, h2, h3, h4, h5, fun _ => rfl, h7⟩, HD, HN, HY⟩
        · rintro b a wy hb hd ⟨u17, u18, u19, u20, u21, u22, u23, u24, u25, rfl, HV, HD, HN, HY⟩ K hK
          simp [Region.binds] at hd
          obtain ⟨h0, h1, h2, h3, h4, h5, h6, h7⟩ := HV.out
          obtain rfl := h6 hd
          have h8f : b 8 = false := by
            cases e8 : b 8 with
            | false => rfl
            | true => have := (HD.out e8).2.2.2; rw [hb] at this; cases this
          obtain rfl := HN.out h8f
          go_simp
          exact hK _ _ ⟨_, _, _, _, _, _, _, _, _, rfl, Lib.hid ⟨h0, h1, h2, h3, h4, h5, h6, fun _ => rfl⟩, Lib.hid (fun e => ⟨(HD.out e).1, (HD.out e).2.1, (HD.out e).2.2.1, rfl⟩), HN, HY⟩
        · rintro b a wy hb hd ⟨u17, u18, u19, u20, u21, u22, u23, u24, u25, rfl, HV, HD, HN, HY⟩ K hK
          simp [Region.binds] at hd
          obtain ⟨h0, h1, h2, h3, h4, h5, h6, h7⟩ := HV.out
          obtain rfl := h0 hd.1
          obtain rfl := h2 hd.2.1
          obtain rfl := h4 hd.2.2.1
          obtain rfl := h7 hd.2.2.2
          obtain rfl := HN.out hb
          go_simp
          refine ⟨trivial, ?_⟩
          gi_at_call 27
          refine (CallsIn.inRound l (callsIn_wide.2 HPN.out)).mono ?_
          rintro e w9 ⟨rfl, P9, D9⟩
          try go_simp
          exact hK _ _ ⟨_, _, _, _, _, _, _, _, _, rfl, Lib.hid ⟨h0, h1, h2, h3, h4, h5, h6, h7⟩, Lib.hid (fun _ => hd), Lib.hid (fun e => by simp [Inv.mark] at e), Lib.hid (fun _ => ⟨P9, D9⟩)⟩
      case done2 =>
        rintro b a wy hb ⟨u17, u18, u19, u20, u21, u22, u23, u24, u25, rfl, HV, HD, HN, HY⟩
        obtain ⟨P9, D9⟩ := HY.out (hb 8)
        have kd := (show Still W W.drew from ⟨rfl, rfl, rfl, rfl⟩)
        have hBg := hB.size
        have hgx := HY0.out
        gi_wp2
        refine ⟨(KeepsFrom.trans ((KeepsOthers.drew W).from _) (wrote_keeps D9 (by omega))), ⟨(kd.below _).trans (D9.below (by omega)), ?_⟩, ⟨⟨P9, ?_⟩, ?_⟩, hB.trans ((kd.below _).trans (D9.below (by omega)))⟩
        · exact (D9.block _ (by omega)).trans rfl
        · exact (hqr.still kd).block (D9.block _ HNE.out.1)
        · exact (hrr.still kd).block (D9.block _ HNE.out.2)
    case done =>
      rintro D ys W hD rfl ⟨⟨⟨hp, hqr⟩, hrr⟩, hB⟩ hK
      have c0 := hrr.cellAt (i := 0) rfl
      rw [cbody_order] at hp
      have hDw : w.heap.size ≤ D := by omega
      have hDl : D < W.heap.size := (Array.getElem?_eq_some_iff.1 hK).1
      have HPP := Lib.hid hp
      have HKK := Lib.hid (And.intro hK hDl)
      have HBW := Lib.hid (HB0.trans hB)
      clear hp hqr hK hrr
      go_wp2_with fail
      refine (seal_any 6 _ 123 123 (cbody (cont s)) (length_cbody _) W (by decide) HPP.out.has.told).mono ?_
      rintro e w20 ⟨g2, rfl, F⟩
      have HFR := Lib.hid F
      clear F
      go_wp2_with fail
      have hK6 := (HFR.out.below.block D HKK.out.2).trans HKK.out.1
      refine ⟨by simp, .inl ⟨_, _, rfl, run_takeDeferred hK6, ?_⟩⟩
      refine ⟨_, results_tmp2 rfl _ _ _, g2, rfl, ?_⟩
      have hlo := HFR.out.lo
      have hne : (w20.putObj D (.deferred none)).heap[g2]? = w20.heap[g2]? := World.putObj_heap_other (by have := HKK.out.2; omega)
      refine ⟨(HBW.out.trans (HFR.out.below.mono HBW.out.size)).trans (belowK_b (w := w) (Nat.le_refl _) _ D _ _ hDw hK6 rfl rfl), Nat.le_trans HBW.out.size hlo, by simpa using HFR.out.hi, fun i hi => (World.cell?_of_block (a := ⟨g2, 0 + i, none⟩) hne).trans (HFR.out.has i hi), fun i hi => ?_, HFR.out.len, HFR.out.cap⟩
      have := HFR.out.free i hi
      unfold World.frozen? at this ⊢
      simp only [hne]
      exact this
    case stop =>
      rintro D c pre W _ _ h _
      exact h.elim
end Go.Proofs.Ytkhimoclikhlaaa.Su
