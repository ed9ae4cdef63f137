/- Contract: index.Decode. -/
import Derived.Test.YtpkfcbbnfhjjlaaIxC
import Derived.RangeFuncNested
namespace Go.Proofs.Ytpkfcbbnfhjjlaa.Ix
open Go.RowKit Go.Shelf Go.Proofs.Ytpkfcbbnfhjjlaa.Oct Go.Proofs.Ytpkfcbbnfhjjlaa.Sf
set_option linter.unusedVariables false
attribute [local go_sem] Oper.semAt_some

def DecNo (w : World) (e : Ending) (w' : World) : Prop := e = .returned (.tuple #[.slice none 0 0, .int .i64 50]) ∧ Below w.heap.size w w'

theorem bytes_equal (a c : Option Addr) (len len' cap cap' : Nat) (xs ys : List UInt8) (hx' : xs.length = len) (hy' : ys.length = len') (w : World) (hx : Oct.Told w a xs) (hy : Oct.Told w c ys) :
    Calls Try.prog 28 #[.slice a len cap, .slice c len' cap'] w fun e w' => e = .returned (.bool (xs == ys)) ∧ w = w' := by
  subst hx' hy'
  have k1 := conv_told (P := Try.prog) hx cap 23 9 5 Try.underlying23 Try.underlying5 Try.underlying9
  have k2 := conv_told (P := Try.prog) hy cap' 23 9 5 Try.underlying23 Try.underlying5 Try.underlying9
  clear hx hy
  go_enter Try.func28, Try.ntmps28
  go_wp2
  go_ret
  exact ⟨rfl, rfl⟩
theorem has_lt {w : World} {b o : Nat} {bs : List UInt8} (h : Has w b o bs) (h0 : 0 < bs.length) : b < w.heap.size := World.block_lt_of_cell? w _ (h 0 h0)

set_option maxRecDepth 100000 in
set_option maxHeartbeats 1000000 in
theorem decode_len (k : UInt8) (a : Option Addr) (len cap : Nat) (w : World) (h : len ≠ 128) (hm : len ≤ maxLen) :
    Calls Try.prog 13 #[.int .u8 (k.toNat : Int), .slice a len cap] w (DecNo w) := by
  refine (callsIn_wide (n := 5)).1 ?_
  refine callsIn_of_wp_marks Try.func13 rfl trivial ?_ rfl
  simp only [Try.ntmps13, List.size_toArray, List.length_cons, List.length_nil, Nat.reduceAdd, Nat.reduceSub, Array.replicate_succ, Array.replicate_zero, List.push_toArray, List.append_toArray, List.nil_append, List.cons_append]
  gi_wp2_with (refine ⟨trivial, ?_⟩; gi_at_call 26; refine (callsIn_wide.2 (open_len a len cap _ h hm)).mono ?_; rintro e w' ⟨rfl, rfl⟩)
  exact ⟨_, results_tmp2 rfl _ _ _, rfl, Below.refl _ _⟩

set_option maxRecDepth 100000 in
set_option maxHeartbeats 1000000 in
theorem decode_sum (k : UInt8) (b o cap : Nat) (ps : List UInt8) (w : World) (hb : Has w b o ps) (hlen : ps.length = 128) (hc : 128 ≤ cap) (hm : cap ≤ maxLen) (hs : ¬ Oct.Good ps) :
    Calls Try.prog 13 #[.int .u8 (k.toNat : Int), .slice (some ⟨b, o, none⟩) 128 cap] w (DecNo w) := by
  refine (callsIn_wide (n := 5)).1 ?_
  refine callsIn_of_wp_marks Try.func13 rfl trivial ?_ rfl
  simp only [Try.ntmps13, List.size_toArray, List.length_cons, List.length_nil, Nat.reduceAdd, Nat.reduceSub, Array.replicate_succ, Array.replicate_zero, List.push_toArray, List.append_toArray, List.nil_append, List.cons_append]
  gi_wp2_with (refine ⟨trivial, ?_⟩; gi_at_call 26; refine (callsIn_wide.2 (open_bad b o cap ps _ hb hlen hc hm (fun e => hs e))).mono ?_; rintro e w' ⟨rfl, S2⟩)
  exact ⟨_, results_tmp2 rfl _ _ _, rfl, S2.below _⟩

/-- The slice v is the call's own, and holds the numbers l. -/
def OwnW (w : World) (base : Nat) (v : Value) (l : List UInt16) : Prop := w.ownsRow base 43 1 v l.length (wvals l)
theorem OwnW.told {w : World} {base : Nat} {v : Value} {l : List UInt16} (h : OwnW w base v l) : ∃ a cap, v = .slice a l.length cap ∧ Wd w a l.length cap l ∧ (a = none → cap = 0) := by
  rcases h.2 with ⟨rfl, h0⟩ | ⟨g, cap, cur, rfl, hb, hg, hn, hm, hs, ht⟩
  · have : l = [] := List.eq_nil_of_length_eq_zero h0
    subst this
    exact ⟨none, 0, rfl, ⟨rfl, Nat.le_refl _, Nat.zero_le _, .inl rfl⟩, fun _ => rfl⟩
  · have hh : HasV w g 0 (wvals l) := fun i hi => by
      rw [Nat.zero_add]
      rw [length_wvals] at hi
      have := World.ownsRow.cellAt h i (by omega)
      rw [this]
      simp [wvals, hi]
    exact ⟨_, cap, rfl, ⟨rfl, hn, hm, hh.told⟩, fun e => by cases e⟩
theorem OwnW.base {w : World} {base base' : Nat} {v : Value} {l : List UInt16} (h : OwnW w base v l) (hb : base' ≤ base) : OwnW w base' v l := by
  refine ⟨h.1, ?_⟩
  rcases h.2 with h0 | ⟨g, cap, cur, rfl, hb', rest⟩
  · exact .inl h0
  · exact .inr ⟨g, cap, cur, rfl, Nat.le_trans hb hb', rest⟩
theorem OwnW.same {w w' : World} {base : Nat} {v : Value} {l : List UInt16} (h : OwnW w base v l) (hk : ∀ k, v.ownBlock = some k → k < w.heap.size → w'.heap[k]? = w.heap[k]?) : OwnW w' base v l := by
  refine ⟨h.1, ?_⟩
  rcases h.2 with hn | ⟨g, cap, cur, rfl, hb, hgg, rest⟩
  · exact .inl hn
  · refine .inr ⟨g, cap, cur, rfl, hb, ?_, rest⟩
    rw [hk g rfl (Array.getElem?_eq_some_iff.1 hgg).1]
    exact hgg
theorem OwnW.below {w w' : World} {base B : Nat} {v : Value} {l : List UInt16} (h : OwnW w base v l) (k : Below B w w') (hB : w.heap.size ≤ B) : OwnW w' base v l := h.same fun i _ hi => k.block i (by omega)
theorem wIn_upto (ps : List UInt8) : upto (bodyIn ps) (min (cAt (bodyIn ps)) 61) = wIn ps := rfl
theorem boxed_below {w w' : World} {B C : Nat} {t : TypeId} {v : Value} (h : Boxed w B t v) (k : Below C w w') (hC : B < C) : Boxed w' B t v := (k.block B hC).trans h

def DecYes (w : World) (l : List UInt16) (e : Ending) (w' : World) : Prop := ∃ v, e = .returned (.tuple #[v, .int .i64 0]) ∧ OwnW w' w.heap.size v l ∧ Below w.heap.size w w'
theorem word_info : (Try.prog.info? 43).map (fun i => (i.zero, i.size, i.bytes)) = some (some (.int .u16 0), 1, 2) := by kernel_rfl

set_option maxRecDepth 100000 in
set_option maxHeartbeats 2000000 in
theorem decode_good (k : UInt8) (b o cap : Nat) (ps : List UInt8) (w : World) (hb : Has w b o ps) (hlen : ps.length = 128) (hc : 128 ≤ cap) (hm : cap ≤ maxLen) (hs : Oct.Good ps) :
    Calls Try.prog 13 #[.int .u8 (k.toNat : Int), .slice (some ⟨b, o, none⟩) 128 cap] w (fun e w' => (Holds k ps ∧ DecYes w (wIn ps) e w') ∨ (¬ Holds k ps ∧ DecNo w e w')) := by
  obtain ⟨i0, hi, hz0, hz1, hz2⟩ := info_parts word_info
  have HB := Lib.hid hb
  have HL := Lib.hid hlen
  have HS := Lib.hid hs
  have HO := Lib.hid (open_good b o cap ps w hb hlen hc hm hs)
  have hbl : (bodyIn ps).length = 123 := by simp [bodyIn, hlen]
  have hcl : cAt (bodyIn ps) < 256 := by
    have := num_lt ((bodyIn ps).take 1)
    rw [show ((bodyIn ps).take 1).length = 1 by simp [hbl]] at this
    exact this
  have HBL := Lib.hid hbl
  generalize (ps[0]'(by omega)) = kd at HO
  clear hb hlen hs hbl
  refine (callsIn_wide (n := 5)).1 ?_
  refine callsIn_of_wp_marks Try.func13 rfl trivial ?_ rfl
  simp only [Try.ntmps13, List.size_toArray, List.length_cons, List.length_nil, Nat.reduceAdd, Nat.reduceSub, Array.replicate_succ, Array.replicate_zero, List.push_toArray, List.append_toArray, List.nil_append, List.cons_append]
  gi_wp2_with (first | (refine ⟨trivial, ?_⟩; gi_at_call 26; refine (callsIn_wide.2 HO.out).mono ?_; rintro e w2 ⟨g, rfl, F⟩; have HF := Lib.hid F; clear F) | (refine ⟨trivial, ?_⟩; gi_at_call 27; refine (numbers_any _ g _).mono ?_; rintro e w' ⟨rfl, rfl⟩))
  obtain ⟨g1, g2, g3, g4, g5, g6⟩ := HF.out
  have bO := Boxed.new w2 22 (.slice none 0 0)
  have bN := Boxed.new (w2.alloc (.cells #[.slice none 0 0] 22)) 23 (.slice (some ⟨g, 0, none⟩) 123 123)
  rw [World.size_alloc] at bN
  have hB0 : Below w2.heap.size w2 ((w2.alloc (.cells #[.slice none 0 0] 22)).alloc (.cells #[.slice (some ⟨g, 0, none⟩) 123 123] 23)) := ((Below.refl _ w2).alloc (Nat.le_refl _) _).alloc (by simp) _
  have hHs := g4.below (B := w2.heap.size) g3 hB0
  have hBB := Lib.hid HB
  refine wpIn_rangeFunc_ownG rfl (by decide) (gf := 36) (lb := #[.pointer (some ⟨w2.heap.size + 1, 0, none⟩)]) rfl trivial (enters_of Try.func36 (by kernel_rfl) rfl)
    (numbers_stops (5 - 1) (by decide) (w2.heap.size + 1) w2.heap.size g (bodyIn ps) HBL.out hcl _ (by omega) (by simp) (by simp; omega) bN.cell hHs) keep_t (keep_b (by simp; omega) (by simp)) (Below.refl _ _) (fun _ => rfl)
    (fun pre W => ((∃ v, Boxed W w2.heap.size 22 v ∧ W.ownsRow w2.heap.size 43 1 v pre.length (wvals pre) ∧ True) ∧ Boxed W (w2.heap.size + 1) 23 (.slice (some ⟨g, 0, none⟩) 123 123)) ∧ Below w2.heap.size w2 W)
    (fun _ _ _ => False)
    (OwnFrom.and (OwnFrom.and (Own.from (holdsRow_own w2.heap.size w2.heap.size 22 43 1 (fun pre => pre.length) (fun pre => wvals pre) (fun pre v => True)) _) (Own.from (boxed_own _ _ _) _)) (ownFrom_below (Nat.le_refl _) (by simp; omega)))
    (fun _ _ _ _ _ hs _ _ => hs)
    ⟨⟨⟨_, bO.alloc _, World.ownsRow_nil _ _ _ _, trivial⟩, bN⟩, hB0⟩
    (fun x => { tmps := #[.int .u8 (k.toNat : Int), .slice (some ⟨b, o, none⟩) 128 cap, undef, undef, .slice none 0 0, .int .i64 0, .int .u8 (kd.toNat : Int), .slice (some ⟨g, 0, none⟩) 123 123, .int .i64 0, .pointer (some ⟨w2.heap.size, 0, none⟩), .int .u16 (x.toNat : Int), undef, undef,
      .tuple #[.int .u8 (kd.toNat : Int), .slice (some ⟨g, 0, none⟩) 123 123, .int .i64 0], .slice (some ⟨b, o, none⟩) 128 cap, .tuple #[.int .u8 (kd.toNat : Int), .slice (some ⟨g, 0, none⟩) 123 123, .int .i64 0], .int .u8 (kd.toNat : Int), .slice (some ⟨g, 0, none⟩) 123 123, .int .i64 0, .int .i64 0, .bool false, .slice (some ⟨g, 0, none⟩) 123 123,
      .func (.func 36) #[] #[.pointer (some ⟨w2.heap.size + 1, 0, none⟩)], .int .u16 (x.toNat : Int), undef, undef, undef, undef, undef, undef, undef, undef, undef, undef, undef, undef, undef, undef, undef, undef, undef, undef, undef], defers := [] }) ?assign ?body ?done ?stop
  case assign =>
    intro l x W K hK
    gi_wp2
    exact hK
  case body =>
    rintro l pre x W ⟨⟨⟨v, hv, hrow, _⟩, hbx⟩, hB⟩ hlt
    have hc := hv.cell
    have hm1 : pre.length + 1 ≤ maxLen := by unfold maxLen; omega
    have hm2 : (pre.length + 1) * 2 ≤ 140737488355328 := by omega
    gi_wp2_with (gi_at_builtin; refine wpListIn_append_own _ rfl _ _ 22 rfl w2.heap.size 43 i0 (.int .u16 0) 1 2 Try.underlying22 hi hz0 hz1 hz2 rfl (by decide) _ _ _ rfl (hrow.alloc _) ⟨W.heap.size, 0, none⟩ 1 1 [.int .u16 (x.toNat : Int)] rfl rfl (cell_one_new _ _ _) (by simp [Value.oneCell']) hm1 hm2 (by have := hB.size; simp; omega) ?_; intro v' w1 hown' hgrow _; obtain ⟨g', cap', rfl⟩ := ownsRow_succ hown'; obtain ⟨hv1, hv2, hr2, hk2, hb2⟩ := hv.appended (by decide) hrow hB.size (Nat.le_refl _) hown' hgrow; have hbx1 := (hbx.alloc _).kept hgrow (hbx.not_row (by decide) hrow); have hc1 := hv1.cell; have hf1 := hv1.frozen)
    have hbx2 := Boxed.other (B' := w2.heap.size) hbx1 (by omega) (.slice (some ⟨g', 0, none⟩) (pre.length + 1) cap')
    refine ⟨hk2.from _, ⟨hb2, hbx2.trans hbx.symm⟩, ⟨⟨_, hv2, ?_, trivial⟩, hbx2⟩, hB.trans hb2⟩
    · rw [wvals_append, List.length_append]; simpa [wvals] using hr2
  case done =>
    rintro D ys W hD rfl ⟨⟨⟨v, hv, hrow, _⟩, hbx⟩, hBW⟩ hK
    rw [wIn_upto] at hrow
    obtain ⟨A, cp, rfl, hWd, _⟩ := OwnW.told hrow
    have hc := hv.cell
    have hDw := Lib.hid (show w.heap.size ≤ D by have := g1.size; simp at hD; omega)
    have hDl : D < W.heap.size := (Array.getElem?_eq_some_iff.1 hK).1
    have hle := wIn_le ps
    have hown : OwnW W w2.heap.size (.slice A (wIn ps).length cp) (wIn ps) := hrow
    have Hhw := Lib.hid (And.intro hown (And.intro hWd (And.intro hv (And.intro hK hDl))))
    have HBW := Lib.hid (g1.trans (hBW.mono g1.size))
    have HBB := Lib.hid (HB.out.below (has_lt HB.out (by rw [HL.out]; decide)) HBW.out)
    by_cases hkind : k = 4 ∨ k = 5
    · have HFT := Lib.hid (show Fit k (wIn ps) from ⟨hkind, hle⟩)
      have HEY := Lib.hid (encode_yes k hWd HFT.out)
      have HPL := Lib.hid (length_idxPage k (wIn ps) hle)
      have HHD := Lib.hid hkind
      clear hv hrow hown hWd hbx hK hkind
      by_cases heq : idxPage k (wIn ps) = ps
      · have HQ := Lib.hid heq
        clear heq
        gi_wp2_with (first | (refine ⟨trivial, ?_⟩; gi_at_call 11; refine (callsIn_wide.2 HEY.out).mono ?_; rintro e w6 ⟨g2, rfl, F6⟩; have HF6 := Lib.hid F6; clear F6; have hc6 := (boxed_below Hhw.out.2.2.1 HF6.out.below Hhw.out.2.2.1.lt).cell) | (refine ⟨trivial, ?_⟩; gi_at_call 28; refine (callsIn_wide.2 (bytes_equal _ _ 128 128 128 cap (idxPage k (wIn ps)) ps HPL.out HL.out _ HF6.out.has.told (HBB.out.below (has_lt HBB.out (by rw [HL.out]; decide)) HF6.out.below).told)).mono ?_; rintro e w7 ⟨rfl, rfl⟩; rw [show (idxPage k (wIn ps) == ps) = true from by rw [beq_iff_eq]; exact HQ.out]))
        have hK6 := (HF6.out.below.block D Hhw.out.2.2.2.2).trans Hhw.out.2.2.2.1
        refine ⟨by simp, .inl ⟨_, _, rfl, run_takeDeferred hK6, ?_⟩⟩
        exact ⟨_, results_tmp2 rfl _ _ _, .inl ⟨⟨HL.out, HS.out, HHD.out, HQ.out⟩, _, rfl, OwnW.base (ownsRow_putObj (OwnW.below Hhw.out.1 HF6.out.below (Nat.le_refl _)) _ hK6 rfl) g1.size, (HBW.out.trans (HF6.out.below.mono HBW.out.size)).trans (belowK_b (w := w) (Nat.le_refl _) _ D _ _ hDw.out hK6 rfl rfl)⟩⟩
      · have HQ := Lib.hid heq
        clear heq
        gi_wp2_with (first | (refine ⟨trivial, ?_⟩; gi_at_call 11; refine (callsIn_wide.2 HEY.out).mono ?_; rintro e w6 ⟨g2, rfl, F6⟩; have HF6 := Lib.hid F6; clear F6; have hc6 := (boxed_below Hhw.out.2.2.1 HF6.out.below Hhw.out.2.2.1.lt).cell) | (refine ⟨trivial, ?_⟩; gi_at_call 28; refine (callsIn_wide.2 (bytes_equal _ _ 128 128 128 cap (idxPage k (wIn ps)) ps HPL.out HL.out _ HF6.out.has.told (HBB.out.below (has_lt HBB.out (by rw [HL.out]; decide)) HF6.out.below).told)).mono ?_; rintro e w7 ⟨rfl, rfl⟩; rw [show (idxPage k (wIn ps) == ps) = false from by rw [beq_eq_false_iff_ne]; exact HQ.out]))
        have hK6 := (HF6.out.below.block D Hhw.out.2.2.2.2).trans Hhw.out.2.2.2.1
        refine ⟨by simp, .inl ⟨_, _, rfl, run_takeDeferred hK6, ?_⟩⟩
        exact ⟨_, results_tmp2 rfl _ _ _, .inr ⟨fun h => HQ.out h.2.2.2, rfl, (HBW.out.trans (HF6.out.below.mono HBW.out.size)).trans (belowK_b (w := w) (Nat.le_refl _) _ D _ _ hDw.out hK6 rfl rfl)⟩⟩
    · have HEN := Lib.hid (encode_no k A (wIn ps).length cp (wIn ps) W rfl (by unfold maxLen; omega) (fun h => hkind h.1))
      have HHD := Lib.hid hkind
      clear hv hrow hown hWd hbx hK hkind
      gi_wp2_with (refine ⟨trivial, ?_⟩; gi_at_call 11; refine (callsIn_wide.2 HEN.out).mono ?_; rintro e w6 ⟨rfl, rfl⟩)
      refine ⟨trivial, ?_⟩
      gi_wp2
      refine ⟨by simp, .inl ⟨_, _, rfl, run_takeDeferred Hhw.out.2.2.2.1, ?_⟩⟩
      exact ⟨_, results_tmp2 rfl _ _ _, .inr ⟨fun h => HHD.out h.2.2.1, rfl, HBW.out.trans (belowK_b (w := w) (Nat.le_refl _) _ D _ _ hDw.out Hhw.out.2.2.2.1 rfl rfl)⟩⟩
  case stop =>
    rintro D c pre W _ _ h _
    exact h.elim

/-- Decode of whatever bytes there are. -/
theorem decode_any (k : UInt8) (a : Option Addr) (len cap : Nat) (ps : List UInt8) (hlen : ps.length = len) (w : World) (hb : Oct.Told w a ps) (hc : len ≤ cap) (hm : cap ≤ maxLen) :
    Calls Try.prog 13 #[.int .u8 (k.toNat : Int), .slice a len cap] w (fun e w' => (Holds k ps ∧ DecYes w (wIn ps) e w') ∨ (¬ Holds k ps ∧ DecNo w e w')) := by
  by_cases h : len = 128
  · subst h
    rcases hb with rfl | ⟨b, o, rfl, hb⟩
    · simp at hlen
    · by_cases hs : Oct.Good ps
      · exact decode_good k b o cap ps w hb hlen hc hm hs
      · exact (decode_sum k b o cap ps w hb hlen hc hm hs).mono fun e w' h => .inr ⟨fun H => hs H.2.1, h⟩
  · exact (decode_len k a len cap w h (Nat.le_trans hc hm)).mono fun e w' h' => .inr ⟨fun H => h (hlen ▸ H.1), h'⟩
/-- What is encoded is decoded. -/
theorem decode_page (k : UInt8) (b o cap : Nat) (l : List UInt16) (w : World) (hf : Fit k l) (hb : Has w b o (idxPage k l)) (hc : 128 ≤ cap) (hm : cap ≤ maxLen) :
    Calls Try.prog 13 #[.int .u8 (k.toNat : Int), .slice (some ⟨b, o, none⟩) 128 cap] w (DecYes w l) := by
  refine (decode_any k _ 128 cap (idxPage k l) (length_idxPage k l hf.2) w hb.told hc hm).mono ?_
  rintro e w' (⟨_, h⟩ | ⟨h, _⟩)
  · rwa [wIn_page k l hf.2] at h
  · exact absurd (holds_page k l hf.2 hf.1) h
/-- .. of that kind alone. -/
theorem decode_other (k j : UInt8) (b o cap : Nat) (l : List UInt16) (w : World) (hf : l.length ≤ 61) (hkj : k ≠ j) (hb : Has w b o (idxPage j l)) (hc : 128 ≤ cap) (hm : cap ≤ maxLen) :
    Calls Try.prog 13 #[.int .u8 (k.toNat : Int), .slice (some ⟨b, o, none⟩) 128 cap] w (DecNo w) := by
  refine (decode_any k _ 128 cap (idxPage j l) (length_idxPage j l hf) w hb.told hc hm).mono ?_
  rintro e w' (⟨h, _⟩ | ⟨_, h⟩)
  · exact absurd (holds_kind h) hkj
  · exact h
end Go.Proofs.Ytpkfcbbnfhjjlaa.Ix
