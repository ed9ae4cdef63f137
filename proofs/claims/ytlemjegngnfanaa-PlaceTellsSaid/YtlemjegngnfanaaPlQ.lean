/- A stage that has begun: all pages placed, and kept. -/
import Derived.Test.YtlemjegngnfanaaPlP
namespace Go.Proofs.Ytlemjegngnfanaa.Pl
open Go.RowKit Go.Proofs.Ytlemjegngnfanaa.Oct Go.Proofs.Ytlemjegngnfanaa.Mv Go.Proofs.Ytlemjegngnfanaa.Tl Go.Proofs.Ytlemjegngnfanaa.Pk Go.Maps
set_option linter.unusedVariables false

/-- Where a stage lies. -/
structure Sd where
  X : Nat
  p : Nat
  ta : Nat
  cb : Nat
  mb : Nat
  c : Nat
  g1 : Nat
  d1 : Nat
  g3 : Nat
  d3 : Nat
def scells (D : Sd) (n m : Nat) : List Value := [.pointer (some ⟨D.ta, 0, none⟩), .pointer (some ⟨D.p, 0, none⟩), .slice (some ⟨D.g1, 0, none⟩) n D.d1, .slice (some ⟨D.g3, 0, none⟩) m D.d3]
structure Stg (w : World) (D : Sd) (q : Q) (l1 l2 : List Nat) : Prop where
  row : RowV w D.X 69 (scells D l1.length l2.length)
  pat : PAt w D.p D.ta D.cb D.mb D.c q
  r1 : ∃ sp, RowV w D.g1 3 (ints l1 ++ sp)
  r2 : ∃ sp, RowV w D.g3 3 (ints l2 ++ sp)
theorem Stg.kept {w w' : World} {D : Sd} {q : Q} {l1 l2 : List Nat} (h : Stg w D q l1 l2) (k : Below w.heap.size w w') : Stg w' D q l1 l2 :=
  ⟨h.row.below h.row.lt k, h.pat.kept k, (by obtain ⟨sp, h1⟩ := h.r1; exact ⟨sp, h1.below h1.lt k⟩), (by obtain ⟨sp, h1⟩ := h.r2; exact ⟨sp, h1.below h1.lt k⟩)⟩
theorem has_told {w : World} {g : Nat} {T : TypeId} {l : List Nat} (h : ∃ sp, RowV w g T (ints l ++ sp)) : ToldV w (some ⟨g, 0, none⟩) (ints l) := by
  obtain ⟨sp, h1⟩ := h
  refine .inr ⟨g, 0, rfl, fun i hi => ?_⟩
  have := h1.has i (by rw [List.length_append]; omega)
  rw [List.getElem_append_left hi] at this
  exact this
/-- Its tally and its pick have turned. -/
theorem Stg.turned {w w' : World} {D : Sd} {q q' : Q} {l1 l2 : List Nat} (h : Stg w D q l1 l2) (hp : PAt w' D.p D.ta D.cb D.mb D.c q') (k : But3 w w' D.cb D.mb D.p) : Stg w' D q' l1 l2 := by
  have f1 := PAt.off h.pat h.row (by decide) (by decide) (by decide)
  obtain ⟨s1, h1⟩ := h.r1
  obtain ⟨s2, h2⟩ := h.r2
  have f2 := PAt.off h.pat h1 (by decide) (by decide) (by decide)
  have f3 := PAt.off h.pat h2 (by decide) (by decide) (by decide)
  exact ⟨h.row.block (k.block _ h.row.lt f1.2.2.1 f1.2.2.2 f1.1), hp, ⟨s1, h1.block (k.block _ h1.lt f2.2.2.1 f2.2.2.2 f2.1)⟩, ⟨s2, h2.block (k.block _ h2.lt f3.2.2.1 f3.2.2.2 f3.1)⟩⟩
def size16 (b : UInt16) : Nat := 16 + b.toNat % 385
theorem size_ok (b : UInt16) : 16 ≤ size16 b ∧ size16 b ≤ 400 := by unfold size16; omega
theorem need_le {n : Nat} (h1 : 16 ≤ n) (h2 : n ≤ 400) : need n ≤ n - 2 := by unfold need pg; omega
def q0 (n : Nat) : Q := ⟨St.new n, 2, 2, 0⟩
theorem zeros_get (n i : Nat) : (zeros n).getD i 0 = 0 := by
  simp only [zeros, List.getD_eq_getElem?_getD, List.getElem?_replicate]
  split <;> rfl
theorem zeros_app (n m : Nat) : zeros n ++ zeros m = zeros (n + m) := by simp [zeros, List.replicate_append_replicate]
theorem right_zeros (n : Nat) : RightS (St.new n) (toI (zeros (pg n))) (toI (zeros (pg (pg n)))) := by
  refine ⟨by rw [length_toI, n_new]; simp [zeros], by rw [length_toI, n_new]; simp [zeros], fun i hi => .inl ?_⟩
  rw [toI_app, toI_get, zeros_app, zeros_get]
  rfl
theorem Sd.mk_eq (D : Sd) : D = ⟨D.X, D.p, D.ta, D.cb, D.mb, D.c, D.g1, D.d1, D.g3, D.d3⟩ := rfl
def Sd.list (D : Sd) : List Nat := [D.X, D.p, D.ta, D.cb, D.mb, D.g1, D.g3]
theorem Moved.low {q q' : Q} {b j : Nat} (h : Moved q 0 q' b) (hok : q.Ok) (hj : j < q.first) : q'.s.cnt j = q.s.cnt j := by
  have hm : May1 q 0 := fun e => absurd rfl e
  rw [h.cnt hm, if_neg (by have := h.ge hm hok; omega), down1_zero]
theorem Wk.Step.low {x y : Wk} {q0 : Q} {L0 : List Nat} (h : x.Step y) (hg : x.Good) (hr : x.RI q0 L0) (hz : ∀ i, L0.getD i 0 = 0) {j : Nat} (hj : j < q0.first) : y.q.s.cnt j = x.q.s.cnt j := by
  have hj2 : j < x.q.first := by rw [hr.first]; exact hj
  cases h with
  | one i b q' k1 k2 =>
    obtain ⟨hi, hf, _⟩ := k1.ask
    have hu := (hr.un i (by rw [List.length_append]; omega) (by rw [getD_app1 _ _ _ (by rw [hg.fl1]; exact hi)]; exact hf)).1
    rw [getD_app1 _ _ _ hi, hz] at hu
    rw [hu] at k2
    exact k2.low hg.ok hj2
  | two i b q' k0 k1 k2 =>
    obtain ⟨hi, hf, _⟩ := k1.ask
    have hu := (hr.un (x.l1.length + i) (by rw [List.length_append]; omega) (by rw [← hg.fl1, getD_app2]; exact hf)).1
    rw [getD_app2, hz] at hu
    rw [hu] at k2
    exact k2.low hg.ok hj2
theorem Wk.Runs.low {x y : Wk} {q0 : Q} {L0 : List Nat} (h : x.Runs y) (hg : x.Good) (hb : Base q0 L0) (hr : x.RI q0 L0) (hz : ∀ i, L0.getD i 0 = 0) {j : Nat} (hj : j < q0.first) : y.q.s.cnt j = x.q.s.cnt j := by
  induction h with
  | done _ => rfl
  | step s r ih => rw [ih (hg.step s) (s.ri hg hb hr), s.low hg hr hz hj]
/-- What begun answers. -/
def Begun (n : Nat) (w : World) (e : Ending) (w' : World) : Prop :=
  ∃ D q l1 l2, e = .returned (.tuple #[.pointer (some ⟨D.X, 0, none⟩), .bool true]) ∧ Stg w' D q l1 l2 ∧ Sound q l1 l2 ∧ q.s.n = n ∧ q.s.changed = [] ∧ q.s.cnt 1 = 0 ∧ (∀ k ∈ D.list, w.heap.size ≤ k) ∧ Below w.heap.size w w'
theorem sound0 {n : Nat} {y : Wk} (h1 : 16 ≤ n) (h2 : n ≤ 400) (hr : (begin (q0 n) (zeros (pg n)) (zeros (pg (pg n)))).Runs y) : Sound (Q.keep y.q) y.l1 y.l2 ∧ y.q.s.n = n ∧ y.q.asked = 0 ∧ y.q.s.cnt 1 = 0 := by
  have hok : (q0 n).Ok := ⟨.new (by omega) (by omega), by show 2 ≤ (St.new n).n; rw [n_new]; omega, Nat.le_refl _, .inr rfl, Nat.zero_le _⟩
  have hg := begin_good (l1 := zeros (pg n)) (l2 := zeros (pg (pg n))) hok (right_zeros n) (by show need (St.new n).n ≤ (q0 n).room; rw [n_new]; unfold q0; rw [new_room]; exact need_le h1 h2)
  have hb : Base (q0 n) (zeros (pg n) ++ zeros (pg (pg n))) := ⟨fun i _ h => absurd (by rw [zeros_app, zeros_get]) h, by show 1 ≤ 2; omega⟩
  have hri := begin_ri (q := q0 n) (l1 := zeros (pg n)) (l2 := zeros (pg (pg n))) (fun i _ h => absurd (by rw [zeros_app, zeros_get]) h)
  have hr2 := hr.ri hg hb hri
  exact ⟨end_sound hr.end' (hr.good hg) hr2 rfl, hr2.n.trans (n_new n), hr2.asked, (hr.low hg hb hri (fun i => by rw [zeros_app, zeros_get]) (show 1 < 2 by omega)).trans (cnt_new n 1)⟩
set_option maxRecDepth 100000 in
set_option maxHeartbeats 2000000 in
theorem begun_any (b : UInt16) (w : World) :
    Calls Try.prog 28 #[.int .u16 (b.toNat : Int)] w (Begun (size16 b) w) := by
  obtain ⟨n, hn⟩ : ∃ n, n = size16 b := ⟨_, rfl⟩
  have hsz := size_ok b
  have he : (16 : Int) + ((b.toNat % 385 : Nat) : Int) = (n : Int) := by rw [hn]; unfold size16; omega
  rw [← hn] at hsz ⊢
  obtain ⟨hn1, hn2⟩ := hsz
  have hb := u16_lt b
  have hmod : (b.toNat : Int).tmod 385 = ((b.toNat % 385 : Nat) : Int) := by rw [Int.tmod_eq_emod_of_nonneg (by omega)]; rfl
  have hmod2 : (b.toNat : Int) % 385 = ((b.toNat % 385 : Nat) : Int) := rfl
  generalize b.toNat % 385 = m at *
  generalize b.toNat = bn at *
  clear hn
  have hz := sheet_zero
  go_enter Try.func28, Try.ntmps28
  go_wp2_with fail
  refine (new_yes n (by omega) (by omega) _).mono ?_
  rintro e w1 ⟨ta, cb, mb, rfl, hf⟩
  have HF := Lib.hid hf
  have HLO := Lib.hid (And.intro hf.ha (And.intro hf.hc hf.hm))
  clear hf
  go_wp2_with fail
  refine (pnew_yes HF.out.at' 2 (by rw [n_new]; omega)).mono ?_
  rintro e w2 ⟨p, rfl, hp⟩
  have HP := Lib.hid (show PAt w2 p ta cb mb n (q0 n) from hp.at')
  have HB2 := Lib.hid (HF.out.below.trans (hp.below.mono HF.out.below.size))
  have HLP := Lib.hid (Nat.le_trans HF.out.below.size hp.hp)
  clear hp HF
  go_wp2_with fail
  refine (empty_any n (by omega) _).mono ?_
  rintro e w3 ⟨e1, e3, rfl, r1, r3, _, _, bz⟩
  have HP3 := Lib.hid (HP.out.kept bz)
  have HB3 := Lib.hid (HB2.out.trans (bz.mono HB2.out.size))
  have HE1 := Lib.hid (has_told ⟨[], by rw [List.append_nil]; exact r1⟩)
  have HE3 := Lib.hid (has_told ⟨[], by rw [List.append_nil]; exact r3⟩)
  clear r1 r3 bz HP HB2
  go_wp2_with fail
  have hpl := place_yes HP3.out (c1 := pg n) (c2 := pg (pg n)) HE1.out HE3.out (by show RightS (St.new n) _ _; exact right_zeros n) (by show need (St.new n).n ≤ _; rw [n_new]; unfold q0; rw [new_room]; exact need_le hn1 hn2)
  have hlz : ∀ k, (zeros k).length = k := fun k => by simp [zeros]
  rw [hlz, hlz] at hpl
  refine hpl.mono ?_
  clear hpl
  rintro e w4 ⟨y, g1, d1, g3, d3, v1, v2, rfl, hruns, hpat, hr1, hr3, _, _, hlo1, hlo3, hbut⟩
  obtain ⟨hs, hyn, _, hy1⟩ := sound0 hn1 hn2 hruns
  have HS := Lib.hid hs
  have hl1 : y.l1.length = pg n := by rw [hs.len1]; show pg y.q.s.n = _; rw [hyn]
  have hl2 : y.l2.length = pg (pg n) := by rw [hs.len2]; show pg (pg y.q.s.n) = _; rw [hyn]
  rw [hlz, hlz]
  have HP4 := Lib.hid hpat
  have HR1 := Lib.hid hr1
  have HR3 := Lib.hid hr3
  have HLG := Lib.hid (And.intro (Nat.le_trans HB3.out.size hlo1) (Nat.le_trans HB3.out.size hlo3))
  have HB4 := Lib.hid (HB3.out.trans (hbut.below (B := w.heap.size) (by simp; exact ⟨HLO.out.2.1, HLO.out.2.2, HLP.out⟩) HB3.out.size))
  have HY := Lib.hid (And.intro hyn (And.intro hl1 (And.intro hl2 hy1)))
  clear hs hruns hpat hr1 hr3 hlo1 hlo3 hbut hlz hyn hl1 hl2 hy1 HB3 HP3 HE1 HE3
  go_wp2_with fail
  have B5 := (Below.refl w4.heap.size w4).alloc (Nat.le_refl _) (.cells #[.slice (some ⟨g1, 0, none⟩) (pg n) d1, .slice (some ⟨g3, 0, none⟩) (pg (pg n)) d3] 42)
  have R5 := alloc_rowV w4 42 [.slice (some ⟨g1, 0, none⟩) (pg n) d1, .slice (some ⟨g3, 0, none⟩) (pg (pg n)) d3]
  have HP5 := Lib.hid (HP4.out.kept B5)
  have HR5 := Lib.hid R5
  have HB5 := Lib.hid (HB4.out.trans (B5.mono HB4.out.size))
  have HQ1 : Hid (∃ sp, RowV _ g1 3 (ints y.l1 ++ sp)) := Lib.hid (by obtain ⟨sp, k⟩ := HR1.out; exact ⟨sp, k.below k.lt B5⟩)
  have HQ3 : Hid (∃ sp, RowV _ g3 3 (ints y.l2 ++ sp)) := Lib.hid (by obtain ⟨sp, k⟩ := HR3.out; exact ⟨sp, k.below k.lt B5⟩)
  obtain ⟨rb, hrb⟩ : ∃ rb, rb = w4.heap.size := ⟨_, rfl⟩
  rw [← hrb] at HR5 ⊢
  clear B5 R5 HB4 HP4 HR1 HR3 hrb
  generalize w4.alloc (.cells #[.slice (some ⟨g1, 0, none⟩) (pg n) d1, .slice (some ⟨g3, 0, none⟩) (pg (pg n)) d3] 42) = w5 at *
  refine (keep_at HP5.out.tally).mono ?_
  rintro e w6 ⟨rfl, hat, hbt⟩
  have HP6 := Lib.hid (show PAt w6 p ta cb mb n (Q.keep y.q) from HP5.out.turned hat hbt rfl)
  have f5 := PAt.off HP5.out HR5.out (by decide) (by decide) (by decide)
  have HR6 := Lib.hid (HR5.out.block (hbt.block _ HR5.out.lt f5.2.2.1 f5.2.2.2))
  have HT1 : Hid (∃ sp, RowV w6 g1 3 (ints y.l1 ++ sp)) := Lib.hid (by
    obtain ⟨sp, k⟩ := HQ1.out
    have f6 := PAt.off HP5.out k (by decide) (by decide) (by decide)
    exact ⟨sp, k.block (hbt.block _ k.lt f6.2.2.1 f6.2.2.2)⟩)
  have HT3 : Hid (∃ sp, RowV w6 g3 3 (ints y.l2 ++ sp)) := Lib.hid (by
    obtain ⟨sp, k⟩ := HQ3.out
    have f6 := PAt.off HP5.out k (by decide) (by decide) (by decide)
    exact ⟨sp, k.block (hbt.block _ k.lt f6.2.2.1 f6.2.2.2)⟩)
  have HB6 := Lib.hid (HB5.out.trans (hbt.below (B := w.heap.size) HLO.out.2.1 HLO.out.2.2 HB5.out.size))
  clear hat hbt f5 HP5 HR5 HQ1 HQ3 HB5
  dsimp only
  have q0 := HR6.out.cellAt (i := 0) rfl
  have q1 := HR6.out.cellAt (i := 1) rfl
  go_wp2_with fail
  go_ret2
  have B7 := (Below.refl w6.heap.size w6).alloc (Nat.le_refl _) (.cells #[.pointer (some ⟨ta, 0, none⟩), .pointer (some ⟨p, 0, none⟩), .slice (some ⟨g1, 0, none⟩) (pg n) d1, .slice (some ⟨g3, 0, none⟩) (pg (pg n)) d3] 69)
  have R7 := alloc_rowV w6 69 [.pointer (some ⟨ta, 0, none⟩), .pointer (some ⟨p, 0, none⟩), .slice (some ⟨g1, 0, none⟩) (pg n) d1, .slice (some ⟨g3, 0, none⟩) (pg (pg n)) d3]
  have HS7 : Stg _ ⟨w6.heap.size, p, ta, cb, mb, n, g1, d1, g3, d3⟩ (Q.keep y.q) y.l1 y.l2 := ⟨(by unfold scells; rw [HY.out.2.1, HY.out.2.2.1]; exact R7), HP6.out.kept B7, (by obtain ⟨sp, k⟩ := HT1.out; exact ⟨sp, k.below k.lt B7⟩), (by obtain ⟨sp, k⟩ := HT3.out; exact ⟨sp, k.below k.lt B7⟩)⟩
  refine ⟨_, _, _, _, rfl, HS7, HS.out, HY.out.1, changed_keep _, HY.out.2.2.2, ?_, HB6.out.trans (B7.mono HB6.out.size)⟩
  intro k hk
  simp only [Sd.list, List.mem_cons, List.mem_nil_iff, or_false] at hk
  rcases hk with rfl | rfl | rfl | rfl | rfl | rfl | rfl
  · exact HB6.out.size
  · exact HLP.out
  · exact HLO.out.1
  · exact HLO.out.2.1
  · exact HLO.out.2.2
  · exact HLG.out.1
  · exact HLG.out.2
end Go.Proofs.Ytlemjegngnfanaa.Pl
