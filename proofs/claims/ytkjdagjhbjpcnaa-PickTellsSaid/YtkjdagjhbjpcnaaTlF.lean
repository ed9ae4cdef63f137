/- The counts are kept, go back. -/
import Derived.Test.YtkjdagjhbjpcnaaTlE
namespace Go.Proofs.Ytkjdagjhbjpcnaa.Tl
open Go.RowKit Go.Proofs.Ytkjdagjhbjpcnaa.Oct Go.Proofs.Ytkjdagjhbjpcnaa.Mv Go.Maps Go.ChangeMaps
set_option linter.unusedVariables false

theorem run_clear {w : World} {mb nn : Nat} {D : DataW Unit} (h : w.ownsMap Try.prog 3 (plainElem Try.prog 70) mb nn D) :
    ∃ w', (∀ ty, (Builtin.clear_ #[64] ty #[.map (some mb)]).run Try.prog w = .ok (.tuple #[]) w') ∧ w'.ownsMap Try.prog 3 (plainElem (H := Unit) Try.prog 70) mb 0 (.map []) ∧ w.mapTurned w' mb := by
  obtain ⟨es, clock, hb, F, hs, rfl⟩ := h
  refine ⟨setBlock w mb (.map #[] clock), fun ty => ?_, ⟨#[], clock, heap_setBlock_same hb _, ⟨by simp, MapKept.stamped_empty clock, by simp⟩, Nat.le_refl _, rfl⟩, ⟨es, clock, #[], clock, hb, rfl⟩⟩
  simp [Builtin.clear_, run_underlying Try.underlying64, MapKept.run_getObj_map hb, MapKept.run_setObj_map _ hb, Result.andThen, setBlock]

/-! ### Keep -/
set_option maxRecDepth 100000 in
theorem keep_at {w : World} {a cb mb c : Nat} {s : St} (h : At w a cb mb c s) :
    Calls Try.prog 22 #[.pointer (some ⟨a, 0, none⟩)] w fun e w' => e = .returned (.tuple #[]) ∧ At w' a cb mb c s.keep ∧ But w w' cb mb := by
  obtain ⟨D, ho, hs⟩ := h.mp.own h.ok
  obtain ⟨w1, hcl, ho1, ht⟩ := run_clear ho
  have HO := Lib.hid ho1
  have HT := Lib.hid ht.grown
  have HH := Lib.hid h
  have c1 := h.c1
  have c2 := h.c2
  clear h ho hs ho1 ht
  go_enter Try.func22, Try.ntmps22
  go_wp2_with fail
  refine (made_self a _ c2).mono ?_
  rintro e w' ⟨rfl, rfl⟩
  go_wp2_with fail
  go_end0
  obtain ⟨sp, hn⟩ := HH.out.nums
  refine ⟨rfl, ⟨HH.out.row.block (HT.out.block a HH.out.row.lt (fun e => HH.out.a_mb (by cases e; rfl))), ⟨sp, hn.block (HT.out.block cb hn.lt (fun e => HH.out.cb_mb (by cases e; rfl)))⟩, ⟨0, _, HO.out, says_none _⟩, HH.out.ok.keep, HH.out.room, HH.out.ne⟩, .grown HT.out⟩
theorem keep_nay (v : Value) (w : World) (h : Nay w v) :
    Calls Try.prog 22 #[v] w fun e w' => e = .returned (.tuple #[]) ∧ w = w' := by
  go_enter Try.func22, Try.ntmps22
  go_wp2_with fail
  refine (made_nay v _ h).mono ?_
  rintro e w' ⟨rfl, rfl⟩
  go_wp2_with fail
  go_end0
  exact ⟨rfl, rfl⟩

/-! ### Back -/
/-- The counts, as far as a loop over the map has come: of which entries are still to come. -/
def St.mixed (s : St) (left : Lit → Bool) : St := ⟨(List.range s.n).map fun i => if s.moved i && !left (key i) then s.was i else s.cnt i, s.kept⟩
theorem n_mixed (s : St) (left : Lit → Bool) : (s.mixed left).n = s.n := by simp [St.mixed, St.n]
theorem cnt_mixed (s : St) (left : Lit → Bool) {i : Nat} (hi : i < s.n) : (s.mixed left).cnt i = if s.moved i && !left (key i) then s.was i else s.cnt i := by
  unfold St.cnt St.mixed
  simp [hi, St.cnt]
theorem st_ext {s t : St} (hn : s.n = t.n) (hc : ∀ i, i < s.n → s.cnt i = t.cnt i) : s.now = t.now := by
  unfold St.n at hn hc
  refine List.ext_getElem hn fun i h1 h2 => ?_
  have := hc i h1
  unfold St.cnt at this
  simpa [h1, h2] using this
theorem mixed_start {s : St} {D : DataW Unit} (h : Says D s) : (s.mixed (Maps.has D)).now = s.now := by
  refine st_ext (n_mixed _ _) fun i hi => ?_
  rw [n_mixed] at hi
  rw [cnt_mixed _ _ hi, h.hasKey]
  cases s.moved i <;> simp
theorem mixed_step (s : St) (left : Lit → Bool) {j : Nat} (hj : j < s.n) (hm : s.moved j = true) : (s.mixed fun z => left z && !z.sameKey (key j)).now = ((s.mixed left).put j (s.was j)).now := by
  refine st_ext (by rw [n_put, n_mixed, n_mixed]) fun i hi => ?_
  rw [n_mixed] at hi
  rw [cnt_mixed _ _ hi, cnt_put (by rw [n_mixed]; exact hj), cnt_mixed _ _ hi]
  by_cases e : i = j
  · subst e
    have : (key i).sameKey (key i) = true := by simp [key, Lit.sameKey]
    simp [hm, this]
  · have : (key i).sameKey (key j) = false := sameKey_ne (fun e' => e (key_inj e'))
    rw [if_neg e, this]
    simp
theorem mixed_end {s : St} (hok : s.Ok) (left : Lit → Bool) (h : ∀ k, left k = false) : (s.mixed left).now = s.kept := by
  have hn : s.kept.length = s.n := hok.len
  refine List.ext_getElem (by rw [hn]; exact n_mixed s left) fun i h1 h2 => ?_
  have hi : i < s.n := by omega
  have hc := cnt_mixed s left hi
  have e1 : (s.mixed left).now[i] = (s.mixed left).cnt i := by unfold St.cnt; simp [h1]
  have e2 : s.kept[i] = s.was i := by unfold St.was; simp [h2]
  rw [e1, e2, hc, h]
  cases hm : s.moved i
  · unfold St.moved at hm
    simpa using hm
  · simp
theorem grown_set (w : World) (p i : Nat) (v : Value) : w.grownBy (w.setCell ⟨p, i, none⟩ v) (some p) := ⟨rfl, rfl, rfl, by simp, fun k _ hp => heap_setCell_other _ _ _ _ (fun e => hp (by rw [e]))⟩
set_option maxRecDepth 100000 in
theorem back_at {w : World} {a cb mb c : Nat} {s : St} (h : At w a cb mb c s) :
    Calls Try.prog 24 #[.pointer (some ⟨a, 0, none⟩)] w fun e w' => e = .returned (.tuple #[]) ∧ At w' a cb mb c s.back ∧ But w w' cb mb := by
  obtain ⟨D, ho, hs⟩ := h.mp.own h.ok
  obtain ⟨sp, hn⟩ := h.nums
  have HO := Lib.hid ho
  have HS := Lib.hid hs
  have HH := Lib.hid h
  have HN := Lib.hid hn
  have c1 := h.c1
  have c2 := h.c2
  clear h ho hs hn
  go_enter Try.func24, Try.ntmps24
  go_wp2_with fail
  refine (made_self a _ c2).mono ?_
  rintro e w' ⟨rfl, rfl⟩
  go_wp2_with (at_range; refine wpList_range_own _ rfl _ 64 rfl 3 70 law Try.underlying64 _ mb 4096 D rfl HO.out ?_; intro w0 hrg0 hg0 hs0)
  go_frame
  have HR0 := Lib.hid hrg0
  have HG0 := Lib.hid hg0
  clear hrg0 hg0 hs0 c1 c2
  have hra : a ≠ w.heap.size := Nat.ne_of_lt HH.out.row.lt
  have hrc : cb ≠ w.heap.size := Nat.ne_of_lt HH.out.cb_lt
  have hrm : mb ≠ w.heap.size := Nat.ne_of_lt HH.out.mp.lt
  have HRA := Lib.hid hra
  have HRC := Lib.hid hrc
  have HRM := Lib.hid hrm
  obtain ⟨r, hr⟩ : ∃ r, r = w.heap.size := ⟨_, rfl⟩
  rw [← hr] at HR0 HRA HRC HRM ⊢
  have HRR := Lib.hid hr
  clear hr hra hrc hrm
  go_loopw [12] (fun _ wr => ∃ left cnt, Hid (wr.ranges Try.prog 3 (plainElem Try.prog 70) mb r 4096 D left cnt) ∧ Hid (RowV wr a 66 (tcells a cb mb s.n c)) ∧ Hid (RowV wr cb 70 (nums (s.mixed left).now ++ sp)) ∧ Hid (But w wr cb mb)) (fun _ wr => wr.rangeLeft mb r)
  case atStart =>
    refine ⟨_, _, HR0, Lib.hid (HH.out.row.block (HG0.out.block a HH.out.row.lt (by simp))), Lib.hid ?_, Lib.hid (But.of_below _ _ ⟨HG0.out.os, HG0.out.tape, HG0.out.output, HG0.out.size, fun k hk => HG0.out.block k hk (by simp)⟩ (Nat.le_refl _))⟩
    rw [mixed_start HS.out]
    exact HN.out.block (HG0.out.block cb HN.out.lt (by simp))
  case round =>
    obtain ⟨left, cnt, HRG, HROW, HNUM, HB⟩ := hrel
    go_wp2_with (at_next; refine wpList_next_ranges_ii _ rfl _ rfl 3 70 .i64 .u16 law Try.underlying3 Try.underlying70 mb r 4096 _ _ _ rfl HRG.out ?_ ?_)
    · intro _ hl0
      have c0 := HROW.out.cellAt (i := 1) rfl
      obtain ⟨w1, hcl, ho1, ht⟩ := run_clear HRG.out.owns
      have HT := Lib.hid ht.grown
      have HO1 := Lib.hid ho1
      have HL0 := Lib.hid hl0
      clear hl0 ho1 ht
      go_wp2_with fail
      go_end0
      have hN := HNUM.out
      rw [mixed_end HH.out.ok left HL0.out] at hN
      refine ⟨rfl, ⟨?_, ⟨sp, hN.block (HT.out.block cb hN.lt (fun e => HH.out.cb_mb (by cases e; rfl)))⟩, ⟨0, _, HO1.out, says_none _⟩, HH.out.ok.back, ?_, HH.out.ne⟩, HB.out.trans (.grown HT.out)⟩
      · have : s.back.n = s.n := HH.out.ok.len
        rw [this]
        exact HROW.out.block (HT.out.block a HROW.out.lt (fun e => HH.out.a_mb (by cases e; rfl)))
      · have : s.back.n = s.n := HH.out.ok.len
        rw [this]
        exact HH.out.room
    · intro x z w1 cnt1 hwx hwc hlx hat hrg1 hlt hg1 hs1 hen
      obtain ⟨j, ej, hmj⟩ := (HS.out.has _).1 (has_true_of_atKey hat)
      have hj := moved_lt HH.out.ok hmj
      obtain rfl : x = (j : Int) := by simpa [key] using ej
      obtain rfl : z = ((s.was j).toNat : Int) := by
        have := (hat (dat 0)).symm.trans (HS.out.at' j (dat 0) hmj)
        simpa [dat] using this
      have HRG1 := Lib.hid hrg1
      have HLT := Lib.hid hlt
      have hrow1 := HROW.out.block (hg1.block a HROW.out.lt (fun e => HRA.out (by cases e; rfl)))
      have hnum1 := HNUM.out.block (hg1.block cb HNUM.out.lt (fun e => HRC.out (by cases e; rfl)))
      have HB1 := Lib.hid (show But w w1 cb mb from ⟨hg1.os.trans HB.out.os, hg1.tape.trans HB.out.tape, hg1.output.trans HB.out.output, Nat.le_trans HB.out.size hg1.size, fun k hk hp hq =>
        (hg1.block k (Nat.lt_of_lt_of_le hk HB.out.size) (fun e => by have e' : k = r := by { cases e; rfl }; have := HRR.out; omega)).trans (HB.out.block k hk hp hq)⟩)
      have c0 := hrow1.cellAt (i := 0) rfl
      have hjm : j < (s.mixed left).n := by rw [n_mixed]; exact hj
      have cc := row_count hnum1 hjm
      have f1 := hnum1.free j
      have hlt2 : (j : Int) < (s.n : Int) := by omega
      have hge : (0 : Int) ≤ (j : Int) := by omega
      have HROW1 := Lib.hid (hrow1.other (i := j) (v := .int .u16 ((s.was j).toNat : Int)) HH.out.ne)
      have hput := row_put hnum1 hjm (s.was j)
      have HNUM1 := Lib.hid hput
      have HMS := Lib.hid (mixed_step s left hj hmj)
      have HKR := Lib.hid (hrg1.kept (grown_set w1 cb j (.int .u16 ((s.was j).toNat : Int))) (fun e => HH.out.cb_mb (by cases e; rfl)) (fun e => HRC.out (by cases e; rfl)))
      clear hrg1 hlt hrow1 hnum1 hput hjm hat hmj hj hg1 hs1 hlx
      go_wp2_with fail
      go_roundw
      case rel =>
        refine ⟨_, _, HKR, HROW1, Lib.hid ?_, Lib.hid (HB1.out.trans (But.set _ _ _ _ _))⟩
        have := HNUM1.out
        rw [← HMS.out] at this
        exact this
      case measure => rw [HKR.out.left_eq, HRG.out.left_eq]; exact HLT.out
theorem back_nay (v : Value) (w : World) (h : Nay w v) :
    Calls Try.prog 24 #[v] w fun e w' => e = .returned (.tuple #[]) ∧ w = w' := by
  go_enter Try.func24, Try.ntmps24
  go_wp2_with fail
  refine (made_nay v _ h).mono ?_
  rintro e w' ⟨rfl, rfl⟩
  go_wp2_with fail
  refine bodyPost_ret (results_none rfl _ _ _) rfl ?_
  exact ⟨rfl, rfl⟩
end Go.Proofs.Ytkjdagjhbjpcnaa.Tl

