/- A count is set. -/
import Derived.Test.YtlemjegngnfanaaTlB
import Derived.StillTailTactics
namespace Go.Proofs.Ytlemjegngnfanaa.Tl
open Go.RowKit Go.Proofs.Ytlemjegngnfanaa.Oct Go.Proofs.Ytlemjegngnfanaa.Mv Go.Maps
set_option linter.unusedVariables false

set_option maxRecDepth 100000 in
theorem set_at {w : World} {a cb mb c : Nat} {s : St} (h : At w a cb mb c s) (i : Nat) (hi : i < s.n) (x : UInt16) :
    Calls Try.prog 45 #[.pointer (some ⟨a, 0, none⟩), .int .i64 (i : Int), .int .u16 (x.toNat : Int)] w fun e w' => e = .returned (.tuple #[]) ∧ At w' a cb mb c (s.put i x) ∧ But w w' cb mb := by
  obtain ⟨D, ho, hs⟩ := h.mp.own h.ok
  obtain ⟨sp, hn⟩ := h.nums
  have hi4 : i ≤ 4096 := by have := h.ok.hi; unfold St.n at hi; omega
  have HH := Lib.hid h
  have HO := Lib.hid ho
  have HS := Lib.hid hs
  have HI := Lib.hid hi
  have HN := Lib.hid hn
  have c0 := h.c0
  have c1 := h.c1
  have cc := h.count hi
  have hlt : (i : Int) < (s.n : Int) := by omega
  have hge : (0 : Int) ≤ (i : Int) := by omega
  clear h ho hs hi hn
  cases hm : s.moved i
  · go_enter Try.func45, Try.ntmps45
    go_wp2_with fail
    refine (changed_at HH.out i HI.out).mono ?_
    rintro e w' ⟨rfl, rfl⟩
    rw [hm]
    go_upto_region 1 with (fail)
    obtain ⟨w1, hrun, hown1, hgrow1⟩ := World.ownsMap.update (w := w.drew) HO.out law Try.underlying78 (by unfold maxLen; omega) (key_of i hi4) (elem_of (s.cnt i))
    unfold num at hrun
    have hgw : w.grownBy w1 (some mb) := ⟨hgrow1.os, hgrow1.tape, hgrow1.output, hgrow1.size, hgrow1.block⟩
    have HB := Lib.hid (But.grown (p := cb) hgw)
    have HOWN := Lib.hid hown1
    clear hown1 hgrow1
    go_region
    clear hrun
    have hcw : s.cnt i = s.was i := by unfold St.moved at hm; simpa using hm
    have HAT := Lib.hid (fun z => show (D.put (key i) (dat (s.cnt i))).atKey (key i) z = dat (s.was i) by rw [atKey_put_same HO.out.isMap (key_lit i), hcw])
    have HKEEP := Lib.hid (show x ≠ s.was i → Says (D.put (key i) (dat (s.cnt i))) (s.put i x) from fun hx => by rw [hcw]; exact HS.out.put HO.out.isMap HI.out hm hx)
    have HDEL := Lib.hid (show x = s.was i → Says ((D.put (key i) (dat (s.cnt i))).del (key i)) (s.put i x) from fun hx => by rw [put_same HI.out (hx.trans hcw.symm)]; exact del_put HS.out HI.out hm _)
    have HROW := Lib.hid (HH.out.row.block (hgw.block a HH.out.row.lt (fun e => HH.out.a_mb (by cases e; rfl))))
    have HNUM := Lib.hid (HN.out.block (hgw.block cb HH.out.cb_lt (fun e => HH.out.cb_mb (by cases e; rfl))))
    clear hgw hcw c0 c1 cc
    generalize D.put (key i) (dat (s.cnt i)) = D1 at *
    have c0 := HROW.out.cellAt (i := 0) rfl
    have c1 := HROW.out.cellAt (i := 1) rfl
    have f1 := HNUM.out.free i
    have cc := row_count HNUM.out HI.out
    go_upto_region 3 with (fail)
    have hacb := HH.out.ne
    have hmcb := HH.out.cb_mb
    have HROW2 := Lib.hid (HROW.out.other (i := i) (v := .int .u16 (x.toNat : Int)) hacb)
    have HNUM2 := Lib.hid (row_put HNUM.out HI.out x)
    have hown2 := HOWN.out.setCell (a := ⟨cb, i, none⟩) (fun e => hmcb e.symm) (.int .u16 (x.toNat : Int))
    have HB2 := Lib.hid (HB.out.trans (But.set w1 cb mb i (.int .u16 (x.toNat : Int))))
    clear c0 c1 cc f1
    generalize w1.setCell ⟨cb, i, none⟩ (.int .u16 (x.toNat : Int)) = w2 at *
    have c0 := HROW2.out.cellAt (i := 0) rfl
    have c1 := HROW2.out.cellAt (i := 1) rfl
    obtain ⟨z, _, hlk, hz⟩ := own_look hown2 i hi4
    rw [hz _ HAT.out] at hlk
    have HOWN2 := Lib.hid hown2
    clear hown2 hz hacb hmcb
    by_cases hx : x = s.was i
    · have hx2 : ((s.was i).toNat : Int) = (x.toNat : Int) := by rw [hx]
      have HX := Lib.hid hx
      clear hx
      rw [hx2] at hlk
      clear hx2
      go_wp2_with (first | (at_delete; refine wpList_delete_own _ rfl _ _ 78 3 rfl 22 law Try.underlying78 _ mb (4096 + 1) D1 rfl HOWN2.out _ _ rfl (key_of i hi4) ?_; intro w3 hown3 hturn3))
      go_end0
      have hg := hturn3.grown
      refine ⟨rfl, ?_, HB2.out.trans (.grown hg)⟩
      refine ⟨?_, ⟨sp, HNUM2.out.block (hg.block cb HNUM2.out.lt (fun e => HH.out.cb_mb (by cases e; rfl)))⟩, ⟨_, _, hown3, HDEL.out HX.out⟩, HH.out.ok.put i x, ?_, HH.out.ne⟩
      · rw [n_put]
        exact HROW2.out.block (hg.block a HROW2.out.lt (fun e => HH.out.a_mb (by cases e; rfl)))
      · rw [n_put]
        exact HH.out.room
    · have hx2 : ¬ (((s.was i).toNat : Int) = (x.toNat : Int)) := fun e => hx (UInt16.toNat_inj.1 (by omega))
      have HX := Lib.hid hx
      clear hx
      go_wp2_with fail
      go_end0
      refine ⟨rfl, ?_, HB2.out⟩
      refine ⟨?_, ⟨sp, HNUM2.out⟩, ⟨_, _, HOWN2.out, HKEEP.out HX.out⟩, HH.out.ok.put i x, ?_, HH.out.ne⟩
      · rw [n_put]
        exact HROW2.out
      · rw [n_put]
        exact HH.out.room
  · go_enter Try.func45, Try.ntmps45
    go_wp2_with fail
    refine (changed_at HH.out i HI.out).mono ?_
    rintro e w' ⟨rfl, rfl⟩
    rw [hm]
    obtain ⟨w1, hw1⟩ : ∃ w1, w1 = w := ⟨_, rfl⟩
    obtain ⟨D1, hD1⟩ : ∃ D1, D1 = D := ⟨_, rfl⟩
    have HB := Lib.hid (show But w w1 cb mb by rw [hw1]; exact But.refl _ _ _)
    have HOWN := Lib.hid (show w1.ownsMap Try.prog 3 (plainElem Try.prog 22) mb (4096 + 1) D1 by rw [hw1, hD1]; exact HO.out.mono (by omega))
    have HAT := Lib.hid (fun z => show D1.atKey (key i) z = dat (s.was i) by rw [hD1]; exact HS.out.at' i z hm)
    have HKEEP := Lib.hid (show x ≠ s.was i → Says D1 (s.put i x) from fun hx => by rw [hD1]; exact HS.out.old HI.out hm hx)
    have HDEL := Lib.hid (show x = s.was i → Says (D1.del (key i)) (s.put i x) from fun hx => by rw [hD1, hx]; exact HS.out.del HI.out)
    have HROW := Lib.hid (show RowV w1 a _ _ by rw [hw1]; exact HH.out.row)
    have HNUM := Lib.hid (show RowV w1 cb _ _ by rw [hw1]; exact HN.out)
    clear c0 c1 cc hD1
    go_upto_region 2 with (fail)
    have HEQ := Lib.hid hw1
    clear hw1
    rw [← HEQ.out]
    have c0 := HROW.out.cellAt (i := 0) rfl
    have c1 := HROW.out.cellAt (i := 1) rfl
    have f1 := HNUM.out.free i
    have cc := row_count HNUM.out HI.out
    go_upto_region 3 with (fail)
    have hacb := HH.out.ne
    have hmcb := HH.out.cb_mb
    have HROW2 := Lib.hid (HROW.out.other (i := i) (v := .int .u16 (x.toNat : Int)) hacb)
    have HNUM2 := Lib.hid (row_put HNUM.out HI.out x)
    have hown2 := HOWN.out.setCell (a := ⟨cb, i, none⟩) (fun e => hmcb e.symm) (.int .u16 (x.toNat : Int))
    have HB2 := Lib.hid (HB.out.trans (But.set w1 cb mb i (.int .u16 (x.toNat : Int))))
    clear c0 c1 cc f1
    generalize w1.setCell ⟨cb, i, none⟩ (.int .u16 (x.toNat : Int)) = w2 at *
    have c0 := HROW2.out.cellAt (i := 0) rfl
    have c1 := HROW2.out.cellAt (i := 1) rfl
    obtain ⟨z, _, hlk, hz⟩ := own_look hown2 i hi4
    rw [hz _ HAT.out] at hlk
    have HOWN2 := Lib.hid hown2
    clear hown2 hz hacb hmcb
    by_cases hx : x = s.was i
    · have hx2 : ((s.was i).toNat : Int) = (x.toNat : Int) := by rw [hx]
      have HX := Lib.hid hx
      clear hx
      rw [hx2] at hlk
      clear hx2
      go_wp2_with (first | (at_delete; refine wpList_delete_own _ rfl _ _ 78 3 rfl 22 law Try.underlying78 _ mb (4096 + 1) D1 rfl HOWN2.out _ _ rfl (key_of i hi4) ?_; intro w3 hown3 hturn3))
      go_end0
      have hg := hturn3.grown
      refine ⟨rfl, ?_, HB2.out.trans (.grown hg)⟩
      refine ⟨?_, ⟨sp, HNUM2.out.block (hg.block cb HNUM2.out.lt (fun e => HH.out.cb_mb (by cases e; rfl)))⟩, ⟨_, _, hown3, HDEL.out HX.out⟩, HH.out.ok.put i x, ?_, HH.out.ne⟩
      · rw [n_put]
        exact HROW2.out.block (hg.block a HROW2.out.lt (fun e => HH.out.a_mb (by cases e; rfl)))
      · rw [n_put]
        exact HH.out.room
    · have hx2 : ¬ (((s.was i).toNat : Int) = (x.toNat : Int)) := fun e => hx (UInt16.toNat_inj.1 (by omega))
      have HX := Lib.hid hx
      clear hx
      go_wp2_with fail
      go_end0
      refine ⟨rfl, ?_, HB2.out⟩
      refine ⟨?_, ⟨sp, HNUM2.out⟩, ⟨_, _, HOWN2.out, HKEEP.out HX.out⟩, HH.out.ok.put i x, ?_, HH.out.ne⟩
      · rw [n_put]
        exact HROW2.out
      · rw [n_put]
        exact HH.out.room
end Go.Proofs.Ytlemjegngnfanaa.Tl

