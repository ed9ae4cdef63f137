/- The reference's Decode of whatever bytes; its Pick. (Written by bin/gen_surpick.py.) -/
import Derived.Test.YtkhimoclikhlaaaSuY
namespace Go.Proofs.Ytkhimoclikhlaaa.Su
open Go.RowKit Go.Shelf Go.Proofs.Ytkhimoclikhlaaa.Oct Go.Proofs.Ytkhimoclikhlaaa.Sf
set_option linter.unusedVariables false

set_option maxRecDepth 100000 in
set_option maxHeartbeats 1000000 in
theorem rdecode_len (a : Option Addr) (len cap : Nat) (w : World) (h : len ≠ 128) (hm : len ≤ maxLen) :
    Calls Try.prog 15 #[.slice a len cap] w fun e w' => e = .returned (.tuple #[sval zero18, .int .i64 60]) ∧ Below w.heap.size w w' := by
  have HR := Lib.hid (show RowV (w.alloc (.cells #[(.int .u64 0), (.int .u32 0), (.int .u32 0), (.int .u32 0), (.int .u32 0), (.int .u32 0), (.int .u32 0), (.int .u32 0), (.int .u32 0), (.int .u32 0), (.int .u64 0), (.int .u64 0), (.int .u64 0), (.int .u64 0), (.int .u64 0), (.int .u64 0), (.int .u64 0), (.int .u64 0)] 27)) w.heap.size 27 (scells zero18) from alloc_rowV w 27 (scells zero18))
  have HB := Lib.hid ((Below.refl w.heap.size w).alloc (Nat.le_refl _) (.cells #[(.int .u64 0), (.int .u32 0), (.int .u32 0), (.int .u32 0), (.int .u32 0), (.int .u32 0), (.int .u32 0), (.int .u32 0), (.int .u32 0), (.int .u32 0), (.int .u64 0), (.int .u64 0), (.int .u64 0), (.int .u64 0), (.int .u64 0), (.int .u64 0), (.int .u64 0), (.int .u64 0)] 27))
  go_enter Try.func15, Try.ntmps15
  go_upto_region 1 with (fail)
  generalize w.alloc (.cells #[(.int .u64 0), (.int .u32 0), (.int .u32 0), (.int .u32 0), (.int .u32 0), (.int .u32 0), (.int .u32 0), (.int .u32 0), (.int .u32 0), (.int .u32 0), (.int .u64 0), (.int .u64 0), (.int .u64 0), (.int .u64 0), (.int .u64 0), (.int .u64 0), (.int .u64 0), (.int .u64 0)] 27) = w1 at *
  go_wp2_with fail
  refine (ropen_len a len cap w1 h hm).mono ?_
  rintro e w2 ⟨rfl, hs⟩
  replace HR := Lib.hid (HR.out.still hs)
  replace HB := Lib.hid (HB.out.trans (hs.below _))
  clear hs
  go_wp2_with (first | (refine wpList_store_row rfl 27 (.tmp 2) (.tmp 19) rfl w.heap.size (scells zero18).toArray rfl rfl _ _ HR.out (size_scells _) (by simp [length_scells]) (one_scells _) ?_) | (refine wpList_build_as rfl 27 #[] rfl (scells zero18).toArray ?_ ?_; (simp [Act.eval]); exact built_zero))
  exact bodyPost_ret (results_sup rfl _ _ w.heap.size zero18 rfl (row_setRow_same HR.out)) rfl ⟨rfl, HB.out.trans (setRow_below _ (Nat.le_refl _))⟩
set_option maxRecDepth 100000 in
set_option maxHeartbeats 1000000 in
theorem rdecode_sum (b o cap : Nat) (ps : List UInt8) (w : World) (hb : Has w b o ps) (hlen : ps.length = 128) (hc : 128 ≤ cap) (hm : cap ≤ maxLen) (hs : ¬ Oct.Good ps) :
    Calls Try.prog 15 #[.slice (some ⟨b, o, none⟩) 128 cap] w fun e w' => e = .returned (.tuple #[sval zero18, .int .i64 60]) ∧ Below w.heap.size w w' := by
  have ka := (Below.refl w.heap.size w).alloc (Nat.le_refl _) (.cells #[(.int .u64 0), (.int .u32 0), (.int .u32 0), (.int .u32 0), (.int .u32 0), (.int .u32 0), (.int .u32 0), (.int .u32 0), (.int .u32 0), (.int .u32 0), (.int .u64 0), (.int .u64 0), (.int .u64 0), (.int .u64 0), (.int .u64 0), (.int .u64 0), (.int .u64 0), (.int .u64 0)] 27)
  have HH := Lib.hid (hb.below (has_lt' hb (by omega)) ka)
  have HR := Lib.hid (show RowV (w.alloc (.cells #[(.int .u64 0), (.int .u32 0), (.int .u32 0), (.int .u32 0), (.int .u32 0), (.int .u32 0), (.int .u32 0), (.int .u32 0), (.int .u32 0), (.int .u32 0), (.int .u64 0), (.int .u64 0), (.int .u64 0), (.int .u64 0), (.int .u64 0), (.int .u64 0), (.int .u64 0), (.int .u64 0)] 27)) w.heap.size 27 (scells zero18) from alloc_rowV w 27 (scells zero18))
  have HB := Lib.hid ka
  clear hb ka
  go_enter Try.func15, Try.ntmps15
  go_upto_region 1 with (fail)
  generalize w.alloc (.cells #[(.int .u64 0), (.int .u32 0), (.int .u32 0), (.int .u32 0), (.int .u32 0), (.int .u32 0), (.int .u32 0), (.int .u32 0), (.int .u32 0), (.int .u32 0), (.int .u64 0), (.int .u64 0), (.int .u64 0), (.int .u64 0), (.int .u64 0), (.int .u64 0), (.int .u64 0), (.int .u64 0)] 27) = w1 at *
  go_wp2_with fail
  refine (ropen_bad b o cap ps w1 HH.out hlen hc hm (fun e => hs e)).mono ?_
  rintro e w2 ⟨rfl, hs2⟩
  replace HR := Lib.hid (HR.out.still hs2)
  replace HB := Lib.hid (HB.out.trans (hs2.below _))
  clear hs2
  go_wp2_with (first | (refine wpList_store_row rfl 27 (.tmp 2) (.tmp 19) rfl w.heap.size (scells zero18).toArray rfl rfl _ _ HR.out (size_scells _) (by simp [length_scells]) (one_scells _) ?_) | (refine wpList_build_as rfl 27 #[] rfl (scells zero18).toArray ?_ ?_; (simp [Act.eval]); exact built_zero))
  exact bodyPost_ret (results_sup rfl _ _ w.heap.size zero18 rfl (row_setRow_same HR.out)) rfl ⟨rfl, HB.out.trans (setRow_below _ (Nat.le_refl _))⟩
theorem rdecode_any (a : Option Addr) (len cap : Nat) (ps : List UInt8) (hlen : ps.length = len) (w : World) (hb : Oct.Told w a ps) (hc : len ≤ cap) (hm : cap ≤ maxLen) :
    Calls Try.prog 15 #[.slice a len cap] w fun e w' => e = .returned (.tuple #[sval (dsup ps), .int .i64 (derr ps)]) ∧ Below w.heap.size w w' := by
  by_cases h : len = 128
  · subst h
    rcases hb with rfl | ⟨b, o, rfl, hb⟩
    · simp at hlen
    · by_cases hs : Oct.Good ps
      · exact rdecode_good b o cap ps w hb hlen hc hm hs
      · obtain ⟨e1, e2⟩ := dsup_no (ps := ps) fun H => hs H.2.1
        rw [e1, e2]
        exact rdecode_sum b o cap ps w hb hlen hc hm hs
  · obtain ⟨e1, e2⟩ := dsup_no (ps := ps) fun H => h (hlen ▸ H.1)
    rw [e1, e2]
    exact rdecode_len a len cap w h (Nat.le_trans hc hm)
theorem rdecode_bts {A : Option Addr} {n c : Nat} {ps : List UInt8} {w : World} (h : Bts w A n c ps) :
    Calls Try.prog 15 #[.slice A n c] w fun e w' => e = .returned (.tuple #[.agg (scells (dsup ps)).toArray, .int .i64 (derr ps)]) ∧ Below w.heap.size w w' := rdecode_any A n c ps h.len w h.told h.le h.cap

theorem dsup_in {ps : List UInt8} (h : Holds ps) : dsup ps = sIn ps ∧ derr ps = 0 := by
  unfold dsup derr; rw [if_pos h, if_pos h]; exact ⟨rfl, rfl⟩
theorem pick_later {a b : List UInt8} (hb : Holds b) (h : Later a b) : psup a b = dsup b ∧ pslot a b = 1 ∧ perr a b = 0 := by
  unfold psup pslot perr
  rw [if_pos h, if_pos h, if_pos h, (dsup_in hb).1]
  exact ⟨rfl, rfl, rfl⟩
theorem pick_first' {a b : List UInt8} (h : ¬ Later a b) (hc : Counts 0 a) : psup a b = dsup a ∧ pslot a b = 0 ∧ perr a b = 0 := by
  unfold psup pslot perr
  rw [if_neg h, if_neg h, if_neg h, if_pos hc, if_pos hc, (dsup_in hc.1).1]
  exact ⟨rfl, rfl, rfl⟩
theorem pick_none' {a b : List UInt8} (h : ¬ Later a b) (hc : ¬ Counts 0 a) : psup a b = zero18 ∧ pslot a b = 0 ∧ perr a b = 60 := by
  unfold psup pslot perr
  rw [if_neg h, if_neg h, if_neg h, if_neg hc, if_neg hc]
  exact ⟨rfl, rfl, rfl⟩

set_option maxRecDepth 100000 in
set_option maxHeartbeats 4000000 in
theorem rpick_any {A B : Option Addr} {n c m d : Nat} {a b : List UInt8} {w : World} (h1 : Bts w A n c a) (h2 : Bts w B m d b) :
    Calls Try.prog 17 #[.slice A n c, .slice B m d] w fun e w' => e = .returned (.tuple #[.agg (scells (psup a b)).toArray, .int .i64 (pslot a b), .int .i64 (perr a b)]) ∧ Below w.heap.size w w' := by
  have ka := (Below.refl w.heap.size w).alloc (Nat.le_refl _) (.cells #[(.int .u64 0), (.int .u32 0), (.int .u32 0), (.int .u32 0), (.int .u32 0), (.int .u32 0), (.int .u32 0), (.int .u32 0), (.int .u32 0), (.int .u32 0), (.int .u64 0), (.int .u64 0), (.int .u64 0), (.int .u64 0), (.int .u64 0), (.int .u64 0), (.int .u64 0), (.int .u64 0)] 27)
  have HR := Lib.hid (show RowV (w.alloc (.cells #[(.int .u64 0), (.int .u32 0), (.int .u32 0), (.int .u32 0), (.int .u32 0), (.int .u32 0), (.int .u32 0), (.int .u32 0), (.int .u32 0), (.int .u32 0), (.int .u64 0), (.int .u64 0), (.int .u64 0), (.int .u64 0), (.int .u64 0), (.int .u64 0), (.int .u64 0), (.int .u64 0)] 27)) w.heap.size 27 (scells zero18) from alloc_rowV w 27 (scells zero18))
  have H1 := Lib.hid (h1.below ka)
  have H2 := Lib.hid (h2.below ka)
  have HB := Lib.hid ka
  clear h1 h2 ka
  go_enter Try.func17, Try.ntmps17
  go_upto_region 1 with (fail)
  generalize w.alloc (.cells #[(.int .u64 0), (.int .u32 0), (.int .u32 0), (.int .u32 0), (.int .u32 0), (.int .u32 0), (.int .u32 0), (.int .u32 0), (.int .u32 0), (.int .u32 0), (.int .u64 0), (.int .u64 0), (.int .u64 0), (.int .u64 0), (.int .u64 0), (.int .u64 0), (.int .u64 0), (.int .u64 0)] 27) = v0 at *
  go_wp2_with fail
  refine (rdecode_bts H1.out).mono ?_
  rintro e v1 ⟨rfl, kk⟩
  replace HR := Lib.hid (HR.out.below HR.out.lt kk)
  replace H1 := Lib.hid (H1.out.below kk)
  replace H2 := Lib.hid (H2.out.below kk)
  replace HB := Lib.hid (HB.out.trans (kk.mono HB.out.size))
  clear kk
  have hst := run_storeCells_new (P := Try.prog) v1 27 #[(.int .u64 0), (.int .u32 0), (.int .u32 0), (.int .u32 0), (.int .u32 0), (.int .u32 0), (.int .u32 0), (.int .u32 0), (.int .u32 0), (.int .u32 0), (.int .u64 0), (.int .u64 0), (.int .u64 0), (.int .u64 0), (.int .u64 0), (.int .u64 0), (.int .u64 0), (.int .u64 0)] (scells (dsup a)).toArray (size_scells _) (by simp [length_scells]) (one_scells _)
  have hlc := length_scells (dsup a)
  go_upto_region 2 with (fail)
  clear hst hlc
  have HZ7 := Lib.hid (alloc_rowV v1 27 (scells (dsup a)))
  have kk := (Below.refl v1.heap.size v1).alloc (Nat.le_refl _) (.cells (scells (dsup a)).toArray 27)
  replace HR := Lib.hid (HR.out.below HR.out.lt kk)
  replace H1 := Lib.hid (H1.out.below kk)
  replace H2 := Lib.hid (H2.out.below kk)
  replace HB := Lib.hid (HB.out.trans (kk.mono HB.out.size))
  clear kk
  generalize v1.alloc (.cells (scells (dsup a)).toArray 27) = v2 at *
  generalize v1.heap.size = x7 at *
  go_wp2_with fail
  refine (rdecode_bts H2.out).mono ?_
  rintro e v3 ⟨rfl, kk⟩
  replace HR := Lib.hid (HR.out.below HR.out.lt kk)
  replace HZ7 := Lib.hid (HZ7.out.below HZ7.out.lt kk)
  replace H1 := Lib.hid (H1.out.below kk)
  replace H2 := Lib.hid (H2.out.below kk)
  replace HB := Lib.hid (HB.out.trans (kk.mono HB.out.size))
  clear kk
  have hst := run_storeCells_new (P := Try.prog) v3 27 #[(.int .u64 0), (.int .u32 0), (.int .u32 0), (.int .u32 0), (.int .u32 0), (.int .u32 0), (.int .u32 0), (.int .u32 0), (.int .u32 0), (.int .u32 0), (.int .u64 0), (.int .u64 0), (.int .u64 0), (.int .u64 0), (.int .u64 0), (.int .u64 0), (.int .u64 0), (.int .u64 0)] (scells (dsup b)).toArray (size_scells _) (by simp [length_scells]) (one_scells _)
  have hlc := length_scells (dsup b)
  go_upto_region 3 with (fail)
  clear hst hlc
  have HZ9 := Lib.hid (alloc_rowV v3 27 (scells (dsup b)))
  have kk := (Below.refl v3.heap.size v3).alloc (Nat.le_refl _) (.cells (scells (dsup b)).toArray 27)
  replace HR := Lib.hid (HR.out.below HR.out.lt kk)
  replace HZ7 := Lib.hid (HZ7.out.below HZ7.out.lt kk)
  replace H1 := Lib.hid (H1.out.below kk)
  replace H2 := Lib.hid (H2.out.below kk)
  replace HB := Lib.hid (HB.out.trans (kk.mono HB.out.size))
  clear kk
  generalize v3.alloc (.cells (scells (dsup b)).toArray 27) = v4 at *
  generalize v3.heap.size = x9 at *
  have c1 := HZ7.out.cellAt (scells_at (dsup a) 0 (by decide))
  have c2 := HZ9.out.cellAt (scells_at (dsup b) 0 (by decide))
  rw [scell_wide _ _ (.inl rfl)] at c1 c2
  have g1 := (ok_dsup a).lt 0
  have g2 := (ok_dsup b).lt 0
  have KA := Lib.hid (show (¬ Holds a ∧ derr a = 60) ∨ (Counts 0 a ∧ derr a = 0 ∧ nth (dsup a) 0 % 2 = 0) ∨ (¬ Counts 0 a ∧ derr a = 0 ∧ nth (dsup a) 0 % 2 = 1) by
    by_cases h : Holds a
    · obtain ⟨e1, e2⟩ := dsup_in h
      rw [e1]
      rcases Nat.mod_two_eq_zero_or_one (nth (sIn a) 0) with q | q
      · exact .inr (.inl ⟨⟨h, q⟩, e2, q⟩)
      · exact .inr (.inr ⟨fun k => by have := k.2; omega, e2, q⟩)
    · exact .inl ⟨h, (dsup_no h).2⟩)
  have KB := Lib.hid (show (¬ Holds b ∧ derr b = 60) ∨ (Counts 1 b ∧ derr b = 0 ∧ nth (dsup b) 0 % 2 = 1) ∨ (¬ Counts 1 b ∧ derr b = 0 ∧ nth (dsup b) 0 % 2 = 0) by
    by_cases h : Holds b
    · obtain ⟨e1, e2⟩ := dsup_in h
      rw [e1]
      rcases Nat.mod_two_eq_zero_or_one (nth (sIn b) 0) with q | q
      · exact .inr (.inr ⟨fun k => by have := k.2; omega, e2, q⟩)
      · exact .inr (.inl ⟨⟨h, q⟩, e2, q⟩)
    · exact .inl ⟨h, (dsup_no h).2⟩)
  clear H1 H2
  rcases KA.out with ⟨ha, ea⟩ | ⟨ha, ea, pa⟩ | ⟨ha, ea, pa⟩ <;> rcases KB.out with ⟨hb, eb⟩ | ⟨hb, eb, pb⟩ | ⟨hb, eb, pb⟩
  · skip
    have hnl : ¬ Later a b := fun q => hb q.1.1
    have HX := Lib.hid (pick_none' hnl (fun q => ha q.1))
    rw [ea, eb]
    clear ea eb ha hb hnl
    go_wp2_with (first | (refine wpList_store_row rfl 27 (.tmp 4) (.tmp 54) rfl w.heap.size (scells zero18).toArray rfl rfl _ _ HR.out (size_scells _) (by simp [length_scells]) (one_scells _) ?_) | (refine wpList_build_as rfl 27 #[] rfl (scells zero18).toArray ?_ ?_; (simp [Act.eval]); exact built_zero))
    refine bodyPost_ret (results_sup3 rfl _ _ w.heap.size zero18 rfl (row_setRow_same HR.out)) rfl ⟨?_, HB.out.trans (setRow_below _ (Nat.le_refl _))⟩
    rw [HX.out.1, HX.out.2.1, HX.out.2.2]
    rfl
  · skip
    have HX := Lib.hid (pick_later hb.1 ⟨hb, fun q => (fun q => ha q.1) q.1⟩)
    rw [ea, eb]
    have tb : (nth (dsup b) 0 : Int).tmod 2 = 1 := by rw [Int.tmod_eq_emod_of_nonneg (by omega)]; omega
    have tb2 : (nth (dsup b) 0 : Int) % 2 = 1 := by omega
    clear ea eb pb ha hb
    go_wp2_with (first | (refine wpList_load_row rfl 27 (.tmp 9) rfl x9 rfl _ (scells (dsup b)).toArray _ _ HZ9.out Try.underlying27 rfl (size_scells _) ?_) | (refine wpList_store_row rfl 27 (.tmp 4) (.tmp 51) rfl w.heap.size (scells (dsup b)).toArray rfl rfl _ _ HR.out (size_scells _) (by simp [length_scells]) (one_scells _) ?_))
    refine bodyPost_ret (results_sup3 rfl _ _ w.heap.size (dsup b) rfl (row_setRow_same HR.out)) rfl ⟨?_, HB.out.trans (setRow_below _ (Nat.le_refl _))⟩
    rw [HX.out.1, HX.out.2.1, HX.out.2.2]
    rfl
  · skip
    have hnl : ¬ Later a b := fun q => hb q.1
    have HX := Lib.hid (pick_none' hnl (fun q => ha q.1))
    rw [ea, eb]
    have tb : (nth (dsup b) 0 : Int).tmod 2 = 0 := by rw [Int.tmod_eq_emod_of_nonneg (by omega)]; omega
    have tb2 : (nth (dsup b) 0 : Int) % 2 = 0 := by omega
    clear ea eb pb ha hb hnl
    go_wp2_with (first | (refine wpList_store_row rfl 27 (.tmp 4) (.tmp 54) rfl w.heap.size (scells zero18).toArray rfl rfl _ _ HR.out (size_scells _) (by simp [length_scells]) (one_scells _) ?_) | (refine wpList_build_as rfl 27 #[] rfl (scells zero18).toArray ?_ ?_; (simp [Act.eval]); exact built_zero))
    refine bodyPost_ret (results_sup3 rfl _ _ w.heap.size zero18 rfl (row_setRow_same HR.out)) rfl ⟨?_, HB.out.trans (setRow_below _ (Nat.le_refl _))⟩
    rw [HX.out.1, HX.out.2.1, HX.out.2.2]
    rfl
  · skip
    have hnl : ¬ Later a b := fun q => hb q.1.1
    have HX := Lib.hid (pick_first' hnl ha)
    rw [ea, eb]
    have ta : (nth (dsup a) 0 : Int).tmod 2 = 0 := by rw [Int.tmod_eq_emod_of_nonneg (by omega)]; omega
    have ta2 : (nth (dsup a) 0 : Int) % 2 = 0 := by omega
    clear ea eb pa ha hb hnl
    go_wp2_with (first | (refine wpList_load_row rfl 27 (.tmp 7) rfl x7 rfl _ (scells (dsup a)).toArray _ _ HZ7.out Try.underlying27 rfl (size_scells _) ?_) | (refine wpList_store_row rfl 27 (.tmp 4) (.tmp 53) rfl w.heap.size (scells (dsup a)).toArray rfl rfl _ _ HR.out (size_scells _) (by simp [length_scells]) (one_scells _) ?_))
    refine bodyPost_ret (results_sup3 rfl _ _ w.heap.size (dsup a) rfl (row_setRow_same HR.out)) rfl ⟨?_, HB.out.trans (setRow_below _ (Nat.le_refl _))⟩
    rw [HX.out.1, HX.out.2.1, HX.out.2.2]
    rfl
  · skip
    rw [ea, eb]
    have ta : (nth (dsup a) 0 : Int).tmod 2 = 0 := by rw [Int.tmod_eq_emod_of_nonneg (by omega)]; omega
    have ta2 : (nth (dsup a) 0 : Int) % 2 = 0 := by omega
    have tb : (nth (dsup b) 0 : Int).tmod 2 = 1 := by rw [Int.tmod_eq_emod_of_nonneg (by omega)]; omega
    have tb2 : (nth (dsup b) 0 : Int) % 2 = 1 := by omega
    have HDA := Lib.hid (dsup_in ha.1).1
    have HDB := Lib.hid (dsup_in hb.1).1
    by_cases hlt : nth (dsup b) 0 < nth (dsup a) 0
    · skip
      have HX := Lib.hid (pick_first' (a := a) (b := b) (fun q => q.2 ⟨ha, by rw [← HDA.out, ← HDB.out]; exact hlt⟩) ha)
      have hli : (nth (dsup b) 0 : Int) < (nth (dsup a) 0 : Int) := by omega
      clear ea eb pa pb ha hb
      go_wp2_with (first | (refine wpList_load_row rfl 27 (.tmp 7) rfl x7 rfl _ (scells (dsup a)).toArray _ _ HZ7.out Try.underlying27 rfl (size_scells _) ?_) | (refine wpList_store_row rfl 27 (.tmp 4) (.tmp 53) rfl w.heap.size (scells (dsup a)).toArray rfl rfl _ _ HR.out (size_scells _) (by simp [length_scells]) (one_scells _) ?_))
      refine bodyPost_ret (results_sup3 rfl _ _ w.heap.size (dsup a) rfl (row_setRow_same HR.out)) rfl ⟨?_, HB.out.trans (setRow_below _ (Nat.le_refl _))⟩
      rw [HX.out.1, HX.out.2.1, HX.out.2.2]
      rfl
    · skip
      have HX := Lib.hid (pick_later hb.1 ⟨hb, fun q => hlt (by rw [HDA.out, HDB.out]; exact q.2)⟩)
      have hli : ¬ (nth (dsup b) 0 : Int) < (nth (dsup a) 0 : Int) := by omega
      clear ea eb pa pb ha hb
      go_wp2_with (first | (refine wpList_load_row rfl 27 (.tmp 9) rfl x9 rfl _ (scells (dsup b)).toArray _ _ HZ9.out Try.underlying27 rfl (size_scells _) ?_) | (refine wpList_store_row rfl 27 (.tmp 4) (.tmp 51) rfl w.heap.size (scells (dsup b)).toArray rfl rfl _ _ HR.out (size_scells _) (by simp [length_scells]) (one_scells _) ?_))
      refine bodyPost_ret (results_sup3 rfl _ _ w.heap.size (dsup b) rfl (row_setRow_same HR.out)) rfl ⟨?_, HB.out.trans (setRow_below _ (Nat.le_refl _))⟩
      rw [HX.out.1, HX.out.2.1, HX.out.2.2]
      rfl
  · skip
    have hnl : ¬ Later a b := fun q => hb q.1
    have HX := Lib.hid (pick_first' hnl ha)
    rw [ea, eb]
    have ta : (nth (dsup a) 0 : Int).tmod 2 = 0 := by rw [Int.tmod_eq_emod_of_nonneg (by omega)]; omega
    have ta2 : (nth (dsup a) 0 : Int) % 2 = 0 := by omega
    have tb : (nth (dsup b) 0 : Int).tmod 2 = 0 := by rw [Int.tmod_eq_emod_of_nonneg (by omega)]; omega
    have tb2 : (nth (dsup b) 0 : Int) % 2 = 0 := by omega
    clear ea eb pa pb ha hb hnl
    go_wp2_with (first | (refine wpList_load_row rfl 27 (.tmp 7) rfl x7 rfl _ (scells (dsup a)).toArray _ _ HZ7.out Try.underlying27 rfl (size_scells _) ?_) | (refine wpList_store_row rfl 27 (.tmp 4) (.tmp 53) rfl w.heap.size (scells (dsup a)).toArray rfl rfl _ _ HR.out (size_scells _) (by simp [length_scells]) (one_scells _) ?_))
    refine bodyPost_ret (results_sup3 rfl _ _ w.heap.size (dsup a) rfl (row_setRow_same HR.out)) rfl ⟨?_, HB.out.trans (setRow_below _ (Nat.le_refl _))⟩
    rw [HX.out.1, HX.out.2.1, HX.out.2.2]
    rfl
  · skip
    have hnl : ¬ Later a b := fun q => hb q.1.1
    have HX := Lib.hid (pick_none' hnl (ha))
    rw [ea, eb]
    have ta : (nth (dsup a) 0 : Int).tmod 2 = 1 := by rw [Int.tmod_eq_emod_of_nonneg (by omega)]; omega
    have ta2 : (nth (dsup a) 0 : Int) % 2 = 1 := by omega
    clear ea eb pa ha hb hnl
    go_wp2_with (first | (refine wpList_store_row rfl 27 (.tmp 4) (.tmp 54) rfl w.heap.size (scells zero18).toArray rfl rfl _ _ HR.out (size_scells _) (by simp [length_scells]) (one_scells _) ?_) | (refine wpList_build_as rfl 27 #[] rfl (scells zero18).toArray ?_ ?_; (simp [Act.eval]); exact built_zero))
    refine bodyPost_ret (results_sup3 rfl _ _ w.heap.size zero18 rfl (row_setRow_same HR.out)) rfl ⟨?_, HB.out.trans (setRow_below _ (Nat.le_refl _))⟩
    rw [HX.out.1, HX.out.2.1, HX.out.2.2]
    rfl
  · skip
    have HX := Lib.hid (pick_later hb.1 ⟨hb, fun q => (ha) q.1⟩)
    rw [ea, eb]
    have ta : (nth (dsup a) 0 : Int).tmod 2 = 1 := by rw [Int.tmod_eq_emod_of_nonneg (by omega)]; omega
    have ta2 : (nth (dsup a) 0 : Int) % 2 = 1 := by omega
    have tb : (nth (dsup b) 0 : Int).tmod 2 = 1 := by rw [Int.tmod_eq_emod_of_nonneg (by omega)]; omega
    have tb2 : (nth (dsup b) 0 : Int) % 2 = 1 := by omega
    clear ea eb pa pb ha hb
    go_wp2_with (first | (refine wpList_load_row rfl 27 (.tmp 9) rfl x9 rfl _ (scells (dsup b)).toArray _ _ HZ9.out Try.underlying27 rfl (size_scells _) ?_) | (refine wpList_store_row rfl 27 (.tmp 4) (.tmp 51) rfl w.heap.size (scells (dsup b)).toArray rfl rfl _ _ HR.out (size_scells _) (by simp [length_scells]) (one_scells _) ?_))
    refine bodyPost_ret (results_sup3 rfl _ _ w.heap.size (dsup b) rfl (row_setRow_same HR.out)) rfl ⟨?_, HB.out.trans (setRow_below _ (Nat.le_refl _))⟩
    rw [HX.out.1, HX.out.2.1, HX.out.2.2]
    rfl
  · skip
    have hnl : ¬ Later a b := fun q => hb q.1
    have HX := Lib.hid (pick_none' hnl (ha))
    rw [ea, eb]
    have ta : (nth (dsup a) 0 : Int).tmod 2 = 1 := by rw [Int.tmod_eq_emod_of_nonneg (by omega)]; omega
    have ta2 : (nth (dsup a) 0 : Int) % 2 = 1 := by omega
    have tb : (nth (dsup b) 0 : Int).tmod 2 = 0 := by rw [Int.tmod_eq_emod_of_nonneg (by omega)]; omega
    have tb2 : (nth (dsup b) 0 : Int) % 2 = 0 := by omega
    clear ea eb pa pb ha hb hnl
    go_wp2_with (first | (refine wpList_store_row rfl 27 (.tmp 4) (.tmp 54) rfl w.heap.size (scells zero18).toArray rfl rfl _ _ HR.out (size_scells _) (by simp [length_scells]) (one_scells _) ?_) | (refine wpList_build_as rfl 27 #[] rfl (scells zero18).toArray ?_ ?_; (simp [Act.eval]); exact built_zero))
    refine bodyPost_ret (results_sup3 rfl _ _ w.heap.size zero18 rfl (row_setRow_same HR.out)) rfl ⟨?_, HB.out.trans (setRow_below _ (Nat.le_refl _))⟩
    rw [HX.out.1, HX.out.2.1, HX.out.2.2]
    rfl
end Go.Proofs.Ytkhimoclikhlaaa.Su
