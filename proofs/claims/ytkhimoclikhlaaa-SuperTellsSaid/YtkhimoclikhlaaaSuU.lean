/- The walk of the statement SuperTells. (Written by bin/gen_sutells.py.) -/
import Derived.Test.YtkhimoclikhlaaaSuZ
import Derived.Test.YtkhimoclikhlaaaInv2
namespace Go.Proofs.Ytkhimoclikhlaaa.Su
open Go.RowKit Go.Shelf Go.Proofs.Ytkhimoclikhlaaa.Oct Go.Proofs.Ytkhimoclikhlaaa.Sf
set_option linter.unusedVariables false

theorem if_wanted'' {c : Bool} {A B : Prop} (h : c = true) (a : A) : if c = true then A else B := by rw [if_pos h]; exact a
/-- What Encode answers: the error, the page. -/
def eno (s : Sup) : Int := if Fit s then 0 else 60
def epg (s : Sup) : List UInt8 := if Fit s then supPage s else []
theorem encode_two (s : Sup) (hs : Ok s) (w : World) :
    Calls Try.prog 12 #[.agg (scells s).toArray] w fun e w' => ∃ A n c, e = .returned (.tuple #[.slice A n c, .int .i64 (eno s)]) ∧ Bts w' A n c (epg s) ∧ Below w.heap.size w w' := by
  by_cases fs : Fit s
  · refine (encode_bts s hs w fs).mono ?_
    rintro e w' ⟨g, rfl, P, -, -, k⟩
    exact ⟨_, _, _, by unfold eno; rw [if_pos fs], by unfold epg; rw [if_pos fs]; exact P, k⟩
  · refine (encode_none s hs w fs).mono ?_
    rintro e w' ⟨rfl, k⟩
    exact ⟨_, _, _, by unfold eno; rw [if_neg fs], by unfold epg; rw [if_neg fs]; exact ⟨rfl, .inl rfl, Nat.le_refl _, by decide⟩, k⟩
theorem rencode_two (s : Sup) (hs : Ok s) (w : World) :
    Calls Try.prog 13 #[.agg (scells s).toArray] w fun e w' => ∃ A n c, e = .returned (.tuple #[.slice A n c, .int .i64 (eno s)]) ∧ Bts w' A n c (epg s) ∧ Below w.heap.size w w' := by
  by_cases fs : Fit s
  · refine (rencode_yes s hs w fs).mono ?_
    rintro e w' ⟨A, c, rfl, P, k⟩
    exact ⟨_, _, _, by unfold eno; rw [if_pos fs], by unfold epg; rw [if_pos fs]; exact P, k⟩
  · refine (rencode_no s hs w fs).mono ?_
    rintro e w' ⟨rfl, k⟩
    exact ⟨_, _, _, by unfold eno; rw [if_neg fs], by unfold epg; rw [if_neg fs]; exact ⟨rfl, .inl rfl, Nat.le_refl _, by decide⟩, k⟩
theorem again_bts {A : Option Addr} {n c : Nat} {ps : List UInt8} {w : World} (h : Bts w A n c ps) :
    Calls Try.prog 11 #[.slice A n c] w fun e w' => ∃ B d, e = .returned (.slice B n d) ∧ Bts w' B n d ps ∧ Below w.heap.size w w' := by
  refine (again_len A n c ps h.len w (Nat.le_trans h.le h.cap) h.told).mono ?_
  rintro e w' ⟨g, d, rfl, F⟩
  exact ⟨_, _, rfl, ⟨h.len, F.has.told, by rw [← h.len]; exact F.len, F.cap⟩, F.below⟩
theorem pick_two {A B : Option Addr} {n c m d : Nat} {a b : List UInt8} {w : World} (h1 : Bts w A n c a) (h2 : Bts w B m d b) :
    Calls Try.prog 16 #[.slice A n c, .slice B m d] w fun e w' => e = .returned (.tuple #[.agg (scells (psup a b)).toArray, .int .i64 (pslot a b), .int .i64 (perr a b)]) ∧ Below w.heap.size w w' := pick_any h1 h2
theorem decode_two {A : Option Addr} {n c : Nat} {ps : List UInt8} {w : World} (h : Bts w A n c ps) :
    Calls Try.prog 14 #[.slice A n c] w fun e w' => e = .returned (.tuple #[.agg (scells (dsup ps)).toArray, .int .i64 (derr ps)]) ∧ Below w.heap.size w w' := decode_bts h
theorem bts_of {w : World} {A : Option Addr} {n c : Nat} {zs : List Int} (h : IsRow .u8 w A n c zs) : ∃ ps, Bts w A n c ps := by
  obtain ⟨ps, h⟩ := came h
  exact ⟨ps, h.hlen, h.told, h.le, h.hcap⟩
theorem bool_self (b : Bool) : (.bool (b == b) : Value) = .bool true := by rw [beq_self_eq_true]

set_option maxRecDepth 100000 in
set_option maxHeartbeats 8000000 in
theorem tells_walk (s : Sup) (A1 : Option Addr) (n1 c1 : Nat) (z1 : List Int) (A2 : Option Addr) (n2 c2 : Nat) (z2 : List Int) (w : World) (hs : Ok s) (w1 : IsRow .u8 w A1 n1 c1 z1) (w2 : IsRow .u8 w A2 n2 c2 z2) :
    Calls Try.prog 3 #[sval s, .slice A1 n1 c1, .slice A2 n2 c2] w fun e w' => e = .returned (.bool true) ∧ Below w.heap.size w w' := by
  obtain ⟨zs, hz⟩ := bts_of w1
  obtain ⟨os, ho⟩ := bts_of w2
  have HA := Lib.hid (show ∀ w2 : World, Below w.heap.size w w2 → Calls Try.prog 10 #[] w2 fun e w' => e = .returned (.bool true) ∧ Below w.heap.size w w' from fun w2 k => (awake_any w2).mono fun e w' ⟨h1, h2⟩ => ⟨h1, k.trans (h2.mono k.size)⟩)
  have ka := (Below.refl w.heap.size w).alloc (Nat.le_refl _) (.cells (scells s).toArray 27)
  have HR1 := Lib.hid (alloc_rowV w 27 (scells s))
  have HZ := Lib.hid (hz.below ka)
  have HO := Lib.hid (ho.below ka)
  have HB := Lib.hid ka
  have HS := Lib.hid hs
  clear w1 w2 hz ho ka hs
  unfold sval
  go_enter Try.func3, Try.ntmps3
  go_upto_region 1 with (fail)
  generalize w.alloc (.cells (scells s).toArray 27) = v0 at *
  by_cases h1 : 200 < n1
  · skip
    have h1i : (200 : Int) < (n1 : Int) := by omega
    go_wp2_with fail
    refine (HA.out _ HB.out).mono ?_
    rintro e wl ⟨rfl, kl⟩
    go_wp2_with fail
    go_ret
    exact ⟨rfl, kl⟩
  have h1i : ¬ (200 : Int) < (n1 : Int) := by omega
  by_cases h2 : 200 < n2
  · skip
    have h2i : (200 : Int) < (n2 : Int) := by omega
    go_wp2_with fail
    refine (HA.out _ HB.out).mono ?_
    rintro e wl ⟨rfl, kl⟩
    go_wp2_with fail
    go_ret
    exact ⟨rfl, kl⟩
  have h2i : ¬ (200 : Int) < (n2 : Int) := by omega
  go_wp2_with fail
  refine (again_bts HZ.out).mono ?_
  rintro e v1 ⟨B1, d1, rfl, P1, kk⟩
  replace HR1 := Lib.hid (HR1.out.below HR1.out.lt kk)
  replace HZ := Lib.hid (HZ.out.below kk)
  replace HO := Lib.hid (HO.out.below kk)
  replace HB := Lib.hid (HB.out.trans (kk.mono HB.out.size))
  have HI := Lib.hid P1
  clear P1
  clear kk
  go_wp2_with fail
  refine (again_bts HO.out).mono ?_
  rintro e v2 ⟨B2, d2, rfl, P2, kk⟩
  replace HR1 := Lib.hid (HR1.out.below HR1.out.lt kk)
  replace HZ := Lib.hid (HZ.out.below kk)
  replace HO := Lib.hid (HO.out.below kk)
  replace HI := Lib.hid (HI.out.below kk)
  replace HB := Lib.hid (HB.out.trans (kk.mono HB.out.size))
  have HN := Lib.hid P2
  clear P2
  clear kk
  go_wp2_with (refine wpList_load_row rfl 27 (.tmp 3) rfl w.heap.size rfl _ (scells s).toArray _ _ HR1.out Try.underlying27 rfl (size_scells _) ?_)
  refine (encode_two s HS.out _).mono ?_
  rintro e v3 ⟨A3, n3, c3, rfl, P3, kk⟩
  replace HR1 := Lib.hid (HR1.out.below HR1.out.lt kk)
  replace HZ := Lib.hid (HZ.out.below kk)
  replace HO := Lib.hid (HO.out.below kk)
  replace HI := Lib.hid (HI.out.below kk)
  replace HN := Lib.hid (HN.out.below kk)
  replace HB := Lib.hid (HB.out.trans (kk.mono HB.out.size))
  have HE := Lib.hid P3
  clear P3
  clear kk
  go_wp2_with (refine wpList_load_row rfl 27 (.tmp 3) rfl w.heap.size rfl _ (scells s).toArray _ _ HR1.out Try.underlying27 rfl (size_scells _) ?_)
  refine (rencode_two s HS.out _).mono ?_
  rintro e v4 ⟨A4, n4, c4, rfl, P4, kk⟩
  replace HR1 := Lib.hid (HR1.out.below HR1.out.lt kk)
  replace HZ := Lib.hid (HZ.out.below kk)
  replace HO := Lib.hid (HO.out.below kk)
  replace HI := Lib.hid (HI.out.below kk)
  replace HN := Lib.hid (HN.out.below kk)
  replace HE := Lib.hid (HE.out.below kk)
  replace HB := Lib.hid (HB.out.trans (kk.mono HB.out.size))
  have HF := Lib.hid P4
  clear P4
  clear kk
  go_wp2_with fail
  refine (decode_two HI.out).mono ?_
  rintro e v5 ⟨rfl, kk⟩
  replace HR1 := Lib.hid (HR1.out.below HR1.out.lt kk)
  replace HZ := Lib.hid (HZ.out.below kk)
  replace HO := Lib.hid (HO.out.below kk)
  replace HI := Lib.hid (HI.out.below kk)
  replace HN := Lib.hid (HN.out.below kk)
  replace HE := Lib.hid (HE.out.below kk)
  replace HF := Lib.hid (HF.out.below kk)
  replace HB := Lib.hid (HB.out.trans (kk.mono HB.out.size))
  clear kk
  have hst := run_storeCells_new (P := Try.prog) v5 27 #[(.int .u64 0), (.int .u32 0), (.int .u32 0), (.int .u32 0), (.int .u32 0), (.int .u32 0), (.int .u32 0), (.int .u32 0), (.int .u32 0), (.int .u32 0), (.int .u64 0), (.int .u64 0), (.int .u64 0), (.int .u64 0), (.int .u64 0), (.int .u64 0), (.int .u64 0), (.int .u64 0)] (scells (dsup zs)).toArray (size_scells _) (by simp [length_scells]) (one_scells _)
  have hlc := length_scells (dsup zs)
  go_upto_region 7 with (fail)
  clear hst hlc
  have HX13 := Lib.hid (alloc_rowV v5 27 (scells (dsup zs)))
  have kk := (Below.refl v5.heap.size v5).alloc (Nat.le_refl _) (.cells (scells (dsup zs)).toArray 27)
  replace HR1 := Lib.hid (HR1.out.below HR1.out.lt kk)
  replace HZ := Lib.hid (HZ.out.below kk)
  replace HO := Lib.hid (HO.out.below kk)
  replace HI := Lib.hid (HI.out.below kk)
  replace HN := Lib.hid (HN.out.below kk)
  replace HE := Lib.hid (HE.out.below kk)
  replace HF := Lib.hid (HF.out.below kk)
  replace HB := Lib.hid (HB.out.trans (kk.mono HB.out.size))
  clear kk
  generalize v5.alloc (.cells (scells (dsup zs)).toArray 27) = v6 at *
  generalize v5.heap.size = x13 at *
  go_wp2_with fail
  refine (rdecode_bts HZ.out).mono ?_
  rintro e v7 ⟨rfl, kk⟩
  replace HR1 := Lib.hid (HR1.out.below HR1.out.lt kk)
  replace HX13 := Lib.hid (HX13.out.below HX13.out.lt kk)
  replace HZ := Lib.hid (HZ.out.below kk)
  replace HO := Lib.hid (HO.out.below kk)
  replace HI := Lib.hid (HI.out.below kk)
  replace HN := Lib.hid (HN.out.below kk)
  replace HE := Lib.hid (HE.out.below kk)
  replace HF := Lib.hid (HF.out.below kk)
  replace HB := Lib.hid (HB.out.trans (kk.mono HB.out.size))
  clear kk
  have hst := run_storeCells_new (P := Try.prog) v7 27 #[(.int .u64 0), (.int .u32 0), (.int .u32 0), (.int .u32 0), (.int .u32 0), (.int .u32 0), (.int .u32 0), (.int .u32 0), (.int .u32 0), (.int .u32 0), (.int .u64 0), (.int .u64 0), (.int .u64 0), (.int .u64 0), (.int .u64 0), (.int .u64 0), (.int .u64 0), (.int .u64 0)] (scells (dsup zs)).toArray (size_scells _) (by simp [length_scells]) (one_scells _)
  have hlc := length_scells (dsup zs)
  go_upto_region 8 with (fail)
  clear hst hlc
  have HX15 := Lib.hid (alloc_rowV v7 27 (scells (dsup zs)))
  have kk := (Below.refl v7.heap.size v7).alloc (Nat.le_refl _) (.cells (scells (dsup zs)).toArray 27)
  replace HR1 := Lib.hid (HR1.out.below HR1.out.lt kk)
  replace HX13 := Lib.hid (HX13.out.below HX13.out.lt kk)
  replace HZ := Lib.hid (HZ.out.below kk)
  replace HO := Lib.hid (HO.out.below kk)
  replace HI := Lib.hid (HI.out.below kk)
  replace HN := Lib.hid (HN.out.below kk)
  replace HE := Lib.hid (HE.out.below kk)
  replace HF := Lib.hid (HF.out.below kk)
  replace HB := Lib.hid (HB.out.trans (kk.mono HB.out.size))
  clear kk
  generalize v7.alloc (.cells (scells (dsup zs)).toArray 27) = v8 at *
  generalize v7.heap.size = x15 at *
  go_wp2_with fail
  refine (pick_two HI.out HN.out).mono ?_
  rintro e v9 ⟨rfl, kk⟩
  replace HR1 := Lib.hid (HR1.out.below HR1.out.lt kk)
  replace HX13 := Lib.hid (HX13.out.below HX13.out.lt kk)
  replace HX15 := Lib.hid (HX15.out.below HX15.out.lt kk)
  replace HZ := Lib.hid (HZ.out.below kk)
  replace HO := Lib.hid (HO.out.below kk)
  replace HI := Lib.hid (HI.out.below kk)
  replace HN := Lib.hid (HN.out.below kk)
  replace HE := Lib.hid (HE.out.below kk)
  replace HF := Lib.hid (HF.out.below kk)
  replace HB := Lib.hid (HB.out.trans (kk.mono HB.out.size))
  clear kk
  have hst := run_storeCells_new (P := Try.prog) v9 27 #[(.int .u64 0), (.int .u32 0), (.int .u32 0), (.int .u32 0), (.int .u32 0), (.int .u32 0), (.int .u32 0), (.int .u32 0), (.int .u32 0), (.int .u32 0), (.int .u64 0), (.int .u64 0), (.int .u64 0), (.int .u64 0), (.int .u64 0), (.int .u64 0), (.int .u64 0), (.int .u64 0)] (scells (psup zs os)).toArray (size_scells _) (by simp [length_scells]) (one_scells _)
  have hlc := length_scells (psup zs os)
  go_upto_region 9 with (fail)
  clear hst hlc
  have HX17 := Lib.hid (alloc_rowV v9 27 (scells (psup zs os)))
  have kk := (Below.refl v9.heap.size v9).alloc (Nat.le_refl _) (.cells (scells (psup zs os)).toArray 27)
  replace HR1 := Lib.hid (HR1.out.below HR1.out.lt kk)
  replace HX13 := Lib.hid (HX13.out.below HX13.out.lt kk)
  replace HX15 := Lib.hid (HX15.out.below HX15.out.lt kk)
  replace HZ := Lib.hid (HZ.out.below kk)
  replace HO := Lib.hid (HO.out.below kk)
  replace HI := Lib.hid (HI.out.below kk)
  replace HN := Lib.hid (HN.out.below kk)
  replace HE := Lib.hid (HE.out.below kk)
  replace HF := Lib.hid (HF.out.below kk)
  replace HB := Lib.hid (HB.out.trans (kk.mono HB.out.size))
  clear kk
  generalize v9.alloc (.cells (scells (psup zs os)).toArray 27) = v10 at *
  generalize v9.heap.size = x17 at *
  go_wp2_with fail
  refine (rpick_any HZ.out HO.out).mono ?_
  rintro e v11 ⟨rfl, kk⟩
  replace HR1 := Lib.hid (HR1.out.below HR1.out.lt kk)
  replace HX13 := Lib.hid (HX13.out.below HX13.out.lt kk)
  replace HX15 := Lib.hid (HX15.out.below HX15.out.lt kk)
  replace HX17 := Lib.hid (HX17.out.below HX17.out.lt kk)
  replace HZ := Lib.hid (HZ.out.below kk)
  replace HO := Lib.hid (HO.out.below kk)
  replace HI := Lib.hid (HI.out.below kk)
  replace HN := Lib.hid (HN.out.below kk)
  replace HE := Lib.hid (HE.out.below kk)
  replace HF := Lib.hid (HF.out.below kk)
  replace HB := Lib.hid (HB.out.trans (kk.mono HB.out.size))
  clear kk
  have hst := run_storeCells_new (P := Try.prog) v11 27 #[(.int .u64 0), (.int .u32 0), (.int .u32 0), (.int .u32 0), (.int .u32 0), (.int .u32 0), (.int .u32 0), (.int .u32 0), (.int .u32 0), (.int .u32 0), (.int .u64 0), (.int .u64 0), (.int .u64 0), (.int .u64 0), (.int .u64 0), (.int .u64 0), (.int .u64 0), (.int .u64 0)] (scells (psup zs os)).toArray (size_scells _) (by simp [length_scells]) (one_scells _)
  have hlc := length_scells (psup zs os)
  go_upto_region 10 with (fail)
  clear hst hlc
  have HX20 := Lib.hid (alloc_rowV v11 27 (scells (psup zs os)))
  have kk := (Below.refl v11.heap.size v11).alloc (Nat.le_refl _) (.cells (scells (psup zs os)).toArray 27)
  replace HR1 := Lib.hid (HR1.out.below HR1.out.lt kk)
  replace HX13 := Lib.hid (HX13.out.below HX13.out.lt kk)
  replace HX15 := Lib.hid (HX15.out.below HX15.out.lt kk)
  replace HX17 := Lib.hid (HX17.out.below HX17.out.lt kk)
  replace HZ := Lib.hid (HZ.out.below kk)
  replace HO := Lib.hid (HO.out.below kk)
  replace HI := Lib.hid (HI.out.below kk)
  replace HN := Lib.hid (HN.out.below kk)
  replace HE := Lib.hid (HE.out.below kk)
  replace HF := Lib.hid (HF.out.below kk)
  replace HB := Lib.hid (HB.out.trans (kk.mono HB.out.size))
  clear kk
  generalize v11.alloc (.cells (scells (psup zs os)).toArray 27) = v12 at *
  generalize v11.heap.size = x20 at *
  have q1 : (psup zs os == psup zs os) = true := by simp
  have q2 : (dsup zs == dsup zs) = true := by simp
  have HQ1 := Lib.hid (ok_psup zs os)
  have HQ2 := Lib.hid (ok_dsup zs)
  generalize eno s = en at *
  generalize derr zs = de at *
  generalize perr zs os = pe at *
  generalize pslot zs os = pl at *
  generalize psup zs os = ps at *
  generalize dsup zs = ds at *
  go_wp2_with (first | (refine wpList_load_row_g (by rfl) 27 (.tmp 17) rfl x17 rfl _ (scells ps).toArray _ _ HX17.out Try.underlying27 rfl (size_scells _) ?_) | (refine wpList_load_row_g (by rfl) 27 (.tmp 20) rfl x20 rfl _ (scells ps).toArray _ _ HX20.out Try.underlying27 rfl (size_scells _) ?_) | (refine wpList_load_row_g (by rfl) 27 (.tmp 13) rfl x13 rfl _ (scells ds).toArray _ _ HX13.out Try.underlying27 rfl (size_scells _) ?_) | (refine wpList_load_row_g (by rfl) 27 (.tmp 15) rfl x15 rfl _ (scells ds).toArray _ _ HX15.out Try.underlying27 rfl (size_scells _) ?_) | (refine wpList_neq_sup (by rfl) (.tmp 89) (.tmp 90) _ rfl ps ps HQ1.out HQ1.out rfl rfl ?_; rw [q1]) | (refine wpList_neq_sup (by rfl) (.tmp 94) (.tmp 95) _ rfl ds ds HQ2.out HQ2.out rfl rfl ?_; rw [q2]))
  refine (equal_len A3 A4 n3 n4 c3 c4 (epg s) (epg s) HE.out.len HF.out.len _ HE.out.told HF.out.told).mono ?_
  rintro e wq ⟨rfl, rfl⟩
  rw [beq_self_eq_true]
  go_upto_region 12 with (fail)
  refine Inv2.wp_region_inv (fun b a wy => ∃ z6 z104 z105 z106 z107 z108 z109 z110 z111 z112 z113 z114 z115 z116 z117 z118 z119 z120 z121 z122 z123 z124 z125 z126 z127 z128 z129 z130 z131, a = ⟨(List.toArray (Value.agg (scells s).toArray :: Value.slice A1 n1 c1 :: Value.slice A2 n2 c2 :: Value.pointer (some { block := w.heap.size, off := 0 }) :: undef :: undef :: z6 :: Value.slice B1 n1 d1 :: Value.slice B2 n2 d2 :: Value.slice A3 n3 c3 :: Value.int IntKind.i64 en :: Value.slice A4 n4 c4 :: Value.int IntKind.i64 en :: Value.pointer (some { block := x13, off := 0 }) :: Value.int IntKind.i64 de :: Value.pointer (some { block := x15, off := 0 }) :: Value.int IntKind.i64 de :: Value.pointer (some { block := x17, off := 0 }) :: Value.int IntKind.i64 pl :: Value.int IntKind.i64 pe :: Value.pointer (some { block := x20, off := 0 }) :: Value.int IntKind.i64 pl :: Value.int IntKind.i64 pe :: Value.slice A1 n1 c1 :: Value.int IntKind.i64 ↑n1 :: Value.bool false :: Value.bool false :: Value.slice A2 n2 c2 :: Value.int IntKind.i64 ↑n2 :: Value.bool false :: Value.bool false :: undef :: Value.slice A1 n1 c1 :: Value.slice B1 n1 d1 :: Value.slice A2 n2 c2 :: Value.slice B2 n2 d2 :: Value.tuple #[Value.slice A3 n3 c3, Value.int IntKind.i64 en] :: Value.agg (scells s).toArray :: Value.tuple #[Value.slice A3 n3 c3, Value.int IntKind.i64 en] :: Value.slice A3 n3 c3 :: Value.int IntKind.i64 en :: Value.tuple #[Value.slice A4 n4 c4, Value.int IntKind.i64 en] :: Value.agg (scells s).toArray :: Value.tuple #[Value.slice A4 n4 c4, Value.int IntKind.i64 en] :: Value.slice A4 n4 c4 :: Value.int IntKind.i64 en :: Value.tuple #[Value.agg (scells ds).toArray, Value.int IntKind.i64 de] :: Value.slice B1 n1 d1 :: Value.tuple #[Value.agg (scells ds).toArray, Value.int IntKind.i64 de] :: Value.agg (scells ds).toArray :: Value.int IntKind.i64 de :: Value.tuple #[Value.agg (scells ds).toArray, Value.int IntKind.i64 de] :: Value.slice A1 n1 c1 :: Value.tuple #[Value.agg (scells ds).toArray, Value.int IntKind.i64 de] :: Value.agg (scells ds).toArray :: Value.int IntKind.i64 de :: Value.tuple #[Value.agg (scells ps).toArray, Value.int IntKind.i64 pl, Value.int IntKind.i64 pe] :: Value.slice B1 n1 d1 :: Value.slice B2 n2 d2 :: Value.tuple #[Value.agg (scells ps).toArray, Value.int IntKind.i64 pl, Value.int IntKind.i64 pe] :: Value.agg (scells ps).toArray :: Value.int IntKind.i64 pl :: Value.int IntKind.i64 pe :: Value.tuple #[Value.agg (scells ps).toArray, Value.int IntKind.i64 pl, Value.int IntKind.i64 pe] :: Value.slice A1 n1 c1 :: Value.slice A2 n2 c2 :: Value.tuple #[Value.agg (scells ps).toArray, Value.int IntKind.i64 pl, Value.int IntKind.i64 pe] :: Value.agg (scells ps).toArray :: Value.int IntKind.i64 pl :: Value.int IntKind.i64 pe :: Value.int IntKind.i64 en :: Value.int IntKind.i64 en :: Value.bool false :: Value.bool false :: Value.int IntKind.i64 de :: Value.int IntKind.i64 de :: Value.bool false :: Value.bool false :: Value.bool false :: Value.int IntKind.i64 pe :: Value.int IntKind.i64 pe :: Value.bool false :: Value.bool false :: Value.bool false :: Value.int IntKind.i64 pl :: Value.int IntKind.i64 pl :: Value.bool false :: Value.bool false :: Value.bool false :: Value.agg (scells ps).toArray :: Value.agg (scells ps).toArray :: Value.bool false :: Value.bool false :: Value.bool false :: Value.agg (scells ds).toArray :: Value.agg (scells ds).toArray :: Value.bool false :: Value.bool false :: Value.bool false :: Value.slice A3 n3 c3 :: Value.slice A4 n4 c4 :: Value.bool true :: Value.bool false :: Value.bool false :: z104 :: z105 :: z106 :: z107 :: z108 :: z109 :: z110 :: z111 :: z112 :: z113 :: z114 :: z115 :: z116 :: z117 :: z118 :: z119 :: z120 :: z121 :: z122 :: z123 :: z124 :: z125 :: z126 :: z127 :: z128 :: z129 :: z130 :: z131 :: [])), []⟩ ∧ Hid ((b 0 = true → z104 = .agg (scells s).toArray) ∧ (b 1 = true → z105 = .bool (decide (Fit s))) ∧ (b 2 = true → z106 = .agg (scells s).toArray) ∧ (b 3 = true → z107 = .bool (decide (Fit s))) ∧ (b 4 = true → z108 = .bool true) ∧ (b 5 = true → z109 = .bool true) ∧ (b 6 = true → z110 = .pointer (some ⟨w.heap.size, 0, none⟩)) ∧ (b 7 = true → z111 = .int .u64 (nth s 0 : Int)) ∧ (b 8 = true → z112 = .int .i64 ((nth s 0 % 2 : Nat) : Int)) ∧ (b 9 = true → z113 = .pointer (some ⟨w.heap.size, 0, none⟩)) ∧ (b 10 = true → z114 = .int .u64 (nth s 0 : Int)) ∧ (b 11 = true → z115 = .int .u64 ((nth s 0 % 2 : Nat) : Int)) ∧ (b 12 = true → z116 = .int .i64 ((nth s 0 % 2 : Nat) : Int)) ∧ (b 13 = true → z117 = .bool true) ∧ (b 14 = true → z118 = .bool true) ∧ (b 15 = true → z119 = .bool true) ∧ (b 16 = true → z120 = Value.slice B1 n1 d1) ∧ (b 17 = true → z121 = Value.slice A1 n1 c1) ∧ (b 18 = true → z122 = .bool true) ∧ (b 19 = true → z123 = .bool true) ∧ (b 20 = true → z124 = .bool true) ∧ (b 21 = true → z125 = Value.slice B2 n2 d2) ∧ (b 22 = true → z126 = Value.slice A2 n2 c2) ∧ (b 23 = true → z127 = .bool true) ∧ (b 24 = true → z128 = .bool true) ∧ (b 25 = true → z129 = .bool true) ∧ (b 26 = true → z130 = .bool true) ∧ (b 27 = true → z131 = .bool true) ∧ (b 28 = true → z6 = .bool true)) ∧ Hid (Below v12.heap.size v12 wy)) (by kernel_rfl) (by kernel_rfl) ?startR12 ?stepsR12 ?doneR12
  case startR12 =>
    intro b hb
    refine ⟨Value.bool false, undef, undef, undef, undef, undef, undef, undef, undef, undef, undef, undef, undef, undef, undef, undef, undef, undef, undef, undef, undef, undef, undef, undef, undef, undef, undef, undef, undef, rfl, Lib.hid ⟨?_, ?_, ?_, ?_, ?_, ?_, ?_, ?_, ?_, ?_, ?_, ?_, ?_, ?_, ?_, ?_, ?_, ?_, ?_, ?_, ?_, ?_, ?_, ?_, ?_, ?_, ?_, ?_, ?_⟩, Lib.hid ((show Still v12 v12.drew from ⟨rfl, rfl, rfl, rfl⟩).below _)⟩
    all_goals (intro e; first | rfl | (rw [hb _ (by decide)] at e; cases e))
  case stepsR12 =>
    refine ⟨?_, ?_, ?_, ?_, ?_, ?_, ?_, ?_, ?_, ?_, ?_, ?_, ?_, ?_, ?_, ?_, ?_, ?_, ?_, ?_, ?_, ?_, ?_, ?_, ?_, ?_, ?_, ?_, ?_, trivial⟩
    · rintro b a wy hb hd ⟨z6, z104, z105, z106, z107, z108, z109, z110, z111, z112, z113, z114, z115, z116, z117, z118, z119, z120, z121, z122, z123, z124, z125, z126, z127, z128, z129, z130, z131, rfl, HV, HW⟩ K hK
      obtain ⟨h0, h1, h2, h3, h4, h5, h6, h7, h8, h9, h10, h11, h12, h13, h14, h15, h16, h17, h18, h19, h20, h21, h22, h23, h24, h25, h26, h27, h28⟩ := HV.out
      clear hd
      refine if_wanted'' (by rfl) (wp_load_row 27 (.tmp 3) rfl w.heap.size rfl _ (scells s).toArray _ _ (HR1.out.below HR1.out.lt HW.out) Try.underlying27 rfl (size_scells _) ?_)
      exact hK _ _ ⟨_, _, _, _, _, _, _, _, _, _, _, _, _, _, _, _, _, _, _, _, _, _, _, _, _, _, _, _, _, rfl, Lib.hid ⟨fun _ => rfl, h1, h2, h3, h4, h5, h6, h7, h8, h9, h10, h11, h12, h13, h14, h15, h16, h17, h18, h19, h20, h21, h22, h23, h24, h25, h26, h27, h28⟩, HW⟩
    · rintro b a wy hb hd ⟨z6, z104, z105, z106, z107, z108, z109, z110, z111, z112, z113, z114, z115, z116, z117, z118, z119, z120, z121, z122, z123, z124, z125, z126, z127, z128, z129, z130, z131, rfl, HV, HW⟩ K hK
      obtain ⟨h0, h1, h2, h3, h4, h5, h6, h7, h8, h9, h10, h11, h12, h13, h14, h15, h16, h17, h18, h19, h20, h21, h22, h23, h24, h25, h26, h27, h28⟩ := HV.out
      simp [Region.binds] at hd
      obtain rfl := h0 (by simp [hd])
      clear hd
      go_simp
      go_at_call 19
      refine (right_any s HS.out wy).mono ?_
      rintro e wz ⟨rfl, kz⟩
      try go_simp
      exact hK _ _ ⟨_, _, _, _, _, _, _, _, _, _, _, _, _, _, _, _, _, _, _, _, _, _, _, _, _, _, _, _, _, rfl, Lib.hid ⟨h0, fun _ => rfl, h2, h3, h4, h5, h6, h7, h8, h9, h10, h11, h12, h13, h14, h15, h16, h17, h18, h19, h20, h21, h22, h23, h24, h25, h26, h27, h28⟩, Lib.hid (HW.out.trans (kz.mono HW.out.size))⟩
    · rintro b a wy hb hd ⟨z6, z104, z105, z106, z107, z108, z109, z110, z111, z112, z113, z114, z115, z116, z117, z118, z119, z120, z121, z122, z123, z124, z125, z126, z127, z128, z129, z130, z131, rfl, HV, HW⟩ K hK
      obtain ⟨h0, h1, h2, h3, h4, h5, h6, h7, h8, h9, h10, h11, h12, h13, h14, h15, h16, h17, h18, h19, h20, h21, h22, h23, h24, h25, h26, h27, h28⟩ := HV.out
      clear hd
      refine if_wanted'' (by rfl) (wp_load_row 27 (.tmp 3) rfl w.heap.size rfl _ (scells s).toArray _ _ (HR1.out.below HR1.out.lt HW.out) Try.underlying27 rfl (size_scells _) ?_)
      exact hK _ _ ⟨_, _, _, _, _, _, _, _, _, _, _, _, _, _, _, _, _, _, _, _, _, _, _, _, _, _, _, _, _, rfl, Lib.hid ⟨h0, h1, fun _ => rfl, h3, h4, h5, h6, h7, h8, h9, h10, h11, h12, h13, h14, h15, h16, h17, h18, h19, h20, h21, h22, h23, h24, h25, h26, h27, h28⟩, HW⟩
    · rintro b a wy hb hd ⟨z6, z104, z105, z106, z107, z108, z109, z110, z111, z112, z113, z114, z115, z116, z117, z118, z119, z120, z121, z122, z123, z124, z125, z126, z127, z128, z129, z130, z131, rfl, HV, HW⟩ K hK
      obtain ⟨h0, h1, h2, h3, h4, h5, h6, h7, h8, h9, h10, h11, h12, h13, h14, h15, h16, h17, h18, h19, h20, h21, h22, h23, h24, h25, h26, h27, h28⟩ := HV.out
      simp [Region.binds] at hd
      obtain rfl := h2 (by simp [hd])
      clear hd
      go_simp
      go_at_call 20
      refine (rright_any s HS.out wy).mono ?_
      rintro e wz ⟨rfl, kz⟩
      try go_simp
      exact hK _ _ ⟨_, _, _, _, _, _, _, _, _, _, _, _, _, _, _, _, _, _, _, _, _, _, _, _, _, _, _, _, _, rfl, Lib.hid ⟨h0, h1, h2, fun _ => rfl, h4, h5, h6, h7, h8, h9, h10, h11, h12, h13, h14, h15, h16, h17, h18, h19, h20, h21, h22, h23, h24, h25, h26, h27, h28⟩, Lib.hid (HW.out.trans (kz.mono HW.out.size))⟩
    · rintro b a wy hb hd ⟨z6, z104, z105, z106, z107, z108, z109, z110, z111, z112, z113, z114, z115, z116, z117, z118, z119, z120, z121, z122, z123, z124, z125, z126, z127, z128, z129, z130, z131, rfl, HV, HW⟩ K hK
      obtain ⟨h0, h1, h2, h3, h4, h5, h6, h7, h8, h9, h10, h11, h12, h13, h14, h15, h16, h17, h18, h19, h20, h21, h22, h23, h24, h25, h26, h27, h28⟩ := HV.out
      simp [Region.binds] at hd
      obtain rfl := h1 (by simp [hd])
      obtain rfl := h3 (by simp [hd])
      clear hd
      go_simp
      exact hK _ _ ⟨_, _, _, _, _, _, _, _, _, _, _, _, _, _, _, _, _, _, _, _, _, _, _, _, _, _, _, _, _, rfl, Lib.hid ⟨h0, h1, h2, h3, fun _ => rfl, h5, h6, h7, h8, h9, h10, h11, h12, h13, h14, h15, h16, h17, h18, h19, h20, h21, h22, h23, h24, h25, h26, h27, h28⟩, HW⟩
    · rintro b a wy hb hd ⟨z6, z104, z105, z106, z107, z108, z109, z110, z111, z112, z113, z114, z115, z116, z117, z118, z119, z120, z121, z122, z123, z124, z125, z126, z127, z128, z129, z130, z131, rfl, HV, HW⟩ K hK
      obtain ⟨h0, h1, h2, h3, h4, h5, h6, h7, h8, h9, h10, h11, h12, h13, h14, h15, h16, h17, h18, h19, h20, h21, h22, h23, h24, h25, h26, h27, h28⟩ := HV.out
      simp [Region.binds] at hd
      obtain rfl := h4 (by simp [hd])
      clear hd
      go_simp
      exact hK _ _ ⟨_, _, _, _, _, _, _, _, _, _, _, _, _, _, _, _, _, _, _, _, _, _, _, _, _, _, _, _, _, rfl, Lib.hid ⟨h0, h1, h2, h3, h4, fun _ => rfl, h6, h7, h8, h9, h10, h11, h12, h13, h14, h15, h16, h17, h18, h19, h20, h21, h22, h23, h24, h25, h26, h27, h28⟩, HW⟩
    · rintro b a wy hb hd ⟨z6, z104, z105, z106, z107, z108, z109, z110, z111, z112, z113, z114, z115, z116, z117, z118, z119, z120, z121, z122, z123, z124, z125, z126, z127, z128, z129, z130, z131, rfl, HV, HW⟩ K hK
      obtain ⟨h0, h1, h2, h3, h4, h5, h6, h7, h8, h9, h10, h11, h12, h13, h14, h15, h16, h17, h18, h19, h20, h21, h22, h23, h24, h25, h26, h27, h28⟩ := HV.out
      simp [Region.binds] at hd
      obtain rfl := h5 (by simp [hd])
      clear hd
      go_simp
      exact hK _ _ ⟨_, _, _, _, _, _, _, _, _, _, _, _, _, _, _, _, _, _, _, _, _, _, _, _, _, _, _, _, _, rfl, Lib.hid ⟨h0, h1, h2, h3, h4, h5, fun _ => rfl, h7, h8, h9, h10, h11, h12, h13, h14, h15, h16, h17, h18, h19, h20, h21, h22, h23, h24, h25, h26, h27, h28⟩, HW⟩
    · rintro b a wy hb hd ⟨z6, z104, z105, z106, z107, z108, z109, z110, z111, z112, z113, z114, z115, z116, z117, z118, z119, z120, z121, z122, z123, z124, z125, z126, z127, z128, z129, z130, z131, rfl, HV, HW⟩ K hK
      obtain ⟨h0, h1, h2, h3, h4, h5, h6, h7, h8, h9, h10, h11, h12, h13, h14, h15, h16, h17, h18, h19, h20, h21, h22, h23, h24, h25, h26, h27, h28⟩ := HV.out
      simp [Region.binds] at hd
      obtain rfl := h5 (by simp [hd])
      obtain rfl := h6 (by simp [hd])
      clear hd
      have dc := (HR1.out.below HR1.out.lt HW.out).cellAt (scells_at s 0 (by decide))
      rw [scell_wide _ _ (.inl rfl)] at dc
      go_simp
      exact hK _ _ ⟨_, _, _, _, _, _, _, _, _, _, _, _, _, _, _, _, _, _, _, _, _, _, _, _, _, _, _, _, _, rfl, Lib.hid ⟨h0, h1, h2, h3, h4, h5, h6, fun _ => rfl, h8, h9, h10, h11, h12, h13, h14, h15, h16, h17, h18, h19, h20, h21, h22, h23, h24, h25, h26, h27, h28⟩, HW⟩
    · rintro b a wy hb hd ⟨z6, z104, z105, z106, z107, z108, z109, z110, z111, z112, z113, z114, z115, z116, z117, z118, z119, z120, z121, z122, z123, z124, z125, z126, z127, z128, z129, z130, z131, rfl, HV, HW⟩ K hK
      obtain ⟨h0, h1, h2, h3, h4, h5, h6, h7, h8, h9, h10, h11, h12, h13, h14, h15, h16, h17, h18, h19, h20, h21, h22, h23, h24, h25, h26, h27, h28⟩ := HV.out
      simp [Region.binds] at hd
      obtain rfl := h5 (by simp [hd])
      obtain rfl := h7 (by simp [hd])
      clear hd
      go_simp
      go_at_call 21
      refine (slot_any (nth s 0) (HS.out.lt 0) wy).mono ?_
      rintro e wz ⟨rfl, rfl⟩
      try go_simp
      exact hK _ _ ⟨_, _, _, _, _, _, _, _, _, _, _, _, _, _, _, _, _, _, _, _, _, _, _, _, _, _, _, _, _, rfl, Lib.hid ⟨h0, h1, h2, h3, h4, h5, h6, h7, fun _ => rfl, h9, h10, h11, h12, h13, h14, h15, h16, h17, h18, h19, h20, h21, h22, h23, h24, h25, h26, h27, h28⟩, HW⟩
    · rintro b a wy hb hd ⟨z6, z104, z105, z106, z107, z108, z109, z110, z111, z112, z113, z114, z115, z116, z117, z118, z119, z120, z121, z122, z123, z124, z125, z126, z127, z128, z129, z130, z131, rfl, HV, HW⟩ K hK
      obtain ⟨h0, h1, h2, h3, h4, h5, h6, h7, h8, h9, h10, h11, h12, h13, h14, h15, h16, h17, h18, h19, h20, h21, h22, h23, h24, h25, h26, h27, h28⟩ := HV.out
      simp [Region.binds] at hd
      obtain rfl := h5 (by simp [hd])
      clear hd
      go_simp
      exact hK _ _ ⟨_, _, _, _, _, _, _, _, _, _, _, _, _, _, _, _, _, _, _, _, _, _, _, _, _, _, _, _, _, rfl, Lib.hid ⟨h0, h1, h2, h3, h4, h5, h6, h7, h8, fun _ => rfl, h10, h11, h12, h13, h14, h15, h16, h17, h18, h19, h20, h21, h22, h23, h24, h25, h26, h27, h28⟩, HW⟩
    · rintro b a wy hb hd ⟨z6, z104, z105, z106, z107, z108, z109, z110, z111, z112, z113, z114, z115, z116, z117, z118, z119, z120, z121, z122, z123, z124, z125, z126, z127, z128, z129, z130, z131, rfl, HV, HW⟩ K hK
      obtain ⟨h0, h1, h2, h3, h4, h5, h6, h7, h8, h9, h10, h11, h12, h13, h14, h15, h16, h17, h18, h19, h20, h21, h22, h23, h24, h25, h26, h27, h28⟩ := HV.out
      simp [Region.binds] at hd
      obtain rfl := h5 (by simp [hd])
      obtain rfl := h9 (by simp [hd])
      clear hd
      have dc := (HR1.out.below HR1.out.lt HW.out).cellAt (scells_at s 0 (by decide))
      rw [scell_wide _ _ (.inl rfl)] at dc
      go_simp
      exact hK _ _ ⟨_, _, _, _, _, _, _, _, _, _, _, _, _, _, _, _, _, _, _, _, _, _, _, _, _, _, _, _, _, rfl, Lib.hid ⟨h0, h1, h2, h3, h4, h5, h6, h7, h8, h9, fun _ => rfl, h11, h12, h13, h14, h15, h16, h17, h18, h19, h20, h21, h22, h23, h24, h25, h26, h27, h28⟩, HW⟩
    · rintro b a wy hb hd ⟨z6, z104, z105, z106, z107, z108, z109, z110, z111, z112, z113, z114, z115, z116, z117, z118, z119, z120, z121, z122, z123, z124, z125, z126, z127, z128, z129, z130, z131, rfl, HV, HW⟩ K hK
      obtain ⟨h0, h1, h2, h3, h4, h5, h6, h7, h8, h9, h10, h11, h12, h13, h14, h15, h16, h17, h18, h19, h20, h21, h22, h23, h24, h25, h26, h27, h28⟩ := HV.out
      simp [Region.binds] at hd
      obtain rfl := h5 (by simp [hd])
      obtain rfl := h10 (by simp [hd])
      clear hd
      have hlt := HS.out.lt 0
      have htm : (nth s 0 : Int).tmod 2 = ((nth s 0 % 2 : Nat) : Int) := by rw [Int.tmod_eq_emod_of_nonneg (by omega)]; rfl
      go_simp
      exact hK _ _ ⟨_, _, _, _, _, _, _, _, _, _, _, _, _, _, _, _, _, _, _, _, _, _, _, _, _, _, _, _, _, rfl, Lib.hid ⟨h0, h1, h2, h3, h4, h5, h6, h7, h8, h9, h10, fun _ => rfl, h12, h13, h14, h15, h16, h17, h18, h19, h20, h21, h22, h23, h24, h25, h26, h27, h28⟩, HW⟩
    · rintro b a wy hb hd ⟨z6, z104, z105, z106, z107, z108, z109, z110, z111, z112, z113, z114, z115, z116, z117, z118, z119, z120, z121, z122, z123, z124, z125, z126, z127, z128, z129, z130, z131, rfl, HV, HW⟩ K hK
      obtain ⟨h0, h1, h2, h3, h4, h5, h6, h7, h8, h9, h10, h11, h12, h13, h14, h15, h16, h17, h18, h19, h20, h21, h22, h23, h24, h25, h26, h27, h28⟩ := HV.out
      simp [Region.binds] at hd
      obtain rfl := h5 (by simp [hd])
      obtain rfl := h11 (by simp [hd])
      clear hd
      have hm2 : nth s 0 % 2 < 2 := Nat.mod_lt _ (by decide)
      have hwm : IntKind.i64.wrap ((nth s 0 : Int) % 2) = ((nth s 0 % 2 : Nat) : Int) := (IntWalk.i64_in _ (by omega)).trans (by omega)
      go_simp
      exact hK _ _ ⟨_, _, _, _, _, _, _, _, _, _, _, _, _, _, _, _, _, _, _, _, _, _, _, _, _, _, _, _, _, rfl, Lib.hid ⟨h0, h1, h2, h3, h4, h5, h6, h7, h8, h9, h10, h11, fun _ => (by first | rfl | rw [hwm]), h13, h14, h15, h16, h17, h18, h19, h20, h21, h22, h23, h24, h25, h26, h27, h28⟩, HW⟩
    · rintro b a wy hb hd ⟨z6, z104, z105, z106, z107, z108, z109, z110, z111, z112, z113, z114, z115, z116, z117, z118, z119, z120, z121, z122, z123, z124, z125, z126, z127, z128, z129, z130, z131, rfl, HV, HW⟩ K hK
      obtain ⟨h0, h1, h2, h3, h4, h5, h6, h7, h8, h9, h10, h11, h12, h13, h14, h15, h16, h17, h18, h19, h20, h21, h22, h23, h24, h25, h26, h27, h28⟩ := HV.out
      simp [Region.binds] at hd
      obtain rfl := h5 (by simp [hd])
      obtain rfl := h8 (by simp [hd])
      obtain rfl := h12 (by simp [hd])
      clear hd
      go_simp
      exact hK _ _ ⟨_, _, _, _, _, _, _, _, _, _, _, _, _, _, _, _, _, _, _, _, _, _, _, _, _, _, _, _, _, rfl, Lib.hid ⟨h0, h1, h2, h3, h4, h5, h6, h7, h8, h9, h10, h11, h12, fun _ => rfl, h14, h15, h16, h17, h18, h19, h20, h21, h22, h23, h24, h25, h26, h27, h28⟩, HW⟩
    · rintro b a wy hb hd ⟨z6, z104, z105, z106, z107, z108, z109, z110, z111, z112, z113, z114, z115, z116, z117, z118, z119, z120, z121, z122, z123, z124, z125, z126, z127, z128, z129, z130, z131, rfl, HV, HW⟩ K hK
      obtain ⟨h0, h1, h2, h3, h4, h5, h6, h7, h8, h9, h10, h11, h12, h13, h14, h15, h16, h17, h18, h19, h20, h21, h22, h23, h24, h25, h26, h27, h28⟩ := HV.out
      simp [Region.binds] at hd
      obtain rfl := h5 (by simp [hd])
      obtain rfl := h13 (by simp [hd])
      clear hd
      go_simp
      exact hK _ _ ⟨_, _, _, _, _, _, _, _, _, _, _, _, _, _, _, _, _, _, _, _, _, _, _, _, _, _, _, _, _, rfl, Lib.hid ⟨h0, h1, h2, h3, h4, h5, h6, h7, h8, h9, h10, h11, h12, h13, fun _ => rfl, h15, h16, h17, h18, h19, h20, h21, h22, h23, h24, h25, h26, h27, h28⟩, HW⟩
    · rintro b a wy hb hd ⟨z6, z104, z105, z106, z107, z108, z109, z110, z111, z112, z113, z114, z115, z116, z117, z118, z119, z120, z121, z122, z123, z124, z125, z126, z127, z128, z129, z130, z131, rfl, HV, HW⟩ K hK
      obtain ⟨h0, h1, h2, h3, h4, h5, h6, h7, h8, h9, h10, h11, h12, h13, h14, h15, h16, h17, h18, h19, h20, h21, h22, h23, h24, h25, h26, h27, h28⟩ := HV.out
      simp [Region.binds] at hd
      obtain rfl := h14 (by simp [hd])
      clear hd
      go_simp
      exact hK _ _ ⟨_, _, _, _, _, _, _, _, _, _, _, _, _, _, _, _, _, _, _, _, _, _, _, _, _, _, _, _, _, rfl, Lib.hid ⟨h0, h1, h2, h3, h4, h5, h6, h7, h8, h9, h10, h11, h12, h13, h14, fun _ => rfl, h16, h17, h18, h19, h20, h21, h22, h23, h24, h25, h26, h27, h28⟩, HW⟩
    · rintro b a wy hb hd ⟨z6, z104, z105, z106, z107, z108, z109, z110, z111, z112, z113, z114, z115, z116, z117, z118, z119, z120, z121, z122, z123, z124, z125, z126, z127, z128, z129, z130, z131, rfl, HV, HW⟩ K hK
      obtain ⟨h0, h1, h2, h3, h4, h5, h6, h7, h8, h9, h10, h11, h12, h13, h14, h15, h16, h17, h18, h19, h20, h21, h22, h23, h24, h25, h26, h27, h28⟩ := HV.out
      simp [Region.binds] at hd
      obtain rfl := h15 (by simp [hd])
      clear hd
      go_simp
      exact hK _ _ ⟨_, _, _, _, _, _, _, _, _, _, _, _, _, _, _, _, _, _, _, _, _, _, _, _, _, _, _, _, _, rfl, Lib.hid ⟨h0, h1, h2, h3, h4, h5, h6, h7, h8, h9, h10, h11, h12, h13, h14, h15, fun _ => rfl, h17, h18, h19, h20, h21, h22, h23, h24, h25, h26, h27, h28⟩, HW⟩
    · rintro b a wy hb hd ⟨z6, z104, z105, z106, z107, z108, z109, z110, z111, z112, z113, z114, z115, z116, z117, z118, z119, z120, z121, z122, z123, z124, z125, z126, z127, z128, z129, z130, z131, rfl, HV, HW⟩ K hK
      obtain ⟨h0, h1, h2, h3, h4, h5, h6, h7, h8, h9, h10, h11, h12, h13, h14, h15, h16, h17, h18, h19, h20, h21, h22, h23, h24, h25, h26, h27, h28⟩ := HV.out
      simp [Region.binds] at hd
      obtain rfl := h15 (by simp [hd])
      clear hd
      go_simp
      exact hK _ _ ⟨_, _, _, _, _, _, _, _, _, _, _, _, _, _, _, _, _, _, _, _, _, _, _, _, _, _, _, _, _, rfl, Lib.hid ⟨h0, h1, h2, h3, h4, h5, h6, h7, h8, h9, h10, h11, h12, h13, h14, h15, h16, fun _ => rfl, h18, h19, h20, h21, h22, h23, h24, h25, h26, h27, h28⟩, HW⟩
    · rintro b a wy hb hd ⟨z6, z104, z105, z106, z107, z108, z109, z110, z111, z112, z113, z114, z115, z116, z117, z118, z119, z120, z121, z122, z123, z124, z125, z126, z127, z128, z129, z130, z131, rfl, HV, HW⟩ K hK
      obtain ⟨h0, h1, h2, h3, h4, h5, h6, h7, h8, h9, h10, h11, h12, h13, h14, h15, h16, h17, h18, h19, h20, h21, h22, h23, h24, h25, h26, h27, h28⟩ := HV.out
      simp [Region.binds] at hd
      obtain rfl := h15 (by simp [hd])
      obtain rfl := h16 (by simp [hd])
      obtain rfl := h17 (by simp [hd])
      clear hd
      go_simp
      go_at_call 18
      refine (equal_yes B1 A1 n1 n1 d1 c1 zs zs rfl HI.out.len HZ.out.len wy (HI.out.below HW.out).told (HZ.out.below HW.out).told).mono ?_
      rintro e wz ⟨rfl, rfl⟩
      try go_simp
      exact hK _ _ ⟨_, _, _, _, _, _, _, _, _, _, _, _, _, _, _, _, _, _, _, _, _, _, _, _, _, _, _, _, _, rfl, Lib.hid ⟨h0, h1, h2, h3, h4, h5, h6, h7, h8, h9, h10, h11, h12, h13, h14, h15, h16, h17, fun _ => rfl, h19, h20, h21, h22, h23, h24, h25, h26, h27, h28⟩, HW⟩
    · rintro b a wy hb hd ⟨z6, z104, z105, z106, z107, z108, z109, z110, z111, z112, z113, z114, z115, z116, z117, z118, z119, z120, z121, z122, z123, z124, z125, z126, z127, z128, z129, z130, z131, rfl, HV, HW⟩ K hK
      obtain ⟨h0, h1, h2, h3, h4, h5, h6, h7, h8, h9, h10, h11, h12, h13, h14, h15, h16, h17, h18, h19, h20, h21, h22, h23, h24, h25, h26, h27, h28⟩ := HV.out
      simp [Region.binds] at hd
      obtain rfl := h15 (by simp [hd])
      obtain rfl := h18 (by simp [hd])
      clear hd
      go_simp
      exact hK _ _ ⟨_, _, _, _, _, _, _, _, _, _, _, _, _, _, _, _, _, _, _, _, _, _, _, _, _, _, _, _, _, rfl, Lib.hid ⟨h0, h1, h2, h3, h4, h5, h6, h7, h8, h9, h10, h11, h12, h13, h14, h15, h16, h17, h18, fun _ => rfl, h20, h21, h22, h23, h24, h25, h26, h27, h28⟩, HW⟩
    · rintro b a wy hb hd ⟨z6, z104, z105, z106, z107, z108, z109, z110, z111, z112, z113, z114, z115, z116, z117, z118, z119, z120, z121, z122, z123, z124, z125, z126, z127, z128, z129, z130, z131, rfl, HV, HW⟩ K hK
      obtain ⟨h0, h1, h2, h3, h4, h5, h6, h7, h8, h9, h10, h11, h12, h13, h14, h15, h16, h17, h18, h19, h20, h21, h22, h23, h24, h25, h26, h27, h28⟩ := HV.out
      simp [Region.binds] at hd
      obtain rfl := h19 (by simp [hd])
      clear hd
      go_simp
      exact hK _ _ ⟨_, _, _, _, _, _, _, _, _, _, _, _, _, _, _, _, _, _, _, _, _, _, _, _, _, _, _, _, _, rfl, Lib.hid ⟨h0, h1, h2, h3, h4, h5, h6, h7, h8, h9, h10, h11, h12, h13, h14, h15, h16, h17, h18, h19, fun _ => rfl, h21, h22, h23, h24, h25, h26, h27, h28⟩, HW⟩
    · rintro b a wy hb hd ⟨z6, z104, z105, z106, z107, z108, z109, z110, z111, z112, z113, z114, z115, z116, z117, z118, z119, z120, z121, z122, z123, z124, z125, z126, z127, z128, z129, z130, z131, rfl, HV, HW⟩ K hK
      obtain ⟨h0, h1, h2, h3, h4, h5, h6, h7, h8, h9, h10, h11, h12, h13, h14, h15, h16, h17, h18, h19, h20, h21, h22, h23, h24, h25, h26, h27, h28⟩ := HV.out
      simp [Region.binds] at hd
      obtain rfl := h20 (by simp [hd])
      clear hd
      go_simp
      exact hK _ _ ⟨_, _, _, _, _, _, _, _, _, _, _, _, _, _, _, _, _, _, _, _, _, _, _, _, _, _, _, _, _, rfl, Lib.hid ⟨h0, h1, h2, h3, h4, h5, h6, h7, h8, h9, h10, h11, h12, h13, h14, h15, h16, h17, h18, h19, h20, fun _ => rfl, h22, h23, h24, h25, h26, h27, h28⟩, HW⟩
    · rintro b a wy hb hd ⟨z6, z104, z105, z106, z107, z108, z109, z110, z111, z112, z113, z114, z115, z116, z117, z118, z119, z120, z121, z122, z123, z124, z125, z126, z127, z128, z129, z130, z131, rfl, HV, HW⟩ K hK
      obtain ⟨h0, h1, h2, h3, h4, h5, h6, h7, h8, h9, h10, h11, h12, h13, h14, h15, h16, h17, h18, h19, h20, h21, h22, h23, h24, h25, h26, h27, h28⟩ := HV.out
      simp [Region.binds] at hd
      obtain rfl := h20 (by simp [hd])
      clear hd
      go_simp
      exact hK _ _ ⟨_, _, _, _, _, _, _, _, _, _, _, _, _, _, _, _, _, _, _, _, _, _, _, _, _, _, _, _, _, rfl, Lib.hid ⟨h0, h1, h2, h3, h4, h5, h6, h7, h8, h9, h10, h11, h12, h13, h14, h15, h16, h17, h18, h19, h20, h21, fun _ => rfl, h23, h24, h25, h26, h27, h28⟩, HW⟩
    · rintro b a wy hb hd ⟨z6, z104, z105, z106, z107, z108, z109, z110, z111, z112, z113, z114, z115, z116, z117, z118, z119, z120, z121, z122, z123, z124, z125, z126, z127, z128, z129, z130, z131, rfl, HV, HW⟩ K hK
      obtain ⟨h0, h1, h2, h3, h4, h5, h6, h7, h8, h9, h10, h11, h12, h13, h14, h15, h16, h17, h18, h19, h20, h21, h22, h23, h24, h25, h26, h27, h28⟩ := HV.out
      simp [Region.binds] at hd
      obtain rfl := h20 (by simp [hd])
      obtain rfl := h21 (by simp [hd])
      obtain rfl := h22 (by simp [hd])
      clear hd
      go_simp
      go_at_call 18
      refine (equal_yes B2 A2 n2 n2 d2 c2 os os rfl HN.out.len HO.out.len wy (HN.out.below HW.out).told (HO.out.below HW.out).told).mono ?_
      rintro e wz ⟨rfl, rfl⟩
      try go_simp
      exact hK _ _ ⟨_, _, _, _, _, _, _, _, _, _, _, _, _, _, _, _, _, _, _, _, _, _, _, _, _, _, _, _, _, rfl, Lib.hid ⟨h0, h1, h2, h3, h4, h5, h6, h7, h8, h9, h10, h11, h12, h13, h14, h15, h16, h17, h18, h19, h20, h21, h22, fun _ => rfl, h24, h25, h26, h27, h28⟩, HW⟩
    · rintro b a wy hb hd ⟨z6, z104, z105, z106, z107, z108, z109, z110, z111, z112, z113, z114, z115, z116, z117, z118, z119, z120, z121, z122, z123, z124, z125, z126, z127, z128, z129, z130, z131, rfl, HV, HW⟩ K hK
      obtain ⟨h0, h1, h2, h3, h4, h5, h6, h7, h8, h9, h10, h11, h12, h13, h14, h15, h16, h17, h18, h19, h20, h21, h22, h23, h24, h25, h26, h27, h28⟩ := HV.out
      simp [Region.binds] at hd
      obtain rfl := h20 (by simp [hd])
      obtain rfl := h23 (by simp [hd])
      clear hd
      go_simp
      exact hK _ _ ⟨_, _, _, _, _, _, _, _, _, _, _, _, _, _, _, _, _, _, _, _, _, _, _, _, _, _, _, _, _, rfl, Lib.hid ⟨h0, h1, h2, h3, h4, h5, h6, h7, h8, h9, h10, h11, h12, h13, h14, h15, h16, h17, h18, h19, h20, h21, h22, h23, fun _ => rfl, h25, h26, h27, h28⟩, HW⟩
    · rintro b a wy hb hd ⟨z6, z104, z105, z106, z107, z108, z109, z110, z111, z112, z113, z114, z115, z116, z117, z118, z119, z120, z121, z122, z123, z124, z125, z126, z127, z128, z129, z130, z131, rfl, HV, HW⟩ K hK
      obtain ⟨h0, h1, h2, h3, h4, h5, h6, h7, h8, h9, h10, h11, h12, h13, h14, h15, h16, h17, h18, h19, h20, h21, h22, h23, h24, h25, h26, h27, h28⟩ := HV.out
      simp [Region.binds] at hd
      obtain rfl := h24 (by simp [hd])
      clear hd
      go_simp
      exact hK _ _ ⟨_, _, _, _, _, _, _, _, _, _, _, _, _, _, _, _, _, _, _, _, _, _, _, _, _, _, _, _, _, rfl, Lib.hid ⟨h0, h1, h2, h3, h4, h5, h6, h7, h8, h9, h10, h11, h12, h13, h14, h15, h16, h17, h18, h19, h20, h21, h22, h23, h24, fun _ => rfl, h26, h27, h28⟩, HW⟩
    · rintro b a wy hb hd ⟨z6, z104, z105, z106, z107, z108, z109, z110, z111, z112, z113, z114, z115, z116, z117, z118, z119, z120, z121, z122, z123, z124, z125, z126, z127, z128, z129, z130, z131, rfl, HV, HW⟩ K hK
      obtain ⟨h0, h1, h2, h3, h4, h5, h6, h7, h8, h9, h10, h11, h12, h13, h14, h15, h16, h17, h18, h19, h20, h21, h22, h23, h24, h25, h26, h27, h28⟩ := HV.out
      simp [Region.binds] at hd
      obtain rfl := h25 (by simp [hd])
      clear hd
      go_simp
      go_at_call 10
      refine (awake_any wy).mono ?_
      rintro e wz ⟨rfl, kz⟩
      try go_simp
      exact hK _ _ ⟨_, _, _, _, _, _, _, _, _, _, _, _, _, _, _, _, _, _, _, _, _, _, _, _, _, _, _, _, _, rfl, Lib.hid ⟨h0, h1, h2, h3, h4, h5, h6, h7, h8, h9, h10, h11, h12, h13, h14, h15, h16, h17, h18, h19, h20, h21, h22, h23, h24, h25, fun _ => rfl, h27, h28⟩, Lib.hid (HW.out.trans (kz.mono HW.out.size))⟩
    · rintro b a wy hb hd ⟨z6, z104, z105, z106, z107, z108, z109, z110, z111, z112, z113, z114, z115, z116, z117, z118, z119, z120, z121, z122, z123, z124, z125, z126, z127, z128, z129, z130, z131, rfl, HV, HW⟩ K hK
      obtain ⟨h0, h1, h2, h3, h4, h5, h6, h7, h8, h9, h10, h11, h12, h13, h14, h15, h16, h17, h18, h19, h20, h21, h22, h23, h24, h25, h26, h27, h28⟩ := HV.out
      simp [Region.binds] at hd
      obtain rfl := h25 (by simp [hd])
      obtain rfl := h26 (by simp [hd])
      clear hd
      go_simp
      exact hK _ _ ⟨_, _, _, _, _, _, _, _, _, _, _, _, _, _, _, _, _, _, _, _, _, _, _, _, _, _, _, _, _, rfl, Lib.hid ⟨h0, h1, h2, h3, h4, h5, h6, h7, h8, h9, h10, h11, h12, h13, h14, h15, h16, h17, h18, h19, h20, h21, h22, h23, h24, h25, h26, fun _ => rfl, h28⟩, HW⟩
    · rintro b a wy hb hd ⟨z6, z104, z105, z106, z107, z108, z109, z110, z111, z112, z113, z114, z115, z116, z117, z118, z119, z120, z121, z122, z123, z124, z125, z126, z127, z128, z129, z130, z131, rfl, HV, HW⟩ K hK
      obtain ⟨h0, h1, h2, h3, h4, h5, h6, h7, h8, h9, h10, h11, h12, h13, h14, h15, h16, h17, h18, h19, h20, h21, h22, h23, h24, h25, h26, h27, h28⟩ := HV.out
      simp [Region.binds] at hd
      obtain rfl := h27 (by simp [hd])
      clear hd
      go_simp
      exact hK _ _ ⟨_, _, _, _, _, _, _, _, _, _, _, _, _, _, _, _, _, _, _, _, _, _, _, _, _, _, _, _, _, rfl, Lib.hid ⟨h0, h1, h2, h3, h4, h5, h6, h7, h8, h9, h10, h11, h12, h13, h14, h15, h16, h17, h18, h19, h20, h21, h22, h23, h24, h25, h26, h27, fun _ => rfl⟩, HW⟩
  case doneR12 =>
    rintro b a wy hb ⟨z6, z104, z105, z106, z107, z108, z109, z110, z111, z112, z113, z114, z115, z116, z117, z118, z119, z120, z121, z122, z123, z124, z125, z126, z127, z128, z129, z130, z131, rfl, HV, HW⟩
    obtain ⟨h0, h1, h2, h3, h4, h5, h6, h7, h8, h9, h10, h11, h12, h13, h14, h15, h16, h17, h18, h19, h20, h21, h22, h23, h24, h25, h26, h27, h28⟩ := HV.out
    obtain rfl := h0 (hb 0)
    obtain rfl := h1 (hb 1)
    obtain rfl := h2 (hb 2)
    obtain rfl := h3 (hb 3)
    obtain rfl := h4 (hb 4)
    obtain rfl := h5 (hb 5)
    obtain rfl := h6 (hb 6)
    obtain rfl := h7 (hb 7)
    obtain rfl := h8 (hb 8)
    obtain rfl := h9 (hb 9)
    obtain rfl := h10 (hb 10)
    obtain rfl := h11 (hb 11)
    obtain rfl := h12 (hb 12)
    obtain rfl := h13 (hb 13)
    obtain rfl := h14 (hb 14)
    obtain rfl := h15 (hb 15)
    obtain rfl := h16 (hb 16)
    obtain rfl := h17 (hb 17)
    obtain rfl := h18 (hb 18)
    obtain rfl := h19 (hb 19)
    obtain rfl := h20 (hb 20)
    obtain rfl := h21 (hb 21)
    obtain rfl := h22 (hb 22)
    obtain rfl := h23 (hb 23)
    obtain rfl := h24 (hb 24)
    obtain rfl := h25 (hb 25)
    obtain rfl := h26 (hb 26)
    obtain rfl := h27 (hb 27)
    obtain rfl := h28 (hb 28)
    clear HV hb h0 h1 h2 h3 h4 h5 h6 h7 h8 h9 h10 h11 h12 h13 h14 h15 h16 h17 h18 h19 h20 h21 h22 h23 h24 h25 h26 h27 h28
    go_wp2_with fail
    go_ret
    exact ⟨rfl, HB.out.trans (HW.out.mono HB.out.size)⟩
end Go.Proofs.Ytkhimoclikhlaaa.Su
