/- TallyTells's walk. (Written by bin/gen_tltells.py.) -/
import Derived.Test.YtigmgaedpdeleaaTlU
import Derived.Deep.CutBlock
namespace Go.Proofs.Ytigmgaedpdeleaa.Tl
open Go.RowKit Go.Proofs.Ytigmgaedpdeleaa.Oct Go.Proofs.Ytigmgaedpdeleaa.Mv Go.Maps
set_option linter.unusedVariables false

/-- A tally and the reference's, which is held in block p: both have the same state. -/
structure Both (w : World) (a cb mb c n p : Nat) (s : St) (b1 c1 b2 c2 : Nat) : Prop where
  at' : At w a cb mb c s
  rat : RAt w b1 c1 b2 c2 s
  row : RowV w p 31 [.slice (some ⟨b1, 0, none⟩) n c1, .slice (some ⟨b2, 0, none⟩) n c2]
  hn : s.n = n
theorem At.ne_row {w : World} {a cb mb c p : Nat} {s : St} (h : At w a cb mb c s) {vs : List Value} (k : RowV w p 31 vs) : a ≠ p ∧ cb ≠ p ∧ mb ≠ p := by
  have h1 := h.row
  obtain ⟨sp, h2⟩ := h.nums
  obtain ⟨_, _, ho, _⟩ := h.mp
  refine ⟨?_, ?_, (own_row ho k).symm⟩
  · rintro rfl
    unfold RowV at h1 k
    rw [h1] at k
    simp at k
  · rintro rfl
    unfold RowV at h2 k
    rw [h2] at k
    simp at k
theorem RAt.ne_row {w : World} {b1 c1 b2 c2 p n k1 k2 : Nat} {s : St} {A1 A2 : Option Addr} (h : RAt w b1 c1 b2 c2 s) (k : RowV w p 31 [.slice A1 n k1, .slice A2 n k2]) : b1 ≠ p ∧ b2 ≠ p := by
  have h0 : 0 < s.n := h.ok.lo
  have q1 := h.cnt h0
  have q2 := h.was h0
  have q3 := k.cellAt (i := 0) rfl
  constructor
  · rintro rfl; rw [q1] at q3; simp at q3
  · rintro rfl; rw [q2] at q3; simp at q3
section
variable {w w' : World} {a cb mb c n p b1 c1 b2 c2 : Nat} {s : St}
theorem Both.below (h : Both w a cb mb c n p s b1 c1 b2 c2) (k : Below w.heap.size w w') : Both w' a cb mb c n p s b1 c1 b2 c2 := ⟨h.at'.kept k, h.rat.below k, h.row.below h.row.lt k, h.hn⟩
theorem Both.still (h : Both w a cb mb c n p s b1 c1 b2 c2) (k : Still w w') : Both w' a cb mb c n p s b1 c1 b2 c2 := h.below (k.below _)
/-- Both have gone on. -/
theorem Both.next {s' : St} {d1 e1 d2 e2 : Nat} {A1 A2 : Option Addr} {k1 k2 : Nat} (h1 : At w a cb mb c s') (h2 : RAt w d1 e1 d2 e2 s') (h3 : RowV w p 31 [.slice A1 n k1, .slice A2 n k2]) (h4 : s'.n = n) :
    Both ((w.setCell ⟨p, 0, none⟩ (.slice (some ⟨d1, 0, none⟩) n e1)).setCell ⟨p, 1, none⟩ (.slice (some ⟨d2, 0, none⟩) n e2)) a cb mb c n p s' d1 e1 d2 e2 := by
  have q := h1.ne_row h3
  have r := h2.ne_row h3
  refine ⟨(h1.setOther q.1 q.2.1 q.2.2 _ _).setOther q.1 q.2.1 q.2.2 _ _, ⟨(h2.now.block (heap_setCell_other _ _ _ _ r.1)).block (heap_setCell_other _ _ _ _ r.1), (h2.kept.block (heap_setCell_other _ _ _ _ r.2)).block (heap_setCell_other _ _ _ _ r.2), h2.ok⟩, ?_, h4⟩
  exact (h3.set 0 _).set 1 _
theorem radd_up' (h : RAt w b1 c1 b2 c2 s) (hn : s.n = n) (b : Int) :
    Calls Try.prog 21 #[.agg #[.slice (some ⟨b1, 0, none⟩) n c1, .slice (some ⟨b2, 0, none⟩) n c2], .int .i64 b, .int .i64 1] w fun e w' => ∃ d1 e1, e = .returned (.tuple #[.agg #[.slice (some ⟨d1, 0, none⟩) n e1, .slice (some ⟨b2, 0, none⟩) n c2], .int .i64 (s.up b).1]) ∧ RAt w' d1 e1 b2 c2 (s.up b).2 ∧ Below w.heap.size w w' := by
  have := radd_up h b
  rw [hn] at this
  exact this
theorem radd_down' (h : RAt w b1 c1 b2 c2 s) (hn : s.n = n) (b : Int) :
    Calls Try.prog 21 #[.agg #[.slice (some ⟨b1, 0, none⟩) n c1, .slice (some ⟨b2, 0, none⟩) n c2], .int .i64 b, .int .i64 (-1)] w fun e w' => ∃ d1 e1, e = .returned (.tuple #[.agg #[.slice (some ⟨d1, 0, none⟩) n e1, .slice (some ⟨b2, 0, none⟩) n c2], .int .i64 (s.down b).1]) ∧ RAt w' d1 e1 b2 c2 (s.down b).2 ∧ Below w.heap.size w w' := by
  have := radd_down h b
  rw [hn] at this
  exact this
theorem blocks_eq (h : At w a cb mb c s) (hn : s.n = n) :
    Calls Try.prog 12 #[.pointer (some ⟨a, 0, none⟩)] w fun e w' => e = .returned (.int .i64 (n : Int)) ∧ w = w' := by
  subst hn
  exact blocks_at h
theorem rkeep' (h : RAt w b1 c1 b2 c2 s) (hn : s.n = n) :
    Calls Try.prog 24 #[.agg #[.slice (some ⟨b1, 0, none⟩) n c1, .slice (some ⟨b2, 0, none⟩) n c2]] w fun e w' => e = .returned (.agg #[.slice (some ⟨b1, 0, none⟩) n c1, .slice (some ⟨b1, 0, none⟩) n c1]) ∧ RAt w' b1 c1 b1 c1 s.keep ∧ Below w.heap.size w w' := by
  have := rkeep_any h
  rw [hn] at this
  exact this
theorem rback' (h : RAt w b1 c1 b2 c2 s) (hn : s.n = n) :
    Calls Try.prog 26 #[.agg #[.slice (some ⟨b1, 0, none⟩) n c1, .slice (some ⟨b2, 0, none⟩) n c2]] w fun e w' => e = .returned (.agg #[.slice (some ⟨b2, 0, none⟩) n c2, .slice (some ⟨b2, 0, none⟩) n c2]) ∧ RAt w' b2 c2 b2 c2 s.back ∧ Below w.heap.size w w' := by
  have := rback_any h
  rw [hn] at this
  exact this
theorem rcount' (h : RAt w b1 c1 b2 c2 s) (hn : s.n = n) :
    Calls Try.prog 15 #[.agg #[.slice (some ⟨b1, 0, none⟩) n c1, .slice (some ⟨b2, 0, none⟩) n c2]] w fun e w' => ∃ v, e = .returned (.tuple #[.int .i64 (s.frees : Int), .int .i64 (s.idle : Int), v]) ∧ List64 w' v s.changed ∧ Below w.heap.size w w' := by
  have := rcount_any h
  rw [hn] at this
  exact this
end

theorem add_small (x y z : Int) (h : x + y = z) (h1 : -9223372036854775808 ≤ z) (h2 : z ≤ 9223372036854775807) (w : World) : (binOp .add 3 (.int .i64 x) (.int .i64 y)).run Try.prog w = .ok (.int .i64 z) w := by
  subst h
  have hw : IntKind.i64.wrap (x + y) = x + y := by rw [IntKind.wrap_i64]; omega
  simp [binOp, go_sem, hw]
set_option maxRecDepth 100000 in
set_option maxHeartbeats 8000000 in
theorem tells_walk (n0 : Int) (A : Option Addr) (len cap : Nat) (l : List Opr) (w : World) (h0 : (Lit.int .i64 n0).wf = true) (ho : OpsIn w A len cap l) : Calls Try.prog 4 #[.int .i64 n0, .slice A len cap] w fun e w' => e = .returned (.bool true) ∧ Below w.heap.size w w' := by
  have hz := zero_rtally
  by_cases hbad : n0 < 1 ∨ 4096 < n0
  · have HBD := Lib.hid hbad
    clear hbad ho
    go_enter Try.func4, Try.ntmps4
    go_wp2_with fail
    refine (new_no n0 HBD.out w).mono ?_
    rintro e w' ⟨rfl, rfl⟩
    go_wp2_with fail
    refine (rnew_no n0 HBD.out w).mono ?_
    rintro e w1 ⟨rfl, bz⟩
    have B2 := (Below.refl w1.heap.size w1).alloc (Nat.le_refl _) (.cells #[.slice none 0 0, .slice none 0 0] 31)
    have HB2 := Lib.hid (bz.trans (B2.mono bz.size))
    clear bz B2
    go_upto_region 5 with (fail)
    generalize w1.alloc (.cells #[.slice none 0 0, .slice none 0 0] 31) = w2 at *
    have HN := Lib.hid (show Nay w2 (.pointer none) from .inl rfl)
    go_wp2_with fail
    refine (blocks_nay _ _ HN.out).mono ?_
    rintro e w' ⟨rfl, rfl⟩
    go_wp2_with fail
    refine (frees_nay _ _ HN.out).mono ?_
    rintro e w3 ⟨rfl, bz⟩
    have HN3 := Lib.hid (HN.out.below bz)
    have HB3 := Lib.hid (HB2.out.trans (bz.mono HB2.out.size))
    clear bz
    go_wp2_with fail
    refine (idle_nay _ _ HN3.out).mono ?_
    rintro e w4 ⟨rfl, bz⟩
    have HB4 := Lib.hid (HB3.out.trans (bz.mono HB3.out.size))
    clear bz
    go_wp2_with fail
    refine (awake_any _).mono ?_
    rintro e w5 ⟨rfl, bz⟩
    have HB5 := Lib.hid (HB4.out.trans (bz.mono HB4.out.size))
    clear bz
    go_wp2_with fail
    go_ret
    exact ⟨rfl, HB5.out⟩
  · obtain ⟨n, rfl⟩ : ∃ n : Nat, n0 = (n : Int) := ⟨n0.toNat, by omega⟩
    have h1n : 1 ≤ n := by omega
    have hn2 : n ≤ 4096 := by omega
    obtain ⟨m, hm⟩ : ∃ m : Nat, m = min len 120 := ⟨_, rfl⟩
    have hmin : min (len : Int) 120 = (m : Int) := by omega
    have hml : m ≤ len := by omega
    have hm120 : m ≤ 120 := by omega
    have hle := ho.le
    have hcap := ho.cap
    unfold maxLen at hcap
    have HO := Lib.hid ho
    clear hm ho hbad h0
    go_enter Try.func4, Try.ntmps4
    go_wp2_with fail
    refine (new_yes n h1n hn2 w).mono ?_
    rintro e w0 ⟨ta, cb, mb, rfl, hf⟩
    have HA0 := Lib.hid hf.at'
    have HB0 := Lib.hid hf.below
    have HC := Lib.hid hf.hc
    have HM := Lib.hid hf.hm
    clear hf
    go_wp2_with fail
    refine (rnew_yes n h1n hn2 w0).mono ?_
    rintro e w1 ⟨i1, j1, i2, j2, rfl, hr, bz⟩
    unfold rval
    have HA1 := Lib.hid (HA0.out.kept bz)
    have HB1 := Lib.hid (HB0.out.trans (bz.mono HB0.out.size))
    have HR1 := Lib.hid hr
    clear bz hr HA0
    go_upto_region 5 with (fail)
    have B2 := (Below.refl w1.heap.size w1).alloc (Nat.le_refl _) (.cells #[.slice (some ⟨i1, 0, none⟩) n j1, .slice (some ⟨i2, 0, none⟩) n j2] 31)
    have R2 := alloc_rowV w1 31 [.slice (some ⟨i1, 0, none⟩) n j1, .slice (some ⟨i2, 0, none⟩) n j2]
    obtain ⟨p, hp⟩ : ∃ p, p = w1.heap.size := ⟨_, rfl⟩
    have HP2 := Lib.hid (show ∃ s q1 k1 q2 k2, Both (w1.alloc (.cells #[.slice (some ⟨i1, 0, none⟩) n j1, .slice (some ⟨i2, 0, none⟩) n j2] 31)) ta cb mb n n p s q1 k1 q2 k2 from ⟨_, _, _, _, _, HA1.out.kept B2, HR1.out.below B2, by rw [hp]; exact R2, n_new n⟩)
    have HB2 := Lib.hid (HB1.out.trans (B2.mono HB1.out.size))
    have HPW := Lib.hid (show w.heap.size ≤ p by rw [hp]; exact HB1.out.size)
    rw [← hp]
    clear B2 R2 hp HA1 HR1 HB1
    generalize w1.alloc (.cells #[.slice (some ⟨i1, 0, none⟩) n j1, .slice (some ⟨i2, 0, none⟩) n j2] 31) = w2 at *
    go_wp2_with fail
    go_loopw [52] (fun c wr => ∃ k : Nat, k ≤ m ∧ c = .int .i64 (k : Int) ∧ Hid (∃ s b1 c1 b2 c2, Both wr ta cb mb n n p s b1 c1 b2 c2) ∧ Hid (Below w.heap.size w wr)) (fun c _ => m - (Go.RowKit.intOf c).toNat)
    case atStart => exact ⟨0, by omega, rfl, HP2, HB2⟩
    case round =>
      obtain ⟨k, hk, rfl, HS, HB⟩ := hrel
      by_cases hlt : k < m
      · have hki : (k : Int) < (m : Int) := by omega
        have hge : (0 : Int) ≤ (k : Int) := by omega
        obtain ⟨ob, o, x, rfl, hxk, hlies, hwf⟩ := HO.out.at (k := k) (by omega)
        have HX := Lib.hid hwf
        have hl2 := hlies.below HB.out
        have d0 := hl2.c0
        have d1 := hl2.c1
        clear hlies hl2 hwf hxk
        go_upto_block 2 with (fail)
        have B1 := (Below.refl wr.heap.size wr).alloc (Nat.le_refl _) (.cells #[.int .u8 (x.what.toNat : Int), .int .i64 x.b] 36)
        have R1 := alloc_rowV wr 36 [.int .u8 (x.what.toNat : Int), .int .i64 x.b]
        obtain ⟨s, b1, c1, b2, c2, hbo⟩ := HS.out
        have HP1 := Lib.hid (hbo.below B1)
        have HB1 := Lib.hid (HB.out.trans (B1.mono HB.out.size))
        have HRN := Lib.hid (show wr.heap.size ≠ cb ∧ wr.heap.size ≠ mb ∧ wr.heap.size ≠ p from by have := hbo.at'.lts; have := hbo.row.lt; omega)
        clear d0 d1 B1 hbo HS
        generalize wr.alloc (.cells #[.int .u8 (x.what.toNat : Int), .int .i64 x.b] 36) = w3 at *
        obtain ⟨ro, hro⟩ : ∃ ro, ro = wr.heap.size := ⟨_, rfl⟩
        rw [← hro] at R1 HRN ⊢
        have HR1 := Lib.hid R1
        clear hro R1
        go_cut [58] (fun _ wx => Hid (∃ s b1 c1 b2 c2, Both wx ta cb mb n n p s b1 c1 b2 c2) ∧ Hid (Below w.heap.size w wx) ∧ Hid (RowV wx ro 36 [.int .u8 (x.what.toNat : Int), .int .i64 x.b]))
        case first => as_aux_lemma =>
          have d0 := HR1.out.cellAt (i := 0) rfl
          have d1 := HR1.out.cellAt (i := 1) rfl
          have g0 := HP1.out.row.cellAt (i := 0) rfl
          have g1 := HP1.out.row.cellAt (i := 1) rfl
          have hq4 := u8_lt x.what
          rcases (show x.what.toNat % 4 = 0 ∨ x.what.toNat % 4 = 1 ∨ x.what.toNat % 4 = 2 ∨ x.what.toNat % 4 = 3 by omega) with hm4 | hm4 | hm4 | hm4
          · have hmI : (x.what.toNat : Int) % 4 = 0 := by omega
            clear hm4
            go_wp2_with fail
            refine (radd_up' HP1.out.rat HP1.out.hn x.b).mono ?_
            rintro e w4 ⟨d1', e1', rfl, hr, bz⟩
            have HRA := Lib.hid hr
            have HP4 := Lib.hid (HP1.out.below bz)
            have HB4 := Lib.hid (HB1.out.trans (bz.mono HB1.out.size))
            have HR4 := Lib.hid (HR1.out.below HR1.out.lt bz)
            clear hr bz d0 d1 g0 g1
            have hlo := HP4.out.at'.lts
            have HL4 := Lib.hid hlo
            clear hlo
            go_upto_region 15 with (fail)
            have B5 := (Below.refl w4.heap.size w4).alloc (Nat.le_refl _) (.cells #[.slice (some ⟨d1', 0, none⟩) n e1', .slice (some ⟨b2, 0, none⟩) n c2] 31)
            have R5 := alloc_rowV w4 31 [.slice (some ⟨d1', 0, none⟩) n e1', .slice (some ⟨b2, 0, none⟩) n c2]
            have HP5 := Lib.hid (HP4.out.below B5)
            have HB5 := Lib.hid (HB4.out.trans (B5.mono HB4.out.size))
            have HR5 := Lib.hid (HR4.out.below HR4.out.lt B5)
            have HRA5 := Lib.hid (HRA.out.below B5)
            clear B5 HP4 HB4 HR4 HRA
            generalize w4.alloc (.cells #[.slice (some ⟨d1', 0, none⟩) n e1', .slice (some ⟨b2, 0, none⟩) n c2] 31) = w5 at *
            obtain ⟨r, hr⟩ : ∃ r, r = w4.heap.size := ⟨_, rfl⟩
            rw [← hr] at R5 HL4 ⊢
            have HN5 := Lib.hid R5
            clear hr R5
            have d1 := HR5.out.cellAt (i := 1) rfl
            go_wp2_with fail
            refine (up_at HP5.out.at' x.b).mono ?_
            rintro e w6 ⟨rfl, az, bz⟩
            have hap := HRA5.out.apart HP5.out.at'
            have HA6 := Lib.hid az
            have HRA6 := Lib.hid (HRA5.out.but bz hap)
            have HB6 := Lib.hid (HB5.out.trans (bz.below HC.out HM.out HB5.out.size))
            have hnr := HP5.out.at'.ne_row HP5.out.row
            have HPR6 := Lib.hid (row_but HP5.out.row bz (fun e => hnr.2.1 e.symm) (fun e => hnr.2.2 e.symm))
            have HR6 := Lib.hid (row_but HR5.out bz HRN.out.1 HRN.out.2.1)
            have HN6 := Lib.hid (row_but HN5.out bz (by have := HL4.out; omega) (by have := HL4.out; omega))
            have HSN := Lib.hid (show (s.up x.b).2.n = n by rw [n_up]; exact HP1.out.hn)
            clear d1 az bz hap hnr HP5 HRA5 HB5 HR5 HN5
            have n0 := HN6.out.cellAt (i := 0) rfl
            have n1 := HN6.out.cellAt (i := 1) rfl
            have g0 := HPR6.out.cellAt (i := 0) rfl
            have g1 := HPR6.out.cellAt (i := 1) rfl
            have f0 := HPR6.out.free 0
            have f1 := HPR6.out.free 1
            go_wp2_with fail
            go_meet
            refine ⟨Lib.hid ⟨_, _, _, _, _, Both.next HA6.out HRA6.out HPR6.out HSN.out⟩, Lib.hid ((HB6.out.setCell (p := ⟨p, 0, none⟩) HPW.out _).setCell (p := ⟨p, 1, none⟩) HPW.out _), Lib.hid ((HR6.out.other HRN.out.2.2).other HRN.out.2.2)⟩
          · have hmI : (x.what.toNat : Int) % 4 = 1 := by omega
            clear hm4
            go_wp2_with fail
            refine (radd_down' HP1.out.rat HP1.out.hn x.b).mono ?_
            rintro e w4 ⟨d1', e1', rfl, hr, bz⟩
            have HRA := Lib.hid hr
            have HP4 := Lib.hid (HP1.out.below bz)
            have HB4 := Lib.hid (HB1.out.trans (bz.mono HB1.out.size))
            have HR4 := Lib.hid (HR1.out.below HR1.out.lt bz)
            clear hr bz d0 d1 g0 g1
            have hlo := HP4.out.at'.lts
            have HL4 := Lib.hid hlo
            clear hlo
            go_upto_region 20 with (fail)
            have B5 := (Below.refl w4.heap.size w4).alloc (Nat.le_refl _) (.cells #[.slice (some ⟨d1', 0, none⟩) n e1', .slice (some ⟨b2, 0, none⟩) n c2] 31)
            have R5 := alloc_rowV w4 31 [.slice (some ⟨d1', 0, none⟩) n e1', .slice (some ⟨b2, 0, none⟩) n c2]
            have HP5 := Lib.hid (HP4.out.below B5)
            have HB5 := Lib.hid (HB4.out.trans (B5.mono HB4.out.size))
            have HR5 := Lib.hid (HR4.out.below HR4.out.lt B5)
            have HRA5 := Lib.hid (HRA.out.below B5)
            clear B5 HP4 HB4 HR4 HRA
            generalize w4.alloc (.cells #[.slice (some ⟨d1', 0, none⟩) n e1', .slice (some ⟨b2, 0, none⟩) n c2] 31) = w5 at *
            obtain ⟨r, hr⟩ : ∃ r, r = w4.heap.size := ⟨_, rfl⟩
            rw [← hr] at R5 HL4 ⊢
            have HN5 := Lib.hid R5
            clear hr R5
            have d1 := HR5.out.cellAt (i := 1) rfl
            go_wp2_with fail
            refine (down_at HP5.out.at' x.b).mono ?_
            rintro e w6 ⟨rfl, az, bz⟩
            have hap := HRA5.out.apart HP5.out.at'
            have HA6 := Lib.hid az
            have HRA6 := Lib.hid (HRA5.out.but bz hap)
            have HB6 := Lib.hid (HB5.out.trans (bz.below HC.out HM.out HB5.out.size))
            have hnr := HP5.out.at'.ne_row HP5.out.row
            have HPR6 := Lib.hid (row_but HP5.out.row bz (fun e => hnr.2.1 e.symm) (fun e => hnr.2.2 e.symm))
            have HR6 := Lib.hid (row_but HR5.out bz HRN.out.1 HRN.out.2.1)
            have HN6 := Lib.hid (row_but HN5.out bz (by have := HL4.out; omega) (by have := HL4.out; omega))
            have HSN := Lib.hid (show (s.down x.b).2.n = n by rw [n_down]; exact HP1.out.hn)
            clear d1 az bz hap hnr HP5 HRA5 HB5 HR5 HN5
            have n0 := HN6.out.cellAt (i := 0) rfl
            have n1 := HN6.out.cellAt (i := 1) rfl
            have g0 := HPR6.out.cellAt (i := 0) rfl
            have g1 := HPR6.out.cellAt (i := 1) rfl
            have f0 := HPR6.out.free 0
            have f1 := HPR6.out.free 1
            go_wp2_with fail
            go_meet
            refine ⟨Lib.hid ⟨_, _, _, _, _, Both.next HA6.out HRA6.out HPR6.out HSN.out⟩, Lib.hid ((HB6.out.setCell (p := ⟨p, 0, none⟩) HPW.out _).setCell (p := ⟨p, 1, none⟩) HPW.out _), Lib.hid ((HR6.out.other HRN.out.2.2).other HRN.out.2.2)⟩
          · have hmI : (x.what.toNat : Int) % 4 = 2 := by omega
            clear hm4
            go_wp2_with fail
            refine (keep_at HP1.out.at').mono ?_
            rintro e w4 ⟨rfl, az, bz⟩
            have hap := HP1.out.rat.apart HP1.out.at'
            have HA4 := Lib.hid az
            have HRA4 := Lib.hid (HP1.out.rat.but bz hap)
            have HB4 := Lib.hid (HB1.out.trans (bz.below HC.out HM.out HB1.out.size))
            have hnr := HP1.out.at'.ne_row HP1.out.row
            have HPR4 := Lib.hid (row_but HP1.out.row bz (fun e => hnr.2.1 e.symm) (fun e => hnr.2.2 e.symm))
            have HR4 := Lib.hid (row_but HR1.out bz HRN.out.1 HRN.out.2.1)
            clear az bz hap hnr d0 d1 g0 g1
            dsimp only
            have g0 := HPR4.out.cellAt (i := 0) rfl
            have g1 := HPR4.out.cellAt (i := 1) rfl
            go_wp2_with fail
            refine (rkeep' HRA4.out HP1.out.hn).mono ?_
            rintro e w5 ⟨rfl, hr, bz⟩
            have HA5 := Lib.hid (HA4.out.kept bz)
            have HRA5 := Lib.hid hr
            have HB5 := Lib.hid (HB4.out.trans (bz.mono HB4.out.size))
            have HPR5 := Lib.hid (HPR4.out.below HPR4.out.lt bz)
            have HR5 := Lib.hid (HR4.out.below HR4.out.lt bz)
            have HSN := Lib.hid (show s.keep.n = n by exact HP1.out.hn)
            clear hr bz g0 g1 HA4 HRA4 HB4 HPR4 HR4
            have g0 := HPR5.out.cellAt (i := 0) rfl
            have g1 := HPR5.out.cellAt (i := 1) rfl
            have f0 := HPR5.out.free 0
            have f1 := HPR5.out.free 1
            go_wp2_with fail
            go_meet
            refine ⟨Lib.hid ⟨_, _, _, _, _, Both.next HA5.out HRA5.out HPR5.out HSN.out⟩, Lib.hid ((HB5.out.setCell (p := ⟨p, 0, none⟩) HPW.out _).setCell (p := ⟨p, 1, none⟩) HPW.out _), Lib.hid ((HR5.out.other HRN.out.2.2).other HRN.out.2.2)⟩
          · have hmI : (x.what.toNat : Int) % 4 = 3 := by omega
            clear hm4
            go_wp2_with fail
            refine (back_at HP1.out.at').mono ?_
            rintro e w4 ⟨rfl, az, bz⟩
            have hap := HP1.out.rat.apart HP1.out.at'
            have HA4 := Lib.hid az
            have HRA4 := Lib.hid (HP1.out.rat.but bz hap)
            have HB4 := Lib.hid (HB1.out.trans (bz.below HC.out HM.out HB1.out.size))
            have hnr := HP1.out.at'.ne_row HP1.out.row
            have HPR4 := Lib.hid (row_but HP1.out.row bz (fun e => hnr.2.1 e.symm) (fun e => hnr.2.2 e.symm))
            have HR4 := Lib.hid (row_but HR1.out bz HRN.out.1 HRN.out.2.1)
            clear az bz hap hnr d0 d1 g0 g1
            dsimp only
            have g0 := HPR4.out.cellAt (i := 0) rfl
            have g1 := HPR4.out.cellAt (i := 1) rfl
            go_wp2_with fail
            refine (rback' HRA4.out HP1.out.hn).mono ?_
            rintro e w5 ⟨rfl, hr, bz⟩
            have HA5 := Lib.hid (HA4.out.kept bz)
            have HRA5 := Lib.hid hr
            have HB5 := Lib.hid (HB4.out.trans (bz.mono HB4.out.size))
            have HPR5 := Lib.hid (HPR4.out.below HPR4.out.lt bz)
            have HR5 := Lib.hid (HR4.out.below HR4.out.lt bz)
            have HSN := Lib.hid (show s.back.n = n by have := HP1.out.at'.ok.len; have h2 := HP1.out.hn; unfold St.n at h2; show s.kept.length = n; omega)
            clear hr bz g0 g1 HA4 HRA4 HB4 HPR4 HR4
            have g0 := HPR5.out.cellAt (i := 0) rfl
            have g1 := HPR5.out.cellAt (i := 1) rfl
            have f0 := HPR5.out.free 0
            have f1 := HPR5.out.free 1
            go_wp2_with fail
            go_meet
            refine ⟨Lib.hid ⟨_, _, _, _, _, Both.next HA5.out HRA5.out HPR5.out HSN.out⟩, Lib.hid ((HB5.out.setCell (p := ⟨p, 0, none⟩) HPW.out _).setCell (p := ⟨p, 1, none⟩) HPW.out _), Lib.hid ((HR5.out.other HRN.out.2.2).other HRN.out.2.2)⟩
        case rest =>
          obtain ⟨HS2, HB2', HR2⟩ := hcut
          clear HP1 HB1 HR1
          obtain ⟨s2, b1, c1, b2, c2, hbo⟩ := HS2.out
          have HP := Lib.hid hbo
          clear hbo HS2
          obtain ⟨w4, hw4⟩ : ∃ x, x = wc := ⟨_, rfl⟩
          subst hw4
          have g0 := HP.out.row.cellAt (i := 0) rfl
          have g1 := HP.out.row.cellAt (i := 1) rfl
          go_wp2_with fail
          refine (rcount' HP.out.rat HP.out.hn).mono ?_
          rintro e w5 ⟨v, rfl, lz, bz⟩
          have HP5 := Lib.hid (HP.out.below bz)
          have HB5 := Lib.hid (HB2'.out.trans (bz.mono HB2'.out.size))
          have HR5 := Lib.hid (HR2.out.below HR2.out.lt bz)
          have HL5 := Lib.hid lz
          clear bz lz g0 g1 HP HR2 HB2'
          go_upto_region 27 with (fail)
          go_cut [131] (fun s131 wx => s131 = .bool false ∧ Hid (Below w5.heap.size w5 wx))
          case first => as_aux_lemma =>
            refine Inv2.wp_region_inv (fun b a wy => ∃ z107 z108 z109 z110 z111 z112 z113 z114 z115 z116 z117 z118 z119 z120 z121 z122 z123 z124 z125 z126 z127 z128 z129 z130 z131, a = ⟨(List.toArray (Value.int IntKind.i64 ↑n :: Value.slice (some { block := ob, off := o }) len cap :: undef :: undef :: u4 :: Value.pointer (some { block := ta, off := 0 }) :: Value.int IntKind.i64 0 :: Value.pointer (some { block := p, off := 0 }) :: Value.int IntKind.i64 0 :: undef :: Value.pointer (some { block := ro, off := 0 }) :: u11 :: u12 :: u13 :: u14 :: Value.int IntKind.i64 ↑s2.frees :: Value.int IntKind.i64 ↑s2.idle :: v :: u18 :: Value.tuple #[Value.pointer (some { block := ta, off := 0 }), Value.int IntKind.i64 0] :: Value.int IntKind.i64 ↑n :: Value.tuple #[Value.pointer (some { block := ta, off := 0 }), Value.int IntKind.i64 0] :: Value.pointer (some { block := ta, off := 0 }) :: Value.int IntKind.i64 0 :: Value.tuple #[Value.agg #[Value.slice (some { block := i1, off := 0 }) n j1, Value.slice (some { block := i2, off := 0 }) n j2], Value.int IntKind.i64 0] :: Value.int IntKind.i64 ↑n :: Value.tuple #[Value.agg #[Value.slice (some { block := i1, off := 0 }) n j1, Value.slice (some { block := i2, off := 0 }) n j2], Value.int IntKind.i64 0] :: Value.agg #[Value.slice (some { block := i1, off := 0 }) n j1, Value.slice (some { block := i2, off := 0 }) n j2] :: Value.int IntKind.i64 0 :: Value.int IntKind.i64 0 :: Value.int IntKind.i64 0 :: Value.bool false :: Value.int IntKind.i64 0 :: Value.bool false :: undef :: undef :: undef :: undef :: undef :: undef :: undef :: undef :: undef :: undef :: undef :: undef :: Value.slice (some { block := ob, off := o }) len cap :: Value.slice (some { block := ob, off := o }) len cap :: Value.int IntKind.i64 ↑len :: Value.int IntKind.i64 ↑m :: Value.slice (some { block := ob, off := o }) m cap :: Value.int IntKind.i64 ↑m :: Value.int IntKind.i64 ↑k :: u53 :: u54 :: u55 :: u56 :: u57 :: u58 :: u59 :: u60 :: u61 :: u62 :: u63 :: u64 :: u65 :: u66 :: u67 :: u68 :: u69 :: u70 :: u71 :: u72 :: u73 :: u74 :: u75 :: u76 :: u77 :: u78 :: u79 :: u80 :: u81 :: u82 :: u83 :: u84 :: u85 :: u86 :: u87 :: u88 :: u89 :: u90 :: u91 :: u92 :: u93 :: u94 :: u95 :: u96 :: u97 :: u98 :: u99 :: u100 :: Value.tuple #[Value.int IntKind.i64 ↑s2.frees, Value.int IntKind.i64 ↑s2.idle, v] :: Value.agg #[Value.slice (some { block := b1, off := 0 }) n c1, Value.slice (some { block := b2, off := 0 }) n c2] :: Value.tuple #[Value.int IntKind.i64 ↑s2.frees, Value.int IntKind.i64 ↑s2.idle, v] :: Value.int IntKind.i64 ↑s2.frees :: Value.int IntKind.i64 ↑s2.idle :: v :: z107 :: z108 :: z109 :: z110 :: z111 :: z112 :: z113 :: z114 :: z115 :: z116 :: z117 :: z118 :: z119 :: z120 :: z121 :: z122 :: z123 :: z124 :: z125 :: z126 :: z127 :: z128 :: z129 :: z130 :: z131 :: u132 :: u133 :: u134 :: u135 :: u136 :: u137 :: u138 :: u139 :: u140 :: u141 :: u142 :: u143 :: u144 :: u145 :: u146 :: u147 :: u148 :: u149 :: u150 :: u151 :: u152 :: u153 :: u154 :: u155 :: u156 :: u157 :: u158 :: u159 :: u160 :: u161 :: u162 :: u163 :: u164 :: u165 :: u166 :: u167 :: u168 :: u169 :: u170 :: u171 :: u172 :: u173 :: u174 :: u175 :: u176 :: u177 :: u178 :: u179 :: u180 :: u181 :: u182 :: u183 :: u184 :: u185 :: u186 :: u187 :: u188 :: u189 :: u190 :: u191 :: u192 :: u193 :: u194 :: u195 :: undef :: [])), []⟩ ∧ Hid ((b 0 = true → z107 = Value.pointer (some { block := ta, off := 0 })) ∧ (b 1 = true → z108 = .int .i64 (s2.frees : Int)) ∧ (b 2 = true → z109 = Value.int IntKind.i64 ↑s2.frees) ∧ (b 3 = true → z110 = .bool false) ∧ (b 4 = true → z111 = .bool false) ∧ (b 5 = true → z112 = Value.pointer (some { block := ta, off := 0 })) ∧ (b 6 = true → z113 = .int .i64 (s2.idle : Int)) ∧ (b 7 = true → z114 = Value.int IntKind.i64 ↑s2.idle) ∧ (b 8 = true → z115 = .bool false) ∧ (b 9 = true → z116 = .bool false) ∧ (b 10 = true → z117 = .bool false) ∧ (b 11 = true → z118 = Value.pointer (some { block := ta, off := 0 })) ∧ (b 13 = true → z120 = v) ∧ (b 14 = true → z121 = .bool true) ∧ (b 15 = true → z122 = .bool false) ∧ (b 16 = true → z123 = .bool false) ∧ (b 17 = true → z124 = .bool false) ∧ (b 18 = true → z125 = Value.pointer (some { block := ta, off := 0 })) ∧ (b 19 = true → z126 = .int .i64 (n : Int)) ∧ (b 20 = true → z127 = .pointer (some ⟨p, 0, none⟩)) ∧ (b 21 = true → z128 = .slice (some ⟨b1, 0, none⟩) n c1) ∧ (b 22 = true → z129 = .int .i64 (n : Int)) ∧ (b 23 = true → z130 = .bool false) ∧ (b 24 = true → z131 = .bool false)) ∧ Hid (Below w5.heap.size w5 wy) ∧ Hid (b 12 = true → List64 wy z119 s2.changed)) (by kernel_rfl) (by kernel_rfl) ?startT27 ?stepsT27 ?doneT27
            case startT27 =>
              intro b hb
              refine ⟨u107, u108, u109, u110, u111, u112, u113, u114, u115, u116, u117, u118, u119, u120, u121, u122, u123, u124, u125, u126, u127, u128, u129, u130, u131, rfl, Lib.hid ⟨?_, ?_, ?_, ?_, ?_, ?_, ?_, ?_, ?_, ?_, ?_, ?_, ?_, ?_, ?_, ?_, ?_, ?_, ?_, ?_, ?_, ?_, ?_, ?_⟩, Lib.hid ((show Still w5 w5.drew from ⟨rfl, rfl, rfl, rfl⟩).below _), Lib.hid (fun e => by rw [hb _ (by decide)] at e; cases e)⟩
              all_goals (intro e; first | rfl | (rw [hb _ (by decide)] at e; cases e))
            case stepsT27 =>
              refine ⟨?_, ?_, ?_, ?_, ?_, ?_, ?_, ?_, ?_, ?_, ?_, ?_, ?_, ?_, ?_, ?_, ?_, ?_, ?_, ?_, ?_, ?_, ?_, ?_, ?_, trivial⟩
              · rintro b a wy hb hd ⟨z107, z108, z109, z110, z111, z112, z113, z114, z115, z116, z117, z118, z119, z120, z121, z122, z123, z124, z125, z126, z127, z128, z129, z130, z131, rfl, HV, HW, HX⟩ K hK
                obtain ⟨h0, h1, h2, h3, h4, h5, h6, h7, h8, h9, h10, h11, h13, h14, h15, h16, h17, h18, h19, h20, h21, h22, h23, h24⟩ := HV.out
                clear hd
                go_simp
                exact hK _ _ ⟨_, _, _, _, _, _, _, _, _, _, _, _, _, _, _, _, _, _, _, _, _, _, _, _, _, rfl, Lib.hid ⟨fun _ => rfl, h1, h2, h3, h4, h5, h6, h7, h8, h9, h10, h11, h13, h14, h15, h16, h17, h18, h19, h20, h21, h22, h23, h24⟩, HW, HX⟩
              · rintro b a wy hb hd ⟨z107, z108, z109, z110, z111, z112, z113, z114, z115, z116, z117, z118, z119, z120, z121, z122, z123, z124, z125, z126, z127, z128, z129, z130, z131, rfl, HV, HW, HX⟩ K hK
                obtain ⟨h0, h1, h2, h3, h4, h5, h6, h7, h8, h9, h10, h11, h13, h14, h15, h16, h17, h18, h19, h20, h21, h22, h23, h24⟩ := HV.out
                simp [Region.binds] at hd
                obtain rfl := h0 (by simp [hd])
                clear hd
                have HPw := Lib.hid (HP5.out.below HW.out)
                go_simp
                go_at_call 16
                refine (frees_at HPw.out.at').mono ?_
                rintro e wz ⟨rfl, kz⟩
                try go_simp
                exact hK _ _ ⟨_, _, _, _, _, _, _, _, _, _, _, _, _, _, _, _, _, _, _, _, _, _, _, _, _, rfl, Lib.hid ⟨h0, fun _ => rfl, h2, h3, h4, h5, h6, h7, h8, h9, h10, h11, h13, h14, h15, h16, h17, h18, h19, h20, h21, h22, h23, h24⟩, Lib.hid (HW.out.trans (kz.mono HW.out.size)), Lib.hid (fun e => (HX.out e).still kz)⟩
              · rintro b a wy hb hd ⟨z107, z108, z109, z110, z111, z112, z113, z114, z115, z116, z117, z118, z119, z120, z121, z122, z123, z124, z125, z126, z127, z128, z129, z130, z131, rfl, HV, HW, HX⟩ K hK
                obtain ⟨h0, h1, h2, h3, h4, h5, h6, h7, h8, h9, h10, h11, h13, h14, h15, h16, h17, h18, h19, h20, h21, h22, h23, h24⟩ := HV.out
                clear hd
                go_simp
                exact hK _ _ ⟨_, _, _, _, _, _, _, _, _, _, _, _, _, _, _, _, _, _, _, _, _, _, _, _, _, rfl, Lib.hid ⟨h0, h1, fun _ => rfl, h3, h4, h5, h6, h7, h8, h9, h10, h11, h13, h14, h15, h16, h17, h18, h19, h20, h21, h22, h23, h24⟩, HW, HX⟩
              · rintro b a wy hb hd ⟨z107, z108, z109, z110, z111, z112, z113, z114, z115, z116, z117, z118, z119, z120, z121, z122, z123, z124, z125, z126, z127, z128, z129, z130, z131, rfl, HV, HW, HX⟩ K hK
                obtain ⟨h0, h1, h2, h3, h4, h5, h6, h7, h8, h9, h10, h11, h13, h14, h15, h16, h17, h18, h19, h20, h21, h22, h23, h24⟩ := HV.out
                simp [Region.binds] at hd
                obtain rfl := h1 (by simp [hd])
                obtain rfl := h2 (by simp [hd])
                clear hd
                go_simp
                exact hK _ _ ⟨_, _, _, _, _, _, _, _, _, _, _, _, _, _, _, _, _, _, _, _, _, _, _, _, _, rfl, Lib.hid ⟨h0, h1, h2, fun _ => rfl, h4, h5, h6, h7, h8, h9, h10, h11, h13, h14, h15, h16, h17, h18, h19, h20, h21, h22, h23, h24⟩, HW, HX⟩
              · rintro b a wy hb hd ⟨z107, z108, z109, z110, z111, z112, z113, z114, z115, z116, z117, z118, z119, z120, z121, z122, z123, z124, z125, z126, z127, z128, z129, z130, z131, rfl, HV, HW, HX⟩ K hK
                obtain ⟨h0, h1, h2, h3, h4, h5, h6, h7, h8, h9, h10, h11, h13, h14, h15, h16, h17, h18, h19, h20, h21, h22, h23, h24⟩ := HV.out
                simp [Region.binds] at hd
                obtain rfl := h3 (by simp [hd])
                clear hd
                go_simp
                exact hK _ _ ⟨_, _, _, _, _, _, _, _, _, _, _, _, _, _, _, _, _, _, _, _, _, _, _, _, _, rfl, Lib.hid ⟨h0, h1, h2, h3, fun _ => rfl, h5, h6, h7, h8, h9, h10, h11, h13, h14, h15, h16, h17, h18, h19, h20, h21, h22, h23, h24⟩, HW, HX⟩
              · rintro b a wy hb hd ⟨z107, z108, z109, z110, z111, z112, z113, z114, z115, z116, z117, z118, z119, z120, z121, z122, z123, z124, z125, z126, z127, z128, z129, z130, z131, rfl, HV, HW, HX⟩ K hK
                obtain ⟨h0, h1, h2, h3, h4, h5, h6, h7, h8, h9, h10, h11, h13, h14, h15, h16, h17, h18, h19, h20, h21, h22, h23, h24⟩ := HV.out
                simp [Region.binds] at hd
                obtain rfl := h4 (by simp [hd])
                clear hd
                go_simp
                exact hK _ _ ⟨_, _, _, _, _, _, _, _, _, _, _, _, _, _, _, _, _, _, _, _, _, _, _, _, _, rfl, Lib.hid ⟨h0, h1, h2, h3, h4, fun _ => rfl, h6, h7, h8, h9, h10, h11, h13, h14, h15, h16, h17, h18, h19, h20, h21, h22, h23, h24⟩, HW, HX⟩
              · rintro b a wy hb hd ⟨z107, z108, z109, z110, z111, z112, z113, z114, z115, z116, z117, z118, z119, z120, z121, z122, z123, z124, z125, z126, z127, z128, z129, z130, z131, rfl, HV, HW, HX⟩ K hK
                obtain ⟨h0, h1, h2, h3, h4, h5, h6, h7, h8, h9, h10, h11, h13, h14, h15, h16, h17, h18, h19, h20, h21, h22, h23, h24⟩ := HV.out
                simp [Region.binds] at hd
                obtain rfl := h4 (by simp [hd])
                obtain rfl := h5 (by simp [hd])
                clear hd
                have HPw := Lib.hid (HP5.out.below HW.out)
                go_simp
                go_at_call 17
                refine (idle_at HPw.out.at').mono ?_
                rintro e wz ⟨rfl, kz⟩
                try go_simp
                exact hK _ _ ⟨_, _, _, _, _, _, _, _, _, _, _, _, _, _, _, _, _, _, _, _, _, _, _, _, _, rfl, Lib.hid ⟨h0, h1, h2, h3, h4, h5, fun _ => rfl, h7, h8, h9, h10, h11, h13, h14, h15, h16, h17, h18, h19, h20, h21, h22, h23, h24⟩, Lib.hid (HW.out.trans (kz.mono HW.out.size)), Lib.hid (fun e => (HX.out e).still kz)⟩
              · rintro b a wy hb hd ⟨z107, z108, z109, z110, z111, z112, z113, z114, z115, z116, z117, z118, z119, z120, z121, z122, z123, z124, z125, z126, z127, z128, z129, z130, z131, rfl, HV, HW, HX⟩ K hK
                obtain ⟨h0, h1, h2, h3, h4, h5, h6, h7, h8, h9, h10, h11, h13, h14, h15, h16, h17, h18, h19, h20, h21, h22, h23, h24⟩ := HV.out
                simp [Region.binds] at hd
                obtain rfl := h4 (by simp [hd])
                clear hd
                go_simp
                exact hK _ _ ⟨_, _, _, _, _, _, _, _, _, _, _, _, _, _, _, _, _, _, _, _, _, _, _, _, _, rfl, Lib.hid ⟨h0, h1, h2, h3, h4, h5, h6, fun _ => rfl, h8, h9, h10, h11, h13, h14, h15, h16, h17, h18, h19, h20, h21, h22, h23, h24⟩, HW, HX⟩
              · rintro b a wy hb hd ⟨z107, z108, z109, z110, z111, z112, z113, z114, z115, z116, z117, z118, z119, z120, z121, z122, z123, z124, z125, z126, z127, z128, z129, z130, z131, rfl, HV, HW, HX⟩ K hK
                obtain ⟨h0, h1, h2, h3, h4, h5, h6, h7, h8, h9, h10, h11, h13, h14, h15, h16, h17, h18, h19, h20, h21, h22, h23, h24⟩ := HV.out
                simp [Region.binds] at hd
                obtain rfl := h4 (by simp [hd])
                obtain rfl := h6 (by simp [hd])
                obtain rfl := h7 (by simp [hd])
                clear hd
                go_simp
                exact hK _ _ ⟨_, _, _, _, _, _, _, _, _, _, _, _, _, _, _, _, _, _, _, _, _, _, _, _, _, rfl, Lib.hid ⟨h0, h1, h2, h3, h4, h5, h6, h7, fun _ => rfl, h9, h10, h11, h13, h14, h15, h16, h17, h18, h19, h20, h21, h22, h23, h24⟩, HW, HX⟩
              · rintro b a wy hb hd ⟨z107, z108, z109, z110, z111, z112, z113, z114, z115, z116, z117, z118, z119, z120, z121, z122, z123, z124, z125, z126, z127, z128, z129, z130, z131, rfl, HV, HW, HX⟩ K hK
                obtain ⟨h0, h1, h2, h3, h4, h5, h6, h7, h8, h9, h10, h11, h13, h14, h15, h16, h17, h18, h19, h20, h21, h22, h23, h24⟩ := HV.out
                simp [Region.binds] at hd
                obtain rfl := h4 (by simp [hd])
                obtain rfl := h8 (by simp [hd])
                clear hd
                go_simp
                exact hK _ _ ⟨_, _, _, _, _, _, _, _, _, _, _, _, _, _, _, _, _, _, _, _, _, _, _, _, _, rfl, Lib.hid ⟨h0, h1, h2, h3, h4, h5, h6, h7, h8, fun _ => rfl, h10, h11, h13, h14, h15, h16, h17, h18, h19, h20, h21, h22, h23, h24⟩, HW, HX⟩
              · rintro b a wy hb hd ⟨z107, z108, z109, z110, z111, z112, z113, z114, z115, z116, z117, z118, z119, z120, z121, z122, z123, z124, z125, z126, z127, z128, z129, z130, z131, rfl, HV, HW, HX⟩ K hK
                obtain ⟨h0, h1, h2, h3, h4, h5, h6, h7, h8, h9, h10, h11, h13, h14, h15, h16, h17, h18, h19, h20, h21, h22, h23, h24⟩ := HV.out
                simp [Region.binds] at hd
                obtain rfl := h9 (by simp [hd])
                clear hd
                go_simp
                exact hK _ _ ⟨_, _, _, _, _, _, _, _, _, _, _, _, _, _, _, _, _, _, _, _, _, _, _, _, _, rfl, Lib.hid ⟨h0, h1, h2, h3, h4, h5, h6, h7, h8, h9, fun _ => rfl, h11, h13, h14, h15, h16, h17, h18, h19, h20, h21, h22, h23, h24⟩, HW, HX⟩
              · rintro b a wy hb hd ⟨z107, z108, z109, z110, z111, z112, z113, z114, z115, z116, z117, z118, z119, z120, z121, z122, z123, z124, z125, z126, z127, z128, z129, z130, z131, rfl, HV, HW, HX⟩ K hK
                obtain ⟨h0, h1, h2, h3, h4, h5, h6, h7, h8, h9, h10, h11, h13, h14, h15, h16, h17, h18, h19, h20, h21, h22, h23, h24⟩ := HV.out
                simp [Region.binds] at hd
                obtain rfl := h10 (by simp [hd])
                clear hd
                go_simp
                exact hK _ _ ⟨_, _, _, _, _, _, _, _, _, _, _, _, _, _, _, _, _, _, _, _, _, _, _, _, _, rfl, Lib.hid ⟨h0, h1, h2, h3, h4, h5, h6, h7, h8, h9, h10, fun _ => rfl, h13, h14, h15, h16, h17, h18, h19, h20, h21, h22, h23, h24⟩, HW, HX⟩
              · rintro b a wy hb hd ⟨z107, z108, z109, z110, z111, z112, z113, z114, z115, z116, z117, z118, z119, z120, z121, z122, z123, z124, z125, z126, z127, z128, z129, z130, z131, rfl, HV, HW, HX⟩ K hK
                obtain ⟨h0, h1, h2, h3, h4, h5, h6, h7, h8, h9, h10, h11, h13, h14, h15, h16, h17, h18, h19, h20, h21, h22, h23, h24⟩ := HV.out
                simp [Region.binds] at hd
                obtain rfl := h10 (by simp [hd])
                obtain rfl := h11 (by simp [hd])
                clear hd
                have HPw := Lib.hid (HP5.out.below HW.out)
                go_simp
                go_at_call 19
                refine (list_at HPw.out.at').mono ?_
                rintro e wz ⟨vz, rfl, lz, kz⟩
                try go_simp
                exact hK _ _ ⟨_, _, _, _, _, _, _, _, _, _, _, _, _, _, _, _, _, _, _, _, _, _, _, _, _, rfl, Lib.hid ⟨h0, h1, h2, h3, h4, h5, h6, h7, h8, h9, h10, h11, h13, h14, h15, h16, h17, h18, h19, h20, h21, h22, h23, h24⟩, Lib.hid (HW.out.trans (kz.mono HW.out.size)), Lib.hid (fun _ => lz)⟩
              · rintro b a wy hb hd ⟨z107, z108, z109, z110, z111, z112, z113, z114, z115, z116, z117, z118, z119, z120, z121, z122, z123, z124, z125, z126, z127, z128, z129, z130, z131, rfl, HV, HW, HX⟩ K hK
                obtain ⟨h0, h1, h2, h3, h4, h5, h6, h7, h8, h9, h10, h11, h13, h14, h15, h16, h17, h18, h19, h20, h21, h22, h23, h24⟩ := HV.out
                simp [Region.binds] at hd
                obtain rfl := h10 (by simp [hd])
                clear hd
                go_simp
                exact hK _ _ ⟨_, _, _, _, _, _, _, _, _, _, _, _, _, _, _, _, _, _, _, _, _, _, _, _, _, rfl, Lib.hid ⟨h0, h1, h2, h3, h4, h5, h6, h7, h8, h9, h10, h11, fun _ => rfl, h14, h15, h16, h17, h18, h19, h20, h21, h22, h23, h24⟩, HW, HX⟩
              · rintro b a wy hb hd ⟨z107, z108, z109, z110, z111, z112, z113, z114, z115, z116, z117, z118, z119, z120, z121, z122, z123, z124, z125, z126, z127, z128, z129, z130, z131, rfl, HV, HW, HX⟩ K hK
                obtain ⟨h0, h1, h2, h3, h4, h5, h6, h7, h8, h9, h10, h11, h13, h14, h15, h16, h17, h18, h19, h20, h21, h22, h23, h24⟩ := HV.out
                simp [Region.binds] at hd
                obtain rfl := h10 (by simp [hd])
                have dd12 : b 12 = true := by simp [hd]
                obtain rfl := h13 (by simp [hd])
                clear hd
                have lv := HL5.out.still HW.out
                go_simp
                go_at_call 18
                refine (same_yes (HX.out dd12) lv (few_changed HP5.out.at'.ok)).mono ?_
                rintro e wz ⟨rfl, kz⟩
                try go_simp
                exact hK _ _ ⟨_, _, _, _, _, _, _, _, _, _, _, _, _, _, _, _, _, _, _, _, _, _, _, _, _, rfl, Lib.hid ⟨h0, h1, h2, h3, h4, h5, h6, h7, h8, h9, h10, h11, h13, fun _ => rfl, h15, h16, h17, h18, h19, h20, h21, h22, h23, h24⟩, Lib.hid (HW.out.trans (kz.mono HW.out.size)), Lib.hid (fun e => (HX.out e).still kz)⟩
              · rintro b a wy hb hd ⟨z107, z108, z109, z110, z111, z112, z113, z114, z115, z116, z117, z118, z119, z120, z121, z122, z123, z124, z125, z126, z127, z128, z129, z130, z131, rfl, HV, HW, HX⟩ K hK
                obtain ⟨h0, h1, h2, h3, h4, h5, h6, h7, h8, h9, h10, h11, h13, h14, h15, h16, h17, h18, h19, h20, h21, h22, h23, h24⟩ := HV.out
                simp [Region.binds] at hd
                obtain rfl := h10 (by simp [hd])
                obtain rfl := h14 (by simp [hd])
                clear hd
                go_simp
                exact hK _ _ ⟨_, _, _, _, _, _, _, _, _, _, _, _, _, _, _, _, _, _, _, _, _, _, _, _, _, rfl, Lib.hid ⟨h0, h1, h2, h3, h4, h5, h6, h7, h8, h9, h10, h11, h13, h14, fun _ => rfl, h16, h17, h18, h19, h20, h21, h22, h23, h24⟩, HW, HX⟩
              · rintro b a wy hb hd ⟨z107, z108, z109, z110, z111, z112, z113, z114, z115, z116, z117, z118, z119, z120, z121, z122, z123, z124, z125, z126, z127, z128, z129, z130, z131, rfl, HV, HW, HX⟩ K hK
                obtain ⟨h0, h1, h2, h3, h4, h5, h6, h7, h8, h9, h10, h11, h13, h14, h15, h16, h17, h18, h19, h20, h21, h22, h23, h24⟩ := HV.out
                simp [Region.binds] at hd
                obtain rfl := h10 (by simp [hd])
                obtain rfl := h15 (by simp [hd])
                clear hd
                go_simp
                exact hK _ _ ⟨_, _, _, _, _, _, _, _, _, _, _, _, _, _, _, _, _, _, _, _, _, _, _, _, _, rfl, Lib.hid ⟨h0, h1, h2, h3, h4, h5, h6, h7, h8, h9, h10, h11, h13, h14, h15, fun _ => rfl, h17, h18, h19, h20, h21, h22, h23, h24⟩, HW, HX⟩
              · rintro b a wy hb hd ⟨z107, z108, z109, z110, z111, z112, z113, z114, z115, z116, z117, z118, z119, z120, z121, z122, z123, z124, z125, z126, z127, z128, z129, z130, z131, rfl, HV, HW, HX⟩ K hK
                obtain ⟨h0, h1, h2, h3, h4, h5, h6, h7, h8, h9, h10, h11, h13, h14, h15, h16, h17, h18, h19, h20, h21, h22, h23, h24⟩ := HV.out
                simp [Region.binds] at hd
                obtain rfl := h16 (by simp [hd])
                clear hd
                go_simp
                exact hK _ _ ⟨_, _, _, _, _, _, _, _, _, _, _, _, _, _, _, _, _, _, _, _, _, _, _, _, _, rfl, Lib.hid ⟨h0, h1, h2, h3, h4, h5, h6, h7, h8, h9, h10, h11, h13, h14, h15, h16, fun _ => rfl, h18, h19, h20, h21, h22, h23, h24⟩, HW, HX⟩
              · rintro b a wy hb hd ⟨z107, z108, z109, z110, z111, z112, z113, z114, z115, z116, z117, z118, z119, z120, z121, z122, z123, z124, z125, z126, z127, z128, z129, z130, z131, rfl, HV, HW, HX⟩ K hK
                obtain ⟨h0, h1, h2, h3, h4, h5, h6, h7, h8, h9, h10, h11, h13, h14, h15, h16, h17, h18, h19, h20, h21, h22, h23, h24⟩ := HV.out
                simp [Region.binds] at hd
                obtain rfl := h17 (by simp [hd])
                clear hd
                go_simp
                exact hK _ _ ⟨_, _, _, _, _, _, _, _, _, _, _, _, _, _, _, _, _, _, _, _, _, _, _, _, _, rfl, Lib.hid ⟨h0, h1, h2, h3, h4, h5, h6, h7, h8, h9, h10, h11, h13, h14, h15, h16, h17, fun _ => rfl, h19, h20, h21, h22, h23, h24⟩, HW, HX⟩
              · rintro b a wy hb hd ⟨z107, z108, z109, z110, z111, z112, z113, z114, z115, z116, z117, z118, z119, z120, z121, z122, z123, z124, z125, z126, z127, z128, z129, z130, z131, rfl, HV, HW, HX⟩ K hK
                obtain ⟨h0, h1, h2, h3, h4, h5, h6, h7, h8, h9, h10, h11, h13, h14, h15, h16, h17, h18, h19, h20, h21, h22, h23, h24⟩ := HV.out
                simp [Region.binds] at hd
                obtain rfl := h17 (by simp [hd])
                obtain rfl := h18 (by simp [hd])
                clear hd
                have HPw := Lib.hid (HP5.out.below HW.out)
                go_simp
                go_at_call 12
                refine (blocks_eq HPw.out.at' HPw.out.hn).mono ?_
                rintro e wz ⟨rfl, rfl⟩
                try go_simp
                exact hK _ _ ⟨_, _, _, _, _, _, _, _, _, _, _, _, _, _, _, _, _, _, _, _, _, _, _, _, _, rfl, Lib.hid ⟨h0, h1, h2, h3, h4, h5, h6, h7, h8, h9, h10, h11, h13, h14, h15, h16, h17, h18, fun _ => rfl, h20, h21, h22, h23, h24⟩, HW, HX⟩
              · rintro b a wy hb hd ⟨z107, z108, z109, z110, z111, z112, z113, z114, z115, z116, z117, z118, z119, z120, z121, z122, z123, z124, z125, z126, z127, z128, z129, z130, z131, rfl, HV, HW, HX⟩ K hK
                obtain ⟨h0, h1, h2, h3, h4, h5, h6, h7, h8, h9, h10, h11, h13, h14, h15, h16, h17, h18, h19, h20, h21, h22, h23, h24⟩ := HV.out
                simp [Region.binds] at hd
                obtain rfl := h17 (by simp [hd])
                clear hd
                go_simp
                exact hK _ _ ⟨_, _, _, _, _, _, _, _, _, _, _, _, _, _, _, _, _, _, _, _, _, _, _, _, _, rfl, Lib.hid ⟨h0, h1, h2, h3, h4, h5, h6, h7, h8, h9, h10, h11, h13, h14, h15, h16, h17, h18, h19, fun _ => rfl, h21, h22, h23, h24⟩, HW, HX⟩
              · rintro b a wy hb hd ⟨z107, z108, z109, z110, z111, z112, z113, z114, z115, z116, z117, z118, z119, z120, z121, z122, z123, z124, z125, z126, z127, z128, z129, z130, z131, rfl, HV, HW, HX⟩ K hK
                obtain ⟨h0, h1, h2, h3, h4, h5, h6, h7, h8, h9, h10, h11, h13, h14, h15, h16, h17, h18, h19, h20, h21, h22, h23, h24⟩ := HV.out
                simp [Region.binds] at hd
                obtain rfl := h17 (by simp [hd])
                obtain rfl := h20 (by simp [hd])
                clear hd
                have hg0 := (HP5.out.row.below HP5.out.row.lt HW.out).cellAt (i := 0) rfl
                go_simp
                exact hK _ _ ⟨_, _, _, _, _, _, _, _, _, _, _, _, _, _, _, _, _, _, _, _, _, _, _, _, _, rfl, Lib.hid ⟨h0, h1, h2, h3, h4, h5, h6, h7, h8, h9, h10, h11, h13, h14, h15, h16, h17, h18, h19, h20, fun _ => rfl, h22, h23, h24⟩, HW, HX⟩
              · rintro b a wy hb hd ⟨z107, z108, z109, z110, z111, z112, z113, z114, z115, z116, z117, z118, z119, z120, z121, z122, z123, z124, z125, z126, z127, z128, z129, z130, z131, rfl, HV, HW, HX⟩ K hK
                obtain ⟨h0, h1, h2, h3, h4, h5, h6, h7, h8, h9, h10, h11, h13, h14, h15, h16, h17, h18, h19, h20, h21, h22, h23, h24⟩ := HV.out
                simp [Region.binds] at hd
                obtain rfl := h17 (by simp [hd])
                obtain rfl := h21 (by simp [hd])
                clear hd
                go_simp
                exact hK _ _ ⟨_, _, _, _, _, _, _, _, _, _, _, _, _, _, _, _, _, _, _, _, _, _, _, _, _, rfl, Lib.hid ⟨h0, h1, h2, h3, h4, h5, h6, h7, h8, h9, h10, h11, h13, h14, h15, h16, h17, h18, h19, h20, h21, fun _ => rfl, h23, h24⟩, HW, HX⟩
              · rintro b a wy hb hd ⟨z107, z108, z109, z110, z111, z112, z113, z114, z115, z116, z117, z118, z119, z120, z121, z122, z123, z124, z125, z126, z127, z128, z129, z130, z131, rfl, HV, HW, HX⟩ K hK
                obtain ⟨h0, h1, h2, h3, h4, h5, h6, h7, h8, h9, h10, h11, h13, h14, h15, h16, h17, h18, h19, h20, h21, h22, h23, h24⟩ := HV.out
                simp [Region.binds] at hd
                obtain rfl := h17 (by simp [hd])
                obtain rfl := h19 (by simp [hd])
                obtain rfl := h22 (by simp [hd])
                clear hd
                go_simp
                exact hK _ _ ⟨_, _, _, _, _, _, _, _, _, _, _, _, _, _, _, _, _, _, _, _, _, _, _, _, _, rfl, Lib.hid ⟨h0, h1, h2, h3, h4, h5, h6, h7, h8, h9, h10, h11, h13, h14, h15, h16, h17, h18, h19, h20, h21, h22, fun _ => rfl, h24⟩, HW, HX⟩
              · rintro b a wy hb hd ⟨z107, z108, z109, z110, z111, z112, z113, z114, z115, z116, z117, z118, z119, z120, z121, z122, z123, z124, z125, z126, z127, z128, z129, z130, z131, rfl, HV, HW, HX⟩ K hK
                obtain ⟨h0, h1, h2, h3, h4, h5, h6, h7, h8, h9, h10, h11, h13, h14, h15, h16, h17, h18, h19, h20, h21, h22, h23, h24⟩ := HV.out
                simp [Region.binds] at hd
                obtain rfl := h17 (by simp [hd])
                obtain rfl := h23 (by simp [hd])
                clear hd
                go_simp
                exact hK _ _ ⟨_, _, _, _, _, _, _, _, _, _, _, _, _, _, _, _, _, _, _, _, _, _, _, _, _, rfl, Lib.hid ⟨h0, h1, h2, h3, h4, h5, h6, h7, h8, h9, h10, h11, h13, h14, h15, h16, h17, h18, h19, h20, h21, h22, h23, fun _ => rfl⟩, HW, HX⟩
            case doneT27 =>
              rintro b a wy hb ⟨z107, z108, z109, z110, z111, z112, z113, z114, z115, z116, z117, z118, z119, z120, z121, z122, z123, z124, z125, z126, z127, z128, z129, z130, z131, rfl, HV, HW, HX⟩
              obtain ⟨h0, h1, h2, h3, h4, h5, h6, h7, h8, h9, h10, h11, h13, h14, h15, h16, h17, h18, h19, h20, h21, h22, h23, h24⟩ := HV.out
              obtain rfl := h0 (hb 0)
              obtain rfl := h1 (hb 1)
              obtain rfl := h2 (hb 2)
              obtain rfl := h3 (hb 3)
              obtain rfl := h4 (hb 4)
              obtain rfl := h5 (hb 5)
              obtain rfl := h6 (hb 6)
              obtain rfl := h7 (hb 7)
              obtain rfl := h8 (hb 8)
              obtain rfl := h9 (hb 9)
              obtain rfl := h10 (hb 10)
              obtain rfl := h11 (hb 11)
              obtain rfl := h13 (hb 13)
              obtain rfl := h14 (hb 14)
              obtain rfl := h15 (hb 15)
              obtain rfl := h16 (hb 16)
              obtain rfl := h17 (hb 17)
              obtain rfl := h18 (hb 18)
              obtain rfl := h19 (hb 19)
              obtain rfl := h20 (hb 20)
              obtain rfl := h21 (hb 21)
              obtain rfl := h22 (hb 22)
              obtain rfl := h23 (hb 23)
              obtain rfl := h24 (hb 24)
              clear HV h0 h1 h2 h3 h4 h5 h6 h7 h8 h9 h10 h11 h13 h14 h15 h16 h17 h18 h19 h20 h21 h22 h23 h24
              go_wp2_with fail
              go_meet
              exact ⟨rfl, HW⟩
          case rest =>
            obtain ⟨rfl, HW⟩ := hcut
            have HP6 := Lib.hid (HP5.out.below HW.out)
            have HB6 := Lib.hid (HB5.out.trans (HW.out.mono HB5.out.size))
            have HR6 := Lib.hid (HR5.out.below HR5.out.lt HW.out)
            clear HW HP5 HB5 HR5 HL5
            obtain ⟨w6, hw6⟩ : ∃ x, x = wc := ⟨_, rfl⟩
            subst hw6
            have d1 := HR6.out.cellAt (i := 1) rfl
            have g0 := HP6.out.row.cellAt (i := 0) rfl
            have g1 := HP6.out.row.cellAt (i := 1) rfl
            have hni : (n : Int) ≤ 4096 := by omega
            by_cases hin : s2.isIn x.b
            · have hb1 := hin.1
              have hb2 := hin.2
              rw [HP6.out.hn] at hb2
              obtain ⟨i, hi⟩ : ∃ i : Nat, x.b = (i : Int) := ⟨x.b.toNat, by omega⟩
              rw [hi] at d1 hb1 hb2
              clear hin hi
              have hin : i < s2.n := by rw [HP6.out.hn]; omega
              have cn := HP6.out.rat.cnt hin
              have cw := HP6.out.rat.was hin
              have hu1 := u16_lt (s2.cnt i)
              have hu2 := u16_lt (s2.was i)
              cases hf : s2.free i
              · as_aux_lemma =>
                have z3 : ¬ (((s2.cnt i).toNat : Int) + ((s2.was i).toNat : Int) = 0) := fun e => by
                  have e1 : s2.cnt i = 0 := UInt16.toNat_inj.1 (by show _ = 0; omega)
                  have e2 : s2.was i = 0 := UInt16.toNat_inj.1 (by show _ = 0; omega)
                  unfold St.free at hf
                  rw [e1, e2] at hf
                  cases hf
                obtain ⟨C1, hC1⟩ : ∃ C1 : Int, ((s2.cnt i).toNat : Int) = C1 := ⟨_, rfl⟩
                obtain ⟨C2, hC2⟩ : ∃ C2 : Int, ((s2.was i).toNat : Int) = C2 := ⟨_, rfl⟩
                have k1 : (0 : Int) ≤ C1 := by omega
                have k2 : C1 ≤ 65535 := by omega
                have k3 : (0 : Int) ≤ C2 := by omega
                have k4 : C2 ≤ 65535 := by omega
                rw [hC1] at cn z3
                rw [hC2] at cw z3
                have HC1 := Lib.hid hC1
                obtain ⟨C3, hC3⟩ : ∃ C3 : Int, C1 + C2 = C3 := ⟨_, rfl⟩
                have hwr : IntKind.i64.wrap (C1 + C2) = C3 := by rw [IntKind.wrap_i64]; omega
                have z4 : (C3 == 0) = false := by rw [beq_eq_false_iff_ne]; omega
                clear hC1 hC2 hu1 hu2 hC3 z3 k1 k2 k3 k4
                go_upto_region 30 with (fail)
                go_big_quiet (first | (go_at_call 13; exact Calls.quiet_of_same (calls_flip (get_eq (HP6.out.at'.drewN _) i hin C1 HC1.out))) | (go_at_call 14; exact Calls.quiet_of_same (calls_flip (free_eq (HP6.out.at'.drewN _) i hin false hf))))
                have HS7 := Lib.hid (show Still w6 (w6.drewN nq) from ⟨rfl, rfl, rfl, rfl⟩)
                go_wp2_with fail
                go_roundw
                case rel => exact ⟨k + 1, by omega, by go_num, Lib.hid ⟨_, _, _, _, _, HP6.out.still HS7.out⟩, Lib.hid (HB6.out.trans (HS7.out.below _))⟩
                case measure => simp [Go.RowKit.intOf]; omega
              · as_aux_lemma =>
                have z1 : ((s2.cnt i).toNat : Int) = 0 := cnt_of_free hf
                have z2 : ((s2.was i).toNat : Int) = 0 := by
                  unfold St.free at hf
                  have h2 := (Bool.and_eq_true _ _ ▸ hf).2
                  have e2 : s2.was i = 0 := (by simpa using h2)
                  rw [e2]
                  rfl
                rw [z1] at cn
                rw [z2] at cw
                go_upto_region 30 with (fail)
                go_big_quiet (first | (go_at_call 13; exact Calls.quiet_of_same (calls_flip (get_eq (HP6.out.at'.drewN _) i hin 0 z1))) | (go_at_call 14; exact Calls.quiet_of_same (calls_flip (free_eq (HP6.out.at'.drewN _) i hin true hf))))
                have HS7 := Lib.hid (show Still w6 (w6.drewN nq) from ⟨rfl, rfl, rfl, rfl⟩)
                go_wp2_with fail
                go_roundw
                case rel => exact ⟨k + 1, by omega, by go_num, Lib.hid ⟨_, _, _, _, _, HP6.out.still HS7.out⟩, Lib.hid (HB6.out.trans (HS7.out.below _))⟩
                case measure => simp [Go.RowKit.intOf]; omega
            · as_aux_lemma =>
              have hout : x.b < 0 ∨ (s2.n : Int) ≤ x.b := by unfold St.isIn at hin; omega
              have hout2 : x.b < 0 ∨ (0 ≤ x.b ∧ (n : Int) ≤ x.b) := by have := HP6.out.hn; omega
              clear hin
              rcases hout2 with ho1 | ⟨ho1, ho2⟩
              all_goals
                try (have hdc : decide (x.b < (n : Int)) = false := decide_eq_false (by omega))
                go_upto_region 30 with (fail)
                go_big_quiet (first | (go_at_call 13; exact Calls.quiet_of_same (calls_flip (get_no (HP6.out.at'.drewN _) x.b hout))) | (go_at_call 14; exact Calls.quiet_of_same (calls_flip (free_no (HP6.out.at'.drewN _) x.b hout))))
                have HS7 := Lib.hid (show Still w6 (w6.drewN nq) from ⟨rfl, rfl, rfl, rfl⟩)
                go_wp2_with fail
                go_roundw
                case rel => exact ⟨k + 1, by omega, by go_num, Lib.hid ⟨_, _, _, _, _, HP6.out.still HS7.out⟩, Lib.hid (HB6.out.trans (HS7.out.below _))⟩
                case measure => simp [Go.RowKit.intOf]; omega
      · obtain rfl : k = m := by omega
        go_wp2_with fail
        refine (awake_any _).mono ?_
        rintro e w1 ⟨rfl, bz⟩
        have HB1 := Lib.hid (HB.out.trans (bz.mono HB.out.size))
        clear bz
        go_wp2_with fail
        go_ret
        exact ⟨rfl, HB1.out⟩
end Go.Proofs.Ytigmgaedpdeleaa.Tl
