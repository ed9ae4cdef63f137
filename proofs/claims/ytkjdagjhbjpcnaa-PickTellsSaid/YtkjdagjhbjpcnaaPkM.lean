/- PickTells's walk. (Written by bin/gen_pktells.py.) -/
import Derived.Test.YtkjdagjhbjpcnaaPkO
import Derived.Deep.CutBlock
import Derived.Lib.MinMax
namespace Go.Proofs.Ytkjdagjhbjpcnaa.Pk
open Go.RowKit Go.Proofs.Ytkjdagjhbjpcnaa.Oct Go.Proofs.Ytkjdagjhbjpcnaa.Mv Go.Proofs.Ytkjdagjhbjpcnaa.Tl Go.Maps
set_option linter.unusedVariables false

/-- Both, whichever they are. -/
def Side (w : World) (p ta cb mb c n x : Nat) : Prop := ∃ q b1 c1 b2 c2, PBoth w p ta cb mb c n x q b1 c1 b2 c2
set_option maxRecDepth 100000 in
set_option maxHeartbeats 8000000 in
theorem tells_walk (a0 f0 : Int) (A : Option Addr) (len cap : Nat) (l : List Opr) (w : World) (h0 : (Lit.int .u8 a0).wf = true) (h1 : (Lit.int .i64 f0).wf = true) (ho : OpsIn w A len cap l) : Calls Try.prog 3 #[.int .u8 a0, .int .i64 f0, .slice A len cap] w fun e w' => e = .returned (.bool true) ∧ Below w.heap.size w w' := by
  have hz := zero_rpick
  obtain ⟨x0, rfl⟩ := u8_of h0
  clear h0
  have hx0 := u8_lt x0
  obtain ⟨qm, hq⟩ : ∃ qm : Nat, qm = x0.toNat % 40 := ⟨_, rfl⟩
  have hmi : (x0.toNat : Int) % 40 = (qm : Int) := by omega
  obtain ⟨n, hn⟩ : ∃ n : Nat, n = 1 + qm := ⟨_, rfl⟩
  have e1 : (1 : Int) + (qm : Int) = (n : Int) := by omega
  have h1n : 1 ≤ n := by omega
  have hn2 : n ≤ 40 := by omega
  have hq40 : qm < 40 := by omega
  obtain ⟨m, hm⟩ : ∃ m : Nat, m = min len 100 := ⟨_, rfl⟩
  have hmin : min (len : Int) 100 = (m : Int) := by omega
  have hml : m ≤ len := by omega
  have hm100 : m ≤ 100 := by omega
  have hle := ho.le
  have hcap := ho.cap
  unfold maxLen at hcap
  have HO := Lib.hid ho
  clear hq hn hm ho h1
  go_enter Try.func3, Try.ntmps3
  go_wp2_with fail
  refine (new_yes n (by omega) (by omega) w).mono ?_
  rintro e w0 ⟨ta, cb, mb, rfl, hf⟩
  have HA0 := Lib.hid hf.at'
  have HB0 := Lib.hid hf.below
  have HC := Lib.hid hf.hc
  have HM := Lib.hid hf.hm
  clear hf
  by_cases hbad : f0 < 0 ∨ (n : Int) < f0
  · as_aux_lemma =>
    have HBD := Lib.hid hbad
    clear hbad
    go_wp2_with fail
    refine (pnew_bad HA0.out f0 (by rw [n_new]; exact HBD.out)).mono ?_
    rintro e w' ⟨rfl, rfl⟩
    go_wp2_with fail
    refine (rnew_yes n (by omega) (by omega) w0).mono ?_
    rintro e w1 ⟨i1, j1, i2, j2, rfl, hr, bz⟩
    unfold rval
    have HR1 := Lib.hid hr
    have HB1 := Lib.hid (HB0.out.trans (bz.mono HB0.out.size))
    clear hr bz HA0
    go_upto_region 5 with (fail)
    have B2 := box_below w1 (.cells #[.slice (some ⟨i1, 0, none⟩) n j1, .slice (some ⟨i2, 0, none⟩) n j2] 32)
    have HR2 := Lib.hid (HR1.out.below B2)
    have HB2 := Lib.hid (HB1.out.trans (B2.mono HB1.out.size))
    have HW2 := Lib.hid (alloc_rowV w1 32 [.slice (some ⟨i1, 0, none⟩) n j1, .slice (some ⟨i2, 0, none⟩) n j2])
    change Hid (RowV (w1.alloc (.cells #[.slice (some ⟨i1, 0, none⟩) n j1, .slice (some ⟨i2, 0, none⟩) n j2] 32)) _ _ _) at HW2
    clear B2 HR1 HB1
    generalize w1.alloc (.cells #[.slice (some ⟨i1, 0, none⟩) n j1, .slice (some ⟨i2, 0, none⟩) n j2] 32) = w2 at *
    have HN := Lib.hid (show Calls Try.prog 12 #[.agg #[.slice (some ⟨i1, 0, none⟩) n j1, .slice (some ⟨i2, 0, none⟩) n j2], .int .i64 f0] w2 fun e w' => e = .returned (.tuple #[.agg #[.slice none 0 0, .slice none 0 0, .int .i64 0, .int .i64 0, .int .i64 0], .int .i64 2]) ∧ Below w2.heap.size w2 w' by
      have := rpnew_bad HR2.out f0 (by rw [n_new]; exact HBD.out)
      rw [n_new] at this
      exact this)
    have d0 := HW2.out.cellAt (i := 0) rfl
    have d1 := HW2.out.cellAt (i := 1) rfl
    go_wp2_with fail
    refine HN.out.mono ?_
    rintro e w3 ⟨rfl, bz⟩
    have B4 := box_below w3 (.cells #[.slice none 0 0, .slice none 0 0, .int .i64 0, .int .i64 0, .int .i64 0] 36)
    have HB4 := Lib.hid ((HB2.out.trans (bz.mono HB2.out.size)).trans (B4.mono (HB2.out.trans (bz.mono HB2.out.size)).size))
    clear B4 bz d0 d1
    go_upto_region 6 with (fail)
    generalize w3.alloc (.cells #[.slice none 0 0, .slice none 0 0, .int .i64 0, .int .i64 0, .int .i64 0] 36) = w4 at *
    have HNY := Lib.hid (show PNay w4 (.pointer none) from .inl rfl)
    go_wp2_with fail
    refine (room_nay _ _ HNY.out).mono ?_
    rintro e w' ⟨rfl, rfl⟩
    go_wp2_with fail
    refine (asked_nay _ _ HNY.out).mono ?_
    rintro e w' ⟨rfl, rfl⟩
    go_wp2_with fail
    refine (next_nay _ _ HNY.out).mono ?_
    rintro e w' ⟨rfl, rfl⟩
    go_wp2_with fail
    refine (awake_any _).mono ?_
    rintro e w5 ⟨rfl, bz⟩
    have HB5 := Lib.hid (HB4.out.trans (bz.mono HB4.out.size))
    clear bz
    go_wp2_with fail
    go_ret
    exact ⟨rfl, HB5.out⟩
  · obtain ⟨f, rfl⟩ : ∃ f : Nat, f0 = (f : Int) := ⟨f0.toNat, by omega⟩
    have hfn : f ≤ n := by omega
    clear hbad
    go_wp2_with fail
    refine (pnew_yes HA0.out f (by rw [n_new]; exact hfn)).mono ?_
    rintro e w1 ⟨p, rfl, hf⟩
    have HP1 := Lib.hid hf.at'
    have HB1 := Lib.hid (HB0.out.trans (hf.below.mono HB0.out.size))
    have HQ := Lib.hid (Nat.le_trans HB0.out.size hf.hp)
    clear hf HA0 HB0
    go_wp2_with fail
    refine (rnew_yes n (by omega) (by omega) w1).mono ?_
    rintro e w2 ⟨i1, j1, i2, j2, rfl, hr, bz⟩
    unfold rval
    have HP2 := Lib.hid (HP1.out.kept bz)
    have HR2 := Lib.hid hr
    have HB2 := Lib.hid (HB1.out.trans (bz.mono HB1.out.size))
    clear hr bz HP1 HB1
    go_upto_region 5 with (fail)
    have B3 := box_below w2 (.cells #[.slice (some ⟨i1, 0, none⟩) n j1, .slice (some ⟨i2, 0, none⟩) n j2] 32)
    have HP3 := Lib.hid (HP2.out.kept B3)
    have HR3 := Lib.hid (HR2.out.below B3)
    have HB3 := Lib.hid (HB2.out.trans (B3.mono HB2.out.size))
    have HW3 := Lib.hid (alloc_rowV w2 32 [.slice (some ⟨i1, 0, none⟩) n j1, .slice (some ⟨i2, 0, none⟩) n j2])
    change Hid (RowV (w2.alloc (.cells #[.slice (some ⟨i1, 0, none⟩) n j1, .slice (some ⟨i2, 0, none⟩) n j2] 32)) _ _ _) at HW3
    clear B3 HP2 HR2 HB2
    generalize w2.alloc (.cells #[.slice (some ⟨i1, 0, none⟩) n j1, .slice (some ⟨i2, 0, none⟩) n j2] 32) = w3 at *
    have HN := Lib.hid (show Calls Try.prog 12 #[.agg #[.slice (some ⟨i1, 0, none⟩) n j1, .slice (some ⟨i2, 0, none⟩) n j2], .int .i64 (f : Int)] w3 fun e w' => e = .returned (.tuple #[.agg #[.slice (some ⟨i1, 0, none⟩) n j1, .slice (some ⟨i2, 0, none⟩) n j2, .int .i64 (f : Int), .int .i64 (f : Int), .int .i64 0], .int .i64 0]) ∧ Below w3.heap.size w3 w' by
      have := rpnew_yes HR3.out f (by rw [n_new]; exact hfn)
      unfold rpv at this
      rw [show (Q.mk (St.new n) f f 0).s.n = n from n_new n] at this
      exact this)
    have d0 := HW3.out.cellAt (i := 0) rfl
    have d1 := HW3.out.cellAt (i := 1) rfl
    go_wp2_with fail
    refine HN.out.mono ?_
    rintro e w4 ⟨rfl, bz⟩
    have HP4 := Lib.hid (HP3.out.kept bz)
    have HR4 := Lib.hid (HR3.out.below bz)
    have HB4 := Lib.hid (HB3.out.trans (bz.mono HB3.out.size))
    clear bz d0 d1 HP3 HR3 HB3 HW3 HN
    go_upto_region 6 with (fail)
    have B5 := box_below w4 (.cells #[.slice (some ⟨i1, 0, none⟩) n j1, .slice (some ⟨i2, 0, none⟩) n j2, .int .i64 (f : Int), .int .i64 (f : Int), .int .i64 0] 36)
    have R5 := alloc_rowV w4 36 (rrow n ⟨St.new n, f, f, 0⟩ i1 j1 i2 j2)
    obtain ⟨x, hx⟩ : ∃ x, x = w4.heap.size := ⟨_, rfl⟩
    have HS5 := Lib.hid (show Side (w4.alloc (.cells #[.slice (some ⟨i1, 0, none⟩) n j1, .slice (some ⟨i2, 0, none⟩) n j2, .int .i64 (f : Int), .int .i64 (f : Int), .int .i64 0] 36)) p ta cb mb n n x from ⟨_, _, _, _, _, HP4.out.kept B5, HR4.out.below B5, by rw [hx]; exact R5, n_new n⟩)
    have HB5 := Lib.hid (HB4.out.trans (B5.mono HB4.out.size))
    have HXW := Lib.hid (show w.heap.size ≤ x by rw [hx]; exact HB4.out.size)
    rw [← hx]
    clear B5 R5 hx HP4 HR4 HB4
    generalize w4.alloc (.cells #[.slice (some ⟨i1, 0, none⟩) n j1, .slice (some ⟨i2, 0, none⟩) n j2, .int .i64 (f : Int), .int .i64 (f : Int), .int .i64 0] 36) = w5 at *
    go_wp2_with fail
    go_loopw [78] (fun c wr => ∃ k : Nat, k ≤ m ∧ c = .int .i64 (k : Int) ∧ Hid (Side wr p ta cb mb n n x) ∧ Hid (Below w.heap.size w wr)) (fun c _ => m - (Go.RowKit.intOf c).toNat)
    case atStart => exact ⟨0, by omega, rfl, HS5, HB5⟩
    case round =>
      obtain ⟨k, hk, rfl, HS, HB⟩ := hrel
      by_cases hlt : k < m
      · have hki : (k : Int) < (m : Int) := by omega
        have hge : (0 : Int) ≤ (k : Int) := by omega
        obtain ⟨ob, o, y, rfl, hyk, hlies, hwf⟩ := HO.out.at (k := k) (by omega)
        have hl2 := hlies.below HB.out
        have d0 := hl2.c0
        have d1 := hl2.c1
        clear hlies hl2 hwf hyk
        go_upto_block 2 with (fail)
        have B1 := box_below wr (.cells #[.int .u8 (y.what.toNat : Int), .int .i64 y.b] 42)
        have R1 := alloc_rowV wr 42 [.int .u8 (y.what.toNat : Int), .int .i64 y.b]
        obtain ⟨q, b1, c1, b2, c2, hbo⟩ := HS.out
        have HP1 := Lib.hid (hbo.below B1)
        have HB1 := Lib.hid (HB.out.trans (B1.mono HB.out.size))
        have HRN := Lib.hid (show wr.heap.size ≠ cb ∧ wr.heap.size ≠ mb ∧ wr.heap.size ≠ p from by have := hbo.pat.tally.lts; have := hbo.pat.row.lt; omega)
        clear d0 d1 B1 hbo HS
        generalize wr.alloc (.cells #[.int .u8 (y.what.toNat : Int), .int .i64 y.b] 42) = w6 at *
        obtain ⟨ro, hro⟩ : ∃ ro, ro = wr.heap.size := ⟨_, rfl⟩
        rw [← hro] at R1 HRN ⊢
        have HR1 := Lib.hid R1
        clear hro R1
        go_cut [18, 19, 84] (fun s18 s19 _ wx => ∃ r : Int, s18 = .int .i64 r ∧ s19 = .int .i64 r ∧ Hid (Side wx p ta cb mb n n x) ∧ Hid (Below w.heap.size w wx))
        case first => as_aux_lemma =>
          have o0 := HR1.out.cellAt (i := 0) rfl
          have o1 := HR1.out.cellAt (i := 1) rfl
          have hq7 := u8_lt y.what
          rcases (show y.what.toNat % 7 = 0 ∨ y.what.toNat % 7 = 1 ∨ y.what.toNat % 7 = 2 ∨ y.what.toNat % 7 = 3 ∨ y.what.toNat % 7 = 4 ∨ y.what.toNat % 7 = 5 ∨ y.what.toNat % 7 = 6 by omega) with hm7 | hm7 | hm7 | hm7 | hm7 | hm7 | hm7
          · have hmI : (y.what.toNat : Int) % 7 = 0 := by omega
            clear hm7
            go_wp2_with fail
            refine (take_both HP1.out).mono ?_
            rintro e w7 ⟨b, r, q', rfl, az, hqn, bz, hrt⟩
            obtain ⟨hra, hrw⟩ := HP1.out.turn bz
            have HA7 := Lib.hid az
            have HR7 := Lib.hid hra
            have HW7 := Lib.hid hrw
            have HB7 := Lib.hid (HB1.out.trans (bz.below HC.out HM.out HQ.out HB1.out.size))
            have HRT := Lib.hid hrt
            have HN7 := Lib.hid hqn
            clear az hra hrw hqn bz hrt o0 o1 HP1 HB1
            have g0 := HW7.out.cellAt (i := 0) rfl
            have g1 := HW7.out.cellAt (i := 1) rfl
            have g2 := HW7.out.cellAt (i := 2) rfl
            have g3 := HW7.out.cellAt (i := 3) rfl
            have g4 := HW7.out.cellAt (i := 4) rfl
            go_wp2_with fail
            refine (HRT.out _ HR7.out).mono ?_
            rintro e w8 ⟨k1, l1, rfl, hr, bz⟩
            have HA8 := Lib.hid (HA7.out.kept bz)
            have HR8 := Lib.hid hr
            have HW8 := Lib.hid (HW7.out.below HW7.out.lt bz)
            have HB8 := Lib.hid (HB7.out.trans (bz.mono HB7.out.size))
            clear g0 g1 g2 g3 g4 hr bz HA7 HR7 HW7 HB7 HRT
            go_upto_region 20 with (fail)
            have B9 := box_below w8 (.cells #[.slice (some ⟨k1, 0, none⟩) n l1, .slice (some ⟨b2, 0, none⟩) n c2, .int .i64 (q'.first : Int), .int .i64 (q'.next : Int), .int .i64 (q'.asked : Int)] 36)
            have R9 := alloc_rowV w8 36 (rrow n q' k1 l1 b2 c2)
            have HA9 := Lib.hid (HA8.out.kept B9)
            have HR9 := Lib.hid (HR8.out.below B9)
            have HW9 := Lib.hid (HW8.out.below HW8.out.lt B9)
            have HB9 := Lib.hid (HB8.out.trans (B9.mono HB8.out.size))
            have HV9 := Lib.hid R9
            change Hid (RowV (w8.alloc (.cells #[.slice (some ⟨k1, 0, none⟩) n l1, .slice (some ⟨b2, 0, none⟩) n c2, .int .i64 (q'.first : Int), .int .i64 (q'.next : Int), .int .i64 (q'.asked : Int)] 36)) _ _ _) at HV9
            clear B9 R9 HA8 HR8 HW8 HB8
            generalize w8.alloc (.cells #[.slice (some ⟨k1, 0, none⟩) n l1, .slice (some ⟨b2, 0, none⟩) n c2, .int .i64 (q'.first : Int), .int .i64 (q'.next : Int), .int .i64 (q'.asked : Int)] 36) = w9 at *
            obtain ⟨rs, hrs⟩ : ∃ rs, rs = w8.heap.size := ⟨_, rfl⟩
            rw [← hrs] at HV9 ⊢
            clear hrs
            have n0 := HV9.out.cellAt (i := 0) rfl
            have n1 := HV9.out.cellAt (i := 1) rfl
            have n2 := HV9.out.cellAt (i := 2) rfl
            have n3 := HV9.out.cellAt (i := 3) rfl
            have n4 := HV9.out.cellAt (i := 4) rfl
            have g0 := HW9.out.cellAt (i := 0) rfl
            have g1 := HW9.out.cellAt (i := 1) rfl
            have g2 := HW9.out.cellAt (i := 2) rfl
            have g3 := HW9.out.cellAt (i := 3) rfl
            have g4 := HW9.out.cellAt (i := 4) rfl
            have f0 := HW9.out.free 0
            have f1 := HW9.out.free 1
            have f2 := HW9.out.free 2
            have f3 := HW9.out.free 3
            have f4 := HW9.out.free 4
            go_wp2_with fail
            go_meet
            exact ⟨r, rfl, rfl, Lib.hid ⟨_, _, _, _, _, PBoth.next5 HA9.out HR9.out HW9.out HN7.out⟩, Lib.hid ((((((HB9.out.setCell (p := ⟨x, 0, none⟩) HXW.out _).setCell (p := ⟨x, 1, none⟩) HXW.out _).setCell (p := ⟨x, 2, none⟩) HXW.out _).setCell (p := ⟨x, 3, none⟩) HXW.out _).setCell (p := ⟨x, 4, none⟩) HXW.out _))⟩
          · have hmI : (y.what.toNat : Int) % 7 = 1 := by omega
            clear hm7
            go_wp2_with fail
            refine (up_at HP1.out.pat.tally y.b).mono ?_
            rintro e w7 ⟨rfl, az, bz⟩
            obtain ⟨hra, hrw⟩ := HP1.out.turn2 bz
            have HSN := Lib.hid (show (q.s.up y.b).2.n = n by rw [n_up]; exact HP1.out.hn)
            have HA7 := Lib.hid (HP1.out.pat.turned az bz (by rw [n_up]))
            have HR7 := Lib.hid hra
            have HW7 := Lib.hid hrw
            have HB7 := Lib.hid (HB1.out.trans (bz.below HC.out HM.out HB1.out.size))
            have HO7 := Lib.hid (row_but HR1.out bz HRN.out.1 HRN.out.2.1)
            have HH := Lib.hid HP1.out.hn
            clear az hra hrw bz o0 o1 HP1 HB1
            have o1 := HO7.out.cellAt (i := 1) rfl
            have g0 := HW7.out.cellAt (i := 0) rfl
            have g1 := HW7.out.cellAt (i := 1) rfl
            go_wp2_with fail
            refine (radd_up' HR7.out HH.out y.b).mono ?_
            rintro e w8 ⟨k1, l1, rfl, hr, bz⟩
            have HA8 := Lib.hid (HA7.out.kept bz)
            have HR8 := Lib.hid hr
            have HW8 := Lib.hid (HW7.out.below HW7.out.lt bz)
            have HB8 := Lib.hid (HB7.out.trans (bz.mono HB7.out.size))
            clear g0 g1 o1 hr bz HA7 HR7 HW7 HB7 HO7
            have g0 := HW8.out.cellAt (i := 0) rfl
            have g1 := HW8.out.cellAt (i := 1) rfl
            have f0 := HW8.out.free 0
            have f1 := HW8.out.free 1
            go_wp2_with fail
            go_meet
            exact ⟨_, rfl, rfl, Lib.hid ⟨_, _, _, _, _, PBoth.next2 HA8.out HR8.out HW8.out HSN.out⟩, Lib.hid (((HB8.out.setCell (p := ⟨x, 0, none⟩) HXW.out _).setCell (p := ⟨x, 1, none⟩) HXW.out _))⟩
          · have hmI : (y.what.toNat : Int) % 7 = 2 := by omega
            clear hm7
            go_wp2_with fail
            refine (down_at HP1.out.pat.tally y.b).mono ?_
            rintro e w7 ⟨rfl, az, bz⟩
            obtain ⟨hra, hrw⟩ := HP1.out.turn2 bz
            have HSN := Lib.hid (show (q.s.down y.b).2.n = n by rw [n_down]; exact HP1.out.hn)
            have HA7 := Lib.hid (HP1.out.pat.turned az bz (by rw [n_down]))
            have HR7 := Lib.hid hra
            have HW7 := Lib.hid hrw
            have HB7 := Lib.hid (HB1.out.trans (bz.below HC.out HM.out HB1.out.size))
            have HO7 := Lib.hid (row_but HR1.out bz HRN.out.1 HRN.out.2.1)
            have HH := Lib.hid HP1.out.hn
            clear az hra hrw bz o0 o1 HP1 HB1
            have o1 := HO7.out.cellAt (i := 1) rfl
            have g0 := HW7.out.cellAt (i := 0) rfl
            have g1 := HW7.out.cellAt (i := 1) rfl
            go_wp2_with fail
            refine (radd_down' HR7.out HH.out y.b).mono ?_
            rintro e w8 ⟨k1, l1, rfl, hr, bz⟩
            have HA8 := Lib.hid (HA7.out.kept bz)
            have HR8 := Lib.hid hr
            have HW8 := Lib.hid (HW7.out.below HW7.out.lt bz)
            have HB8 := Lib.hid (HB7.out.trans (bz.mono HB7.out.size))
            clear g0 g1 o1 hr bz HA7 HR7 HW7 HB7 HO7
            have g0 := HW8.out.cellAt (i := 0) rfl
            have g1 := HW8.out.cellAt (i := 1) rfl
            have f0 := HW8.out.free 0
            have f1 := HW8.out.free 1
            go_wp2_with fail
            go_meet
            exact ⟨_, rfl, rfl, Lib.hid ⟨_, _, _, _, _, PBoth.next2 HA8.out HR8.out HW8.out HSN.out⟩, Lib.hid (((HB8.out.setCell (p := ⟨x, 0, none⟩) HXW.out _).setCell (p := ⟨x, 1, none⟩) HXW.out _))⟩
          · have hmI : (y.what.toNat : Int) % 7 = 3 := by omega
            clear hm7
            go_wp2_with fail
            refine (keep_at HP1.out.pat.tally).mono ?_
            rintro e w7 ⟨rfl, az, bz⟩
            obtain ⟨hra, hrw⟩ := HP1.out.turn2 bz
            have HSN := Lib.hid (show q.s.keep.n = n from (show q.s.keep.n = q.s.n from rfl).trans HP1.out.hn)
            have HA7 := Lib.hid (HP1.out.pat.turned az bz (show q.s.keep.n = q.s.n from rfl))
            have HR7 := Lib.hid hra
            have HW7 := Lib.hid hrw
            have HB7 := Lib.hid (HB1.out.trans (bz.below HC.out HM.out HB1.out.size))
            have HH := Lib.hid HP1.out.hn
            clear az hra hrw bz o0 o1 HP1 HB1
            dsimp only
            have g0 := HW7.out.cellAt (i := 0) rfl
            have g1 := HW7.out.cellAt (i := 1) rfl
            go_wp2_with fail
            refine (rkeep' HR7.out HH.out).mono ?_
            rintro e w8 ⟨rfl, hr, bz⟩
            have HA8 := Lib.hid (HA7.out.kept bz)
            have HR8 := Lib.hid hr
            have HW8 := Lib.hid (HW7.out.below HW7.out.lt bz)
            have HB8 := Lib.hid (HB7.out.trans (bz.mono HB7.out.size))
            clear g0 g1 hr bz HA7 HR7 HW7 HB7
            have g0 := HW8.out.cellAt (i := 0) rfl
            have g1 := HW8.out.cellAt (i := 1) rfl
            have f0 := HW8.out.free 0
            have f1 := HW8.out.free 1
            go_wp2_with fail
            go_meet
            exact ⟨_, rfl, rfl, Lib.hid ⟨_, _, _, _, _, PBoth.next2 HA8.out HR8.out HW8.out HSN.out⟩, Lib.hid (((HB8.out.setCell (p := ⟨x, 0, none⟩) HXW.out _).setCell (p := ⟨x, 1, none⟩) HXW.out _))⟩
          · have hmI : (y.what.toNat : Int) % 7 = 4 := by omega
            clear hm7
            go_wp2_with fail
            refine (back_at HP1.out.pat.tally).mono ?_
            rintro e w7 ⟨rfl, az, bz⟩
            obtain ⟨hra, hrw⟩ := HP1.out.turn2 bz
            have HSN := Lib.hid (show q.s.back.n = n from (show q.s.back.n = q.s.n from by have h1 := HP1.out.pat.tally.ok.len; exact h1).trans HP1.out.hn)
            have HA7 := Lib.hid (HP1.out.pat.turned az bz (show q.s.back.n = q.s.n from by have h1 := HP1.out.pat.tally.ok.len; exact h1))
            have HR7 := Lib.hid hra
            have HW7 := Lib.hid hrw
            have HB7 := Lib.hid (HB1.out.trans (bz.below HC.out HM.out HB1.out.size))
            have HH := Lib.hid HP1.out.hn
            clear az hra hrw bz o0 o1 HP1 HB1
            dsimp only
            have g0 := HW7.out.cellAt (i := 0) rfl
            have g1 := HW7.out.cellAt (i := 1) rfl
            go_wp2_with fail
            refine (rback' HR7.out HH.out).mono ?_
            rintro e w8 ⟨rfl, hr, bz⟩
            have HA8 := Lib.hid (HA7.out.kept bz)
            have HR8 := Lib.hid hr
            have HW8 := Lib.hid (HW7.out.below HW7.out.lt bz)
            have HB8 := Lib.hid (HB7.out.trans (bz.mono HB7.out.size))
            clear g0 g1 hr bz HA7 HR7 HW7 HB7
            have g0 := HW8.out.cellAt (i := 0) rfl
            have g1 := HW8.out.cellAt (i := 1) rfl
            have f0 := HW8.out.free 0
            have f1 := HW8.out.free 1
            go_wp2_with fail
            go_meet
            exact ⟨_, rfl, rfl, Lib.hid ⟨_, _, _, _, _, PBoth.next2 HA8.out HR8.out HW8.out HSN.out⟩, Lib.hid (((HB8.out.setCell (p := ⟨x, 0, none⟩) HXW.out _).setCell (p := ⟨x, 1, none⟩) HXW.out _))⟩
          · have hmI : (y.what.toNat : Int) % 7 = 5 := by omega
            clear hm7
            go_wp2_with fail
            refine (ask_at HP1.out.pat y.b).mono ?_
            rintro e w7 ⟨rfl, az, bz⟩
            obtain ⟨hra, hrw⟩ := HP1.out.turn bz
            have HSN := Lib.hid (show (q.ask y.b).2.s.n = n by rw [s_ask]; exact HP1.out.hn)
            have HA7 := Lib.hid az
            have HR7 := Lib.hid hra
            have HW7 := Lib.hid hrw
            have HB7 := Lib.hid (HB1.out.trans (bz.below HC.out HM.out HQ.out HB1.out.size))
            have HO7 := Lib.hid (HR1.out.block (bz.block _ HR1.out.lt HRN.out.1 HRN.out.2.1 HRN.out.2.2))
            have HH := Lib.hid HP1.out.hn
            have HOK := Lib.hid HP1.out.pat.ok
            clear az hra hrw bz o0 o1 HP1 HB1
            have o1 := HO7.out.cellAt (i := 1) rfl
            have g0 := HW7.out.cellAt (i := 0) rfl
            have g1 := HW7.out.cellAt (i := 1) rfl
            have g2 := HW7.out.cellAt (i := 2) rfl
            have g3 := HW7.out.cellAt (i := 3) rfl
            have g4 := HW7.out.cellAt (i := 4) rfl
            go_wp2_with fail
            refine (rask' HR7.out HOK.out HH.out y.b).mono ?_
            rintro e w8 ⟨rfl, bz⟩
            have HA8 := Lib.hid (HA7.out.kept bz)
            have HR8 := Lib.hid (show RAt w8 b1 c1 b2 c2 (q.ask y.b).2.s by rw [s_ask]; exact HR7.out.below bz)
            have HW8 := Lib.hid (HW7.out.below HW7.out.lt bz)
            have HB8 := Lib.hid (HB7.out.trans (bz.mono HB7.out.size))
            clear g0 g1 g2 g3 g4 o1 bz HA7 HR7 HW7 HB7 HO7
            have g0 := HW8.out.cellAt (i := 0) rfl
            have g1 := HW8.out.cellAt (i := 1) rfl
            have g2 := HW8.out.cellAt (i := 2) rfl
            have g3 := HW8.out.cellAt (i := 3) rfl
            have g4 := HW8.out.cellAt (i := 4) rfl
            have f0 := HW8.out.free 0
            have f1 := HW8.out.free 1
            have f2 := HW8.out.free 2
            have f3 := HW8.out.free 3
            have f4 := HW8.out.free 4
            go_wp2_with fail
            go_meet
            exact ⟨_, rfl, rfl, Lib.hid ⟨_, _, _, _, _, PBoth.next5 HA8.out HR8.out HW8.out HSN.out⟩, Lib.hid ((((((HB8.out.setCell (p := ⟨x, 0, none⟩) HXW.out _).setCell (p := ⟨x, 1, none⟩) HXW.out _).setCell (p := ⟨x, 2, none⟩) HXW.out _).setCell (p := ⟨x, 3, none⟩) HXW.out _).setCell (p := ⟨x, 4, none⟩) HXW.out _))⟩
          · have hmI : (y.what.toNat : Int) % 7 = 6 := by omega
            clear hm7
            go_wp2_with fail
            refine (done_at HP1.out.pat y.b).mono ?_
            rintro e w7 ⟨rfl, az, bz⟩
            obtain ⟨hra, hrw⟩ := HP1.out.turn bz
            have HSN := Lib.hid (show (q.done y.b).2.s.n = n by rw [s_done]; exact HP1.out.hn)
            have HA7 := Lib.hid az
            have HR7 := Lib.hid hra
            have HW7 := Lib.hid hrw
            have HB7 := Lib.hid (HB1.out.trans (bz.below HC.out HM.out HQ.out HB1.out.size))
            have HO7 := Lib.hid (HR1.out.block (bz.block _ HR1.out.lt HRN.out.1 HRN.out.2.1 HRN.out.2.2))
            have HH := Lib.hid HP1.out.hn
            have HOK := Lib.hid HP1.out.pat.ok
            clear az hra hrw bz o0 o1 HP1 HB1
            have o1 := HO7.out.cellAt (i := 1) rfl
            have g0 := HW7.out.cellAt (i := 0) rfl
            have g1 := HW7.out.cellAt (i := 1) rfl
            have g2 := HW7.out.cellAt (i := 2) rfl
            have g3 := HW7.out.cellAt (i := 3) rfl
            have g4 := HW7.out.cellAt (i := 4) rfl
            go_wp2_with fail
            refine (rdone' HR7.out HOK.out HH.out y.b).mono ?_
            rintro e w8 ⟨rfl, bz⟩
            have HA8 := Lib.hid (HA7.out.kept bz)
            have HR8 := Lib.hid (show RAt w8 b1 c1 b2 c2 (q.done y.b).2.s by rw [s_done]; exact HR7.out.below bz)
            have HW8 := Lib.hid (HW7.out.below HW7.out.lt bz)
            have HB8 := Lib.hid (HB7.out.trans (bz.mono HB7.out.size))
            clear g0 g1 g2 g3 g4 o1 bz HA7 HR7 HW7 HB7 HO7
            have g0 := HW8.out.cellAt (i := 0) rfl
            have g1 := HW8.out.cellAt (i := 1) rfl
            have g2 := HW8.out.cellAt (i := 2) rfl
            have g3 := HW8.out.cellAt (i := 3) rfl
            have g4 := HW8.out.cellAt (i := 4) rfl
            have f0 := HW8.out.free 0
            have f1 := HW8.out.free 1
            have f2 := HW8.out.free 2
            have f3 := HW8.out.free 3
            have f4 := HW8.out.free 4
            go_wp2_with fail
            go_meet
            exact ⟨_, rfl, rfl, Lib.hid ⟨_, _, _, _, _, PBoth.next5 HA8.out HR8.out HW8.out HSN.out⟩, Lib.hid ((((((HB8.out.setCell (p := ⟨x, 0, none⟩) HXW.out _).setCell (p := ⟨x, 1, none⟩) HXW.out _).setCell (p := ⟨x, 2, none⟩) HXW.out _).setCell (p := ⟨x, 3, none⟩) HXW.out _).setCell (p := ⟨x, 4, none⟩) HXW.out _))⟩
        case rest =>
          obtain ⟨r, rfl, rfl, HS2, HB2⟩ := hcut
          clear HP1 HB1 HR1
          obtain ⟨q2, k1, l1, k2, l2, hbo⟩ := HS2.out
          have HP := Lib.hid hbo
          clear hbo HS2
          obtain ⟨w9, hw9⟩ : ∃ x, x = wc := ⟨_, rfl⟩
          subst hw9
          go_upto_region 38 with (fail)
          go_cut [197] (fun s197 wx => s197 = .bool false ∧ Hid (Below w9.heap.size w9 wx))
          case first => as_aux_lemma =>
            refine Inv2.wp_region_inv (fun b a wy => ∃ z174 z175 z176 z177 z178 z179 z180 z181 z182 z183 z184 z185 z186 z187 z188 z189 z190 z191 z192 z193 z194 z195 z196 z197, a = ⟨(List.toArray (Value.int IntKind.u8 ↑x0.toNat :: Value.int IntKind.i64 ↑f :: Value.slice (some { block := ob, off := o }) len cap :: undef :: undef :: undef :: u6 :: Value.int IntKind.i64 ↑n :: Value.pointer (some { block := ta, off := 0 }) :: Value.int IntKind.i64 0 :: Value.pointer (some { block := p, off := 0 }) :: Value.int IntKind.i64 0 :: Value.pointer (some { block := w2.heap.size, off := 0 }) :: Value.int IntKind.i64 0 :: Value.pointer (some { block := x, off := 0 }) :: Value.int IntKind.i64 0 :: undef :: Value.pointer (some { block := ro, off := 0 }) :: Value.int IntKind.i64 r :: Value.int IntKind.i64 r :: u20 :: u21 :: u22 :: u23 :: u24 :: Value.int IntKind.u8 ↑x0.toNat :: Value.int IntKind.u8 ↑qm :: Value.int IntKind.i64 ↑qm :: Value.int IntKind.i64 ↑n :: Value.tuple #[Value.pointer (some { block := ta, off := 0 }), Value.int IntKind.i64 0] :: Value.int IntKind.i64 ↑n :: Value.tuple #[Value.pointer (some { block := ta, off := 0 }), Value.int IntKind.i64 0] :: Value.pointer (some { block := ta, off := 0 }) :: Value.int IntKind.i64 0 :: Value.tuple #[Value.pointer (some { block := p, off := 0 }), Value.int IntKind.i64 0] :: Value.pointer (some { block := ta, off := 0 }) :: Value.int IntKind.i64 ↑f :: Value.tuple #[Value.pointer (some { block := p, off := 0 }), Value.int IntKind.i64 0] :: Value.pointer (some { block := p, off := 0 }) :: Value.int IntKind.i64 0 :: Value.tuple #[Value.agg #[Value.slice (some { block := i1, off := 0 }) n j1, Value.slice (some { block := i2, off := 0 }) n j2], Value.int IntKind.i64 0] :: Value.int IntKind.i64 ↑n :: Value.tuple #[Value.agg #[Value.slice (some { block := i1, off := 0 }) n j1, Value.slice (some { block := i2, off := 0 }) n j2], Value.int IntKind.i64 0] :: Value.agg #[Value.slice (some { block := i1, off := 0 }) n j1, Value.slice (some { block := i2, off := 0 }) n j2] :: Value.int IntKind.i64 0 :: Value.tuple #[Value.agg #[Value.slice (some { block := i1, off := 0 }) n j1, Value.slice (some { block := i2, off := 0 }) n j2, Value.int IntKind.i64 ↑f, Value.int IntKind.i64 ↑f, Value.int IntKind.i64 0], Value.int IntKind.i64 0] :: Value.agg #[Value.slice (some { block := i1, off := 0 }) n j1, Value.slice (some { block := i2, off := 0 }) n j2] :: Value.int IntKind.i64 ↑f :: Value.tuple #[Value.agg #[Value.slice (some { block := i1, off := 0 }) n j1, Value.slice (some { block := i2, off := 0 }) n j2, Value.int IntKind.i64 ↑f, Value.int IntKind.i64 ↑f, Value.int IntKind.i64 0], Value.int IntKind.i64 0] :: Value.agg #[Value.slice (some { block := i1, off := 0 }) n j1, Value.slice (some { block := i2, off := 0 }) n j2, Value.int IntKind.i64 ↑f, Value.int IntKind.i64 ↑f, Value.int IntKind.i64 0] :: Value.int IntKind.i64 0 :: Value.int IntKind.i64 0 :: Value.bool false :: Value.bool false :: Value.int IntKind.i64 0 :: Value.int IntKind.i64 0 :: Value.bool false :: Value.bool false :: Value.int IntKind.i64 0 :: Value.bool false :: undef :: undef :: undef :: undef :: undef :: undef :: undef :: undef :: undef :: undef :: undef :: undef :: Value.slice (some { block := ob, off := o }) len cap :: Value.slice (some { block := ob, off := o }) len cap :: Value.int IntKind.i64 ↑len :: Value.int IntKind.i64 ↑m :: Value.slice (some { block := ob, off := o }) m cap :: Value.int IntKind.i64 ↑m :: Value.int IntKind.i64 ↑k :: u79 :: u80 :: u81 :: u82 :: u83 :: u84 :: u85 :: u86 :: u87 :: u88 :: u89 :: u90 :: u91 :: u92 :: u93 :: u94 :: u95 :: u96 :: u97 :: u98 :: u99 :: u100 :: u101 :: u102 :: u103 :: u104 :: u105 :: u106 :: u107 :: u108 :: u109 :: u110 :: u111 :: u112 :: u113 :: u114 :: u115 :: u116 :: u117 :: u118 :: u119 :: u120 :: u121 :: u122 :: u123 :: u124 :: u125 :: u126 :: u127 :: u128 :: u129 :: u130 :: u131 :: u132 :: u133 :: u134 :: u135 :: u136 :: u137 :: u138 :: u139 :: u140 :: u141 :: u142 :: u143 :: u144 :: u145 :: u146 :: u147 :: u148 :: u149 :: u150 :: u151 :: u152 :: u153 :: u154 :: u155 :: u156 :: u157 :: u158 :: u159 :: u160 :: u161 :: u162 :: u163 :: u164 :: u165 :: u166 :: u167 :: u168 :: u169 :: u170 :: u171 :: u172 :: u173 :: z174 :: z175 :: z176 :: z177 :: z178 :: z179 :: z180 :: z181 :: z182 :: z183 :: z184 :: z185 :: z186 :: z187 :: z188 :: z189 :: z190 :: z191 :: z192 :: z193 :: z194 :: z195 :: z196 :: z197 :: u198 :: undef :: [])), []⟩ ∧ Hid ((b 0 = true → z174 = Value.int IntKind.i64 r) ∧ (b 1 = true → z175 = Value.int IntKind.i64 r) ∧ (b 2 = true → z176 = .bool false) ∧ (b 3 = true → z177 = .bool false) ∧ (b 4 = true → z178 = Value.pointer (some { block := p, off := 0 })) ∧ (b 5 = true → z179 = .int .i64 (q2.room : Int)) ∧ (b 6 = true → z180 = .agg #[.slice (some ⟨k1, 0, none⟩) n l1, .slice (some ⟨k2, 0, none⟩) n l2, .int .i64 (q2.first : Int), .int .i64 (q2.next : Int), .int .i64 (q2.asked : Int)]) ∧ (b 7 = true → z181 = .int .i64 (q2.room : Int)) ∧ (b 8 = true → z182 = .bool false) ∧ (b 9 = true → z183 = .bool false) ∧ (b 10 = true → z184 = .bool false) ∧ (b 11 = true → z185 = Value.pointer (some { block := p, off := 0 })) ∧ (b 12 = true → z186 = .int .i64 (q2.next : Int)) ∧ (b 13 = true → z187 = .pointer (some ⟨x, 3, none⟩)) ∧ (b 14 = true → z188 = .int .i64 (q2.next : Int)) ∧ (b 15 = true → z189 = .bool false) ∧ (b 16 = true → z190 = .bool false) ∧ (b 17 = true → z191 = .bool false) ∧ (b 18 = true → z192 = Value.pointer (some { block := p, off := 0 })) ∧ (b 19 = true → z193 = .int .i64 (q2.asked : Int)) ∧ (b 20 = true → z194 = .pointer (some ⟨x, 4, none⟩)) ∧ (b 21 = true → z195 = .int .i64 (q2.asked : Int)) ∧ (b 22 = true → z196 = .bool false) ∧ (b 23 = true → z197 = .bool false)) ∧ Hid (Below w9.heap.size w9 wy)) (by kernel_rfl) (by kernel_rfl) ?startT38 ?stepsT38 ?doneT38
            case startT38 =>
              intro b hb
              refine ⟨u174, u175, u176, u177, u178, u179, u180, u181, u182, u183, u184, u185, u186, u187, u188, u189, u190, u191, u192, u193, u194, u195, u196, u197, rfl, Lib.hid ⟨?_, ?_, ?_, ?_, ?_, ?_, ?_, ?_, ?_, ?_, ?_, ?_, ?_, ?_, ?_, ?_, ?_, ?_, ?_, ?_, ?_, ?_, ?_, ?_⟩, Lib.hid ((show Still w9 w9.drew from ⟨rfl, rfl, rfl, rfl⟩).below _)⟩
              all_goals (intro e; first | rfl | (rw [hb _ (by decide)] at e; cases e))
            case stepsT38 =>
              refine ⟨?_, ?_, ?_, ?_, ?_, ?_, ?_, ?_, ?_, ?_, ?_, ?_, ?_, ?_, ?_, ?_, ?_, ?_, ?_, ?_, ?_, ?_, ?_, ?_, trivial⟩
              · rintro b a wy hb hd ⟨z174, z175, z176, z177, z178, z179, z180, z181, z182, z183, z184, z185, z186, z187, z188, z189, z190, z191, z192, z193, z194, z195, z196, z197, rfl, HV, HW⟩ K hK
                obtain ⟨h0, h1, h2, h3, h4, h5, h6, h7, h8, h9, h10, h11, h12, h13, h14, h15, h16, h17, h18, h19, h20, h21, h22, h23⟩ := HV.out
                clear hd
                go_simp
                exact hK _ _ ⟨_, _, _, _, _, _, _, _, _, _, _, _, _, _, _, _, _, _, _, _, _, _, _, _, rfl, Lib.hid ⟨fun _ => rfl, h1, h2, h3, h4, h5, h6, h7, h8, h9, h10, h11, h12, h13, h14, h15, h16, h17, h18, h19, h20, h21, h22, h23⟩, HW⟩
              · rintro b a wy hb hd ⟨z174, z175, z176, z177, z178, z179, z180, z181, z182, z183, z184, z185, z186, z187, z188, z189, z190, z191, z192, z193, z194, z195, z196, z197, rfl, HV, HW⟩ K hK
                obtain ⟨h0, h1, h2, h3, h4, h5, h6, h7, h8, h9, h10, h11, h12, h13, h14, h15, h16, h17, h18, h19, h20, h21, h22, h23⟩ := HV.out
                clear hd
                go_simp
                exact hK _ _ ⟨_, _, _, _, _, _, _, _, _, _, _, _, _, _, _, _, _, _, _, _, _, _, _, _, rfl, Lib.hid ⟨h0, fun _ => rfl, h2, h3, h4, h5, h6, h7, h8, h9, h10, h11, h12, h13, h14, h15, h16, h17, h18, h19, h20, h21, h22, h23⟩, HW⟩
              · rintro b a wy hb hd ⟨z174, z175, z176, z177, z178, z179, z180, z181, z182, z183, z184, z185, z186, z187, z188, z189, z190, z191, z192, z193, z194, z195, z196, z197, rfl, HV, HW⟩ K hK
                obtain ⟨h0, h1, h2, h3, h4, h5, h6, h7, h8, h9, h10, h11, h12, h13, h14, h15, h16, h17, h18, h19, h20, h21, h22, h23⟩ := HV.out
                simp [Region.binds] at hd
                obtain rfl := h0 (by simp [hd])
                obtain rfl := h1 (by simp [hd])
                clear hd
                go_simp
                exact hK _ _ ⟨_, _, _, _, _, _, _, _, _, _, _, _, _, _, _, _, _, _, _, _, _, _, _, _, rfl, Lib.hid ⟨h0, h1, fun _ => rfl, h3, h4, h5, h6, h7, h8, h9, h10, h11, h12, h13, h14, h15, h16, h17, h18, h19, h20, h21, h22, h23⟩, HW⟩
              · rintro b a wy hb hd ⟨z174, z175, z176, z177, z178, z179, z180, z181, z182, z183, z184, z185, z186, z187, z188, z189, z190, z191, z192, z193, z194, z195, z196, z197, rfl, HV, HW⟩ K hK
                obtain ⟨h0, h1, h2, h3, h4, h5, h6, h7, h8, h9, h10, h11, h12, h13, h14, h15, h16, h17, h18, h19, h20, h21, h22, h23⟩ := HV.out
                simp [Region.binds] at hd
                obtain rfl := h2 (by simp [hd])
                clear hd
                go_simp
                exact hK _ _ ⟨_, _, _, _, _, _, _, _, _, _, _, _, _, _, _, _, _, _, _, _, _, _, _, _, rfl, Lib.hid ⟨h0, h1, h2, fun _ => rfl, h4, h5, h6, h7, h8, h9, h10, h11, h12, h13, h14, h15, h16, h17, h18, h19, h20, h21, h22, h23⟩, HW⟩
              · rintro b a wy hb hd ⟨z174, z175, z176, z177, z178, z179, z180, z181, z182, z183, z184, z185, z186, z187, z188, z189, z190, z191, z192, z193, z194, z195, z196, z197, rfl, HV, HW⟩ K hK
                obtain ⟨h0, h1, h2, h3, h4, h5, h6, h7, h8, h9, h10, h11, h12, h13, h14, h15, h16, h17, h18, h19, h20, h21, h22, h23⟩ := HV.out
                simp [Region.binds] at hd
                obtain rfl := h3 (by simp [hd])
                clear hd
                go_simp
                exact hK _ _ ⟨_, _, _, _, _, _, _, _, _, _, _, _, _, _, _, _, _, _, _, _, _, _, _, _, rfl, Lib.hid ⟨h0, h1, h2, h3, fun _ => rfl, h5, h6, h7, h8, h9, h10, h11, h12, h13, h14, h15, h16, h17, h18, h19, h20, h21, h22, h23⟩, HW⟩
              · rintro b a wy hb hd ⟨z174, z175, z176, z177, z178, z179, z180, z181, z182, z183, z184, z185, z186, z187, z188, z189, z190, z191, z192, z193, z194, z195, z196, z197, rfl, HV, HW⟩ K hK
                obtain ⟨h0, h1, h2, h3, h4, h5, h6, h7, h8, h9, h10, h11, h12, h13, h14, h15, h16, h17, h18, h19, h20, h21, h22, h23⟩ := HV.out
                simp [Region.binds] at hd
                obtain rfl := h3 (by simp [hd])
                obtain rfl := h4 (by simp [hd])
                clear hd
                have hp := HP.out.below HW.out
                go_simp
                go_at_call 13
                refine (room_at hp.pat).mono ?_
                rintro e wz ⟨rfl, rfl⟩
                try go_simp
                exact hK _ _ ⟨_, _, _, _, _, _, _, _, _, _, _, _, _, _, _, _, _, _, _, _, _, _, _, _, rfl, Lib.hid ⟨h0, h1, h2, h3, h4, fun _ => rfl, h6, h7, h8, h9, h10, h11, h12, h13, h14, h15, h16, h17, h18, h19, h20, h21, h22, h23⟩, HW⟩
              · rintro b a wy hb hd ⟨z174, z175, z176, z177, z178, z179, z180, z181, z182, z183, z184, z185, z186, z187, z188, z189, z190, z191, z192, z193, z194, z195, z196, z197, rfl, HV, HW⟩ K hK
                obtain ⟨h0, h1, h2, h3, h4, h5, h6, h7, h8, h9, h10, h11, h12, h13, h14, h15, h16, h17, h18, h19, h20, h21, h22, h23⟩ := HV.out
                simp [Region.binds] at hd
                obtain rfl := h3 (by simp [hd])
                clear hd
                have hp := HP.out.below HW.out
                have g0 := hp.row.cellAt (i := 0) rfl
                have g1 := hp.row.cellAt (i := 1) rfl
                have g2 := hp.row.cellAt (i := 2) rfl
                have g3 := hp.row.cellAt (i := 3) rfl
                have g4 := hp.row.cellAt (i := 4) rfl
                go_simp
                exact hK _ _ ⟨_, _, _, _, _, _, _, _, _, _, _, _, _, _, _, _, _, _, _, _, _, _, _, _, rfl, Lib.hid ⟨h0, h1, h2, h3, h4, h5, fun _ => rfl, h7, h8, h9, h10, h11, h12, h13, h14, h15, h16, h17, h18, h19, h20, h21, h22, h23⟩, HW⟩
              · rintro b a wy hb hd ⟨z174, z175, z176, z177, z178, z179, z180, z181, z182, z183, z184, z185, z186, z187, z188, z189, z190, z191, z192, z193, z194, z195, z196, z197, rfl, HV, HW⟩ K hK
                obtain ⟨h0, h1, h2, h3, h4, h5, h6, h7, h8, h9, h10, h11, h12, h13, h14, h15, h16, h17, h18, h19, h20, h21, h22, h23⟩ := HV.out
                simp [Region.binds] at hd
                obtain rfl := h3 (by simp [hd])
                obtain rfl := h6 (by simp [hd])
                clear hd
                have hp := HP.out.below HW.out
                go_simp
                go_at_call 30
                refine (rroom' hp.rat hp.pat.ok hp.hn).mono ?_
                rintro e wz ⟨rfl, kz⟩
                try go_simp
                exact hK _ _ ⟨_, _, _, _, _, _, _, _, _, _, _, _, _, _, _, _, _, _, _, _, _, _, _, _, rfl, Lib.hid ⟨h0, h1, h2, h3, h4, h5, h6, fun _ => rfl, h8, h9, h10, h11, h12, h13, h14, h15, h16, h17, h18, h19, h20, h21, h22, h23⟩, Lib.hid (HW.out.trans (kz.mono HW.out.size))⟩
              · rintro b a wy hb hd ⟨z174, z175, z176, z177, z178, z179, z180, z181, z182, z183, z184, z185, z186, z187, z188, z189, z190, z191, z192, z193, z194, z195, z196, z197, rfl, HV, HW⟩ K hK
                obtain ⟨h0, h1, h2, h3, h4, h5, h6, h7, h8, h9, h10, h11, h12, h13, h14, h15, h16, h17, h18, h19, h20, h21, h22, h23⟩ := HV.out
                simp [Region.binds] at hd
                obtain rfl := h3 (by simp [hd])
                obtain rfl := h5 (by simp [hd])
                obtain rfl := h7 (by simp [hd])
                clear hd
                go_simp
                exact hK _ _ ⟨_, _, _, _, _, _, _, _, _, _, _, _, _, _, _, _, _, _, _, _, _, _, _, _, rfl, Lib.hid ⟨h0, h1, h2, h3, h4, h5, h6, h7, fun _ => rfl, h9, h10, h11, h12, h13, h14, h15, h16, h17, h18, h19, h20, h21, h22, h23⟩, HW⟩
              · rintro b a wy hb hd ⟨z174, z175, z176, z177, z178, z179, z180, z181, z182, z183, z184, z185, z186, z187, z188, z189, z190, z191, z192, z193, z194, z195, z196, z197, rfl, HV, HW⟩ K hK
                obtain ⟨h0, h1, h2, h3, h4, h5, h6, h7, h8, h9, h10, h11, h12, h13, h14, h15, h16, h17, h18, h19, h20, h21, h22, h23⟩ := HV.out
                simp [Region.binds] at hd
                obtain rfl := h3 (by simp [hd])
                obtain rfl := h8 (by simp [hd])
                clear hd
                go_simp
                exact hK _ _ ⟨_, _, _, _, _, _, _, _, _, _, _, _, _, _, _, _, _, _, _, _, _, _, _, _, rfl, Lib.hid ⟨h0, h1, h2, h3, h4, h5, h6, h7, h8, fun _ => rfl, h10, h11, h12, h13, h14, h15, h16, h17, h18, h19, h20, h21, h22, h23⟩, HW⟩
              · rintro b a wy hb hd ⟨z174, z175, z176, z177, z178, z179, z180, z181, z182, z183, z184, z185, z186, z187, z188, z189, z190, z191, z192, z193, z194, z195, z196, z197, rfl, HV, HW⟩ K hK
                obtain ⟨h0, h1, h2, h3, h4, h5, h6, h7, h8, h9, h10, h11, h12, h13, h14, h15, h16, h17, h18, h19, h20, h21, h22, h23⟩ := HV.out
                simp [Region.binds] at hd
                obtain rfl := h9 (by simp [hd])
                clear hd
                go_simp
                exact hK _ _ ⟨_, _, _, _, _, _, _, _, _, _, _, _, _, _, _, _, _, _, _, _, _, _, _, _, rfl, Lib.hid ⟨h0, h1, h2, h3, h4, h5, h6, h7, h8, h9, fun _ => rfl, h11, h12, h13, h14, h15, h16, h17, h18, h19, h20, h21, h22, h23⟩, HW⟩
              · rintro b a wy hb hd ⟨z174, z175, z176, z177, z178, z179, z180, z181, z182, z183, z184, z185, z186, z187, z188, z189, z190, z191, z192, z193, z194, z195, z196, z197, rfl, HV, HW⟩ K hK
                obtain ⟨h0, h1, h2, h3, h4, h5, h6, h7, h8, h9, h10, h11, h12, h13, h14, h15, h16, h17, h18, h19, h20, h21, h22, h23⟩ := HV.out
                simp [Region.binds] at hd
                obtain rfl := h10 (by simp [hd])
                clear hd
                go_simp
                exact hK _ _ ⟨_, _, _, _, _, _, _, _, _, _, _, _, _, _, _, _, _, _, _, _, _, _, _, _, rfl, Lib.hid ⟨h0, h1, h2, h3, h4, h5, h6, h7, h8, h9, h10, fun _ => rfl, h12, h13, h14, h15, h16, h17, h18, h19, h20, h21, h22, h23⟩, HW⟩
              · rintro b a wy hb hd ⟨z174, z175, z176, z177, z178, z179, z180, z181, z182, z183, z184, z185, z186, z187, z188, z189, z190, z191, z192, z193, z194, z195, z196, z197, rfl, HV, HW⟩ K hK
                obtain ⟨h0, h1, h2, h3, h4, h5, h6, h7, h8, h9, h10, h11, h12, h13, h14, h15, h16, h17, h18, h19, h20, h21, h22, h23⟩ := HV.out
                simp [Region.binds] at hd
                obtain rfl := h10 (by simp [hd])
                obtain rfl := h11 (by simp [hd])
                clear hd
                have hp := HP.out.below HW.out
                go_simp
                go_at_call 15
                refine (next_at hp.pat).mono ?_
                rintro e wz ⟨rfl, rfl⟩
                try go_simp
                exact hK _ _ ⟨_, _, _, _, _, _, _, _, _, _, _, _, _, _, _, _, _, _, _, _, _, _, _, _, rfl, Lib.hid ⟨h0, h1, h2, h3, h4, h5, h6, h7, h8, h9, h10, h11, fun _ => rfl, h13, h14, h15, h16, h17, h18, h19, h20, h21, h22, h23⟩, HW⟩
              · rintro b a wy hb hd ⟨z174, z175, z176, z177, z178, z179, z180, z181, z182, z183, z184, z185, z186, z187, z188, z189, z190, z191, z192, z193, z194, z195, z196, z197, rfl, HV, HW⟩ K hK
                obtain ⟨h0, h1, h2, h3, h4, h5, h6, h7, h8, h9, h10, h11, h12, h13, h14, h15, h16, h17, h18, h19, h20, h21, h22, h23⟩ := HV.out
                simp [Region.binds] at hd
                obtain rfl := h10 (by simp [hd])
                clear hd
                go_simp
                exact hK _ _ ⟨_, _, _, _, _, _, _, _, _, _, _, _, _, _, _, _, _, _, _, _, _, _, _, _, rfl, Lib.hid ⟨h0, h1, h2, h3, h4, h5, h6, h7, h8, h9, h10, h11, h12, fun _ => rfl, h14, h15, h16, h17, h18, h19, h20, h21, h22, h23⟩, HW⟩
              · rintro b a wy hb hd ⟨z174, z175, z176, z177, z178, z179, z180, z181, z182, z183, z184, z185, z186, z187, z188, z189, z190, z191, z192, z193, z194, z195, z196, z197, rfl, HV, HW⟩ K hK
                obtain ⟨h0, h1, h2, h3, h4, h5, h6, h7, h8, h9, h10, h11, h12, h13, h14, h15, h16, h17, h18, h19, h20, h21, h22, h23⟩ := HV.out
                simp [Region.binds] at hd
                obtain rfl := h10 (by simp [hd])
                obtain rfl := h13 (by simp [hd])
                clear hd
                have hp := HP.out.below HW.out
                have g3 := hp.row.cellAt (i := 3) rfl
                go_simp
                exact hK _ _ ⟨_, _, _, _, _, _, _, _, _, _, _, _, _, _, _, _, _, _, _, _, _, _, _, _, rfl, Lib.hid ⟨h0, h1, h2, h3, h4, h5, h6, h7, h8, h9, h10, h11, h12, h13, fun _ => rfl, h15, h16, h17, h18, h19, h20, h21, h22, h23⟩, HW⟩
              · rintro b a wy hb hd ⟨z174, z175, z176, z177, z178, z179, z180, z181, z182, z183, z184, z185, z186, z187, z188, z189, z190, z191, z192, z193, z194, z195, z196, z197, rfl, HV, HW⟩ K hK
                obtain ⟨h0, h1, h2, h3, h4, h5, h6, h7, h8, h9, h10, h11, h12, h13, h14, h15, h16, h17, h18, h19, h20, h21, h22, h23⟩ := HV.out
                simp [Region.binds] at hd
                obtain rfl := h10 (by simp [hd])
                obtain rfl := h12 (by simp [hd])
                obtain rfl := h14 (by simp [hd])
                clear hd
                go_simp
                exact hK _ _ ⟨_, _, _, _, _, _, _, _, _, _, _, _, _, _, _, _, _, _, _, _, _, _, _, _, rfl, Lib.hid ⟨h0, h1, h2, h3, h4, h5, h6, h7, h8, h9, h10, h11, h12, h13, h14, fun _ => rfl, h16, h17, h18, h19, h20, h21, h22, h23⟩, HW⟩
              · rintro b a wy hb hd ⟨z174, z175, z176, z177, z178, z179, z180, z181, z182, z183, z184, z185, z186, z187, z188, z189, z190, z191, z192, z193, z194, z195, z196, z197, rfl, HV, HW⟩ K hK
                obtain ⟨h0, h1, h2, h3, h4, h5, h6, h7, h8, h9, h10, h11, h12, h13, h14, h15, h16, h17, h18, h19, h20, h21, h22, h23⟩ := HV.out
                simp [Region.binds] at hd
                obtain rfl := h10 (by simp [hd])
                obtain rfl := h15 (by simp [hd])
                clear hd
                go_simp
                exact hK _ _ ⟨_, _, _, _, _, _, _, _, _, _, _, _, _, _, _, _, _, _, _, _, _, _, _, _, rfl, Lib.hid ⟨h0, h1, h2, h3, h4, h5, h6, h7, h8, h9, h10, h11, h12, h13, h14, h15, fun _ => rfl, h17, h18, h19, h20, h21, h22, h23⟩, HW⟩
              · rintro b a wy hb hd ⟨z174, z175, z176, z177, z178, z179, z180, z181, z182, z183, z184, z185, z186, z187, z188, z189, z190, z191, z192, z193, z194, z195, z196, z197, rfl, HV, HW⟩ K hK
                obtain ⟨h0, h1, h2, h3, h4, h5, h6, h7, h8, h9, h10, h11, h12, h13, h14, h15, h16, h17, h18, h19, h20, h21, h22, h23⟩ := HV.out
                simp [Region.binds] at hd
                obtain rfl := h16 (by simp [hd])
                clear hd
                go_simp
                exact hK _ _ ⟨_, _, _, _, _, _, _, _, _, _, _, _, _, _, _, _, _, _, _, _, _, _, _, _, rfl, Lib.hid ⟨h0, h1, h2, h3, h4, h5, h6, h7, h8, h9, h10, h11, h12, h13, h14, h15, h16, fun _ => rfl, h18, h19, h20, h21, h22, h23⟩, HW⟩
              · rintro b a wy hb hd ⟨z174, z175, z176, z177, z178, z179, z180, z181, z182, z183, z184, z185, z186, z187, z188, z189, z190, z191, z192, z193, z194, z195, z196, z197, rfl, HV, HW⟩ K hK
                obtain ⟨h0, h1, h2, h3, h4, h5, h6, h7, h8, h9, h10, h11, h12, h13, h14, h15, h16, h17, h18, h19, h20, h21, h22, h23⟩ := HV.out
                simp [Region.binds] at hd
                obtain rfl := h17 (by simp [hd])
                clear hd
                go_simp
                exact hK _ _ ⟨_, _, _, _, _, _, _, _, _, _, _, _, _, _, _, _, _, _, _, _, _, _, _, _, rfl, Lib.hid ⟨h0, h1, h2, h3, h4, h5, h6, h7, h8, h9, h10, h11, h12, h13, h14, h15, h16, h17, fun _ => rfl, h19, h20, h21, h22, h23⟩, HW⟩
              · rintro b a wy hb hd ⟨z174, z175, z176, z177, z178, z179, z180, z181, z182, z183, z184, z185, z186, z187, z188, z189, z190, z191, z192, z193, z194, z195, z196, z197, rfl, HV, HW⟩ K hK
                obtain ⟨h0, h1, h2, h3, h4, h5, h6, h7, h8, h9, h10, h11, h12, h13, h14, h15, h16, h17, h18, h19, h20, h21, h22, h23⟩ := HV.out
                simp [Region.binds] at hd
                obtain rfl := h17 (by simp [hd])
                obtain rfl := h18 (by simp [hd])
                clear hd
                have hp := HP.out.below HW.out
                go_simp
                go_at_call 14
                refine (asked_at hp.pat).mono ?_
                rintro e wz ⟨rfl, rfl⟩
                try go_simp
                exact hK _ _ ⟨_, _, _, _, _, _, _, _, _, _, _, _, _, _, _, _, _, _, _, _, _, _, _, _, rfl, Lib.hid ⟨h0, h1, h2, h3, h4, h5, h6, h7, h8, h9, h10, h11, h12, h13, h14, h15, h16, h17, h18, fun _ => rfl, h20, h21, h22, h23⟩, HW⟩
              · rintro b a wy hb hd ⟨z174, z175, z176, z177, z178, z179, z180, z181, z182, z183, z184, z185, z186, z187, z188, z189, z190, z191, z192, z193, z194, z195, z196, z197, rfl, HV, HW⟩ K hK
                obtain ⟨h0, h1, h2, h3, h4, h5, h6, h7, h8, h9, h10, h11, h12, h13, h14, h15, h16, h17, h18, h19, h20, h21, h22, h23⟩ := HV.out
                simp [Region.binds] at hd
                obtain rfl := h17 (by simp [hd])
                clear hd
                go_simp
                exact hK _ _ ⟨_, _, _, _, _, _, _, _, _, _, _, _, _, _, _, _, _, _, _, _, _, _, _, _, rfl, Lib.hid ⟨h0, h1, h2, h3, h4, h5, h6, h7, h8, h9, h10, h11, h12, h13, h14, h15, h16, h17, h18, h19, fun _ => rfl, h21, h22, h23⟩, HW⟩
              · rintro b a wy hb hd ⟨z174, z175, z176, z177, z178, z179, z180, z181, z182, z183, z184, z185, z186, z187, z188, z189, z190, z191, z192, z193, z194, z195, z196, z197, rfl, HV, HW⟩ K hK
                obtain ⟨h0, h1, h2, h3, h4, h5, h6, h7, h8, h9, h10, h11, h12, h13, h14, h15, h16, h17, h18, h19, h20, h21, h22, h23⟩ := HV.out
                simp [Region.binds] at hd
                obtain rfl := h17 (by simp [hd])
                obtain rfl := h20 (by simp [hd])
                clear hd
                have hp := HP.out.below HW.out
                have g4 := hp.row.cellAt (i := 4) rfl
                go_simp
                exact hK _ _ ⟨_, _, _, _, _, _, _, _, _, _, _, _, _, _, _, _, _, _, _, _, _, _, _, _, rfl, Lib.hid ⟨h0, h1, h2, h3, h4, h5, h6, h7, h8, h9, h10, h11, h12, h13, h14, h15, h16, h17, h18, h19, h20, fun _ => rfl, h22, h23⟩, HW⟩
              · rintro b a wy hb hd ⟨z174, z175, z176, z177, z178, z179, z180, z181, z182, z183, z184, z185, z186, z187, z188, z189, z190, z191, z192, z193, z194, z195, z196, z197, rfl, HV, HW⟩ K hK
                obtain ⟨h0, h1, h2, h3, h4, h5, h6, h7, h8, h9, h10, h11, h12, h13, h14, h15, h16, h17, h18, h19, h20, h21, h22, h23⟩ := HV.out
                simp [Region.binds] at hd
                obtain rfl := h17 (by simp [hd])
                obtain rfl := h19 (by simp [hd])
                obtain rfl := h21 (by simp [hd])
                clear hd
                go_simp
                exact hK _ _ ⟨_, _, _, _, _, _, _, _, _, _, _, _, _, _, _, _, _, _, _, _, _, _, _, _, rfl, Lib.hid ⟨h0, h1, h2, h3, h4, h5, h6, h7, h8, h9, h10, h11, h12, h13, h14, h15, h16, h17, h18, h19, h20, h21, fun _ => rfl, h23⟩, HW⟩
              · rintro b a wy hb hd ⟨z174, z175, z176, z177, z178, z179, z180, z181, z182, z183, z184, z185, z186, z187, z188, z189, z190, z191, z192, z193, z194, z195, z196, z197, rfl, HV, HW⟩ K hK
                obtain ⟨h0, h1, h2, h3, h4, h5, h6, h7, h8, h9, h10, h11, h12, h13, h14, h15, h16, h17, h18, h19, h20, h21, h22, h23⟩ := HV.out
                simp [Region.binds] at hd
                obtain rfl := h17 (by simp [hd])
                obtain rfl := h22 (by simp [hd])
                clear hd
                go_simp
                exact hK _ _ ⟨_, _, _, _, _, _, _, _, _, _, _, _, _, _, _, _, _, _, _, _, _, _, _, _, rfl, Lib.hid ⟨h0, h1, h2, h3, h4, h5, h6, h7, h8, h9, h10, h11, h12, h13, h14, h15, h16, h17, h18, h19, h20, h21, h22, fun _ => rfl⟩, HW⟩
            case doneT38 =>
              rintro b a wy hb ⟨z174, z175, z176, z177, z178, z179, z180, z181, z182, z183, z184, z185, z186, z187, z188, z189, z190, z191, z192, z193, z194, z195, z196, z197, rfl, HV, HW⟩
              obtain ⟨h0, h1, h2, h3, h4, h5, h6, h7, h8, h9, h10, h11, h12, h13, h14, h15, h16, h17, h18, h19, h20, h21, h22, h23⟩ := HV.out
              obtain rfl := h0 (hb 0)
              obtain rfl := h1 (hb 1)
              obtain rfl := h2 (hb 2)
              obtain rfl := h3 (hb 3)
              obtain rfl := h4 (hb 4)
              obtain rfl := h5 (hb 5)
              obtain rfl := h6 (hb 6)
              obtain rfl := h7 (hb 7)
              obtain rfl := h8 (hb 8)
              obtain rfl := h9 (hb 9)
              obtain rfl := h10 (hb 10)
              obtain rfl := h11 (hb 11)
              obtain rfl := h12 (hb 12)
              obtain rfl := h13 (hb 13)
              obtain rfl := h14 (hb 14)
              obtain rfl := h15 (hb 15)
              obtain rfl := h16 (hb 16)
              obtain rfl := h17 (hb 17)
              obtain rfl := h18 (hb 18)
              obtain rfl := h19 (hb 19)
              obtain rfl := h20 (hb 20)
              obtain rfl := h21 (hb 21)
              obtain rfl := h22 (hb 22)
              obtain rfl := h23 (hb 23)
              clear HV hb h0 h1 h2 h3 h4 h5 h6 h7 h8 h9 h10 h11 h12 h13 h14 h15 h16 h17 h18 h19 h20 h21 h22 h23
              go_wp2_with fail
              go_meet
              exact ⟨rfl, HW⟩
          case rest =>
            obtain ⟨rfl, HW⟩ := hcut
            have HB6 := Lib.hid (HB2.out.trans (HW.out.mono HB2.out.size))
            have HS6 := Lib.hid (show Side wc p ta cb mb n n x from ⟨_, _, _, _, _, HP.out.below HW.out⟩)
            clear HW HP HB2
            go_wp2_with fail
            go_roundw
            case rel => exact ⟨k + 1, by omega, by go_num, HS6, HB6⟩
            case measure => simp [Go.RowKit.intOf]; omega
      · obtain rfl : k = m := by omega
        have hlt2 : ¬ ((k : Int) < (k : Int)) := by omega
        clear HS5 HB5
        go_wp2_with fail
        refine (awake_any _).mono ?_
        rintro e w6 ⟨rfl, bz⟩
        have HB6 := Lib.hid (HB.out.trans (bz.mono HB.out.size))
        clear bz
        go_wp2_with fail
        go_ret
        exact ⟨rfl, HB6.out⟩
end Go.Proofs.Ytkjdagjhbjpcnaa.Pk
