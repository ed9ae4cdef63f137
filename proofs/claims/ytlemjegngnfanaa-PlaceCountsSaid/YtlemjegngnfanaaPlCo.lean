/- PlaceCounts: the walk. -/
import Derived.Test.YtlemjegngnfanaaPlZ
namespace Go.Proofs.Ytlemjegngnfanaa.Pl
open Go.RowKit Go.Proofs.Ytlemjegngnfanaa.Oct Go.Proofs.Ytlemjegngnfanaa.Mv Go.Proofs.Ytlemjegngnfanaa.Tl Go.Proofs.Ytlemjegngnfanaa.Pk Go.Maps
set_option linter.unusedVariables false

theorem u16_is {n : Int} (h : (Lit.int .u16 n).wf = true) : ∃ c : UInt16, n = (c.toNat : Int) := by
  have h2 : IntKind.u16.min ≤ n ∧ n ≤ IntKind.u16.max := by simpa [Lit.wf] using h
  have h0 : IntKind.u16.min = 0 := rfl
  have h1 : IntKind.u16.max = 65535 := rfl
  rw [h0, h1] at h2
  refine ⟨UInt16.ofNat n.toNat, ?_⟩
  simp only [UInt16.toNat_ofNat']
  omega
set_option maxRecDepth 100000 in
set_option maxHeartbeats 16000000 in
theorem counts_walk (a0 : Int) (A : Option Addr) (len cap : Nat) (l : List Opr) (a2 : Int) (w : World) (h0 : (Lit.int .u16 a0).wf = true) (ho : OpsIn w A len cap l) (h2 : (Lit.int .i64 a2).wf = true) :
    Calls Try.prog 5 #[.int .u16 a0, .slice A len cap, .int .i64 a2] w fun e w' => e = .returned (.bool true) ∧ Below w.heap.size w w' := by
  obtain ⟨x0, rfl⟩ := u16_is h0
  clear h0 h2
  obtain ⟨m, hm⟩ : ∃ m : Nat, m = min len 40 := ⟨_, rfl⟩
  have hmin : min (len : Int) 40 = (m : Int) := by omega
  have hml : m ≤ len := by omega
  have hm40 : m ≤ 40 := by omega
  have hle := ho.le
  have hcap := ho.cap
  unfold maxLen at hcap
  have HO := Lib.hid ho
  clear hm ho
  have hsz := size_ok x0
  have hbg := begun_any x0 w
  obtain ⟨n, hn⟩ : ∃ n, n = size16 x0 := ⟨_, rfl⟩
  rw [← hn] at hbg hsz
  clear hn
  obtain ⟨hn1, hn2⟩ := hsz
  go_enter Try.func5, Try.ntmps5
  go_wp2_with fail
  refine hbg.mono ?_
  clear hbg
  rintro e w1 ⟨D, q, l1, l2, rfl, hstg, hs, hqn, _, _, hlo, hb⟩
  have HS := Lib.hid hstg
  have HSO := Lib.hid hs
  have HN := Lib.hid hqn
  have HB := Lib.hid hb
  have HBL := Lib.hid (show w.heap.size ≤ D.cb ∧ w.heap.size ≤ D.mb ∧ w.heap.size ≤ D.p from ⟨hlo _ (by simp [Sd.list]), hlo _ (by simp [Sd.list]), hlo _ (by simp [Sd.list])⟩)
  clear hstg hs hqn hlo hb
  go_wp2_with fail
  go_loopw [28] (fun c wr => (∃ k : Nat, k ≤ m ∧ c = .int .i64 (k : Int)) ∧ ∃ q2 : Q, Hid (Sound q2 l1 l2) ∧ Hid (q2.s.n = n) ∧ Hid (Stg wr D q2 l1 l2) ∧ Hid (Below w.heap.size w wr)) (fun c _ => m - (Go.RowKit.intOf c).toNat)
  case atStart => exact ⟨⟨0, Nat.zero_le _, rfl⟩, q, HSO, HN, HS, HB⟩
  case round =>
    obtain ⟨⟨k, hk, rfl⟩, q2, HSO2, HN2, HS2, HB2⟩ := hrel
    clear HSO HN HS HB
    by_cases hlt : k < m
    · have hki : (k : Int) < (m : Int) := by omega
      have hge : (0 : Int) ≤ (k : Int) := by omega
      obtain ⟨ob, o, y, rfl, hyk, hlies, hwf⟩ := HO.out.at (k := k) (by omega)
      have hl2 := hlies.below HB2.out
      have d0 := hl2.c0
      have d1 := hl2.c1
      have HWF := Lib.hid hwf
      clear hlies hl2 hwf hyk
      go_upto_region 7 with (fail)
      have bz := (Below.refl wr.heap.size wr).alloc (Nat.le_refl _) (.cells #[.int .u8 (y.what.toNat : Int), .int .i64 y.b] 45)
      have HR := Lib.hid (alloc_rowV wr 45 [.int .u8 (y.what.toNat : Int), .int .i64 y.b])
      have HS3 := Lib.hid (HS2.out.kept bz)
      have HB3 := Lib.hid (HB2.out.trans (bz.mono HB2.out.size))
      clear d0 d1 bz HS2 HB2
      generalize wr.alloc (.cells #[.int .u8 (y.what.toNat : Int), .int .i64 y.b] 45) = w3 at *
      obtain ⟨ro, hro⟩ : ∃ ro, ro = wr.heap.size := ⟨_, rfl⟩
      rw [← hro] at HR ⊢
      clear hro
      have r0 := HR.out.cellAt (i := 0) rfl
      have r1 := HR.out.cellAt (i := 1) rfl
      go_wp2_with fail
      refine (done_sound HS3.out HSO2.out (by rw [HN2.out]; exact hn1) y HWF.out).mono ?_
      rintro e w4 ⟨q3, rfl, hst, hso, hnn, hbl⟩
      have HS4 := Lib.hid hst
      have HSO4 := Lib.hid hso
      have HN4 := Lib.hid (hnn.trans HN2.out)
      have HB4 := Lib.hid (HB3.out.trans (hbl.below (B := w.heap.size) (by simp; exact HBL.out) HB3.out.size))
      clear r0 r1 hst hso hnn hbl
      dsimp only
      go_wp2_with fail
      go_roundw
      case rel => exact ⟨⟨k + 1, by omega, by go_num⟩, q3, HSO4, HN4, HS4, HB4⟩
      case measure => simp [Go.RowKit.intOf]; omega
    · have hki : ¬ (k : Int) < (m : Int) := by omega
      obtain rfl : k = m := by omega
      obtain ⟨wm, hwm⟩ : ∃ x, x = wr := ⟨_, rfl⟩
      subst hwm
      have c2 := HS2.out.row.cellAt (i := 2) rfl
      have hl1 : l1.length = pg n := by rw [HSO2.out.len1, HN2.out]
      have hpl : pg n ≤ 68 := pg_le (by omega)
      rw [hl1] at c2
      go_wp2_with fail
      clear c2
      go_loopw [42, 11] (fun c v wx => (∃ i : Nat, i ≤ pg n ∧ c = .int .i64 (i : Int) ∧ Hid (OwnU wx wm.heap.size v (allc q2.s (min (i * 61) n)))) ∧ Hid (Below wm.heap.size wm wx)) (fun c _ _ => pg n - (Go.RowKit.intOf c).toNat)
      case atStart => exact ⟨⟨0, Nat.zero_le _, rfl, Lib.hid (by simpa [allc] using ownU_nil _ _)⟩, Lib.hid (Below.refl _ _)⟩
      case round =>
        obtain ⟨⟨i, hi, rfl, HU⟩, HW⟩ := hrel
        by_cases hli : i < pg n
        · have hii : (i : Int) < (pg n : Int) := by omega
          have hst := HS2.out.kept HW.out
          have c0 := hst.row.cellAt (i := 0) rfl
          have HAT := Lib.hid hst.pat.tally
          clear hst
          have hip : i < pg q2.s.n := by rw [HN2.out]; exact hli
          have hge := pages_nat_ge hip
          rw [HN2.out] at hge
          have HPT := Lib.hid (allc_part q2.s hip)
          have HMY := Lib.hid (show many q2.s i ≤ 61 from by unfold many; omega)
          go_wp2_with fail
          refine (counts_yes HAT.out i hip).mono ?_
          rintro e wz ⟨g, rfl, hcr, hge2, kz⟩
          have HU2 := HU.out.below kz
          have hlp := length_part q2.s i
          have hmi1 : min (i * 61) n = i * 61 := by omega
          rw [hmi1] at HU2
          obtain ⟨v9, w9, hrun, hown, hbel⟩ := app_words (b := g) (o := 0) (c := many q2.s i) HU2 hcr.has (by rw [length_allc, hlp]; have := HMY.out; omega) (Nat.le_trans HW.out.size kz.size) 74
          rw [HPT.out, HN2.out] at hown
          rw [hlp] at hrun
          have HU9 := Lib.hid hown
          have HW9 := Lib.hid ((HW.out.trans (kz.mono HW.out.size)).trans hbel)
          clear hcr hge2 kz hown hbel HU2 c0
          go_wp2_with (at_builtin; refine wpList_append_run rfl (.tmp 45) (.tmp 51) 74 rfl _ _ rfl rfl _ w9 hrun ?_)
          clear hrun
          go_roundw
          case rel => exact ⟨⟨i + 1, by omega, by go_num, HU9⟩, HW9⟩
          case measure => simp [Go.RowKit.intOf]; omega
        · have hii : ¬ (i : Int) < (pg n : Int) := by omega
          obtain rfl : i = pg n := by omega
          have hst := Lib.hid (HS2.out.kept HW.out)
          have hall : min (pg n * 61) n = n := by unfold pg; omega
          have hu := HU.out
          rw [hall] at hu
          obtain ⟨A8, cap8, rfl, ht8⟩ := hu.slice
          rw [length_allc]
          have HT8 := Lib.hid ht8
          have HBW := Lib.hid (HB2.out.trans (HW.out.mono HB2.out.size))
          have c0 := hst.out.row.cellAt (i := 0) rfl
          clear hu ht8 HU
          go_wp2_with fail
          refine (blocks_at hst.out.pat.tally).mono ?_
          rintro e w' ⟨rfl, rfl⟩
          rw [HN2.out]
          go_wp2_with fail
          obtain ⟨wn, hwn⟩ : ∃ x, x = wr := ⟨_, rfl⟩
          subst hwn
          go_loopw [64] (fun c wy => (∃ j : Nat, j ≤ n ∧ c = .int .i64 (j : Int)) ∧ wy = wn) (fun c _ => n - (Go.RowKit.intOf c).toNat)
          case atStart => exact ⟨⟨0, Nat.zero_le _, rfl⟩, rfl⟩
          case round =>
            obtain ⟨⟨j, hj, rfl⟩, hwy⟩ := hrel
            subst hwy
            by_cases hlj : j < n
            · have hji : (j : Int) < (n : Int) := by omega
              obtain ⟨b8, o8, hA8, hs8⟩ := HT8.out.has (by rw [length_nums, length_allc]; omega)
              subst hA8
              have hc8 := hs8.cellAt (allc_at q2.s hlj)
              unfold num at hc8
              have hgj := hst.out.pat.tally
              have hgy := get_yes hst.out.pat.tally j (by rw [HN2.out]; exact hlj)
              have hu := u16_lt (q2.s.cnt j)
              obtain ⟨cn, hcn⟩ : ∃ cn, cn = (q2.s.cnt j).toNat := ⟨_, rfl⟩
              rw [← hcn] at hc8 hgy hu
              have c0 := hst.out.row.cellAt (i := 0) rfl
              have HGY := Lib.hid hgy
              clear hs8 hgj hgy hcn
              go_wp2_with fail
              refine HGY.out.mono ?_
              rintro e w' ⟨rfl, rfl⟩
              have hcb : ((cn : Int) != (cn : Int)) = false := by simp
              clear c0 hc8
              go_wp2_with fail
              go_roundw
              case rel => exact ⟨⟨j + 1, by omega, by go_num⟩, trivial⟩
              case measure => simp [Go.RowKit.intOf]; omega
            · have hji : ¬ (j : Int) < (n : Int) := by omega
              obtain rfl : n = j := by omega
              have hcq : pg n = l1.length := hl1.symm
              by_cases hpage : 0 ≤ a2 ∧ a2 < (pg n : Int)
              · obtain ⟨hp0, hp1⟩ := hpage
                have c2 := hst.out.row.cellAt (i := 2) rfl
                rw [hl1] at c2
                clear hcq hl1
                go_wp2_with fail
                refine (awake_any _).mono ?_
                rintro e w6 ⟨rfl, bz⟩
                have HB6 := Lib.hid (HBW.out.trans (bz.mono HBW.out.size))
                clear c2 bz
                go_wp2_with fail
                go_ret
                exact ⟨rfl, HB6.out⟩
              · have hpo : a2 < 0 ∨ (pg q2.s.n : Int) ≤ a2 := by rw [HN2.out]; omega
                have HPO := Lib.hid hpo
                have c0 := hst.out.row.cellAt (i := 0) rfl
                have c2 := hst.out.row.cellAt (i := 2) rfl
                rw [hl1] at c2
                clear hcq hl1 hpo
                by_cases hp0 : 0 ≤ a2
                · have hp1 : ¬ (a2 < (pg n : Int)) := fun h => hpage ⟨hp0, h⟩
                  clear hpage
                  go_wp2_with fail
                  refine (counts_no hst.out.pat.tally a2 HPO.out).mono ?_
                  rintro e w' ⟨rfl, rfl⟩
                  go_wp2_with fail
                  refine (awake_any _).mono ?_
                  rintro e w6 ⟨rfl, bz⟩
                  have HB6 := Lib.hid (HBW.out.trans (bz.mono HBW.out.size))
                  clear c2 c0 bz
                  go_wp2_with fail
                  go_ret
                  exact ⟨rfl, HB6.out⟩
                · clear hpage
                  go_wp2_with fail
                  refine (counts_no hst.out.pat.tally a2 HPO.out).mono ?_
                  rintro e w' ⟨rfl, rfl⟩
                  go_wp2_with fail
                  refine (awake_any _).mono ?_
                  rintro e w6 ⟨rfl, bz⟩
                  have HB6 := Lib.hid (HBW.out.trans (bz.mono HBW.out.size))
                  clear c2 c0 bz
                  go_wp2_with fail
                  go_ret
                  exact ⟨rfl, HB6.out⟩
end Go.Proofs.Ytlemjegngnfanaa.Pl
