/- TallyOf's walk. (Written by bin/gen_tlof.py.) -/
import Derived.Test.YtigmgaedpdeleaaTlV
import Derived.Test.YtigmgaedpdeleaaTlX
namespace Go.Proofs.Ytigmgaedpdeleaa.Tl
open Go.RowKit Go.Proofs.Ytigmgaedpdeleaa.Oct Go.Proofs.Ytigmgaedpdeleaa.Mv Go.Maps Go.ChangeShapes Go.WideShapes Go.ChangeAt
set_option linter.unusedVariables false

/-- Counts that came in. -/
structure CountsIn (w : World) (A : Option Addr) (len cap : Nat) (l : List UInt16) : Prop where
  hlen : l.length = len
  told : ToldV w A (nums l)
  le : len ≤ cap
  cap : cap ≤ maxLen
theorem u16_of {n : Int} (h : (Lit.int .u16 n).wf = true) : ∃ c : UInt16, n = (c.toNat : Int) := by
  have h2 : IntKind.u16.min ≤ n ∧ n ≤ IntKind.u16.max := by simpa [Lit.wf] using h
  have h3 : (0 : Int) ≤ n ∧ n ≤ 65535 := h2
  refine ⟨UInt16.ofNat n.toNat, ?_⟩
  simp
  omega
theorem came_row {w : World} {a : Option Addr} {len cap : Nat} {zs : List Int} (h : IsRow .u16 w a len cap zs) : ∃ l, CountsIn w a len cap l := by
  rcases h with ⟨rfl, rfl, rfl, rfl⟩ | ⟨x, rfl, hl, hm, hz, hc, hw⟩
  · exact ⟨[], rfl, .inl rfl, Nat.le_refl _, Nat.zero_le _⟩
  · have each : ∀ i, i < zs.length → ∃ q : UInt16, zs.getD i 0 = (q.toNat : Int) := fun i hi => by
      obtain ⟨c, hc⟩ := u16_of (hw zs[i] (List.getElem_mem hi))
      exact ⟨c, by simp [List.getD, hi, hc]⟩
    obtain ⟨F, hF⟩ : ∃ F : Nat → UInt16, ∀ i, i < zs.length → zs.getD i 0 = ((F i).toNat : Int) :=
      ⟨fun i => if h : i < zs.length then (each i h).choose else 0, fun i h => by simp only [h, dif_pos]; exact (each i h).choose_spec⟩
    refine ⟨(List.range len).map F, by simp, ?_, hl, hm⟩
    rcases Nat.eq_zero_or_pos len with h0 | h0
    · left; subst h0; rfl
    · have h1 := hc 0 (by omega)
      obtain ⟨b, o, spot⟩ := x
      have hspot : spot = none := by simpa [Addr.add] using World.cell?_spot h1
      subst hspot
      refine .inr ⟨b, o, rfl, fun i hi => ?_⟩
      rw [length_nums] at hi
      have hil : i < len := by simpa using hi
      have h2 := hc i (by omega)
      rw [Oct.add_plain, hF i (by omega)] at h2
      rw [h2]
      simp [nums, num]
section
variable {H : Type} {enc : TypeId × Value → H} {W : World}
theorem came_counts {d : DataW H} {p : List MemPlace} (a : Option Addr) (len cap : Nat) (h : DataW.Trod enc Try.prog W 0 (fun _ => true) true 22 (.slice a len cap) d p) : ∃ l, CountsIn W a len cap l := by
  obtain ⟨fuel, hf⟩ := h
  have : ∃ zs, IsRow .u16 W a len cap zs := by
    rcases open_ints Try.underlying22 Try.underlying61 (by kernel_rfl) hf with ⟨hcs, _⟩ | ⟨x, l, c, zs, hcs, _, hl, hm, hz, _, hcell, hwz⟩
    · simp [Value.cells] at hcs
      obtain ⟨rfl, rfl, rfl⟩ := hcs
      exact ⟨[], .inl ⟨rfl, rfl, rfl, rfl⟩⟩
    · simp [Value.cells] at hcs
      obtain ⟨rfl, rfl, rfl⟩ := hcs
      exact ⟨zs, .inr ⟨_, rfl, hl, hm, by simpa using hz, hcell, hwz⟩⟩
  obtain ⟨zs, h⟩ := this
  exact came_row h
end

set_option maxRecDepth 100000 in
set_option maxHeartbeats 8000000 in
theorem of_walk (AC : Option Addr) (n capc : Nat) (lc : List UInt16) (A : Option Addr) (len cap : Nat) (l : List Opr) (w : World) (hc : CountsIn w AC n capc lc) (ho : OpsIn w A len cap l) :
    Calls Try.prog 3 #[.slice AC n capc, .slice A len cap] w fun e w' => e = .returned (.bool true) ∧ Below w.heap.size w w' := by
  have hz := zero_rtally
  obtain ⟨m, hm⟩ : ∃ m : Nat, m = min len 40 := ⟨_, rfl⟩
  have hmin : min (len : Int) 40 = (m : Int) := by omega
  have hml : m ≤ len := by omega
  have hm40 : m ≤ 40 := by omega
  have hle := ho.le
  have hcap := ho.cap
  have hlec := hc.le
  have hcapc := hc.cap
  unfold maxLen at hcap hcapc
  have HO := Lib.hid ho
  have HCI := Lib.hid hc
  clear hm ho hc
  by_cases h5 : 5000 < n
  · have h5i : (5000 : Int) < (n : Int) := by omega
    go_enter Try.func3, Try.ntmps3
    go_wp2_with fail
    refine (awake_any _).mono ?_
    rintro e w1 ⟨rfl, bz⟩
    have HB1 := Lib.hid bz
    clear bz
    go_wp2_with fail
    go_ret
    exact ⟨rfl, HB1.out⟩
  have h5i : ¬ ((5000 : Int) < (n : Int)) := by omega
  by_cases hbad : (n : Int) < 1 ∨ 4096 < (n : Int)
  · have HBD := Lib.hid hbad
    clear hbad
    go_enter Try.func3, Try.ntmps3
    go_wp2_with fail
    refine (of_no HBD.out).mono ?_
    rintro e w' ⟨rfl, rfl⟩
    go_wp2_with fail
    refine (rof_no HBD.out).mono ?_
    rintro e w1 ⟨rfl, bz⟩
    have B2 := (Below.refl w1.heap.size w1).alloc (Nat.le_refl _) (.cells #[.slice none 0 0, .slice none 0 0] 31)
    have R2 := alloc_rowV w1 31 [.slice none 0 0, .slice none 0 0]
    have HB2 := Lib.hid (bz.trans (B2.mono bz.size))
    clear bz B2
    go_upto_region 5 with (fail)
    generalize w1.alloc (.cells #[.slice none 0 0, .slice none 0 0] 31) = w2 at *
    have g0 := R2.cellAt (i := 0) rfl
    clear R2
    have HN := fun k => Lib.hid (show Nay (w2.drewN k) (.pointer none) from .inl rfl)
    have HN1 := Lib.hid (show Nay w2.drew (.pointer none) from .inl rfl)
    have HB3 := Lib.hid (HB2.out.drew)
    go_upto_region 8 with (fail)
    go_region_with (first | (go_at_call 12; refine (blocks_nay _ _ HN1.out).mono ?_; rintro e w' ⟨rfl, rfl⟩) | (go_at_call 9; refine (awake_any _).mono ?_; rintro e w4 ⟨rfl, bz⟩; have HB4 := Lib.hid (HB3.out.trans (bz.mono HB3.out.size)); clear bz))
    all_goals
      go_wp2_with fail
      go_ret
      exact ⟨rfl, HB4.out⟩
  have h1n : 1 ≤ n := by omega
  have hn2 : n ≤ 4096 := by omega
  clear hbad
  go_enter Try.func3, Try.ntmps3
  go_wp2_with fail
  refine (of_yes HCI.out.told HCI.out.hlen h1n hn2).mono ?_
  rintro e w0 ⟨ta, cb, mb, kk, rfl, hf⟩
  have HA0 := Lib.hid hf.at'
  have HB0 := Lib.hid hf.below
  have HC := Lib.hid hf.hc
  have HM := Lib.hid hf.hm
  clear hf
  go_wp2_with fail
  refine (rof_yes (HCI.out.told.below HB0.out) HCI.out.hlen h1n hn2).mono ?_
  rintro e w1 ⟨i1, j1, i2, j2, rfl, hr, bz⟩
  have HA1 := Lib.hid (HA0.out.kept bz)
  have HB1 := Lib.hid (HB0.out.trans (bz.mono HB0.out.size))
  have HR1 := Lib.hid hr
  clear bz hr HA0
  go_upto_region 5 with (fail)
  have B2 := (Below.refl w1.heap.size w1).alloc (Nat.le_refl _) (.cells #[.slice (some ⟨i1, 0, none⟩) n j1, .slice (some ⟨i2, 0, none⟩) n j2] 31)
  have R2 := alloc_rowV w1 31 [.slice (some ⟨i1, 0, none⟩) n j1, .slice (some ⟨i2, 0, none⟩) n j2]
  obtain ⟨p, hp⟩ : ∃ p, p = w1.heap.size := ⟨_, rfl⟩
  have HPB := Lib.hid (show Both (w1.alloc (.cells #[.slice (some ⟨i1, 0, none⟩) n j1, .slice (some ⟨i2, 0, none⟩) n j2] 31)) ta cb mb kk n p (St.of lc) i1 j1 i2 j2 from ⟨HA1.out.kept B2, HR1.out.below B2, by rw [hp]; exact R2, HCI.out.hlen⟩)
  have HB2 := Lib.hid (HB1.out.trans (B2.mono HB1.out.size))
  have HPW := Lib.hid (show w.heap.size ≤ p by rw [hp]; exact HB1.out.size)
  rw [← hp]
  clear B2 R2 hp HA1 HR1 HB1
  generalize w1.alloc (.cells #[.slice (some ⟨i1, 0, none⟩) n j1, .slice (some ⟨i2, 0, none⟩) n j2] 31) = w2 at *
  by_cases h3 : 300 < n
  · have h3i : (300 : Int) < (n : Int) := by omega
    have g0 := HPB.out.row.cellAt (i := 0) rfl
    have HAD := Lib.hid (show At w2.drew ta cb mb kk (St.of lc) from HPB.out.at'.blocks rfl rfl rfl)
    have HSN := Lib.hid (show (St.of lc).n = n from HPB.out.hn)
    have HB3 := Lib.hid (HB2.out.drew)
    go_upto_region 8 with (fail)
    go_region_with (first | (go_at_call 12; refine (blocks_eq HAD.out HSN.out).mono ?_; rintro e w' ⟨rfl, rfl⟩) | (go_at_call 9; refine (awake_any _).mono ?_; rintro e w4 ⟨rfl, bz⟩; have HB4 := Lib.hid (HB3.out.trans (bz.mono HB3.out.size)); clear bz))
    all_goals
      go_wp2_with fail
      go_ret
      exact ⟨rfl, HB4.out⟩
  have h3i : ¬ ((300 : Int) < (n : Int)) := by omega
  have HP2 := Lib.hid (show ∃ s b1 c1 b2 c2, Both w2 ta cb mb kk n p s b1 c1 b2 c2 from ⟨_, _, _, _, _, HPB.out⟩)
  clear HPB
  go_wp2_with fail
  go_loopw [54] (fun c wr => ∃ k : Nat, k ≤ m ∧ c = .int .i64 (k : Int) ∧ Hid (∃ s b1 c1 b2 c2, Both wr ta cb mb kk n p s b1 c1 b2 c2) ∧ Hid (Below w.heap.size w wr)) (fun c _ => m - (Go.RowKit.intOf c).toNat)
  case atStart => exact ⟨0, by omega, rfl, HP2, HB2⟩
  case round =>
    obtain ⟨k, hk, rfl, HS, HB⟩ := hrel
    by_cases hlt : k < m
    · have hki : (k : Int) < (m : Int) := by omega
      have hge : (0 : Int) ≤ (k : Int) := by omega
      obtain ⟨ob, o, x, rfl, hxk, hlies, hwf⟩ := HO.out.at (k := k) (by omega)
      have hl2 := hlies.below HB.out
      have d0 := hl2.c0
      have d1 := hl2.c1
      clear hlies hl2 hwf hxk
      go_upto_region 12 with (fail)
      have B1 := (Below.refl wr.heap.size wr).alloc (Nat.le_refl _) (.cells #[.int .u8 (x.what.toNat : Int), .int .i64 x.b] 36)
      have R1 := alloc_rowV wr 36 [.int .u8 (x.what.toNat : Int), .int .i64 x.b]
      obtain ⟨s, b1, c1, b2, c2, hbo⟩ := HS.out
      have HP1 := Lib.hid (hbo.below B1)
      have HB1 := Lib.hid (HB.out.trans (B1.mono HB.out.size))
      have HRN := Lib.hid (show wr.heap.size ≠ cb ∧ wr.heap.size ≠ mb ∧ wr.heap.size ≠ p from by have := hbo.at'.lts; have := hbo.row.lt; omega)
      clear d0 d1 B1 hbo HS
      generalize wr.alloc (.cells #[.int .u8 (x.what.toNat : Int), .int .i64 x.b] 36) = w3 at *
      obtain ⟨ro, hro⟩ : ∃ ro, ro = wr.heap.size := ⟨_, rfl⟩
      rw [← hro] at R1 HRN ⊢
      have HR1 := Lib.hid R1
      clear hro R1
      go_wp2_with fail
      go_loopw [60] (fun c wz => ∃ j : Nat, j ≤ n ∧ c = .int .i64 (j : Int) ∧ Hid (Both wz ta cb mb kk n p s b1 c1 b2 c2) ∧ Hid (Below w.heap.size w wz) ∧ Hid (RowV wz ro 36 [.int .u8 (x.what.toNat : Int), .int .i64 x.b])) (fun c _ => n - (Go.RowKit.intOf c).toNat)
      case atStart => exact ⟨0, by omega, rfl, HP1, HB1, HR1⟩
      case round =>
        obtain ⟨i, hi, rfl, HP6, HB6, HR6⟩ := hrel
        by_cases hli : i < n
        · have hii : (i : Int) < (n : Int) := by omega
          have hgi : (0 : Int) ≤ (i : Int) := by omega
          have hni : (n : Int) ≤ 4096 := by omega
          have g0 := HP6.out.row.cellAt (i := 0) rfl
          have g1 := HP6.out.row.cellAt (i := 1) rfl
          have hin : i < s.n := by rw [HP6.out.hn]; exact hli
          have cn := HP6.out.rat.cnt hin
          have cw := HP6.out.rat.was hin
          have hu1 := u16_lt (s.cnt i)
          have hu2 := u16_lt (s.was i)
          cases hf : s.free i
          · have z3 : ¬ (((s.cnt i).toNat : Int) + ((s.was i).toNat : Int) = 0) := fun e => by
              have e1 : s.cnt i = 0 := UInt16.toNat_inj.1 (by show _ = 0; omega)
              have e2 : s.was i = 0 := UInt16.toNat_inj.1 (by show _ = 0; omega)
              unfold St.free at hf
              rw [e1, e2] at hf
              cases hf
            obtain ⟨C1, hC1⟩ : ∃ C1 : Int, ((s.cnt i).toNat : Int) = C1 := ⟨_, rfl⟩
            obtain ⟨C2, hC2⟩ : ∃ C2 : Int, ((s.was i).toNat : Int) = C2 := ⟨_, rfl⟩
            have k1 : (0 : Int) ≤ C1 := by omega
            have k2 : C1 ≤ 65535 := by omega
            have k3 : (0 : Int) ≤ C2 := by omega
            have k4 : C2 ≤ 65535 := by omega
            rw [hC1] at cn z3
            rw [hC2] at cw z3
            have HC1 := Lib.hid hC1
            obtain ⟨C3, hC3⟩ : ∃ C3 : Int, C1 + C2 = C3 := ⟨_, rfl⟩
            have hwr : IntKind.i64.wrap (C1 + C2) = C3 := by rw [IntKind.wrap_i64]; omega
            have z4 : (C3 == 0) = false := by rw [beq_eq_false_iff_ne]; omega
            clear hC1 hC2 hu1 hu2 hC3 z3 k1 k2 k3 k4
            go_upto_region 15 with (fail)
            go_big_quiet (first | (go_at_call 13; exact Calls.quiet_of_same (calls_flip (get_eq (HP6.out.at'.drewN _) i hin C1 HC1.out))) | (go_at_call 14; exact Calls.quiet_of_same (calls_flip (free_eq (HP6.out.at'.drewN _) i hin false hf))))
            have HS7 := Lib.hid (show Still wr (wr.drewN nq) from ⟨rfl, rfl, rfl, rfl⟩)
            go_wp2_with fail
            go_roundw
            case rel => exact ⟨i + 1, by omega, by go_num, Lib.hid (HP6.out.still HS7.out), Lib.hid (HB6.out.trans (HS7.out.below _)), Lib.hid (HR6.out.still HS7.out)⟩
            case measure => simp [Go.RowKit.intOf]; omega
          · have z1 : ((s.cnt i).toNat : Int) = 0 := cnt_of_free hf
            have z2 : ((s.was i).toNat : Int) = 0 := by
              unfold St.free at hf
              have h2 := (Bool.and_eq_true _ _ ▸ hf).2
              have e2 : s.was i = 0 := (by simpa using h2)
              rw [e2]
              rfl
            rw [z1] at cn
            rw [z2] at cw
            go_upto_region 15 with (fail)
            go_big_quiet (first | (go_at_call 13; exact Calls.quiet_of_same (calls_flip (get_eq (HP6.out.at'.drewN _) i hin 0 z1))) | (go_at_call 14; exact Calls.quiet_of_same (calls_flip (free_eq (HP6.out.at'.drewN _) i hin true hf))))
            have HS7 := Lib.hid (show Still wr (wr.drewN nq) from ⟨rfl, rfl, rfl, rfl⟩)
            go_wp2_with fail
            go_roundw
            case rel => exact ⟨i + 1, by omega, by go_num, Lib.hid (HP6.out.still HS7.out), Lib.hid (HB6.out.trans (HS7.out.below _)), Lib.hid (HR6.out.still HS7.out)⟩
            case measure => simp [Go.RowKit.intOf]; omega
        · obtain rfl : i = n := by omega
          have g0 := HP6.out.row.cellAt (i := 0) rfl
          have g1 := HP6.out.row.cellAt (i := 1) rfl
          obtain ⟨w6, hw6⟩ : ∃ x, x = wr := ⟨_, rfl⟩
          subst hw6
          go_wp2_with fail
          refine (rcount' HP6.out.rat HP6.out.hn).mono ?_
          rintro e w7 ⟨v, rfl, lz, bz⟩
          have HP7 := Lib.hid (HP6.out.below bz)
          have HB7 := Lib.hid (HB6.out.trans (bz.mono HB6.out.size))
          have HR7 := Lib.hid (HR6.out.below HR6.out.lt bz)
          have HL7 := Lib.hid lz
          clear bz lz g0 g1 HP6 HB6 HR6
          go_wp2_with fail
          refine (frees_at HP7.out.at').mono ?_
          rintro e w8 ⟨rfl, bz⟩
          have HP8 := Lib.hid (HP7.out.below bz)
          have HB8 := Lib.hid (HB7.out.trans (bz.mono HB7.out.size))
          have HR8 := Lib.hid (HR7.out.below HR7.out.lt bz)
          have HL8 := Lib.hid (HL7.out.still bz)
          clear bz HP7 HB7 HR7 HL7
          go_wp2_with fail
          refine (idle_at HP8.out.at').mono ?_
          rintro e w9 ⟨rfl, bz⟩
          have HP9 := Lib.hid (HP8.out.below bz)
          have HB9 := Lib.hid (HB8.out.trans (bz.mono HB8.out.size))
          have HR9 := Lib.hid (HR8.out.below HR8.out.lt bz)
          have HL9 := Lib.hid (HL8.out.still bz)
          clear bz HP8 HB8 HR8 HL8
          go_wp2_with fail
          refine (list_at HP9.out.at').mono ?_
          rintro e wa ⟨vz, rfl, lz, bz⟩
          have HPa := Lib.hid (HP9.out.below bz)
          have HBa := Lib.hid (HB9.out.trans (bz.mono HB9.out.size))
          have HRa := Lib.hid (HR9.out.below HR9.out.lt bz)
          have HLa := Lib.hid (HL9.out.still bz)
          have HVa := Lib.hid lz
          clear bz lz HP9 HB9 HR9 HL9
          go_wp2_with fail
          refine (same_yes HVa.out HLa.out (few_changed HPa.out.at'.ok)).mono ?_
          rintro e wb ⟨rfl, bz⟩
          have HP1 := Lib.hid (HPa.out.below bz)
          have HB1 := Lib.hid (HBa.out.trans (bz.mono HBa.out.size))
          have HR1 := Lib.hid (HRa.out.below HRa.out.lt bz)
          clear bz HPa HBa HRa HLa HVa
          have d0 := HR1.out.cellAt (i := 0) rfl
          have d1 := HR1.out.cellAt (i := 1) rfl
          have g0 := HP1.out.row.cellAt (i := 0) rfl
          have g1 := HP1.out.row.cellAt (i := 1) rfl
          have hq4 := u8_lt x.what
          rcases (show x.what.toNat % 4 = 0 ∨ x.what.toNat % 4 = 1 ∨ x.what.toNat % 4 = 2 ∨ x.what.toNat % 4 = 3 by omega) with hm4 | hm4 | hm4 | hm4
          · have hmI : (x.what.toNat : Int) % 4 = 0 := by omega
            clear hm4
            go_wp2_with fail
            refine (up_at HP1.out.at' x.b).mono ?_
            rintro e w4 ⟨rfl, az, bz⟩
            have hap := HP1.out.rat.apart HP1.out.at'
            have HA4 := Lib.hid az
            have HRA4 := Lib.hid (HP1.out.rat.but bz hap)
            have HB4 := Lib.hid (HB1.out.trans (bz.below HC.out HM.out HB1.out.size))
            have hnr := HP1.out.at'.ne_row HP1.out.row
            have HPR4 := Lib.hid (row_but HP1.out.row bz (fun e => hnr.2.1 e.symm) (fun e => hnr.2.2 e.symm))
            have HR4 := Lib.hid (row_but HR1.out bz HRN.out.1 HRN.out.2.1)
            clear az bz hap hnr d0 d1 g0 g1
            have g0 := HPR4.out.cellAt (i := 0) rfl
            have g1 := HPR4.out.cellAt (i := 1) rfl
            have d1 := HR4.out.cellAt (i := 1) rfl
            go_wp2_with fail
            refine (radd_up' HRA4.out HP1.out.hn x.b).mono ?_
            rintro e w5 ⟨d1', e1', rfl, hr, bz⟩
            have HSN := Lib.hid (show (s.up x.b).2.n = i by rw [n_up]; exact HP1.out.hn)
            have HA5 := Lib.hid (HA4.out.kept bz)
            have HRA5 := Lib.hid hr
            have HB5 := Lib.hid (HB4.out.trans (bz.mono HB4.out.size))
            have HPR5 := Lib.hid (HPR4.out.below HPR4.out.lt bz)
            clear hr bz g0 g1 HA4 HRA4 HB4 HPR4 HR4 d1
            have g0 := HPR5.out.cellAt (i := 0) rfl
            have g1 := HPR5.out.cellAt (i := 1) rfl
            have f0 := HPR5.out.free 0
            have f1 := HPR5.out.free 1
            go_wp2_with fail
            go_roundw
            case rel => exact ⟨k + 1, by omega, by go_num, Lib.hid ⟨_, _, _, _, _, Both.next HA5.out HRA5.out HPR5.out HSN.out⟩, Lib.hid ((HB5.out.setCell (p := ⟨p, 0, none⟩) HPW.out _).setCell (p := ⟨p, 1, none⟩) HPW.out _)⟩
            case measure => simp [Go.RowKit.intOf]; omega
          · have hmI : (x.what.toNat : Int) % 4 = 1 := by omega
            clear hm4
            go_wp2_with fail
            refine (down_at HP1.out.at' x.b).mono ?_
            rintro e w4 ⟨rfl, az, bz⟩
            have hap := HP1.out.rat.apart HP1.out.at'
            have HA4 := Lib.hid az
            have HRA4 := Lib.hid (HP1.out.rat.but bz hap)
            have HB4 := Lib.hid (HB1.out.trans (bz.below HC.out HM.out HB1.out.size))
            have hnr := HP1.out.at'.ne_row HP1.out.row
            have HPR4 := Lib.hid (row_but HP1.out.row bz (fun e => hnr.2.1 e.symm) (fun e => hnr.2.2 e.symm))
            have HR4 := Lib.hid (row_but HR1.out bz HRN.out.1 HRN.out.2.1)
            clear az bz hap hnr d0 d1 g0 g1
            have g0 := HPR4.out.cellAt (i := 0) rfl
            have g1 := HPR4.out.cellAt (i := 1) rfl
            have d1 := HR4.out.cellAt (i := 1) rfl
            go_wp2_with fail
            refine (radd_down' HRA4.out HP1.out.hn x.b).mono ?_
            rintro e w5 ⟨d1', e1', rfl, hr, bz⟩
            have HSN := Lib.hid (show (s.down x.b).2.n = i by rw [n_down]; exact HP1.out.hn)
            have HA5 := Lib.hid (HA4.out.kept bz)
            have HRA5 := Lib.hid hr
            have HB5 := Lib.hid (HB4.out.trans (bz.mono HB4.out.size))
            have HPR5 := Lib.hid (HPR4.out.below HPR4.out.lt bz)
            clear hr bz g0 g1 HA4 HRA4 HB4 HPR4 HR4 d1
            have g0 := HPR5.out.cellAt (i := 0) rfl
            have g1 := HPR5.out.cellAt (i := 1) rfl
            have f0 := HPR5.out.free 0
            have f1 := HPR5.out.free 1
            go_wp2_with fail
            go_roundw
            case rel => exact ⟨k + 1, by omega, by go_num, Lib.hid ⟨_, _, _, _, _, Both.next HA5.out HRA5.out HPR5.out HSN.out⟩, Lib.hid ((HB5.out.setCell (p := ⟨p, 0, none⟩) HPW.out _).setCell (p := ⟨p, 1, none⟩) HPW.out _)⟩
            case measure => simp [Go.RowKit.intOf]; omega
          · have hmI : (x.what.toNat : Int) % 4 = 2 := by omega
            clear hm4
            go_wp2_with fail
            refine (keep_at HP1.out.at').mono ?_
            rintro e w4 ⟨rfl, az, bz⟩
            have hap := HP1.out.rat.apart HP1.out.at'
            have HA4 := Lib.hid az
            have HRA4 := Lib.hid (HP1.out.rat.but bz hap)
            have HB4 := Lib.hid (HB1.out.trans (bz.below HC.out HM.out HB1.out.size))
            have hnr := HP1.out.at'.ne_row HP1.out.row
            have HPR4 := Lib.hid (row_but HP1.out.row bz (fun e => hnr.2.1 e.symm) (fun e => hnr.2.2 e.symm))
            have HR4 := Lib.hid (row_but HR1.out bz HRN.out.1 HRN.out.2.1)
            clear az bz hap hnr d0 d1 g0 g1
            dsimp only
            have g0 := HPR4.out.cellAt (i := 0) rfl
            have g1 := HPR4.out.cellAt (i := 1) rfl
            go_wp2_with fail
            refine (rkeep' HRA4.out HP1.out.hn).mono ?_
            rintro e w5 ⟨rfl, hr, bz⟩
            have HSN := Lib.hid (show s.keep.n = i by exact HP1.out.hn)
            have HA5 := Lib.hid (HA4.out.kept bz)
            have HRA5 := Lib.hid hr
            have HB5 := Lib.hid (HB4.out.trans (bz.mono HB4.out.size))
            have HPR5 := Lib.hid (HPR4.out.below HPR4.out.lt bz)
            clear hr bz g0 g1 HA4 HRA4 HB4 HPR4 HR4
            have g0 := HPR5.out.cellAt (i := 0) rfl
            have g1 := HPR5.out.cellAt (i := 1) rfl
            have f0 := HPR5.out.free 0
            have f1 := HPR5.out.free 1
            go_wp2_with fail
            go_roundw
            case rel => exact ⟨k + 1, by omega, by go_num, Lib.hid ⟨_, _, _, _, _, Both.next HA5.out HRA5.out HPR5.out HSN.out⟩, Lib.hid ((HB5.out.setCell (p := ⟨p, 0, none⟩) HPW.out _).setCell (p := ⟨p, 1, none⟩) HPW.out _)⟩
            case measure => simp [Go.RowKit.intOf]; omega
          · have hmI : (x.what.toNat : Int) % 4 = 3 := by omega
            clear hm4
            go_wp2_with fail
            refine (back_at HP1.out.at').mono ?_
            rintro e w4 ⟨rfl, az, bz⟩
            have hap := HP1.out.rat.apart HP1.out.at'
            have HA4 := Lib.hid az
            have HRA4 := Lib.hid (HP1.out.rat.but bz hap)
            have HB4 := Lib.hid (HB1.out.trans (bz.below HC.out HM.out HB1.out.size))
            have hnr := HP1.out.at'.ne_row HP1.out.row
            have HPR4 := Lib.hid (row_but HP1.out.row bz (fun e => hnr.2.1 e.symm) (fun e => hnr.2.2 e.symm))
            have HR4 := Lib.hid (row_but HR1.out bz HRN.out.1 HRN.out.2.1)
            clear az bz hap hnr d0 d1 g0 g1
            dsimp only
            have g0 := HPR4.out.cellAt (i := 0) rfl
            have g1 := HPR4.out.cellAt (i := 1) rfl
            go_wp2_with fail
            refine (rback' HRA4.out HP1.out.hn).mono ?_
            rintro e w5 ⟨rfl, hr, bz⟩
            have HSN := Lib.hid (show s.back.n = i by have := HP1.out.at'.ok.len; have h2 := HP1.out.hn; unfold St.n at h2; show s.kept.length = i; omega)
            have HA5 := Lib.hid (HA4.out.kept bz)
            have HRA5 := Lib.hid hr
            have HB5 := Lib.hid (HB4.out.trans (bz.mono HB4.out.size))
            have HPR5 := Lib.hid (HPR4.out.below HPR4.out.lt bz)
            clear hr bz g0 g1 HA4 HRA4 HB4 HPR4 HR4
            have g0 := HPR5.out.cellAt (i := 0) rfl
            have g1 := HPR5.out.cellAt (i := 1) rfl
            have f0 := HPR5.out.free 0
            have f1 := HPR5.out.free 1
            go_wp2_with fail
            go_roundw
            case rel => exact ⟨k + 1, by omega, by go_num, Lib.hid ⟨_, _, _, _, _, Both.next HA5.out HRA5.out HPR5.out HSN.out⟩, Lib.hid ((HB5.out.setCell (p := ⟨p, 0, none⟩) HPW.out _).setCell (p := ⟨p, 1, none⟩) HPW.out _)⟩
            case measure => simp [Go.RowKit.intOf]; omega
    · obtain rfl : k = m := by omega
      go_wp2_with fail
      refine (awake_any _).mono ?_
      rintro e w1 ⟨rfl, bz⟩
      have HB1 := Lib.hid (HB.out.trans (bz.mono HB.out.size))
      clear bz
      go_wp2_with fail
      go_ret
      exact ⟨rfl, HB1.out⟩
end Go.Proofs.Ytigmgaedpdeleaa.Tl
