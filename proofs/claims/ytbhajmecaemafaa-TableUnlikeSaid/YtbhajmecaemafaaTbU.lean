/- TableUnlike: its walk. (Written by bin/gen_tbunlike.py.) -/
import Derived.Test.YtbhajmecaemafaaTbK
namespace Go.Proofs.Ytbhajmecaemafaa.Tb
open Go.RowKit Go.Proofs.Ytbhajmecaemafaa.Oct
set_option linter.unusedVariables false

set_option maxRecDepth 100000 in
set_option maxHeartbeats 4000000 in
theorem unlike_walk (A : Option Addr) (n c : Nat) (l : List Pair) (a1 : Int) (A2 : Option Addr) (n2 c2 : Nat) (z2 : List Int) (w : World) (hp : PIn w A n c l) (w1 : (Lit.int .u64 a1).wf = true) (w2 : IsRow .u8 w A2 n2 c2 z2) :
    Calls Try.prog 5 #[.slice A n c, .int .u64 a1, .slice A2 n2 c2] w fun e w' => e = .returned (.bool true) ∧ Below w.heap.size w w' := by
  obtain ⟨rest, rfl⟩ := u64_of w1
  obtain ⟨bs, hb⟩ := came w2
  have HO := Lib.hid (show Part.Ok w ⟨A2, n2, c2, bs⟩ from ⟨hb.hlen, hb.told, Nat.le_trans hb.le hb.hcap⟩)
  have HP := Lib.hid hp
  have HB := Lib.hid (Below.refl w.heap.size w)
  have HL := Lib.hid hp.el
  have HA := Lib.hid (show ∀ w2 : World, Below w.heap.size w w2 → Calls Try.prog 8 #[] w2 fun e w' => e = .returned (.bool true) ∧ Below w.heap.size w w' from fun w2 k => (awake_any w2).mono fun e w' ⟨h1, h2⟩ => ⟨h1, k.trans (h2.mono k.size)⟩)
  clear w1 w2 hb hp
  go_enter Try.func5, Try.ntmps5
  by_cases h40 : 40 < n
  · have h40i : (40 : Int) < (n : Int) := by omega
    go_wp2_with fail
    refine (HA.out _ HB.out).mono ?_
    rintro e wl ⟨rfl, kl⟩
    go_wp2_with fail
    go_ret
    exact ⟨rfl, kl⟩
  have h40i : ¬ ((40 : Int) < (n : Int)) := by omega
  by_cases h128 : n2 = 128
  case neg =>
    have h128i : ¬ ((n2 : Int) = 128) := by omega
    go_wp2_with fail
    refine (HA.out _ HB.out).mono ?_
    rintro e wl ⟨rfl, kl⟩
    go_wp2_with fail
    go_ret
    exact ⟨rfl, kl⟩
  subst h128
  go_wp2_with fail
  refine (new_uni HP.out rest).mono ?_
  rintro e v1 ⟨tp, rfl, ht, kk⟩
  replace HP := Lib.hid (HP.out.kept kk)
  replace HO := Lib.hid (HO.out.kept kk)
  replace HB := Lib.hid (HB.out.trans (kk.mono HB.out.size))
  have HT := Lib.hid (show Maybe v1 tp (tells l) rest from ht)
  clear ht
  clear kk
  generalize hk1 : newErr (tells l) = k1
  by_cases e1 : k1 = 0
  case neg =>
    have e1b : (k1 == 0) = false := by rw [beq_eq_false_iff_ne]; exact e1
    go_wp2_with fail
    refine (HA.out _ HB.out).mono ?_
    rintro e wl ⟨rfl, kl⟩
    go_wp2_with fail
    go_ret
    exact ⟨rfl, kl⟩
  subst e1
  have HG := Lib.hid (newErr_good hk1)
  obtain ⟨a, b, rfl, T1⟩ := HT.out hk1
  have HT' := Lib.hid T1
  clear T1 HT hk1
  go_wp2_with fail
  go_loopw [41] (fun i wr => ∃ k : Nat, k ≤ n ∧ i = .int .i64 (k : Int) ∧ Hid (∀ p ∈ l.take k, p.bs ≠ bs) ∧ Hid (PIn wr A n c l) ∧ Hid (Part.Ok wr ⟨A2, 128, c2, bs⟩) ∧ Hid (Tab wr a b (tells l) rest) ∧ Hid (Below w.heap.size w wr)) (fun i _ => n - (intOf i).toNat)
  case atStart => exact ⟨0, Nat.zero_le _, rfl, Lib.hid (by simp), HP, HO, HT', HB⟩
  case round =>
    obtain ⟨k, hk, rfl, HN, HPq, HOq, HT'q, HBq⟩ := hrel
    clear HP HO HT' HB
    have HP := HPq
    have HO := HOq
    have HT' := HT'q
    have HB := HBq
    clear HPq HOq HT'q HBq
    by_cases hlt : k < n
    case pos =>
      have hki : (k : Int) < (n : Int) := by omega
      have hkl : k < l.length := by rw [HL.out]; exact hlt
      obtain ⟨pb, po, hA, hpb, c1, c2'⟩ := HP.out.at hlt
      subst hA
      have HOK := Lib.hid (HP.out.ok l[k] (List.getElem_mem hkl))
      generalize hpe : l[k] = p at c1 c2' HOK
      have HPE := Lib.hid hpe
      clear hpe
      obtain ⟨pA, pn, pc, pbs, ppr⟩ := p
      simp only at c1 c2'
      go_upto_region 9 with (fail)
      have kk := (Below.refl wr.heap.size wr).alloc (Nat.le_refl _) (.cells #[.slice pA pn pc, .int .u64 (ppr.toNat : Int)] 28)
      have P1 := alloc_rowV wr 28 [.slice pA pn pc, .int .u64 (ppr.toNat : Int)]
      change RowV (wr.alloc (.cells #[.slice pA pn pc, .int .u64 (ppr.toNat : Int)] 28)) _ _ _ at P1
      have HOK1 := Lib.hid (HOK.out.below kk)
      have HR1 := Lib.hid (RowV.Held P1)
      replace HP := Lib.hid (HP.out.kept kk)
      replace HO := Lib.hid (HO.out.kept kk)
      replace HT' := Lib.hid (HT'.out.kept kk)
      replace HB := Lib.hid (HB.out.trans (kk.mono HB.out.size))
      clear HOK kk c1 c2' hpb
      generalize wr.alloc (.cells #[.slice pA pn pc, .int .u64 (ppr.toNat : Int)] 28) = v2 at *
      generalize wr.heap.size = pv at *
      have d1 := P1.cellAt (i := 0) rfl
      clear P1
      go_wp2_with fail
      refine (equal_len pA A2 pn 128 pc c2 pbs bs HOK1.out.len HO.out.len _ HOK1.out.told HO.out.told).mono ?_
      rintro e wq ⟨rfl, rfl⟩
      generalize hq : (pbs == bs) = q
      rcases q with _ | _
      case true =>
        clear hq
        go_wp2_with fail
        refine (HA.out _ HB.out).mono ?_
        rintro e wl ⟨rfl, kl⟩
        go_wp2_with fail
        go_ret
        exact ⟨rfl, kl⟩
      have HN2 := Lib.hid (show ∀ p ∈ l.take (k + 1), p.bs ≠ bs by
        intro p hp
        rw [List.take_add_one, List.getElem?_eq_getElem hkl, HPE.out] at hp
        rcases List.mem_append.1 hp with hp | hp
        · exact HN.out p hp
        · obtain rfl : p = _ := by simpa using hp
          exact beq_eq_false_iff_ne.1 hq)
      clear hq HN
      go_wp2_with fail
      go_roundw
      case rel => exact ⟨k + 1, by omega, by go_num, HN2, HP, HO, HT', HB⟩
      case measure => simp [intOf]; omega
    case neg =>
      obtain rfl : k = n := by omega
      have HFP := Lib.hid (blks_pout (rest := rest) HG.out (x := ⟨A2, 128, c2, bs⟩) HO.out.len (by have := HN.out; rwa [List.take_of_length_le (by rw [HL.out]; exact Nat.le_refl _)] at this))
      clear HN
      obtain ⟨wB, hwB⟩ : ∃ x, x = wr := ⟨_, rfl⟩
      subst hwB
      have kk := (Below.refl wB.heap.size wB).alloc (Nat.le_refl _) (.cells #[.slice A2 128 c2] 26)
      have HW0 := Lib.hid (OwnB.lit wB A2 128 c2 bs)
      have HBB := Lib.hid kk
      clear kk
      go_wp2_with fail
      have HP0 := HP
      have HO0 := HO
      have HT0 := HT'
      have HB0 := HB
      clear HP HO HT' HB
      go_loopw [11, 55] (fun v i wr => ∃ j : Nat, j ≤ k ∧ i = .int .i64 (j : Int) ∧ Hid (OwnB wr wB.heap.size v (blks ⟨A2, 128, c2, bs⟩ (l.take j))) ∧ Hid (Below wB.heap.size wB wr)) (fun _ i _ => k - (intOf i).toNat)
      case atStart => exact ⟨0, Nat.zero_le _, rfl, HW0, HBB⟩
      case round =>
        obtain ⟨j, hj, rfl, HW, HBq⟩ := hrel
        clear HBB HW0
        rename_i v i
        have HBB := HBq
        clear HBq
        by_cases hlt2 : j < k
        case pos =>
          have HP := Lib.hid (HP0.out.kept HBB.out)
          have hkl : j < l.length := by rw [HL.out]; exact hlt2
          have hki : (j : Int) < (k : Int) := by omega
          obtain ⟨pb, po, hA, hpb, c1, c2'⟩ := HP.out.at hlt2
          subst hA
          have hbt := blks_take ⟨A2, 128, c2, bs⟩ l hkl
          generalize l[j] = p at c1 c2' hbt
          obtain ⟨pA, pn, pc, pbs, ppr⟩ := p
          simp only at c1 c2'
          go_upto_region 16 with (fail)
          have kk := (Below.refl wr.heap.size wr).alloc (Nat.le_refl _) (.cells #[.slice pA pn pc, .int .u64 (ppr.toNat : Int)] 28)
          have P1 := alloc_rowV wr 28 [.slice pA pn pc, .int .u64 (ppr.toNat : Int)]
          change RowV (wr.alloc (.cells #[.slice pA pn pc, .int .u64 (ppr.toNat : Int)] 28)) _ _ _ at P1
          have hw1 := HW.out.kept kk (Nat.le_refl _)
          have hb1 := HBB.out.trans (kk.mono HBB.out.size)
          clear HP HW HBB kk c1 c2' hpb
          generalize wr.alloc (.cells #[.slice pA pn pc, .int .u64 (ppr.toNat : Int)] 28) = u1 at *
          generalize wr.heap.size = pv at *
          have d1 := P1.cellAt (i := 0) rfl
          clear P1
          obtain ⟨x2, u2, hr2, o2, -, kk2⟩ := push_part u1 24 wB.heap.size _ _ hw1 pA pn pc pbs (by rw [length_blks]; simp; omega) hb1.size
          have o3 : OwnB u2 wB.heap.size x2 (blks ⟨A2, 128, c2, bs⟩ (l.take (j + 1))) := by rw [hbt]; exact o2
          have HBB := Lib.hid (hb1.trans kk2)
          have HW := Lib.hid o3
          clear o2 o3 kk2 hw1 hb1 hbt
          go_wp2_with (at_builtin; refine wpList_append_run rfl (.tmp 59) (.tmp 62) 24 rfl _ _ rfl rfl _ u2 hr2 ?_)
          go_roundw
          case rel => exact ⟨j + 1, by omega, by go_num, HW, HBB⟩
          case measure => simp [intOf]; omega
        case neg =>
          obtain rfl : j = k := by omega
          have hw := HW.out
          rw [List.take_of_length_le (by rw [HL.out]; exact Nat.le_refl _)] at hw
          obtain ⟨A3, c3, rfl, P3⟩ := hw.bin (blks_ok (HO0.out.kept HBB.out) (HP0.out.kept HBB.out).ok)
          rw [length_blks, HL.out] at P3 ⊢
          have HBL := Lib.hid P3
          have HT' := Lib.hid (HT0.out.kept HBB.out)
          have HB := Lib.hid (HB0.out.trans (HBB.out.mono HB0.out.size))
          have HDU := Lib.hid (dup_unlike l rest HL.out)
          have HLF := Lib.hid (show (fps l rest).length = j + 1 by rw [length_fps, HL.out])
          have HLB := Lib.hid (show (blks ⟨A2, 128, c2, bs⟩ l).length = j + 1 by rw [length_blks, HL.out])
          clear hw P3 HW HBB HP0 HO0 HT0 HB0
          generalize blks ⟨A2, 128, c2, bs⟩ l = bl at *
          generalize fps l rest = F at *
          go_wp2_with fail
          go_loopw [14, 67] (fun v i wr => ∃ x : Nat, x ≤ j + 1 ∧ i = .int .i64 (x : Int) ∧ v = .bool (dupB F x 0) ∧ Hid (BIn wr A3 (j + 1) c3 bl) ∧ Hid (Tab wr a b (tells l) rest) ∧ Hid (Below w.heap.size w wr)) (fun _ i _ => j + 1 - (intOf i).toNat)
          case atStart => exact ⟨0, Nat.zero_le _, rfl, by rw [dup_zero], HBL, HT', HB⟩
          case round =>
            obtain ⟨x, hx, rfl, rfl, HBLq, HT'q, HBq⟩ := hrel
            clear HBL HT' HB
            have HBL := HBLq
            have HT' := HT'q
            have HB := HBq
            clear HBLq HT'q HBq
            by_cases hlx : x < j + 1
            case pos =>
              have hxi : (x : Int) < (j : Int) + 1 := by omega
              have hxb : x < bl.length := by rw [HLB.out]; exact hlx
              go_wp2_with fail
              go_loopw [14, 71] (fun v i wr => ∃ y : Nat, y ≤ x ∧ i = .int .i64 (y : Int) ∧ v = .bool (dupB F x y) ∧ Hid (BIn wr A3 (j + 1) c3 bl) ∧ Hid (Tab wr a b (tells l) rest) ∧ Hid (Below w.heap.size w wr)) (fun _ i _ => x - (intOf i).toNat)
              case atStart => exact ⟨0, Nat.zero_le _, rfl, rfl, HBL, HT', HB⟩
              case round =>
                obtain ⟨y, hy, rfl, rfl, HBLq, HT'q, HBq⟩ := hrel
                clear HBL HT' HB
                have HBL := HBLq
                have HT' := HT'q
                have HB := HBq
                clear HBLq HT'q HBq
                by_cases hly : y < x
                case pos =>
                  have hyi : (y : Int) < (x : Int) := by omega
                  have hyb : y < bl.length := by omega
                  obtain ⟨pb, po, hA, hpb, c1⟩ := HBL.out.at hlx
                  obtain ⟨pb', po', hA', hpb', c1'⟩ := HBL.out.at (k := y) (by omega)
                  obtain ⟨rfl, rfl⟩ : pb = pb' ∧ po = po' := by
                    rw [hA] at hA'
                    simp only [Option.some.injEq, Addr.mk.injEq, and_true] at hA'
                    exact hA'
                  clear hA' hpb'
                  subst hA
                  have HOK := Lib.hid (HBL.out.ok bl[x] (List.getElem_mem hxb))
                  have HOK2 := Lib.hid (HBL.out.ok bl[y] (List.getElem_mem hyb))
                  have HFX := Lib.hid (HFP.out x hxb)
                  have HFY := Lib.hid (HFP.out y hyb)
                  have HST := Lib.hid (dup_step F x (k := y) (by rw [HLF.out]; omega))
                  generalize bl[x] = p at c1 HOK HFX
                  generalize bl[y] = p' at c1' HOK2 HFY
                  generalize F.getD x 0 = fx at HFX HST
                  generalize F.getD y 0 = fy at HFY HST
                  obtain ⟨pA, pn, pc, pbs⟩ := p
                  obtain ⟨pA', pn', pc', pbs'⟩ := p'
                  simp only at c1 c1'
                  go_wp2_with fail
                  refine (print_is HT'.out pA pn pc pbs HOK.out.len HOK.out.told fx 0 HFX.out _ rfl).mono ?_
                  rintro e v2 ⟨rfl, kk⟩
                  replace HBL := Lib.hid (HBL.out.kept kk)
                  replace HT' := Lib.hid (HT'.out.kept kk)
                  replace HOK := Lib.hid (HOK.out.kept kk)
                  replace HOK2 := Lib.hid (HOK2.out.kept kk)
                  replace HB := Lib.hid (HB.out.trans (kk.mono HB.out.size))
                  replace c1' := (kk.cell (p := ⟨pb, po + y, none⟩) hpb).trans c1'
                  clear c1
                  clear kk
                  go_wp2_with fail
                  refine (print_is HT'.out pA' pn' pc' pbs' HOK2.out.len HOK2.out.told fy 0 HFY.out _ rfl).mono ?_
                  rintro e v3 ⟨rfl, kk⟩
                  replace HBL := Lib.hid (HBL.out.kept kk)
                  replace HT' := Lib.hid (HT'.out.kept kk)
                  replace HOK := Lib.hid (HOK.out.kept kk)
                  replace HOK2 := Lib.hid (HOK2.out.kept kk)
                  replace HB := Lib.hid (HB.out.trans (kk.mono HB.out.size))
                  clear c1'
                  clear kk
                  generalize hab : dupB F x y = ab at HST ⊢
                  clear hab
                  rcases ab with _ | _
                  case true =>
                    go_wp2_with fail
                    go_roundw
                    case rel => exact ⟨y + 1, by omega, by go_num, by rw [HST.out]; rfl, HBL, HT', HB⟩
                    case measure => simp [intOf]; omega
                  by_cases hxy : fx = fy
                  case pos =>
                    subst hxy
                    go_wp2_with fail
                    go_roundw
                    case rel => exact ⟨y + 1, by omega, by go_num, by rw [HST.out]; simp, HBL, HT', HB⟩
                    case measure => simp [intOf]; omega
                  have hne : ((fx.toNat : Int) == (fy.toNat : Int)) = false := by
                    rw [beq_eq_false_iff_ne]
                    exact fun e => hxy (UInt64.toNat_inj.1 (by omega))
                  go_wp2_with fail
                  go_roundw
                  case rel => exact ⟨y + 1, by omega, by go_num, by rw [HST.out]; simp [hxy], HBL, HT', HB⟩
                  case measure => simp [intOf]; omega
                case neg =>
                  obtain rfl : y = x := by omega
                  go_wp2_with fail
                  go_roundw
                  case rel => exact ⟨y + 1, by omega, by go_num, by rw [dup_next F (by rw [HLF.out]; omega)], HBL, HT', HB⟩
                  case measure => simp [intOf]; omega
            case neg =>
              obtain rfl : x = j + 1 := by omega
              rw [HDU.out]
              go_wp2_with fail
              refine (unlike_is HT'.out (unlike (tells l) rest) rfl).mono ?_
              rintro e v2 ⟨rfl, kk⟩
              replace HBL := Lib.hid (HBL.out.kept kk)
              replace HT' := Lib.hid (HT'.out.kept kk)
              replace HB := Lib.hid (HB.out.trans (kk.mono HB.out.size))
              clear kk
              generalize unlike (tells l) rest = ub
              have hub : (ub == !!ub) = true := by cases ub <;> rfl
              rcases ub with _ | _
              case false =>
                go_wp2_with fail
                refine (HA.out _ HB.out).mono ?_
                rintro e wl ⟨rfl, kl⟩
                go_wp2_with fail
                go_ret
                exact ⟨rfl, kl⟩
              case true =>
                go_wp2_with fail
                refine (HA.out _ HB.out).mono ?_
                rintro e wl ⟨rfl, kl⟩
                go_wp2_with fail
                go_ret
                exact ⟨rfl, kl⟩
end Go.Proofs.Ytbhajmecaemafaa.Tb
