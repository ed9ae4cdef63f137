/- TableOrder: its walk. (Written by bin/gen_tborder.py.) -/
import Derived.Test.YtbhajmecaemafaaTbJ
namespace Go.Proofs.Ytbhajmecaemafaa.Tb
open Go.RowKit Go.Proofs.Ytbhajmecaemafaa.Oct
set_option linter.unusedVariables false

set_option maxRecDepth 100000 in
set_option maxHeartbeats 4000000 in
theorem order_walk (A : Option Addr) (n c : Nat) (l : List Pair) (a1 : Int) (A2 : Option Addr) (n2 c2 : Nat) (l2 : List Part) (w : World) (hp : PIn w A n c l) (w1 : (Lit.int .u64 a1).wf = true) (hb : BIn w A2 n2 c2 l2) :
    Calls Try.prog 4 #[.slice A n c, .int .u64 a1, .slice A2 n2 c2] w fun e w' => e = .returned (.bool true) ∧ Below w.heap.size w w' := by
  obtain ⟨rest, rfl⟩ := u64_of w1
  have HP0 := Lib.hid hp
  have HO := Lib.hid hb
  have HO0 := Lib.hid hb
  have HP := Lib.hid hp
  have HB := Lib.hid (Below.refl w.heap.size w)
  have HL := Lib.hid hp.el
  have HA := Lib.hid (show ∀ w2 : World, Below w.heap.size w w2 → Calls Try.prog 8 #[] w2 fun e w' => e = .returned (.bool true) ∧ Below w.heap.size w w' from fun w2 k => (awake_any w2).mono fun e w' ⟨h1, h2⟩ => ⟨h1, k.trans (h2.mono k.size)⟩)
  clear w1 hb hp
  go_enter Try.func4, Try.ntmps4
  by_cases h60 : 60 < n
  · have h60i : (60 : Int) < (n : Int) := by omega
    go_wp2_with fail
    refine (HA.out _ HB.out).mono ?_
    rintro e wl ⟨rfl, kl⟩
    go_wp2_with fail
    go_ret
    exact ⟨rfl, kl⟩
  have h60i : ¬ ((60 : Int) < (n : Int)) := by omega
  by_cases h20 : 20 < n2
  · have h20i : (20 : Int) < (n2 : Int) := by omega
    go_wp2_with fail
    refine (HA.out _ HB.out).mono ?_
    rintro e wl ⟨rfl, kl⟩
    go_wp2_with fail
    go_ret
    exact ⟨rfl, kl⟩
  have h20i : ¬ ((20 : Int) < (n2 : Int)) := by omega
  go_wp2_with fail
  go_loopw [7, 8] (fun v i wr => ∃ m : Nat, m ≤ n ∧ i = .int .i64 ((m : Int) - 1) ∧ Hid (OwnP wr w.heap.size v (l.drop m).reverse) ∧ Hid (Below w.heap.size w wr)) (fun _ i _ => (intOf i + 1).toNat)
  case atStart =>
    refine ⟨n, Nat.le_refl _, rfl, Lib.hid ?_, HB⟩
    rw [List.drop_of_length_le (by rw [HL.out]; exact Nat.le_refl _)]
    exact OwnP.bare _ _
  case round =>
    obtain ⟨m, hm, rfl, HW, HB'⟩ := hrel
    clear HB HP HO
    have HB := HB'
    clear HB'
    rcases m with _ | k
    case succ =>
      rw [show (((k + 1 : Nat) : Int) - 1) = (k : Int) by omega]
      rename_i v i
      have hki : (0 : Int) ≤ (k : Int) := by omega
      have hkn : k < n := by omega
      have hkl : k < l.length := by rw [HL.out]; exact hkn
      obtain ⟨pb, po, hA, hpb, c1, c2'⟩ := (HP0.out.kept HB.out).at hkn
      have hdr : (l.drop (k + 1)).reverse ++ [l[k]] = (l.drop k).reverse := by rw [List.drop_eq_getElem_cons hkl, List.reverse_cons]
      obtain ⟨x2, v3, hr2, o2, -, kk⟩ := push_pair wr 22 w.heap.size _ _ HW.out l[k].A l[k].n l[k].c l[k].bs l[k].pr _ rfl (by simp only [List.length_reverse, List.length_drop]; have := HL.out; omega) HB.out.size
      have o3 : OwnP v3 w.heap.size x2 (l.drop k).reverse := by rw [← hdr]; exact o2
      replace HB := Lib.hid (HB.out.trans kk)
      have HW3 := Lib.hid o3
      clear o2 o3 kk HW hdr
      subst hA
      generalize l[k] = p at *
      go_wp2_with (at_builtin; refine wpList_append_run rfl (.tmp 41) (.tmp 46) 22 rfl _ _ rfl rfl _ v3 hr2 ?_)
      go_roundw
      case rel => exact ⟨k, by omega, rfl, HW3, HB⟩
      case measure => simp [intOf]
    case zero =>
      rename_i v i
      obtain ⟨A3, c3, rfl, P3⟩ := HW.out.pin (fun p hp => (HP0.out.kept HB.out).ok p (by simpa using hp))
      have hN : ((l.drop 0).reverse).length = n := by simp [HL.out]
      rw [hN] at P3 ⊢
      have HT3 := Lib.hid (show tells (l.drop 0).reverse = (tells l).reverse by simp [tells])
      generalize (l.drop 0).reverse = lr at P3 HT3 hN
      have HP3 := Lib.hid P3
      have HP := Lib.hid (HP0.out.kept HB.out)
      have HO := Lib.hid (HO0.out.kept HB.out)
      clear HW P3 hN HP0 HO0
      rw [show (((0 : Nat) : Int) - 1) = -1 from rfl]
      go_wp2_with fail
      refine (new_uni HP.out rest).mono ?_
      rintro e v1 ⟨tp, rfl, ht, kk⟩
      replace HP := Lib.hid (HP.out.kept kk)
      replace HP3 := Lib.hid (HP3.out.kept kk)
      replace HO := Lib.hid (HO.out.kept kk)
      replace HB := Lib.hid (HB.out.trans (kk.mono HB.out.size))
      have HT := Lib.hid (show Maybe v1 tp (tells l) rest from ht)
      clear ht
      clear kk
      generalize hk1 : newErr (tells l) = k1
      go_wp2_with fail
      refine (new_uni HP3.out rest).mono ?_
      rintro e v2 ⟨up, rfl, hu, kk⟩
      replace HP := Lib.hid (HP.out.kept kk)
      replace HP3 := Lib.hid (HP3.out.kept kk)
      replace HO := Lib.hid (HO.out.kept kk)
      replace HT := Lib.hid (HT.out.kept kk)
      replace HB := Lib.hid (HB.out.trans (kk.mono HB.out.size))
      rw [HT3.out] at hu ⊢
      have HU := Lib.hid (show Maybe v2 up (tells l).reverse rest from hu)
      clear hu
      rw [newErr_perm (List.reverse_perm (tells l)), hk1]
      have HK1 := Lib.hid hk1
      clear hk1
      clear kk
      clear HP3 HT3
      by_cases e1 : k1 = 0
      case neg =>
        have e1b : (k1 == 0) = false := by rw [beq_eq_false_iff_ne]; exact e1
        go_wp2_with fail
        refine (HA.out _ HB.out).mono ?_
        rintro e wl ⟨rfl, kl⟩
        go_wp2_with fail
        go_ret
        exact ⟨rfl, kl⟩
      subst e1
      have HG := Lib.hid (newErr_good HK1.out)
      obtain ⟨a, b, rfl, T1⟩ := HT.out HK1.out
      obtain ⟨a', b', rfl, U1⟩ := HU.out (by rw [newErr_perm (List.reverse_perm (tells l))]; exact HK1.out)
      have HT' := Lib.hid T1
      have HU' := Lib.hid U1
      clear T1 U1 HT HU HK1
      go_wp2_with fail
      go_loopw [68] (fun i wr => ∃ k : Nat, k ≤ n ∧ i = .int .i64 (k : Int) ∧ Hid (PIn wr A n c l) ∧ Hid (BIn wr A2 n2 c2 l2) ∧ Hid (Tab wr a b (tells l) rest) ∧ Hid (Tab wr a' b' (tells l).reverse rest) ∧ Hid (Below w.heap.size w wr)) (fun i _ => n - (intOf i).toNat)
      case atStart => exact ⟨0, Nat.zero_le _, rfl, HP, HO, HT', HU', HB⟩
      case round =>
        obtain ⟨k, hk, rfl, HPq, HOq, HT'q, HU'q, HBq⟩ := hrel
        clear HP HO HT' HU' HB
        have HP := HPq
        have HO := HOq
        have HT' := HT'q
        have HU' := HU'q
        have HB := HBq
        clear HPq HOq HT'q HU'q HBq
        by_cases hlt : k < n
        case pos =>
          have hki : (k : Int) < (n : Int) := by omega
          have hkl : k < l.length := by rw [HL.out]; exact hlt
          obtain ⟨pb, po, hA, hpb, c1, c2'⟩ := HP.out.at hlt
          subst hA
          have HOK := Lib.hid (HP.out.ok l[k] (List.getElem_mem hkl))
          have HPO := Lib.hid (pout_own HG.out (p := l[k].tell) (List.mem_map_of_mem (List.getElem_mem hkl)) rest)
          generalize l[k] = p at c1 c2' HOK HPO
          obtain ⟨pA, pn, pc, pbs, ppr⟩ := p
          simp only at c1 c2'
          go_upto_region 17 with (fail)
          have kk := (Below.refl wr.heap.size wr).alloc (Nat.le_refl _) (.cells #[.slice pA pn pc, .int .u64 (ppr.toNat : Int)] 28)
          have P1 := alloc_rowV wr 28 [.slice pA pn pc, .int .u64 (ppr.toNat : Int)]
          change RowV (wr.alloc (.cells #[.slice pA pn pc, .int .u64 (ppr.toNat : Int)] 28)) _ _ _ at P1
          have HOK1 := Lib.hid (HOK.out.below kk)
          have HR1 := Lib.hid (RowV.Held P1)
          replace HP := Lib.hid (HP.out.kept kk)
          replace HO := Lib.hid (HO.out.kept kk)
          replace HT' := Lib.hid (HT'.out.kept kk)
          replace HU' := Lib.hid (HU'.out.kept kk)
          replace HB := Lib.hid (HB.out.trans (kk.mono HB.out.size))
          clear HOK kk c1 c2' hpb
          generalize wr.alloc (.cells #[.slice pA pn pc, .int .u64 (ppr.toNat : Int)] 28) = v3 at *
          generalize wr.heap.size = pv at *
          have d1 := P1.cellAt (i := 0) rfl
          clear P1
          go_wp2_with fail
          refine (print_is HT'.out pA pn pc pbs HOK1.out.len HOK1.out.told ppr 0 HPO.out _ rfl).mono ?_
          rintro e v4 ⟨rfl, kk⟩
          replace HP := Lib.hid (HP.out.kept kk)
          replace HO := Lib.hid (HO.out.kept kk)
          replace HT' := Lib.hid (HT'.out.kept kk)
          replace HU' := Lib.hid (HU'.out.kept kk)
          replace HOK1 := Lib.hid (HOK1.out.kept kk)
          replace HR1 := Lib.hid (HR1.out.kept kk)
          replace HB := Lib.hid (HB.out.trans (kk.mono HB.out.size))
          clear d1
          have d1 := HR1.out.cellAt (i := 1) rfl
          clear kk
          go_wp2_with fail
          go_roundw
          case rel => exact ⟨k + 1, by omega, by go_num, HP, HO, HT', HU', HB⟩
          case measure => simp [intOf]; omega
        case neg =>
          obtain rfl : k = n := by omega
          go_wp2_with fail
          go_loopw [90] (fun i wr => ∃ zz : Nat, zz ≤ n2 ∧ i = .int .i64 (zz : Int) ∧ Hid (PIn wr A k c l) ∧ Hid (BIn wr A2 n2 c2 l2) ∧ Hid (Tab wr a b (tells l) rest) ∧ Hid (Tab wr a' b' (tells l).reverse rest) ∧ Hid (Below w.heap.size w wr)) (fun i _ => n2 - (intOf i).toNat)
          case atStart => exact ⟨0, Nat.zero_le _, rfl, HP, HO, HT', HU', HB⟩
          case round =>
            obtain ⟨z, hz, rfl, HPq, HOq, HT'q, HU'q, HBq⟩ := hrel
            clear HP HO HT' HU' HB
            have HP := HPq
            have HO := HOq
            have HT' := HT'q
            have HU' := HU'q
            have HB := HBq
            clear HPq HOq HT'q HU'q HBq
            by_cases hlt2 : z < n2
            case pos =>
              have hki : (z : Int) < (n2 : Int) := by omega
              have hkl : z < l2.length := by rw [HO.out.el]; exact hlt2
              obtain ⟨pb, po, hA, hpb, c1⟩ := HO.out.at hlt2
              subst hA
              have HOK := Lib.hid (HO.out.ok l2[z] (List.getElem_mem hkl))
              generalize l2[z] = p at c1 HOK
              obtain ⟨pA, pn, pc, pbs⟩ := p
              simp only at c1
              go_wp2_with fail
              refine (print_tab HT'.out pA pn pc pbs HOK.out.len HOK.out.told).mono ?_
              rintro e v3 ⟨rfl, kk⟩
              replace HP := Lib.hid (HP.out.kept kk)
              replace HO := Lib.hid (HO.out.kept kk)
              replace HT' := Lib.hid (HT'.out.kept kk)
              replace HU' := Lib.hid (HU'.out.kept kk)
              replace HOK := Lib.hid (HOK.out.kept kk)
              replace HB := Lib.hid (HB.out.trans (kk.mono HB.out.size))
              clear c1
              clear kk
              go_wp2_with fail
              refine (print_tab HU'.out pA pn pc pbs HOK.out.len HOK.out.told).mono ?_
              rintro e v4 ⟨rfl, kk⟩
              replace HP := Lib.hid (HP.out.kept kk)
              replace HO := Lib.hid (HO.out.kept kk)
              replace HT' := Lib.hid (HT'.out.kept kk)
              replace HU' := Lib.hid (HU'.out.kept kk)
              replace HOK := Lib.hid (HOK.out.kept kk)
              replace HB := Lib.hid (HB.out.trans (kk.mono HB.out.size))
              rw [pout_perm HG.out (List.reverse_perm (tells l)) rest pbs]
              clear kk
              go_wp2_with fail
              refine (print_tab HT'.out pA pn pc pbs HOK.out.len HOK.out.told).mono ?_
              rintro e v5 ⟨rfl, kk⟩
              replace HP := Lib.hid (HP.out.kept kk)
              replace HO := Lib.hid (HO.out.kept kk)
              replace HT' := Lib.hid (HT'.out.kept kk)
              replace HU' := Lib.hid (HU'.out.kept kk)
              replace HOK := Lib.hid (HOK.out.kept kk)
              replace HB := Lib.hid (HB.out.trans (kk.mono HB.out.size))
              clear kk
              generalize (pout (tells l) rest pbs).1 = pp
              generalize (pout (tells l) rest pbs).2 = pe
              go_wp2_with fail
              go_roundw
              case rel => exact ⟨z + 1, by omega, by go_num, HP, HO, HT', HU', HB⟩
              case measure => simp [intOf]; omega
            case neg =>
              obtain rfl : z = n2 := by omega
              go_wp2_with fail
              refine (len_is HT'.out (k : Int) (by rw [length_tells, HL.out])).mono ?_
              rintro e wq ⟨rfl, rfl⟩
              go_wp2_with fail
              refine (len_is HU'.out (k : Int) (by rw [List.length_reverse, length_tells, HL.out])).mono ?_
              rintro e wq ⟨rfl, rfl⟩
              go_wp2_with fail
              refine (unlike_is HT'.out (unlike (tells l) rest) rfl).mono ?_
              rintro e v3 ⟨rfl, kk⟩
              replace HP := Lib.hid (HP.out.kept kk)
              replace HO := Lib.hid (HO.out.kept kk)
              replace HT' := Lib.hid (HT'.out.kept kk)
              replace HU' := Lib.hid (HU'.out.kept kk)
              replace HB := Lib.hid (HB.out.trans (kk.mono HB.out.size))
              clear kk
              go_wp2_with fail
              refine (unlike_is HU'.out (unlike (tells l) rest) (unlike_perm (List.reverse_perm (tells l)) rest)).mono ?_
              rintro e v4 ⟨rfl, kk⟩
              replace HP := Lib.hid (HP.out.kept kk)
              replace HO := Lib.hid (HO.out.kept kk)
              replace HT' := Lib.hid (HT'.out.kept kk)
              replace HU' := Lib.hid (HU'.out.kept kk)
              replace HB := Lib.hid (HB.out.trans (kk.mono HB.out.size))
              clear kk
              generalize unlike (tells l) rest = ub
              go_wp2_with fail
              refine (HA.out _ HB.out).mono ?_
              rintro e wl ⟨rfl, kl⟩
              go_wp2_with fail
              go_ret
              exact ⟨rfl, kl⟩
end Go.Proofs.Ytbhajmecaemafaa.Tb
