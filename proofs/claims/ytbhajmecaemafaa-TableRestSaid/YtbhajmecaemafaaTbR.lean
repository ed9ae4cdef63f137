/- TableRest: its walk. (Written by bin/gen_tbrest.py.) -/
import Derived.Test.YtbhajmecaemafaaTbI
namespace Go.Proofs.Ytbhajmecaemafaa.Tb
open Go.RowKit Go.Proofs.Ytbhajmecaemafaa.Oct
set_option linter.unusedVariables false

theorem rest_seek {ps : List Pr} {x : List UInt8} {rest : UInt64} (h : Good (ps ++ [(x, rest)])) : seek ps x = none ∧ seek (ps ++ [(x, rest)]) x = some rest ∧ unlike (ps ++ [(x, rest)]) rest = false ∧ ∀ y, (y ∈ ps.map (·.1)) → seek (ps ++ [(x, rest)]) y = seek ps y := by
  obtain ⟨g, hl, hn⟩ := good_snoc.1 h
  refine ⟨?_, ?_, ?_, fun y hy => ?_⟩
  · have := seek_some (ps := ps) (x := x)
    rw [hn] at this
    exact Option.not_isSome_iff_eq_none.1 (by rw [this]; simp)
  · rw [seek_snoc _ _ _ hn, if_pos rfl]
  · unfold unlike
    rw [decide_eq_false_iff_not]
    intro hd
    rw [List.nodup_cons] at hd
    exact hd.1 (by simp)
  · rw [seek_snoc _ _ _ hn, if_neg]
    rintro rfl
    rw [isIn_iff.2 hy] at hn
    cases hn
theorem newErr_good {ps : List Pr} (h : newErr ps = 0) : Good ps := by
  unfold newErr at h
  split at h
  · cases h
  · split at h
    · assumption
    · cases h
set_option maxRecDepth 100000 in
set_option maxHeartbeats 4000000 in
theorem rest_walk (A : Option Addr) (n c : Nat) (l : List Pair) (a1 : Int) (A2 : Option Addr) (n2 c2 : Nat) (z2 : List Int) (w : World) (hp : PIn w A n c l) (w1 : (Lit.int .u64 a1).wf = true) (w2 : IsRow .u8 w A2 n2 c2 z2) :
    Calls Try.prog 6 #[.slice A n c, .int .u64 a1, .slice A2 n2 c2] w fun e w' => e = .returned (.bool true) ∧ Below w.heap.size w w' := by
  obtain ⟨rest, rfl⟩ := u64_of w1
  obtain ⟨bs, hb⟩ := came w2
  have HO := Lib.hid (show Part.Ok w ⟨A2, n2, c2, bs⟩ from ⟨hb.hlen, hb.told, Nat.le_trans hb.le hb.hcap⟩)
  have HP := Lib.hid hp
  have HB := Lib.hid (Below.refl w.heap.size w)
  have HL := Lib.hid hp.el
  have HA := Lib.hid (show ∀ w2 : World, Below w.heap.size w w2 → Calls Try.prog 8 #[] w2 fun e w' => e = .returned (.bool true) ∧ Below w.heap.size w w' from fun w2 k => (awake_any w2).mono fun e w' ⟨h1, h2⟩ => ⟨h1, k.trans (h2.mono k.size)⟩)
  clear w1 w2 hb hp
  go_enter Try.func6, Try.ntmps6
  by_cases h40 : 40 < n
  · have h40i : (40 : Int) < (n : Int) := by omega
    go_wp2_with fail
    refine (HA.out _ HB.out).mono ?_
    rintro e wl ⟨rfl, kl⟩
    go_wp2_with fail
    go_ret
    exact ⟨rfl, kl⟩
  have h40i : ¬ ((40 : Int) < (n : Int)) := by omega
  by_cases h128 : n2 = 128
  case neg =>
    have h128i : ¬ ((n2 : Int) = 128) := by omega
    go_wp2_with fail
    refine (HA.out _ HB.out).mono ?_
    rintro e wl ⟨rfl, kl⟩
    go_wp2_with fail
    go_ret
    exact ⟨rfl, kl⟩
  subst h128
  go_wp2_with fail
  refine (new_uni HP.out rest).mono ?_
  rintro e v1 ⟨tp, rfl, ht, kk⟩
  replace HO := Lib.hid (HO.out.kept kk)
  replace HP := Lib.hid (HP.out.kept kk)
  replace HB := Lib.hid (HB.out.trans (kk.mono HB.out.size))
  have HT := Lib.hid (show Maybe v1 tp (tells l) rest from ht)
  clear ht
  clear kk
  generalize hk1 : newErr (tells l) = k1
  have HK1 := Lib.hid hk1
  clear hk1
  have b0 := own_bare v1
  have k0 := (Below.refl v1.heap.size v1).alloc (Nat.le_refl _) (.cells #[] 28)
  obtain ⟨x1, v2, hr1, o1, -, kk1⟩ := run_append_pairs _ 22 v1.heap.size _ [] l b0 A n c HL.out (HP.out.kept k0).lies HP.out.nil (by simp; omega) (by simp)
  rw [List.nil_append] at o1
  obtain ⟨x2, v3, hr2, o2, -, kk2⟩ := push_pair v2 22 v1.heap.size x1 l o1 A2 128 c2 bs rest _ rfl (by rw [HL.out]; omega) (Nat.le_trans k0.size kk1.size)
  have kk := (k0.trans kk1).trans kk2
  replace HO := Lib.hid (HO.out.kept kk)
  replace HP := Lib.hid (HP.out.kept kk)
  replace HT := Lib.hid (HT.out.kept kk)
  replace HB := Lib.hid (HB.out.trans (kk.mono HB.out.size))
  obtain ⟨A3, c3, rfl, P3⟩ := o2.pin (fun p hp => by
    rcases List.mem_append.1 hp with hp | hp
    · exact HP.out.ok p hp
    · obtain rfl : p = _ := by simpa using hp
      exact ⟨HO.out.len, HO.out.told, HO.out.le⟩)
  have hN : (l ++ [(⟨A2, 128, c2, bs, rest⟩ : Pair)]).length = n + 1 := by rw [List.length_append, HL.out]; rfl
  rw [hN] at P3 hr2
  have HP3 := Lib.hid P3
  have HT3 := Lib.hid (show tells (l ++ [⟨A2, 128, c2, bs, rest⟩]) = tells l ++ [(bs, rest)] by simp [tells, Pair.tell])
  clear b0 k0 o1 kk1 o2 kk2 kk P3 hN
  go_wp2_with (first | (at_builtin; refine wpList_append_run rfl (.tmp 37) (.tmp 38) 22 rfl _ _ rfl rfl _ v2 hr1 ?_) | (at_builtin; refine wpList_append_run rfl (.tmp 39) (.tmp 43) 22 rfl _ _ rfl rfl _ v3 hr2 ?_))
  clear hr1 hr2
  refine (new_uni HP3.out rest).mono ?_
  rintro e v4 ⟨up, rfl, hu, kk⟩
  replace HO := Lib.hid (HO.out.kept kk)
  replace HP := Lib.hid (HP.out.kept kk)
  replace HT := Lib.hid (HT.out.kept kk)
  replace HP3 := Lib.hid (HP3.out.kept kk)
  replace HB := Lib.hid (HB.out.trans (kk.mono HB.out.size))
  rw [HT3.out] at hu ⊢
  have HU := Lib.hid (show Maybe v4 up (tells l ++ [(bs, rest)]) rest from hu)
  clear hu
  clear kk
  clear HP3 HT3
  generalize hk2 : newErr (tells l ++ [(bs, rest)]) = k2
  have HK2 := Lib.hid hk2
  clear hk2
  by_cases e1 : k1 = 0
  case neg =>
    have e1b : (k1 == 0) = false := by rw [beq_eq_false_iff_ne]; exact e1
    go_wp2_with fail
    refine (HA.out _ HB.out).mono ?_
    rintro e wl ⟨rfl, kl⟩
    go_wp2_with fail
    go_ret
    exact ⟨rfl, kl⟩
  by_cases e2 : k2 = 0
  case neg =>
    subst e1
    have e2b : (k2 == 0) = false := by rw [beq_eq_false_iff_ne]; exact e2
    go_wp2_with fail
    refine (HA.out _ HB.out).mono ?_
    rintro e wl ⟨rfl, kl⟩
    go_wp2_with fail
    go_ret
    exact ⟨rfl, kl⟩
  subst e1 e2
  obtain ⟨a, b, rfl, T1⟩ := HT.out HK1.out
  obtain ⟨a', b', rfl, U1⟩ := HU.out HK2.out
  have HT' := Lib.hid T1
  have HU' := Lib.hid U1
  obtain ⟨m1, m2, m3, m4⟩ := rest_seek (newErr_good HK2.out)
  have q1 : pout (tells l) rest bs = (rest, 0) := by unfold pout printOf; rw [if_pos HO.out.len, m1]; rfl
  have q2 : pout (tells l ++ [(bs, rest)]) rest bs = (rest, 0) := by unfold pout printOf; rw [if_pos HO.out.len, m2]; rfl
  have Q1 := Lib.hid q1
  have Q2 := Lib.hid q2
  have Q3 := Lib.hid m3
  have Q4 := Lib.hid m4
  clear T1 U1 m1 m2 m3 m4 q1 q2 HT HU HK1 HK2
  go_wp2_with fail
  refine (print_is HT'.out A2 128 c2 bs HO.out.len HO.out.told rest 0 Q1.out _ rfl).mono ?_
  rintro e v5 ⟨rfl, kk⟩
  replace HO := Lib.hid (HO.out.kept kk)
  replace HP := Lib.hid (HP.out.kept kk)
  replace HT' := Lib.hid (HT'.out.kept kk)
  replace HU' := Lib.hid (HU'.out.kept kk)
  replace HB := Lib.hid (HB.out.trans (kk.mono HB.out.size))
  clear kk
  go_wp2_with fail
  refine (print_is HU'.out A2 128 c2 bs HO.out.len HO.out.told rest 0 Q2.out _ rfl).mono ?_
  rintro e v6 ⟨rfl, kk⟩
  replace HO := Lib.hid (HO.out.kept kk)
  replace HP := Lib.hid (HP.out.kept kk)
  replace HT' := Lib.hid (HT'.out.kept kk)
  replace HU' := Lib.hid (HU'.out.kept kk)
  replace HB := Lib.hid (HB.out.trans (kk.mono HB.out.size))
  clear kk
  go_wp2_with fail
  refine (len_is HU'.out ((n : Int) + 1) (by rw [List.length_append, length_tells, HL.out]; rfl)).mono ?_
  rintro e wq ⟨rfl, rfl⟩
  go_wp2_with fail
  refine (len_is HT'.out (n : Int) (by rw [length_tells, HL.out])).mono ?_
  rintro e wq ⟨rfl, rfl⟩
  go_wp2_with fail
  refine (unlike_is HU'.out false Q3.out).mono ?_
  rintro e v7 ⟨rfl, kk⟩
  replace HO := Lib.hid (HO.out.kept kk)
  replace HP := Lib.hid (HP.out.kept kk)
  replace HT' := Lib.hid (HT'.out.kept kk)
  replace HU' := Lib.hid (HU'.out.kept kk)
  replace HB := Lib.hid (HB.out.trans (kk.mono HB.out.size))
  clear kk
  clear Q1 Q2 Q3
  go_wp2_with fail
  go_loopw [98] (fun i wr => ∃ k : Nat, k ≤ n ∧ i = .int .i64 (k : Int) ∧ Hid (PIn wr A n c l) ∧ Hid (Tab wr a b (tells l) rest) ∧ Hid (Tab wr a' b' (tells l ++ [(bs, rest)]) rest) ∧ Hid (Below w.heap.size w wr)) (fun i _ => n - (intOf i).toNat)
  case atStart => exact ⟨0, Nat.zero_le _, rfl, HP, HT', HU', HB⟩
  case round =>
    obtain ⟨k, hk, rfl, HP', HT'', HU'', HB'⟩ := hrel
    clear HP HT' HU' HB
    have HP := HP'
    have HT' := HT''
    have HU' := HU''
    have HB := HB'
    clear HP' HT'' HU'' HB'
    by_cases hlt : k < n
    · skip
      have hki : (k : Int) < (n : Int) := by omega
      have hkl : k < l.length := by rw [HL.out]; exact hlt
      obtain ⟨pb, po, hA, hpb, c1, c2'⟩ := HP.out.at hlt
      subst hA
      have HOK := Lib.hid (HP.out.ok l[k] (List.getElem_mem hkl))
      have HME := Lib.hid (show l[k].bs ∈ (tells l).map (·.1) from List.mem_map.2 ⟨l[k].tell, List.mem_map_of_mem (List.getElem_mem hkl), rfl⟩)
      have HSK := Lib.hid (Q4.out l[k].bs HME.out)
      generalize l[k] = p at c1 c2' HOK HSK HME
      obtain ⟨pA, pn, pc, pbs, ppr⟩ := p
      simp only at c1 c2'
      go_upto_region 14 with (fail)
      have kk := (Below.refl wr.heap.size wr).alloc (Nat.le_refl _) (.cells #[.slice pA pn pc, .int .u64 (ppr.toNat : Int)] 28)
      have P1 := alloc_rowV wr 28 [.slice pA pn pc, .int .u64 (ppr.toNat : Int)]
      change RowV (wr.alloc (.cells #[.slice pA pn pc, .int .u64 (ppr.toNat : Int)] 28)) _ _ _ at P1
      have HOK1 := Lib.hid (HOK.out.below kk)
      have HR1 := Lib.hid (RowV.Held P1)
      replace HP := Lib.hid (HP.out.kept kk)
      replace HT' := Lib.hid (HT'.out.kept kk)
      replace HU' := Lib.hid (HU'.out.kept kk)
      replace HB := Lib.hid (HB.out.trans (kk.mono HB.out.size))
      clear HOK kk c1 c2' hpb
      generalize wr.alloc (.cells #[.slice pA pn pc, .int .u64 (ppr.toNat : Int)] 28) = v8 at *
      generalize wr.heap.size = pv at *
      have d1 := P1.cellAt (i := 0) rfl
      clear P1
      go_wp2_with fail
      refine (print_tab HT'.out pA pn pc pbs HOK1.out.len HOK1.out.told).mono ?_
      rintro e v9 ⟨rfl, kk⟩
      replace HP := Lib.hid (HP.out.kept kk)
      replace HT' := Lib.hid (HT'.out.kept kk)
      replace HU' := Lib.hid (HU'.out.kept kk)
      replace HOK1 := Lib.hid (HOK1.out.kept kk)
      replace HR1 := Lib.hid (HR1.out.kept kk)
      replace HB := Lib.hid (HB.out.trans (kk.mono HB.out.size))
      clear d1
      have d1 := HR1.out.cellAt (i := 0) rfl
      clear kk
      go_wp2_with fail
      refine (print_tab HU'.out pA pn pc pbs HOK1.out.len HOK1.out.told).mono ?_
      rintro e v10 ⟨rfl, kk⟩
      replace HP := Lib.hid (HP.out.kept kk)
      replace HT' := Lib.hid (HT'.out.kept kk)
      replace HU' := Lib.hid (HU'.out.kept kk)
      replace HOK1 := Lib.hid (HOK1.out.kept kk)
      replace HR1 := Lib.hid (HR1.out.kept kk)
      replace HB := Lib.hid (HB.out.trans (kk.mono HB.out.size))
      clear d1
      clear kk
      have e1 : pout (tells l ++ [(bs, rest)]) rest pbs = pout (tells l) rest pbs := by
        unfold pout printOf
        rw [HSK.out]
      have e2 : pout (tells l) rest pbs = (printOf (tells l) rest pbs, 0) := by
        unfold pout
        rw [if_pos]
        obtain ⟨q, hq, he⟩ := List.mem_map.1 HME.out
        rw [← he]
        exact HT'.out.mp.good.len q hq
      rw [e1, e2]
      generalize printOf (tells l) rest pbs = pp
      clear e1 e2
      go_wp2_with fail
      go_roundw
      case rel => exact ⟨k + 1, by omega, by go_num, HP, HT', HU', HB⟩
      case measure => simp [intOf]; omega
    · obtain rfl : k = n := by omega
      go_wp2_with fail
      refine (HA.out _ HB.out).mono ?_
      rintro e wl ⟨rfl, kl⟩
      go_wp2_with fail
      go_ret
      exact ⟨rfl, kl⟩
end Go.Proofs.Ytbhajmecaemafaa.Tb
