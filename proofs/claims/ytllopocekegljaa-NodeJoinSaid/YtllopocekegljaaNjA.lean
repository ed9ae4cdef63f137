/- Layer 12: the walk of the statement NodeJoin. (Written by bin/gen_nja.py.) -/
import Derived.Test.YtllopocekegljaaNjL
import Derived.Test.YtllopocekegljaaNoT
import Derived.BigQuiet
import Derived.Deep.CutRange
namespace Go.Proofs.Ytllopocekegljaa.No
open Go.RowKit Go.Proofs.Ytllopocekegljaa.Oct Go.Proofs.Ytllopocekegljaa.Lf Go.Proofs.Ytllopocekegljaa.Mv Go.Maps Go.ChangeMaps
set_option linter.unusedVariables false
set_option linter.unusedSimpArgs false

set_option maxRecDepth 100000 in
set_option maxHeartbeats 8000000 in
theorem join_walk (haw : ∀ w : World, Calls Try.prog 9 #[] w fun e w' => e = .returned (.bool true) ∧ Below w.heap.size w w') (l l' : Bool) {w : World} {A B A' B' : Option Addr} {n c m d n' c' m' d' : Nat} {ks vs ks' vs' : List UInt64} (h : Nd w A n c B m d ks vs) (h' : Nd w A' n' c' B' m' d' ks' vs') :
    Calls Try.prog 6 #[.agg #[.bool l, .slice A n c, .slice B m d], .agg #[.bool l', .slice A' n' c', .slice B' m' d']] w fun e w' => e = .returned (.bool true) ∧ Below w.heap.size w w' := by
  have q1 := (Below.refl w.heap.size w).alloc (Nat.le_refl _) (.cells #[.bool l, .slice A n c, .slice B m d] 24)
  have HB := Lib.hid (show Below w.heap.size w ((w.alloc (.cells #[.bool l, .slice A n c, .slice B m d] 24)).alloc (.cells #[.bool l', .slice A' n' c', .slice B' m' d'] 24)) from q1.alloc q1.size (.cells #[.bool l', .slice A' n' c', .slice B' m' d'] 24))
  have XN := Lib.hid (show BoxD ((w.alloc (.cells #[.bool l, .slice A n c, .slice B m d] 24)).alloc (.cells #[.bool l', .slice A' n' c', .slice B' m' d'] 24)) w.heap.size (.agg #[.bool l, .slice A n c, .slice B m d]) from (box_d w _ _ _).new _)
  have YN := Lib.hid (show BoxD ((w.alloc (.cells #[.bool l, .slice A n c, .slice B m d] 24)).alloc (.cells #[.bool l', .slice A' n' c', .slice B' m' d'] 24)) (w.alloc (.cells #[.bool l, .slice A n c, .slice B m d] 24)).heap.size (.agg #[.bool l', .slice A' n' c', .slice B' m' d']) from box_d (w.alloc (.cells #[.bool l, .slice A n c, .slice B m d] 24)) _ _ _)
  rw [show (w.alloc (.cells #[.bool l, .slice A n c, .slice B m d] 24)).heap.size = w.heap.size + 1 by simp] at YN
  have NN := Lib.hid (h.below HB.out)
  have MM := Lib.hid (h'.below HB.out)
  have kl := h.kl
  have kl' := h'.kl
  have HAW := Lib.hid haw
  clear h h' haw q1
  go_enter Try.func6, Try.ntmps6
  go_wp2_with fail
  generalize (w.alloc (.cells #[.bool l, .slice A n c, .slice B m d] 24)).alloc (.cells #[.bool l', .slice A' n' c', .slice B' m' d'] 24) = w1 at *
  by_cases hok : Ok l ks vs
  · skip
    obtain rfl : m = n := by rw [← NN.out.vl, ← kl]; exact hok.2.1
    have HK := Lib.hid hok
    have hw1 := HB.out.size
    refine (all_yes l NN.out hok).mono ?_
    rintro e w2 ⟨bx, rfl, MX, hbx, kz⟩
    replace XN := Lib.hid (XN.out.below XN.out.lt kz)
    replace YN := Lib.hid (YN.out.below YN.out.lt kz)
    replace NN := Lib.hid (NN.out.below kz)
    replace MM := Lib.hid (MM.out.below kz)
    replace HB := Lib.hid (HB.out.trans (kz.mono HB.out.size))
    clear kz
    have HBX0 := Lib.hid (show w.heap.size ≤ bx by omega)
    clear hw1
    have HBXL := Lib.hid hbx
    clear hok hbx
    replace MX := Lib.hid MX
    go_wp2_with (first | (refine wpList_load_d rfl (.tmp 3) rfl (w.heap.size + 1) _ rfl YN.out ?_))
    by_cases hok' : Ok l' ks' vs'
    · skip
      obtain rfl : m' = n' := by rw [← MM.out.vl, ← kl']; exact hok'.2.1
      have HK' := Lib.hid hok'
      have hxlt := MX.out.lt
      refine (all_yes l' MM.out hok').mono ?_
      rintro e w3 ⟨by', rfl, MY, hby, kz⟩
      replace XN := Lib.hid (XN.out.below XN.out.lt kz)
      replace YN := Lib.hid (YN.out.below YN.out.lt kz)
      replace NN := Lib.hid (NN.out.below kz)
      replace MM := Lib.hid (MM.out.below kz)
      replace MX := Lib.hid (MX.out.far kz)
      replace HB := Lib.hid (HB.out.trans (kz.mono HB.out.size))
      clear kz
      have HBYL := Lib.hid hby
      have HBXLT := Lib.hid hxlt
      clear hxlt
      clear hok' hby
      replace MY := Lib.hid MY
      have x0 := XN.out.of.cellAt (i := 0) rfl
      have y0 := YN.out.of.cellAt (i := 0) rfl
      by_cases hll : l = l'
      · skip
        subst hll
        have x1 := XN.out.of.cellAt (i := 1) rfl
        have y1 := YN.out.of.cellAt (i := 1) rfl
        have hle := HK.out.1
        have hle' := HK'.out.1
        by_cases hover : ∃ (h1 : 0 < ks.length) (h2 : 0 < ks'.length), (ks'[0]).toNat ≤ (ks[ks.length - 1]'(by omega)).toNat
        · skip
          obtain ⟨h1, h2, h3'⟩ := hover
          have h3 := h3'
          have hm1 : 0 < (m : Int) := by omega
          have hm2 : 0 < (m' : Int) := by omega
          obtain ⟨bk, ok, rfl, hK⟩ := NN.out.ks.has (by omega)
          obtain ⟨bj, oj, rfl, hJ⟩ := MM.out.ks.has (by omega)
          have ck := hK (ks.length - 1) (by omega)
          have cj := hJ 0 (by omega)
          rw [Nat.add_zero] at cj
          obtain ⟨kt, hkt⟩ : ∃ a, a = ks[ks.length - 1]'(by omega) := ⟨_, rfl⟩
          obtain ⟨ku, hku⟩ : ∃ a, a = ks'[0]'(by omega) := ⟨_, rfl⟩
          rw [← hkt] at ck
          rw [← hku] at cj
          rw [← hkt, ← hku] at h3
          obtain ⟨mi, hmi⟩ : ∃ q, q = m - 1 := ⟨_, rfl⟩
          rw [kl, ← hmi] at ck
          have hwr : IntKind.i64.wrap ((m : Int) - 1) = (mi : Int) := by rw [show (m : Int) - 1 = (mi : Int) by omega]; exact IntWalk.i64_in _ (by omega)
          have hix1 : mi < m := by omega
          have hix2 : (mi : Int) < (m : Int) := by omega
          have hix3 : ¬ (m ≤ mi) := by omega
          have hwr2 : IntKind.i64.wrap (mi : Int) = (mi : Int) := IntWalk.i64_in _ (by omega)
          clear hK hJ hmi
          have hd1 : decide (0 < (m : Int)) = true := decide_eq_true (by omega)
          have hd2 : decide (0 < m) = true := decide_eq_true (by omega)
          have hd3 : decide (0 < (m' : Int)) = true := decide_eq_true (by omega)
          have hd4 : decide (0 < m') = true := decide_eq_true (by omega)
          have hd5 : decide ((ku.toNat : Int) ≤ (kt.toNat : Int)) = true := decide_eq_true (by omega)
          have hd6 : decide (ku.toNat ≤ kt.toNat) = true := decide_eq_true (by omega)
          have hm3 : 0 < m' := by omega
          clear hkt hku
          go_upto_region 5 with (fail)
          go_quiet (fail)
          clear x0 y0 x1 y1 hd1 hd2 hd3 hd4 hd5 hd6 ck cj hwr hwr2 hix1 hix2 hix3
          have kz := (show Still w3 (w3.drewN nq) from ⟨rfl, rfl, rfl, rfl⟩).below w3.heap.size
          generalize w3.drewN nq = w4 at *
          replace XN := Lib.hid (XN.out.below XN.out.lt kz)
          replace YN := Lib.hid (YN.out.below YN.out.lt kz)
          replace NN := Lib.hid (NN.out.below kz)
          replace MM := Lib.hid (MM.out.below kz)
          replace MX := Lib.hid (MX.out.far kz)
          replace MY := Lib.hid (MY.out.far kz)
          replace HB := Lib.hid (HB.out.trans (kz.mono HB.out.size))
          clear kz
          have ht := joinR_over (l := l) (l' := l) (vs := vs) (vs' := vs') h1 h2 h3'
          have HT := Lib.hid ht
          clear ht h1 h2 h3 h3'
          go_wp2_with (first | (refine wpList_load_d rfl (.tmp 2) rfl w.heap.size _ rfl XN.out ?_) | (refine wpList_load_d rfl (.tmp 3) rfl (w.heap.size + 1) _ rfl YN.out ?_))
          refine (join_any l l NN.out MM.out _ HT.out.symm).mono ?_
          rintro e w5 ⟨q, rfl, Lq, kz⟩
          replace XN := Lib.hid (XN.out.below XN.out.lt kz)
          replace YN := Lib.hid (YN.out.below YN.out.lt kz)
          replace NN := Lib.hid (NN.out.below kz)
          replace MM := Lib.hid (MM.out.below kz)
          replace MX := Lib.hid (MX.out.far kz)
          replace MY := Lib.hid (MY.out.far kz)
          replace HB := Lib.hid (HB.out.trans (kz.mono HB.out.size))
          clear kz
          obtain ⟨Aq, rfl⟩ := Lq.none
          clear Lq
          go_wp2_with fail
          refine (HAW.out _).mono ?_
          rintro e w6 ⟨rfl, kz⟩
          replace XN := Lib.hid (XN.out.below XN.out.lt kz)
          replace YN := Lib.hid (YN.out.below YN.out.lt kz)
          replace NN := Lib.hid (NN.out.below kz)
          replace MM := Lib.hid (MM.out.below kz)
          replace MX := Lib.hid (MX.out.far kz)
          replace MY := Lib.hid (MY.out.far kz)
          replace HB := Lib.hid (HB.out.trans (kz.mono HB.out.size))
          clear kz
          go_wp2_with fail
          go_ret
          exact ⟨rfl, HB.out⟩
        · skip
          have hr := rises_join HK.out.2.2.1 HK'.out.2.2.1 (fun h1 h2 => Nat.lt_of_not_le (fun h => hover ⟨h1, h2, h⟩))
          go_upto_region 5 with (fail)
          go_cut [73] from 49 (fun s73 wx => s73 = .bool false ∧ Hid (Below w3.heap.size w3 wx))
          case first => as_aux_lemma =>
            by_cases hz1 : 0 < m
            · skip
              have hd1 : decide (0 < (m : Int)) = true := decide_eq_true (by omega)
              have hd2 : decide (0 < m) = true := decide_eq_true (by omega)
              by_cases hz2 : 0 < m'
              · skip
                have hd3 : decide (0 < (m' : Int)) = true := decide_eq_true (by omega)
                have hd4 : decide (0 < m') = true := decide_eq_true (by omega)
                have h3 : (ks[ks.length - 1]'(by omega)).toNat < (ks'[0]'(by omega)).toNat := Nat.lt_of_not_le (fun h => hover ⟨by omega, by omega, h⟩)
                have hm1 : 0 < (m : Int) := by omega
                have hm2 : 0 < (m' : Int) := by omega
                obtain ⟨bk, ok, rfl, hK⟩ := NN.out.ks.has (by omega)
                obtain ⟨bj, oj, rfl, hJ⟩ := MM.out.ks.has (by omega)
                have ck := hK (ks.length - 1) (by omega)
                have cj := hJ 0 (by omega)
                rw [Nat.add_zero] at cj
                obtain ⟨kt, hkt⟩ : ∃ a, a = ks[ks.length - 1]'(by omega) := ⟨_, rfl⟩
                obtain ⟨ku, hku⟩ : ∃ a, a = ks'[0]'(by omega) := ⟨_, rfl⟩
                rw [← hkt] at ck
                rw [← hku] at cj
                rw [← hkt, ← hku] at h3
                obtain ⟨mi, hmi⟩ : ∃ q, q = m - 1 := ⟨_, rfl⟩
                rw [kl, ← hmi] at ck
                have hwr : IntKind.i64.wrap ((m : Int) - 1) = (mi : Int) := by rw [show (m : Int) - 1 = (mi : Int) by omega]; exact IntWalk.i64_in _ (by omega)
                have hix1 : mi < m := by omega
                have hix2 : (mi : Int) < (m : Int) := by omega
                have hix3 : ¬ (m ≤ mi) := by omega
                have hwr2 : IntKind.i64.wrap (mi : Int) = (mi : Int) := IntWalk.i64_in _ (by omega)
                clear hK hJ hmi
                have hd5 : decide ((ku.toNat : Int) ≤ (kt.toNat : Int)) = false := decide_eq_false (by omega)
                have hd6 : decide (ku.toNat ≤ kt.toNat) = false := decide_eq_false (by omega)
                have hm3 : 0 < m' := by omega
                clear hkt hku h3 hz1 hz2 hover
                go_quiet (fail)
                go_wp2_with fail
                go_meet
                exact ⟨rfl, Lib.hid ((show Still w3 (w3.drewN nq) from ⟨rfl, rfl, rfl, rfl⟩).below _)⟩
              · skip
                have hd3 : decide (0 < (m' : Int)) = false := decide_eq_false (by omega)
                have hd4 : decide (0 < m') = false := decide_eq_false (by omega)
                clear hz1 hz2 hover
                go_quiet (fail)
                go_wp2_with fail
                go_meet
                exact ⟨rfl, Lib.hid ((show Still w3 (w3.drewN nq) from ⟨rfl, rfl, rfl, rfl⟩).below _)⟩
            · skip
              have hd1 : decide (0 < (m : Int)) = false := decide_eq_false (by omega)
              have hd2 : decide (0 < m) = false := decide_eq_false (by omega)
              clear hz1 hover
              go_quiet (fail)
              go_wp2_with fail
              go_meet
              exact ⟨rfl, Lib.hid ((show Still w3 (w3.drewN nq) from ⟨rfl, rfl, rfl, rfl⟩).below _)⟩
          case rest => as_aux_lemma =>
            obtain ⟨rfl, hcb⟩ := hcut
            generalize wc = w4 at *
            have kz := hcb.out
            clear hcb hover x0 y0 x1 y1
            replace XN := Lib.hid (XN.out.below XN.out.lt kz)
            replace YN := Lib.hid (YN.out.below YN.out.lt kz)
            replace NN := Lib.hid (NN.out.below kz)
            replace MM := Lib.hid (MM.out.below kz)
            replace MX := Lib.hid (MX.out.far kz)
            replace MY := Lib.hid (MY.out.far kz)
            replace HB := Lib.hid (HB.out.trans (kz.mono HB.out.size))
            clear kz
            obtain ⟨L, p, hL, hLn, hP, hLd⟩ := join_parts HK.out HK'.out hr
            obtain ⟨N8, hN8⟩ : ∃ q, q = (m + m') / 8 := ⟨_, rfl⟩
            rw [kl, kl', ← hN8] at hLn
            have HL := Lib.hid hL
            have HLd := Lib.hid hLd
            have HN8 := Lib.hid hN8
            have HP := Lib.hid hP
            clear hL hLd hP
            have hq1 : IntKind.i64.wrap (((m : Int) + (m' : Int)).tdiv 8) = (N8 : Int) := by rw [hN8, show ((m : Int) + (m' : Int)) = ((m + m' : Nat) : Int) by omega]; have : (((m + m' : Nat) : Int)).tdiv 8 = (((m + m') / 8 : Nat) : Int) := rfl; rw [this]; exact IntWalk.i64_in _ (by omega)
            have hq2 : IntKind.i64.wrap ((m : Int) + (m' : Int)) = (m : Int) + (m' : Int) := IntWalk.i64_in _ (by omega)
            have hq3 : IntKind.i64.wrap (1 + (N8 : Int)) = 1 + (N8 : Int) := IntWalk.i64_in _ (by omega)
            clear hN8
            go_wp2_with (first | (refine wpList_load_d rfl (.tmp 2) rfl w.heap.size _ rfl XN.out ?_) | (refine wpList_load_d rfl (.tmp 3) rfl (w.heap.size + 1) _ rfl YN.out ?_))
            have hxj := MX.out.lt
            refine (join_any l l NN.out MM.out _ HL.out.symm).mono ?_
            rintro e w5 ⟨q, rfl, Lq, kz⟩
            replace XN := Lib.hid (XN.out.below XN.out.lt kz)
            replace YN := Lib.hid (YN.out.below YN.out.lt kz)
            replace NN := Lib.hid (NN.out.below kz)
            replace MM := Lib.hid (MM.out.below kz)
            replace MX := Lib.hid (MX.out.far kz)
            replace MY := Lib.hid (MY.out.far kz)
            replace HB := Lib.hid (HB.out.trans (kz.mono HB.out.size))
            clear kz
            have HXJ := Lib.hid hxj
            clear hxj
            obtain ⟨gq, rfl⟩ := Lq.len hLn
            replace Lq := Lib.hid Lq
            have HLN := Lib.hid hLn
            clear hLn
            have hN81 : N8 ≤ 1 := by rw [HN8.out]; have := HK.out.1; have := HK'.out.1; omega
            obtain ⟨DX, ownX, viewX⟩ := MX.out
            obtain ⟨DY, ownY, viewY⟩ := MY.out
            have hl1 := fun ty => ownX.len Try.underlying45 ty
            have hl2 := fun ty => ownY.len Try.underlying45 ty
            rw [viewX.size] at hl1
            rw [viewY.size] at hl2
            have VX := Lib.hid viewX
            have VY := Lib.hid viewY
            have hsz := viewY.size
            have OX := Lib.hid ownX
            clear viewX viewY ownX
            go_wp2_with (first | (at_range; refine wpList_range_own _ rfl _ 45 rfl 25 25 keysU Try.underlying45 _ by' _ _ rfl ownY ?_; intro w0 hrg0 hg0 hs0) | go_in)
            have HG0 := Lib.hid (hg0.but (some bx))
            have kz := (show Below w5.heap.size w5 w0 from ⟨hg0.os, hg0.tape, hg0.output, hg0.size, fun q hq => hg0.block q hq (by simp)⟩)
            have MX0 := Lib.hid (MX.out.far kz)
            clear kz hg0 ownY hl1 hl2 hq1 hq2 hq3
            go_frame
            obtain ⟨es2, cl2, hmb⟩ := map_block MX.out
            have HMB := Lib.hid hmb
            clear hmb
            have hyx : by' ≠ bx := by have := HBYL.out; have := HBXLT.out; omega
            have hrx : w5.heap.size ≠ bx := by have := MX.out.lt; omega
            have HST := Lib.hid (laid_start (f := look ks vs) (g := look ks' vs') (left := Maps.has DY) (fun k hk => by rw [VY.out.hasKey k]; exact hk))
            rw [hsz] at hrg0
            clear hsz hs0
            go_loopw [14] (fun _ wr => ∃ (left : Lit → Bool) (cnt cap n2 : Nat), wr.ranges Try.prog 25 (plainElem Try.prog 25) by' w5.heap.size m' DY left cnt ∧ cap + cnt ≤ m + m' ∧ Hid (MapV wr bx cap (laid (look ks vs) (look ks' vs') left) n2) ∧ Hid (w5.grownBy wr (some bx))) (fun _ wr => wr.rangeLeft by' w5.heap.size)
            case atStart => exact ⟨_, _, m, _, hrg0, Nat.le_refl _, Lib.hid (MapV.congr MX0.out HST.out rfl), HG0⟩
            case round => as_aux_lemma =>
              obtain ⟨left, cnt, cap, n2, hrg, hcap, HM, HG⟩ := hrel
              clear hrg0 MX0 HST HG0
              go_wp2_with (first | (at_next; refine wpList_next_ranges_ii _ rfl _ rfl 25 25 .u64 .u64 keysU Try.underlying25 Try.underlying25 by' w5.heap.size m' _ _ _ rfl hrg ?_ ?_) | go_in)
              · intro hc0 hl0
                replace XN := Lib.hid (box_grown XN.out HMB.out HG.out)
                replace YN := Lib.hid (box_grown YN.out HMB.out HG.out)
                replace NN := Lib.hid (nd_grown NN.out HMB.out HG.out)
                replace MM := Lib.hid (nd_grown MM.out HMB.out HG.out)
                replace MY := Lib.hid (map_grown MY.out hyx HG.out)
                replace Lq := Lib.hid (list_grown Lq.out HXJ.out HG.out)
                replace HB := Lib.hid (HB.out.trans (MapV.turn HG.out HBX0.out HB.out.size))
                have MX2 := Lib.hid (MapV.congr HM.out (fun k => (laid_end hl0 k).trans (look_swap HK.out.2.1 HK'.out.2.1 hr k)) rfl)
                have hn2 := MX2.out.all (rises_nodup hr) (look_some (by rw [List.length_append, List.length_append, HK.out.2.1, HK'.out.2.1]))
                rw [List.length_append, kl, kl'] at hn2
                subst hn2
                clear HM HG HMB MX hl0 hc0 hrg hcap MY OX VX VY hyx hrx HBYL HBXL HBXLT HXJ
                have hmm := @run_makeMap Try.prog
                go_upto_region 17 with (fail)
                have BM := Lib.hid (show MapV (wr.alloc (.map #[] 0)) wr.heap.size 0 (look [] []) 0 from ⟨.map [], World.ownsMap_made wr Try.prog 25 (plainElem Try.prog 25), view_none⟩)
                have kz := (Below.refl wr.heap.size wr).alloc (Nat.le_refl _) (.map #[] 0)
                obtain ⟨bs, hbs⟩ : ∃ q, q = wr.heap.size := ⟨_, rfl⟩
                have HXW := Lib.hid (show bx < bs by have := MX2.out.lt; omega)
                generalize wr.alloc (.map #[] 0) = ws at *
                replace XN := Lib.hid (XN.out.below XN.out.lt kz)
                replace YN := Lib.hid (YN.out.below YN.out.lt kz)
                replace NN := Lib.hid (NN.out.below kz)
                replace MM := Lib.hid (MM.out.below kz)
                replace Lq := Lib.hid (Lq.out.at kz)
                replace MX2 := Lib.hid (MX2.out.far kz)
                replace HB := Lib.hid (HB.out.trans (kz.mono HB.out.size))
                rw [← hbs] at BM ⊢
                have HBS := Lib.hid (show w.heap.size ≤ bs by have := HBX0.out; have := HXW.out; omega)
                have HBS2 := Lib.hid hbs
                clear kz hmm hbs
                obtain ⟨gg, hgg⟩ := Lq.out.some HLN.out
                simp only [Value.slice.injEq] at hgg
                obtain ⟨rfl, _, _⟩ := hgg
                go_wp2_with fail
                obtain ⟨es3, cl3, hmb3⟩ := map_block BM.out
                have HMB3 := Lib.hid hmb3
                clear hmb3
                have HVL := Lib.hid (show (vs ++ vs').length = (ks ++ ks').length by rw [List.length_append, List.length_append, HK.out.2.1, HK'.out.2.1])
                have hNK : (ks ++ ks').length = m + m' := by rw [List.length_append, kl, kl']
                go_loopw [17, 124] (fun s17 i wr2 => ∃ (j : Nat) (lst : UInt64) (cap n3 : Nat), j ≤ 1 + N8 ∧ i = .int .i64 (j : Int) ∧ s17 = .int .u64 (lst.toNat : Int) ∧ cap ≤ p j ∧ Hid (0 < p j → (ks ++ ks')[p j - 1]? = some lst) ∧ Hid (MapV wr2 bs cap (look ((ks ++ ks').take (p j)) ((vs ++ vs').take (p j))) n3) ∧ Hid (ws.grownBy wr2 (some bs))) (fun _ i _ => 1 + N8 - (Go.RowKit.intOf i).toNat)
                case atStart => exact ⟨0, 0, 0, 0, by omega, rfl, rfl, Nat.zero_le _, Lib.hid (fun h => absurd h (by rw [HP.out.zero]; omega)), Lib.hid (MapV.congr BM.out (fun k => by rw [HP.out.zero]; rfl) rfl), Lib.hid ⟨rfl, rfl, rfl, Nat.le_refl _, fun _ _ _ => rfl⟩⟩
                case round => as_aux_lemma =>
                  obtain ⟨j, lst, cap, n3, hj, rfl, rfl, hcap, HLST, BM2, HG2⟩ := hrel
                  replace XN := Lib.hid (box_grown XN.out HMB3.out HG2.out)
                  replace YN := Lib.hid (box_grown YN.out HMB3.out HG2.out)
                  replace NN := Lib.hid (nd_grown NN.out HMB3.out HG2.out)
                  replace MM := Lib.hid (nd_grown MM.out HMB3.out HG2.out)
                  replace Lq := Lib.hid (list_turn Lq.out HMB3.out HG2.out)
                  replace MX2 := Lib.hid (map_grown MX2.out (by have := HXW.out; omega) HG2.out)
                  replace HB := Lib.hid (HB.out.trans (MapV.turn HG2.out HBS.out HB.out.size))
                  clear BM
                  have BM := Lib.hid BM2.out
                  clear BM2
                  by_cases hlt : j < 1 + N8
                  · skip
                    have hltI : (j : Int) < 1 + (N8 : Int) := by omega
                    obtain ⟨Kj, Vj, hje, hokj, hpj, hpl, hkt', hvt', hpos, hkz⟩ := HP.out.part j (by rw [HLN.out]; exact hlt)
                    obtain ⟨Aa, ca, Ba, da, q0, q1, q2, Na0, Oa0⟩ := Lq.out.el hje
                    have Na := Lib.hid Na0
                    have Oa := Lib.hid Oa0
                    have HKJ := Lib.hid hokj
                    have HKT := Lib.hid hkt'
                    have HVT := Lib.hid hvt'
                    have HKZ := Lib.hid hkz
                    have hpk : p j ≤ (ks ++ ks').length := by omega
                    have HFST := Lib.hid (fun h0 => part_first (K := ks ++ ks') (Kj := Kj) hpk hkt' h0)
                    obtain ⟨N, hkN⟩ : ∃ q, Kj.length = q := ⟨_, rfl⟩
                    have hvN : Vj.length = N := by rw [hokj.2.1, hkN]
                    rw [hkN] at q1 hpj Na Oa
                    rw [hvN] at q2 Na Oa
                    have hN7 : N ≤ 7 := by have := hokj.1; omega
                    clear Na0 Oa0 hokj hkt' hvt' hkz hje hvN
                    have HZR := Lib.hid (alloc_rowV wr 24 [.bool false, .slice none 0 0, .slice none 0 0])
                    have HQZ := Lib.hid ((Below.refl wr.heap.size wr).alloc (Nat.le_refl _) (.cells #[.bool false, .slice none 0 0, .slice none 0 0] 24))
                    go_upto_region 21 with (first | (refine wpList_store_row rfl 24 (.tmp 19) (.tmp 128) rfl wr.heap.size #[.bool l, .slice Aa N ca, .slice Ba N da] rfl rfl _ _ HZR.out node_size rfl (ones l rfl rfl) ?_))
                    have hR : RowV ((wr.alloc (.cells #[.bool false, .slice none 0 0, .slice none 0 0] 24)).setRow wr.heap.size #[.bool l, .slice Aa N ca, .slice Ba N da]) wr.heap.size 24 [.bool l, .slice Aa N ca, .slice Ba N da] := row_set (us := [.bool l, .slice Aa N ca, .slice Ba N da]) HZR.out
                    have kv := HQZ.out.trans (row_below #[.bool l, .slice Aa N ca, .slice Ba N da] (Nat.le_refl _))
                    have Xn := Lib.hid (row_d hR)
                    clear hR HZR HQZ
                    obtain ⟨rn, hrn⟩ : ∃ r, r = wr.heap.size := ⟨_, rfl⟩
                    generalize (wr.alloc (.cells #[.bool false, .slice none 0 0, .slice none 0 0] 24)).setRow wr.heap.size #[.bool l, .slice Aa N ca, .slice Ba N da] = w6 at *
                    replace XN := Lib.hid (XN.out.below XN.out.lt kv)
                    replace YN := Lib.hid (YN.out.below YN.out.lt kv)
                    replace NN := Lib.hid (NN.out.below kv)
                    replace MM := Lib.hid (MM.out.below kv)
                    replace Lq := Lib.hid (Lq.out.at kv)
                    replace MX2 := Lib.hid (MX2.out.far kv)
                    replace BM := Lib.hid (BM.out.far kv)
                    replace HG2 := Lib.hid (grow_on HG2.out kv)
                    replace Na := Lib.hid (Na.out.below kv)
                    replace Oa := Lib.hid (Oa.out.at kv)
                    replace HB := Lib.hid (HB.out.trans (kv.mono HB.out.size))
                    rw [← hrn] at Xn ⊢
                    clear kv hrn
                    clear q0 q1 q2
                    have nx0 := Xn.out.of.cellAt (i := 0) rfl
                    have nx1 := Xn.out.of.cellAt (i := 1) rfl
                    have nx2 := Xn.out.of.cellAt (i := 2) rfl
                    go_wp2_with fail
                    clear nx0 nx1 nx2
                    have hbl := BM.out.lt
                    refine (all_yes l Na.out HKJ.out).mono ?_
                    rintro e w7 ⟨bz, rfl, MZ, hbz, kz⟩
                    replace XN := Lib.hid (XN.out.below XN.out.lt kz)
                    replace YN := Lib.hid (YN.out.below YN.out.lt kz)
                    replace NN := Lib.hid (NN.out.below kz)
                    replace MM := Lib.hid (MM.out.below kz)
                    replace Lq := Lib.hid (Lq.out.at kz)
                    replace MX2 := Lib.hid (MX2.out.far kz)
                    replace BM := Lib.hid (BM.out.far kz)
                    replace HG2 := Lib.hid (grow_on HG2.out kz)
                    replace Na := Lib.hid (Na.out.below kz)
                    replace Oa := Lib.hid (Oa.out.at kz)
                    replace Xn := Lib.hid (Xn.out.below Xn.out.lt kz)
                    replace HB := Lib.hid (HB.out.trans (kz.mono HB.out.size))
                    clear kz
                    have HZS := Lib.hid (show bz ≠ bs by omega)
                    clear hbl hbz
                    replace MZ := Lib.hid MZ
                    have n0 := Xn.out.of.cellAt (i := 0) rfl
                    have x0 := XN.out.of.cellAt (i := 0) rfl
                    obtain ⟨DZ, ownZ, viewZ⟩ := MZ.out
                    have VZ := Lib.hid viewZ
                    clear viewZ
                    by_cases hj0 : 0 < j
                    · skip
                      obtain ⟨hz', hp0⟩ := hpos hj0
                      have hz : 0 < N := by omega
                      have hj0I : (0 : Int) < (j : Int) := by omega
                      have hN0 : ¬ (N : Int) = 0 := by omega
                      have hN0b : ((N : Int) == 0) = false := by simp; omega
                      have nk1 := Xn.out.of.cellAt (i := 1) rfl
                      obtain ⟨bk1, ok1, rfl, hK1⟩ := Na.out.ks.has hz'
                      have ck1 := hK1 0 hz'
                      rw [Nat.add_zero] at ck1
                      have hrise := part_rise hr hp0 (HLST.out hp0) (HFST.out hz')
                      obtain ⟨kf, hkf⟩ : ∃ a, a = Kj[0]'hz' := ⟨_, rfl⟩
                      rw [← hkf] at ck1 hrise
                      have hrd1 : decide ((kf.toNat : Int) ≤ (lst.toNat : Int)) = false := decide_eq_false (by omega)
                      have hrd2 : decide (kf.toNat ≤ lst.toNat) = false := decide_eq_false (by omega)
                      clear hK1 hkf hrise
                      go_wp2_with (first | (at_range; refine wpList_range_own _ rfl _ 45 rfl 25 25 keysU Try.underlying45 _ bz _ _ rfl ownZ ?_; intro wz hrgz hgz hsz) | go_in)
                      clear nk1 ck1 hj0I hN0 hN0b hrd1 hrd2
                      have HGz0 := Lib.hid (hgz.but (some bs))
                      have kz := (show Below w7.heap.size w7 wz from ⟨hgz.os, hgz.tape, hgz.output, hgz.size, fun q hq => hgz.block q hq (by simp)⟩)
                      have BM0 := Lib.hid (BM.out.far kz)
                      clear kz hgz ownZ n0 x0
                      go_frame
                      obtain ⟨es4, cl4, hmb4⟩ := map_block BM.out
                      have HMB4 := Lib.hid hmb4
                      clear hmb4
                      have hrs : w7.heap.size ≠ bs := by have := BM.out.lt; omega
                      have hzs := HZS.out
                      have HSTz := Lib.hid (laid_start (f := (look ((ks ++ ks').take (p j)) ((vs ++ vs').take (p j)))) (g := look Kj Vj) (left := Maps.has DZ) (fun k hk => by rw [VZ.out.hasKey k]; exact hk))
                      have hszz := VZ.out.size
                      rw [hszz] at hrgz
                      clear hszz hsz
                      go_loopw [22] (fun _ wr => ∃ (left : Lit → Bool) (cnt cap2 n2 : Nat), wr.ranges Try.prog 25 (plainElem Try.prog 25) bz w7.heap.size N DZ left cnt ∧ cap2 + cnt ≤ cap + N ∧ Hid (MapV wr bs cap2 (laid (look ((ks ++ ks').take (p j)) ((vs ++ vs').take (p j))) (look Kj Vj) left) n2) ∧ Hid (w7.grownBy wr (some bs))) (fun _ wr => wr.rangeLeft bz w7.heap.size)
                      case atStart => exact ⟨_, _, cap, _, hrgz, Nat.le_refl _, Lib.hid (MapV.congr BM0.out HSTz.out rfl), HGz0⟩
                      case round => as_aux_lemma =>
                        obtain ⟨left, cnt, cap2, n2, hrg, hcap2, HM, HG⟩ := hrel
                        clear hrgz BM0 HSTz HGz0
                        go_wp2_with (first | (at_next; refine wpList_next_ranges_ii _ rfl _ rfl 25 25 .u64 .u64 keysU Try.underlying25 Try.underlying25 bz w7.heap.size N _ _ _ rfl hrg ?_ ?_) | go_in)
                        · intro hc0 hl0
                          replace XN := Lib.hid (box_grown XN.out HMB4.out HG.out)
                          replace YN := Lib.hid (box_grown YN.out HMB4.out HG.out)
                          replace NN := Lib.hid (nd_grown NN.out HMB4.out HG.out)
                          replace MM := Lib.hid (nd_grown MM.out HMB4.out HG.out)
                          replace Lq := Lib.hid (list_turn Lq.out HMB4.out HG.out)
                          replace MX2 := Lib.hid (map_grown MX2.out (by have := HXW.out; omega) HG.out)
                          replace HG2 := Lib.hid (HG2.out.andThen HG.out (fun j e => .inr e))
                          replace Na := Lib.hid (nd_grown Na.out HMB4.out HG.out)
                          replace Oa := Lib.hid (ownd_turn Oa.out HMB4.out HG.out)
                          replace Xn := Lib.hid (box_grown Xn.out HMB4.out HG.out)
                          replace MZ := Lib.hid (map_grown MZ.out hzs HG.out)
                          replace HB := Lib.hid (HB.out.trans (MapV.turn HG.out HBS.out HB.out.size))
                          replace BM := Lib.hid (MapV.congr HM.out (fun k => laid_part HVL.out HKJ.out.2.1 hr HKT.out HVT.out hl0 k) rfl)
                          have hcap3 : cap2 ≤ p (j + 1) := by rw [hpj]; omega
                          clear HM HG hrg hc0 hl0
                          have n1 := Xn.out.of.cellAt (i := 1) rfl
                          have hm1 : 0 < (N : Int) := by omega
                          have hkj0 : 0 < Kj.length := by omega
                          obtain ⟨bk, ok, eK, hK⟩ := Na.out.ks.has hkj0
                          simp only [Option.some.injEq, Addr.mk.injEq, and_true] at eK
                          obtain ⟨rfl, rfl⟩ := eK
                          have ck := hK (N - 1) (by omega)
                          have HLAST := Lib.hid (part_end (by omega) (by rw [hpj, hkN]) HKT.out hkj0)
                          obtain ⟨kt, hkt⟩ : ∃ a, a = Kj[N - 1]'(by omega) := ⟨_, rfl⟩
                          rw [← hkt] at ck
                          rw [show Kj[Kj.length - 1]'(by omega) = kt by rw [hkt]; simp only [hkN]] at HLAST
                          obtain ⟨mi, hmi⟩ : ∃ q, q = N - 1 := ⟨_, rfl⟩
                          rw [← hmi] at ck
                          have hwr : IntKind.i64.wrap ((N : Int) - 1) = (mi : Int) := by rw [show (N : Int) - 1 = (mi : Int) by omega]; exact IntWalk.i64_in _ (by omega)
                          have hix1 : mi < N := by omega
                          have hix2 : (mi : Int) < (N : Int) := by omega
                          have hmm2 : (N : Int) - 1 = (mi : Int) := by omega
                          clear hK hmi hkt hkj0
                          go_wp2_with fail
                          go_roundw
                          case rel => exact ⟨j + 1, kt, cap2, n2, by omega, by go_num, rfl, hcap3, Lib.hid (fun _ => HLAST.out), BM, HG2⟩
                          case measure => simp [Go.RowKit.intOf]; omega
                        · intro x c5 w1' cnt1 hwx hwc hlx hat hrg1 hlt hg1 hs1 hen
                          obtain ⟨k, rfl⟩ := num_of hwx
                          obtain ⟨v, rfl⟩ := num_of hwc
                          have hgk : look Kj Vj k = some v := by
                            have h1 := VZ.out.hasKey k
                            rw [show klit k = Lit.int .u64 (k.toNat : Int) from rfl, has_true_of_atKey hat] at h1
                            obtain ⟨v', hv'⟩ := Option.isSome_iff_exists.1 h1.symm
                            have h2 := VZ.out.at' k v' (.lit (.int .u64 0)) hv'
                            rw [show klit k = Lit.int .u64 (k.toNat : Int) from rfl, hat] at h2
                            rw [hv', kdat_inj (a := v) (b := v') h2]
                          have HGK := Lib.hid hgk
                          have hM1 := map_grown HM.out (Ne.symm hrs) hg1
                          obtain ⟨D, hown, hview⟩ := hM1
                          have HV := Lib.hid hview
                          have hlm : cap2 < maxLen := by unfold maxLen; omega
                          have HG1 := Lib.hid (HG.out.andThen hg1 (fun j e => .inl (by have := Option.some.inj e; omega)))
                          have HRG := Lib.hid hrg1
                          have HOLD := Lib.hid hrg.left_eq
                          have HLT := Lib.hid hlt
                          clear hgk hview hat hrg1 hrg HM HG hg1 hlx hs1 hlt
                          go_wp2_with (first | (at_mapUpdate; refine wpList_mapUpdate_own _ rfl _ _ _ 45 rfl 25 25 keysU Try.underlying45 _ bs _ _ rfl hown hlm _ _ (klit k) rfl rfl (keyOf_int_mk Try.underlying25 hwx) (kdat v) [] (plainElem_int Try.underlying25 hwc) ?_; intro w5 hown5 hg5; go_frame) | go_in)
                          have hrg5 := HRG.out.kept hg5 (fun e => hzs (Option.some.inj e)) (fun e => hrs (Option.some.inj e))
                          go_roundw
                          case rel => exact ⟨_, cnt1, cap2 + 1, _, hrg5, by have := HLT.out; omega, Lib.hid (MapV.congr ⟨_, hown5, HV.out.put k v⟩ (fun x => laid_step HGK.out x) rfl), Lib.hid (HG1.out.andThen hg5 (fun j e => .inr e))⟩
                          case measure => rw [hrg5.left_eq, HOLD.out]; exact HLT.out
                    · skip
                      have hj0I : ¬ (0 : Int) < (j : Int) := by omega
                      go_wp2_with (first | (at_range; refine wpList_range_own _ rfl _ 45 rfl 25 25 keysU Try.underlying45 _ bz _ _ rfl ownZ ?_; intro wz hrgz hgz hsz) | go_in)
                      have HGz0 := Lib.hid (hgz.but (some bs))
                      have kz := (show Below w7.heap.size w7 wz from ⟨hgz.os, hgz.tape, hgz.output, hgz.size, fun q hq => hgz.block q hq (by simp)⟩)
                      have BM0 := Lib.hid (BM.out.far kz)
                      clear kz hgz ownZ n0 x0
                      go_frame
                      obtain ⟨es4, cl4, hmb4⟩ := map_block BM.out
                      have HMB4 := Lib.hid hmb4
                      clear hmb4
                      have hrs : w7.heap.size ≠ bs := by have := BM.out.lt; omega
                      have hzs := HZS.out
                      have HSTz := Lib.hid (laid_start (f := (look ((ks ++ ks').take (p j)) ((vs ++ vs').take (p j)))) (g := look Kj Vj) (left := Maps.has DZ) (fun k hk => by rw [VZ.out.hasKey k]; exact hk))
                      have hszz := VZ.out.size
                      rw [hszz] at hrgz
                      clear hszz hsz
                      go_loopw [22] (fun _ wr => ∃ (left : Lit → Bool) (cnt cap2 n2 : Nat), wr.ranges Try.prog 25 (plainElem Try.prog 25) bz w7.heap.size N DZ left cnt ∧ cap2 + cnt ≤ cap + N ∧ Hid (MapV wr bs cap2 (laid (look ((ks ++ ks').take (p j)) ((vs ++ vs').take (p j))) (look Kj Vj) left) n2) ∧ Hid (w7.grownBy wr (some bs))) (fun _ wr => wr.rangeLeft bz w7.heap.size)
                      case atStart => exact ⟨_, _, cap, _, hrgz, Nat.le_refl _, Lib.hid (MapV.congr BM0.out HSTz.out rfl), HGz0⟩
                      case round => as_aux_lemma =>
                        obtain ⟨left, cnt, cap2, n2, hrg, hcap2, HM, HG⟩ := hrel
                        clear hrgz BM0 HSTz HGz0
                        go_wp2_with (first | (at_next; refine wpList_next_ranges_ii _ rfl _ rfl 25 25 .u64 .u64 keysU Try.underlying25 Try.underlying25 bz w7.heap.size N _ _ _ rfl hrg ?_ ?_) | go_in)
                        · intro hc0 hl0
                          replace XN := Lib.hid (box_grown XN.out HMB4.out HG.out)
                          replace YN := Lib.hid (box_grown YN.out HMB4.out HG.out)
                          replace NN := Lib.hid (nd_grown NN.out HMB4.out HG.out)
                          replace MM := Lib.hid (nd_grown MM.out HMB4.out HG.out)
                          replace Lq := Lib.hid (list_turn Lq.out HMB4.out HG.out)
                          replace MX2 := Lib.hid (map_grown MX2.out (by have := HXW.out; omega) HG.out)
                          replace HG2 := Lib.hid (HG2.out.andThen HG.out (fun j e => .inr e))
                          replace Na := Lib.hid (nd_grown Na.out HMB4.out HG.out)
                          replace Oa := Lib.hid (ownd_turn Oa.out HMB4.out HG.out)
                          replace Xn := Lib.hid (box_grown Xn.out HMB4.out HG.out)
                          replace MZ := Lib.hid (map_grown MZ.out hzs HG.out)
                          replace HB := Lib.hid (HB.out.trans (MapV.turn HG.out HBS.out HB.out.size))
                          replace BM := Lib.hid (MapV.congr HM.out (fun k => laid_part HVL.out HKJ.out.2.1 hr HKT.out HVT.out hl0 k) rfl)
                          have hcap3 : cap2 ≤ p (j + 1) := by rw [hpj]; omega
                          clear HM HG hrg hc0 hl0
                          have n1 := Xn.out.of.cellAt (i := 1) rfl
                          by_cases hz : 0 < N
                          · skip
                            have hm1 : 0 < (N : Int) := by omega
                            have hkj0 : 0 < Kj.length := by omega
                            obtain ⟨bk, ok, rfl, hK⟩ := Na.out.ks.has hkj0
                            have ck := hK (N - 1) (by omega)
                            have HLAST := Lib.hid (part_end (by omega) (by rw [hpj, hkN]) HKT.out hkj0)
                            obtain ⟨kt, hkt⟩ : ∃ a, a = Kj[N - 1]'(by omega) := ⟨_, rfl⟩
                            rw [← hkt] at ck
                            rw [show Kj[Kj.length - 1]'(by omega) = kt by rw [hkt]; simp only [hkN]] at HLAST
                            obtain ⟨mi, hmi⟩ : ∃ q, q = N - 1 := ⟨_, rfl⟩
                            rw [← hmi] at ck
                            have hwr : IntKind.i64.wrap ((N : Int) - 1) = (mi : Int) := by rw [show (N : Int) - 1 = (mi : Int) by omega]; exact IntWalk.i64_in _ (by omega)
                            have hix1 : mi < N := by omega
                            have hix2 : (mi : Int) < (N : Int) := by omega
                            have hmm2 : (N : Int) - 1 = (mi : Int) := by omega
                            clear hK hmi hkt hkj0
                            go_wp2_with fail
                            go_roundw
                            case rel => exact ⟨j + 1, kt, cap2, n2, by omega, by go_num, rfl, hcap3, Lib.hid (fun _ => HLAST.out), BM, HG2⟩
                            case measure => simp [Go.RowKit.intOf]; omega
                          · skip
                            have hm1 : ¬ 0 < (N : Int) := by omega
                            go_wp2_with fail
                            go_roundw
                            case rel => exact ⟨j + 1, lst, cap2, n2, by omega, by go_num, rfl, hcap3, Lib.hid (fun h0 => absurd h0 (by have := HKZ.out (by omega); omega)), BM, HG2⟩
                            case measure => simp [Go.RowKit.intOf]; omega
                        · intro x c5 w1' cnt1 hwx hwc hlx hat hrg1 hlt hg1 hs1 hen
                          obtain ⟨k, rfl⟩ := num_of hwx
                          obtain ⟨v, rfl⟩ := num_of hwc
                          have hgk : look Kj Vj k = some v := by
                            have h1 := VZ.out.hasKey k
                            rw [show klit k = Lit.int .u64 (k.toNat : Int) from rfl, has_true_of_atKey hat] at h1
                            obtain ⟨v', hv'⟩ := Option.isSome_iff_exists.1 h1.symm
                            have h2 := VZ.out.at' k v' (.lit (.int .u64 0)) hv'
                            rw [show klit k = Lit.int .u64 (k.toNat : Int) from rfl, hat] at h2
                            rw [hv', kdat_inj (a := v) (b := v') h2]
                          have HGK := Lib.hid hgk
                          have hM1 := map_grown HM.out (Ne.symm hrs) hg1
                          obtain ⟨D, hown, hview⟩ := hM1
                          have HV := Lib.hid hview
                          have hlm : cap2 < maxLen := by unfold maxLen; omega
                          have HG1 := Lib.hid (HG.out.andThen hg1 (fun j e => .inl (by have := Option.some.inj e; omega)))
                          have HRG := Lib.hid hrg1
                          have HOLD := Lib.hid hrg.left_eq
                          have HLT := Lib.hid hlt
                          clear hgk hview hat hrg1 hrg HM HG hg1 hlx hs1 hlt
                          go_wp2_with (first | (at_mapUpdate; refine wpList_mapUpdate_own _ rfl _ _ _ 45 rfl 25 25 keysU Try.underlying45 _ bs _ _ rfl hown hlm _ _ (klit k) rfl rfl (keyOf_int_mk Try.underlying25 hwx) (kdat v) [] (plainElem_int Try.underlying25 hwc) ?_; intro w5 hown5 hg5; go_frame) | go_in)
                          have hrg5 := HRG.out.kept hg5 (fun e => hzs (Option.some.inj e)) (fun e => hrs (Option.some.inj e))
                          go_roundw
                          case rel => exact ⟨_, cnt1, cap2 + 1, _, hrg5, by have := HLT.out; omega, Lib.hid (MapV.congr ⟨_, hown5, HV.out.put k v⟩ (fun x => laid_step HGK.out x) rfl), Lib.hid (HG1.out.andThen hg5 (fun j e => .inr e))⟩
                          case measure => rw [hrg5.left_eq, HOLD.out]; exact HLT.out
                  · skip
                    have hltI : ¬ ((j : Int) < 1 + (N8 : Int)) := by omega
                    have hpl := HP.out.last
                    rw [HLN.out, show 1 + N8 = j by omega] at hpl
                    have BMX := Lib.hid (MapV.congr BM.out (fun k => by rw [hpl, List.take_length, ← HVL.out, List.take_length]) rfl)
                    have hn3 := BMX.out.all (rises_nodup hr) (look_some HVL.out)
                    rw [hNK] at hn3
                    subst hn3
                    clear BM hpl
                    by_cases hN1 : N8 = 1
                    · skip
                      have h22 : ((1 + (N8 : Int)) == 2) = true := by rw [hN1]; rfl
                      obtain ⟨pa, pb, hLab, hla, hlb, hva, hvb⟩ := HLd.out (by rw [HLN.out, hN1])
                      obtain ⟨la, ka, va⟩ := pa
                      obtain ⟨lb, kb, vb⟩ := pb
                      obtain ⟨A0, c0, B0, d0, z00, z01, z02, _, _⟩ := Lq.out.el (j := 0) (l := la) (K := ka) (V := va) (by rw [hLab]; rfl)
                      obtain ⟨A1, c1, B1, d1, z10, z11, z12, _, _⟩ := Lq.out.el (j := 1) (l := lb) (K := kb) (V := vb) (by rw [hLab]; rfl)
                      rw [show 0 * 3 + 1 = 1 from rfl] at z01
                      rw [show 1 * 3 + 1 = 4 from rfl] at z11
                      have hla' : ka.length = (ks.length + ks'.length + 1) / 2 := hla
                      have hlb' : kb.length = (ks.length + ks'.length) - (ks.length + ks'.length + 1) / 2 := hlb
                      obtain ⟨na, hna⟩ : ∃ q, ka.length = q := ⟨_, rfl⟩
                      obtain ⟨nb, hnb⟩ : ∃ q, kb.length = q := ⟨_, rfl⟩
                      rw [hna] at z01 hla'
                      rw [hnb] at z11 hlb'
                      have hdif : na = nb ∨ na = nb + 1 := by omega
                      have hnab : na ≤ 14 := by have := HK.out.1; have := HK'.out.1; omega
                      have hi0 : (0 : Int) < 1 + (N8 : Int) := by omega
                      have hi1 : (1 : Int) < 1 + (N8 : Int) := by omega
                      have hi2 : 0 < 1 + N8 := by omega
                      have hi3 : 1 < 1 + N8 := by omega
                      obtain ⟨dd, hdd⟩ : ∃ q : Nat, (na : Int) - (nb : Int) = (q : Int) ∧ q ≤ 1 := ⟨na - nb, by omega, by omega⟩
                      have hw9 : IntKind.i64.wrap ((na : Int) - (nb : Int)) = (dd : Int) := by rw [hdd.1]; exact IntWalk.i64_in _ (by have := hdd.2; omega)
                      have hd91 : decide ((dd : Int) < 0) = false := decide_eq_false (by omega)
                      have hd92 : decide ((1 : Int) < (dd : Int)) = false := decide_eq_false (by have := hdd.2; omega)
                      have hd93 : decide (1 < dd) = false := decide_eq_false (by have := hdd.2; omega)
                      clear hla hlb hva hvb hLab z00 z02 z10 z12 hla' hlb' hna hnb hdif hnab hdd hN1
                      go_upto_region 32 with (fail)
                      go_quiet (fail)
                      have kz := (show Still wr (wr.drewN nq) from ⟨rfl, rfl, rfl, rfl⟩).below wr.heap.size
                      generalize wr.drewN nq = w6 at *
                      replace XN := Lib.hid (XN.out.below XN.out.lt kz)
                      replace YN := Lib.hid (YN.out.below YN.out.lt kz)
                      replace NN := Lib.hid (NN.out.below kz)
                      replace MM := Lib.hid (MM.out.below kz)
                      replace Lq := Lib.hid (Lq.out.at kz)
                      replace MX2 := Lib.hid (MX2.out.far kz)
                      replace HG2 := Lib.hid (grow_on HG2.out kz)
                      replace BMX := Lib.hid (BMX.out.far kz)
                      replace HB := Lib.hid (HB.out.trans (kz.mono HB.out.size))
                      clear kz
                      clear z01 z11 hw9 hi0 hi1 hi2 hi3 h22
                      go_wp2_with fail
                      refine (alike_yes MX2.out BMX.out).mono ?_
                      rintro e w7 ⟨rfl, kz⟩
                      replace XN := Lib.hid (XN.out.below XN.out.lt kz)
                      replace YN := Lib.hid (YN.out.below YN.out.lt kz)
                      replace NN := Lib.hid (NN.out.below kz)
                      replace MM := Lib.hid (MM.out.below kz)
                      replace Lq := Lib.hid (Lq.out.at kz)
                      replace MX2 := Lib.hid (MX2.out.far kz)
                      replace HG2 := Lib.hid (grow_on HG2.out kz)
                      replace BMX := Lib.hid (BMX.out.far kz)
                      replace HB := Lib.hid (HB.out.trans (kz.mono HB.out.size))
                      clear kz
                      go_wp2_with fail
                      refine (HAW.out _).mono ?_
                      rintro e w8 ⟨rfl, kz⟩
                      replace XN := Lib.hid (XN.out.below XN.out.lt kz)
                      replace YN := Lib.hid (YN.out.below YN.out.lt kz)
                      replace NN := Lib.hid (NN.out.below kz)
                      replace MM := Lib.hid (MM.out.below kz)
                      replace Lq := Lib.hid (Lq.out.at kz)
                      replace MX2 := Lib.hid (MX2.out.far kz)
                      replace HG2 := Lib.hid (grow_on HG2.out kz)
                      replace BMX := Lib.hid (BMX.out.far kz)
                      replace HB := Lib.hid (HB.out.trans (kz.mono HB.out.size))
                      clear kz
                      go_wp2_with fail
                      go_ret
                      exact ⟨rfl, HB.out⟩
                    · skip
                      have h22 : ((1 + (N8 : Int)) == 2) = false := by rw [show N8 = 0 by omega]; rfl
                      go_wp2_with fail
                      refine (alike_yes MX2.out BMX.out).mono ?_
                      rintro e w6 ⟨rfl, kz⟩
                      replace XN := Lib.hid (XN.out.below XN.out.lt kz)
                      replace YN := Lib.hid (YN.out.below YN.out.lt kz)
                      replace NN := Lib.hid (NN.out.below kz)
                      replace MM := Lib.hid (MM.out.below kz)
                      replace Lq := Lib.hid (Lq.out.at kz)
                      replace MX2 := Lib.hid (MX2.out.far kz)
                      replace HG2 := Lib.hid (grow_on HG2.out kz)
                      replace BMX := Lib.hid (BMX.out.far kz)
                      replace HB := Lib.hid (HB.out.trans (kz.mono HB.out.size))
                      clear kz
                      go_wp2_with fail
                      refine (HAW.out _).mono ?_
                      rintro e w7 ⟨rfl, kz⟩
                      replace XN := Lib.hid (XN.out.below XN.out.lt kz)
                      replace YN := Lib.hid (YN.out.below YN.out.lt kz)
                      replace NN := Lib.hid (NN.out.below kz)
                      replace MM := Lib.hid (MM.out.below kz)
                      replace Lq := Lib.hid (Lq.out.at kz)
                      replace MX2 := Lib.hid (MX2.out.far kz)
                      replace HG2 := Lib.hid (grow_on HG2.out kz)
                      replace BMX := Lib.hid (BMX.out.far kz)
                      replace HB := Lib.hid (HB.out.trans (kz.mono HB.out.size))
                      clear kz
                      go_wp2_with fail
                      go_ret
                      exact ⟨rfl, HB.out⟩
              · intro x c5 w1' cnt1 hwx hwc hlx hat hrg1 hlt hg1 hs1 hen
                obtain ⟨k, rfl⟩ := num_of hwx
                obtain ⟨v, rfl⟩ := num_of hwc
                have hgk : look ks' vs' k = some v := by
                  have h1 := VY.out.hasKey k
                  rw [show klit k = Lit.int .u64 (k.toNat : Int) from rfl, has_true_of_atKey hat] at h1
                  obtain ⟨v', hv'⟩ := Option.isSome_iff_exists.1 h1.symm
                  have h2 := VY.out.at' k v' (.lit (.int .u64 0)) hv'
                  rw [show klit k = Lit.int .u64 (k.toNat : Int) from rfl, hat] at h2
                  rw [hv', kdat_inj (a := v) (b := v') h2]
                have HGK := Lib.hid hgk
                have hM1 := map_grown HM.out (Ne.symm hrx) hg1
                obtain ⟨D, hown, hview⟩ := hM1
                have HV := Lib.hid hview
                have hlm : cap < maxLen := by unfold maxLen; omega
                have HG1 := Lib.hid (HG.out.andThen hg1 (fun j e => .inl (by have := Option.some.inj e; omega)))
                have HRG := Lib.hid hrg1
                have HOLD := Lib.hid hrg.left_eq
                have HLT := Lib.hid hlt
                clear hgk hview hat hrg1 hrg HM HG hg1 hlx hs1 hlt
                go_wp2_with (first | (at_mapUpdate; refine wpList_mapUpdate_own _ rfl _ _ _ 45 rfl 25 25 keysU Try.underlying45 _ bx _ _ rfl hown hlm _ _ (klit k) rfl rfl (keyOf_int_mk Try.underlying25 hwx) (kdat v) [] (plainElem_int Try.underlying25 hwc) ?_; intro w5 hown5 hg5; go_frame) | go_in)
                have hrg5 := HRG.out.kept hg5 (fun e => hyx (Option.some.inj e)) (fun e => hrx (Option.some.inj e))
                go_roundw
                case rel => exact ⟨_, cnt1, cap + 1, _, hrg5, by have := HLT.out; omega, Lib.hid (MapV.congr ⟨_, hown5, HV.out.put k v⟩ (fun x => laid_step HGK.out x) rfl), Lib.hid (HG1.out.andThen hg5 (fun j e => .inr e))⟩
                case measure => rw [hrg5.left_eq, HOLD.out]; exact HLT.out
      · skip
        have hne : (l != l') = true := by cases l <;> cases l' <;> first | rfl | exact absurd rfl hll
        have hne2 : (!l == l') = true := by cases l <;> cases l' <;> first | rfl | exact absurd rfl hll
        go_wp2_with fail
        refine (HAW.out _).mono ?_
        rintro e w4 ⟨rfl, kz⟩
        replace XN := Lib.hid (XN.out.below XN.out.lt kz)
        replace YN := Lib.hid (YN.out.below YN.out.lt kz)
        replace NN := Lib.hid (NN.out.below kz)
        replace MM := Lib.hid (MM.out.below kz)
        replace MX := Lib.hid (MX.out.far kz)
        replace MY := Lib.hid (MY.out.far kz)
        replace HB := Lib.hid (HB.out.trans (kz.mono HB.out.size))
        clear kz
        go_wp2_with fail
        go_ret
        exact ⟨rfl, HB.out⟩
    · skip
      refine (all_no l' MM.out hok').mono ?_
      rintro e w3 ⟨rfl, kz⟩
      replace XN := Lib.hid (XN.out.below XN.out.lt kz)
      replace YN := Lib.hid (YN.out.below YN.out.lt kz)
      replace NN := Lib.hid (NN.out.below kz)
      replace MM := Lib.hid (MM.out.below kz)
      replace MX := Lib.hid (MX.out.far kz)
      replace HB := Lib.hid (HB.out.trans (kz.mono HB.out.size))
      clear kz
      go_wp2_with fail
      refine (HAW.out _).mono ?_
      rintro e w4 ⟨rfl, kz⟩
      replace XN := Lib.hid (XN.out.below XN.out.lt kz)
      replace YN := Lib.hid (YN.out.below YN.out.lt kz)
      replace NN := Lib.hid (NN.out.below kz)
      replace MM := Lib.hid (MM.out.below kz)
      replace MX := Lib.hid (MX.out.far kz)
      replace HB := Lib.hid (HB.out.trans (kz.mono HB.out.size))
      clear kz
      go_wp2_with fail
      go_ret
      exact ⟨rfl, HB.out⟩
  · refine (all_no l NN.out hok).mono ?_
    rintro e w2 ⟨rfl, k2⟩
    replace XN := Lib.hid (XN.out.below XN.out.lt k2)
    replace YN := Lib.hid (YN.out.below YN.out.lt k2)
    replace NN := Lib.hid (NN.out.below k2)
    replace MM := Lib.hid (MM.out.below k2)
    replace HB := Lib.hid (HB.out.trans (k2.mono HB.out.size))
    clear k2
    go_wp2_with (first | (refine wpList_load_d rfl (.tmp 3) rfl (w.heap.size + 1) _ rfl YN.out ?_))
    by_cases hok' : Ok l' ks' vs'
    · skip
      refine (all_yes l' MM.out hok').mono ?_
      rintro e w3 ⟨by', rfl, _, _, kz⟩
      replace XN := Lib.hid (XN.out.below XN.out.lt kz)
      replace YN := Lib.hid (YN.out.below YN.out.lt kz)
      replace NN := Lib.hid (NN.out.below kz)
      replace MM := Lib.hid (MM.out.below kz)
      replace HB := Lib.hid (HB.out.trans (kz.mono HB.out.size))
      clear kz
      go_wp2_with fail
      refine (HAW.out _).mono ?_
      rintro e w4 ⟨rfl, kz⟩
      replace XN := Lib.hid (XN.out.below XN.out.lt kz)
      replace YN := Lib.hid (YN.out.below YN.out.lt kz)
      replace NN := Lib.hid (NN.out.below kz)
      replace MM := Lib.hid (MM.out.below kz)
      replace HB := Lib.hid (HB.out.trans (kz.mono HB.out.size))
      clear kz
      go_wp2_with fail
      go_ret
      exact ⟨rfl, HB.out⟩
    · skip
      refine (all_no l' MM.out hok').mono ?_
      rintro e w3 ⟨rfl, kz⟩
      replace XN := Lib.hid (XN.out.below XN.out.lt kz)
      replace YN := Lib.hid (YN.out.below YN.out.lt kz)
      replace NN := Lib.hid (NN.out.below kz)
      replace MM := Lib.hid (MM.out.below kz)
      replace HB := Lib.hid (HB.out.trans (kz.mono HB.out.size))
      clear kz
      go_wp2_with fail
      refine (HAW.out _).mono ?_
      rintro e w4 ⟨rfl, kz⟩
      replace XN := Lib.hid (XN.out.below XN.out.lt kz)
      replace YN := Lib.hid (YN.out.below YN.out.lt kz)
      replace NN := Lib.hid (NN.out.below kz)
      replace MM := Lib.hid (MM.out.below kz)
      replace HB := Lib.hid (HB.out.trans (kz.mono HB.out.size))
      clear kz
      go_wp2_with fail
      go_ret
      exact ⟨rfl, HB.out⟩

end Go.Proofs.Ytllopocekegljaa.No
