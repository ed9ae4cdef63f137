/- Layer 12, the reference: the contract of Join. (Written by bin/gen_nri.py.) -/
import Derived.Test.YtllopocekegljaaNrH
import Derived.Test.YtllopocekegljaaNoV
import Derived.Deep.CutRange
namespace Go.Proofs.Ytllopocekegljaa.No
open Go.RowKit Go.Proofs.Ytllopocekegljaa.Oct Go.Proofs.Ytllopocekegljaa.Lf Go.Proofs.Ytllopocekegljaa.Mv
set_option linter.unusedVariables false
set_option linter.unusedSimpArgs false

theorem res_ii {fn : Func} {p q : Tmp} (h : fn.results = #[.tmp p, .tmp q]) (tmps : Array Value) {w : World} : (results fn tmps).run Try.prog w = .ok (.tuple #[tmps.getD p undef, tmps.getD q undef]) w := by
  simp [results, h, Sem.run_bind, Result.andThen]

set_option maxRecDepth 100000 in
set_option maxHeartbeats 4000000 in
theorem rjoin_any (l l' : Bool) {w : World} {A B A' B' : Option Addr} {n c m d n' c' m' d' : Nat} {ks vs ks' vs' : List UInt64} (h : Nd w A n c B m d ks vs) (h' : Nd w A' n' c' B' m' d' ks' vs') (t : List PN × Nat) (ht : t = joinR l ks vs l' ks' vs') :
    Calls Try.prog 22 #[.agg #[.bool l, .slice A n c, .slice B m d], .agg #[.bool l', .slice A' n' c', .slice B' m' d']] w fun e w' => ∃ v, e = .returned (.tuple #[v, .int .i64 (t.2 : Nat)]) ∧ ListD w' w.heap.size v t.1 ∧ Below w.heap.size w w' := by
  have b1 := (Below.refl w.heap.size w).alloc (Nat.le_refl _) (.cells #[.bool l, .slice A n c, .slice B m d] 24)
  have BB := Lib.hid (b1.alloc b1.size (.cells #[.bool l', .slice A' n' c', .slice B' m' d'] 24))
  have HX := Lib.hid ((box_row w l A n c B m d).below (by simp) ((Below.refl _ _).alloc (Nat.le_refl _) (.cells #[.bool l', .slice A' n' c', .slice B' m' d'] 24)))
  have HY := Lib.hid (show RowV ((w.alloc (.cells #[.bool l, .slice A n c, .slice B m d] 24)).alloc (.cells #[.bool l', .slice A' n' c', .slice B' m' d'] 24)) (w.alloc (.cells #[.bool l, .slice A n c, .slice B m d] 24)).heap.size 24 [.bool l', .slice A' n' c', .slice B' m' d'] from box_row (w.alloc (.cells #[.bool l, .slice A n c, .slice B m d] 24)) l' A' n' c' B' m' d')
  rw [show (w.alloc (.cells #[.bool l, .slice A n c, .slice B m d] 24)).heap.size = w.heap.size + 1 by simp] at HY
  have HN := Lib.hid (h.below BB.out)
  have HM := Lib.hid (h'.below BB.out)
  have kl := h.kl
  have kl' := h'.kl
  have HT := Lib.hid ht
  have hz := node_zero
  have hs2 : ((w.alloc (.cells #[.bool l, .slice A n c, .slice B m d] 24)).alloc (.cells #[.bool l', .slice A' n' c', .slice B' m' d'] 24)).heap.size = w.heap.size + 2 := by simp
  clear h h' ht b1
  go_enter Try.func22, Try.ntmps22
  go_wp2_with fail
  generalize (w.alloc (.cells #[.bool l, .slice A n c, .slice B m d] 24)).alloc (.cells #[.bool l', .slice A' n' c', .slice B' m' d'] 24) = w1 at *
  refine (rright_any l HN.out).mono ?_
  rintro e w2 ⟨rfl, k2⟩
  have BB2 := Lib.hid (BB.out.trans (k2.mono BB.out.size))
  have HX2 := Lib.hid (HX.out.below HX.out.lt k2)
  have HY2 := Lib.hid (HY.out.below HY.out.lt k2)
  have HN2 := Lib.hid (HN.out.below k2)
  have HM2 := Lib.hid (HM.out.below k2)
  have hw2 : w.heap.size + 2 ≤ w2.heap.size := by have := k2.size; omega
  clear k2
  by_cases hok : Ok l ks vs
  · rw [decide_eq_true hok]
    have HK := Lib.hid hok
    clear hok
    have d0 := HY2.out.cellAt (i := 0) rfl
    have d1 := HY2.out.cellAt (i := 1) rfl
    have d2 := HY2.out.cellAt (i := 2) rfl
    go_wp2_with fail
    refine (rright_any l' HM2.out).mono ?_
    rintro e w3 ⟨rfl, k3⟩
    have BB3 := Lib.hid (BB2.out.trans (k3.mono BB2.out.size))
    have HX3 := Lib.hid (HX2.out.below HX2.out.lt k3)
    have HY3 := Lib.hid (HY2.out.below HY2.out.lt k3)
    have HN3 := Lib.hid (HN2.out.below k3)
    have HM3 := Lib.hid (HM2.out.below k3)
    have hw3 : w.heap.size + 2 ≤ w3.heap.size := by have := k3.size; omega
    clear k3 d0 d1 d2
    by_cases hok' : Ok l' ks' vs'
    · rw [decide_eq_true hok']
      have HK' := Lib.hid hok'
      clear hok'
      have e0 := HX3.out.cellAt (i := 0) rfl
      have d0 := HY3.out.cellAt (i := 0) rfl
      by_cases hll : l = l'
      · subst hll
        have hl1 : (l != l) = false := by simp
        obtain rfl : m = n := by rw [← HN3.out.vl, ← kl]; exact HK.out.2.1
        obtain rfl : m' = n' := by rw [← HM3.out.vl, ← kl']; exact HK'.out.2.1
        have h7 := HK.out.1
        have h7' := HK'.out.1
        have e1 := HX3.out.cellAt (i := 1) rfl
        have e2 := HX3.out.cellAt (i := 2) rfl
        have d1 := HY3.out.cellAt (i := 1) rfl
        have d2 := HY3.out.cellAt (i := 2) rfl
        by_cases hover : ∃ (h1 : 0 < ks.length) (h2 : 0 < ks'.length), (ks'[0]).toNat ≤ (ks[ks.length - 1]'(by omega)).toNat
        · obtain ⟨h1, h2, h3'⟩ := hover
          have h3 := h3'
          obtain ⟨bk, ok, rfl, hK⟩ := HN3.out.ks.has (by omega)
          obtain ⟨bj, oj, rfl, hJ⟩ := HM3.out.ks.has (by omega)
          have ck := hK (ks.length - 1) (by omega)
          have cj := hJ 0 (by omega)
          rw [Nat.add_zero] at cj
          obtain ⟨kt, hkt⟩ : ∃ a, a = ks[ks.length - 1]'(by omega) := ⟨_, rfl⟩
          obtain ⟨ku, hku⟩ : ∃ a, a = ks'[0]'(by omega) := ⟨_, rfl⟩
          rw [← hkt] at ck
          rw [← hku] at cj
          rw [← hkt, ← hku] at h3
          obtain ⟨mi, hmi⟩ : ∃ q, q = m - 1 := ⟨_, rfl⟩
          rw [kl, ← hmi] at ck
          have hwr : IntKind.i64.wrap ((m : Int) - 1) = (mi : Int) := by rw [show (m : Int) - 1 = (mi : Int) by omega]; exact IntWalk.i64_in _ (by omega)
          have hix1 : mi < m := by omega
          have hix2 : (mi : Int) < (m : Int) := by omega
          have hix3 : ¬ (m ≤ mi) := by omega
          have hwr2 : IntKind.i64.wrap (mi : Int) = (mi : Int) := IntWalk.i64_in _ (by omega)
          clear hK hJ hmi
          have hd1 : decide (0 < (m : Int)) = true := decide_eq_true (by omega)
          have hd2 : decide (0 < m) = true := decide_eq_true (by omega)
          have hd3 : decide (0 < (m' : Int)) = true := decide_eq_true (by omega)
          have hd4 : decide (0 < m') = true := decide_eq_true (by omega)
          have hd5 : decide ((ku.toNat : Int) ≤ (kt.toNat : Int)) = true := decide_eq_true (by omega)
          have hd6 : decide (ku.toNat ≤ kt.toNat) = true := decide_eq_true (by omega)
          have hm3 : 0 < m' := by omega
          have ht := joinR_over (l := l) (l' := l) (vs := vs) (vs' := vs') h1 h2 h3'
          obtain rfl : t = ([], 30) := by rw [HT.out]; exact ht
          clear hkt hku ht h3 h3' h1 h2
          go_upto_region 3 with (fail)
          go_quiet (fail)
          go_wp2_with fail
          go_ret2
          exact ⟨_, rfl, .inl ⟨rfl, rfl⟩, BB3.out.trans ((show Still w3 (w3.drewN nq) from ⟨rfl, rfl, rfl, rfl⟩).below _)⟩
        · have hr := rises_join HK.out.2.2.1 HK'.out.2.2.1 (fun h1 h2 => Nat.lt_of_not_le (fun h => hover ⟨h1, h2, h⟩))
          have HRJ := Lib.hid hr
          clear hr
          go_upto_region 3 with (fail)
          go_cut [48] from 24 (fun s48 wx => s48 = .bool false ∧ Hid (Below w3.heap.size w3 wx))
          case first => as_aux_lemma =>
            by_cases hz1 : 0 < m
            · skip
              have hd1 : decide (0 < (m : Int)) = true := decide_eq_true (by omega)
              have hd2 : decide (0 < m) = true := decide_eq_true (by omega)
              by_cases hz2 : 0 < m'
              · skip
                have hd3 : decide (0 < (m' : Int)) = true := decide_eq_true (by omega)
                have hd4 : decide (0 < m') = true := decide_eq_true (by omega)
                have h3 : (ks[ks.length - 1]'(by omega)).toNat < (ks'[0]'(by omega)).toNat := Nat.lt_of_not_le (fun h => hover ⟨by omega, by omega, h⟩)
                obtain ⟨bk, ok, rfl, hK⟩ := HN3.out.ks.has (by omega)
                obtain ⟨bj, oj, rfl, hJ⟩ := HM3.out.ks.has (by omega)
                have ck := hK (ks.length - 1) (by omega)
                have cj := hJ 0 (by omega)
                rw [Nat.add_zero] at cj
                obtain ⟨kt, hkt⟩ : ∃ a, a = ks[ks.length - 1]'(by omega) := ⟨_, rfl⟩
                obtain ⟨ku, hku⟩ : ∃ a, a = ks'[0]'(by omega) := ⟨_, rfl⟩
                rw [← hkt] at ck
                rw [← hku] at cj
                rw [← hkt, ← hku] at h3
                obtain ⟨mi, hmi⟩ : ∃ q, q = m - 1 := ⟨_, rfl⟩
                rw [kl, ← hmi] at ck
                have hwr : IntKind.i64.wrap ((m : Int) - 1) = (mi : Int) := by rw [show (m : Int) - 1 = (mi : Int) by omega]; exact IntWalk.i64_in _ (by omega)
                have hix1 : mi < m := by omega
                have hix2 : (mi : Int) < (m : Int) := by omega
                have hix3 : ¬ (m ≤ mi) := by omega
                have hwr2 : IntKind.i64.wrap (mi : Int) = (mi : Int) := IntWalk.i64_in _ (by omega)
                clear hK hJ hmi
                have hd5 : decide ((ku.toNat : Int) ≤ (kt.toNat : Int)) = false := decide_eq_false (by omega)
                have hd6 : decide (ku.toNat ≤ kt.toNat) = false := decide_eq_false (by omega)
                have hm3 : 0 < m' := by omega
                clear hkt hku h3 hz1 hz2 hover
                go_quiet (fail)
                go_wp2_with fail
                go_meet
                exact ⟨rfl, Lib.hid ((show Still w3 (w3.drewN nq) from ⟨rfl, rfl, rfl, rfl⟩).below _)⟩
              · skip
                have hd3 : decide (0 < (m' : Int)) = false := decide_eq_false (by omega)
                have hd4 : decide (0 < m') = false := decide_eq_false (by omega)
                clear hz1 hz2 hover
                go_quiet (fail)
                go_wp2_with fail
                go_meet
                exact ⟨rfl, Lib.hid ((show Still w3 (w3.drewN nq) from ⟨rfl, rfl, rfl, rfl⟩).below _)⟩
            · skip
              have hd1 : decide (0 < (m : Int)) = false := decide_eq_false (by omega)
              have hd2 : decide (0 < m) = false := decide_eq_false (by omega)
              clear hz1 hover
              go_quiet (fail)
              go_wp2_with fail
              go_meet
              exact ⟨rfl, Lib.hid ((show Still w3 (w3.drewN nq) from ⟨rfl, rfl, rfl, rfl⟩).below _)⟩
          case rest =>
            obtain ⟨rfl, hcb⟩ := hcut
            generalize wc = w35 at *
            have kc := hcb.out
            have BB35 := Lib.hid (BB3.out.trans (kc.mono BB3.out.size))
            have HX35 := Lib.hid (HX3.out.below HX3.out.lt kc)
            have HY35 := Lib.hid (HY3.out.below HY3.out.lt kc)
            have HN35 := Lib.hid (HN3.out.below kc)
            have HM35 := Lib.hid (HM3.out.below kc)
            have hw35 : w.heap.size + 2 ≤ w35.heap.size := by have := kc.size; omega
            clear hcb kc e0 e1 e2 d0 d1 d2 hover
            have e0 := HX35.out.cellAt (i := 0) rfl
            have e1 := HX35.out.cellAt (i := 1) rfl
            have e2 := HX35.out.cellAt (i := 2) rfl
            have d0 := HY35.out.cellAt (i := 0) rfl
            have d1 := HY35.out.cellAt (i := 1) rfl
            have d2 := HY35.out.cellAt (i := 2) rfl
            go_wp2_with fail
            refine (both_any l l HN35.out HM35.out (by omega) (by omega) (by omega)).mono ?_
            rintro e w4 ⟨v4, rfl, ow4, k4⟩
            obtain ⟨vk, vv, rfl, o1, o2⟩ := ow4.d
            have BB4 := Lib.hid (BB35.out.trans (k4.mono BB35.out.size))
            have hw4 : w.heap.size + 2 ≤ w4.heap.size := by have := k4.size; omega
            have hlen : (ks ++ ks').length = m + m' := by rw [List.length_append, kl, kl']
            have hlenv : (vs ++ vs').length = m + m' := by rw [List.length_append, HN3.out.vl, HM3.out.vl]
            obtain ⟨A1, c1, B1, d1', rfl, rfl, N4⟩ := own_nd o1 o2
            rw [hlen, hlenv] at N4
            rw [hlen] at o1
            rw [hlenv] at o2
            rw [hlen, hlenv]
            clear ow4
            have HN4 := Lib.hid N4
            have O4 := Lib.hid (show OwnD w4 (w.heap.size + 2) (.agg #[.bool l, .slice A1 (m + m') c1, .slice B1 (m + m') d1']) l (ks ++ ks') (vs ++ vs') from ⟨_, _, rfl, own_mono o1 (by omega), own_mono o2 (by omega)⟩)
            clear e0 e1 e2 d0 d1 d2 k4 o1 o2 N4
            go_upto_region 6 with (fail)
            have k5 := (Below.refl w4.heap.size w4).alloc (Nat.le_refl _) (.cells #[.bool l, .slice A1 (m + m') c1, .slice B1 (m + m') d1'] 24)
            have HC := box_d w4 (.bool l) (.slice A1 (m + m') c1) (.slice B1 (m + m') d1')
            have O5 := Lib.hid (O4.out.at k5)
            have HN5 := Lib.hid (HN4.out.below k5)
            have BB5 := Lib.hid (BB4.out.trans (k5.mono BB4.out.size))
            have HR5 := Lib.hid HC.of
            have hw5 := k5.size
            have hlt5 := HC.lt
            clear k5 HC O4 HN4
            generalize w4.alloc (.cells #[.bool l, .slice A1 (m + m') c1, .slice B1 (m + m') d1'] 24) = w5 at *
            obtain ⟨w6, hw56⟩ : ∃ x, x = w5 := ⟨_, rfl⟩
            have S6 : Still w5 w6 := by rw [hw56]; exact ⟨rfl, rfl, rfl, rfl⟩
            rw [← hw56]
            clear hw56
            have O6 := Lib.hid (O5.out.at (S6.below _))
            have HN6 := Lib.hid (HN5.out.still S6)
            have BB6 := Lib.hid (BB5.out.trans (S6.below _))
            have HR6 := Lib.hid (HR5.out.still S6)
            have hw6 : w6.heap.size = w5.heap.size := by rw [S6.heap]
            clear S6
            have E := Lib.hid (show t = (if (ks ++ ks').length ≤ 7 then ([(l, ks ++ ks', vs ++ vs')], 0) else ([(l, cutIn (ks ++ ks') (hlf (ks ++ ks')) (ks ++ ks').length [], cutIn (vs ++ vs') (hlf (ks ++ ks')) (ks ++ ks').length []), (l, cutIn (ks ++ ks') 0 (hlf (ks ++ ks')) [], cutIn (vs ++ vs') 0 (hlf (ks ++ ks')) [])], 0)) by rw [HT.out]; unfold joinR; rw [if_pos ⟨HK.out, HK'.out, rfl, HRJ.out⟩])
            have f0 := HR6.out.cellAt (i := 0) rfl
            have f1 := HR6.out.cellAt (i := 1) rfl
            have f2 := HR6.out.cellAt (i := 2) rfl
            by_cases hf : m + m' ≤ 7
            · have E2 := E.out
              rw [if_pos (by rw [hlen]; exact hf)] at E2
              subst E2
              have hfi : (m : Int) + (m' : Int) ≤ 7 := by omega
              have r6 := alloc_rowV w6 24 [.bool l, .slice A1 (m + m') c1, .slice B1 (m + m') d1']
              have q6 := (Below.refl w6.heap.size w6).alloc (Nat.le_refl _) (.cells #[.bool l, .slice A1 (m + m') c1, .slice B1 (m + m') d1'] 24)
              have H9 := Lib.hid (And.intro r6 (And.intro (O6.out.at q6) (BB6.out.trans (q6.mono BB6.out.size))))
              clear r6 q6
              go_wp2_with fail
              go_ret2
              obtain ⟨r9, o9, b9⟩ := H9.out
              obtain ⟨x, y, e9, o9, o9'⟩ := o9
              simp only [Value.agg.injEq, Array.mk.injEq, List.cons.injEq, and_true, true_and] at e9
              obtain ⟨rfl, rfl⟩ := e9
              rw [hw6] at r9
              exact ⟨_, rfl, list_one (by omega) r9 (own_mono o9 (by omega)) (own_mono o9' (by omega)), b9⟩
            · have E2 := E.out
              rw [if_neg (by rw [hlen]; exact hf)] at E2
              subst E2
              have hfi : ¬ (m : Int) + (m' : Int) ≤ 7 := by omega
              go_wp2_with fail
              refine (rhalves_any l HN6.out (by omega) (hlf (ks ++ ks')) (by unfold hlf; rw [hlen])).mono ?_
              rintro e w7 ⟨u, v, rfl, o1, o2, k7⟩
              rw [← cut_mids_head hlen, ← cut_mids_head hlenv] at o1
              rw [← cut_mids_tail hlen, ← cut_mids_tail hlenv] at o2
              have BB7 := Lib.hid (BB6.out.trans (k7.mono BB6.out.size))
              have hw7 : w.heap.size + 2 ≤ w7.heap.size := by have := k7.size; omega
              obtain ⟨uk, uv, rfl, u1, u2⟩ := o1.mono (base' := w.heap.size) (by omega)
              obtain ⟨vk2, vv2, rfl, v1, v2⟩ := o2.mono (base' := w.heap.size) (by omega)
              obtain ⟨a1, x1, a2, x2, rfl, rfl, _⟩ := own_nd u1 u2
              obtain ⟨a3, x3, a4, x4, rfl, rfl, _⟩ := own_nd v1 v2
              have HUV := Lib.hid (And.intro (And.intro u1 u2) (And.intro v1 v2))
              clear k7 o1 o2 f0 f1 f2 u1 u2 v1 v2
              go_upto_region 9 with (fail)
              have q1 := (Below.refl w7.heap.size w7).alloc (Nat.le_refl _) (.cells #[.bool l, .slice a1 (cutIn (ks ++ ks') (hlf (ks ++ ks')) (m + m') []).length x1, .slice a2 (cutIn (vs ++ vs') (hlf (ks ++ ks')) (m + m') []).length x2] 24)
              have k7 := q1.alloc q1.size (.cells #[.bool l, .slice a3 (cutIn (ks ++ ks') 0 (hlf (ks ++ ks')) []).length x3, .slice a4 (cutIn (vs ++ vs') 0 (hlf (ks ++ ks')) []).length x4] 24)
              have X8 := (box_d w7 (.bool l) (.slice a1 (cutIn (ks ++ ks') (hlf (ks ++ ks')) (m + m') []).length x1) (.slice a2 (cutIn (vs ++ vs') (hlf (ks ++ ks')) (m + m') []).length x2)).new (.cells #[.bool l, .slice a3 (cutIn (ks ++ ks') 0 (hlf (ks ++ ks')) []).length x3, .slice a4 (cutIn (vs ++ vs') 0 (hlf (ks ++ ks')) []).length x4] 24)
              have Y8 := box_d (w7.alloc (.cells #[.bool l, .slice a1 (cutIn (ks ++ ks') (hlf (ks ++ ks')) (m + m') []).length x1, .slice a2 (cutIn (vs ++ vs') (hlf (ks ++ ks')) (m + m') []).length x2] 24)) (.bool l) (.slice a3 (cutIn (ks ++ ks') 0 (hlf (ks ++ ks')) []).length x3) (.slice a4 (cutIn (vs ++ vs') 0 (hlf (ks ++ ks')) []).length x4)
              rw [show (w7.alloc (.cells #[.bool l, .slice a1 (cutIn (ks ++ ks') (hlf (ks ++ ks')) (m + m') []).length x1, .slice a2 (cutIn (vs ++ vs') (hlf (ks ++ ks')) (m + m') []).length x2] 24)).heap.size = w7.heap.size + 1 by simp] at Y8
              have BB8 := Lib.hid (BB7.out.trans (k7.mono BB7.out.size))
              have hw8 := k7.size
              have u1 := own_at HUV.out.1.1 k7
              have u2 := own_at HUV.out.1.2 k7
              have v1 := own_at HUV.out.2.1 k7
              have v2 := own_at HUV.out.2.2 k7
              clear q1 k7 HUV
              generalize (w7.alloc (.cells #[.bool l, .slice a1 (cutIn (ks ++ ks') (hlf (ks ++ ks')) (m + m') []).length x1, .slice a2 (cutIn (vs ++ vs') (hlf (ks ++ ks')) (m + m') []).length x2] 24)).alloc (.cells #[.bool l, .slice a3 (cutIn (ks ++ ks') 0 (hlf (ks ++ ks')) []).length x3, .slice a4 (cutIn (vs ++ vs') 0 (hlf (ks ++ ks')) []).length x4] 24) = w8 at *
              have g0 := X8.of.cellAt (i := 0) rfl
              have g1 := X8.of.cellAt (i := 1) rfl
              have g2 := X8.of.cellAt (i := 2) rfl
              have g3 := Y8.of.cellAt (i := 0) rfl
              have g4 := Y8.of.cellAt (i := 1) rfl
              have g5 := Y8.of.cellAt (i := 2) rfl
              have H9 := Lib.hid (And.intro (And.intro u1 u2) (And.intro v1 v2))
              clear X8 Y8 u1 u2 v1 v2
              go_wp2_with fail
              have q9 := (Below.refl w8.heap.size w8).alloc (Nat.le_refl _) (.cells #[.bool l, .slice a1 (cutIn (ks ++ ks') (hlf (ks ++ ks')) (m + m') []).length x1, .slice a2 (cutIn (vs ++ vs') (hlf (ks ++ ks')) (m + m') []).length x2, .bool l, .slice a3 (cutIn (ks ++ ks') 0 (hlf (ks ++ ks')) []).length x3, .slice a4 (cutIn (vs ++ vs') 0 (hlf (ks ++ ks')) []).length x4] 24)
              exact bodyPost_ret (v := _) (res_ii rfl _) rfl ⟨_, rfl, list_two (by omega) (alloc_rowV w8 _ [_, _, _, _, _, _]) (own_at H9.out.1.1 q9) (own_at H9.out.1.2 q9) (own_at H9.out.2.1 q9) (own_at H9.out.2.2 q9), BB8.out.trans (q9.mono BB8.out.size)⟩
      · have hl1 : (l != l') = true := by simp [hll]
        obtain rfl : t = ([], 30) := by rw [HT.out]; unfold joinR; rw [if_neg (fun h => hll h.2.2.1)]
        cases l <;> cases l'
        · exact absurd rfl hll
        · go_wp2_with fail
          go_ret2
          exact ⟨_, rfl, .inl ⟨rfl, rfl⟩, BB3.out⟩
        · go_wp2_with fail
          go_ret2
          exact ⟨_, rfl, .inl ⟨rfl, rfl⟩, BB3.out⟩
        · exact absurd rfl hll
    · rw [decide_eq_false hok']
      obtain rfl : t = ([], 30) := by rw [HT.out]; unfold joinR; rw [if_neg (fun h => hok' h.2.1)]
      go_wp2_with fail
      go_ret2
      exact ⟨_, rfl, .inl ⟨rfl, rfl⟩, BB3.out⟩
  · rw [decide_eq_false hok]
    obtain rfl : t = ([], 30) := by rw [HT.out]; unfold joinR; rw [if_neg (fun h => hok h.1)]
    go_wp2_with fail
    go_ret2
    exact ⟨_, rfl, .inl ⟨rfl, rfl⟩, BB2.out⟩
end Go.Proofs.Ytllopocekegljaa.No
