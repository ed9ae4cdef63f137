/- Layer 12: the walk of the statement NodePut. (Written by bin/gen_not.py.) -/
import Derived.Test.YtllopocekegljaaNoS

namespace Go.Proofs.Ytllopocekegljaa.No
open Go.RowKit Go.Proofs.Ytllopocekegljaa.Oct Go.Proofs.Ytllopocekegljaa.Lf Go.Proofs.Ytllopocekegljaa.Mv Go.Maps Go.ChangeMaps
set_option linter.unusedVariables false
set_option linter.unusedSimpArgs false

theorem nd_zero (w : World) : Nd w none 0 0 none 0 0 [] [] := ⟨rfl, rfl, Nat.le_refl _, Nat.zero_le _, Nat.le_refl _, Nat.zero_le _, .inl rfl, .inl rfl⟩
theorem MapV.turn {w w' : World} {b : Nat} (k : w.grownBy w' (some b)) {base : Nat} (hb : base ≤ b) (hw : base ≤ w.heap.size) : Below base w w' :=
  ⟨k.os, k.tape, k.output, k.size, fun q hq => k.block q (by omega) (fun e => by have := Option.some.inj e; omega)⟩
/-- All stays that lies in other blocks than one map. -/
theorem nd_grown {w w' : World} {b : Nat} {A B : Option Addr} {n c m d : Nat} {ks vs : List UInt64} (h : Nd w A n c B m d ks vs) {es : Array MapEntry} {cl : Nat} (hm : w.heap[b]? = some (.map es cl)) (k : w.grownBy w' (some b)) : Nd w' A n c B m d ks vs := by
  have tk : ∀ {A : Option Addr} {ns : List UInt64}, ToldN w A ns → ToldN w' A ns := by
    intro A ns h
    rcases h with h | ⟨g, o, e, h⟩
    · exact .inl h
    · by_cases h0 : 0 < ns.length
      · refine .inr ⟨g, o, e, fun i hi => ?_⟩
        have hne : g ≠ b := by
          intro e2
          subst e2
          have := h 0 h0
          simp [World.cell?, hm] at this
        exact (World.cell?_of_block (k.block g (h.lt h0) (fun e2 => hne (Option.some.inj e2)))).trans (h i hi)
      · exact .inl (List.eq_nil_of_length_eq_zero (by omega))
  exact ⟨h.kl, h.vl, h.kc, h.km, h.vc, h.vm, tk h.ks, tk h.vs⟩
theorem box_grown {w w' : World} {b r : Nat} {v : Value} (h : BoxD w r v) {es : Array MapEntry} {cl : Nat} (hm : w.heap[b]? = some (.map es cl)) (k : w.grownBy w' (some b)) : BoxD w' r v := by
  obtain ⟨x, y, z, e, h⟩ := h
  refine ⟨x, y, z, e, h.block (k.block r h.lt (fun e2 => ?_))⟩
  have e3 := Option.some.inj e2
  subst e3
  unfold RowV at h
  rw [hm] at h
  cases h
theorem map_grown {w w' : World} {b b' cap n : Nat} {f : UInt64 → Option UInt64} (h : MapV w b' cap f n) (hne : b' ≠ b) (k : w.grownBy w' (some b)) : MapV w' b' cap f n := h.block (k.block b' h.lt (fun e => hne (Option.some.inj e)))
theorem map_block {w : World} {b cap n : Nat} {f : UInt64 → Option UInt64} (h : MapV w b cap f n) : ∃ es cl, w.heap[b]? = some (.map es cl) := by
  obtain ⟨D, ⟨es, clock, hb, _⟩, _⟩ := h
  exact ⟨es, clock, hb⟩
theorem turned_grown {w w' : World} {b : Nat} (h : w.mapTurned w' b) : w.grownBy w' (some b) := h.grown

set_option maxRecDepth 100000 in
set_option maxHeartbeats 8000000 in
theorem put_walk (haw : ∀ w : World, Calls Try.prog 9 #[] w fun e w' => e = .returned (.bool true) ∧ Below w.heap.size w w') (l : Bool) {w : World} {A B : Option Addr} {n c m d : Nat} {ks vs : List UInt64} (h : Nd w A n c B m d ks vs) (k x : UInt64) :
    Calls Try.prog 4 #[.agg #[.bool l, .slice A n c, .slice B m d], .int .u64 (k.toNat : Int), .int .u64 (x.toNat : Int)] w fun e w' => e = .returned (.bool true) ∧ Below w.heap.size w w' := by
  have HB := Lib.hid (show Below w.heap.size w (w.alloc (.cells #[.bool l, .slice A n c, .slice B m d] 24)) from (Below.refl w.heap.size w).alloc (Nat.le_refl _) (.cells #[.bool l, .slice A n c, .slice B m d] 24))
  have XN := Lib.hid (show BoxD (w.alloc (.cells #[.bool l, .slice A n c, .slice B m d] 24)) w.heap.size (.agg #[.bool l, .slice A n c, .slice B m d]) from box_d w _ _ _)
  have NN := Lib.hid (h.below HB.out)
  have kl := h.kl
  have hz := node_zero
  have HAW := Lib.hid haw
  have hwk := num_wf k
  have hwx := num_wf x
  clear h haw
  go_enter Try.func4, Try.ntmps4
  go_wp2_with fail
  generalize w.alloc (.cells #[.bool l, .slice A n c, .slice B m d] 24) = w1 at *
  by_cases hok : Ok l ks vs
  · skip
    obtain rfl : m = n := by rw [← NN.out.vl, ← kl]; exact hok.2.1
    have h7 := hok.1
    have HK := Lib.hid hok
    have hw1 := XN.out.lt
    refine (all_yes l NN.out hok).mono ?_
    rintro e w2 ⟨bm, rfl, MM, hbm, kz⟩
    replace XN := Lib.hid (XN.out.below XN.out.lt kz)
    replace NN := Lib.hid (NN.out.below kz)
    replace HB := Lib.hid (HB.out.trans (kz.mono HB.out.size))
    clear kz
    have hbm0 : w.heap.size ≤ bm := by omega
    replace MM := Lib.hid MM
    obtain ⟨P, S, PV, SV, sp, hpv, hsv, hcase⟩ := around hok k
    have SP := Lib.hid sp
    clear sp hok
    obtain ⟨DM, hown, hview⟩ := MM.out
    rcases hcase with ⟨hk, e1, v0, e2⟩ | ⟨hk, e1, e2⟩
    · skip
      have hfk : look ks vs k = some v0 := by rw [e1, e2, look_mid SP.out hpv, if_pos rfl]
      have hat2 : DM.atKey (.int .u64 (k.toNat : Int)) (.lit (.int .u64 0)) = .lit (.int .u64 (v0.toNat : Int)) := hview.at' k v0 _ hfk
      have hh2 : Maps.has DM (.int .u64 (k.toNat : Int)) = true := by have h1 := hview.hasKey k; rw [hfk] at h1; exact h1
      go_wp2_with (first | (at_lookup; refine wpList_lookup_own_ok_int _ rfl _ _ 45 rfl 25 25 .u64 keysU Try.underlying45 Try.underlying25 (zeroU _) bm m DM rfl hown _ _ rfl (keyOf_int_mk Try.underlying25 hwk) ?_; intro cc hatc hwcc; rw [hat2] at hatc; simp only [DataW.lit.injEq, Lit.int.injEq, true_and] at hatc; subst hatc) | (refine wpList_load_d rfl (.tmp 3) rfl w.heap.size _ rfl XN.out ?_))
      clear hat2 hh2 hown hview
      have hlen : P.length + S.length + 1 = m := by have := kl; rw [e1] at this; simp at this; omega
      have hp7 : P.length + S.length < 7 := by omega
      have hrP : Rises (P ++ k :: S) := by rw [← e1]; exact HK.out.2.2.1
      have HKP := Lib.hid (show Ok l (P ++ k :: S) (PV ++ x :: SV) from ok_mid (v := x) hp7 hpv hsv hrP)
      clear hrP
      have HL1 := Lib.hid e1
      have HL2 := Lib.hid e2
      clear e1 e2
      refine (put_any l NN.out k x ((l, (P ++ k :: S), (PV ++ x :: SV)), true, 0) (by rw [HL1.out, HL2.out]; exact (putR_mid (by rw [← HL1.out, ← HL2.out]; exact HK.out) hpv SP.out).symm)).mono ?_
      rintro e w3 ⟨p, rfl, Op, kz⟩
      replace XN := Lib.hid (XN.out.below XN.out.lt kz)
      replace NN := Lib.hid (NN.out.below kz)
      replace MM := Lib.hid (MM.out.far kz)
      replace HB := Lib.hid (HB.out.trans (kz.mono HB.out.size))
      clear kz
      obtain ⟨Ap, cp, Bp, dp, rfl, Np⟩ := Op.ex (n := m) (m := m) (by simp; omega) (by simp; omega)
      replace Op := Lib.hid Op
      replace Np := Lib.hid Np
      go_upto_region 6 with (first | (refine wpList_store_d rfl (.tmp 11) (.tmp 44) rfl w3.heap.size _ _ zeroD _ _ _ rfl rfl (box_d w3 (.bool false) (.slice none 0 0) (.slice none 0 0)) (Op.out.at ((Below.refl w3.heap.size w3).alloc (Nat.le_refl _) (.cells #[.bool false, .slice none 0 0, .slice none 0 0] 24))) ?_; intro cs HC))
      have kv := ((Below.refl w3.heap.size w3).alloc (Nat.le_refl _) (.cells #[.bool false, .slice none 0 0, .slice none 0 0] 24)).trans (row_below cs (Nat.le_refl _))
      have Xp := Lib.hid HC
      clear HC
      obtain ⟨rp, hrp⟩ : ∃ r, r = w3.heap.size := ⟨_, rfl⟩
      generalize (w3.alloc (.cells #[.bool false, .slice none 0 0, .slice none 0 0] 24)).setRow w3.heap.size cs = w4 at *
      replace XN := Lib.hid (XN.out.below XN.out.lt kv)
      replace NN := Lib.hid (NN.out.below kv)
      replace MM := Lib.hid (MM.out.far kv)
      replace Op := Lib.hid (Op.out.at kv)
      replace Np := Lib.hid (Np.out.below kv)
      replace HB := Lib.hid (HB.out.trans (kv.mono HB.out.size))
      rw [← hrp] at Xp ⊢
      clear kv hrp
      go_wp2_with (first | (refine wpList_load_d rfl (.tmp 11) rfl rp _ rfl Xp.out ?_))
      have hml := MM.out.lt
      refine (all_yes l Np.out HKP.out).mono ?_
      rintro e w5 ⟨bq, rfl, MQ, hbq, kz⟩
      replace XN := Lib.hid (XN.out.below XN.out.lt kz)
      replace NN := Lib.hid (NN.out.below kz)
      replace MM := Lib.hid (MM.out.far kz)
      replace Op := Lib.hid (Op.out.at kz)
      replace Np := Lib.hid (Np.out.below kz)
      replace Xp := Lib.hid (Xp.out.below Xp.out.lt kz)
      replace HB := Lib.hid (HB.out.trans (kz.mono HB.out.size))
      clear kz
      replace MQ := Lib.hid MQ
      have hbne : bq ≠ bm := by omega
      go_wp2_with (first | (refine wpList_load_d rfl (.tmp 11) rfl rp _ rfl Xp.out ?_))
      refine (at_any l Np.out k (P.length, true, 0) (atR_mid HKP.out SP.out).symm).mono ?_
      rintro e w6 ⟨rfl, kz⟩
      replace XN := Lib.hid (XN.out.below XN.out.lt kz)
      replace NN := Lib.hid (NN.out.below kz)
      replace MM := Lib.hid (MM.out.far kz)
      replace Op := Lib.hid (Op.out.at kz)
      replace Np := Lib.hid (Np.out.below kz)
      replace Xp := Lib.hid (Xp.out.below Xp.out.lt kz)
      replace MQ := Lib.hid (MQ.out.far kz)
      replace HB := Lib.hid (HB.out.trans (kz.mono HB.out.size))
      clear kz
      have p0 := Xp.out.of.cellAt (i := 0) rfl
      have p1 := Xp.out.of.cellAt (i := 1) rfl
      have p2 := Xp.out.of.cellAt (i := 2) rfl
      have n0 := XN.out.of.cellAt (i := 0) rfl
      have hpl : P.length < m := by omega
      have hpli : ¬ (((m : Int) : Int) ≤ (P.length : Int)) := by omega
      have hpli2 : (P.length : Int) < ((m : Int) : Int) := by omega
      obtain ⟨bk, ok, rfl, hK⟩ := Np.out.ks.has (by simp; omega)
      obtain ⟨bv, ov, rfl, hV⟩ := Np.out.vs.has (by simp; omega)
      have ck := hK P.length (by simp)
      rw [show (P ++ k :: S)[P.length]'(by simp) = k by simp] at ck
      have cv := hV P.length (by simp; omega)
      rw [show (PV ++ x :: SV)[P.length]'(by simp; omega) = x by rw [List.getElem_append_right (by omega)]; simp [hpv]] at cv
      have hkk : ((k.toNat : Int) != (k.toNat : Int)) = false := by simp
      have hxx : ((x.toNat : Int) != (x.toNat : Int)) = false := by simp
      have hll : (l != l) = false := by simp
      have hpn : ¬ ((P.length : Int) < 0) := by omega
      clear hK hV
      go_upto_region 12 with (fail)
      clear p0 p1 p2 n0 ck cv hpl hpli hpli2 hkk hll hpn
      clear Op
      obtain ⟨D2, hown2, hview2⟩ := MM.out
      have HV2 := Lib.hid hview2
      clear hview2
      obtain ⟨es2, cl2, hmb⟩ := map_block MM.out
      have HMB := Lib.hid hmb
      clear hmb
      have h7m : m < maxLen := by unfold maxLen; omega
      go_wp2_with (first | (at_mapUpdate; refine wpList_mapUpdate_own _ rfl _ _ _ 45 rfl 25 25 keysU Try.underlying45 _ bm _ _ rfl hown2 h7m _ _ (klit k) rfl rfl (keyOf_int_mk Try.underlying25 hwk) (kdat x) [] (plainElem_int Try.underlying25 hwx) ?_; intro w7 hown3 hg3))
      replace XN := Lib.hid (box_grown XN.out HMB.out hg3)
      replace NN := Lib.hid (nd_grown NN.out HMB.out hg3)
      replace Np := Lib.hid (nd_grown Np.out HMB.out hg3)
      replace Xp := Lib.hid (box_grown Xp.out HMB.out hg3)
      replace MQ := Lib.hid (map_grown MQ.out (by omega) hg3)
      replace HB := Lib.hid (HB.out.trans (MapV.turn hg3 hbm0 HB.out.size))
      clear MM
      have MM := Lib.hid (show MapV w7 bm (m + 1) (look (P ++ k :: S) (PV ++ x :: SV)) m from MapV.congr ⟨_, hown3, HV2.out.put k x⟩ (fun y => show (if y = k then some x else look ks vs y) = _ from if e : y = k then (by rw [look_mid SP.out hpv, if_pos e, if_pos e]) else (by rw [look_mid SP.out hpv, if_neg e, if_neg e, HL1.out, HL2.out, look_mid SP.out hpv, if_neg e])) (by rw [HL1.out, HL2.out, look_mid SP.out hpv, if_pos rfl]; rfl))
      clear hown2 hown3 HV2 HMB hg3 h7m
      refine (alike_yes MM.out MQ.out).mono ?_
      rintro e w8 ⟨rfl, kz⟩
      replace XN := Lib.hid (XN.out.below XN.out.lt kz)
      replace NN := Lib.hid (NN.out.below kz)
      replace Np := Lib.hid (Np.out.below kz)
      replace Xp := Lib.hid (Xp.out.below Xp.out.lt kz)
      replace MQ := Lib.hid (MQ.out.far kz)
      replace MM := Lib.hid (MM.out.far kz)
      replace HB := Lib.hid (HB.out.trans (kz.mono HB.out.size))
      clear kz
      go_wp2_with (first | (refine wpList_load_d rfl (.tmp 11) rfl rp _ rfl Xp.out ?_))
      by_cases hlast : l = false ∧ P.length + S.length = 0
      · skip
        obtain ⟨rfl, hl0⟩ := hlast
        refine (take_any false Np.out k (zn, 0, 122) (takeR_last HKP.out hl0).symm).mono ?_
        rintro e w9 ⟨t, rfl, Ot, kz⟩
        replace XN := Lib.hid (XN.out.below XN.out.lt kz)
        replace NN := Lib.hid (NN.out.below kz)
        replace Np := Lib.hid (Np.out.below kz)
        replace Xp := Lib.hid (Xp.out.below Xp.out.lt kz)
        replace MQ := Lib.hid (MQ.out.far kz)
        replace MM := Lib.hid (MM.out.far kz)
        replace HB := Lib.hid (HB.out.trans (kz.mono HB.out.size))
        clear kz
        replace Ot := Lib.hid Ot
        go_upto_region 16 with (first | (refine wpList_store_d rfl (.tmp 18) (.tmp 146) rfl w9.heap.size _ _ zeroD _ _ _ rfl rfl (box_d w9 (.bool false) (.slice none 0 0) (.slice none 0 0)) (Ot.out.at ((Below.refl w9.heap.size w9).alloc (Nat.le_refl _) (.cells #[.bool false, .slice none 0 0, .slice none 0 0] 24))) ?_; intro cs HC))
        have kv := ((Below.refl w9.heap.size w9).alloc (Nat.le_refl _) (.cells #[.bool false, .slice none 0 0, .slice none 0 0] 24)).trans (row_below cs (Nat.le_refl _))
        have Xt := Lib.hid HC
        clear HC
        obtain ⟨rt, hrt⟩ : ∃ r, r = w9.heap.size := ⟨_, rfl⟩
        generalize (w9.alloc (.cells #[.bool false, .slice none 0 0, .slice none 0 0] 24)).setRow w9.heap.size cs = w10 at *
        replace XN := Lib.hid (XN.out.below XN.out.lt kv)
        replace NN := Lib.hid (NN.out.below kv)
        replace Np := Lib.hid (Np.out.below kv)
        replace Xp := Lib.hid (Xp.out.below Xp.out.lt kv)
        replace MQ := Lib.hid (MQ.out.far kv)
        replace MM := Lib.hid (MM.out.far kv)
        replace Ot := Lib.hid (Ot.out.at kv)
        replace HB := Lib.hid (HB.out.trans (kv.mono HB.out.size))
        rw [← hrt] at Xt ⊢
        clear kv hrt
        have p0 := Xp.out.of.cellAt (i := 0) rfl
        have p1 := Xp.out.of.cellAt (i := 1) rfl
        have hone : m = 1 := by omega
        rw [hone] at p1
        go_wp2_with fail
        clear p0 p1
        refine (HAW.out _).mono ?_
        rintro e w11 ⟨rfl, kz⟩
        replace XN := Lib.hid (XN.out.below XN.out.lt kz)
        replace NN := Lib.hid (NN.out.below kz)
        replace Np := Lib.hid (Np.out.below kz)
        replace Xp := Lib.hid (Xp.out.below Xp.out.lt kz)
        replace MQ := Lib.hid (MQ.out.far kz)
        replace MM := Lib.hid (MM.out.far kz)
        replace Ot := Lib.hid (Ot.out.at kz)
        replace Xt := Lib.hid (Xt.out.below Xt.out.lt kz)
        replace HB := Lib.hid (HB.out.trans (kz.mono HB.out.size))
        clear kz
        go_wp2_with fail
        go_ret
        exact ⟨rfl, HB.out⟩
      · skip
        have hrS : Rises (P ++ S) := rises_gap HKP.out.2.2.1
        have HKT := Lib.hid (ok_gap (k := k) (l := l) (PV := PV) (SV := SV) (by omega) hpv hsv hrS hlast)
        clear hrS
        refine (take_any l Np.out k ((l, P ++ S, PV ++ SV), x, 0) (takeR_mid HKP.out hpv SP.out hlast).symm).mono ?_
        rintro e w9 ⟨t, rfl, Ot, kz⟩
        replace XN := Lib.hid (XN.out.below XN.out.lt kz)
        replace NN := Lib.hid (NN.out.below kz)
        replace Np := Lib.hid (Np.out.below kz)
        replace Xp := Lib.hid (Xp.out.below Xp.out.lt kz)
        replace MQ := Lib.hid (MQ.out.far kz)
        replace MM := Lib.hid (MM.out.far kz)
        replace HB := Lib.hid (HB.out.trans (kz.mono HB.out.size))
        clear kz
        obtain ⟨At, ct, Bt, dt, rfl, Nt⟩ := Ot.ex (n := (m - 1)) (m := (m - 1)) (by simp; omega) (by simp; omega)
        replace Ot := Lib.hid Ot
        replace Nt := Lib.hid Nt
        go_upto_region 16 with (first | (refine wpList_store_d rfl (.tmp 18) (.tmp 146) rfl w9.heap.size _ _ zeroD _ _ _ rfl rfl (box_d w9 (.bool false) (.slice none 0 0) (.slice none 0 0)) (Ot.out.at ((Below.refl w9.heap.size w9).alloc (Nat.le_refl _) (.cells #[.bool false, .slice none 0 0, .slice none 0 0] 24))) ?_; intro cs HC))
        have kv := ((Below.refl w9.heap.size w9).alloc (Nat.le_refl _) (.cells #[.bool false, .slice none 0 0, .slice none 0 0] 24)).trans (row_below cs (Nat.le_refl _))
        have Xt := Lib.hid HC
        clear HC
        obtain ⟨rt, hrt⟩ : ∃ r, r = w9.heap.size := ⟨_, rfl⟩
        generalize (w9.alloc (.cells #[.bool false, .slice none 0 0, .slice none 0 0] 24)).setRow w9.heap.size cs = w10 at *
        replace XN := Lib.hid (XN.out.below XN.out.lt kv)
        replace NN := Lib.hid (NN.out.below kv)
        replace Np := Lib.hid (Np.out.below kv)
        replace Xp := Lib.hid (Xp.out.below Xp.out.lt kv)
        replace MQ := Lib.hid (MQ.out.far kv)
        replace MM := Lib.hid (MM.out.far kv)
        replace Ot := Lib.hid (Ot.out.at kv)
        replace Nt := Lib.hid (Nt.out.below kv)
        replace HB := Lib.hid (HB.out.trans (kv.mono HB.out.size))
        rw [← hrt] at Xt ⊢
        clear kv hrt
        clear Ot
        go_wp2_with (first | (refine wpList_load_d rfl (.tmp 18) rfl rt _ rfl Xt.out ?_))
        have hml := MM.out.lt
        refine (all_yes l Nt.out HKT.out).mono ?_
        rintro e w11 ⟨br, rfl, MR, hbr, kz⟩
        replace XN := Lib.hid (XN.out.below XN.out.lt kz)
        replace NN := Lib.hid (NN.out.below kz)
        replace Np := Lib.hid (Np.out.below kz)
        replace Xp := Lib.hid (Xp.out.below Xp.out.lt kz)
        replace MQ := Lib.hid (MQ.out.far kz)
        replace MM := Lib.hid (MM.out.far kz)
        replace Nt := Lib.hid (Nt.out.below kz)
        replace Xt := Lib.hid (Xt.out.below Xt.out.lt kz)
        replace HB := Lib.hid (HB.out.trans (kz.mono HB.out.size))
        clear kz
        replace MR := Lib.hid MR
        have hbrne : br ≠ bm := by omega
        clear MQ
        go_upto_region 21 with (fail)
        obtain ⟨D2, hown2, hview2⟩ := MM.out
        have HV2 := Lib.hid hview2
        clear hview2
        obtain ⟨es2, cl2, hmb⟩ := map_block MM.out
        have HMB := Lib.hid hmb
        clear hmb
        go_wp2_with (first | (at_delete; refine wpList_delete_own _ rfl _ _ 45 25 rfl 25 keysU Try.underlying45 _ bm _ D2 rfl hown2 _ (klit k) rfl (keyOf_int_mk Try.underlying25 hwk) ?_; intro w12 hown3 hg3))
        replace XN := Lib.hid (box_grown XN.out HMB.out hg3.grown)
        replace NN := Lib.hid (nd_grown NN.out HMB.out hg3.grown)
        replace Np := Lib.hid (nd_grown Np.out HMB.out hg3.grown)
        replace Xp := Lib.hid (box_grown Xp.out HMB.out hg3.grown)
        replace Nt := Lib.hid (nd_grown Nt.out HMB.out hg3.grown)
        replace Xt := Lib.hid (box_grown Xt.out HMB.out hg3.grown)
        replace MR := Lib.hid (map_grown MR.out (by omega) hg3.grown)
        replace HB := Lib.hid (HB.out.trans (MapV.turn hg3.grown hbm0 HB.out.size))
        clear MM
        have MM := Lib.hid (show MapV w12 bm (m + 1) (look (P ++ S) (PV ++ SV)) (m - 1) from MapV.congr ⟨_, hown3, HV2.out.del k⟩ (fun y => show (if y = k then none else look (P ++ k :: S) (PV ++ x :: SV) y) = _ from if e : y = k then (by rw [if_pos e, e, look_gap SP.out]) else (by rw [if_neg e, look_mid SP.out hpv, if_neg e])) (by rw [look_mid SP.out hpv, if_pos rfl]; simp))
        clear hown2 hown3 HV2 HMB hg3
        refine (alike_yes MM.out MR.out).mono ?_
        rintro e w13 ⟨rfl, kz⟩
        replace XN := Lib.hid (XN.out.below XN.out.lt kz)
        replace NN := Lib.hid (NN.out.below kz)
        replace Np := Lib.hid (Np.out.below kz)
        replace Xp := Lib.hid (Xp.out.below Xp.out.lt kz)
        replace Nt := Lib.hid (Nt.out.below kz)
        replace Xt := Lib.hid (Xt.out.below Xt.out.lt kz)
        replace MR := Lib.hid (MR.out.far kz)
        replace MM := Lib.hid (MM.out.far kz)
        replace HB := Lib.hid (HB.out.trans (kz.mono HB.out.size))
        clear kz
        go_wp2_with (first | (refine wpList_load_d rfl (.tmp 18) rfl rt _ rfl Xt.out ?_))
        refine (put_any l Nt.out k v0 ((l, ks, vs), false, 0) (by rw [HL1.out, HL2.out]; exact (putR_gap HKT.out hpv SP.out hp7).symm)).mono ?_
        rintro e w14 ⟨z, rfl, Oz, kz⟩
        replace XN := Lib.hid (XN.out.below XN.out.lt kz)
        replace NN := Lib.hid (NN.out.below kz)
        replace Np := Lib.hid (Np.out.below kz)
        replace Xp := Lib.hid (Xp.out.below Xp.out.lt kz)
        replace Nt := Lib.hid (Nt.out.below kz)
        replace Xt := Lib.hid (Xt.out.below Xt.out.lt kz)
        replace MR := Lib.hid (MR.out.far kz)
        replace MM := Lib.hid (MM.out.far kz)
        replace HB := Lib.hid (HB.out.trans (kz.mono HB.out.size))
        clear kz
        obtain ⟨Az, cz, Bz, dz, rfl, Nz⟩ := Oz.ex (n := m) (m := m) kl NN.out.vl
        replace Oz := Lib.hid Oz
        replace Nz := Lib.hid Nz
        go_upto_region 27 with (first | (refine wpList_store_d rfl (.tmp 22) (.tmp 198) rfl w14.heap.size _ _ zeroD _ _ _ rfl rfl (box_d w14 (.bool false) (.slice none 0 0) (.slice none 0 0)) (Oz.out.at ((Below.refl w14.heap.size w14).alloc (Nat.le_refl _) (.cells #[.bool false, .slice none 0 0, .slice none 0 0] 24))) ?_; intro cs HC))
        have kv := ((Below.refl w14.heap.size w14).alloc (Nat.le_refl _) (.cells #[.bool false, .slice none 0 0, .slice none 0 0] 24)).trans (row_below cs (Nat.le_refl _))
        have Xz := Lib.hid HC
        clear HC
        obtain ⟨rz, hrz⟩ : ∃ r, r = w14.heap.size := ⟨_, rfl⟩
        generalize (w14.alloc (.cells #[.bool false, .slice none 0 0, .slice none 0 0] 24)).setRow w14.heap.size cs = w15 at *
        replace XN := Lib.hid (XN.out.below XN.out.lt kv)
        replace NN := Lib.hid (NN.out.below kv)
        replace Np := Lib.hid (Np.out.below kv)
        replace Xp := Lib.hid (Xp.out.below Xp.out.lt kv)
        replace Nt := Lib.hid (Nt.out.below kv)
        replace Xt := Lib.hid (Xt.out.below Xt.out.lt kv)
        replace MR := Lib.hid (MR.out.far kv)
        replace MM := Lib.hid (MM.out.far kv)
        replace Oz := Lib.hid (Oz.out.at kv)
        replace Nz := Lib.hid (Nz.out.below kv)
        replace HB := Lib.hid (HB.out.trans (kv.mono HB.out.size))
        rw [← hrz] at Xz ⊢
        clear kv hrz
        have y0 := Xz.out.of.cellAt (i := 0) rfl
        have n0 := XN.out.of.cellAt (i := 0) rfl
        have y1 := Xz.out.of.cellAt (i := 1) rfl
        have n1 := XN.out.of.cellAt (i := 1) rfl
        have y2 := Xz.out.of.cellAt (i := 2) rfl
        have n2 := XN.out.of.cellAt (i := 2) rfl
        go_wp2_with fail
        clear y0 y1 y2 n0 n1 n2
        refine (same_yes l Nz.out NN.out).mono ?_
        rintro e w16 ⟨rfl, kz⟩
        replace XN := Lib.hid (XN.out.below XN.out.lt kz)
        replace NN := Lib.hid (NN.out.below kz)
        replace Np := Lib.hid (Np.out.below kz)
        replace Xp := Lib.hid (Xp.out.below Xp.out.lt kz)
        replace Nt := Lib.hid (Nt.out.below kz)
        replace Xt := Lib.hid (Xt.out.below Xt.out.lt kz)
        replace MR := Lib.hid (MR.out.far kz)
        replace MM := Lib.hid (MM.out.far kz)
        replace Oz := Lib.hid (Oz.out.at kz)
        replace Nz := Lib.hid (Nz.out.below kz)
        replace Xz := Lib.hid (Xz.out.below Xz.out.lt kz)
        replace HB := Lib.hid (HB.out.trans (kz.mono HB.out.size))
        clear kz
        go_wp2_with fail
        refine (HAW.out _).mono ?_
        rintro e w17 ⟨rfl, kz⟩
        replace XN := Lib.hid (XN.out.below XN.out.lt kz)
        replace NN := Lib.hid (NN.out.below kz)
        replace Np := Lib.hid (Np.out.below kz)
        replace Xp := Lib.hid (Xp.out.below Xp.out.lt kz)
        replace Nt := Lib.hid (Nt.out.below kz)
        replace Xt := Lib.hid (Xt.out.below Xt.out.lt kz)
        replace MR := Lib.hid (MR.out.far kz)
        replace MM := Lib.hid (MM.out.far kz)
        replace Oz := Lib.hid (Oz.out.at kz)
        replace Nz := Lib.hid (Nz.out.below kz)
        replace Xz := Lib.hid (Xz.out.below Xz.out.lt kz)
        replace HB := Lib.hid (HB.out.trans (kz.mono HB.out.size))
        clear kz
        go_wp2_with fail
        go_ret
        exact ⟨rfl, HB.out⟩
    · skip
      have hfk : look ks vs k = none := by rw [e1, e2, look_gap SP.out]
      have hh2 : Maps.has DM (.int .u64 (k.toNat : Int)) = false := by have h1 := hview.hasKey k; rw [hfk] at h1; exact h1
      have hat2 : DM.atKey (.int .u64 (k.toNat : Int)) (.lit (.int .u64 0)) = .lit (.int .u64 0) := atKey_of_not_has hh2 _
      go_wp2_with (first | (at_lookup; refine wpList_lookup_own_ok_int _ rfl _ _ 45 rfl 25 25 .u64 keysU Try.underlying45 Try.underlying25 (zeroU _) bm m DM rfl hown _ _ rfl (keyOf_int_mk Try.underlying25 hwk) ?_; intro cc hatc hwcc; rw [hat2] at hatc; simp only [DataW.lit.injEq, Lit.int.injEq, true_and] at hatc; subst hatc) | (refine wpList_load_d rfl (.tmp 3) rfl w.heap.size _ rfl XN.out ?_))
      clear hat2 hh2 hown hview
      by_cases hf7 : m = 7
      · skip
        subst hf7
        refine (put_any l NN.out k x (zn, false, 120) (putR_full HK.out hk kl).symm).mono ?_
        rintro e w3 ⟨p, rfl, Op, kz⟩
        replace XN := Lib.hid (XN.out.below XN.out.lt kz)
        replace NN := Lib.hid (NN.out.below kz)
        replace MM := Lib.hid (MM.out.far kz)
        replace HB := Lib.hid (HB.out.trans (kz.mono HB.out.size))
        clear kz
        obtain ⟨Ap, cp, Bp, dp, ep, Np⟩ := Op.ex (n := 0) (m := 0) rfl rfl
        replace ep : p = .agg #[.bool false, .slice Ap 0 cp, .slice Bp 0 dp] := ep
        subst ep
        replace Op := Lib.hid Op
        replace Np := Lib.hid (show Nd w3 Ap 0 cp Bp 0 dp [] [] from Np)
        go_upto_region 6 with (first | (refine wpList_store_d rfl (.tmp 11) (.tmp 44) rfl w3.heap.size _ _ zeroD _ _ _ rfl rfl (box_d w3 (.bool false) (.slice none 0 0) (.slice none 0 0)) (Op.out.at ((Below.refl w3.heap.size w3).alloc (Nat.le_refl _) (.cells #[.bool false, .slice none 0 0, .slice none 0 0] 24))) ?_; intro cs HC))
        have kv := ((Below.refl w3.heap.size w3).alloc (Nat.le_refl _) (.cells #[.bool false, .slice none 0 0, .slice none 0 0] 24)).trans (row_below cs (Nat.le_refl _))
        have Xp := Lib.hid HC
        clear HC
        obtain ⟨rp, hrp⟩ : ∃ r, r = w3.heap.size := ⟨_, rfl⟩
        generalize (w3.alloc (.cells #[.bool false, .slice none 0 0, .slice none 0 0] 24)).setRow w3.heap.size cs = w4 at *
        replace XN := Lib.hid (XN.out.below XN.out.lt kv)
        replace NN := Lib.hid (NN.out.below kv)
        replace MM := Lib.hid (MM.out.far kv)
        replace Op := Lib.hid (Op.out.at kv)
        replace Np := Lib.hid (Np.out.below kv)
        replace HB := Lib.hid (HB.out.trans (kv.mono HB.out.size))
        rw [← hrp] at Xp ⊢
        clear kv hrp
        obtain ⟨D2, hown2, hview2⟩ := MM.out
        have hlen := fun ty => hown2.len Try.underlying45 ty
        rw [hview2.size] at hlen
        clear hown2 hview2
        have u0 := Xp.out.of.cellAt (i := 0) rfl
        have u1 := Xp.out.of.cellAt (i := 1) rfl
        have u2 := Xp.out.of.cellAt (i := 2) rfl
        go_wp2_with fail
        clear u0 u1 u2 hlen
        refine (same_yes false Np.out (nd_zero _)).mono ?_
        rintro e w5 ⟨rfl, kz⟩
        replace XN := Lib.hid (XN.out.below XN.out.lt kz)
        replace NN := Lib.hid (NN.out.below kz)
        replace MM := Lib.hid (MM.out.far kz)
        replace Op := Lib.hid (Op.out.at kz)
        replace Np := Lib.hid (Np.out.below kz)
        replace Xp := Lib.hid (Xp.out.below Xp.out.lt kz)
        replace HB := Lib.hid (HB.out.trans (kz.mono HB.out.size))
        clear kz
        go_wp2_with fail
        refine (HAW.out _).mono ?_
        rintro e w6 ⟨rfl, kz⟩
        replace XN := Lib.hid (XN.out.below XN.out.lt kz)
        replace NN := Lib.hid (NN.out.below kz)
        replace MM := Lib.hid (MM.out.far kz)
        replace Op := Lib.hid (Op.out.at kz)
        replace Np := Lib.hid (Np.out.below kz)
        replace Xp := Lib.hid (Xp.out.below Xp.out.lt kz)
        replace HB := Lib.hid (HB.out.trans (kz.mono HB.out.size))
        clear kz
        go_wp2_with fail
        go_ret
        exact ⟨rfl, HB.out⟩
      · skip
        have hlen : P.length + S.length + 1 = (m + 1) := by have := kl; rw [e1] at this; simp at this; omega
        have hp7 : P.length + S.length < 7 := by omega
        have hrP : Rises (P ++ k :: S) := rises_mid (by rw [← e1]; exact HK.out.2.2.1) SP.out
        have HKP := Lib.hid (show Ok l (P ++ k :: S) (PV ++ x :: SV) from ok_mid (v := x) hp7 hpv hsv hrP)
        clear hrP
        have HL1 := Lib.hid e1
        have HL2 := Lib.hid e2
        clear e1 e2
        refine (put_any l NN.out k x ((l, (P ++ k :: S), (PV ++ x :: SV)), false, 0) (by rw [HL1.out, HL2.out]; exact (putR_gap (by rw [← HL1.out, ← HL2.out]; exact HK.out) hpv SP.out hp7).symm)).mono ?_
        rintro e w3 ⟨p, rfl, Op, kz⟩
        replace XN := Lib.hid (XN.out.below XN.out.lt kz)
        replace NN := Lib.hid (NN.out.below kz)
        replace MM := Lib.hid (MM.out.far kz)
        replace HB := Lib.hid (HB.out.trans (kz.mono HB.out.size))
        clear kz
        obtain ⟨Ap, cp, Bp, dp, rfl, Np⟩ := Op.ex (n := (m + 1)) (m := (m + 1)) (by simp; omega) (by simp; omega)
        replace Op := Lib.hid Op
        replace Np := Lib.hid Np
        go_upto_region 6 with (first | (refine wpList_store_d rfl (.tmp 11) (.tmp 44) rfl w3.heap.size _ _ zeroD _ _ _ rfl rfl (box_d w3 (.bool false) (.slice none 0 0) (.slice none 0 0)) (Op.out.at ((Below.refl w3.heap.size w3).alloc (Nat.le_refl _) (.cells #[.bool false, .slice none 0 0, .slice none 0 0] 24))) ?_; intro cs HC))
        have kv := ((Below.refl w3.heap.size w3).alloc (Nat.le_refl _) (.cells #[.bool false, .slice none 0 0, .slice none 0 0] 24)).trans (row_below cs (Nat.le_refl _))
        have Xp := Lib.hid HC
        clear HC
        obtain ⟨rp, hrp⟩ : ∃ r, r = w3.heap.size := ⟨_, rfl⟩
        generalize (w3.alloc (.cells #[.bool false, .slice none 0 0, .slice none 0 0] 24)).setRow w3.heap.size cs = w4 at *
        replace XN := Lib.hid (XN.out.below XN.out.lt kv)
        replace NN := Lib.hid (NN.out.below kv)
        replace MM := Lib.hid (MM.out.far kv)
        replace Op := Lib.hid (Op.out.at kv)
        replace Np := Lib.hid (Np.out.below kv)
        replace HB := Lib.hid (HB.out.trans (kv.mono HB.out.size))
        rw [← hrp] at Xp ⊢
        clear kv hrp
        go_wp2_with (first | (refine wpList_load_d rfl (.tmp 11) rfl rp _ rfl Xp.out ?_))
        have hml := MM.out.lt
        refine (all_yes l Np.out HKP.out).mono ?_
        rintro e w5 ⟨bq, rfl, MQ, hbq, kz⟩
        replace XN := Lib.hid (XN.out.below XN.out.lt kz)
        replace NN := Lib.hid (NN.out.below kz)
        replace MM := Lib.hid (MM.out.far kz)
        replace Op := Lib.hid (Op.out.at kz)
        replace Np := Lib.hid (Np.out.below kz)
        replace Xp := Lib.hid (Xp.out.below Xp.out.lt kz)
        replace HB := Lib.hid (HB.out.trans (kz.mono HB.out.size))
        clear kz
        replace MQ := Lib.hid MQ
        have hbne : bq ≠ bm := by omega
        go_wp2_with (first | (refine wpList_load_d rfl (.tmp 11) rfl rp _ rfl Xp.out ?_))
        refine (at_any l Np.out k (P.length, true, 0) (atR_mid HKP.out SP.out).symm).mono ?_
        rintro e w6 ⟨rfl, kz⟩
        replace XN := Lib.hid (XN.out.below XN.out.lt kz)
        replace NN := Lib.hid (NN.out.below kz)
        replace MM := Lib.hid (MM.out.far kz)
        replace Op := Lib.hid (Op.out.at kz)
        replace Np := Lib.hid (Np.out.below kz)
        replace Xp := Lib.hid (Xp.out.below Xp.out.lt kz)
        replace MQ := Lib.hid (MQ.out.far kz)
        replace HB := Lib.hid (HB.out.trans (kz.mono HB.out.size))
        clear kz
        have p0 := Xp.out.of.cellAt (i := 0) rfl
        have p1 := Xp.out.of.cellAt (i := 1) rfl
        have p2 := Xp.out.of.cellAt (i := 2) rfl
        have n0 := XN.out.of.cellAt (i := 0) rfl
        have hpl : P.length < (m + 1) := by omega
        have hpli : ¬ ((((m + 1 : Nat) : Int) : Int) ≤ (P.length : Int)) := by omega
        have hpli2 : (P.length : Int) < (((m + 1 : Nat) : Int) : Int) := by omega
        obtain ⟨bk, ok, rfl, hK⟩ := Np.out.ks.has (by simp; omega)
        obtain ⟨bv, ov, rfl, hV⟩ := Np.out.vs.has (by simp; omega)
        have ck := hK P.length (by simp)
        rw [show (P ++ k :: S)[P.length]'(by simp) = k by simp] at ck
        have cv := hV P.length (by simp; omega)
        rw [show (PV ++ x :: SV)[P.length]'(by simp; omega) = x by rw [List.getElem_append_right (by omega)]; simp [hpv]] at cv
        have hkk : ((k.toNat : Int) != (k.toNat : Int)) = false := by simp
        have hxx : ((x.toNat : Int) != (x.toNat : Int)) = false := by simp
        have hll : (l != l) = false := by simp
        have hpn : ¬ ((P.length : Int) < 0) := by omega
        clear hK hV
        go_upto_region 12 with (fail)
        clear p0 p1 p2 n0 ck cv hpl hpli hpli2 hkk hll hpn
        clear Op
        obtain ⟨D2, hown2, hview2⟩ := MM.out
        have HV2 := Lib.hid hview2
        clear hview2
        obtain ⟨es2, cl2, hmb⟩ := map_block MM.out
        have HMB := Lib.hid hmb
        clear hmb
        have h7m : m < maxLen := by unfold maxLen; omega
        go_wp2_with (first | (at_mapUpdate; refine wpList_mapUpdate_own _ rfl _ _ _ 45 rfl 25 25 keysU Try.underlying45 _ bm _ _ rfl hown2 h7m _ _ (klit k) rfl rfl (keyOf_int_mk Try.underlying25 hwk) (kdat x) [] (plainElem_int Try.underlying25 hwx) ?_; intro w7 hown3 hg3))
        replace XN := Lib.hid (box_grown XN.out HMB.out hg3)
        replace NN := Lib.hid (nd_grown NN.out HMB.out hg3)
        replace Np := Lib.hid (nd_grown Np.out HMB.out hg3)
        replace Xp := Lib.hid (box_grown Xp.out HMB.out hg3)
        replace MQ := Lib.hid (map_grown MQ.out (by omega) hg3)
        replace HB := Lib.hid (HB.out.trans (MapV.turn hg3 hbm0 HB.out.size))
        clear MM
        have MM := Lib.hid (show MapV w7 bm (m + 1) (look (P ++ k :: S) (PV ++ x :: SV)) (m + 1) from MapV.congr ⟨_, hown3, HV2.out.put k x⟩ (fun y => show (if y = k then some x else look ks vs y) = _ from if e : y = k then (by rw [look_mid SP.out hpv, if_pos e, if_pos e]) else (by rw [look_mid SP.out hpv, if_neg e, if_neg e, HL1.out, HL2.out])) (by rw [HL1.out, HL2.out, look_gap SP.out]; rfl))
        clear hown2 hown3 HV2 HMB hg3 h7m
        refine (alike_yes MM.out MQ.out).mono ?_
        rintro e w8 ⟨rfl, kz⟩
        replace XN := Lib.hid (XN.out.below XN.out.lt kz)
        replace NN := Lib.hid (NN.out.below kz)
        replace Np := Lib.hid (Np.out.below kz)
        replace Xp := Lib.hid (Xp.out.below Xp.out.lt kz)
        replace MQ := Lib.hid (MQ.out.far kz)
        replace MM := Lib.hid (MM.out.far kz)
        replace HB := Lib.hid (HB.out.trans (kz.mono HB.out.size))
        clear kz
        go_wp2_with (first | (refine wpList_load_d rfl (.tmp 11) rfl rp _ rfl Xp.out ?_))
        by_cases hlast : l = false ∧ P.length + S.length = 0
        · skip
          obtain ⟨rfl, hl0⟩ := hlast
          refine (take_any false Np.out k (zn, 0, 122) (takeR_last HKP.out hl0).symm).mono ?_
          rintro e w9 ⟨t, rfl, Ot, kz⟩
          replace XN := Lib.hid (XN.out.below XN.out.lt kz)
          replace NN := Lib.hid (NN.out.below kz)
          replace Np := Lib.hid (Np.out.below kz)
          replace Xp := Lib.hid (Xp.out.below Xp.out.lt kz)
          replace MQ := Lib.hid (MQ.out.far kz)
          replace MM := Lib.hid (MM.out.far kz)
          replace HB := Lib.hid (HB.out.trans (kz.mono HB.out.size))
          clear kz
          replace Ot := Lib.hid Ot
          go_upto_region 16 with (first | (refine wpList_store_d rfl (.tmp 18) (.tmp 146) rfl w9.heap.size _ _ zeroD _ _ _ rfl rfl (box_d w9 (.bool false) (.slice none 0 0) (.slice none 0 0)) (Ot.out.at ((Below.refl w9.heap.size w9).alloc (Nat.le_refl _) (.cells #[.bool false, .slice none 0 0, .slice none 0 0] 24))) ?_; intro cs HC))
          have kv := ((Below.refl w9.heap.size w9).alloc (Nat.le_refl _) (.cells #[.bool false, .slice none 0 0, .slice none 0 0] 24)).trans (row_below cs (Nat.le_refl _))
          have Xt := Lib.hid HC
          clear HC
          obtain ⟨rt, hrt⟩ : ∃ r, r = w9.heap.size := ⟨_, rfl⟩
          generalize (w9.alloc (.cells #[.bool false, .slice none 0 0, .slice none 0 0] 24)).setRow w9.heap.size cs = w10 at *
          replace XN := Lib.hid (XN.out.below XN.out.lt kv)
          replace NN := Lib.hid (NN.out.below kv)
          replace Np := Lib.hid (Np.out.below kv)
          replace Xp := Lib.hid (Xp.out.below Xp.out.lt kv)
          replace MQ := Lib.hid (MQ.out.far kv)
          replace MM := Lib.hid (MM.out.far kv)
          replace Ot := Lib.hid (Ot.out.at kv)
          replace HB := Lib.hid (HB.out.trans (kv.mono HB.out.size))
          rw [← hrt] at Xt ⊢
          clear kv hrt
          have p0 := Xp.out.of.cellAt (i := 0) rfl
          have p1 := Xp.out.of.cellAt (i := 1) rfl
          have hone : (m + 1) = 1 := by omega
          rw [hone] at p1
          go_wp2_with fail
          clear p0 p1
          refine (HAW.out _).mono ?_
          rintro e w11 ⟨rfl, kz⟩
          replace XN := Lib.hid (XN.out.below XN.out.lt kz)
          replace NN := Lib.hid (NN.out.below kz)
          replace Np := Lib.hid (Np.out.below kz)
          replace Xp := Lib.hid (Xp.out.below Xp.out.lt kz)
          replace MQ := Lib.hid (MQ.out.far kz)
          replace MM := Lib.hid (MM.out.far kz)
          replace Ot := Lib.hid (Ot.out.at kz)
          replace Xt := Lib.hid (Xt.out.below Xt.out.lt kz)
          replace HB := Lib.hid (HB.out.trans (kz.mono HB.out.size))
          clear kz
          go_wp2_with fail
          go_ret
          exact ⟨rfl, HB.out⟩
        · skip
          have hrS : Rises (P ++ S) := rises_gap HKP.out.2.2.1
          have HKT := Lib.hid (ok_gap (k := k) (l := l) (PV := PV) (SV := SV) (by omega) hpv hsv hrS hlast)
          clear hrS
          refine (take_any l Np.out k ((l, P ++ S, PV ++ SV), x, 0) (takeR_mid HKP.out hpv SP.out hlast).symm).mono ?_
          rintro e w9 ⟨t, rfl, Ot, kz⟩
          replace XN := Lib.hid (XN.out.below XN.out.lt kz)
          replace NN := Lib.hid (NN.out.below kz)
          replace Np := Lib.hid (Np.out.below kz)
          replace Xp := Lib.hid (Xp.out.below Xp.out.lt kz)
          replace MQ := Lib.hid (MQ.out.far kz)
          replace MM := Lib.hid (MM.out.far kz)
          replace HB := Lib.hid (HB.out.trans (kz.mono HB.out.size))
          clear kz
          obtain ⟨At, ct, Bt, dt, rfl, Nt⟩ := Ot.ex (n := m) (m := m) (by simp; omega) (by simp; omega)
          replace Ot := Lib.hid Ot
          replace Nt := Lib.hid Nt
          go_upto_region 16 with (first | (refine wpList_store_d rfl (.tmp 18) (.tmp 146) rfl w9.heap.size _ _ zeroD _ _ _ rfl rfl (box_d w9 (.bool false) (.slice none 0 0) (.slice none 0 0)) (Ot.out.at ((Below.refl w9.heap.size w9).alloc (Nat.le_refl _) (.cells #[.bool false, .slice none 0 0, .slice none 0 0] 24))) ?_; intro cs HC))
          have kv := ((Below.refl w9.heap.size w9).alloc (Nat.le_refl _) (.cells #[.bool false, .slice none 0 0, .slice none 0 0] 24)).trans (row_below cs (Nat.le_refl _))
          have Xt := Lib.hid HC
          clear HC
          obtain ⟨rt, hrt⟩ : ∃ r, r = w9.heap.size := ⟨_, rfl⟩
          generalize (w9.alloc (.cells #[.bool false, .slice none 0 0, .slice none 0 0] 24)).setRow w9.heap.size cs = w10 at *
          replace XN := Lib.hid (XN.out.below XN.out.lt kv)
          replace NN := Lib.hid (NN.out.below kv)
          replace Np := Lib.hid (Np.out.below kv)
          replace Xp := Lib.hid (Xp.out.below Xp.out.lt kv)
          replace MQ := Lib.hid (MQ.out.far kv)
          replace MM := Lib.hid (MM.out.far kv)
          replace Ot := Lib.hid (Ot.out.at kv)
          replace Nt := Lib.hid (Nt.out.below kv)
          replace HB := Lib.hid (HB.out.trans (kv.mono HB.out.size))
          rw [← hrt] at Xt ⊢
          clear kv hrt
          clear Ot
          go_wp2_with (first | (refine wpList_load_d rfl (.tmp 18) rfl rt _ rfl Xt.out ?_))
          have hml := MM.out.lt
          refine (all_yes l Nt.out HKT.out).mono ?_
          rintro e w11 ⟨br, rfl, MR, hbr, kz⟩
          replace XN := Lib.hid (XN.out.below XN.out.lt kz)
          replace NN := Lib.hid (NN.out.below kz)
          replace Np := Lib.hid (Np.out.below kz)
          replace Xp := Lib.hid (Xp.out.below Xp.out.lt kz)
          replace MQ := Lib.hid (MQ.out.far kz)
          replace MM := Lib.hid (MM.out.far kz)
          replace Nt := Lib.hid (Nt.out.below kz)
          replace Xt := Lib.hid (Xt.out.below Xt.out.lt kz)
          replace HB := Lib.hid (HB.out.trans (kz.mono HB.out.size))
          clear kz
          replace MR := Lib.hid MR
          have hbrne : br ≠ bm := by omega
          clear MQ
          go_upto_region 21 with (fail)
          obtain ⟨D2, hown2, hview2⟩ := MM.out
          have HV2 := Lib.hid hview2
          clear hview2
          obtain ⟨es2, cl2, hmb⟩ := map_block MM.out
          have HMB := Lib.hid hmb
          clear hmb
          go_wp2_with (first | (at_delete; refine wpList_delete_own _ rfl _ _ 45 25 rfl 25 keysU Try.underlying45 _ bm _ D2 rfl hown2 _ (klit k) rfl (keyOf_int_mk Try.underlying25 hwk) ?_; intro w12 hown3 hg3))
          replace XN := Lib.hid (box_grown XN.out HMB.out hg3.grown)
          replace NN := Lib.hid (nd_grown NN.out HMB.out hg3.grown)
          replace Np := Lib.hid (nd_grown Np.out HMB.out hg3.grown)
          replace Xp := Lib.hid (box_grown Xp.out HMB.out hg3.grown)
          replace Nt := Lib.hid (nd_grown Nt.out HMB.out hg3.grown)
          replace Xt := Lib.hid (box_grown Xt.out HMB.out hg3.grown)
          replace MR := Lib.hid (map_grown MR.out (by omega) hg3.grown)
          replace HB := Lib.hid (HB.out.trans (MapV.turn hg3.grown hbm0 HB.out.size))
          clear MM
          have MM := Lib.hid (show MapV w12 bm (m + 1) (look (P ++ S) (PV ++ SV)) m from MapV.congr ⟨_, hown3, HV2.out.del k⟩ (fun y => show (if y = k then none else look (P ++ k :: S) (PV ++ x :: SV) y) = _ from if e : y = k then (by rw [if_pos e, e, look_gap SP.out]) else (by rw [if_neg e, look_mid SP.out hpv, if_neg e])) (by rw [look_mid SP.out hpv, if_pos rfl]; simp))
          clear hown2 hown3 HV2 HMB hg3
          refine (alike_yes MM.out MR.out).mono ?_
          rintro e w13 ⟨rfl, kz⟩
          replace XN := Lib.hid (XN.out.below XN.out.lt kz)
          replace NN := Lib.hid (NN.out.below kz)
          replace Np := Lib.hid (Np.out.below kz)
          replace Xp := Lib.hid (Xp.out.below Xp.out.lt kz)
          replace Nt := Lib.hid (Nt.out.below kz)
          replace Xt := Lib.hid (Xt.out.below Xt.out.lt kz)
          replace MR := Lib.hid (MR.out.far kz)
          replace MM := Lib.hid (MM.out.far kz)
          replace HB := Lib.hid (HB.out.trans (kz.mono HB.out.size))
          clear kz
          have NT := Lib.hid (show Nd w13 At m ct Bt m dt ks vs from by have := Nt.out; rw [← HL1.out, ← HL2.out] at this; exact this)
          go_wp2_with (first | (refine wpList_load_d rfl (.tmp 18) rfl rt _ rfl Xt.out ?_) | (refine wpList_load_d rfl (.tmp 3) rfl w.heap.size _ rfl XN.out ?_))
          refine (same_yes l NT.out NN.out).mono ?_
          rintro e w14 ⟨rfl, kz⟩
          replace XN := Lib.hid (XN.out.below XN.out.lt kz)
          replace NN := Lib.hid (NN.out.below kz)
          replace Np := Lib.hid (Np.out.below kz)
          replace Xp := Lib.hid (Xp.out.below Xp.out.lt kz)
          replace Nt := Lib.hid (Nt.out.below kz)
          replace Xt := Lib.hid (Xt.out.below Xt.out.lt kz)
          replace MR := Lib.hid (MR.out.far kz)
          replace MM := Lib.hid (MM.out.far kz)
          replace NT := Lib.hid (NT.out.below kz)
          replace HB := Lib.hid (HB.out.trans (kz.mono HB.out.size))
          clear kz
          go_wp2_with fail
          refine (HAW.out _).mono ?_
          rintro e w15 ⟨rfl, kz⟩
          replace XN := Lib.hid (XN.out.below XN.out.lt kz)
          replace NN := Lib.hid (NN.out.below kz)
          replace Np := Lib.hid (Np.out.below kz)
          replace Xp := Lib.hid (Xp.out.below Xp.out.lt kz)
          replace Nt := Lib.hid (Nt.out.below kz)
          replace Xt := Lib.hid (Xt.out.below Xt.out.lt kz)
          replace MR := Lib.hid (MR.out.far kz)
          replace MM := Lib.hid (MM.out.far kz)
          replace NT := Lib.hid (NT.out.below kz)
          replace HB := Lib.hid (HB.out.trans (kz.mono HB.out.size))
          clear kz
          go_wp2_with fail
          go_ret
          exact ⟨rfl, HB.out⟩
  · refine (all_no l NN.out hok).mono ?_
    rintro e w2 ⟨rfl, k2⟩
    go_wp2_with fail
    refine (HAW.out _).mono ?_
    rintro e w3 ⟨rfl, k3⟩
    go_wp2_with fail
    go_ret
    exact ⟨rfl, HB.out.trans ((k2.trans (k3.mono k2.size)).mono HB.out.size)⟩

end Go.Proofs.Ytllopocekegljaa.No
