/- Layer 12: the walk of the statement NodeCut. (Written by bin/gen_nou.py.) -/
import Derived.Test.YtllopocekegljaaNoY
import Derived.Lib.MinMax
import Derived.IntWalk
namespace Go.Proofs.Ytllopocekegljaa.No
open Go.RowKit Go.Proofs.Ytllopocekegljaa.Oct Go.Proofs.Ytllopocekegljaa.Lf Go.Proofs.Ytllopocekegljaa.Mv Go.Maps Go.ChangeMaps
set_option linter.unusedVariables false
set_option linter.unusedSimpArgs false

theorem cutR_no {l : Bool} {ks vs : List UInt64} {x y : UInt64} (h : ¬ (Ok l ks vs ∧ l = true)) : cutR l ks vs x y = (zn, [], 30) := by unfold cutR; rw [if_neg h]
theorem wpList_append_run_g {P : Program} (w : World) {ops : Array Oper} {rest : List Oper} {o : Oper} {a : Act} {Q : Exit → Act → World → Prop} (hgd : Region.wanted o (yielded ops a.tmps) = true) (s x : Operand) (t tn : TypeId)
    (ho : o.op = .call { callee := .builtin .append, args := #[s, x], argTypes := #[t, tn] }) (vs vx : Value) (hs : a.eval s = vs) (hx : a.eval x = vx)
    (v' : Value) (w' : World) (hr : (Builtin.append_ #[t, tn] o.type #[vs, vx]).run P w = .ok v' w') (h : wpList P ops Q rest (a.put o.dst v') w') : wpList P ops Q (o :: rest) a w :=
  wpList_step fun K hK => by rw [if_pos hgd]; exact Lib.wp_append_run w s x t tn ho vs vx hs hx v' w' hr (hK _ _ h)
theorem num_xor (p q : Nat) (hp : p < 18446744073709551616) (hq : q < 18446744073709551616) : bits .xor .u64 (p : Int) (q : Int) = ((p ^^^ q : Nat) : Int) := u64_xor_nat p q hp hq
theorem xor_lt {p q : Nat} (hp : p < 18446744073709551616) (hq : q < 18446744073709551616) : p ^^^ q < 18446744073709551616 := Nat.xor_lt_two_pow (n := 64) hp hq
theorem xor_four (a b c lo hi : UInt64) (m : Nat) (h : a.toNat ^^^ b.toNat ^^^ c.toNat ^^^ lo.toNat ^^^ hi.toNat = m) : bits .xor .u64 (bits .xor .u64 (bits .xor .u64 (bits .xor .u64 (a.toNat : Int) (b.toNat : Int)) (c.toNat : Int)) (lo.toNat : Int)) (hi.toNat : Int) = (m : Int) := by
  have ha := u64_lt a
  have hb := u64_lt b
  have hc := u64_lt c
  have hl := u64_lt lo
  have hh := u64_lt hi
  rw [num_xor _ _ ha hb, num_xor _ _ (xor_lt ha hb) hc, num_xor _ _ (xor_lt (xor_lt ha hb) hc) hl, num_xor _ _ (xor_lt (xor_lt (xor_lt ha hb) hc) hl) hh, h]

set_option maxRecDepth 100000 in
set_option maxHeartbeats 8000000 in
theorem cut_walk (haw : ∀ w : World, Calls Try.prog 9 #[] w fun e w' => e = .returned (.bool true) ∧ Below w.heap.size w w') (l : Bool) {w : World} {A B : Option Addr} {n c m d : Nat} {ks vs : List UInt64} (h : Nd w A n c B m d ks vs) (x y z : UInt64) :
    Calls Try.prog 7 #[.agg #[.bool l, .slice A n c, .slice B m d], .int .u64 (x.toNat : Int), .int .u64 (y.toNat : Int), .int .u64 (z.toNat : Int)] w fun e w' => e = .returned (.bool true) ∧ Below w.heap.size w w' := by
  have HB := Lib.hid (show Below w.heap.size w (w.alloc (.cells #[.bool l, .slice A n c, .slice B m d] 24)) from (Below.refl w.heap.size w).alloc (Nat.le_refl _) (.cells #[.bool l, .slice A n c, .slice B m d] 24))
  have XN := Lib.hid (show BoxD (w.alloc (.cells #[.bool l, .slice A n c, .slice B m d] 24)) w.heap.size (.agg #[.bool l, .slice A n c, .slice B m d]) from box_d w _ _ _)
  have NN := Lib.hid (h.below HB.out)
  have kl := h.kl
  have hz := node_zero
  have HAW := Lib.hid haw
  clear h haw
  go_enter Try.func7, Try.ntmps7
  go_wp2_with fail
  generalize w.alloc (.cells #[.bool l, .slice A n c, .slice B m d] 24) = w1 at *
  by_cases hok : Ok l ks vs
  · skip
    obtain rfl : m = n := by rw [← NN.out.vl, ← kl]; exact hok.2.1
    have h7 := hok.1
    have HK := Lib.hid hok
    refine (all_yes l NN.out hok).mono ?_
    rintro e w2 ⟨bm, rfl, MM, hbm, kz⟩
    replace XN := Lib.hid (XN.out.below XN.out.lt kz)
    replace NN := Lib.hid (NN.out.below kz)
    replace HB := Lib.hid (HB.out.trans (kz.mono HB.out.size))
    clear kz
    clear hok hbm
    replace MM := Lib.hid MM
    have q0 := XN.out.of.cellAt (i := 0) rfl
    cases l
    · skip
      have hno : ¬ (Ok false ks vs ∧ false = true) := fun h => by cases h.2
      go_wp2_with (first | (refine wpList_load_d rfl (.tmp 4) rfl w.heap.size _ rfl XN.out ?_))
      refine (cut_any false NN.out x y (zn, [], 30) (cutR_no hno).symm).mono ?_
      rintro e w3 ⟨u, g, rfl, Ou, _, kz⟩
      replace XN := Lib.hid (XN.out.below XN.out.lt kz)
      replace NN := Lib.hid (NN.out.below kz)
      replace MM := Lib.hid (MM.out.far kz)
      replace HB := Lib.hid (HB.out.trans (kz.mono HB.out.size))
      clear kz
      replace Ou := Lib.hid Ou
      go_upto_region 4 with (first | (refine wpList_store_d rfl (.tmp 11) (.tmp 50) rfl w3.heap.size _ _ zeroD _ _ _ rfl rfl (box_d w3 (.bool false) (.slice none 0 0) (.slice none 0 0)) (Ou.out.at ((Below.refl w3.heap.size w3).alloc (Nat.le_refl _) (.cells #[.bool false, .slice none 0 0, .slice none 0 0] 24))) ?_; intro cs HC))
      have kv := ((Below.refl w3.heap.size w3).alloc (Nat.le_refl _) (.cells #[.bool false, .slice none 0 0, .slice none 0 0] 24)).trans (row_below cs (Nat.le_refl _))
      have Xu := Lib.hid HC
      clear HC
      obtain ⟨ru, hru⟩ : ∃ r, r = w3.heap.size := ⟨_, rfl⟩
      generalize (w3.alloc (.cells #[.bool false, .slice none 0 0, .slice none 0 0] 24)).setRow w3.heap.size cs = w4 at *
      replace XN := Lib.hid (XN.out.below XN.out.lt kv)
      replace NN := Lib.hid (NN.out.below kv)
      replace MM := Lib.hid (MM.out.far kv)
      replace Ou := Lib.hid (Ou.out.at kv)
      replace HB := Lib.hid (HB.out.trans (kv.mono HB.out.size))
      rw [← hru] at Xu ⊢
      clear kv hru
      go_wp2_with fail
      refine (HAW.out _).mono ?_
      rintro e w5 ⟨rfl, kz⟩
      replace XN := Lib.hid (XN.out.below XN.out.lt kz)
      replace NN := Lib.hid (NN.out.below kz)
      replace MM := Lib.hid (MM.out.far kz)
      replace Ou := Lib.hid (Ou.out.at kz)
      replace Xu := Lib.hid (Xu.out.below Xu.out.lt kz)
      replace HB := Lib.hid (HB.out.trans (kz.mono HB.out.size))
      clear kz
      go_wp2_with fail
      go_ret
      exact ⟨rfl, HB.out⟩
    · skip
      obtain ⟨lo, mid, hi, o1, o2, hmin, hmax, hxor, _⟩ := in_order x y z
      have hx4 := xor_four x y z lo hi _ hxor
      have HMIN := Lib.hid hmin
      have HMAX := Lib.hid hmax
      have HX4 := Lib.hid hx4
      clear hmin hmax hxor hx4
      go_upto_region 6 with (fail)
      rw [HMIN.out, HMAX.out]
      clear HMIN HMAX q0
      go_upto_region 7 with (fail)
      rw [HX4.out]
      clear HX4
      obtain ⟨P, M, N, S, PV, MV, NV, SV, e1, e2, lp, lm, ln, ls, gp, gm, gn, gs⟩ := around_rg HK.out lo.toNat mid.toNat hi.toNat o1 o2
      have hlen : P.length + M.length + (N.length + S.length) = m := by have := kl; rw [e1] at this; simp only [List.length_append] at this; exact this
      have HKR := Lib.hid (show Ok true (P ++ M ++ (N ++ S)) (PV ++ MV ++ (NV ++ SV)) from by rw [← e1, ← e2]; exact HK.out)
      have G1 := Lib.hid (show Rg lo.toNat mid.toNat P M (N ++ S) from ⟨gp, gm, fun x hx => by rcases List.mem_append.1 hx with h | h; exact (gn x h).1; have := gs x h; omega⟩)
      have HKP := Lib.hid (ok_sub HKR.out lp lm)
      have HL1 := Lib.hid e1
      have HL2 := Lib.hid e2
      have GG := Lib.hid (And.intro gp (And.intro gm (And.intro gn gs)))
      clear e1 e2 gp gm gn gs
      go_wp2_with (first | (refine wpList_load_d rfl (.tmp 4) rfl w.heap.size _ rfl XN.out ?_))
      refine (cut_any true NN.out lo mid ((true, P ++ (N ++ S), PV ++ (NV ++ SV)), MV, 0) (by rw [HL1.out, HL2.out]; exact (cutR_rg HKR.out lp lm G1.out (by omega)).symm)).mono ?_
      rintro e w3 ⟨u, g, rfl, Ou, Og, kz⟩
      replace XN := Lib.hid (XN.out.below XN.out.lt kz)
      replace NN := Lib.hid (NN.out.below kz)
      replace MM := Lib.hid (MM.out.far kz)
      replace HB := Lib.hid (HB.out.trans (kz.mono HB.out.size))
      clear kz
      obtain ⟨Au, cu, Bu, du, rfl, Nu⟩ := Ou.ex (n := (P.length + (N.length + S.length))) (m := (P.length + (N.length + S.length))) (by simp) (by simp; omega)
      obtain ⟨Ag, cg, rfl, tg, lg1, lg2⟩ := Og.slice
      rw [lm] at lg1 ⊢
      replace Ou := Lib.hid Ou
      replace Nu := Lib.hid Nu
      have TG := Lib.hid (show Nd w3 Ag M.length cg Ag M.length cg MV MV from ⟨lm, lm, lg1, lg2, lg1, lg2, tg, tg⟩)
      clear Og tg
      go_upto_region 8 with (first | (refine wpList_store_d rfl (.tmp 17) (.tmp 80) rfl w3.heap.size _ _ zeroD _ _ _ rfl rfl (box_d w3 (.bool false) (.slice none 0 0) (.slice none 0 0)) (Ou.out.at ((Below.refl w3.heap.size w3).alloc (Nat.le_refl _) (.cells #[.bool false, .slice none 0 0, .slice none 0 0] 24))) ?_; intro cs HC))
      have kv := ((Below.refl w3.heap.size w3).alloc (Nat.le_refl _) (.cells #[.bool false, .slice none 0 0, .slice none 0 0] 24)).trans (row_below cs (Nat.le_refl _))
      have Xu := Lib.hid HC
      clear HC
      obtain ⟨ru, hru⟩ : ∃ r, r = w3.heap.size := ⟨_, rfl⟩
      generalize (w3.alloc (.cells #[.bool false, .slice none 0 0, .slice none 0 0] 24)).setRow w3.heap.size cs = w4 at *
      replace XN := Lib.hid (XN.out.below XN.out.lt kv)
      replace NN := Lib.hid (NN.out.below kv)
      replace MM := Lib.hid (MM.out.far kv)
      replace Ou := Lib.hid (Ou.out.at kv)
      replace Nu := Lib.hid (Nu.out.below kv)
      replace TG := Lib.hid (TG.out.below kv)
      replace HB := Lib.hid (HB.out.trans (kv.mono HB.out.size))
      rw [← hru] at Xu ⊢
      clear kv hru
      clear Ou
      go_wp2_with (first | (refine wpList_load_d rfl (.tmp 17) rfl ru _ rfl Xu.out ?_))
      refine (all_yes true Nu.out HKP.out).mono ?_
      rintro e w5 ⟨bq, rfl, MQ, _, kz⟩
      replace XN := Lib.hid (XN.out.below XN.out.lt kz)
      replace NN := Lib.hid (NN.out.below kz)
      replace MM := Lib.hid (MM.out.far kz)
      replace Nu := Lib.hid (Nu.out.below kz)
      replace TG := Lib.hid (TG.out.below kz)
      replace Xu := Lib.hid (Xu.out.below Xu.out.lt kz)
      replace HB := Lib.hid (HB.out.trans (kz.mono HB.out.size))
      clear kz
      replace MQ := Lib.hid MQ
      obtain ⟨DM, hownM, hvM⟩ := MM.out
      obtain ⟨DQ, hownQ, hvQ⟩ := MQ.out
      have hl1 := fun ty => hownM.len Try.underlying45 ty
      have hl2 := fun ty => hownQ.len Try.underlying45 ty
      rw [hvM.size] at hl1
      rw [hvQ.size] at hl2
      have hne : (((M.length : Int) + (((P.length + (N.length + S.length) : Nat) : Int) : Int)) != (m : Int)) = false := by rw [show ((M.length : Int) + ((P.length + (N.length + S.length) : Nat) : Int)) = (m : Int) by omega]; simp
      have hne2 : (((M.length : Int) + ((P.length : Int) + ((N.length : Int) + (S.length : Int)))) != (m : Int)) = false := by rw [show ((M.length : Int) + ((P.length : Int) + ((N.length : Int) + (S.length : Int)))) = (m : Int) by omega]; simp
      have c1 := XN.out.of.cellAt (i := 1) rfl
      clear hownM hvM hownQ hvQ
      go_wp2_with fail
      clear hl1 hl2 hne hne2 c1
      obtain ⟨wS, hwS⟩ : ∃ x, x = w5 := ⟨_, rfl⟩
      subst hwS
      go_loopw [22, 107] (fun i j wr => ∃ q : Nat, q ≤ m ∧ j = .int .i64 (q : Int) ∧ i = .int .i64 ((min (q - P.length) M.length : Nat) : Int) ∧ Hid (Still wS wr)) (fun i j _ => m - (Go.RowKit.intOf j).toNat)
      case atStart => exact ⟨0, Nat.zero_le _, rfl, by simp, Lib.hid ⟨rfl, rfl, rfl, rfl⟩⟩
      case round =>
        obtain ⟨q, hq, rfl, rfl, HS⟩ := hrel
        by_cases hlt : q < m
        · skip
          obtain ⟨bk, ok, rfl, hK⟩ := NN.out.ks.has (by omega)
          obtain ⟨bv, ov, rfl, hV⟩ := NN.out.vs.has (by rw [NN.out.vl]; omega)
          have hqk : q < ks.length := by omega
          have hqv : q < vs.length := by rw [NN.out.vl]; omega
          have ck := (HS.out.cell _).trans (hK q hqk)
          have cv := (HS.out.cell _).trans (hV q hqv)
          obtain ⟨kq, hkq⟩ : ∃ a, a = ks[q] := ⟨_, rfl⟩
          obtain ⟨vq, hvq⟩ : ∃ a, a = vs[q] := ⟨_, rfl⟩
          rw [← hkq] at ck
          rw [← hvq] at cv
          have cN := (HS.out.cell _).trans (XN.out.of.cellAt (i := 2) rfl)
          have wkq := num_wf kq
          obtain ⟨D, hown, hview⟩ := MQ.out.far (HS.out.below _)
          have hhas : Maps.has D (.int .u64 (kq.toNat : Int)) = decide (kq ∈ P ++ (N ++ S)) := by
            have h1 := hview.hasKey kq
            rw [look_some HKP.out.2.1] at h1
            exact h1
          clear hK hV hview
          have hsplit : ks[q] = (P ++ M ++ (N ++ S))[q]'(by rw [← HL1.out]; exact hqk) := by simp only [HL1.out]
          have hsplitv : vs[q] = (PV ++ MV ++ (NV ++ SV))[q]'(by rw [← HL2.out]; exact hqv) := by simp only [HL2.out]
          rw [hsplit] at hkq
          rw [hsplitv] at hvq
          clear hsplit hsplitv
          by_cases hA : q < P.length
          · skip
            have hin : kq ∈ P := by rw [hkq, List.getElem_append_left (by simp only [List.length_append]; omega), List.getElem_append_left hA]; exact List.getElem_mem hA
            have hhas2 : Maps.has D (.int .u64 (kq.toNat : Int)) = true := by rw [hhas]; exact decide_eq_true (List.mem_append_left _ hin)
            have hk1 : ¬ ((lo.toNat : Int) ≤ (kq.toNat : Int)) := by have := GG.out.1 kq hin; omega
            clear hhas hkq hvq
            go_wp2_with (first | (at_lookup; refine wpList_lookup_own_ok_int _ rfl _ _ 45 rfl 25 25 .u64 keysU Try.underlying45 Try.underlying25 (zeroU _) bq (P.length + (N.length + S.length)) D rfl hown _ _ rfl (keyOf_int_mk Try.underlying25 wkq) ?_; intro cc _ _; rw [hhas2]))
            go_roundw
            case rel => exact ⟨q + 1, by omega, by go_num, by rw [show min (q + 1 - P.length) M.length = min (q - P.length) M.length by omega], Lib.hid ⟨HS.out.os, HS.out.tape, HS.out.output, HS.out.heap⟩⟩
            case measure => simp [Go.RowKit.intOf]; omega
          · skip
            by_cases hB : q < P.length + M.length
            · skip
              have hin : kq ∈ M := by rw [hkq, List.getElem_append_left (by simp only [List.length_append]; omega), List.getElem_append_right (by omega)]; exact List.getElem_mem _
              have gm := GG.out.2.1 kq hin
              have hnot : kq ∉ P ++ (N ++ S) := fun h => by
                rcases List.mem_append.1 h with h | h
                · have := GG.out.1 kq h; omega
                · rcases List.mem_append.1 h with h | h
                  · have := (GG.out.2.2.1 kq h).1; omega
                  · have := GG.out.2.2.2 kq h; omega
              have hhas2 : Maps.has D (.int .u64 (kq.toNat : Int)) = false := by rw [hhas]; exact decide_eq_false hnot
              have hk1 : (lo.toNat : Int) ≤ (kq.toNat : Int) := by omega
              have hk2 : (kq.toNat : Int) ≤ (mid.toNat : Int) := by omega
              have hmn : min (q - P.length) M.length = q - P.length := by omega
              have hi1 : q - P.length < M.length := by omega
              obtain ⟨iq, hiq⟩ : ∃ a, a = q - P.length := ⟨_, rfl⟩
              rw [hmn, ← hiq]
              rw [← hiq] at hi1
              have HIQ := Lib.hid (And.intro hiq hmn)
              clear hmn
              obtain ⟨bg, og, rfl, hG⟩ := TG.out.ks.has (by rw [lm]; omega)
              have cg1 := (HS.out.cell _).trans (hG iq (by rw [lm]; exact hi1))
              have hval : MV[iq]'(by rw [lm]; exact hi1) = vq := by
                rw [hvq, List.getElem_append_left (by simp only [List.length_append]; omega), List.getElem_append_right (by omega)]
                congr 1
                omega
              rw [hval] at cg1
              have hvv : ((vq.toNat : Int) != (vq.toNat : Int)) = false := by simp
              have hii : ((iq : Int) == (M.length : Int)) = false := by rw [beq_eq_false_iff_ne]; omega
              have hii2 : (iq == M.length) = false := by rw [beq_eq_false_iff_ne]; omega
              have hii3 : ¬ iq = M.length := by omega
              have hi3 : (iq : Int) < (M.length : Int) := by omega
              have hq3 : (q : Int) < (m : Int) := by omega
              clear hhas hkq hvq hG hval hiq
              go_wp2_with (first | (at_lookup; refine wpList_lookup_own_ok_int _ rfl _ _ 45 rfl 25 25 .u64 keysU Try.underlying45 Try.underlying25 (zeroU _) bq (P.length + (N.length + S.length)) D rfl hown _ _ rfl (keyOf_int_mk Try.underlying25 wkq) ?_; intro cc _ _; rw [hhas2]))
              go_region
              go_wp2_with fail
              obtain ⟨hiq, hmn⟩ := HIQ.out
              go_roundw
              case rel => exact ⟨q + 1, by omega, by go_num, by rw [show min (q + 1 - P.length) M.length = iq + 1 by omega]; go_num, Lib.hid ⟨HS.out.os, HS.out.tape, HS.out.output, HS.out.heap⟩⟩
              case measure => simp [Go.RowKit.intOf]; omega
            · skip
              have hin : kq ∈ N ++ S := by rw [hkq, List.getElem_append_right (by simp only [List.length_append]; omega)]; exact List.getElem_mem _
              have gmid : mid.toNat < kq.toNat := by
                rcases List.mem_append.1 hin with h | h
                · exact (GG.out.2.2.1 kq h).1
                · have := GG.out.2.2.2 kq h; omega
              have hhas2 : Maps.has D (.int .u64 (kq.toNat : Int)) = true := by rw [hhas]; exact decide_eq_true (List.mem_append_right _ hin)
              have hk1 : (lo.toNat : Int) ≤ (kq.toNat : Int) := by omega
              have hk2 : ¬ ((kq.toNat : Int) ≤ (mid.toNat : Int)) := by omega
              clear hhas hkq hvq
              go_wp2_with (first | (at_lookup; refine wpList_lookup_own_ok_int _ rfl _ _ 45 rfl 25 25 .u64 keysU Try.underlying45 Try.underlying25 (zeroU _) bq (P.length + (N.length + S.length)) D rfl hown _ _ rfl (keyOf_int_mk Try.underlying25 wkq) ?_; intro cc _ _; rw [hhas2]))
              go_roundw
              case rel => exact ⟨q + 1, by omega, by go_num, by rw [show min (q + 1 - P.length) M.length = min (q - P.length) M.length by omega], Lib.hid ⟨HS.out.os, HS.out.tape, HS.out.output, HS.out.heap⟩⟩
              case measure => simp [Go.RowKit.intOf]; omega
        · skip
          obtain rfl : q = m := by omega
          have kz := HS.out.below wS.heap.size
          replace XN := Lib.hid (XN.out.below XN.out.lt kz)
          replace NN := Lib.hid (NN.out.below kz)
          replace MM := Lib.hid (MM.out.far kz)
          replace Nu := Lib.hid (Nu.out.below kz)
          replace TG := Lib.hid (TG.out.below kz)
          replace Xu := Lib.hid (Xu.out.below Xu.out.lt kz)
          replace MQ := Lib.hid (MQ.out.far kz)
          replace HB := Lib.hid (HB.out.trans (kz.mono HB.out.size))
          clear kz HS MM MQ
          have wS' := wr
          by_cases hmh : mid = hi
          · skip
            have hmb : ((mid.toNat : Int) == (hi.toNat : Int)) = true := by rw [hmh]; simp
            go_wp2_with fail
            refine (HAW.out _).mono ?_
            rintro e w6 ⟨rfl, kz⟩
            replace XN := Lib.hid (XN.out.below XN.out.lt kz)
            replace NN := Lib.hid (NN.out.below kz)
            replace Nu := Lib.hid (Nu.out.below kz)
            replace TG := Lib.hid (TG.out.below kz)
            replace Xu := Lib.hid (Xu.out.below Xu.out.lt kz)
            replace HB := Lib.hid (HB.out.trans (kz.mono HB.out.size))
            clear kz
            go_wp2_with fail
            go_ret
            exact ⟨rfl, HB.out⟩
          · skip
            have hml : mid.toNat < hi.toNat := by rcases Nat.lt_or_ge mid.toNat hi.toNat with h | h; exact h; exact absurd (UInt64.toNat_inj.1 (by omega)) hmh
            have hmb : ((mid.toNat : Int) == (hi.toNat : Int)) = false := by rw [beq_eq_false_iff_ne]; omega
            have hi64 := u64_lt hi
            obtain ⟨m1, hm1⟩ : ∃ a : UInt64, a.toNat = mid.toNat + 1 := ⟨UInt64.ofNat (mid.toNat + 1), by simp; omega⟩
            have hadd : (mid.toNat : Int) + 1 = (m1.toNat : Int) := by omega
            have hwr : IntKind.u64.wrap (m1.toNat : Int) = (m1.toNat : Int) := IntWalk.u64_in _ (by have := u64_lt m1; omega)
            have ht2 : cutR true (P ++ N ++ S) (PV ++ NV ++ SV) m1 hi = ((true, P ++ S, PV ++ SV), NV, 0) := cutR_rg (by rw [List.append_assoc, List.append_assoc]; exact HKP.out) lp ln ⟨fun x hx => by have := GG.out.1 x hx; omega, fun x hx => by have := GG.out.2.2.1 x hx; omega, GG.out.2.2.2⟩ (by omega)
            rw [List.append_assoc, List.append_assoc] at ht2
            have ht3 : cutR true ks vs lo hi = ((true, P ++ S, PV ++ SV), MV ++ NV, 0) := by
              have h := cutR_rg (lo := lo) (hi := hi) (P := P) (M := M ++ N) (S := S) (PV := PV) (MV := MV ++ NV) (SV := SV) (by rw [List.append_assoc P, List.append_assoc M, ← List.append_assoc P, List.append_assoc PV, List.append_assoc MV, ← List.append_assoc PV]; exact HKR.out) lp (by simp only [List.length_append]; omega) ⟨GG.out.1, fun x hx => by rcases List.mem_append.1 hx with h | h; have := GG.out.2.1 x h; omega; have := GG.out.2.2.1 x h; omega, GG.out.2.2.2⟩ (by omega)
              rw [HL1.out, HL2.out, ← h]
              simp only [List.append_assoc]
            have HT2 := Lib.hid ht2
            have HT3 := Lib.hid ht3
            clear hm1 ht2 ht3 hi64
            go_wp2_with (first | (refine wpList_load_d rfl (.tmp 17) rfl ru _ rfl Xu.out ?_))
            refine (cut_any true Nu.out m1 hi _ HT2.out.symm).mono ?_
            rintro e w6 ⟨u2, g2, rfl, Ov, Og, kz⟩
            replace XN := Lib.hid (XN.out.below XN.out.lt kz)
            replace NN := Lib.hid (NN.out.below kz)
            replace Nu := Lib.hid (Nu.out.below kz)
            replace TG := Lib.hid (TG.out.below kz)
            replace Xu := Lib.hid (Xu.out.below Xu.out.lt kz)
            replace HB := Lib.hid (HB.out.trans (kz.mono HB.out.size))
            clear kz
            obtain ⟨Av, cv, Bv, dv, rfl, Nv⟩ := Ov.ex (n := (P.length + S.length)) (m := (P.length + S.length)) (by simp) (by simp; omega)
            obtain ⟨Ah, ch, rfl, tg, lg1, lg2⟩ := Og.slice
            rw [ln] at lg1 ⊢
            replace Ov := Lib.hid Ov
            replace Nv := Lib.hid Nv
            have TH := Lib.hid (show Nd w6 Ah N.length ch Ah N.length ch NV NV from ⟨ln, ln, lg1, lg2, lg1, lg2, tg, tg⟩)
            clear Og tg lg1 lg2
            go_upto_region 26 with (first | (refine wpList_store_d rfl (.tmp 27) (.tmp 159) rfl w6.heap.size _ _ zeroD _ _ _ rfl rfl (box_d w6 (.bool false) (.slice none 0 0) (.slice none 0 0)) (Ov.out.at ((Below.refl w6.heap.size w6).alloc (Nat.le_refl _) (.cells #[.bool false, .slice none 0 0, .slice none 0 0] 24))) ?_; intro cs HC))
            have kv := ((Below.refl w6.heap.size w6).alloc (Nat.le_refl _) (.cells #[.bool false, .slice none 0 0, .slice none 0 0] 24)).trans (row_below cs (Nat.le_refl _))
            have Xv := Lib.hid HC
            clear HC
            obtain ⟨rv, hrv⟩ : ∃ r, r = w6.heap.size := ⟨_, rfl⟩
            generalize (w6.alloc (.cells #[.bool false, .slice none 0 0, .slice none 0 0] 24)).setRow w6.heap.size cs = w7 at *
            replace XN := Lib.hid (XN.out.below XN.out.lt kv)
            replace NN := Lib.hid (NN.out.below kv)
            replace Nu := Lib.hid (Nu.out.below kv)
            replace TG := Lib.hid (TG.out.below kv)
            replace Xu := Lib.hid (Xu.out.below Xu.out.lt kv)
            replace Ov := Lib.hid (Ov.out.at kv)
            replace Nv := Lib.hid (Nv.out.below kv)
            replace TH := Lib.hid (TH.out.below kv)
            replace HB := Lib.hid (HB.out.trans (kv.mono HB.out.size))
            rw [← hrv] at Xv ⊢
            clear kv hrv
            clear Ov
            go_wp2_with (first | (refine wpList_load_d rfl (.tmp 4) rfl w.heap.size _ rfl XN.out ?_))
            refine (cut_any true NN.out lo hi _ HT3.out.symm).mono ?_
            rintro e w8 ⟨u3, g3, rfl, Oz, Og, kz⟩
            replace XN := Lib.hid (XN.out.below XN.out.lt kz)
            replace NN := Lib.hid (NN.out.below kz)
            replace Nu := Lib.hid (Nu.out.below kz)
            replace TG := Lib.hid (TG.out.below kz)
            replace Xu := Lib.hid (Xu.out.below Xu.out.lt kz)
            replace Nv := Lib.hid (Nv.out.below kz)
            replace TH := Lib.hid (TH.out.below kz)
            replace Xv := Lib.hid (Xv.out.below Xv.out.lt kz)
            replace HB := Lib.hid (HB.out.trans (kz.mono HB.out.size))
            clear kz
            obtain ⟨Az, cz, Bz, dz, rfl, Nz⟩ := Oz.ex (n := (P.length + S.length)) (m := (P.length + S.length)) (by simp) (by simp; omega)
            obtain ⟨Ai, ci, rfl, tg, lg1, lg2⟩ := Og.slice
            have hmn : (MV ++ NV).length = M.length + N.length := by simp only [List.length_append]; omega
            rw [hmn] at lg1 ⊢
            replace Oz := Lib.hid Oz
            replace Nz := Lib.hid Nz
            have TI := Lib.hid (show Nd w8 Ai (M.length + N.length) ci Ai (M.length + N.length) ci (MV ++ NV) (MV ++ NV) from ⟨hmn, hmn, lg1, lg2, lg1, lg2, tg, tg⟩)
            clear Og tg lg1 lg2
            go_upto_region 27 with (first | (refine wpList_store_d rfl (.tmp 30) (.tmp 167) rfl w8.heap.size _ _ zeroD _ _ _ rfl rfl (box_d w8 (.bool false) (.slice none 0 0) (.slice none 0 0)) (Oz.out.at ((Below.refl w8.heap.size w8).alloc (Nat.le_refl _) (.cells #[.bool false, .slice none 0 0, .slice none 0 0] 24))) ?_; intro cs HC))
            have kv := ((Below.refl w8.heap.size w8).alloc (Nat.le_refl _) (.cells #[.bool false, .slice none 0 0, .slice none 0 0] 24)).trans (row_below cs (Nat.le_refl _))
            have Xz := Lib.hid HC
            clear HC
            obtain ⟨rz, hrz⟩ : ∃ r, r = w8.heap.size := ⟨_, rfl⟩
            generalize (w8.alloc (.cells #[.bool false, .slice none 0 0, .slice none 0 0] 24)).setRow w8.heap.size cs = w9 at *
            replace XN := Lib.hid (XN.out.below XN.out.lt kv)
            replace NN := Lib.hid (NN.out.below kv)
            replace Nu := Lib.hid (Nu.out.below kv)
            replace TG := Lib.hid (TG.out.below kv)
            replace Xu := Lib.hid (Xu.out.below Xu.out.lt kv)
            replace Nv := Lib.hid (Nv.out.below kv)
            replace TH := Lib.hid (TH.out.below kv)
            replace Xv := Lib.hid (Xv.out.below Xv.out.lt kv)
            replace Oz := Lib.hid (Oz.out.at kv)
            replace Nz := Lib.hid (Nz.out.below kv)
            replace TI := Lib.hid (TI.out.below kv)
            replace HB := Lib.hid (HB.out.trans (kv.mono HB.out.size))
            rw [← hrz] at Xz ⊢
            clear kv hrz
            clear Oz
            have y0 := Xv.out.of.cellAt (i := 0) rfl
            have z0 := Xz.out.of.cellAt (i := 0) rfl
            have y1 := Xv.out.of.cellAt (i := 1) rfl
            have z1 := Xz.out.of.cellAt (i := 1) rfl
            have y2 := Xv.out.of.cellAt (i := 2) rfl
            have z2 := Xz.out.of.cellAt (i := 2) rfl
            go_wp2_with fail
            clear y0 y1 y2 z0 z1 z2
            refine (same_yes true Nv.out Nz.out).mono ?_
            rintro e w10 ⟨rfl, kz⟩
            replace XN := Lib.hid (XN.out.below XN.out.lt kz)
            replace NN := Lib.hid (NN.out.below kz)
            replace Nu := Lib.hid (Nu.out.below kz)
            replace TG := Lib.hid (TG.out.below kz)
            replace Xu := Lib.hid (Xu.out.below Xu.out.lt kz)
            replace Nv := Lib.hid (Nv.out.below kz)
            replace TH := Lib.hid (TH.out.below kz)
            replace Xv := Lib.hid (Xv.out.below Xv.out.lt kz)
            replace Nz := Lib.hid (Nz.out.below kz)
            replace TI := Lib.hid (TI.out.below kz)
            replace Xz := Lib.hid (Xz.out.below Xz.out.lt kz)
            replace HB := Lib.hid (HB.out.trans (kz.mono HB.out.size))
            clear kz
            have q1 := (Below.refl w10.heap.size w10).alloc (Nat.le_refl _) (.cells #[] 25)
            have own0 : OwnN (w10.alloc (.cells #[] 25)) w10.heap.size (.slice (some ⟨w10.heap.size, 0, none⟩) 0 0) [] := World.ownsRow_made w10 #[] 0 (Nat.le_refl _) (Nat.zero_le _) rfl
            obtain ⟨v1, wa, hrun1, o1', g1', _⟩ := run_append_any _ w10.heap.size 22 _ _ own0 Ag M.length cg MV lm (TG.out.ks.below q1) (by simp) (by simp; omega)
            have k1 := q1.trans (own_below own0 (by simp) g1')
            obtain ⟨v2, wb, hrun2, o2', g2', _⟩ := run_append_any wa w10.heap.size 22 _ _ o1' Ah N.length ch NV ln (TH.out.ks.below k1) k1.size (by simp; omega)
            have k2 := k1.trans (own_below o1' k1.size g2')
            obtain ⟨Aw, cw, rfl, tw, lw1, lw2⟩ := o2'.slice
            rw [List.nil_append] at tw lw1 hrun2
            rw [hmn] at lw1 hrun2
            have HTW := Lib.hid tw
            have HK2 := Lib.hid k2
            clear tw k1 k2 q1 own0 o1' g1' o2' g2'
            go_wp2_with (first | (at_builtin; refine wpList_append_run_g _ (by rfl) (.tmp 182) (.tmp 183) 22 22 rfl _ _ rfl rfl _ _ hrun1 ?_) | (at_builtin; refine wpList_append_run_g _ (by rfl) (.tmp 184) (.tmp 185) 22 22 rfl _ _ rfl rfl _ _ hrun2 ?_))
            refine (numbers_any Aw Ai (M.length + N.length) (M.length + N.length) cw ci (MV ++ NV) (MV ++ NV) hmn hmn wb (Nat.le_trans lw1 lw2) (Nat.le_trans lw1 lw2) HTW.out (TI.out.ks.below HK2.out)).mono ?_
            rintro e w90 ⟨rfl, s9⟩
            rw [decide_eq_true rfl]
            have K9 := Lib.hid (HK2.out.trans (s9.below _))
            clear s9
            go_wp2_with fail
            refine (HAW.out _).mono ?_
            rintro e w91 ⟨rfl, k91⟩
            go_wp2_with fail
            go_ret
            exact ⟨rfl, HB.out.trans ((K9.out.trans (k91.mono K9.out.size)).mono HB.out.size)⟩
  · refine (all_no l NN.out hok).mono ?_
    rintro e w2 ⟨rfl, k2⟩
    replace XN := Lib.hid (XN.out.below XN.out.lt k2)
    replace NN := Lib.hid (NN.out.below k2)
    replace HB := Lib.hid (HB.out.trans (k2.mono HB.out.size))
    have hno : ¬ (Ok l ks vs ∧ l = true) := fun h => hok h.1
    clear k2 hok
    go_wp2_with (first | (refine wpList_load_d rfl (.tmp 4) rfl w.heap.size _ rfl XN.out ?_))
    refine (cut_any l NN.out x y (zn, [], 30) (cutR_no hno).symm).mono ?_
    rintro e w3 ⟨u, g, rfl, Ou, _, kz⟩
    replace XN := Lib.hid (XN.out.below XN.out.lt kz)
    replace NN := Lib.hid (NN.out.below kz)
    replace HB := Lib.hid (HB.out.trans (kz.mono HB.out.size))
    clear kz
    replace Ou := Lib.hid Ou
    go_upto_region 4 with (first | (refine wpList_store_d rfl (.tmp 11) (.tmp 50) rfl w3.heap.size _ _ zeroD _ _ _ rfl rfl (box_d w3 (.bool false) (.slice none 0 0) (.slice none 0 0)) (Ou.out.at ((Below.refl w3.heap.size w3).alloc (Nat.le_refl _) (.cells #[.bool false, .slice none 0 0, .slice none 0 0] 24))) ?_; intro cs HC))
    have kv := ((Below.refl w3.heap.size w3).alloc (Nat.le_refl _) (.cells #[.bool false, .slice none 0 0, .slice none 0 0] 24)).trans (row_below cs (Nat.le_refl _))
    have Xu := Lib.hid HC
    clear HC
    obtain ⟨ru, hru⟩ : ∃ r, r = w3.heap.size := ⟨_, rfl⟩
    generalize (w3.alloc (.cells #[.bool false, .slice none 0 0, .slice none 0 0] 24)).setRow w3.heap.size cs = w4 at *
    replace XN := Lib.hid (XN.out.below XN.out.lt kv)
    replace NN := Lib.hid (NN.out.below kv)
    replace Ou := Lib.hid (Ou.out.at kv)
    replace HB := Lib.hid (HB.out.trans (kv.mono HB.out.size))
    rw [← hru] at Xu ⊢
    clear kv hru
    go_wp2_with fail
    refine (HAW.out _).mono ?_
    rintro e w5 ⟨rfl, kz⟩
    replace XN := Lib.hid (XN.out.below XN.out.lt kz)
    replace NN := Lib.hid (NN.out.below kz)
    replace Ou := Lib.hid (Ou.out.at kz)
    replace Xu := Lib.hid (Xu.out.below Xu.out.lt kz)
    replace HB := Lib.hid (HB.out.trans (kz.mono HB.out.size))
    clear kz
    go_wp2_with fail
    go_ret
    exact ⟨rfl, HB.out⟩

end Go.Proofs.Ytllopocekegljaa.No
