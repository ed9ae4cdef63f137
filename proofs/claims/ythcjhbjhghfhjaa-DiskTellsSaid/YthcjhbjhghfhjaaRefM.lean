/- Carried: an operation done by the program's disk and by the reference's. (Written by bin/gen_carried.py.) -/
import Derived.Test.YthcjhbjhghfhjaaRefL
import Derived.Test.YthcjhbjhghfhjaaInv2
namespace Go.Proofs.Ythcjhbjhghfhjaa.Dsk
open Go.RowKit Go.Proofs.Ythcjhbjhghfhjaa.Oct
set_option linter.unusedVariables false

theorem keep_rq' {w w' : World} {base q : Nat} {cs : Array Value} (h : w.heap[q]? = some (.cells cs 37 (0, 0))) (hb : Turned dr base w w') : w'.heap[q]? = some (.cells cs 37 (0, 0)) :=
  (hb.block q (Array.getElem?_eq_some_iff.1 h).1 (.inr fun cs t fr hc => by rw [h] at hc; cases hc; rfl)).trans h
theorem told_read {w : World} {A : Option Addr} {bs : List UInt8} (h : bs ≠ [] → ∃ g, A = some ⟨g, 0, none⟩ ∧ Row w g bs) : Oct.Told w A bs := by
  by_cases e : bs = []
  · exact .inl e
  · obtain ⟨g, rfl, R⟩ := h e
    exact R.has.told
theorem conv_run {w : World} {A : Option Addr} {n : Nat} {bs : List UInt8} (hl : bs.length = n) (h : Oct.Told w A bs) (c : Nat) : (convert 33 9 (.slice A n c)).run Try.prog w = .ok (.string ⟨bs.toArray⟩) w := by
  subst hl
  exact conv_told (P := Try.prog) h c 33 9 5 Try.underlying33 Try.underlying5 Try.underlying9
def CarPost (w : World) (base a rb k : Nat) (e : Ending) (w' : World) : Prop := e = .returned (.bool true) ∧ (∃ s' r', Both w' base a rb s' r' (k + 1)) ∧ Turned dr base w w'
set_option maxRecDepth 100000 in
set_option maxHeartbeats 8000000 in
theorem carried_any {w : World} {base p rb k : Nat} {s : St} {r : Rf} (h : Both w base p rb s r k) (hk : k ≤ 1000) (what : UInt8) (place : Int) (hpl : place ≤ 9223372036854775807) (A : Option Addr) (len cap : Nat) (bs : List UInt8) (hl : bs.length = len) (hlen : len ≤ maxLen) (hb : ∀ w', Turned dr base w w' → Oct.Told w' A bs)
    (KA : Option Addr) (kl kc : Nat) (ks : List Bool) (torn cut : Int) (hkl : ks.length = kl) (hkm : kl ≤ maxLen) (hf : ∀ w', Turned dr base w w' → Flags w' KA ks) (hka : ks = [] ∨ ∀ x, KA = some x → x.block < base) (hbw : base ≤ w.heap.size) :
    Calls Try.prog 13 #[.pointer (some ⟨p, 0, none⟩), .pointer (some ⟨rb, 0, none⟩), .int .u8 (what.toNat : Int), .int .i64 place, .slice A len cap, .agg #[.slice KA kl kc, .int .i64 torn, .int .i64 cut]] w (CarPost w base p rb k) := by
  have b1 := (Below.refl w.heap.size w).alloc (Nat.le_refl _) (.cells #[.slice KA kl kc, .int .i64 torn, .int .i64 cut] 37)
  have HBO := Lib.hid (h.below b1)
  have HT := Lib.hid (Turned.of_below (T := dr) (base := base) b1)
  have HTD := Lib.hid hb
  have HFL := Lib.hid hf
  have HQ := Lib.hid (heap_alloc_new w (.cells #[.slice KA kl kc, .int .i64 torn, .int .i64 cut] 37))
  have HKA := Lib.hid hka
  have HLN := Lib.hid hl
  have HBW := Lib.hid (show base ≤ (w.alloc (.cells #[.slice KA kl kc, .int .i64 torn, .int .i64 cut] 37)).heap.size from Nat.le_trans hbw b1.size)
  have hwl := u8_lt what
  obtain ⟨q, hq⟩ : ∃ q, q = w.heap.size := ⟨_, rfl⟩
  have HQB := Lib.hid (show base ≤ q by rw [hq]; exact hbw)
  rw [← hq] at HQ
  unfold maxLen at hlen
  have HWF := Lib.hid (⟨HBO.out.waits.1, HBO.out.waits.2, HBO.out.few⟩ : s.W.length ≤ k ∧ r.waits.length ≤ k ∧ r.many ≤ k)
  clear h b1 hb hf hka hl hbw
  go_enter Try.func13, Try.ntmps13
  go_upto_region 1 with (fail)
  rw [← hq]
  generalize w.alloc (.cells #[.slice KA kl kc, .int .i64 torn, .int .i64 cut] 37) = w1 at *
  clear hq
  obtain ⟨m, hm⟩ : ∃ m, what.toNat % 5 = m := ⟨_, rfl⟩
  have hmt : (what.toNat : Int).tmod 5 = (m : Int) := by rw [Int.tmod_eq_emod_of_nonneg (by omega)]; omega
  have hme : (what.toNat : Int) % 5 = (m : Int) := by omega
  have hm5 : m = 0 ∨ m = 1 ∨ m = 2 ∨ m = 3 ∨ m = 4 := by omega
  clear hm
  rcases hm5 with rfl | rfl | rfl | rfl | rfl
  · skip
    obtain ⟨en, s', r', hg⟩ := HBO.out.write place bs
    go_upto_region 3 with (fail)
    refine Inv2.wp_region_inv (fun b a wy => ∃ z12 z21 z22 z23 z24 z25 z26 z27 z28 z29 z30, a = ⟨(List.toArray (Value.pointer (some { block := p, off := 0 }) :: Value.pointer (some { block := rb, off := 0 }) :: Value.int IntKind.u8 ↑what.toNat :: Value.int IntKind.i64 place :: Value.slice A len cap :: Value.agg #[Value.slice KA kl kc, Value.int IntKind.i64 torn, Value.int IntKind.i64 cut] :: undef :: undef :: undef :: undef :: undef :: Value.pointer (some { block := q, off := 0 }) :: z12 :: undef :: undef :: undef :: undef :: Value.int IntKind.u8 ↑what.toNat :: Value.int IntKind.u8 0 :: Value.bool true :: Value.bool true :: z21 :: z22 :: z23 :: z24 :: z25 :: z26 :: z27 :: z28 :: z29 :: z30 :: undef :: undef :: undef :: undef :: undef :: undef :: undef :: undef :: undef :: undef :: undef :: undef :: undef :: undef :: undef :: undef :: undef :: undef :: undef :: undef :: undef :: undef :: undef :: undef :: undef :: undef :: undef :: undef :: undef :: undef :: undef :: undef :: undef :: undef :: undef :: undef :: undef :: undef :: undef :: undef :: undef :: undef :: undef :: undef :: undef :: undef :: [])), []⟩ ∧ Hid ((b 0 = true → z21 = Value.pointer (some { block := p, off := 0 })) ∧ (b 1 = true → z22 = Value.int IntKind.i64 place) ∧ (b 2 = true → z23 = Value.slice A len cap) ∧ (b 3 = true → z24 = .int .i64 en) ∧ (b 4 = true → z25 = Value.pointer (some { block := rb, off := 0 })) ∧ (b 5 = true → z26 = Value.int IntKind.i64 place) ∧ (b 6 = true → z27 = Value.slice A len cap) ∧ (b 7 = true → z28 = .string ⟨bs.toArray⟩) ∧ (b 8 = true → z29 = .int .i64 en) ∧ (b 9 = true → z30 = .bool true) ∧ (b 10 = true → z12 = .bool true)) ∧ Hid (Below base w1 wy) ∧ Hid ((b 3 = false → Is wy base p s) ∧ (b 3 = true → Is wy base p s') ∧ (b 8 = false → RIs wy base rb r) ∧ (b 8 = true → RIs wy base rb r') ∧ Turned dr base w1 wy)) (by kernel_rfl) (by kernel_rfl) ?startR3 ?stepsR3 ?doneR3
    case startR3 =>
      intro b hb
      refine ⟨Value.bool false, undef, undef, undef, undef, undef, undef, undef, undef, undef, undef, rfl, Lib.hid ⟨?_, ?_, ?_, ?_, ?_, ?_, ?_, ?_, ?_, ?_, ?_⟩, Lib.hid ((show Still w1 w1.drew from ⟨rfl, rfl, rfl, rfl⟩).below _), Lib.hid (⟨fun _ => HBO.out.is.below ((show Still w1 w1.drew from ⟨rfl, rfl, rfl, rfl⟩).below _), fun e => (by rw [hb _ (by decide)] at e; cases e), fun _ => HBO.out.ris.below ((show Still w1 w1.drew from ⟨rfl, rfl, rfl, rfl⟩).below _), fun e => (by rw [hb _ (by decide)] at e; cases e), Turned.of_below ((show Still w1 w1.drew from ⟨rfl, rfl, rfl, rfl⟩).below _)⟩)⟩
      all_goals (intro e; first | rfl | (rw [hb _ (by decide)] at e; cases e))
    case stepsR3 =>
      refine ⟨?_, ?_, ?_, ?_, ?_, ?_, ?_, ?_, ?_, ?_, ?_, trivial⟩
      · rintro b a wy hb hd ⟨z12, z21, z22, z23, z24, z25, z26, z27, z28, z29, z30, rfl, HV, HW, HX⟩ K hK
        obtain ⟨h0, h1, h2, h3, h4, h5, h6, h7, h8, h9, h10⟩ := HV.out
        clear hd
        go_simp
        exact hK _ _ ⟨_, _, _, _, _, _, _, _, _, _, _, rfl, Lib.hid ⟨fun _ => rfl, h1, h2, h3, h4, h5, h6, h7, h8, h9, h10⟩, HW, HX⟩
      · rintro b a wy hb hd ⟨z12, z21, z22, z23, z24, z25, z26, z27, z28, z29, z30, rfl, HV, HW, HX⟩ K hK
        obtain ⟨h0, h1, h2, h3, h4, h5, h6, h7, h8, h9, h10⟩ := HV.out
        clear hd
        go_simp
        exact hK _ _ ⟨_, _, _, _, _, _, _, _, _, _, _, rfl, Lib.hid ⟨h0, fun _ => rfl, h2, h3, h4, h5, h6, h7, h8, h9, h10⟩, HW, HX⟩
      · rintro b a wy hb hd ⟨z12, z21, z22, z23, z24, z25, z26, z27, z28, z29, z30, rfl, HV, HW, HX⟩ K hK
        obtain ⟨h0, h1, h2, h3, h4, h5, h6, h7, h8, h9, h10⟩ := HV.out
        clear hd
        go_simp
        exact hK _ _ ⟨_, _, _, _, _, _, _, _, _, _, _, rfl, Lib.hid ⟨h0, h1, fun _ => rfl, h3, h4, h5, h6, h7, h8, h9, h10⟩, HW, HX⟩
      · rintro b a wy hb hd ⟨z12, z21, z22, z23, z24, z25, z26, z27, z28, z29, z30, rfl, HV, HW, HX⟩ K hK
        obtain ⟨h0, h1, h2, h3, h4, h5, h6, h7, h8, h9, h10⟩ := HV.out
        simp [Region.binds] at hd
        obtain rfl := h0 (by simp [hd])
        obtain rfl := h1 (by simp [hd])
        obtain rfl := h2 (by simp [hd])
        clear hd
        obtain ⟨x0, x1, x2, x3, xt⟩ := HX.out
        go_simp
        go_at_call 25
        refine (dwrite (x0 hb) (by have := HWF.out.1; omega) place A len cap bs HLN.out (fun w' ht => HTD.out w' ((HT.out.trans xt).trans ht.d)) hg.d).mono ?_
        rintro e wz ⟨rfl, hi, kt⟩
        try go_simp
        exact hK _ _ ⟨_, _, _, _, _, _, _, _, _, _, _, rfl, Lib.hid ⟨h0, h1, h2, fun _ => rfl, h4, h5, h6, h7, h8, h9, h10⟩, Lib.hid (HW.out.trans (kt.below (Nat.le_trans HBW.out HW.out.size))), Lib.hid ⟨fun e => (by simp [Inv.mark] at e), fun _ => hi, fun e => (x2 e).other kt, fun e => (x3 e).other kt, xt.trans kt.d⟩⟩
      · rintro b a wy hb hd ⟨z12, z21, z22, z23, z24, z25, z26, z27, z28, z29, z30, rfl, HV, HW, HX⟩ K hK
        obtain ⟨h0, h1, h2, h3, h4, h5, h6, h7, h8, h9, h10⟩ := HV.out
        clear hd
        go_simp
        exact hK _ _ ⟨_, _, _, _, _, _, _, _, _, _, _, rfl, Lib.hid ⟨h0, h1, h2, h3, fun _ => rfl, h5, h6, h7, h8, h9, h10⟩, HW, HX⟩
      · rintro b a wy hb hd ⟨z12, z21, z22, z23, z24, z25, z26, z27, z28, z29, z30, rfl, HV, HW, HX⟩ K hK
        obtain ⟨h0, h1, h2, h3, h4, h5, h6, h7, h8, h9, h10⟩ := HV.out
        clear hd
        go_simp
        exact hK _ _ ⟨_, _, _, _, _, _, _, _, _, _, _, rfl, Lib.hid ⟨h0, h1, h2, h3, h4, fun _ => rfl, h6, h7, h8, h9, h10⟩, HW, HX⟩
      · rintro b a wy hb hd ⟨z12, z21, z22, z23, z24, z25, z26, z27, z28, z29, z30, rfl, HV, HW, HX⟩ K hK
        obtain ⟨h0, h1, h2, h3, h4, h5, h6, h7, h8, h9, h10⟩ := HV.out
        clear hd
        go_simp
        exact hK _ _ ⟨_, _, _, _, _, _, _, _, _, _, _, rfl, Lib.hid ⟨h0, h1, h2, h3, h4, h5, fun _ => rfl, h7, h8, h9, h10⟩, HW, HX⟩
      · rintro b a wy hb hd ⟨z12, z21, z22, z23, z24, z25, z26, z27, z28, z29, z30, rfl, HV, HW, HX⟩ K hK
        obtain ⟨h0, h1, h2, h3, h4, h5, h6, h7, h8, h9, h10⟩ := HV.out
        simp [Region.binds] at hd
        obtain rfl := h6 (by simp [hd])
        clear hd
        obtain ⟨x0, x1, x2, x3, xt⟩ := HX.out
        have hcv := conv_run HLN.out (HTD.out wy (HT.out.trans xt)) cap
        go_simp
        exact hK _ _ ⟨_, _, _, _, _, _, _, _, _, _, _, rfl, Lib.hid ⟨h0, h1, h2, h3, h4, h5, h6, fun _ => rfl, h8, h9, h10⟩, HW, HX⟩
      · rintro b a wy hb hd ⟨z12, z21, z22, z23, z24, z25, z26, z27, z28, z29, z30, rfl, HV, HW, HX⟩ K hK
        obtain ⟨h0, h1, h2, h3, h4, h5, h6, h7, h8, h9, h10⟩ := HV.out
        simp [Region.binds] at hd
        obtain rfl := h4 (by simp [hd])
        obtain rfl := h5 (by simp [hd])
        obtain rfl := h7 (by simp [hd])
        clear hd
        obtain ⟨x0, x1, x2, x3, xt⟩ := HX.out
        go_simp
        go_at_call 31
        refine (rwrite (x2 hb) (by have := HWF.out.2.1; omega) place bs (by rw [HLN.out]; omega) hg.f).mono ?_
        rintro e wz ⟨rfl, hi, kt⟩
        try go_simp
        exact hK _ _ ⟨_, _, _, _, _, _, _, _, _, _, _, rfl, Lib.hid ⟨h0, h1, h2, h3, h4, h5, h6, h7, fun _ => rfl, h9, h10⟩, Lib.hid (HW.out.trans (kt.below (Nat.le_trans HBW.out HW.out.size))), Lib.hid ⟨fun e => (x0 e).otherR kt, fun e => (x1 e).otherR kt, fun e => (by simp [Inv.mark] at e), fun _ => hi, xt.trans kt.r⟩⟩
      · rintro b a wy hb hd ⟨z12, z21, z22, z23, z24, z25, z26, z27, z28, z29, z30, rfl, HV, HW, HX⟩ K hK
        obtain ⟨h0, h1, h2, h3, h4, h5, h6, h7, h8, h9, h10⟩ := HV.out
        simp [Region.binds] at hd
        obtain rfl := h3 (by simp [hd])
        obtain rfl := h8 (by simp [hd])
        clear hd
        go_simp
        exact hK _ _ ⟨_, _, _, _, _, _, _, _, _, _, _, rfl, Lib.hid ⟨h0, h1, h2, h3, h4, h5, h6, h7, h8, fun _ => rfl, h10⟩, HW, HX⟩
      · rintro b a wy hb hd ⟨z12, z21, z22, z23, z24, z25, z26, z27, z28, z29, z30, rfl, HV, HW, HX⟩ K hK
        obtain ⟨h0, h1, h2, h3, h4, h5, h6, h7, h8, h9, h10⟩ := HV.out
        simp [Region.binds] at hd
        obtain rfl := h9 (by simp [hd])
        clear hd
        go_simp
        exact hK _ _ ⟨_, _, _, _, _, _, _, _, _, _, _, rfl, Lib.hid ⟨h0, h1, h2, h3, h4, h5, h6, h7, h8, h9, fun _ => rfl⟩, HW, HX⟩
    case doneR3 =>
      rintro b a wy hb ⟨z12, z21, z22, z23, z24, z25, z26, z27, z28, z29, z30, rfl, HV, HW, HX⟩
      obtain ⟨h0, h1, h2, h3, h4, h5, h6, h7, h8, h9, h10⟩ := HV.out
      obtain rfl := h0 (hb 0)
      obtain rfl := h1 (hb 1)
      obtain rfl := h2 (hb 2)
      obtain rfl := h3 (hb 3)
      obtain rfl := h4 (hb 4)
      obtain rfl := h5 (hb 5)
      obtain rfl := h6 (hb 6)
      obtain rfl := h7 (hb 7)
      obtain rfl := h8 (hb 8)
      obtain rfl := h9 (hb 9)
      obtain rfl := h10 (hb 10)
      clear HV h0 h1 h2 h3 h4 h5 h6 h7 h8 h9 h10
      obtain ⟨x0, x1, x2, x3, xt⟩ := HX.out
      have HI2 := Lib.hid (x1 (hb 3))
      have HR2 := Lib.hid (x3 (hb 8))
      have HT2 := Lib.hid (HT.out.trans xt)
      have HG := Lib.hid hg
      clear HX x0 x1 x2 x3 xt hb HW hg
      go_wp2_with fail
      go_ret
      exact ⟨rfl, ⟨s', r', HI2.out, HR2.out, HG.out.tie, HG.out.whole, HG.out.few⟩, HT2.out⟩
  · skip
    obtain ⟨en, s', r', hg⟩ := HBO.out.flush
    have HG := Lib.hid hg
    clear hg
    go_wp2_with fail
    refine (dflush HBO.out.is HG.out.d).mono ?_
    rintro e w2 ⟨rfl, hi, ht⟩
    have HI2 := Lib.hid hi
    have HR2 := Lib.hid (HBO.out.ris.other ht)
    have HT2 := Lib.hid (HT.out.trans ht.d)
    clear hi ht
    go_wp2_with fail
    refine (rflush HR2.out (by have := HWF.out.2.2; unfold Rf.many at this; omega) HG.out.f).mono ?_
    rintro e w3 ⟨rfl, hi, ht⟩
    have HI3 := Lib.hid (HI2.out.otherR ht)
    have HR3 := Lib.hid hi
    have HT3 := Lib.hid (HT2.out.trans ht.r)
    clear hi ht
    go_wp2_with fail
    go_ret
    exact ⟨rfl, ⟨s', r', HI3.out, HR3.out, HG.out.tie, HG.out.whole, HG.out.few⟩, HT3.out⟩
  · skip
    obtain ⟨en, s', r', hg⟩ := HBO.out.arm place
    have HG := Lib.hid hg
    clear hg
    go_wp2_with fail
    refine (darm HBO.out.is place hpl HG.out.d).mono ?_
    rintro e w2 ⟨rfl, hi, ht⟩
    have HI2 := Lib.hid hi
    have HR2 := Lib.hid (HBO.out.ris.other ht)
    have HT2 := Lib.hid (HT.out.trans ht.d)
    clear hi ht
    go_wp2_with fail
    refine (rarm HR2.out place hpl HG.out.f).mono ?_
    rintro e w3 ⟨rfl, hi, ht⟩
    have HI3 := Lib.hid (HI2.out.otherR ht)
    have HR3 := Lib.hid hi
    have HT3 := Lib.hid (HT2.out.trans ht.r)
    clear hi ht
    go_wp2_with fail
    go_ret
    exact ⟨rfl, ⟨s', r', HI3.out, HR3.out, HG.out.tie, HG.out.whole, HG.out.few⟩, HT3.out⟩
  · skip
    obtain ⟨en, s', r', hg⟩ := HBO.out.crash ks torn cut
    go_upto_region 9 with (fail)
    refine Inv2.wp_region_inv (fun b a wy => ∃ z12 z49 z50 z51 z52 z53 z54 z55, a = ⟨(List.toArray (Value.pointer (some { block := p, off := 0 }) :: Value.pointer (some { block := rb, off := 0 }) :: Value.int IntKind.u8 ↑what.toNat :: Value.int IntKind.i64 place :: Value.slice A len cap :: Value.agg #[Value.slice KA kl kc, Value.int IntKind.i64 torn, Value.int IntKind.i64 cut] :: undef :: undef :: undef :: undef :: undef :: Value.pointer (some { block := q, off := 0 }) :: z12 :: undef :: undef :: undef :: undef :: Value.int IntKind.u8 ↑what.toNat :: Value.int IntKind.u8 3 :: Value.bool false :: Value.bool false :: undef :: undef :: undef :: undef :: undef :: undef :: undef :: undef :: undef :: undef :: Value.bool false :: Value.bool false :: undef :: undef :: undef :: undef :: undef :: Value.bool false :: Value.bool false :: undef :: undef :: undef :: undef :: undef :: undef :: undef :: Value.bool true :: Value.bool true :: z49 :: z50 :: z51 :: z52 :: z53 :: z54 :: z55 :: undef :: undef :: undef :: undef :: undef :: undef :: undef :: undef :: undef :: undef :: undef :: undef :: undef :: undef :: undef :: undef :: undef :: undef :: undef :: undef :: undef :: [])), []⟩ ∧ Hid ((b 0 = true → z49 = Value.pointer (some { block := p, off := 0 })) ∧ (b 1 = true → z50 = .agg #[.slice KA kl kc, .int .i64 torn, .int .i64 cut]) ∧ (b 2 = true → z51 = .int .i64 en) ∧ (b 3 = true → z52 = Value.pointer (some { block := rb, off := 0 })) ∧ (b 4 = true → z53 = .agg #[.slice KA kl kc, .int .i64 torn, .int .i64 cut]) ∧ (b 5 = true → z54 = .int .i64 en) ∧ (b 6 = true → z55 = .bool true) ∧ (b 7 = true → z12 = .bool true)) ∧ Hid (Below base w1 wy) ∧ Hid ((b 2 = false → Is wy base p s) ∧ (b 2 = true → Is wy base p s') ∧ (b 5 = false → RIs wy base rb r) ∧ (b 5 = true → RIs wy base rb r') ∧ Turned dr base w1 wy)) (by kernel_rfl) (by kernel_rfl) ?startR9 ?stepsR9 ?doneR9
    case startR9 =>
      intro b hb
      refine ⟨Value.bool false, undef, undef, undef, undef, undef, undef, undef, rfl, Lib.hid ⟨?_, ?_, ?_, ?_, ?_, ?_, ?_, ?_⟩, Lib.hid ((show Still w1 w1.drew from ⟨rfl, rfl, rfl, rfl⟩).below _), Lib.hid (⟨fun _ => HBO.out.is.below ((show Still w1 w1.drew from ⟨rfl, rfl, rfl, rfl⟩).below _), fun e => (by rw [hb _ (by decide)] at e; cases e), fun _ => HBO.out.ris.below ((show Still w1 w1.drew from ⟨rfl, rfl, rfl, rfl⟩).below _), fun e => (by rw [hb _ (by decide)] at e; cases e), Turned.of_below ((show Still w1 w1.drew from ⟨rfl, rfl, rfl, rfl⟩).below _)⟩)⟩
      all_goals (intro e; first | rfl | (rw [hb _ (by decide)] at e; cases e))
    case stepsR9 =>
      refine ⟨?_, ?_, ?_, ?_, ?_, ?_, ?_, ?_, trivial⟩
      · rintro b a wy hb hd ⟨z12, z49, z50, z51, z52, z53, z54, z55, rfl, HV, HW, HX⟩ K hK
        obtain ⟨h0, h1, h2, h3, h4, h5, h6, h7⟩ := HV.out
        clear hd
        go_simp
        exact hK _ _ ⟨_, _, _, _, _, _, _, _, rfl, Lib.hid ⟨fun _ => rfl, h1, h2, h3, h4, h5, h6, h7⟩, HW, HX⟩
      · rintro b a wy hb hd ⟨z12, z49, z50, z51, z52, z53, z54, z55, rfl, HV, HW, HX⟩ K hK
        obtain ⟨h0, h1, h2, h3, h4, h5, h6, h7⟩ := HV.out
        clear hd
        obtain ⟨x0, x1, x2, x3, xt⟩ := HX.out
        have hcq := keep_rq' HQ.out xt
        refine if_wanted (by rfl) (wp_load_row 37 (.tmp 11) rfl q rfl _ #[.slice KA kl kc, .int .i64 torn, .int .i64 cut] _ _ (hcq) Try.underlying37 rfl (by kernel_rfl) ?_)
        exact hK _ _ ⟨_, _, _, _, _, _, _, _, rfl, Lib.hid ⟨h0, fun _ => rfl, h2, h3, h4, h5, h6, h7⟩, HW, HX⟩
      · rintro b a wy hb hd ⟨z12, z49, z50, z51, z52, z53, z54, z55, rfl, HV, HW, HX⟩ K hK
        obtain ⟨h0, h1, h2, h3, h4, h5, h6, h7⟩ := HV.out
        simp [Region.binds] at hd
        obtain rfl := h0 (by simp [hd])
        obtain rfl := h1 (by simp [hd])
        clear hd
        obtain ⟨x0, x1, x2, x3, xt⟩ := HX.out
        go_simp
        go_at_call 18
        refine (dcrash (x0 hb) KA kl kc ks hkl torn cut hkm (HFL.out wy (HT.out.trans xt)) (HKA.out.imp id fun f x hx => .inl (f x hx)) hg.d).mono ?_
        rintro e wz ⟨rfl, hi, kt⟩
        try go_simp
        exact hK _ _ ⟨_, _, _, _, _, _, _, _, rfl, Lib.hid ⟨h0, h1, fun _ => rfl, h3, h4, h5, h6, h7⟩, Lib.hid (HW.out.trans (kt.below (Nat.le_trans HBW.out HW.out.size))), Lib.hid ⟨fun e => (by simp [Inv.mark] at e), fun _ => hi, fun e => (x2 e).other kt, fun e => (x3 e).other kt, xt.trans kt.d⟩⟩
      · rintro b a wy hb hd ⟨z12, z49, z50, z51, z52, z53, z54, z55, rfl, HV, HW, HX⟩ K hK
        obtain ⟨h0, h1, h2, h3, h4, h5, h6, h7⟩ := HV.out
        clear hd
        go_simp
        exact hK _ _ ⟨_, _, _, _, _, _, _, _, rfl, Lib.hid ⟨h0, h1, h2, fun _ => rfl, h4, h5, h6, h7⟩, HW, HX⟩
      · rintro b a wy hb hd ⟨z12, z49, z50, z51, z52, z53, z54, z55, rfl, HV, HW, HX⟩ K hK
        obtain ⟨h0, h1, h2, h3, h4, h5, h6, h7⟩ := HV.out
        clear hd
        obtain ⟨x0, x1, x2, x3, xt⟩ := HX.out
        have hcq := keep_rq' HQ.out xt
        refine if_wanted (by rfl) (wp_load_row 37 (.tmp 11) rfl q rfl _ #[.slice KA kl kc, .int .i64 torn, .int .i64 cut] _ _ (hcq) Try.underlying37 rfl (by kernel_rfl) ?_)
        exact hK _ _ ⟨_, _, _, _, _, _, _, _, rfl, Lib.hid ⟨h0, h1, h2, h3, fun _ => rfl, h5, h6, h7⟩, HW, HX⟩
      · rintro b a wy hb hd ⟨z12, z49, z50, z51, z52, z53, z54, z55, rfl, HV, HW, HX⟩ K hK
        obtain ⟨h0, h1, h2, h3, h4, h5, h6, h7⟩ := HV.out
        simp [Region.binds] at hd
        obtain rfl := h3 (by simp [hd])
        obtain rfl := h4 (by simp [hd])
        clear hd
        obtain ⟨x0, x1, x2, x3, xt⟩ := HX.out
        go_simp
        go_at_call 34
        refine (rcrash (x2 hb) HBO.out.whole (by have := HWF.out.2.2; unfold Rf.many at this; omega) KA kl kc ks hkl torn cut hkm (HFL.out wy (HT.out.trans xt)) HKA.out hg.f).mono ?_
        rintro e wz ⟨rfl, hi, kt⟩
        try go_simp
        exact hK _ _ ⟨_, _, _, _, _, _, _, _, rfl, Lib.hid ⟨h0, h1, h2, h3, h4, fun _ => rfl, h6, h7⟩, Lib.hid (HW.out.trans (kt.below (Nat.le_trans HBW.out HW.out.size))), Lib.hid ⟨fun e => (x0 e).otherR kt, fun e => (x1 e).otherR kt, fun e => (by simp [Inv.mark] at e), fun _ => hi, xt.trans kt.r⟩⟩
      · rintro b a wy hb hd ⟨z12, z49, z50, z51, z52, z53, z54, z55, rfl, HV, HW, HX⟩ K hK
        obtain ⟨h0, h1, h2, h3, h4, h5, h6, h7⟩ := HV.out
        simp [Region.binds] at hd
        obtain rfl := h2 (by simp [hd])
        obtain rfl := h5 (by simp [hd])
        clear hd
        go_simp
        exact hK _ _ ⟨_, _, _, _, _, _, _, _, rfl, Lib.hid ⟨h0, h1, h2, h3, h4, h5, fun _ => rfl, h7⟩, HW, HX⟩
      · rintro b a wy hb hd ⟨z12, z49, z50, z51, z52, z53, z54, z55, rfl, HV, HW, HX⟩ K hK
        obtain ⟨h0, h1, h2, h3, h4, h5, h6, h7⟩ := HV.out
        simp [Region.binds] at hd
        obtain rfl := h6 (by simp [hd])
        clear hd
        go_simp
        exact hK _ _ ⟨_, _, _, _, _, _, _, _, rfl, Lib.hid ⟨h0, h1, h2, h3, h4, h5, h6, fun _ => rfl⟩, HW, HX⟩
    case doneR9 =>
      rintro b a wy hb ⟨z12, z49, z50, z51, z52, z53, z54, z55, rfl, HV, HW, HX⟩
      obtain ⟨h0, h1, h2, h3, h4, h5, h6, h7⟩ := HV.out
      obtain rfl := h0 (hb 0)
      obtain rfl := h1 (hb 1)
      obtain rfl := h2 (hb 2)
      obtain rfl := h3 (hb 3)
      obtain rfl := h4 (hb 4)
      obtain rfl := h5 (hb 5)
      obtain rfl := h6 (hb 6)
      obtain rfl := h7 (hb 7)
      clear HV h0 h1 h2 h3 h4 h5 h6 h7
      obtain ⟨x0, x1, x2, x3, xt⟩ := HX.out
      have HI2 := Lib.hid (x1 (hb 2))
      have HR2 := Lib.hid (x3 (hb 5))
      have HT2 := Lib.hid (HT.out.trans xt)
      have HG := Lib.hid hg
      clear HX x0 x1 x2 x3 xt hb HW hg
      go_wp2_with fail
      go_ret
      exact ⟨rfl, ⟨s', r', HI2.out, HR2.out, HG.out.tie, HG.out.whole, HG.out.few⟩, HT2.out⟩
  · skip
    have HRD := Lib.hid (HBO.out.tie.read place)
    go_wp2_with fail
    refine (read_is HBO.out.is place).mono ?_
    rintro e w2 ⟨B, c, rfl, hc1, hc2, hrow, bb⟩
    rw [HRD.out] at hrow hc1 ⊢
    have HTR := Lib.hid (told_read (w := w2) (fun e => let ⟨g, h1, h2, h3⟩ := hrow e; ⟨g, h1, h3⟩))
    have HB2 := Lib.hid (HBO.out.below bb)
    have HT2 := Lib.hid (HT.out.trans (Turned.of_below bb))
    clear hrow bb
    obtain ⟨cv, wv, hra⟩ := HB2.out.ris
    have HRA := Lib.hid hra
    clear hra
    go_wp2_with fail
    refine (rread_at HRA.out place).mono ?_
    rintro e w3 ⟨rfl, bb⟩
    have HB3 := Lib.hid (HB2.out.below bb)
    have HT3 := Lib.hid (HT2.out.trans (Turned.of_below bb))
    have hcv := conv_run (bs := (r.doRead place).2) rfl (told_any HTR.out bb) c
    clear bb HRA
    generalize (r.doRead place).1 = en
    generalize hbb : (r.doRead place).2 = bb at hcv hc1 ⊢
    unfold txt
    go_wp2_with fail
    go_ret
    exact ⟨rfl, ⟨s, r, HB3.out.is, HB3.out.ris, HB3.out.tie, HB3.out.whole, Nat.le_succ_of_le HB3.out.few⟩, HT3.out⟩
end Go.Proofs.Ythcjhbjhghfhjaa.Dsk
