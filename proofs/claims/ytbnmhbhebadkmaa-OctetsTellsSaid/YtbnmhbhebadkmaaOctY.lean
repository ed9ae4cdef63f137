/- The walk of the statement OctetsSums: whatever the bytes and the place, it answers true and writes nothing that was there. -/
import Derived.Test.YtbnmhbhebadkmaaOctX
namespace Go.Proofs.Ytbnmhbhebadkmaa.Oct
open Go.RowKit
set_option linter.unusedVariables false

theorem nat_of {k : IntKind} {n : Int} (h : 0 ≤ n) : ∃ m : Nat, n = (m : Int) := ⟨n.toNat, by omega⟩
theorem u16_wf {n : Int} (h : (Lit.int .u16 n).wf = true) : 0 ≤ n ∧ n ≤ 65535 := by
  have h2 : IntKind.u16.min ≤ n ∧ n ≤ IntKind.u16.max := by simpa [Lit.wf] using h
  exact h2

/-- Another byte: that one, and 1 to 255 more. -/
def otherByte (c d : UInt8) : UInt8 := UInt8.ofNat ((c.toNat + (1 + d.toNat % 255)) % 256)
theorem otherByte_toNat (c d : UInt8) : (otherByte c d).toNat = (c.toNat + (1 + d.toNat % 255)) % 256 := by simp [otherByte]
theorem otherByte_ne (c d : UInt8) : otherByte c d ≠ c := fun h => by
  have h2 : (otherByte c d).toNat = c.toNat := by rw [h]
  rw [otherByte_toNat] at h2
  have := u8_lt c
  have := u8_lt d
  omega

theorem Has.at {w : World} {b o i : Nat} {bs : List UInt8} {c : UInt8} (h : Has w b o bs) (hi : bs[i]? = some c) : w.cell? ⟨b, o + i, none⟩ = some (.int .u8 (c.toNat : Int)) := by
  obtain ⟨h1, rfl⟩ := List.getElem?_eq_some_iff.1 hi
  exact h i h1
theorem Has.at0 {w : World} {b i : Nat} {bs : List UInt8} {c : UInt8} (h : Has w b 0 bs) (hi : bs[i]? = some c) : w.cell? ⟨b, i, none⟩ = some (.int .u8 (c.toNat : Int)) := by
  have := h.at hi
  rwa [Nat.zero_add] at this
theorem Free.at0 {w : World} {b i n : Nat} (h : Free w b 0 n) (hi : i < n) : w.frozen? ⟨b, i, none⟩ = false := by
  have := h i hi
  rwa [Nat.zero_add] at this
theorem Has.set0 {w : World} {b i : Nat} {bs : List UInt8} (h : Has w b 0 bs) (hi : i < bs.length) (v : Int) (c : UInt8) (hv : v = (c.toNat : Int)) : Has (w.setCell ⟨b, i, none⟩ (.int .u8 v)) b 0 (bs.set i c) := by
  subst hv
  have := h.set i hi c
  rwa [Nat.zero_add] at this
theorem otherByte_int (c d : UInt8) : ((c.toNat : Int) + (1 + (d.toNat : Int) % 255)) % 256 = ((otherByte c d).toNat : Int) := by rw [otherByte_toNat]; simp
theorem sum_swapped {bs : List UInt8} {r : Nat} {c f : UInt8} (h0 : bs[r]? = some c) (h1 : bs[r + 1]? = some f) (hne : ¬ c = f) : ((sum ((bs.set r f).set (r + 1) c) : Int) != (sum bs : Int)) = true := by
  obtain ⟨k1, rfl⟩ := List.getElem?_eq_some_iff.1 h0
  obtain ⟨k2, rfl⟩ := List.getElem?_eq_some_iff.1 h1
  have e1 : bs = bs.take r ++ bs[r] :: bs[r + 1] :: bs.drop (r + 2) := by
    rw [List.getElem_cons_drop, List.getElem_cons_drop, List.take_append_drop]
  have e2 : (bs.set r bs[r + 1]).set (r + 1) bs[r] = bs.take r ++ bs[r + 1] :: bs[r] :: bs.drop (r + 2) := by
    rw [set_split _ (r + 1) (by rw [List.length_set]; exact k2), List.drop_set_of_lt (by omega), set_split _ r k1]
    rw [List.take_append, List.length_take, show min r bs.length = r by omega, List.take_of_length_le (by rw [List.length_take]; omega)]
    rw [show r + 1 - r = 1 by omega, List.take_succ_cons, List.take_zero, List.append_assoc]
    rfl
  rw [bne_iff_ne, e2]
  intro e
  have e' : sum (bs.take r ++ bs[r + 1] :: bs[r] :: bs.drop (r + 2)) = sum bs := by omega
  rw [show sum bs = sum (bs.take r ++ bs[r] :: bs[r + 1] :: bs.drop (r + 2)) by rw [← e1]] at e'
  exact hne (sum_swap _ _ _ _ e').symm
theorem sum_set_ne {bs : List UInt8} {r : Nat} {c c' : UInt8} (h : bs[r]? = some c) (hne : c' ≠ c) : ((sum (bs.set r c') : Int) == (sum bs : Int)) = false := by
  obtain ⟨h1, rfl⟩ := List.getElem?_eq_some_iff.1 h
  have h2 := sum_set bs r h1 c' hne
  rw [beq_eq_false_iff_ne]
  omega

set_option maxRecDepth 100000 in
set_option maxHeartbeats 1000000 in
theorem sums_walk (a0 : Option Addr) (len0 cap0 : Nat) (z0 : List Int) (a1 : Int) (a2 : Int) (w : World) (w0 : IsRow .u8 w a0 len0 cap0 z0) (w1 : (Lit.int .u16 a1).wf = true) (w2 : (Lit.int .u8 a2).wf = true) :
    Calls Try.prog 7 #[.slice a0 len0 cap0, .int .u16 a1, .int .u8 a2] w fun e w' => e = .returned (.bool true) ∧ Below w.heap.size w w' := by
  obtain ⟨bs, hc⟩ := came w0
  have hlen := hc.hlen
  have hmax : len0 ≤ 9223372036854775807 := by have := hc.le; have := hc.hcap; unfold maxLen at this; omega
  have ha := u16_wf w1
  obtain ⟨d, rfl⟩ := u8_of w2
  have hd := u8_lt d
  have HC := Lib.hid hc
  clear w0 w1 w2 hc
  by_cases h0 : len0 = 0
  · have ht : ((len0 : Int) == 0) = true := by rw [h0]; rfl
    have HL := Lib.hid hlen
    have H0 := Lib.hid h0
    clear hlen h0
    go_enter Try.func7, Try.ntmps7
    go_wp2_with (go_at_call 9; refine (awake_any _).mono ?_; rintro e w' ⟨rfl, hb⟩)
    go_ret
    exact ⟨rfl, hb⟩
  · have ht : ((len0 : Int) == 0) = false := by rw [beq_eq_false_iff_ne]; omega
    by_cases h3 : 300 < len0
    · have HL := Lib.hid hlen
      clear hlen
      go_enter Try.func7, Try.ntmps7
      go_wp2_with (go_at_call 9; refine (awake_any _).mono ?_; rintro e w' ⟨rfl, hb⟩)
      go_ret
      exact ⟨rfl, hb⟩
    · obtain ⟨b, o, rfl, hb, hlt⟩ := HC.out.old (by intro h; subst h; simp at hlen; omega)
      obtain ⟨r, hr⟩ : ∃ r : Nat, a1 % (len0 : Int) = (r : Int) := ⟨(a1 % (len0 : Int)).toNat, by have := Int.emod_nonneg a1 (show (len0 : Int) ≠ 0 by omega); omega⟩
      have hr2 : r < len0 := by
        have := Int.emod_lt_of_pos a1 (show (0 : Int) < (len0 : Int) by omega)
        omega
      obtain ⟨c, hcr⟩ : ∃ c, bs[r]? = some c := ⟨_, List.getElem?_eq_getElem (by omega)⟩
      have hsum := sum_set_ne hcr (otherByte_ne c d)
      have HCR := Lib.hid hcr
      have hs1 := sum_lt bs
      have hs2 := sum_lt (bs.set r (otherByte c d))
      have hu := u8_lt c
      have HB := Lib.hid hb
      have HL := Lib.hid hlen
      clear hlen hb hcr
      go_enter Try.func7, Try.ntmps7
      go_wp2_with fail
      refine (sum_len b o len0 cap0 bs HL.out _ (by unfold maxLen; omega) HB.out).mono ?_
      rintro e w' ⟨rfl, rfl⟩
      go_wp2_with fail
      refine (again_len _ len0 cap0 bs HL.out _ (by unfold maxLen; omega) HB.out.told).mono ?_
      rintro e w1 ⟨g, c1, rfl, F1⟩
      have hc1 := F1.cap
      unfold maxLen at hc1
      have hl1 := F1.len
      rw [HL.out] at hl1
      have gb : b < g := Nat.lt_of_lt_of_le hlt F1.lo
      have cell1 := F1.has.at0 HCR.out
      have frz1 := F1.free.at0 (i := r) (by rw [HL.out]; exact hr2)
      have H2 := F1.has.set0 (i := r) (by rw [HL.out]; exact hr2) _ _ (otherByte_int c d)
      have B2 := F1.below.setCell (p := ⟨g, r, none⟩) F1.lo (.int .u8 (((c.toNat : Int) + (1 + (d.toNat : Int) % 255)) % 256))
      go_wp2_with fail
      refine (sum_len g 0 len0 c1 _ (by rw [List.length_set, HL.out]) _ (by unfold maxLen; omega) H2).mono ?_
      rintro e w' ⟨rfl, rfl⟩
      generalize w1.setCell ⟨g, r, none⟩ (.int .u8 (((c.toNat : Int) + (1 + (d.toNat : Int) % 255)) % 256)) = w2 at *
      have b0 := (B2.cell (p := ⟨b, o + r, none⟩) hlt).trans (HB.out.at HCR.out)
      clear cell1 frz1 F1 H2
      by_cases hend : r + 1 = len0
      · have hq : ((r : Int) + 1 == (len0 : Int)) = true := by rw [beq_iff_eq]; omega
        have HE := Lib.hid hend
        clear hend
        go_wp2_with fail
        go_quiet (fail)
        go_wp2_with fail
        refine (awake_any _).mono ?_
        rintro e w3 ⟨rfl, hb⟩
        have B3 := ((B2.trans ((Still.drewN w2 nq).below _))).trans (hb.mono (Nat.le_trans B2.size ((Still.drewN w2 nq).below 0).size))
        go_wp2_with fail
        go_ret
        exact ⟨rfl, B3⟩
      · have hq : ((r : Int) + 1 == (len0 : Int)) = false := by rw [beq_eq_false_iff_ne]; omega
        have hr3 : r + 1 < len0 := by omega
        obtain ⟨f, hfr⟩ : ∃ f, bs[r + 1]? = some f := ⟨_, List.getElem?_eq_getElem (by rw [HL.out]; exact hr3)⟩
        have HFR := Lib.hid hfr
        have b1 := (B2.cell (p := ⟨b, o + (r + 1), none⟩) hlt).trans (HB.out.at HFR.out)
        clear hend hfr
        by_cases hcf : c = f
        · subst hcf
          go_wp2_with fail
          go_quiet (fail)
          go_wp2_with fail
          refine (awake_any _).mono ?_
          rintro e w3 ⟨rfl, hb⟩
          have B3 := ((B2.trans ((Still.drewN w2 nq).below _))).trans (hb.mono (Nat.le_trans B2.size ((Still.drewN w2 nq).below 0).size))
          go_wp2_with fail
          go_ret
          exact ⟨rfl, B3⟩
        · have hcf2 : ((c.toNat : Int) == (f.toNat : Int)) = false := by
            rw [beq_eq_false_iff_ne]
            exact fun e => hcf (UInt8.toNat_inj.1 (by omega))
          have HCF := Lib.hid hcf
          clear hcf
          go_wp2_with fail
          go_quiet (fail)
          have S3 := Still.drewN w2 nq
          generalize w2.drewN nq = w3 at *
          have B3 := B2.trans (S3.below _)
          have HB3 : Has w3 b o bs := HB.out.below hlt B3
          have hb3 := Nat.lt_of_lt_of_le hlt B3.size
          go_wp2_with fail
          refine (again_len _ len0 cap0 bs HL.out _ (by unfold maxLen; omega) HB3.told).mono ?_
          rintro e w4 ⟨t, c4, rfl, F4⟩
          have hc4 := F4.cap
          unfold maxLen at hc4
          have hl4 := F4.len
          rw [HL.out] at hl4
          have B4 := B3.trans (F4.below.mono B3.size)
          have wt : w.heap.size ≤ t := Nat.le_trans B3.size F4.lo
          have bt : b < t := Nat.lt_of_lt_of_le hlt wt
          have d0 := (B4.cell (p := ⟨b, o + r, none⟩) hlt).trans (HB.out.at HCR.out)
          have d1 := (B4.cell (p := ⟨b, o + (r + 1), none⟩) hlt).trans (HB.out.at HFR.out)
          have t0 := F4.has.at0 HCR.out
          have t1 := F4.has.at0 HFR.out
          have z0 := F4.free.at0 (i := r) (by rw [HL.out]; omega)
          have z1 := F4.free.at0 (i := r + 1) (by rw [HL.out]; omega)
          have H5 := (F4.has.set0 (i := r) (by rw [HL.out]; omega) _ f rfl).set0 (i := r + 1) (by rw [List.length_set, HL.out]; omega) _ c rfl
          have B5 := (B4.setCell (p := ⟨t, r, none⟩) wt (.int .u8 (f.toNat : Int))).setCell (p := ⟨t, r + 1, none⟩) wt (.int .u8 (c.toNat : Int))
          have HF := Lib.hid F4
          have hsw := sum_swapped HCR.out HFR.out HCF.out
          have hs5 := sum_lt ((bs.set r f).set (r + 1) c)
          have HH5 := Lib.hid H5
          have HB5 := Lib.hid B5
          clear b0 b1 F4 HB3 S3 B3 B2 hsum hs2 H5 B5
          go_wp2_with fail
          go_region
          have H6 := HH5.out.still (Still.drewN _ 1)
          have B6 := HB5.out.trans ((Still.drewN _ 1).below _)
          clear d0 d1 t0 t1 z0 z1 HH5 HB5
          go_wp2_with fail
          refine (sum_len t 0 len0 c4 _ (by rw [List.length_set, List.length_set, HL.out]) _ (by unfold maxLen; omega) H6).mono ?_
          rintro e w' ⟨rfl, rfl⟩
          go_wp2_with fail
          refine (awake_any _).mono ?_
          rintro e w7 ⟨rfl, hb⟩
          have B7 := B6.trans (hb.mono B6.size)
          go_wp2_with fail
          go_ret
          exact ⟨rfl, B7⟩
end Go.Proofs.Ytbnmhbhebadkmaa.Oct
