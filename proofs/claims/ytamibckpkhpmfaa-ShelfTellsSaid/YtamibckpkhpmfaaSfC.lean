/- Contracts: shelf.alike. -/
import Derived.Test.YtamibckpkhpmfaaSfB
namespace Go.Proofs.Ytamibckpkhpmfaa.Sf
open Go.RowKit Go.Proofs.Ytamibckpkhpmfaa.Oct
set_option linter.unusedVariables false

theorem u64_xor (a b : UInt64) : bits BinOp.xor IntKind.u64 (a.toNat : Int) (b.toNat : Int) = ((a.toNat ^^^ b.toNat : Nat) : Int) := by
  have ha := u64_lt a
  have hb := u64_lt b
  have hx : a.toNat ^^^ b.toNat < 2 ^ 64 := Nat.xor_lt_two_pow (by omega) (by omega)
  have h1 : ∀ n : Nat, n < 18446744073709551616 → (BitVec.ofInt 64 (n : Int)).toNat = n := fun n hn => by
    rw [BitVec.ofInt_natCast, BitVec.toNat_ofNat]; exact Nat.mod_eq_of_lt (by omega)
  show IntKind.u64.wrap ((BitVec.ofInt 64 (a.toNat : Int) ^^^ BitVec.ofInt 64 (b.toNat : Int)).toNat : Int) = _
  rw [BitVec.toNat_xor, h1 _ ha, h1 _ hb, IntKind.wrap_u64]
  omega
theorem shift_test (a b : UInt64) (s : Nat) : (bits BinOp.xor IntKind.u64 (a.toNat : Int) (b.toNat : Int) / 2 ^ s != 0) = !(decide (a.toNat / 2 ^ s = b.toNat / 2 ^ s)) := by
  rw [u64_xor]
  have e : (((a.toNat ^^^ b.toNat : Nat) : Int) / 2 ^ s) = (((a.toNat ^^^ b.toNat) / 2 ^ s : Nat) : Int) := by simp
  have hx := xor_test a b s
  rw [e, Bool.eq_iff_iff, bne_iff_ne, Bool.not_eq_true', decide_eq_false_iff_not, ← hx]
  omega

set_option maxHeartbeats 400000 in
theorem alike_any {w : World} {A : Option Addr} {n c : Nat} {es : List Ent} (d : UInt8) (hd : d.toNat ≤ 64) (h : Sh w A n c es) :
    Calls Try.prog 32 #[.slice A n c, .int .u8 (d.toNat : Int)] w fun e w' => e = .returned (.bool (decide (Alike d.toNat es))) ∧ Below w.heap.size w w' := by
  have HD := Lib.hid h
  have HL := Lib.hid h.el
  have hn := Nat.le_trans h.kc h.km
  unfold maxLen at hn
  clear h
  generalize d.toNat = D at hd
  by_cases h0 : 0 < n
  · have HA := Lib.hid (alike_iff D es (by rw [HL.out]; exact h0))
    obtain ⟨b, o, rfl, hb, c1, _⟩ := HD.out.at h0
    generalize (es[0]'(by rw [HL.out]; exact h0)).1 = y at *
    have HC := Lib.hid c1
    clear c1
    go_enter Try.func32, Try.ntmps32
    go_wp2_with fail
    go_loopw [9] (fun i wr => ∃ k : Nat, k ≤ n ∧ i = .int .i64 (k : Int) ∧ Hid (AlikeTo D y (es.take k)) ∧ Hid (Below w.heap.size w wr)) (fun i _ => n - (intOf i).toNat)
    case atStart => exact ⟨0, Nat.zero_le _, rfl, Lib.hid (fun e he => by simp at he), Lib.hid (Below.refl _ _)⟩
    case round =>
      obtain ⟨k, hk, rfl, HB, HW⟩ := hrel
      by_cases hlt : k < n
      · obtain ⟨b', o', hA, hb', c1, c2⟩ := (HD.out.below HW.out).at hlt
        cases hA
        have HS := Lib.hid (alikeTo_snoc D y es k (by rw [HL.out]; exact hlt))
        have HN := Lib.hid (show (es[k]'(by rw [HL.out]; exact hlt)).1.toNat / 2 ^ (64 - D) ≠ y.toNat / 2 ^ (64 - D) → ¬ AlikeTo D y es from fun h H => h (H _ (List.getElem_mem _)))
        generalize es[k]'(by rw [HL.out]; exact hlt) = x at c1 c2 HS HN
        have c3 := (HW.out.cell (p := ⟨b, o + 0 * 2, none⟩) hb).trans HC.out
        rw [Nat.zero_mul, Nat.add_zero] at c3
        have HW2 := Lib.hid (HW.out.alloc HW.out.size (.cells #[.int .u64 (x.1.toNat : Int), .int .u32 (x.2.toNat : Int)] 40))
        have c4 : (wr.alloc (.cells #[.int .u64 (x.1.toNat : Int), .int .u32 (x.2.toNat : Int)] 40)).cell? ⟨b, o, none⟩ = some (.int .u64 (y.toNat : Int)) := (World.cell?_alloc_lt wr _ ⟨b, o, none⟩ hb').trans c3
        have hx := u64_lt x.1
        have hy := u64_lt y
        have HT := Lib.hid (shift_test x.1 y (64 - D))
        by_cases hxy : x.1.toNat / 2 ^ (64 - D) = y.toNat / 2 ^ (64 - D)
        · have ht := HT.out
          rw [decide_eq_true hxy] at ht
          have ht2 : (bits BinOp.xor IntKind.u64 (x.1.toNat : Int) (y.toNat : Int) / 2 ^ (64 - D) != 0) = false := ht
          have HB2 := Lib.hid (HS.out.2 ⟨HB.out, hxy⟩)
          clear hxy ht HN HS HB
          go_wp2_with fail
          go_quiet (fail)
          go_wp2_with fail
          go_roundw
          case rel => exact ⟨k + 1, by omega, by go_num, HB2, Lib.hid (HW2.out.trans ((Still.drewN _ _).below _))⟩
          case measure => simp [intOf]; omega
        · have ht := HT.out
          rw [decide_eq_false hxy] at ht
          have ht2 : (bits BinOp.xor IntKind.u64 (x.1.toNat : Int) (y.toNat : Int) / 2 ^ (64 - D) != 0) = true := ht
          have HB2 := Lib.hid (HN.out hxy)
          clear hxy ht HN HS HB
          go_wp2_with fail
          go_quiet (fail)
          go_wp2_with fail
          go_ret
          exact ⟨by rw [decide_eq_false (fun h => HB2.out (HA.out.1 h))]; rfl, HW2.out.trans ((Still.drewN _ _).below _)⟩
      · go_wp2_with fail
        go_ret
        have := HB.out
        rw [List.take_of_length_le (by rw [HL.out]; omega)] at this
        exact ⟨by rw [decide_eq_true (HA.out.2 this)]; rfl, HW.out⟩
  · have HA := Lib.hid (alike_nil D es (by rw [HL.out]; exact h0))
    go_enter Try.func32, Try.ntmps32
    go_wp2_with fail
    go_loopw [9] (fun i wr => i = .int .i64 0 ∧ wr = w) (fun i _ => n - (intOf i).toNat)
    case atStart => exact ⟨rfl, rfl⟩
    case round =>
      obtain ⟨rfl, rfl⟩ := hrel
      go_wp2_with fail
      go_ret
      exact ⟨by rw [decide_eq_true HA.out]; rfl, Below.refl _ _⟩
end Go.Proofs.Ytamibckpkhpmfaa.Sf
