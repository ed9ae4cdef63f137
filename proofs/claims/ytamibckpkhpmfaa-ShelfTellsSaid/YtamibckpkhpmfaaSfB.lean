/- Contracts: shelf.blocks, rising, alike, and cmp's Compare and Or as rising calls them. -/
import Derived.Test.YtamibckpkhpmfaaSfA
import Derived.StillTailTactics
namespace Go.Proofs.Ytamibckpkhpmfaa.Sf
open Go.RowKit Go.Proofs.Ytamibckpkhpmfaa.Oct
set_option linter.unusedVariables false

theorem Still.drew (w : World) : Still w w.drew := ⟨rfl, rfl, rfl, rfl⟩
theorem u64_lt (c : UInt64) : c.toNat < 18446744073709551616 := c.toNat_lt
theorem u32_lt (c : UInt32) : c.toNat < 4294967296 := c.toNat_lt
theorem u8_le (c : UInt8) : c.toNat < 256 := c.toNat_lt

set_option maxHeartbeats 400000 in
theorem blocks_any {w : World} {A : Option Addr} {n c : Nat} {es : List Ent} (h : Sh w A n c es) :
    Calls Try.prog 30 #[.slice A n c] w fun e w' => e = .returned (.bool (decide (Blocks es))) ∧ Below w.heap.size w w' := by
  have HD := Lib.hid h
  have HL := Lib.hid h.el
  have hn := Nat.le_trans h.kc h.km
  unfold maxLen at hn
  clear h
  go_enter Try.func30, Try.ntmps30
  go_wp2_with fail
  go_loopw [7] (fun i wr => ∃ k : Nat, k ≤ n ∧ i = .int .i64 (k : Int) ∧ Hid (Blocks (es.take k)) ∧ Hid (Below w.heap.size w wr)) (fun i _ => n - (intOf i).toNat)
  case atStart => exact ⟨0, Nat.zero_le _, rfl, Lib.hid (fun e he => by simp at he), Lib.hid (Below.refl _ _)⟩
  case round =>
    obtain ⟨k, hk, rfl, HB, HW⟩ := hrel
    by_cases hlt : k < n
    · obtain ⟨b, o, rfl, hb, c1, c2⟩ := (HD.out.below HW.out).at hlt
      have HS := Lib.hid (blocks_snoc es k (by rw [HL.out]; exact hlt))
      have HN := Lib.hid (blocks_no es k (by rw [HL.out]; exact hlt))
      generalize es[k]'(by rw [HL.out]; exact hlt) = x at c1 c2 HS HN
      have hx := u32_lt x.2
      have HW2 := Lib.hid (HW.out.alloc HW.out.size (.cells #[.int .u64 (x.1.toNat : Int), .int .u32 (x.2.toNat : Int)] 40))
      by_cases h1 : 1 ≤ x.2.toNat
      · by_cases h2 : x.2.toNat < 4096
        · have HB2 := Lib.hid (HS.out.2 ⟨HB.out, h1, h2⟩)
          clear HB HS HN
          go_wp2_with fail
          go_roundw
          case rel => exact ⟨k + 1, by omega, by go_num, HB2, HW2⟩
          case measure => simp [intOf]; omega
        · have HB2 := Lib.hid (HN.out (fun h => h2 h.2))
          go_wp2_with fail
          go_ret
          exact ⟨by rw [decide_eq_false HB2.out]; rfl, HW2.out⟩
      · have HB2 := Lib.hid (HN.out (fun h => h1 h.1))
        go_wp2_with fail
        go_ret
        exact ⟨by rw [decide_eq_false HB2.out]; rfl, HW2.out⟩
    · go_wp2_with fail
      go_ret
      have := HB.out
      rw [List.take_of_length_le (by rw [HL.out]; omega)] at this
      exact ⟨by rw [decide_eq_true this]; rfl, HW.out⟩
end Go.Proofs.Ytamibckpkhpmfaa.Sf
