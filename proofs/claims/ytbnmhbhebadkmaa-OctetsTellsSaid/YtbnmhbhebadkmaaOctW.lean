/- The walk of the statement OctetsParts: whatever the bytes, it answers true and writes nothing that was there. -/
import Derived.Test.YtbnmhbhebadkmaaOctH
namespace Go.Proofs.Ytbnmhbhebadkmaa.Oct
open Go.RowKit
set_option linter.unusedVariables false

/-- What the frame tells of a slice of integers that came in. -/
def IsRow (k : IntKind) (w : World) (a : Option Addr) (len cap : Nat) (zs : List Int) : Prop :=
  (a = none ∧ len = 0 ∧ cap = 0 ∧ zs = []) ∨
  ∃ x, a = some x ∧ len ≤ cap ∧ cap ≤ maxLen ∧ zs.length = cap ∧ (∀ i, i < zs.length → w.cell? (x.add i) = some (.int k (zs.getD i 0))) ∧ ∀ n ∈ zs, (Lit.int k n).wf = true

theorem u8_wf {n : Int} (h : (Lit.int .u8 n).wf = true) : 0 ≤ n ∧ n ≤ 255 := by
  have h2 : IntKind.u8.min ≤ n ∧ n ≤ IntKind.u8.max := by simpa [Lit.wf] using h
  exact h2
theorem u8_of {n : Int} (h : (Lit.int .u8 n).wf = true) : ∃ c : UInt8, n = (c.toNat : Int) := by
  have := u8_wf h
  refine ⟨UInt8.ofNat n.toNat, ?_⟩
  simp
  omega

structure Came (w : World) (a : Option Addr) (len cap : Nat) (bs : List UInt8) : Prop where
  hlen : bs.length = len
  told : Told w a bs
  le : len ≤ cap
  hcap : cap ≤ maxLen
  old : bs ≠ [] → ∃ b o, a = some ⟨b, o, none⟩ ∧ Has w b o bs ∧ b < w.heap.size
theorem came {w : World} {a : Option Addr} {len cap : Nat} {zs : List Int} (h : IsRow .u8 w a len cap zs) : ∃ bs, Came w a len cap bs := by
  rcases h with ⟨rfl, rfl, rfl, rfl⟩ | ⟨x, rfl, hl, hm, hz, hc, hw⟩
  · exact ⟨[], rfl, .inl rfl, Nat.le_refl _, Nat.zero_le _, fun h => absurd rfl h⟩
  · have hlen : ((zs.take len).map fun n => UInt8.ofNat n.toNat).length = len := by simp; omega
    have key : 0 < len → ∃ b o, x = ⟨b, o, none⟩ ∧ Has w b o ((zs.take len).map fun n => UInt8.ofNat n.toNat) ∧ b < w.heap.size := fun h0 => by
      have h1 := hc 0 (by omega)
      obtain ⟨b, o, spot⟩ := x
      have hspot : spot = none := by simpa [Addr.add] using World.cell?_spot h1
      subst hspot
      rw [add_plain] at h1
      refine ⟨b, o, rfl, fun i hi => ?_, World.block_lt_of_cell? w _ h1⟩
      rw [hlen] at hi
      have h2 := hc i (by omega)
      rw [add_plain] at h2
      have hi2 : i < zs.length := by omega
      have h3 := u8_wf (hw zs[i] (List.getElem_mem hi2))
      rw [h2]
      simp [List.getD, hi2]
      omega
    refine ⟨_, hlen, ?_, hl, hm, fun hne => ?_⟩
    · rcases Nat.eq_zero_or_pos len with h0 | h0
      · left
        exact List.eq_nil_of_length_eq_zero (by rw [hlen, h0])
      · obtain ⟨b, o, rfl, h, _⟩ := key h0
        exact .inr ⟨b, o, rfl, h⟩
    · have h0 : 0 < len := by rw [← hlen]; exact List.length_pos_iff.2 hne
      obtain ⟨b, o, rfl, h, k⟩ := key h0
      exact ⟨b, o, rfl, h, k⟩

theorem shl_join (x y n k : Nat) (h : n = x * 256 ^ k + y) (hn : n < 18446744073709551616) : (n : Int) = IntKind.u64.wrap (IntKind.u64.wrap ((x : Int) * 2 ^ (8 * k)) + (y : Int)) := by
  have e : ((x : Int) * 2 ^ (8 * k)) = ((x * 256 ^ k : Nat) : Int) := by
    rw [← two_pow8]
    simp
  rw [e]
  generalize x * 256 ^ k = z at h
  rw [IntKind.wrap_u64, IntKind.wrap_u64]
  omega

set_option maxHeartbeats 400000 in
theorem parts_walk (a0 : Option Addr) (len0 cap0 : Nat) (z0 : List Int) (a1 : Int) (w : World) (w0 : IsRow .u8 w a0 len0 cap0 z0) (w1 : (Lit.int .u8 a1).wf = true) :
    Calls Try.prog 5 #[.slice a0 len0 cap0, .int .u8 a1] w fun e w' => e = .returned (.bool true) ∧ Below w.heap.size w w' := by
  obtain ⟨bs, hc⟩ := came w0
  have hlen := hc.hlen
  have hmax : len0 ≤ 9223372036854775807 := by have := hc.le; have := hc.hcap; unfold maxLen at this; omega
  obtain ⟨c, rfl⟩ := u8_of w1
  have hu := u8_lt c
  have HC := Lib.hid hc
  clear w0 w1 hc
  by_cases h2 : len0 < 2
  · have HL := Lib.hid hlen
    clear hlen
    go_enter Try.func5, Try.ntmps5
    go_wp2_with (go_at_call 9; refine (awake_any _).mono ?_; rintro e w' ⟨rfl, hb⟩)
    go_ret
    exact ⟨rfl, hb⟩
  · by_cases h8 : 8 < len0
    · have HL := Lib.hid hlen
      clear hlen
      go_enter Try.func5, Try.ntmps5
      go_wp2_with (go_at_call 9; refine (awake_any _).mono ?_; rintro e w' ⟨rfl, hb⟩)
      go_ret
      exact ⟨rfl, hb⟩
    · obtain ⟨b, o, rfl, hb, hlt⟩ := HC.out.old (by intro h; subst h; simp at hlen; omega)
      obtain ⟨r, hr⟩ : ∃ r : Nat, (c.toNat : Int) % ((len0 : Int) - 1) = (r : Int) := ⟨c.toNat % (len0 - 1), by rw [Int.natCast_emod]; congr 1; omega⟩
      have hr2 : r < len0 - 1 := by
        have := Int.emod_lt_of_pos (c.toNat : Int) (show (0 : Int) < (len0 : Int) - 1 by omega)
        omega
      have hnum : num bs = num (bs.take (1 + r)) * 256 ^ (len0 - (1 + r)) + num (bs.drop (1 + r)) := by
        have h := num_append (bs.take (1 + r)) (bs.drop (1 + r))
        rw [List.take_append_drop, List.length_drop, hlen] at h
        exact h
      have hn8 := num_lt8 bs (by omega)
      have HB := Lib.hid hb
      have HL := Lib.hid hlen
      have HN := Lib.hid hnum
      clear hlen hb hnum
      go_enter Try.func5, Try.ntmps5
      go_wp2_with fail
      refine (get_lit b o len0 cap0 bs HL.out 0 len0 0 len0 rfl rfl _ (by unfold maxLen; omega) HB.out (by omega) (by omega) (by omega)).mono ?_
      rintro e w' ⟨rfl, rfl⟩
      rw [List.drop_zero, List.take_of_length_le (by rw [HL.out]; exact Nat.le_refl _)]
      go_wp2_with fail
      refine (get_lit b o len0 cap0 bs HL.out 0 (1 + r) 0 (1 + r) rfl (by omega) _ (by unfold maxLen; omega) HB.out (by omega) (by omega) (by omega)).mono ?_
      rintro e w' ⟨rfl, rfl⟩
      rw [List.drop_zero]
      go_wp2_with fail
      refine (get_lit b o len0 cap0 bs HL.out (1 + r) (len0 - (1 + r)) (1 + r) (len0 - (1 + r)) (by omega) (by omega) _ (by unfold maxLen; omega) HB.out (by omega) (by omega) (by omega)).mono ?_
      rintro e w' ⟨rfl, rfl⟩
      rw [List.take_of_length_le (by rw [List.length_drop, HL.out]; exact Nat.le_refl _)]
      have HT := Lib.hid (shl_join _ _ _ _ HN.out hn8)
      go_wp2_with (go_at_call 9; refine (awake_any _).mono ?_; rintro e w' ⟨rfl, hb⟩)
      go_ret
      exact ⟨rfl, hb⟩
end Go.Proofs.Ytbnmhbhebadkmaa.Oct
