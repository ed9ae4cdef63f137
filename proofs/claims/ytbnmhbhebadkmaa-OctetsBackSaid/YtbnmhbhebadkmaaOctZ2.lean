/- The walk of the statement OctetsBack where nothing is put, and the whole. -/
import Derived.Test.YtbnmhbhebadkmaaOctZ
namespace Go.Proofs.Ytbnmhbhebadkmaa.Oct
open Go.RowKit
set_option linter.unusedVariables false

/-- Put is refused, and changes nothing. -/
def Refused (len : Nat) (p s n : Int) : Prop := ∀ (a : Option Addr) (cap : Nat) (w : World),
  Calls Try.prog 20 #[.slice a len cap, .int .i64 p, .int .i64 s, .int .u64 n] w fun e w' => e = .returned (.bool false) ∧ w = w'

set_option maxRecDepth 100000 in
set_option maxHeartbeats 1000000 in
theorem back_size (a : Option Addr) (len cap : Nat) (bs : List UInt8) (p s n : Int) (w : World) (hlen : bs.length = len) (h3 : len ≤ 300) (ht : Told w a bs) (P : Refused len p s n) (T : ¬ 1 ≤ s ∨ (1 ≤ s ∧ ¬ s ≤ 8)) :
    Calls Try.prog 4 #[.slice a len cap, .int .i64 p, .int .i64 s, .int .u64 n] w fun e w' => e = .returned (.bool true) ∧ Below w.heap.size w w' := by
  have HL := Lib.hid hlen
  have HT := Lib.hid ht
  clear hlen ht
  rcases T with h1 | ⟨h1, h8⟩
  all_goals
    go_enter Try.func4, Try.ntmps4
    go_wp2_with fail
    refine (again_len a len cap bs HL.out _ (by unfold maxLen; omega) HT.out).mono ?_
    rintro e w1 ⟨g, c1, rfl, F1⟩
    have T1 : Told w1 a bs := by
      rcases HT.out with h | ⟨b, o, h, k⟩
      · exact .inl h
      · by_cases h0 : bs = []
        · exact .inl h0
        · exact .inr ⟨b, o, h, k.below (World.block_lt_of_cell? w _ (k 0 (List.length_pos_iff.2 h0))) F1.below⟩
    have T2 := F1.has.told
    have B1 := F1.below
    clear F1
    go_wp2_with fail
    refine (P _ c1 _).mono ?_
    rintro e w' ⟨rfl, rfl⟩
    go_wp2_with fail
    refine (equal_yes _ _ len len c1 cap bs bs rfl HL.out HL.out _ T2 T1).mono ?_
    rintro e w' ⟨rfl, rfl⟩
    clear T1 T2
    go_wp2_with fail
    refine (awake_any _).mono ?_
    rintro e w7 ⟨rfl, hb⟩
    have B7 := B1.trans (hb.mono B1.size)
    go_wp2_with fail
    go_ret
    exact ⟨rfl, B7⟩

set_option maxRecDepth 100000 in
set_option maxHeartbeats 2000000 in
theorem back_place (a : Option Addr) (len cap : Nat) (bs : List UInt8) (p : Int) (s n : Nat) (w : World) (hlen : bs.length = len) (h3 : len ≤ 300) (ht : Told w a bs) (P : Refused len p s n) (h1 : 1 ≤ s) (h8 : s ≤ 8)
    (E8 : (((s : Int) == 8) = true) ∨ (((s : Int) == 8) = false ∧ (n : Int) < IntKind.u64.wrap (2 ^ (8 * s)))) (T : ¬ 0 ≤ p ∨ (0 ≤ p ∧ ¬ p ≤ len) ∨ (0 ≤ p ∧ p ≤ len ∧ decide ((s : Int) ≤ (len : Int) - p) = false)) :
    Calls Try.prog 4 #[.slice a len cap, .int .i64 p, .int .i64 s, .int .u64 n] w fun e w' => e = .returned (.bool true) ∧ Below w.heap.size w w' := by
  have HL := Lib.hid hlen
  have HT := Lib.hid ht
  clear hlen ht
  rcases E8 with h9 | ⟨h9, h10⟩ <;> rcases T with hp | ⟨hp, hp2⟩ | ⟨hp, hp2, hp3⟩
  all_goals
    go_enter Try.func4, Try.ntmps4
    go_wp2_with fail
    refine (again_len a len cap bs HL.out _ (by unfold maxLen; omega) HT.out).mono ?_
    rintro e w1 ⟨g, c1, rfl, F1⟩
    have T1 : Told w1 a bs := by
      rcases HT.out with h | ⟨b, o, h, k⟩
      · exact .inl h
      · by_cases h0 : bs = []
        · exact .inl h0
        · exact .inr ⟨b, o, h, k.below (World.block_lt_of_cell? w _ (k 0 (List.length_pos_iff.2 h0))) F1.below⟩
    have T2 := F1.has.told
    have B1 := F1.below
    clear F1
    go_wp2_with fail
    refine (P _ c1 _).mono ?_
    rintro e w' ⟨rfl, rfl⟩
    go_wp2_with fail
    refine (equal_yes _ _ len len c1 cap bs bs rfl HL.out HL.out _ T2 T1).mono ?_
    rintro e w' ⟨rfl, rfl⟩
    clear T1 T2
    go_wp2_with fail
    refine (awake_any _).mono ?_
    rintro e w7 ⟨rfl, hb⟩
    have B7 := B1.trans (hb.mono B1.size)
    go_wp2_with fail
    go_ret
    exact ⟨rfl, B7⟩

theorem above_max (n s : Nat) (h : ¬ n < 256 ^ s) (hs : s < 8) : ¬ (n : Int) < IntKind.u64.wrap (2 ^ (8 * s)) := by
  have e : ((2 : Int) ^ (8 * s)) = ((256 ^ s : Nat) : Int) := by rw [← two_pow8]; simp
  have := pow256_le s (by omega)
  rw [e, IntKind.wrap_u64]
  generalize 256 ^ s = z at *
  omega

set_option maxRecDepth 100000 in
set_option maxHeartbeats 1000000 in
theorem back_big (a : Option Addr) (len cap : Nat) (bs : List UInt8) (p : Int) (s n : Nat) (w : World) (hlen : bs.length = len) (h3 : len ≤ 300) (ht : Told w a bs) (P : Refused len p s n) (h1 : 1 ≤ s) (h8 : s ≤ 8)
    (h9 : ((s : Int) == 8) = false) (h10 : ¬ (n : Int) < IntKind.u64.wrap (2 ^ (8 * s))) :
    Calls Try.prog 4 #[.slice a len cap, .int .i64 p, .int .i64 s, .int .u64 n] w fun e w' => e = .returned (.bool true) ∧ Below w.heap.size w w' := by
  have HL := Lib.hid hlen
  have HT := Lib.hid ht
  clear hlen ht
  go_enter Try.func4, Try.ntmps4
  go_wp2_with fail
  refine (again_len a len cap bs HL.out _ (by unfold maxLen; omega) HT.out).mono ?_
  rintro e w1 ⟨g, c1, rfl, F1⟩
  have T1 : Told w1 a bs := by
    rcases HT.out with h | ⟨b, o, h, k⟩
    · exact .inl h
    · by_cases h0 : bs = []
      · exact .inl h0
      · exact .inr ⟨b, o, h, k.below (World.block_lt_of_cell? w _ (k 0 (List.length_pos_iff.2 h0))) F1.below⟩
  have T2 := F1.has.told
  have B1 := F1.below
  clear F1
  go_wp2_with fail
  refine (P _ c1 _).mono ?_
  rintro e w' ⟨rfl, rfl⟩
  go_wp2_with fail
  refine (equal_yes _ _ len len c1 cap bs bs rfl HL.out HL.out _ T2 T1).mono ?_
  rintro e w' ⟨rfl, rfl⟩
  clear T1 T2
  go_wp2_with fail
  refine (awake_any _).mono ?_
  rintro e w7 ⟨rfl, hb⟩
  have B7 := B1.trans (hb.mono B1.size)
  go_wp2_with fail
  go_ret
  exact ⟨rfl, B7⟩

set_option maxHeartbeats 400000 in
theorem back_long (a : Option Addr) (len cap : Nat) (p s n : Int) (w : World) (h3 : 300 < len) (hm : len ≤ maxLen) :
    Calls Try.prog 4 #[.slice a len cap, .int .i64 p, .int .i64 s, .int .u64 n] w fun e w' => e = .returned (.bool true) ∧ Below w.heap.size w w' := by
  unfold maxLen at hm
  go_enter Try.func4, Try.ntmps4
  go_wp2_with (go_at_call 9; refine (awake_any _).mono ?_; rintro e w' ⟨rfl, hb⟩)
  go_ret
  exact ⟨rfl, hb⟩

theorem back_walk (a0 : Option Addr) (len0 cap0 : Nat) (z0 : List Int) (a1 : Int) (a2 : Int) (a3 : Int) (w : World) (w0 : IsRow .u8 w a0 len0 cap0 z0) (w1 : (Lit.int .i64 a1).wf = true) (w2 : (Lit.int .i64 a2).wf = true) (w3 : (Lit.int .u64 a3).wf = true) :
    Calls Try.prog 4 #[.slice a0 len0 cap0, .int .i64 a1, .int .i64 a2, .int .u64 a3] w fun e w' => e = .returned (.bool true) ∧ Below w.heap.size w w' := by
  obtain ⟨bs, hc⟩ := came w0
  have hm : len0 ≤ maxLen := Nat.le_trans hc.le hc.hcap
  have b1 := i64_wf w1
  have b2 := i64_wf w2
  have b3 := u64_wf w3
  by_cases h3 : 300 < len0
  · exact back_long a0 len0 cap0 a1 a2 a3 w h3 hm
  · by_cases hs : 1 ≤ a2 ∧ a2 ≤ 8
    · obtain ⟨s, rfl⟩ : ∃ s : Nat, a2 = (s : Int) := ⟨a2.toNat, by omega⟩
      obtain ⟨n, rfl⟩ : ∃ n : Nat, a3 = (n : Int) := ⟨a3.toNat, by omega⟩
      by_cases hn : n < 256 ^ s
      · have E8 : (((s : Int) == 8) = true) ∨ (((s : Int) == 8) = false ∧ (n : Int) < IntKind.u64.wrap (2 ^ (8 * s))) := by
          by_cases h : s = 8
          · left; subst h; rfl
          · right; exact ⟨by rw [beq_eq_false_iff_ne]; omega, below_max n s hn (by omega)⟩
        by_cases hp : 0 ≤ a1 ∧ a1 ≤ (len0 : Int) - s
        · obtain ⟨p, rfl⟩ : ∃ p : Nat, a1 = (p : Int) := ⟨a1.toNat, by omega⟩
          obtain ⟨b, o, rfl, hb, hbw⟩ := hc.old (by intro h; have h2 := hc.hlen; rw [h] at h2; simp at h2; omega)
          exact back_yes b o len0 cap0 bs p s n w hc.hlen (by omega) hc.le hc.hcap hb hbw (by omega) (by omega) (by omega) hn
        · refine back_place a0 len0 cap0 bs a1 s n w hc.hlen (by omega) hc.told (fun a c v => put_out a len0 c a1 s n v hm (by omega)) (by omega) (by omega) E8 ?_
          by_cases q1 : 0 ≤ a1
          · by_cases q2 : a1 ≤ len0
            · exact .inr (.inr ⟨q1, q2, by rw [decide_eq_false_iff_not]; omega⟩)
            · exact .inr (.inl ⟨q1, q2⟩)
          · exact .inl q1
      · have h8 : s ≠ 8 := by
          intro h
          subst h
          have : (256 : Nat) ^ 8 = 18446744073709551616 := by decide
          omega
        refine back_big a0 len0 cap0 bs a1 s n w hc.hlen (by omega) hc.told (fun a c v => ?_) (by omega) (by omega) (by rw [beq_eq_false_iff_ne]; omega) (above_max n s hn (by omega))
        by_cases hp : 0 ≤ a1 ∧ a1 ≤ (len0 : Int) - s
        · obtain ⟨p, rfl⟩ : ∃ p : Nat, a1 = (p : Int) := ⟨a1.toNat, by omega⟩
          exact put_big a len0 c p s n v hm (by omega) (by omega) (by omega) hn
        · exact put_out a len0 c a1 s n v hm (by omega)
    · exact back_size a0 len0 cap0 bs a1 a2 a3 w hc.hlen (by omega) hc.told (fun a c v => put_out a len0 c a1 a2 a3 v hm (by omega)) (by omega)
end Go.Proofs.Ytbnmhbhebadkmaa.Oct
