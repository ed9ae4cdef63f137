/- Layer 12: words for nodes; contracts of cmp.Less, slices.BinarySearch, rising, Right. -/
import Derived.Test.YtllopocekegljaaLfK
import Derived.Test.YtllopocekegljaaLrC
import Derived.Test.YtllopocekegljaaInv2
import Derived.Test.YtllopocekegljaaMv
import Derived.Deep.LoopGhost
import Derived.Deep.Draws
namespace Go.Proofs.Ytllopocekegljaa.No
open Go.RowKit Go.Proofs.Ytllopocekegljaa.Oct Go.Proofs.Ytllopocekegljaa.Lf
set_option linter.unusedVariables false

/-- Which nodes are right. -/
def Ok (l : Bool) (ks vs : List UInt64) : Prop := ks.length ≤ 7 ∧ vs.length = ks.length ∧ Rises ks ∧ (l = true ∨ 0 < ks.length)
instance (l : Bool) (ks vs : List UInt64) : Decidable (Ok l ks vs) := by unfold Ok; infer_instance

/-- How many are less than k. -/
def low (ns : List UInt64) (k : UInt64) : Nat := ns.countP (fun x => decide (x.toNat < k.toNat))
theorem low_le (ns : List UInt64) (k : UInt64) : low ns k ≤ ns.length := List.countP_le_length
theorem low_at (ns : List UInt64) (k : UInt64) (h : Nat) (hl : h ≤ ns.length) (h1 : ∀ t, t < h → (ns.getD t 0).toNat < k.toNat) (h2 : ∀ t, h ≤ t → t < ns.length → k.toNat ≤ (ns.getD t 0).toNat) : low ns k = h := by
  unfold low
  rw [← List.take_append_drop h ns, List.countP_append]
  have e1 : (ns.take h).countP (fun x => decide (x.toNat < k.toNat)) = h := by
    rw [List.countP_eq_length.2, List.length_take, Nat.min_eq_left hl]
    intro x hx
    obtain ⟨i, hi, rfl⟩ := List.mem_iff_getElem.1 hx
    rw [List.length_take] at hi
    have := h1 i (by omega)
    rw [List.getD_eq_getElem?_getD, List.getElem?_eq_getElem (by omega)] at this
    rw [List.getElem_take]
    simpa using this
  have e2 : (ns.drop h).countP (fun x => decide (x.toNat < k.toNat)) = 0 := by
    rw [List.countP_eq_zero]
    intro x hx
    obtain ⟨i, hi, rfl⟩ := List.mem_iff_getElem.1 hx
    rw [List.length_drop] at hi
    have := h2 (h + i) (by omega) (by omega)
    rw [List.getD_eq_getElem?_getD, List.getElem?_eq_getElem (by omega)] at this
    rw [List.getElem_drop]
    simpa using this
  omega
theorem mem_at (ns : List UInt64) (k : UInt64) (h : Nat) (hs : Rises ns) (h1 : ∀ t, t < h → (ns.getD t 0).toNat < k.toNat) (h2 : ∀ t, h ≤ t → t < ns.length → k.toNat ≤ (ns.getD t 0).toNat) : k ∈ ns ↔ h < ns.length ∧ ns.getD h 0 = k := by
  constructor
  · intro hk
    obtain ⟨i, hi, rfl⟩ := List.mem_iff_getElem.1 hk
    have e : ns.getD i 0 = ns[i] := by rw [List.getD_eq_getElem?_getD, List.getElem?_eq_getElem hi]; rfl
    rcases Nat.lt_trichotomy i h with c | c | c
    · have := h1 i c
      rw [e] at this
      omega
    · subst c
      exact ⟨hi, e⟩
    · have h3 := h2 h (Nat.le_refl _) (by omega)
      have e3 : ns.getD h 0 = ns[h]'(by omega) := by rw [List.getD_eq_getElem?_getD, List.getElem?_eq_getElem (by omega)]; rfl
      have h4 := (List.pairwise_iff_getElem.1 hs) h i (by omega) hi c
      rw [e3] at h3
      omega
  · rintro ⟨hh, rfl⟩
    rw [List.getD_eq_getElem?_getD, List.getElem?_eq_getElem hh]
    exact List.getElem_mem hh
theorem rises_getD {ns : List UInt64} (h : Rises ns) {a b : Nat} (hab : a ≤ b) (hb : b < ns.length) : (ns.getD a 0).toNat ≤ (ns.getD b 0).toNat := by
  rw [List.getD_eq_getElem?_getD, List.getElem?_eq_getElem (by omega), List.getD_eq_getElem?_getD, List.getElem?_eq_getElem hb]
  rcases Nat.lt_or_ge a b with c | c
  · exact Nat.le_of_lt ((List.pairwise_iff_getElem.1 h) a b (by omega) hb c)
  · obtain rfl : a = b := by omega
    exact Nat.le_refl _

theorem nan_cmp (x : Int) (w : World) : Calls Try.prog 45 #[.int .u64 x] w fun e w' => e = .returned (.bool false) ∧ w = w' := by
  have hx : (x != x) = false := by simp
  go_enter Try.func45, Try.ntmps45
  go_wp2_with fail
  go_ret
  exact ⟨by simp, rfl⟩
theorem nan_sl (x : Int) (w : World) : Calls Try.prog 42 #[.int .u64 x] w fun e w' => e = .returned (.bool false) ∧ w = w' := by
  have hx : (x != x) = false := by simp
  go_enter Try.func42, Try.ntmps42
  go_wp2_with fail
  go_ret
  exact ⟨by simp, rfl⟩
theorem less_any (x y : Int) (w : World) : Calls Try.prog 41 #[.int .u64 x, .int .u64 y] w fun e w' => e = .returned (.bool (decide (x < y))) ∧ w = w' := by
  go_enter Try.func41, Try.ntmps41
  go_wp2_with (go_at_call 45; refine (nan_cmp _ _).mono ?_; rintro e w' ⟨rfl, rfl⟩)
  go_ret
  exact ⟨rfl, rfl⟩

set_option maxHeartbeats 4000000 in
set_option maxRecDepth 100000 in
theorem search_any (A : Option Addr) (n c : Nat) (ns : List UInt64) (k : UInt64) (hlen : ns.length = n) (hbig : n ≤ 1000000) (w : World) (hb : ToldN w A ns) (hs : Rises ns) :
    Calls Try.prog 30 #[.slice A n c, .int .u64 (k.toNat : Int)] w fun e w' => e = .returned (.tuple #[.int .i64 (low ns k : Nat), .bool (decide (k ∈ ns))]) ∧ Still w w' := by
  have HB := Lib.hid hb
  have HL := Lib.hid hlen
  have S := Lib.hid hs
  clear hb hlen hs
  go_enter Try.func30, Try.ntmps30
  go_wp2_with fail
  go_loopg [7, 8] n (fun g s7 s8 wr => ∃ lo hi : Nat, s7 = .int .i64 lo ∧ s8 = .int .i64 hi ∧ lo ≤ hi ∧ hi ≤ n ∧ hi - lo ≤ g ∧ Hid (Still w wr) ∧ Hid (∀ t, t < lo → (ns.getD t 0).toNat < k.toNat) ∧ Hid (∀ t, hi ≤ t → t < n → k.toNat ≤ (ns.getD t 0).toNat))
  case atStart => exact ⟨0, n, rfl, rfl, Nat.zero_le _, Nat.le_refl _, by omega, Lib.hid ⟨rfl, rfl, rfl, rfl⟩, Lib.hid (fun t ht => absurd ht (Nat.not_lt_zero _)), Lib.hid (fun t h1 h2 => by omega)⟩
  case round =>
    obtain ⟨lo, hi, rfl, rfl, hlh, hin, hg, HS, I1, I2⟩ := hrel
    by_cases hlt : lo < hi
    · obtain ⟨b, o, rfl, hH⟩ := HB.out.has (by rw [HL.out]; omega)
      have cm := (HS.out.cell _).trans (hH ((lo + hi) / 2) (by rw [HL.out]; omega))
      have Y := Lib.hid (show ns.getD ((lo + hi) / 2) 0 = ns[(lo + hi) / 2]'(by rw [HL.out]; omega) by rw [List.getD_eq_getElem?_getD, List.getElem?_eq_getElem (by rw [HL.out]; omega)]; rfl)
      generalize ns[(lo + hi) / 2]'(by rw [HL.out]; omega) = y at cm Y
      clear hH
      by_cases hyx : y.toNat < k.toNat
      · have hyi : (y.toNat : Int) < (k.toNat : Int) := by omega
        go_wp2_with (go_at_call 41; refine (less_any _ _ _).mono ?_; rintro e w' ⟨rfl, rfl⟩)
        go_roundg (hi - ((lo + hi) / 2 + 1))
        case measure => omega
        case rel =>
          refine ⟨(lo + hi) / 2 + 1, hi, by rw [show ((lo : Int) + (hi : Int)) / 2 + 1 = (((lo + hi) / 2 + 1 : Nat) : Int) by omega], rfl, by omega, hin, Nat.le_refl _, Lib.hid ⟨HS.out.os, HS.out.tape, HS.out.output, HS.out.heap⟩, Lib.hid (fun t ht => ?_), I2⟩
          have := rises_getD S.out (a := t) (b := (lo + hi) / 2) (by omega) (by rw [HL.out]; omega)
          rw [Y.out] at this
          omega
      · have hyi : ¬ (y.toNat : Int) < (k.toNat : Int) := by omega
        go_wp2_with (go_at_call 41; refine (less_any _ _ _).mono ?_; rintro e w' ⟨rfl, rfl⟩)
        go_roundg ((lo + hi) / 2 - lo)
        case measure => omega
        case rel =>
          refine ⟨lo, (lo + hi) / 2, rfl, by rw [show ((lo : Int) + (hi : Int)) / 2 = (((lo + hi) / 2 : Nat) : Int) by omega], by omega, by omega, Nat.le_refl _, Lib.hid ⟨HS.out.os, HS.out.tape, HS.out.output, HS.out.heap⟩, I1, Lib.hid (fun t ht htn => ?_)⟩
          have := rises_getD S.out ht (by rw [HL.out]; omega)
          rw [Y.out] at this
          omega
    · obtain rfl : hi = lo := by omega
      have E1 := Lib.hid (low_at ns k hi (by rw [HL.out]; exact hin) I1.out (by rw [HL.out]; exact I2.out))
      have E2 := Lib.hid (mem_at ns k hi S.out I1.out (by rw [HL.out]; exact I2.out))
      by_cases hn : hi < n
      · obtain ⟨b, o, rfl, hH⟩ := HB.out.has (by rw [HL.out]; omega)
        have cl := (HS.out.cell _).trans (hH hi (by rw [HL.out]; omega))
        have Y := Lib.hid (show ns.getD hi 0 = ns[hi]'(by rw [HL.out]; omega) by rw [List.getD_eq_getElem?_getD, List.getElem?_eq_getElem (by rw [HL.out]; omega)]; rfl)
        generalize ns[hi]'(by rw [HL.out]; omega) = y at cl Y
        clear hH
        by_cases hyx : y = k
        · subst hyx
          go_wp2_with (first | (go_at_call 42; refine (nan_sl _ _).mono ?_; rintro e w' ⟨rfl, rfl⟩))
          go_ret2
          refine ⟨?_, ⟨HS.out.os, HS.out.tape, HS.out.output, HS.out.heap⟩⟩
          rw [E1.out, decide_eq_true (E2.out.2 ⟨by rw [HL.out]; exact hn, Y.out⟩)]
          first | rfl | simp
        · have hne := int_ne_of hyx
          go_wp2_with (first | (go_at_call 42; refine (nan_sl _ _).mono ?_; rintro e w' ⟨rfl, rfl⟩))
          go_ret2
          refine ⟨?_, ⟨HS.out.os, HS.out.tape, HS.out.output, HS.out.heap⟩⟩
          rw [E1.out, decide_eq_false (fun h => hyx (by rw [← Y.out]; exact (E2.out.1 h).2))]
          first | rfl | simp
      · go_wp2_with (first | (go_at_call 42; refine (nan_sl _ _).mono ?_; rintro e w' ⟨rfl, rfl⟩))
        go_ret2
        refine ⟨?_, ⟨HS.out.os, HS.out.tape, HS.out.output, HS.out.heap⟩⟩
        rw [E1.out, decide_eq_false (fun h => hn (by rw [← HL.out]; exact (E2.out.1 h).1))]
        first | rfl | simp
end Go.Proofs.Ytllopocekegljaa.No
