/- What the program's calls and the reference's answer at the same bytes, side by side. -/
import Derived.Test.YtbnmhbhebadkmaaOctK
namespace Go.Proofs.Ytbnmhbhebadkmaa.Oct
open Go.RowKit
set_option linter.unusedVariables false

theorem told_at {w : World} {a : Option Addr} {bs : List UInt8} (h : Told w a bs) (hne : bs ≠ []) : ∃ b o, a = some ⟨b, o, none⟩ ∧ Has w b o bs := by
  rcases h with h | h
  · exact absurd h hne
  · exact h
theorem ne_nil {bs : List UInt8} (h : 0 < bs.length) : bs ≠ [] := by intro e; rw [e] at h; simp at h

theorem get_both (bs : List UInt8) (len : Nat) (hlen : bs.length = len) (hl : len ≤ 300) (p s : Int) : ∃ (m : Nat) (ok : Bool),
    (∀ g c w, Has w g 0 bs → Calls Try.prog 11 #[.slice (some ⟨g, 0, none⟩) len c, .int .i64 p, .int .i64 s] w fun e w' => e = .returned (.tuple #[.int .u64 m, .bool ok]) ∧ w = w') ∧
    (∀ a cap w, Told w a bs → len ≤ cap → cap ≤ maxLen → Calls Try.prog 12 #[.slice a len cap, .int .i64 p, .int .i64 s] w fun e w' => e = .returned (.tuple #[.int .u64 m, .bool ok]) ∧ w = w') := by
  by_cases h : 1 ≤ s ∧ s ≤ 8 ∧ 0 ≤ p ∧ p ≤ len - s
  · obtain ⟨s, rfl⟩ : ∃ n : Nat, s = (n : Int) := ⟨s.toNat, by omega⟩
    obtain ⟨p, rfl⟩ : ∃ n : Nat, p = (n : Int) := ⟨p.toNat, by omega⟩
    refine ⟨num ((bs.drop p).take s), true, fun g c w hb => get_lit g 0 len c bs hlen p s p s rfl rfl w (by unfold maxLen; omega) hb (by omega) (by omega) (by omega), fun a cap w hT hc hm => ?_⟩
    obtain ⟨b, o, rfl, hb⟩ := told_at hT (ne_nil (by omega))
    exact rget_yes b o len cap bs hlen p s w hl hc hm hb (by omega) (by omega) (by omega)
  · exact ⟨0, false, fun g c w _ => get_no _ len c p s w (by unfold maxLen; omega) h, fun a cap w _ _ _ => rget_no a len cap p s w (by unfold maxLen; omega) h⟩

theorem sum_told (a : Option Addr) (len cap : Nat) (bs : List UInt8) (hlen : bs.length = len) (w : World) (hl : len ≤ maxLen) (hT : Told w a bs) :
    Calls Try.prog 13 #[.slice a len cap] w fun e w' => e = .returned (.int .u32 (sum bs)) ∧ w = w' := by
  by_cases h : bs = []
  · subst h
    obtain rfl : len = 0 := by simpa using hlen.symm
    exact sum_none cap a w
  · obtain ⟨b, o, rfl, hb⟩ := told_at hT h
    exact sum_len b o len cap bs hlen w hl hb
theorem rsum_none (cap : Nat) (a : Option Addr) (w : World) :
    Calls Try.prog 14 #[.slice a 0 cap] w fun e w' => e = .returned (.int .u32 1) ∧ w = w' := by
  go_enter Try.func14, Try.ntmps14
  go_wp2
  go_loop [3, 4] (fun t i => i = .int .i64 0 ∧ t = .int .u32 1) (fun _ _ => 0)
  case atStart => exact ⟨rfl, rfl⟩
  case round =>
    obtain ⟨rfl, rfl⟩ := hrel
    go_wp2
    go_ret
    exact ⟨rfl, rfl⟩
theorem rsum_told (a : Option Addr) (len cap : Nat) (bs : List UInt8) (hlen : bs.length = len) (w : World) (hl : len ≤ maxLen) (hT : Told w a bs) :
    Calls Try.prog 14 #[.slice a len cap] w fun e w' => e = .returned (.int .u32 (sum bs)) ∧ w = w' := by
  by_cases h : bs = []
  · subst h
    obtain rfl : len = 0 := by simpa using hlen.symm
    exact rsum_none cap a w
  · obtain ⟨b, o, rfl, hb⟩ := told_at hT h
    exact rsum_any b o len cap bs hlen w hl hb

def MadePost (w : World) (xs : List UInt8) (er : Int) (e : Ending) (w' : World) : Prop :=
  ∃ a c, e = .returned (.tuple #[.slice a xs.length c, .int .i64 er]) ∧ Told w' a xs ∧ Below w.heap.size w w'
theorem seal_both (kind : UInt8) (bs : List UInt8) (len : Nat) (hlen : bs.length = len) (hl : len ≤ 300) : ∃ (xs : List UInt8) (er : Int),
    (∀ a cap w, Told w a bs → Calls Try.prog 16 #[.int .u8 (kind.toNat : Int), .slice a len cap] w (MadePost w xs er)) ∧
    (∀ a cap w, Told w a bs → (a = none → cap = 0) → Calls Try.prog 17 #[.int .u8 (kind.toNat : Int), .slice a len cap] w (MadePost w xs er)) := by
  by_cases h : len ≤ 123
  · have hp := length_page kind bs (by omega)
    refine ⟨page kind bs, 0, fun a cap w hT => (seal_any kind a len cap bs hlen w h hT).mono ?_, fun a cap w hT hn => (rseal_any kind a len cap bs hlen w h hT hn).mono ?_⟩
    · rintro e w' ⟨g, rfl, F⟩
      exact ⟨_, 128, by rw [hp], F.has.told, F.below⟩
    · rintro e w' ⟨v, rfl, O, B⟩
      obtain ⟨a', c', rfl, hT', _⟩ := O.slice
      exact ⟨a', c', rfl, hT', B⟩
  · refine ⟨[], 3, fun a cap w hT => (seal_long kind a len cap w (by omega) (by unfold maxLen; omega)).mono ?_, fun a cap w hT hn => (rseal_long kind a len cap w (by omega) (by unfold maxLen; omega)).mono ?_⟩
    · rintro e w' ⟨rfl, rfl⟩
      exact ⟨none, 0, rfl, .inl rfl, Below.refl _ _⟩
    · rintro e w' ⟨rfl, rfl⟩
      exact ⟨none, 0, rfl, .inl rfl, Below.refl _ _⟩

def OpenedPost (w : World) (k : Nat) (xs : List UInt8) (er : Int) (e : Ending) (w' : World) : Prop :=
  ∃ a c, e = .returned (.tuple #[.int .u8 (k : Int), .slice a xs.length c, .int .i64 er]) ∧ Told w' a xs ∧ Below w.heap.size w w'
theorem open_both (ps : List UInt8) (len : Nat) (hlen : ps.length = len) (hl : len ≤ 300) : ∃ (k : Nat) (xs : List UInt8) (er : Int),
    (∀ a cap w, Told w a ps → len ≤ cap → cap ≤ maxLen → Calls Try.prog 18 #[.slice a len cap] w (OpenedPost w k xs er)) ∧
    (∀ a cap w, Told w a ps → len ≤ cap → cap ≤ maxLen → Calls Try.prog 19 #[.slice a len cap] w (OpenedPost w k xs er)) := by
  by_cases h : len = 128
  · subst h
    by_cases hs : Good ps
    · refine ⟨(ps[0]'(by omega)).toNat, (ps.drop 1).take 123, 0, fun a cap w hT hc hm => ?_, fun a cap w hT hc hm => ?_⟩
      · obtain ⟨b, o, rfl, hb⟩ := told_at hT (ne_nil (by omega))
        refine (open_good b o cap ps w hb hlen hc hm hs).mono ?_
        rintro e w' ⟨g, rfl, F⟩
        exact ⟨_, 123, by rw [(open_in hb hlen).lm], F.has.told, F.below⟩
      · obtain ⟨b, o, rfl, hb⟩ := told_at hT (ne_nil (by omega))
        refine (ropen_good b o cap ps w hb hlen hc hm hs).mono ?_
        rintro e w' ⟨v, rfl, O, B⟩
        obtain ⟨a', c', rfl, hT', _⟩ := O.slice
        exact ⟨a', c', rfl, hT', B⟩
    · refine ⟨0, [], 10, fun a cap w hT hc hm => ?_, fun a cap w hT hc hm => ?_⟩
      · obtain ⟨b, o, rfl, hb⟩ := told_at hT (ne_nil (by omega))
        refine (open_bad b o cap ps w hb hlen hc hm hs).mono ?_
        rintro e w' ⟨rfl, S⟩
        exact ⟨none, 0, rfl, .inl rfl, S.below _⟩
      · obtain ⟨b, o, rfl, hb⟩ := told_at hT (ne_nil (by omega))
        refine (ropen_bad b o cap ps w hb hlen hc hm hs).mono ?_
        rintro e w' ⟨rfl, S⟩
        exact ⟨none, 0, rfl, .inl rfl, S.below _⟩
  · refine ⟨0, [], 10, fun a cap w hT hc hm => ?_, fun a cap w hT hc hm => ?_⟩
    · refine (open_len a len cap w h (by omega)).mono ?_
      rintro e w' ⟨rfl, rfl⟩
      exact ⟨none, 0, rfl, .inl rfl, Below.refl _ _⟩
    · refine (ropen_len a len cap w h (by omega)).mono ?_
      rintro e w' ⟨rfl, S⟩
      exact ⟨none, 0, rfl, .inl rfl, S.below _⟩

def PutInPost (w : World) (g : Nat) (xs : List UInt8) (ok : Bool) (e : Ending) (w' : World) : Prop := e = .returned (.bool ok) ∧ Has w' g 0 xs ∧ Below g w w'
def PutOutPost (w : World) (len : Nat) (xs : List UInt8) (ok : Bool) (e : Ending) (w' : World) : Prop := ∃ a c, e = .returned (.tuple #[.slice a len c, .bool ok]) ∧ Told w' a xs ∧ Below w.heap.size w w'
theorem put_both (bs : List UInt8) (len : Nat) (hlen : bs.length = len) (hl : len ≤ 300) (p s n : Int) (hn0 : 0 ≤ n) (hn8 : n ≤ 18446744073709551615) : ∃ (xs : List UInt8) (ok : Bool), xs.length = len ∧
    (∀ g c w, Has w g 0 bs → Free w g 0 len → Calls Try.prog 20 #[.slice (some ⟨g, 0, none⟩) len c, .int .i64 p, .int .i64 s, .int .u64 n] w (PutInPost w g xs ok)) ∧
    (∀ a cap w, Told w a bs → (a = none → cap = 0) → Calls Try.prog 21 #[.slice a len cap, .int .i64 p, .int .i64 s, .int .u64 n] w (PutOutPost w len xs ok)) := by
  have out : ∀ (xs : List UInt8) (ok : Bool) (w : World) (e : Ending) (w' : World), xs.length = len → PutPost w ok xs e w' → PutOutPost w len xs ok e w' := by
    rintro xs ok w e w' hx ⟨v, rfl, O, B⟩
    obtain ⟨a', c', rfl, hT', _⟩ := O.slice
    exact ⟨a', c', by rw [hx], hT', B⟩
  by_cases h : 1 ≤ s ∧ s ≤ 8 ∧ 0 ≤ p ∧ p ≤ len - s
  · obtain ⟨s, rfl⟩ : ∃ m : Nat, s = (m : Int) := ⟨s.toNat, by omega⟩
    obtain ⟨p, rfl⟩ : ∃ m : Nat, p = (m : Int) := ⟨p.toNat, by omega⟩
    obtain ⟨n, rfl⟩ : ∃ m : Nat, n = (m : Int) := ⟨n.toNat, by omega⟩
    by_cases hn : n < 256 ^ s
    · have hw := all_window bs p s n (by omega)
      refine ⟨bs.take p ++ bytesOf n s ++ bs.drop (p + s), true, by omega, fun g c w hb hf => ?_, fun a cap w hT hni => ?_⟩
      · refine (put_lit g 0 len c bs hlen p s n p s n rfl rfl rfl w (by unfold maxLen; omega) hb hf (by omega) (by omega) (by omega) hn).mono ?_
        rintro e w' ⟨rfl, D⟩
        exact ⟨rfl, D.has, D.wrote.below (Nat.le_refl _)⟩
      · exact (rput_yes a len cap bs hlen p s n w hl hT hni (by omega) (by omega) (by omega) hn (by omega)).mono fun e w' h => out _ _ _ _ _ (by omega) h
    · refine ⟨bs, false, hlen, fun g c w hb hf => ?_, fun a cap w hT hni => ?_⟩
      · refine (put_big _ len c p s n w (by unfold maxLen; omega) (by omega) (by omega) (by omega) hn).mono ?_
        rintro e w' ⟨rfl, rfl⟩
        exact ⟨rfl, hb, Below.refl _ _⟩
      · exact (rput_big a len cap bs hlen p s n w hl hT hni (by omega) (by omega) (by omega) hn (by omega)).mono fun e w' h => out _ _ _ _ _ hlen h
  · refine ⟨bs, false, hlen, fun g c w hb hf => ?_, fun a cap w hT hni => ?_⟩
    · refine (put_out _ len c p s n w (by unfold maxLen; omega) h).mono ?_
      rintro e w' ⟨rfl, rfl⟩
      exact ⟨rfl, hb, Below.refl _ _⟩
    · exact (rput_out a len cap bs hlen p s n w hl hT hni h).mono fun e w' h => out _ _ _ _ _ hlen h
end Go.Proofs.Ytbnmhbhebadkmaa.Oct
