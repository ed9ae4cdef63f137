/- What Take finds, reckoned; the law's own example. (Written by bin/gen_pkawake.py.) -/
import Derived.Test.YtkjdagjhbjpcnaaPkD
namespace Go.Proofs.Ytkjdagjhbjpcnaa.Pk
open Go.RowKit Go.Proofs.Ytkjdagjhbjpcnaa.Oct Go.Proofs.Ytkjdagjhbjpcnaa.Mv Go.Proofs.Ytkjdagjhbjpcnaa.Tl Go.Maps
set_option linter.unusedVariables false

/-- The first free block of k from f on. -/
def first? (s : St) (f : Nat) : Nat → Option Nat
  | 0 => none
  | k + 1 => if s.free f then some f else first? s (f + 1) k
theorem first_some {s : St} {f k b : Nat} (h : first? s f k = some b) : f ≤ b ∧ b < f + k ∧ s.free b = true ∧ ∀ j, f ≤ j → j < b → s.free j = false := by
  induction k generalizing f with
  | zero => cases h
  | succ k ih =>
    unfold first? at h
    cases hf : s.free f
    · rw [hf] at h
      obtain ⟨h1, h2, h3, h4⟩ := ih h
      refine ⟨by omega, by omega, h3, fun j hj1 hj2 => ?_⟩
      by_cases e : j = f
      · subst e; exact hf
      · exact h4 j (by omega) hj2
    · rw [hf] at h
      cases h
      exact ⟨Nat.le_refl _, by omega, hf, fun j h1 h2 => absurd h1 (by omega)⟩
theorem first_none {s : St} {f k : Nat} (h : first? s f k = none) : ∀ j, f ≤ j → j < f + k → s.free j = false := by
  induction k generalizing f with
  | zero => intro j h1 h2; omega
  | succ k ih =>
    unfold first? at h
    cases hf : s.free f
    · rw [hf] at h
      intro j h1 h2
      by_cases e : j = f
      · subst e; exact hf
      · exact ih h j (by omega) (by omega)
    · rw [hf] at h
      cases h
/-- What is found. -/
def Q.seek (q : Q) : Option Nat :=
  match first? q.s q.next (q.s.n - q.next) with
  | some b => some b
  | none => first? q.s q.first (q.next - q.first)
theorem seek_found {q : Q} (hok : q.Ok) {b : Nat} (h : q.seek = some b) : q.Found b := by
  have hn := hok.nextn
  have hl := hok.le
  unfold Q.seek at h
  cases e : first? q.s q.next (q.s.n - q.next) with
  | some b' =>
    rw [e] at h
    cases h
    obtain ⟨h1, h2, h3, h4⟩ := first_some e
    exact ⟨by omega, h3, .inl ⟨h1, h4⟩⟩
  | none =>
    rw [e] at h
    obtain ⟨h1, h2, h3, h4⟩ := first_some h
    have h0 := first_none e
    exact ⟨by omega, h3, .inr ⟨fun j a b => h0 j a (by omega), h1, by omega, h4⟩⟩
theorem seek_none {q : Q} (hok : q.Ok) (h : q.seek = none) : q.None := by
  have hn := hok.nextn
  have hl := hok.le
  unfold Q.seek at h
  cases e : first? q.s q.next (q.s.n - q.next) with
  | some b' => rw [e] at h; cases h
  | none =>
    rw [e] at h
    have h0 := first_none e
    have h1 := first_none h
    exact ⟨fun j a b => h0 j a (by omega), fun j a b => h1 j a (by omega)⟩
theorem found_not {q : Q} {b : Nat} (h : q.Found b) (hn : q.None) : False := by
  rcases h.2.2 with ⟨h1, _⟩ | ⟨_, h1, h2, _⟩
  · have := hn.1 b h1 h.1
    rw [h.2.1] at this
    cases this
  · have := hn.2 b h1 h2
    rw [h.2.1] at this
    cases this
theorem found_one {q : Q} {b d : Nat} (h : q.Found b) (k : q.Found d) : b = d := by
  have e (i j : Nat) (hi : q.s.free i = true) (hj : q.s.free j = true) (lo : Nat) (li : lo ≤ i) (lj : lo ≤ j) (fi : ∀ x, lo ≤ x → x < i → q.s.free x = false) (fj : ∀ x, lo ≤ x → x < j → q.s.free x = false) : i = j := by
    rcases Nat.lt_trichotomy i j with h | h | h
    · have := fj i li h; rw [hi] at this; cases this
    · exact h
    · have := fi j lj h; rw [hj] at this; cases this
  rcases h.2.2 with ⟨h1, h2⟩ | ⟨h0, h1, h2, h3⟩ <;> rcases k.2.2 with ⟨k1, k2⟩ | ⟨k0, k1, k2, k3⟩
  · exact e b d h.2.1 k.2.1 q.next h1 k1 h2 k2
  · have := k0 b h1 h.1; rw [h.2.1] at this; cases this
  · have := h0 d k1 k.1; rw [k.2.1] at this; cases this
  · exact e b d h.2.1 k.2.1 q.first h1 k1 h3 k3
theorem look_one {q : Q} {b d : Nat} {x y : Bool} (h : q.Look b x) (k : q.Look d y) : b = d ∧ x = y := by
  cases x <;> cases y
  · exact ⟨h.1.trans k.1.symm, rfl⟩
  · exact (found_not k h.2).elim
  · exact (found_not h k.2).elim
  · exact ⟨found_one h k, rfl⟩

/-! ### In the walk's words -/
section
variable {w : World} {p a cb mb c : Nat} {q q' : Q}
theorem room_eq (h : PAt w p a cb mb c q) (n : Int) (hr : (q.room : Int) = n) :
    Calls Try.prog 13 #[.pointer (some ⟨p, 0, none⟩)] w fun e w' => e = .returned (.int .i64 n) ∧ w = w' := by
  subst hr
  exact room_at h
theorem ask_eq (h : PAt w p a cb mb c q) (n r : Int) (hr : q.ask n = (r, q')) :
    Calls Try.prog 26 #[.pointer (some ⟨p, 0, none⟩), .int .i64 n] w fun e w' => e = .returned (.int .i64 r) ∧ PAt w' p a cb mb c q' ∧ But3 w w' cb mb p := by
  have := ask_at h n
  rw [hr] at this
  exact this
theorem done_eq (h : PAt w p a cb mb c q) (n r : Int) (hr : q.done n = (r, q')) :
    Calls Try.prog 28 #[.pointer (some ⟨p, 0, none⟩), .int .i64 n] w fun e w' => e = .returned (.int .i64 r) ∧ PAt w' p a cb mb c q' ∧ But3 w w' cb mb p := by
  have := done_at h n
  rw [hr] at this
  exact this
theorem take_eq (h : PAt w p a cb mb c q) (b : Nat) (hs : q.seek = some b) (hq : q.took b = q') :
    Calls Try.prog 17 #[.pointer (some ⟨p, 0, none⟩)] w fun e w' => e = .returned (.tuple #[.int .i64 (b : Int), .int .i64 0]) ∧ PAt w' p a cb mb c q' ∧ But3 w w' cb mb p := by
  subst hq
  refine (take_at h).mono fun e w' ⟨d, ok, h1, h2, h3, h4⟩ => ?_
  obtain ⟨rfl, rfl⟩ := look_one h2 (show q.Look b true from seek_found h.ok hs)
  exact ⟨h1, h3, h4⟩
theorem take_off (h : PAt w p a cb mb c q) (hs : q.seek = none) :
    Calls Try.prog 17 #[.pointer (some ⟨p, 0, none⟩)] w fun e w' => e = .returned (.tuple #[.int .i64 0, .int .i64 90]) ∧ PAt w' p a cb mb c q ∧ But3 w w' cb mb p := by
  refine (take_at h).mono fun e w' ⟨d, ok, h1, h2, h3, h4⟩ => ?_
  obtain ⟨rfl, rfl⟩ := look_one h2 (show q.Look 0 false from ⟨rfl, seek_none h.ok hs⟩)
  exact ⟨h1, h3, h4⟩
end
set_option maxRecDepth 100000 in
set_option maxHeartbeats 1000000 in
theorem awake_any (w : World) : Calls Try.prog 16 #[] w fun e w' => e = .returned (.bool true) ∧ Below w.heap.size w w' := by
  go_enter Try.func16, Try.ntmps16
  go_wp2_with fail
  refine (new_yes 5 (by decide) (by decide) w).mono ?_
  rintro e w0 ⟨a, cb, mb, rfl, hf⟩
  have HA0 := Lib.hid (show At w0 a cb mb 5 ⟨[0, 0, 0, 0, 0], [0, 0, 0, 0, 0]⟩ from hf.at')
  have HB0 := Lib.hid hf.below
  have HC := Lib.hid hf.hc
  have HM := Lib.hid hf.hm
  clear hf
  go_wp2_with fail
  refine (pnew_yes HA0.out 2 (by decide)).mono ?_
  rintro e w1 ⟨p, rfl, hf⟩
  have HP1 := Lib.hid (show PAt w1 p a cb mb 5 ⟨⟨[0, 0, 0, 0, 0], [0, 0, 0, 0, 0]⟩, 2, 2, 0⟩ from hf.at')
  have HB1 := Lib.hid (HB0.out.trans (hf.below.mono HB0.out.size))
  have HQ := Lib.hid (Nat.le_trans HB0.out.size hf.hp)
  clear hf HA0 HB0
  go_wp2_with fail
  refine (room_eq HP1.out 3 rfl).mono ?_
  rintro e w' ⟨rfl, rfl⟩
  go_wp2_with fail
  refine (ask_eq HP1.out 1 0 (q' := ⟨⟨[0, 0, 0, 0, 0], [0, 0, 0, 0, 0]⟩, 2, 2, 1⟩) rfl).mono ?_
  rintro e w2 ⟨rfl, az, bz⟩
  have HP2 := Lib.hid az
  have HB2 := Lib.hid (HB1.out.trans (bz.below HC.out HM.out HQ.out HB1.out.size))
  clear az bz HP1
  go_wp2_with fail
  refine (asked_at HP2.out).mono ?_
  rintro e w' ⟨rfl, rfl⟩
  go_wp2_with fail
  refine (ask_eq HP2.out 3 90 (q' := ⟨⟨[0, 0, 0, 0, 0], [0, 0, 0, 0, 0]⟩, 2, 2, 1⟩) rfl).mono ?_
  rintro e w3 ⟨rfl, az, bz⟩
  have HP3 := Lib.hid az
  have HB3 := Lib.hid (HB2.out.trans (bz.below HC.out HM.out HQ.out HB2.out.size))
  clear az bz HP2
  go_wp2_with fail
  refine (done_eq HP3.out 2 91 (q' := ⟨⟨[0, 0, 0, 0, 0], [0, 0, 0, 0, 0]⟩, 2, 2, 1⟩) rfl).mono ?_
  rintro e w4 ⟨rfl, az, bz⟩
  have HP4 := Lib.hid az
  have HB4 := Lib.hid (HB3.out.trans (bz.below HC.out HM.out HQ.out HB3.out.size))
  clear az bz HP3
  go_wp2_with fail
  refine (take_eq HP4.out 2 (q' := ⟨⟨[0, 0, 1, 0, 0], [0, 0, 0, 0, 0]⟩, 2, 3, 1⟩) rfl rfl).mono ?_
  rintro e w5 ⟨rfl, az, bz⟩
  have HP5 := Lib.hid az
  have HB5 := Lib.hid (HB4.out.trans (bz.below HC.out HM.out HQ.out HB4.out.size))
  clear az bz HP4
  go_wp2_with fail
  refine (take_eq HP5.out 3 (q' := ⟨⟨[0, 0, 1, 1, 0], [0, 0, 0, 0, 0]⟩, 2, 4, 1⟩) rfl rfl).mono ?_
  rintro e w6 ⟨rfl, az, bz⟩
  have HP6 := Lib.hid az
  have HB6 := Lib.hid (HB5.out.trans (bz.below HC.out HM.out HQ.out HB5.out.size))
  clear az bz HP5
  go_wp2_with fail
  refine (next_at HP6.out).mono ?_
  rintro e w' ⟨rfl, rfl⟩
  go_wp2_with fail
  refine (down_eq HP6.out.tally 2 0 (s' := ⟨[0, 0, 0, 1, 0], [0, 0, 0, 0, 0]⟩) rfl).mono ?_
  rintro e w7 ⟨rfl, az, bz⟩
  have HP7 := Lib.hid (HP6.out.turned az bz (rfl))
  have HB7 := Lib.hid (HB6.out.trans (bz.below HC.out HM.out HB6.out.size))
  clear az bz HP6
  go_wp2_with fail
  refine (room_eq HP7.out 2 rfl).mono ?_
  rintro e w' ⟨rfl, rfl⟩
  go_wp2_with fail
  refine (take_eq HP7.out 4 (q' := ⟨⟨[0, 0, 0, 1, 1], [0, 0, 0, 0, 0]⟩, 2, 2, 1⟩) rfl rfl).mono ?_
  rintro e w8 ⟨rfl, az, bz⟩
  have HP8 := Lib.hid az
  have HB8 := Lib.hid (HB7.out.trans (bz.below HC.out HM.out HQ.out HB7.out.size))
  clear az bz HP7
  go_wp2_with fail
  refine (take_eq HP8.out 2 (q' := ⟨⟨[0, 0, 1, 1, 1], [0, 0, 0, 0, 0]⟩, 2, 3, 1⟩) rfl rfl).mono ?_
  rintro e w9 ⟨rfl, az, bz⟩
  have HP9 := Lib.hid az
  have HB9 := Lib.hid (HB8.out.trans (bz.below HC.out HM.out HQ.out HB8.out.size))
  clear az bz HP8
  go_wp2_with fail
  refine (take_off HP9.out rfl).mono ?_
  rintro e w10 ⟨rfl, az, bz⟩
  have HP10 := Lib.hid az
  have HB10 := Lib.hid (HB9.out.trans (bz.below HC.out HM.out HQ.out HB9.out.size))
  clear az bz HP9
  go_wp2_with fail
  go_ret
  exact ⟨rfl, HB10.out⟩
end Go.Proofs.Ytkjdagjhbjpcnaa.Pk
