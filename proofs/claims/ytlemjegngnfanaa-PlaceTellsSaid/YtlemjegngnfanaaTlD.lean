/- A block goes up, and down. -/
import Derived.Test.YtlemjegngnfanaaTlC
namespace Go.Proofs.Ytlemjegngnfanaa.Tl
open Go.RowKit Go.Proofs.Ytlemjegngnfanaa.Oct Go.Proofs.Ytlemjegngnfanaa.Mv Go.Maps
set_option linter.unusedVariables false

/-- Is there such a block? -/
def St.isIn (s : St) (b : Int) : Prop := 0 ≤ b ∧ b < (s.n : Int)
instance (s : St) (b : Int) : Decidable (s.isIn b) := inferInstanceAs (Decidable (_ ∧ _))
/-- What Up answers, and what comes of it. -/
def St.up (s : St) (b : Int) : Int × St := if s.isIn b then (if s.cnt b.toNat = 65535 then (81, s) else (0, s.put b.toNat (s.cnt b.toNat + 1))) else (80, s)
def St.down (s : St) (b : Int) : Int × St := if s.isIn b then (if s.cnt b.toNat = 0 then (82, s) else (0, s.put b.toNat (s.cnt b.toNat - 1))) else (80, s)
theorem up_num (c : UInt16) (h : c ≠ 65535) : ((c.toNat : Int) + 1) % 65536 = ((c + 1).toNat : Int) := by rw [UInt16.toNat_add]; simp
theorem down_num (c : UInt16) (h : c ≠ 0) : IntKind.u16.wrap ((c.toNat : Int) - 1) = ((c - 1).toNat : Int) := by
  show ((c.toNat : Int) - 1) % 65536 = ((c - 1).toNat : Int)
  have h1 : c.toNat ≠ 0 := fun e => h (UInt16.toNat_inj.1 (by rw [e]; rfl))
  have h2 := u16_lt c
  rw [UInt16.toNat_sub]
  simp
  omega
/-- Behind an operation. -/
def Did (w : World) (a cb mb c : Nat) (r : Int × St) (e : Ending) (w' : World) : Prop := e = .returned (.int .i64 r.1) ∧ At w' a cb mb c r.2 ∧ But w w' cb mb

set_option maxRecDepth 100000 in
theorem up_at {w : World} {a cb mb c : Nat} {s : St} (h : At w a cb mb c s) (b : Int) :
    Calls Try.prog 17 #[.pointer (some ⟨a, 0, none⟩), .int .i64 b] w (Did w a cb mb c (s.up b)) := by
  have HH := Lib.hid h
  have c0 := h.c0
  have c2 := h.c2
  by_cases hb : s.isIn b
  · obtain ⟨i, rfl⟩ : ∃ i : Nat, b = (i : Int) := ⟨b.toNat, by have := hb.1; omega⟩
    have hi : i < s.n := by have := hb.2; omega
    have cc := h.count hi
    have hlt : (i : Int) < (s.n : Int) := by omega
    have hge : (0 : Int) ≤ (i : Int) := by omega
    by_cases hx : s.cnt i = 65535
    · have HU := Lib.hid (show s.up (i : Int) = (81, s) by unfold St.up; rw [if_pos hb, Int.toNat_natCast, if_pos hx])
      rw [hx] at cc
      have e1 : ((65535 : UInt16).toNat : Int) = 65535 := rfl
      rw [e1] at cc
      clear hb hx e1 h
      go_enter Try.func17, Try.ntmps17
      go_wp2_with fail
      refine (made_self a _ c2).mono ?_
      rintro e w' ⟨rfl, rfl⟩
      go_wp2_with fail
      refine (has_yes HH.out i hi).mono ?_
      rintro e w' ⟨rfl, rfl⟩
      go_wp2_with fail
      go_ret
      rw [HU.out]
      exact ⟨rfl, HH.out, But.refl _ _ _⟩
    · have HU := Lib.hid (show s.up (i : Int) = (0, s.put i (s.cnt i + 1)) by unfold St.up; rw [if_pos hb, Int.toNat_natCast, if_neg hx])
      have hne : ¬ (((s.cnt i).toNat : Int) = 65535) := fun e => hx (UInt16.toNat_inj.1 (by show _ = 65535; omega))
      have hup := up_num _ hx
      clear hb hx h
      go_enter Try.func17, Try.ntmps17
      go_wp2_with fail
      refine (made_self a _ c2).mono ?_
      rintro e w' ⟨rfl, rfl⟩
      go_wp2_with fail
      refine (has_yes HH.out i hi).mono ?_
      rintro e w' ⟨rfl, rfl⟩
      go_wp2_with fail
      refine (set_at HH.out i hi (s.cnt i + 1)).mono ?_
      rintro e w' ⟨rfl, A1, B1⟩
      have HA := Lib.hid A1
      have HB := Lib.hid B1
      clear A1 B1
      dsimp only
      go_wp2_with fail
      go_ret
      rw [HU.out]
      exact ⟨rfl, HA.out, HB.out⟩
  · have HU := Lib.hid (show s.up b = (80, s) by unfold St.up; rw [if_neg hb])
    have hb' : b < 0 ∨ (s.n : Int) ≤ b := by unfold St.isIn at hb; omega
    clear hb h
    go_enter Try.func17, Try.ntmps17
    go_wp2_with fail
    refine (made_self a _ c2).mono ?_
    rintro e w' ⟨rfl, rfl⟩
    go_wp2_with fail
    refine (has_no HH.out b hb').mono ?_
    rintro e w' ⟨rfl, rfl⟩
    go_wp2_with fail
    go_ret
    rw [HU.out]
    exact ⟨rfl, HH.out, But.refl _ _ _⟩
theorem up_nay (v : Value) (b : Int) (w : World) (h : Nay w v) :
    Calls Try.prog 17 #[v, .int .i64 b] w fun e w' => e = .returned (.int .i64 1) ∧ w = w' := by
  go_enter Try.func17, Try.ntmps17
  go_wp2_with fail
  refine (made_nay v _ h).mono ?_
  rintro e w' ⟨rfl, rfl⟩
  go_wp2_with fail
  go_ret
  exact ⟨rfl, rfl⟩

set_option maxRecDepth 100000 in
theorem down_at {w : World} {a cb mb c : Nat} {s : St} (h : At w a cb mb c s) (b : Int) :
    Calls Try.prog 19 #[.pointer (some ⟨a, 0, none⟩), .int .i64 b] w (Did w a cb mb c (s.down b)) := by
  have HH := Lib.hid h
  have c0 := h.c0
  have c2 := h.c2
  by_cases hb : s.isIn b
  · obtain ⟨i, rfl⟩ : ∃ i : Nat, b = (i : Int) := ⟨b.toNat, by have := hb.1; omega⟩
    have hi : i < s.n := by have := hb.2; omega
    have cc := h.count hi
    have hlt : (i : Int) < (s.n : Int) := by omega
    have hge : (0 : Int) ≤ (i : Int) := by omega
    by_cases hx : s.cnt i = 0
    · have HU := Lib.hid (show s.down (i : Int) = (82, s) by unfold St.down; rw [if_pos hb, Int.toNat_natCast, if_pos hx])
      rw [hx] at cc
      have e1 : ((0 : UInt16).toNat : Int) = 0 := rfl
      rw [e1] at cc
      clear hb hx e1 h
      go_enter Try.func19, Try.ntmps19
      go_wp2_with fail
      refine (made_self a _ c2).mono ?_
      rintro e w' ⟨rfl, rfl⟩
      go_wp2_with fail
      refine (has_yes HH.out i hi).mono ?_
      rintro e w' ⟨rfl, rfl⟩
      go_wp2_with fail
      go_ret
      rw [HU.out]
      exact ⟨rfl, HH.out, But.refl _ _ _⟩
    · have HU := Lib.hid (show s.down (i : Int) = (0, s.put i (s.cnt i - 1)) by unfold St.down; rw [if_pos hb, Int.toNat_natCast, if_neg hx])
      have hne : ¬ (((s.cnt i).toNat : Int) = 0) := fun e => hx (UInt16.toNat_inj.1 (by show _ = 0; omega))
      have hup := down_num _ hx
      clear hb hx h
      go_enter Try.func19, Try.ntmps19
      go_wp2_with fail
      refine (made_self a _ c2).mono ?_
      rintro e w' ⟨rfl, rfl⟩
      go_wp2_with fail
      refine (has_yes HH.out i hi).mono ?_
      rintro e w' ⟨rfl, rfl⟩
      go_wp2_with fail
      refine (set_at HH.out i hi (s.cnt i - 1)).mono ?_
      rintro e w' ⟨rfl, A1, B1⟩
      have HA := Lib.hid A1
      have HB := Lib.hid B1
      clear A1 B1
      dsimp only
      go_wp2_with fail
      go_ret
      rw [HU.out]
      exact ⟨rfl, HA.out, HB.out⟩
  · have HU := Lib.hid (show s.down b = (80, s) by unfold St.down; rw [if_neg hb])
    have hb' : b < 0 ∨ (s.n : Int) ≤ b := by unfold St.isIn at hb; omega
    clear hb h
    go_enter Try.func19, Try.ntmps19
    go_wp2_with fail
    refine (made_self a _ c2).mono ?_
    rintro e w' ⟨rfl, rfl⟩
    go_wp2_with fail
    refine (has_no HH.out b hb').mono ?_
    rintro e w' ⟨rfl, rfl⟩
    go_wp2_with fail
    go_ret
    rw [HU.out]
    exact ⟨rfl, HH.out, But.refl _ _ _⟩
theorem down_nay (v : Value) (b : Int) (w : World) (h : Nay w v) :
    Calls Try.prog 19 #[v, .int .i64 b] w fun e w' => e = .returned (.int .i64 1) ∧ w = w' := by
  go_enter Try.func19, Try.ntmps19
  go_wp2_with fail
  refine (made_nay v _ h).mono ?_
  rintro e w' ⟨rfl, rfl⟩
  go_wp2_with fail
  go_ret
  exact ⟨rfl, rfl⟩
end Go.Proofs.Ytlemjegngnfanaa.Tl

