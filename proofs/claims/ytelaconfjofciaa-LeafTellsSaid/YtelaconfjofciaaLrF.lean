/- What program and reference answer, said alike: Encode, Decode. -/
import Derived.Test.YtelaconfjofciaaLrE
namespace Go.Proofs.Ytelaconfjofciaa.Lf
open Go.RowKit Go.Proofs.Ytelaconfjofciaa.Oct
set_option linter.unusedVariables false

theorem enc_kind (l : Bool) (ks vs : List UInt64) : ∃ (cd : Int) (xs : List UInt8), (Fit l ks vs → cd = 0 ∧ xs = nodePage l ks vs) ∧ (¬ Fit l ks vs → cd = 30 ∧ xs = []) ∧ xs.length ≤ 128 := by
  by_cases h : Fit l ks vs
  · exact ⟨0, nodePage l ks vs, fun _ => ⟨rfl, rfl⟩, fun k => absurd h k, by rw [length_nodePage l ks vs h.2.1 h.1]; exact Nat.le_refl _⟩
  · exact ⟨30, [], fun k => absurd k h, fun _ => ⟨rfl, rfl⟩, Nat.zero_le _⟩
theorem dec_kind (ps : List UInt8) : ∃ (cd : Int) (l : Bool) (ks vs : List UInt64), (Holds ps → cd = 0 ∧ l = leafIn ps ∧ ks = keysIn ps ∧ vs = valsIn ps) ∧ (¬ Holds ps → cd = 30 ∧ l = false ∧ ks = [] ∧ vs = []) := by
  by_cases h : Holds ps
  · exact ⟨0, _, _, _, fun _ => ⟨rfl, rfl, rfl, rfl⟩, fun k => absurd h k⟩
  · exact ⟨30, _, _, _, fun k => absurd k h, fun _ => ⟨rfl, rfl, rfl, rfl⟩⟩

def EncOut (w : World) (cd : Int) (xs : List UInt8) (e : Ending) (w' : World) : Prop := ∃ A len cap, e = .returned (.tuple #[.slice A len cap, .int .i64 cd]) ∧ xs.length = len ∧ Oct.Told w' A xs ∧ Below w.heap.size w w'
def DecOut (w : World) (cd : Int) (l : Bool) (ks vs : List UInt64) (e : Ending) (w' : World) : Prop := ∃ A n c B m d, e = .returned (.tuple #[.agg #[.bool l, .slice A n c, .slice B m d], .int .i64 cd]) ∧ Nd w' A n c B m d ks vs ∧ n ≤ 7 ∧ m ≤ 7 ∧ Below w.heap.size w w'

theorem encode_out (l : Bool) {w : World} {A B : Option Addr} {n c m d : Nat} {ks vs : List UInt64} (h : Nd w A n c B m d ks vs) (hn : n ≤ 1000) (hm : m ≤ 1000) {cd : Int} {xs : List UInt8}
    (h1 : Fit l ks vs → cd = 0 ∧ xs = nodePage l ks vs) (h2 : ¬ Fit l ks vs → cd = 30 ∧ xs = []) : Calls Try.prog 12 #[.agg #[.bool l, .slice A n c, .slice B m d]] w (EncOut w cd xs) := by
  by_cases hf : Fit l ks vs
  · obtain ⟨rfl, rfl⟩ := h1 hf
    refine (encode_yes l h hf).mono ?_
    rintro e w' ⟨g, rfl, F⟩
    exact ⟨_, _, _, rfl, length_nodePage l ks vs hf.2.1 hf.1, F.has.told, F.below⟩
  · obtain ⟨rfl, rfl⟩ := h2 hf
    refine (encode_no l h hn hm hf).mono ?_
    rintro e w' ⟨rfl, B⟩
    exact ⟨_, _, _, rfl, rfl, .inl rfl, B⟩
theorem rencode_out (l : Bool) {w : World} {A B : Option Addr} {n c m d : Nat} {ks vs : List UInt64} (h : Nd w A n c B m d ks vs) (hn : n ≤ 1000) (hm : m ≤ 1000) {cd : Int} {xs : List UInt8}
    (h1 : Fit l ks vs → cd = 0 ∧ xs = nodePage l ks vs) (h2 : ¬ Fit l ks vs → cd = 30 ∧ xs = []) : Calls Try.prog 13 #[.agg #[.bool l, .slice A n c, .slice B m d]] w (EncOut w cd xs) := by
  by_cases hf : Fit l ks vs
  · obtain ⟨rfl, rfl⟩ := h1 hf
    refine (rencode_yes l h hf).mono ?_
    rintro e w' ⟨v, base, rfl, O, _, B⟩
    obtain ⟨a, cp, rfl, hT, _⟩ := O.slice
    exact ⟨_, _, _, rfl, rfl, hT, B⟩
  · obtain ⟨rfl, rfl⟩ := h2 hf
    refine (rencode_no l h hn hm hf).mono ?_
    rintro e w' ⟨rfl, B⟩
    exact ⟨_, _, _, rfl, rfl, .inl rfl, B⟩
theorem decode_out (a : Option Addr) (len cap : Nat) (ps : List UInt8) (hlen : ps.length = len) (hc : len ≤ cap) (hm : cap ≤ maxLen) (w : World) (hb : Oct.Told w a ps) {cd : Int} {l : Bool} {ks vs : List UInt64}
    (h1 : Holds ps → cd = 0 ∧ l = leafIn ps ∧ ks = keysIn ps ∧ vs = valsIn ps) (h2 : ¬ Holds ps → cd = 30 ∧ l = false ∧ ks = [] ∧ vs = []) : Calls Try.prog 14 #[.slice a len cap] w (DecOut w cd l ks vs) := by
  refine (decode_any a len cap ps hlen hc hm w hb).mono ?_
  rintro e w' (⟨hh, g, g', D⟩ | ⟨hh, rfl, B⟩)
  · obtain ⟨rfl, rfl, rfl, rfl⟩ := h1 hh
    have h7 := hh.2.2.2.1.1
    exact ⟨_, _, _, _, _, _, D.e, ⟨rfl, hh.2.2.2.1.2.1, Nat.le_refl _, by unfold maxLen; omega, Nat.le_refl _, by unfold maxLen; omega, D.ks.has.told, D.vs.has.told⟩, h7, h7, D.below⟩
  · obtain ⟨rfl, rfl, rfl, rfl⟩ := h2 hh
    exact ⟨_, _, _, _, _, _, rfl, nd_nil _, Nat.zero_le _, Nat.zero_le _, B⟩
theorem rdecode_out (a : Option Addr) (len cap : Nat) (ps : List UInt8) (hlen : ps.length = len) (hc : len ≤ cap) (hm : cap ≤ maxLen) (w : World) (hb : Oct.Told w a ps) {cd : Int} {l : Bool} {ks vs : List UInt64}
    (h1 : Holds ps → cd = 0 ∧ l = leafIn ps ∧ ks = keysIn ps ∧ vs = valsIn ps) (h2 : ¬ Holds ps → cd = 30 ∧ l = false ∧ ks = [] ∧ vs = []) : Calls Try.prog 15 #[.slice a len cap] w (DecOut w cd l ks vs) := by
  have no : ¬ Holds ps → ∀ e w', DecNo w e w' → DecOut w cd l ks vs e w' := fun hh e w' ⟨he, B⟩ => by
    obtain ⟨rfl, rfl, rfl, rfl⟩ := h2 hh
    exact ⟨_, _, _, _, _, _, he, nd_nil _, Nat.zero_le _, Nat.zero_le _, B⟩
  by_cases h128 : len = 128
  · subst h128
    rcases hb with h0 | ⟨b, o, rfl, hb⟩
    · subst h0; simp at hlen
    · by_cases hg : Oct.Good ps
      · refine (rdecode_good b o cap ps w hb hlen hc hm hg).mono ?_
        rintro e w' (⟨hh, vK, vV, base, D⟩ | ⟨hh, D⟩)
        · obtain ⟨rfl, rfl, rfl, rfl⟩ := h1 hh
          have h7 := hh.2.2.2.1.1
          have hv := hh.2.2.2.1.2.1
          obtain ⟨a1, cp1, rfl, hT1, hc1, hm1⟩ := D.ks.slice
          obtain ⟨a2, cp2, rfl, hT2, hc2, hm2⟩ := D.vs.slice
          exact ⟨_, _, _, _, _, _, D.e, ⟨rfl, rfl, hc1, hm1, hc2, hm2, hT1, hT2⟩, h7, by omega, D.below⟩
        · exact no hh e w' D
      · exact (rdecode_sum b o cap ps w hb hlen hc hm hg).mono fun e w' h => no (fun hh => hg hh.2.1) e w' h
  · exact (rdecode_len a len cap w h128 (Nat.le_trans hc hm)).mono fun e w' h => no (fun hh => h128 (by rw [← hlen, hh.1])) e w' h

/-- Two lists copied into a node of its own. -/
structure Made2 (w4 W : World) (a gk gv : Nat) (l : Bool) (n m : Nat) (ks vs : List UInt64) : Prop where
  n0 : W.cell? ⟨a, 0, none⟩ = some (.bool l)
  n1 : W.cell? ⟨a, 1, none⟩ = some (.slice (some ⟨gk, 0, none⟩) n n)
  n2 : W.cell? ⟨a, 2, none⟩ = some (.slice (some ⟨gv, 0, none⟩) m m)
  below : Below w4.heap.size w4 W
  rk : RowN W gk 43 ks
  rv : RowN W gv 43 vs
theorem made2_alloc {w4 wk wv : World} {gk gv n m : Nat} {ks vs : List UInt64} (l : Bool) (FK : FreshN w4.drew wk gk ks) (FV : FreshN wk wv gv vs) (BV : Below w4.heap.size w4 wv) :
    Made2 w4 (wv.alloc (.cells #[.bool l, .slice (some ⟨gk, 0, none⟩) n n, .slice (some ⟨gv, 0, none⟩) m m] 24)) wv.heap.size gk gv l n m ks vs := by
  have b := (Below.refl wv.heap.size wv).alloc (Nat.le_refl _) (.cells #[.bool l, .slice (some ⟨gk, 0, none⟩) n n, .slice (some ⟨gv, 0, none⟩) m m] 24)
  have rk := FK.row.below FK.hi FV.below
  exact ⟨box_cell wv _ _ 0 _ rfl, box_cell wv _ _ 1 _ rfl, box_cell wv _ _ 2 _ rfl, BV.trans (b.mono BV.size), rk.below rk.lt b, FV.row.below FV.hi b⟩
theorem made2_set {w4 W1 W2 wk wv : World} {a gk gv n m : Nat} {ks vs : List UInt64} (l : Bool) (FK : FreshN W1 wk gk ks) (FV : FreshN W2 wv gv vs) (h2 : Below wk.heap.size wk W2) (BV : Below w4.heap.size w4 wv) (Z : Res wv a) (ha : w4.heap.size ≤ a) (hk : a ≠ gk) (hv : a ≠ gv) :
    Made2 w4 (((wv.setCell ⟨a, 0, none⟩ (.bool l)).setCell ⟨a, 1, none⟩ (.slice (some ⟨gk, 0, none⟩) n n)).setCell ⟨a, 2, none⟩ (.slice (some ⟨gv, 0, none⟩) m m)) a gk gv l n m ks vs := by
  have rk := (FK.row.below FK.hi h2).below (Nat.lt_of_lt_of_le FK.hi h2.size) FV.below
  refine ⟨?_, ?_, ?_, ((BV.setCell (p := ⟨a, 0, none⟩) ha _).setCell (p := ⟨a, 1, none⟩) ha _).setCell (p := ⟨a, 2, none⟩) ha _, ((rk.other (fun e => hk e.symm)).other (fun e => hk e.symm)).other (fun e => hk e.symm), ((FV.row.other (fun e => hv e.symm)).other (fun e => hv e.symm)).other (fun e => hv e.symm)⟩
  · rw [set_other (by omega), set_other (by omega), set_same Z.c0]
  · rw [set_other (by omega)]
    exact set_same ((set_other (by omega)).trans Z.c1)
  · exact set_same (((set_other (by omega)).trans (set_other (by omega))).trans Z.c2)
end Go.Proofs.Ytelaconfjofciaa.Lf
