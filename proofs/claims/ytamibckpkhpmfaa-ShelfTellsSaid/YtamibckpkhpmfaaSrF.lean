/- What program and reference answer, said alike: Encode, Decode. -/
import Derived.Test.YtamibckpkhpmfaaSrD
import Derived.Test.YtamibckpkhpmfaaSfN
import Derived.Test.YtamibckpkhpmfaaSfO
namespace Go.Proofs.Ytamibckpkhpmfaa.Sf
open Go.RowKit Go.Proofs.Ytamibckpkhpmfaa.Oct
set_option linter.unusedVariables false

/-- What the reference's Decode answers of a page whose sum is right (proved beside this text). -/
def RdGood : Prop := ∀ (b o cap : Nat) (ps : List UInt8) (w : World) (hb : Has w b o ps) (hlen : ps.length = 128) (hc : 128 ≤ cap) (hm : cap ≤ maxLen) (hs : Oct.Good ps),
    Calls Try.prog 13 #[.slice (some ⟨b, o, none⟩) 128 cap] w (fun e w' => (Holds ps ∧ ∃ A n c, RYes w ps e w' A n c) ∨ (¬ Holds ps ∧ DecNo w e w'))

theorem enc_kind (d : UInt8) (nx : UInt32) (es : List Ent) : ∃ (cd : Int) (xs : List UInt8), (Fit d nx es → cd = 0 ∧ xs = shelfPage d nx es) ∧ (¬ Fit d nx es → cd = 40 ∧ xs = []) ∧ xs.length ≤ 128 := by
  by_cases h : Fit d nx es
  · exact ⟨0, shelfPage d nx es, fun _ => ⟨rfl, rfl⟩, fun k => absurd h k, by rw [length_shelfPage d nx es (fit_len h)]; exact Nat.le_refl _⟩
  · exact ⟨40, [], fun k => absurd k h, fun _ => ⟨rfl, rfl⟩, Nat.zero_le _⟩
theorem dec_kind (ps : List UInt8) : ∃ (cd : Int) (d : UInt8) (nx : UInt32) (es : List Ent), (Holds ps → cd = 0 ∧ d = dIn ps ∧ nx = nIn ps ∧ es = eIn ps) ∧ (¬ Holds ps → cd = 40 ∧ d = 0 ∧ nx = 0 ∧ es = []) := by
  by_cases h : Holds ps
  · exact ⟨0, _, _, _, fun _ => ⟨rfl, rfl, rfl, rfl⟩, fun k => absurd h k⟩
  · exact ⟨40, _, _, _, fun k => absurd k h, fun _ => ⟨rfl, rfl, rfl, rfl⟩⟩

def EncOut (w : World) (cd : Int) (xs : List UInt8) (e : Ending) (w' : World) : Prop := ∃ A len cap, e = .returned (.tuple #[.slice A len cap, .int .i64 cd]) ∧ xs.length = len ∧ Oct.Told w' A xs ∧ Below w.heap.size w w'
def DecOut (w : World) (cd : Int) (d : UInt8) (nx : UInt32) (es : List Ent) (e : Ending) (w' : World) : Prop := ∃ A n c, e = .returned (.tuple #[.agg #[.int .u8 (d.toNat : Int), .int .u32 (nx.toNat : Int), .slice A n c], .int .i64 cd]) ∧ Sh w' A n c es ∧ Below w.heap.size w w'

theorem encode_out (d : UInt8) (nx : UInt32) {w : World} {A : Option Addr} {n c : Nat} {es : List Ent} (h : Sh w A n c es) {cd : Int} {xs : List UInt8}
    (h1 : Fit d nx es → cd = 0 ∧ xs = shelfPage d nx es) (h2 : ¬ Fit d nx es → cd = 40 ∧ xs = []) : Calls Try.prog 10 #[.agg #[.int .u8 (d.toNat : Int), .int .u32 (nx.toNat : Int), .slice A n c]] w (EncOut w cd xs) := by
  by_cases hf : Fit d nx es
  · obtain ⟨rfl, rfl⟩ := h1 hf
    refine (encode_yes d nx h hf).mono ?_
    rintro e w' ⟨g, rfl, F⟩
    exact ⟨_, _, _, rfl, length_shelfPage d nx es (fit_len hf), F.has.told, F.below⟩
  · obtain ⟨rfl, rfl⟩ := h2 hf
    refine (encode_no d nx h hf).mono ?_
    rintro e w' ⟨rfl, B⟩
    exact ⟨_, _, _, rfl, rfl, .inl rfl, B⟩
theorem rencode_out (d : UInt8) (nx : UInt32) {w : World} {A : Option Addr} {n c : Nat} {es : List Ent} (h : Sh w A n c es) {cd : Int} {xs : List UInt8}
    (h1 : Fit d nx es → cd = 0 ∧ xs = shelfPage d nx es) (h2 : ¬ Fit d nx es → cd = 40 ∧ xs = []) : Calls Try.prog 11 #[.agg #[.int .u8 (d.toNat : Int), .int .u32 (nx.toNat : Int), .slice A n c]] w (EncOut w cd xs) := by
  by_cases hf : Fit d nx es
  · obtain ⟨rfl, rfl⟩ := h1 hf
    refine (rencode_yes d nx h hf).mono ?_
    rintro e w' ⟨a, c', rfl, hT, B⟩
    exact ⟨_, _, _, rfl, length_shelfPage d nx es (fit_len hf), hT, B⟩
  · obtain ⟨rfl, rfl⟩ := h2 hf
    refine (rencode_no d nx h hf).mono ?_
    rintro e w' ⟨rfl, B⟩
    exact ⟨_, _, _, rfl, rfl, .inl rfl, B⟩
theorem decode_out (a : Option Addr) (len cap : Nat) (ps : List UInt8) (hlen : ps.length = len) (hc : len ≤ cap) (hm : cap ≤ maxLen) (w : World) (hb : Oct.Told w a ps) {cd : Int} {d : UInt8} {nx : UInt32} {es : List Ent}
    (h1 : Holds ps → cd = 0 ∧ d = dIn ps ∧ nx = nIn ps ∧ es = eIn ps) (h2 : ¬ Holds ps → cd = 40 ∧ d = 0 ∧ nx = 0 ∧ es = []) : Calls Try.prog 12 #[.slice a len cap] w (DecOut w cd d nx es) := by
  refine (decode_any a len cap ps hlen hc hm w hb).mono ?_
  rintro e w' (⟨hh, g, D⟩ | ⟨hh, rfl, B⟩)
  · obtain ⟨rfl, rfl, rfl, rfl⟩ := h1 hh
    have h9 := hh.2.2.1
    exact ⟨_, _, _, D.e, D.es.sh (length_eIn ps) (by omega), D.below⟩
  · obtain ⟨rfl, rfl, rfl, rfl⟩ := h2 hh
    exact ⟨_, _, _, rfl, ⟨rfl, Nat.le_refl _, Nat.zero_le _, .inl rfl⟩, B⟩
theorem rdecode_out (HRG : RdGood) (a : Option Addr) (len cap : Nat) (ps : List UInt8) (hlen : ps.length = len) (hc : len ≤ cap) (hm : cap ≤ maxLen) (w : World) (hb : Oct.Told w a ps) {cd : Int} {d : UInt8} {nx : UInt32} {es : List Ent}
    (h1 : Holds ps → cd = 0 ∧ d = dIn ps ∧ nx = nIn ps ∧ es = eIn ps) (h2 : ¬ Holds ps → cd = 40 ∧ d = 0 ∧ nx = 0 ∧ es = []) : Calls Try.prog 13 #[.slice a len cap] w (DecOut w cd d nx es) := by
  have no : ¬ Holds ps → ∀ e w', DecNo w e w' → DecOut w cd d nx es e w' := fun hh e w' ⟨he, B⟩ => by
    obtain ⟨rfl, rfl, rfl, rfl⟩ := h2 hh
    exact ⟨_, _, _, he, ⟨rfl, Nat.le_refl _, Nat.zero_le _, .inl rfl⟩, B⟩
  by_cases h128 : len = 128
  · subst h128
    rcases hb with h0 | ⟨b, o, rfl, hb⟩
    · subst h0; simp at hlen
    · by_cases hg : Oct.Good ps
      · refine (HRG b o cap ps w hb hlen hc hm hg).mono ?_
        rintro e w' (⟨hh, A, n, c, D⟩ | ⟨hh, D⟩)
        · obtain ⟨rfl, rfl, rfl, rfl⟩ := h1 hh
          exact ⟨_, _, _, D.e, D.sh, D.below⟩
        · exact no hh _ _ D
      · exact (rdecode_sum b o cap ps w hb hlen hc hm hg).mono fun e w' h => no (fun hh => hg hh.2.1) _ _ h
  · exact (rdecode_len a len cap w h128 (Nat.le_trans hc hm)).mono fun e w' h => no (fun hh => h128 (by rw [← hlen, hh.1])) _ _ h
end Go.Proofs.Ytamibckpkhpmfaa.Sf
