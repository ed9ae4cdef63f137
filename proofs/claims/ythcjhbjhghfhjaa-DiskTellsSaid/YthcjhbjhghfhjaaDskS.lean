/- A disk behind some writes ('after'). -/
import Derived.Test.YthcjhbjhghfhjaaDskR
import Derived.IntWalk
namespace Go.Proofs.Ythcjhbjhghfhjaa.Dsk
open Go.RowKit Go.Proofs.Ythcjhbjhghfhjaa.Oct
set_option linter.unusedVariables false

theorem Pairs.at {w : World} {A : Option Addr} {ps : List (UInt8 × UInt8)} (h : Pairs w A ps) (k : Nat) (hk : k < ps.length) :
    ∃ b o, A = some ⟨b, o, none⟩ ∧ w.cell? ⟨b, o + k * 2, none⟩ = some (.int .u8 (ps[k].1.toNat : Int)) ∧ w.cell? ⟨b, o + k * 2 + 1, none⟩ = some (.int .u8 (ps[k].2.toNat : Int)) ∧ b < w.heap.size := by
  rcases h with rfl | ⟨b, o, rfl, hc⟩
  · simp at hk
  · have := hc k hk
    exact ⟨b, o, rfl, this.1, by rw [Nat.add_assoc]; exact this.2, World.block_lt_of_cell? w _ this.1⟩
theorem Pairs.older {w w' : World} {A : Option Addr} {ps : List (UInt8 × UInt8)} (h : Pairs w A ps) (hb : Below w.heap.size w w') : Pairs w' A ps := by
  rcases h with h | ⟨b, o, h, k⟩
  · exact .inl h
  · refine .inr ⟨b, o, h, fun i hi => ?_⟩
    have := k i hi
    exact ⟨(hb.cell (p := ⟨b, o + i * 2, none⟩) (World.block_lt_of_cell? w _ this.1)).trans this.1, (hb.cell (p := ⟨b, o + (i * 2 + 1), none⟩) (World.block_lt_of_cell? w _ this.2)).trans this.2⟩
theorem Pairs.take {w : World} {A : Option Addr} {ps : List (UInt8 × UInt8)} (h : Pairs w A ps) (m : Nat) : Pairs w A (ps.take m) := by
  rcases h with rfl | ⟨b, o, h, k⟩
  · left; simp
  · refine .inr ⟨b, o, h, fun i hi => ?_⟩
    have hi2 : i < ps.length := by simp at hi; omega
    have := k i hi2
    simpa using this

/-! ### Calm states: their power is on, and not armed -/
structure Calm (s : St) (k : Nat) : Prop where
  gone : s.gone = false
  armed : s.armed = false
  n : s.n = 16
  few : s.W.length ≤ k
theorem Calm.spent {s : St} {k : Nat} (h : Calm s k) : s.spent = s := by
  obtain ⟨n, B, W, g, m, l⟩ := s
  obtain rfl : m = false := h.armed
  rfl
theorem Calm.can {s : St} {k : Nat} (h : Calm s k) : s.can = true := by simp [St.can, h.armed]
theorem Calm.write {s : St} {k : Nat} (h : Calm s k) (p : Nat) (hp : p < 16) (bs : List UInt8) (hl : bs.length = 128) : s.doWrite (p : Int) bs = (0, s.wrote p bs) := by
  unfold St.doWrite
  rw [if_neg (by rw [h.gone]; decide), if_neg (fun hn => hn ⟨by omega, by rw [h.n]; omega⟩), if_neg (by omega), if_neg (by rw [h.can]; decide), h.spent]
  rfl
theorem Calm.flush {s : St} {k : Nat} (h : Calm s k) : s.doFlush = (0, s.flushed) := by
  unfold St.doFlush
  rw [if_neg (by rw [h.gone]; decide), if_neg (by rw [h.can]; decide)]
theorem Calm.wrote {s : St} {k : Nat} (h : Calm s k) (p : Nat) (bs : List UInt8) : Calm (s.wrote p bs) (k + 1) :=
  ⟨h.gone, h.armed, h.n, by simp [St.wrote]; exact h.few⟩
theorem Calm.flushed {s : St} {k : Nat} (h : Calm s k) : Calm s.flushed k := by
  have hl := laid_frame s.spent (fun _ => 128) s.W.length
  rw [h.spent] at hl
  refine ⟨?_, ?_, ?_, Nat.zero_le _⟩
  · show (laid s.spent (fun _ => 128) s.W.length).gone = false
    rw [h.spent, hl.2.2.1]; exact h.gone
  · show (laid s.spent (fun _ => 128) s.W.length).armed = false
    rw [h.spent, hl.2.2.2.1]; exact h.armed
  · show (laid s.spent (fun _ => 128) s.W.length).n = 16
    rw [h.spent, hl.1]; exact h.n
theorem calm_fresh : Calm (fresh 16) 0 := ⟨rfl, rfl, rfl, Nat.le_refl _⟩

def fill1 (c : UInt8) : List UInt8 := List.replicate 128 c
theorem length_fill1 (c : UInt8) : (fill1 c).length = 128 := by simp [fill1]
/-- The disk behind k writes, flushed behind f of them. -/
def afterTo (ps : List (UInt8 × UInt8)) (f : Nat) : Nat → St
  | 0 => fresh 16
  | k + 1 => match ps[k]? with
    | some p => if k + 1 = f then ((afterTo ps f k).wrote (p.1.toNat % 16) (fill1 p.2)).flushed else (afterTo ps f k).wrote (p.1.toNat % 16) (fill1 p.2)
    | none => afterTo ps f k
theorem afterTo_succ (ps : List (UInt8 × UInt8)) (f k : Nat) (h : k < ps.length) :
    afterTo ps f (k + 1) = if k + 1 = f then ((afterTo ps f k).wrote (ps[k].1.toNat % 16) (fill1 ps[k].2)).flushed else (afterTo ps f k).wrote (ps[k].1.toNat % 16) (fill1 ps[k].2) := by
  show (match ps[k]? with
    | some p => if k + 1 = f then ((afterTo ps f k).wrote (p.1.toNat % 16) (fill1 p.2)).flushed else (afterTo ps f k).wrote (p.1.toNat % 16) (fill1 p.2)
    | none => afterTo ps f k) = _
  rw [List.getElem?_eq_getElem h]
theorem afterTo_calm (ps : List (UInt8 × UInt8)) (f k : Nat) : Calm (afterTo ps f k) k := by
  induction k with
  | zero => exact calm_fresh
  | succ k ih =>
    unfold afterTo
    split
    · split
      · exact (ih.wrote _ _).flushed
      · exact ih.wrote _ _
    · exact ⟨ih.gone, ih.armed, ih.n, by have := ih.few; omega⟩

def AfterPost (w : World) (s : St) (e : Ending) (w' : World) : Prop := ∃ a, e = .returned (.pointer (some ⟨a, 0, none⟩)) ∧ Is w' w.heap.size a s ∧ Below w.heap.size w w'
theorem row_below {w w' : World} {g B : Nat} {bs : List UInt8} (h : Row w g bs) (hg : g < B) (b : Below B w w') : Row w' g bs := (b.block g hg).trans h
theorem Is.drew {w : World} {base a : Nat} {s : St} (h : Is w base a s) : Is w.drew base a s := by obtain ⟨_, _, _, h⟩ := h; exact ⟨_, _, _, h.drew⟩
theorem keep_put {w w' : World} {base r : Nat} {cs : Array Value} (h : w.heap[r]? = some (.cells cs 53 (0, 0))) (t : Turned dT base w w') : w'.heap[r]? = some (.cells cs 53 (0, 0)) :=
  (t.block r (Array.getElem?_eq_some_iff.1 h).1 (.inr fun cs ty fr hc => by rw [h] at hc; cases hc; rfl)).trans h
theorem mod16 (c : UInt8) : IntKind.i64.wrap ((c.toNat : Int) % 16) = (c.toNat : Int) % 16 := IntWalk.i64_in _ (by have := u8_lt c; omega)
theorem mod16t (c : UInt8) : IntKind.i64.wrap ((c.toNat : Int).tmod 16) = (c.toNat : Int) % 16 := by
  rw [Int.tmod_eq_emod_of_nonneg (by omega)]
  exact mod16 c
theorem cast16 (c : UInt8) : (c.toNat : Int) % 16 = ((c.toNat % 16 : Nat) : Int) := by omega
theorem lt16 (c : UInt8) : c.toNat % 16 < 16 := Nat.mod_lt _ (by decide)
theorem Calm.put {s : St} {k : Nat} (h : Calm s k) (c d : UInt8) : s.doWrite ((c.toNat : Int) % 16) (fill1 d) = (0, s.wrote (c.toNat % 16) (fill1 d)) := by
  rw [cast16]
  exact h.write _ (lt16 c) _ (length_fill1 d)
set_option maxRecDepth 100000 in
set_option maxHeartbeats 1600000 in
theorem after_any (A : Option Addr) (len cap : Nat) (ps : List (UInt8 × UInt8)) (w : World) (hp : Pairs w A ps) (hlen : ps.length = len) (hl : len ≤ 30) (f : Nat) (hf : f ≤ 1000) :
    Calls Try.prog 16 #[.slice A len cap, .int .i64 (f : Int)] w (AfterPost w (afterTo ps f len)) := by
  have HP := Lib.hid hp
  have HL := Lib.hid hlen
  clear hp hlen
  go_enter Try.func16, Try.ntmps16
  go_wp2_with fail
  refine (new_is 16 (by omega) (by omega) _).mono ?_
  rintro e w1 ⟨a, rfl, I1, B1⟩
  have HI1 := Lib.hid I1
  have HB1 := Lib.hid B1
  clear I1 B1
  go_wp2_with fail
  go_loopw [17] (fun i wr => ∃ k : Nat, k ≤ len ∧ i = .int .i64 (k : Int) ∧ Hid (Is wr w.heap.size a (afterTo ps f k)) ∧ Below w.heap.size w wr) (fun i _ => len - (intOf i).toNat)
  case atStart => exact ⟨0, Nat.zero_le _, rfl, HI1, HB1.out⟩
  case round =>
    obtain ⟨k, hk, rfl, HR, hB⟩ := hrel
    have HB := Lib.hid hB
    have HPR := Lib.hid (HP.out.older hB)
    clear hB
    by_cases hlt : k < len
    · have hki : (k : Int) < (len : Int) := by omega
      have hkp : k < ps.length := by rw [HL.out]; exact hlt
      obtain ⟨b, o, rfl, c1, c2, hb⟩ := HPR.out.at k hkp
      have HA := Lib.hid (afterTo_succ ps f k hkp)
      generalize ps[k] = p at c1 c2 HA
      obtain ⟨c, d⟩ := p
      go_wp2_with fail
      have b2 := (Below.refl wr.heap.size wr).alloc (Nat.le_refl _) (.cells #[.int .u8 (c.toNat : Int), .int .u8 (d.toNat : Int)] 53)
      have R2 := heap_alloc_new wr (.cells #[.int .u8 (c.toNat : Int), .int .u8 (d.toNat : Int)] 53)
      have HI2 := Lib.hid (HR.out.below b2).drew
      have HB2 := Lib.hid (HB.out.trans (b2.mono HB.out.size)).drew
      generalize wr.alloc (.cells #[.int .u8 (c.toNat : Int), .int .u8 (d.toNat : Int)] 53) = w2 at *
      obtain ⟨r, hr⟩ : ∃ r, r = wr.heap.size := ⟨_, rfl⟩
      rw [← hr] at R2 ⊢
      have HRR := Lib.hid (show w2.drew.heap[r]? = _ from R2)
      have hrl : r < w2.heap.size := (Array.getElem?_eq_some_iff.1 R2).1
      clear hr b2 c1 c2
      have c1 : w2.cell? ⟨r, 0, none⟩ = some (.int .u8 (c.toNat : Int)) := cell_of_row _ _ 0 _ _ _ R2
      have c2 : w2.cell? ⟨r, 1, none⟩ = some (.int .u8 (d.toNat : Int)) := cell_of_row _ _ 1 _ _ _ R2
      clear R2
      have HC := Lib.hid (afterTo_calm ps f k)
      have hfew : (afterTo ps f k).W.length < 1000000 := by have := HC.out.few; omega
      go_region_held3 (fun w' => w'.cell? ⟨r, 0, none⟩ = some (.int .u8 (c.toNat : Int)) ∧ w'.cell? ⟨r, 1, none⟩ = some (.int .u8 (d.toNat : Int))) (first | exact ⟨c1, c2⟩ | exact K3 | exact K4) (first | (go_at_call 26; refine (filled_any _ d rfl _).mono ?_; rintro e w3 ⟨g, rfl, hg, R3, B3⟩; have K3 := And.intro ((B3.cell (p := ⟨r, 0, none⟩) hrl).trans c1) ((B3.cell (p := ⟨r, 1, none⟩) hrl).trans c2); have HR3 := Lib.hid R3; have HB3 := Lib.hid B3; clear R3 B3) | (go_at_call 25; refine (write_is (HI2.out.below HB3.out) hfew _ _ 128 128 (fill1 d) (length_fill1 d) (fun w' t => (row_turned HR3.out t).has.told)).mono ?_; rintro e w4 ⟨rfl, I4, T4⟩; have Q4 := keep_put ((HB3.out.block r hrl).trans HRR.out) T4; have K4 := And.intro (cell_of_row _ _ 0 _ _ _ Q4) (cell_of_row _ _ 1 _ _ _ Q4); have HI4 := Lib.hid I4; have HT4 := Lib.hid T4; clear I4 T4 Q4))
      have i4 := HI4.out
      rw [mod16t, HC.out.put c d] at i4 ⊢
      have HB4 := Lib.hid (HB2.out.trans ((HB3.out.mono HB2.out.size).trans (HT4.out.below (Nat.le_trans HB2.out.size HB3.out.size))))
      have HI5 := Lib.hid i4
      clear i4 c1 c2
      by_cases hkf : k + 1 = f
      · have he : ((k : Int) + 1 == (f : Int)) = true := by rw [beq_iff_eq]; omega
        have HK := Lib.hid hkf
        clear hkf
        go_wp2_with fail
        refine (flush_is HI5.out).mono ?_
        rintro e w5 ⟨rfl, I5, T5⟩
        have i5 := I5
        rw [(HC.out.wrote _ _).flush] at i5 ⊢
        have hs := HA.out
        rw [if_pos HK.out] at hs
        have HI6 := Lib.hid (show Is w5 w.heap.size a (afterTo ps f (k + 1)) by rw [hs]; exact i5)
        have HB5 := Lib.hid (HB4.out.trans (T5.below HB4.out.size))
        clear I5 T5 i5 hs
        go_wp2_with fail
        go_roundw
        case rel => exact ⟨k + 1, by omega, by go_num, HI6, HB5.out⟩
        case measure => simp [intOf]; omega
      · have he : ((k : Int) + 1 == (f : Int)) = false := by rw [beq_eq_false_iff_ne]; omega
        have HK := Lib.hid hkf
        clear hkf
        have hs := HA.out
        rw [if_neg HK.out] at hs
        have HI6 := Lib.hid (show Is w4 w.heap.size a (afterTo ps f (k + 1)) by rw [hs]; exact HI5.out)
        clear hs
        go_wp2_with fail
        go_roundw
        case rel => exact ⟨k + 1, by omega, by go_num, HI6, HB4.out⟩
        case measure => simp [intOf]; omega
    · obtain rfl : k = len := by omega
      go_wp2_with fail
      go_ret
      exact ⟨a, rfl, HR.out, HB.out⟩
end Go.Proofs.Ythcjhbjhghfhjaa.Dsk
