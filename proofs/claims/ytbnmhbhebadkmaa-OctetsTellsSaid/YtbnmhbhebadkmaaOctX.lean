/- The walk of the statement OctetsOwn: whatever the kind and the body, it answers true and writes nothing that was there. -/
import Derived.Test.YtbnmhbhebadkmaaOctW
namespace Go.Proofs.Ytbnmhbhebadkmaa.Oct
open Go.RowKit
set_option linter.unusedVariables false

theorem again_len (a : Option Addr) (len cap : Nat) (bs : List UInt8) (hlen : bs.length = len) (w : World) (hl : len ≤ maxLen) (hb : Told w a bs) :
    Calls Try.prog 10 #[.slice a len cap] w fun e w' => ∃ g c, e = .returned (.slice (some ⟨g, 0, none⟩) len c) ∧ Fresh w w' g bs c := by
  subst hlen
  exact again_any a cap bs w hl hb

/-- n bytes stand in block b, whichever. -/
def Some8 (w : World) (b n : Nat) : Prop := ∃ cs : List UInt8, cs.length = n ∧ Has w b 0 cs
structure Over (w wr : World) (b n : Nat) : Prop where
  wrote : Wrote w wr b 0 n
  some8 : Some8 wr b n
theorem Over.start {w : World} {b : Nat} {bs : List UInt8} {n : Nat} (h : Has w b 0 bs) (hn : bs.length = n) : Over w w b n := ⟨Wrote.refl _ _ _ _, bs, hn, h⟩
theorem Over.at {w wr : World} {b n k : Nat} (h : Over w wr b n) (hk : k < n) : ∃ c : UInt8, wr.cell? ⟨b, k, none⟩ = some (.int .u8 (c.toNat : Int)) := by
  obtain ⟨cs, hn, hc⟩ := h.some8
  have := hc k (by omega)
  rw [Nat.zero_add] at this
  exact ⟨_, this⟩
theorem Over.next {w wr : World} {b n k : Nat} (h : Over w wr b n) (hk : k < n) (v : Int) (c : UInt8) (hv : v = (c.toNat : Int)) : Over w (wr.setCell ⟨b, k, none⟩ (.int .u8 v)) b n := by
  subst hv
  obtain ⟨cs, hn, hc⟩ := h.some8
  refine ⟨h.wrote.set (by omega) (by omega) _, cs.set k c, by rw [List.length_set, hn], ?_⟩
  have := hc.set k (by omega) c
  rwa [Nat.zero_add] at this
theorem succ8 (c : UInt8) : ((c.toNat : Int) + 1) % 256 = ((c + 1).toNat : Int) := by rw [UInt8.toNat_add]; simp
theorem Wrote.hasOther {w w' : World} {b lo hi c o : Nat} {bs : List UInt8} (W : Wrote w w' b lo hi) (H : Has w c o bs) (h : c ≠ b) : Has w' c o bs := fun i hi => (W.other h _).trans (H i hi)

set_option maxRecDepth 100000 in
set_option maxHeartbeats 1000000 in
theorem own_walk (a0 : Int) (a1 : Option Addr) (len1 cap1 : Nat) (z1 : List Int) (w : World) (w0 : (Lit.int .u8 a0).wf = true) (w1 : IsRow .u8 w a1 len1 cap1 z1) :
    Calls Try.prog 8 #[.int .u8 a0, .slice a1 len1 cap1] w fun e w' => e = .returned (.bool true) ∧ Below w.heap.size w w' := by
  obtain ⟨bs, hc⟩ := came w1
  have hlen := hc.hlen
  have hmax : len1 ≤ 9223372036854775807 := by have := hc.le; have := hc.hcap; unfold maxLen at this; omega
  obtain ⟨kind, rfl⟩ := u8_of w0
  have HC := Lib.hid hc
  have HL := Lib.hid hlen
  clear w0 w1 hc hlen
  by_cases h3 : 123 < len1
  · go_enter Try.func8, Try.ntmps8
    go_wp2_with (go_at_call 9; refine (awake_any _).mono ?_; rintro e w' ⟨rfl, hb⟩)
    go_ret
    exact ⟨rfl, hb⟩
  · go_enter Try.func8, Try.ntmps8
    go_wp2_with fail
    refine (again_len a1 len1 cap1 bs HL.out _ (by unfold maxLen; omega) HC.out.told).mono ?_
    rintro e w1 ⟨g, c1, rfl, F1⟩
    have hc1 := F1.cap
    unfold maxLen at hc1
    have hl1 := F1.len
    rw [HL.out] at hl1
    go_wp2_with fail
    refine (seal_any kind _ len1 c1 bs HL.out _ (by omega) F1.has.told).mono ?_
    rintro e w2 ⟨p, rfl, F2⟩
    go_wp2_with fail
    have LP := Lib.hid (length_page kind bs (by rw [HL.out]; omega))
    refine (again_len _ 128 128 (page kind bs) LP.out _ (by decide) F2.has.told).mono ?_
    rintro e w3 ⟨q, c3, rfl, F3⟩
    have G3 := (F1.has.below F1.hi F2.below).below (Nat.lt_of_lt_of_le F1.hi F2.below.size) F3.below
    have P3 := F2.has.below F2.hi F3.below
    have Z3 : ∀ i, i < len1 → w3.frozen? ⟨g, i, none⟩ = false := fun i hi => by
      rw [F3.below.frozen (p := ⟨g, i, none⟩) (Nat.lt_of_lt_of_le F1.hi F2.below.size), F2.below.frozen (p := ⟨g, i, none⟩) F1.hi]
      have := F1.free i (by rw [HL.out]; exact hi)
      rwa [Nat.zero_add] at this
    have HZ3 := Lib.hid Z3
    clear Z3
    have O3 := Over.start G3 HL.out
    go_wp2_with fail
    go_loopw [30] (fun i wr => ∃ k : Nat, k ≤ len1 ∧ i = .int .i64 k ∧ Over w3 wr g len1) (fun i _ => len1 - (intOf i).toNat)
    case atStart => exact ⟨0, Nat.zero_le _, rfl, O3⟩
    case round =>
      obtain ⟨k, hk, rfl, hrel⟩ := hrel
      have HR := Lib.hid hrel
      clear hrel
      by_cases hlt : k < len1
      · obtain ⟨c, hcell⟩ := HR.out.at hlt
        have hfz := (HR.out.wrote.frz ⟨g, k, none⟩).trans (HZ3.out k hlt)
        go_wp2
        go_roundw
        case rel => exact ⟨k + 1, by omega, by go_num, HR.out.next hlt _ (c + 1) (succ8 c)⟩
        case measure => simp [intOf]; omega
      · have gp : g < p := Nat.lt_of_lt_of_le F1.hi F2.lo
        have pq : p < q := Nat.lt_of_lt_of_le F2.hi F3.lo
        have P4 := HR.out.wrote.hasOther P3 (by omega)
        have Q4 := HR.out.wrote.hasOther F3.has (by omega)
        have hq4 : q < wr.heap.size := by rw [HR.out.wrote.size]; exact F3.hi
        have lk : (bs ++ List.replicate (123 - bs.length) 0).length = 123 := by rw [List.length_append, List.length_replicate, HL.out]; omega
        have LK := Lib.hid lk
        clear lk
        have B4 : Below w.heap.size w wr := ((F1.below.trans (F2.below.mono F1.below.size)).trans (F3.below.mono (Nat.le_trans F1.below.size F2.below.size))).trans (HR.out.wrote.below F1.lo)
        go_wp2_with fail
        refine (open_page p 0 128 kind bs (by rw [HL.out]; omega) _ P4 (by decide) (by decide)).mono ?_
        rintro e w5 ⟨r, rfl, F5⟩
        have O5 := Over.start F5.has LK.out
        have Z5 : ∀ i, i < 123 → w5.frozen? ⟨r, i, none⟩ = false := fun i hi => by
          have := F5.free i (by rw [LK.out]; exact hi)
          rwa [Nat.zero_add] at this
        have HZ5 := Lib.hid Z5
        clear Z5
        have P5 := P4.below (by omega) F5.below
        have Q5 := Q4.below hq4 F5.below
        have qr : q < r := Nat.lt_of_lt_of_le hq4 F5.lo
        have B5 := B4.trans (F5.below.mono B4.size)
        have hwr := Nat.le_trans B4.size F5.lo
        go_wp2_with fail
        go_loopw [48] (fun i wv => ∃ k : Nat, k ≤ 123 ∧ i = .int .i64 k ∧ Over w5 wv r 123) (fun i _ => 123 - (intOf i).toNat)
        case atStart => exact ⟨0, Nat.zero_le _, rfl, O5⟩
        case round =>
          obtain ⟨j, hj, rfl, hrel⟩ := hrel
          have HS := Lib.hid hrel
          clear hrel
          by_cases hlt : j < 123
          · obtain ⟨c, hcell⟩ := HS.out.at hlt
            have hfz := (HS.out.wrote.frz ⟨r, j, none⟩).trans (HZ5.out j hlt)
            go_wp2
            go_roundw
            case rel => exact ⟨j + 1, by omega, by go_num, HS.out.next hlt _ 99 rfl⟩
            case measure => simp [intOf]; omega
          · have P6 := HS.out.wrote.hasOther P5 (by omega)
            have Q6 := HS.out.wrote.hasOther Q5 (by omega)
            have B6 := B5.trans (HS.out.wrote.below hwr)
            go_wp2_with fail
            refine (equal_yes _ _ 128 128 128 c3 (page kind bs) (page kind bs) rfl LP.out LP.out _ P6.told Q6.told).mono ?_
            rintro e w' ⟨rfl, rfl⟩
            go_wp2_with fail
            refine (awake_any _).mono ?_
            rintro e w7 ⟨rfl, hb⟩
            go_wp2_with fail
            go_ret
            exact ⟨rfl, B6.trans (hb.mono B6.size)⟩
end Go.Proofs.Ytbnmhbhebadkmaa.Oct
