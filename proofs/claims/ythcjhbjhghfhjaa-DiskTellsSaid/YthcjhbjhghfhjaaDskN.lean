/- What the verifier's Filled, EqualPlaces and says answer. -/
import Derived.Test.YthcjhbjhghfhjaaDskL
namespace Go.Proofs.Ythcjhbjhghfhjaa.Dsk
open Go.RowKit Go.Proofs.Ythcjhbjhghfhjaa.Oct
set_option linter.unusedVariables false

def FilledPost (w : World) (c : UInt8) (e : Ending) (w' : World) : Prop := ∃ g, e = .returned (.slice (some ⟨g, 0, none⟩) 128 128) ∧ w.heap.size ≤ g ∧ Row w' g (List.replicate 128 c) ∧ Below w.heap.size w w'
def filledTo (c : UInt8) (k : Nat) : List UInt8 := List.replicate k c ++ List.replicate (128 - k) 0
theorem filledTo_set (c : UInt8) (k : Nat) (h : k < 128) : (filledTo c k).set k c = filledTo c (k + 1) := by
  unfold filledTo
  rw [List.set_append_right (h := by simp), List.length_replicate, Nat.sub_self, show 128 - k = (128 - (k + 1)) + 1 by omega, List.replicate_succ, List.set_cons_zero]
  rw [List.replicate_succ' (n := k), List.append_assoc]
  rfl
theorem length_filledTo (c : UInt8) (k : Nat) (h : k ≤ 128) : (filledTo c k).length = 128 := by simp [filledTo]; omega
theorem filledTo_end (c : UInt8) : filledTo c 128 = List.replicate 128 c := by
  unfold filledTo
  rw [Nat.sub_self, List.replicate_zero, List.append_nil]
set_option maxRecDepth 100000 in
set_option maxHeartbeats 800000 in
theorem filled_any (z : Int) (c : UInt8) (hz : z = (c.toNat : Int)) (w : World) : Calls Try.prog 26 #[.int .u8 z] w (FilledPost w c) := by
  subst hz
  have hmk : (Instr.makeSlice 33 (.int .i64 128) (.int .i64 128)).run Try.prog w = .ok (.slice (some ⟨w.heap.size, 0, none⟩) 128 128) (w.alloc (.cells (vals (List.replicate 128 0)).toArray 5)) := run_make_bytes w 128 (by omega)
  have R1 : Row (w.alloc (.cells (vals (List.replicate 128 0)).toArray 5)) w.heap.size (filledTo c 0) := alloc_row w (List.replicate 128 0)
  have B1 := (Below.refl w.heap.size w).alloc (Nat.le_refl _) (.cells (vals (List.replicate 128 0)).toArray 5)
  generalize w.alloc (.cells (vals (List.replicate 128 0)).toArray 5) = w1 at hmk R1 B1
  obtain ⟨g, hg⟩ : ∃ g, g = w.heap.size := ⟨_, rfl⟩
  rw [← hg] at hmk R1
  have HG := Lib.hid hg
  have HR := Lib.hid R1
  have HB := Lib.hid B1
  clear hg R1 B1
  go_enter Try.func26, Try.ntmps26
  go_wp2_with fail
  clear hmk
  go_loopw [4] (fun i wr => ∃ k : Nat, k ≤ 128 ∧ i = .int .i64 (k : Int) ∧ Hid (Row wr g (filledTo c k)) ∧ Below w.heap.size w wr) (fun i _ => 128 - (intOf i).toNat)
  case atStart => exact ⟨0, Nat.zero_le _, rfl, HR, HB.out⟩
  case round =>
    obtain ⟨k, hk, rfl, hR, hB⟩ := hrel
    have HB3 := Lib.hid hB
    clear hB
    by_cases hlt : k < 128
    · have hki : (k : Int) < 128 := by omega
      have hc := hR.out.has k (by rw [length_filledTo c k hk]; exact hlt)
      rw [Nat.zero_add] at hc
      have hf : wr.frozen? ⟨g, k, none⟩ = false := frozen_of_row wr g k _ _ hR.out
      have hs := hR.out.set k c
      rw [filledTo_set c k hlt] at hs
      have HS := Lib.hid hs
      have HB2 := Lib.hid (HB3.out.setCell (p := ⟨g, k, none⟩) (by rw [HG.out]; exact Nat.le_refl _) (.int .u8 (c.toNat : Int)))
      generalize (filledTo c k)[k]'(by rw [length_filledTo c k hk]; exact hlt) = old at hc
      clear hs
      go_wp2
      go_roundw
      case rel => exact ⟨k + 1, by omega, by go_num, HS, HB2.out⟩
      case measure => simp [intOf]; omega
    · obtain rfl : k = 128 := by omega
      go_wp2
      go_ret
      have hr := hR.out
      rw [filledTo_end] at hr
      exact ⟨g, rfl, by rw [HG.out]; exact Nat.le_refl _, hr, HB3.out⟩

/-! ### EqualPlaces -/
def EqPost (w : World) (b : Bool) (e : Ending) (w' : World) : Prop := e = .returned (.bool b) ∧ Still w w'
theorem Ints.at {w : World} {A : Option Addr} {zs : List Int} (h : Ints w A zs) (k : Nat) (hk : k < zs.length) : ∃ b o, A = some ⟨b, o, none⟩ ∧ w.cell? ⟨b, o + k, none⟩ = some (.int .i64 zs[k]) := by
  rcases h with rfl | ⟨b, o, h, hc⟩
  · simp at hk
  · exact ⟨b, o, h, hc k hk⟩
set_option maxHeartbeats 800000 in
theorem eqplaces_any (A C : Option Addr) (n m c d : Nat) (xs ys : List Int) (hx : xs.length = n) (hy : ys.length = m) (w : World) (hX : Ints w A xs) (hY : Ints w C ys) (hn : n ≤ 1000000) :
    Calls Try.prog 28 #[.slice A n c, .slice C m d] w (EqPost w (decide (xs = ys))) := by
  have HX := Lib.hid hX
  have HY := Lib.hid hY
  have HLX := Lib.hid hx
  have HLY := Lib.hid hy
  clear hX hY hx hy
  by_cases hnm : n = m
  · subst hnm
    have he : ((n : Int) != (n : Int)) = false := by simp
    go_enter Try.func28, Try.ntmps28
    go_wp2_with fail
    clear he
    go_loopw [5] (fun i wr => ∃ k : Nat, k ≤ n ∧ i = .int .i64 (k : Int) ∧ Hid (xs.drop k = ys.drop k) ∧ Still w wr) (fun i _ => (intOf i).toNat)
    case atStart => exact ⟨n, Nat.le_refl _, rfl, Lib.hid (by rw [List.drop_of_length_le (by rw [HLX.out]; exact Nat.le_refl _), List.drop_of_length_le (by rw [HLY.out]; exact Nat.le_refl _)]), ⟨rfl, rfl, rfl, rfl⟩⟩
    case round =>
      obtain ⟨k, hk, rfl, hD, hS⟩ := hrel
      have HS := Lib.hid hS
      clear hS
      by_cases hpos : 0 < k
      · obtain ⟨j, rfl⟩ : ∃ j, k = j + 1 := ⟨k - 1, by omega⟩
        have hjx : j < xs.length := by rw [HLX.out]; omega
        have hjy : j < ys.length := by rw [HLY.out]; omega
        obtain ⟨b1, o1, rfl, k1⟩ := HX.out.at j hjx
        obtain ⟨b2, o2, rfl, k2⟩ := HY.out.at j hjy
        have k1' := (HS.out.cell _).trans k1
        have k2' := (HS.out.cell _).trans k2
        have hdx := List.drop_eq_getElem_cons hjx
        have hdy := List.drop_eq_getElem_cons hjy
        have hjn : (j : Int) < (n : Int) := by omega
        have HDX := Lib.hid hdx
        have HDY := Lib.hid hdy
        clear k1 k2 hdx hdy
        generalize xs[j] = x at *
        generalize ys[j] = y at *
        by_cases hxy : x = y
        · have ht : (x != y) = false := by simpa using hxy
          have HXY := Lib.hid hxy
          clear hxy
          go_wp2_with fail
          go_quiet (fail)
          go_wp2_with fail
          go_roundw
          case rel => exact ⟨j, by omega, by go_num, Lib.hid (by rw [HDX.out, HDY.out, hD.out, HXY.out]), ⟨HS.out.os, HS.out.tape, HS.out.output, HS.out.heap⟩⟩
          case measure => simp [intOf]
        · have ht : (x != y) = true := by simpa using hxy
          have HXY := Lib.hid hxy
          clear hxy
          go_wp2_with fail
          go_quiet (fail)
          go_wp2_with fail
          go_ret
          refine ⟨?_, ⟨HS.out.os, HS.out.tape, HS.out.output, HS.out.heap⟩⟩
          have hne : xs ≠ ys := fun e => by
            have h1 := HDX.out
            have h2 := HDY.out
            rw [e, h2] at h1
            injection h1 with h1 _
            exact HXY.out h1.symm
          rw [decide_eq_false hne]
          rfl
      · obtain rfl : k = 0 := by omega
        go_wp2_with fail
        go_ret
        have he : xs = ys := by simpa using hD.out
        rw [decide_eq_true he]
        exact ⟨rfl, HS.out⟩
  · have he : ((n : Int) != (m : Int)) = true := by rw [bne_iff_ne]; omega
    have hne : xs ≠ ys := fun e => hnm (by rw [← HLX.out, ← HLY.out, e])
    have HF := Lib.hid (decide_eq_false hne)
    clear hnm hne
    go_enter Try.func28, Try.ntmps28
    go_wp2_with fail
    go_ret
    rw [HF.out]
    exact ⟨rfl, ⟨rfl, rfl, rfl, rfl⟩⟩

/-! ### says -/
def BoolPost (w : World) (b : Bool) (e : Ending) (w' : World) : Prop := e = .returned (.bool b) ∧ Below w.heap.size w w'
set_option maxHeartbeats 400000 in
theorem says_law {w : World} {base a : Nat} {s : St} (h : Is w base a s) (hg : s.gone = false) (z : Int) (p : Nat) (hz : z = (p : Int)) (hp : p < s.n) (fa : Option Addr) (fl fc : Nat) (fs : List UInt8) (hfl : fs.length = fl) (hl : fl ≤ 128) (hf : Oct.Told w fa fs) (hold : fs ≠ [] → ∀ x, fa = some x → x.block < w.heap.size) :
    Calls Try.prog 23 #[.pointer (some ⟨a, 0, none⟩), .int .i64 z, .slice fa fl fc] w (BoolPost w ((s.says p).take fl == fs)) := by
  subst hz
  have HI := Lib.hid h
  have HG := Lib.hid hg
  have HF := Lib.hid hf
  have HL := Lib.hid hfl
  have HO := Lib.hid hold
  have hsl := Lib.hid (h.says_len p hp)
  clear h hg hf hfl hold
  go_enter Try.func23, Try.ntmps23
  go_wp2_with fail
  refine (read_yes HI.out HG.out p hp).mono ?_
  rintro e w2 ⟨g, rfl, hge, R2, B2⟩
  have T2 : Oct.Told w2 fa fs := by
    rcases HF.out with h | ⟨b, o, h, k⟩
    · exact .inl h
    · by_cases h0 : fs = []
      · exact .inl h0
      · exact .inr ⟨b, o, h, k.below (HO.out h0 _ h) B2⟩
  have T1 : Oct.Told w2 (some ⟨g, 0, none⟩) ((s.says p).take fl) := (R2.has.pre fl).told
  have HT1 := Lib.hid T1
  have HT2 := Lib.hid T2
  have HB2 := Lib.hid B2
  have hli : (fl : Int) ≤ 128 := by omega
  clear T1 T2 R2 B2
  go_wp2_with fail
  refine (equal_len _ _ _ _ _ _ _ _ (by rw [List.length_take, hsl.out]; omega) HL.out _ HT1.out HT2.out).mono ?_
  rintro e w' ⟨rfl, rfl⟩
  go_wp2_with fail
  go_ret
  exact ⟨rfl, HB2.out⟩
end Go.Proofs.Ythcjhbjhghfhjaa.Dsk
