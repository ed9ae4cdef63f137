/- What octets.Open answers, with its bytes in memory as told. -/
import Derived.Test.YtkhimoclikhlaaaOctF
namespace Go.Proofs.Ytkhimoclikhlaaa.Oct
open Go.RowKit
set_option linter.unusedVariables false
theorem open_len (a : Option Addr) (len cap : Nat) (w : World) (h : len ≠ 128) (hm : len ≤ maxLen) :
    Calls Try.prog 30 #[.slice a len cap] w fun e w' => e = .returned (.tuple #[.int .u8 0, .slice none 0 0, .int .i64 10]) ∧ w = w' := by
  unfold maxLen at hm
  have ht : (((len : Nat) : Int) != 128) = true := by rw [bne_iff_ne]; omega
  clear h
  go_enter Try.func30, Try.ntmps30
  go_wp2
  go_ret3
  exact ⟨rfl, rfl⟩
/-- What a walk of Open on a block of 128 bytes is told. -/
structure OpenIn (w : World) (b o : Nat) (ps : List UInt8) : Prop where
  h1 : Has w b o (ps.take 124)
  h2 : Has w b (o + 124) (ps.drop 124)
  hm : Has w b (o + 1) ((ps.drop 1).take 123)
  l1 : (ps.take 124).length = 124
  l2 : (ps.drop 124).length = 4
  lm : ((ps.drop 1).take 123).length = 123
theorem open_in {w : World} {b o : Nat} {ps : List UInt8} (hb : Has w b o ps) (hlen : ps.length = 128) : OpenIn w b o ps := by
  have h2 := hb.cut 124 4
  rw [List.take_of_length_le (by simp; omega)] at h2
  exact ⟨hb.pre 124, h2, hb.cut 1 123, by simp; omega, by simp; omega, by simp; omega⟩
set_option maxHeartbeats 400000 in
theorem open_bad (b o cap : Nat) (ps : List UInt8) (w : World) (hb : Has w b o ps) (hlen : ps.length = 128) (hc : 128 ≤ cap) (hm : cap ≤ maxLen) (hs : num (ps.drop 124) ≠ sum (ps.take 124)) :
    Calls Try.prog 30 #[.slice (some ⟨b, o, none⟩) 128 cap] w fun e w' => e = .returned (.tuple #[.int .u8 0, .slice none 0 0, .int .i64 10]) ∧ Still w w' := by
  have I := open_in hb hlen
  have hsl := sum_lt (ps.take 124)
  have hnl := num_lt8 (ps.drop 124) (by rw [I.l2]; omega)
  have ht : ((num (ps.drop 124) : Int) != (sum (ps.take 124) : Int)) = true := by rw [bne_iff_ne]; omega
  clear hlen hb hs
  have hm' := hm
  unfold maxLen at hm'
  go_enter Try.func30, Try.ntmps30
  go_wp2_with fail
  refine (parts_any b o cap _ hc hm).mono ?_
  rintro e w2 ⟨rfl, S2⟩
  go_wp2_with fail
  refine (get_04 b (o + 124) 4 _ I.l2 _ (I.h2.still S2)).mono ?_
  rintro e w' ⟨rfl, rfl⟩
  go_wp2_with fail
  refine (sum_len b o 124 cap _ I.l1 _ (by decide) (I.h1.still S2)).mono ?_
  rintro e w' ⟨rfl, rfl⟩
  go_wp2_with fail
  go_ret3
  exact ⟨rfl, S2⟩
def OpenPost (w : World) (kind : UInt8) (bs : List UInt8) (e : Ending) (w' : World) : Prop :=
  ∃ g, e = .returned (.tuple #[.int .u8 (kind.toNat : Int), .slice (some ⟨g, 0, none⟩) 123 123, .int .i64 0]) ∧ Fresh w w' g bs 123
set_option maxHeartbeats 400000 in
theorem open_good (b o cap : Nat) (ps : List UInt8) (w : World) (hb : Has w b o ps) (hlen : ps.length = 128) (hc : 128 ≤ cap) (hm : cap ≤ maxLen) (hs : num (ps.drop 124) = sum (ps.take 124)) :
    Calls Try.prog 30 #[.slice (some ⟨b, o, none⟩) 128 cap] w (OpenPost w (ps[0]'(by omega)) ((ps.drop 1).take 123)) := by
  have I := open_in hb hlen
  have hsl := sum_lt (ps.take 124)
  have hnl := num_lt8 (ps.drop 124) (by rw [I.l2]; omega)
  have ht : ((num (ps.drop 124) : Int) != (sum (ps.take 124) : Int)) = false := by rw [hs]; simp
  have c0 := hb 0 (by omega)
  rw [Nat.add_zero] at c0
  have hbw := World.block_lt_of_cell? w _ c0
  have HC := Lib.hid c0
  generalize ps[0]'(by omega) = kind at HC
  clear hlen hb hs c0
  have hm' := hm
  unfold maxLen at hm'
  go_enter Try.func30, Try.ntmps30
  go_wp2_with fail
  refine (parts_any b o cap _ hc hm).mono ?_
  rintro e w2 ⟨rfl, S2⟩
  go_wp2_with fail
  refine (get_04 b (o + 124) 4 _ I.l2 _ (I.h2.still S2)).mono ?_
  rintro e w' ⟨rfl, rfl⟩
  go_wp2_with fail
  refine (sum_len b o 124 cap _ I.l1 _ (by decide) (I.h1.still S2)).mono ?_
  rintro e w' ⟨rfl, rfl⟩
  have hmk : (Instr.makeSlice 28 (.int .i64 123) (.int .i64 123)).run Try.prog w2 = .ok (.slice (some ⟨w2.heap.size, 0, none⟩) 123 123) (w2.alloc (.cells (vals (List.replicate 123 0)).toArray 5)) := run_make_bytes w2 123 (by omega)
  have R3 := alloc_row w2 (List.replicate 123 0)
  have B3 := (S2.below w.heap.size).alloc (by rw [S2.heap]; exact Nat.le_refl _) (.cells (vals (List.replicate 123 0)).toArray 5)
  generalize w2.alloc (.cells (vals (List.replicate 123 0)).toArray 5) = w3 at hmk R3 B3
  obtain ⟨g, hg⟩ : ∃ g, g = w2.heap.size := ⟨_, rfl⟩
  rw [← hg] at hmk R3
  rw [S2.heap] at hg
  have HG := Lib.hid hg
  clear hg
  have T3 : Told w3 (some ⟨b, o + 1, none⟩) ((ps.drop 1).take 123) := .inr ⟨b, o + 1, rfl, fun i hi => (B3.cell hbw).trans (I.hm i hi)⟩
  have e3 : w3.cell? ⟨b, o, none⟩ = some (.int .u8 (kind.toNat : Int)) := (B3.cell hbw).trans HC.out
  obtain ⟨w4, hcopy, R4, B4⟩ := run_copy_bytes w3 3 g 0 123 123 _ ((ps.drop 1).take 123) R3 _ 123 123 I.lm T3 (by omega) (by simp)
  have e4 : w4.cell? ⟨b, o, none⟩ = some (.int .u8 (kind.toNat : Int)) := (B4.cell (by rw [HG.out]; exact hbw)).trans e3
  rw [splice_all _ _ (by rw [I.lm]; simp)] at R4
  replace B4 := B3.trans (B4.mono (by rw [HG.out]; exact Nat.le_refl _))
  clear R3 B3 T3 e3
  go_wp2_with fail
  go_ret3
  refine ⟨g, rfl, B4, ?_, R4.lt, R4.has, R4.free 0 _, ?_, by decide⟩
  · rw [HG.out]; exact Nat.le_refl _
  · rw [I.lm]; exact Nat.le_refl _
end Go.Proofs.Ytkhimoclikhlaaa.Oct
