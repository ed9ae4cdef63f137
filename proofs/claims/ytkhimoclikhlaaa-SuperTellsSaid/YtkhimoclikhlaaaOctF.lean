/- What octets.Seal answers, with its bytes in memory as told. -/
import Derived.Test.YtkhimoclikhlaaaOctE
namespace Go.Proofs.Ytkhimoclikhlaaa.Oct
open Go.RowKit
set_option linter.unusedVariables false
theorem seal_long (kind : UInt8) (a : Option Addr) (len cap : Nat) (w : World) (h : 123 < len) (hm : len ≤ maxLen) :
    Calls Try.prog 22 #[.int .u8 (kind.toNat : Int), .slice a len cap] w fun e w' => e = .returned (.tuple #[.slice none 0 0, .int .i64 3]) ∧ w = w' := by
  unfold maxLen at hm
  go_enter Try.func22, Try.ntmps22
  go_wp2
  go_ret2
  exact ⟨rfl, rfl⟩
set_option maxHeartbeats 400000 in
theorem seal_any (kind : UInt8) (a : Option Addr) (len cap : Nat) (bs : List UInt8) (hlen : bs.length = len) (w : World) (hl : len ≤ 123) (hb : Told w a bs) :
    Calls Try.prog 22 #[.int .u8 (kind.toNat : Int), .slice a len cap] w (SealPost w kind bs) := by
  have HL := Lib.hid hlen
  clear hlen
  have HB := Lib.hid hb
  clear hb
  have hmk : (Instr.makeSlice 28 (.int .i64 128) (.int .i64 128)).run Try.prog w = .ok (.slice (some ⟨w.heap.size, 0, none⟩) 128 128) (w.alloc (.cells (vals (List.replicate 128 0)).toArray 5)) := run_make_bytes w 128 (by omega)
  have R1 := alloc_row w (List.replicate 128 0)
  have B1 := (Below.refl w.heap.size w).alloc (Nat.le_refl _) (.cells (vals (List.replicate 128 0)).toArray 5)
  have hs : (w.alloc (.cells (vals (List.replicate 128 0)).toArray 5)).heap.size = w.heap.size + 1 := by simp
  generalize w.alloc (.cells (vals (List.replicate 128 0)).toArray 5) = w1 at hmk R1 B1 hs
  obtain ⟨g, hg⟩ : ∃ g, g = w.heap.size := ⟨_, rfl⟩
  rw [← hg] at hmk R1
  have HG := Lib.hid hg
  have HS := Lib.hid hs
  clear hg hs
  go_enter Try.func22, Try.ntmps22
  go_wp2_with fail
  refine (parts_any g 0 128 _ (by omega) (by decide)).mono ?_
  rintro e w2 ⟨rfl, S2⟩
  have R2 := R1.still S2
  have B2 := B1.trans (S2.below _)
  have c0 : w2.cell? ⟨g, 0, none⟩ = some (.int .u8 0) := R2.has 0 (by simp)
  have f0 : w2.frozen? ⟨g, 0, none⟩ = false := R2.free 0 1 0 (by omega)
  clear R1 B1 S2 hmk
  have R3 : Row (w2.setCell ⟨g, 0, none⟩ (.int .u8 (kind.toNat : Int))) g (kind :: List.replicate 127 0) := R2.set 0 kind
  have B3 := B2.setCell (p := ⟨g, 0, none⟩) (by rw [HG.out]; exact Nat.le_refl _) (.int .u8 (kind.toNat : Int))
  have T3 : Told (w2.setCell ⟨g, 0, none⟩ (.int .u8 (kind.toNat : Int))) a bs := by
    rcases HB.out with h | ⟨b, o, ha, h⟩
    · exact .inl h
    · refine .inr ⟨b, o, ha, fun i hi => ?_⟩
      have hlt := World.block_lt_of_cell? w _ (h i hi)
      rw [B3.cell hlt]
      exact h i hi
  obtain ⟨w4, hcopy, R4, B4⟩ := run_copy_bytes _ 3 g 1 123 123 _ bs R3 a len cap HL.out T3 hl (by simp; omega)
  rw [splice_page kind bs (by rw [HL.out]; exact hl)] at R4
  replace B4 := B3.trans (B4.mono (by rw [HG.out]; exact Nat.le_refl _))
  clear R2 B2 R3 B3 T3
  have hf := length_face kind bs (by rw [HL.out]; exact hl)
  have HF := Lib.hid hf
  have H1 : Has w4 g 0 (face kind bs) := by
    have := R4.has.pre 124
    rwa [List.take_append_of_le_length (by omega), List.take_of_length_le (by omega)] at this
  have H2 : Has w4 g 124 [0, 0, 0, 0] := by
    have := R4.has.cut 124 4
    rwa [Nat.zero_add, List.drop_append_of_le_length (by omega), List.drop_of_length_le (by omega), List.nil_append, List.take_of_length_le (by simp)] at this
  clear hf
  have hsl := sum_lt (face kind bs)
  go_wp2_with fail
  refine (sum_len g 0 124 128 (face kind bs) HF.out _ (by decide) H1).mono ?_
  rintro e w' ⟨rfl, rfl⟩
  go_wp2_with fail
  refine (put_04 g 124 4 [0, 0, 0, 0] rfl (sum (face kind bs)) _ H2 (R4.free 124 4) (by omega)).mono ?_
  rintro e w5 ⟨rfl, H5, W5⟩
  go_wp2_with fail
  go_ret2
  refine ⟨g, rfl, B4.trans (W5.below (by rw [HG.out]; exact Nat.le_refl _)), ?_, ?_, ?_, ?_, ?_, by decide⟩
  · rw [HG.out]; exact Nat.le_refl _
  · rw [W5.size]; exact R4.lt
  · exact (W5.has H1 (by rw [HF.out]; omega)).join (by rw [HF.out]; exact H5)
  · exact fun i hi => (W5.frz _).trans (R4.free 0 _ i hi)
  · rw [length_page kind bs (by rw [HL.out]; exact hl)]; exact Nat.le_refl _
end Go.Proofs.Ytkhimoclikhlaaa.Oct
