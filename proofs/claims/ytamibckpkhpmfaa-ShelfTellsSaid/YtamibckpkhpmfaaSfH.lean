/- Contracts: put, get, and take: places of a body, one behind the other. -/
import Derived.Test.YtamibckpkhpmfaaSfF
import Derived.Test.YtamibckpkhpmfaaOctP
namespace Go.Proofs.Ytamibckpkhpmfaa.Sf
open Go.RowKit Go.Proofs.Ytamibckpkhpmfaa.Oct
set_option linter.unusedVariables false

/-- put writes a number over s places. -/
theorem put_any (b o s : Nat) (bs : List UInt8) (hlen : bs.length = s) (n : Nat) (w : World) (hb : Has w b o bs) (hf : Free w b o s) (h1 : 1 ≤ s) (h8 : s ≤ 8) (hn : n < 256 ^ s) :
    Calls Try.prog 21 #[.slice (some ⟨b, o, none⟩) s s, .int .u64 (n : Int)] w fun e w' => e = .returned (.tuple #[]) ∧ Has w' b o (bytesOf n s) ∧ Wrote w w' b o (o + s) := by
  have h := put_yes b o s bs 0 s n w (by rw [hlen]; unfold maxLen; omega) hb (by rw [hlen]; exact hf) h1 h8 (by omega) hn
  rw [hlen] at h
  have HL := Lib.hid hlen
  clear hb hf hn hlen
  go_enter Try.func21, Try.ntmps21
  go_wp2_with fail
  refine h.mono ?_
  rintro e w2 ⟨rfl, D⟩
  have HD := Lib.hid D
  clear D h
  go_wp2_with fail
  go_end0
  have h2 := HD.out.has
  have h3 := HD.out.wrote
  rw [List.take_zero, List.nil_append, Nat.zero_add, List.drop_of_length_le (by rw [HL.out]; exact Nat.le_refl _), List.append_nil] at h2
  rw [Nat.add_zero] at h3
  exact ⟨rfl, h2, h3⟩

/-- get reads the number of s places. -/
theorem get_any (b o s : Nat) (bs : List UInt8) (hlen : bs.length = s) (w : World) (hb : Has w b o bs) (h1 : 1 ≤ s) (h8 : s ≤ 8) :
    Calls Try.prog 26 #[.slice (some ⟨b, o, none⟩) s s] w fun e w' => e = .returned (.int .u64 (num bs : Int)) ∧ w = w' := by
  have h := get_yes b o s bs 0 s w (by rw [hlen]; unfold maxLen; omega) hb h1 h8 (by omega)
  rw [hlen, List.drop_zero, List.take_of_length_le (by omega)] at h
  clear hb hlen
  go_enter Try.func26, Try.ntmps26
  go_wp2_with fail
  refine h.mono ?_
  rintro e w2 ⟨rfl, rfl⟩
  go_wp2_with fail
  go_ret
  exact ⟨rfl, rfl⟩

/-- places in block p: of the body in block g so many are taken. -/
structure Places (w : World) (p g at' : Nat) : Prop where
  row : RowV w p 44 [.slice (some ⟨g, 0, none⟩) 123 123, .int .i64 (at' : Int)]
  le : at' ≤ 123
/-- Nothing has turned but block p. -/
structure But (w w' : World) (p : Nat) : Prop where
  os : w'.os = w.os
  tape : w'.tape = w.tape
  output : w'.output = w.output
  size : w'.heap.size = w.heap.size
  block : ∀ k, k ≠ p → w'.heap[k]? = w.heap[k]?
theorem But.refl (w : World) (p : Nat) : But w w p := ⟨rfl, rfl, rfl, rfl, fun _ _ => rfl⟩
theorem But.set {w w' : World} {p : Nat} (h : But w w' p) (i : Nat) (v : Value) : But w (w'.setCell ⟨p, i, none⟩ v) p := ⟨h.os, h.tape, h.output, by simp [h.size], fun k hk => (heap_setCell_other _ _ _ _ hk).trans (h.block k hk)⟩
theorem But.still {w w' w'' : World} {p : Nat} (h : But w w' p) (S : Still w' w'') : But w w'' p := ⟨S.os.trans h.os, S.tape.trans h.tape, S.output.trans h.output, by rw [S.heap, h.size], fun k hk => by rw [S.heap]; exact h.block k hk⟩
theorem But.trans {w w' w'' : World} {p : Nat} (h : But w w' p) (k : But w' w'' p) : But w w'' p := ⟨k.os.trans h.os, k.tape.trans h.tape, k.output.trans h.output, k.size.trans h.size, fun i hi => (k.block i hi).trans (h.block i hi)⟩
theorem But.below {w w' : World} {p B : Nat} (h : But w w' p) (hp : B ≤ p) : Below B w w' := ⟨h.os, h.tape, h.output, by rw [h.size]; exact Nat.le_refl _, fun k hk => h.block k (by omega)⟩

set_option maxHeartbeats 400000 in
/-- take answers the next s places. -/
theorem take_any {w : World} {p g k : Nat} (h : Places w p g k) (s : Nat) (h1 : 1 ≤ s) (h8 : k + s ≤ 123) :
    Calls Try.prog 20 #[.pointer (some ⟨p, 0, none⟩), .int .i64 (s : Int)] w fun e w' => e = .returned (.slice (some ⟨g, k, none⟩) s s) ∧ Places w' p g (k + s) ∧ But w w' p := by
  have HP := Lib.hid h
  have c0 := h.row.cellAt (i := 0) rfl
  have c1 := h.row.cellAt (i := 1) rfl
  have f1 := h.row.free 1
  clear h
  have HR := Lib.hid (show RowV (w.setCell ⟨p, 1, none⟩ (.int .i64 ((k : Int) + (s : Int)))) p 44 [.slice (some ⟨g, 0, none⟩) 123 123, .int .i64 ((k + s : Nat) : Int)] from by
    have := HP.out.row.set 1 (.int .i64 ((k : Int) + (s : Int)))
    simpa using this)
  have d0 : (w.setCell ⟨p, 1, none⟩ (.int .i64 ((k : Int) + (s : Int)))).cell? ⟨p, 0, none⟩ = some (.slice (some ⟨g, 0, none⟩) 123 123) := HR.out.cellAt (i := 0) rfl
  have d1 : (w.setCell ⟨p, 1, none⟩ (.int .i64 ((k : Int) + (s : Int)))).cell? ⟨p, 1, none⟩ = some (.int .i64 ((k : Int) + (s : Int))) := (HR.out.cellAt (i := 1) rfl).trans (by simp)
  have HB := Lib.hid ((But.refl w p).set 1 (.int .i64 ((k : Int) + (s : Int))))
  go_enter Try.func20, Try.ntmps20
  go_wp2_with fail
  generalize w.setCell ⟨p, 1, none⟩ (.int .i64 ((k : Int) + (s : Int))) = w2 at *
  go_quiet (fail)
  go_wp2_with fail
  go_ret
  exact ⟨by simp, ⟨HR.out.still (Still.drewN _ _), h8⟩, HB.out.still (Still.drewN _ _)⟩
end Go.Proofs.Ytamibckpkhpmfaa.Sf
