/- Contracts: leaf.kindOf, and the two closures that Encode and Decode hand to each. -/
import Derived.Test.YtngigpciipdogaaLfC
import Derived.Test.YtngigpciipdogaaOctP
namespace Go.Proofs.Ytngigpciipdogaa.Lf
open Go.RowKit Go.Proofs.Ytngigpciipdogaa.Oct
set_option linter.unusedVariables false

def kindN (l : Bool) : UInt8 := if l then 1 else 2

theorem kind_any (l : Bool) (A B : Value) (w : World) :
    Calls Try.prog 18 #[.agg #[.bool l, A, B]] w fun e w' => e = .returned (.int .u8 ((kindN l).toNat : Int)) ∧ Below w.heap.size w w' := by
  have BB := Lib.hid ((Below.refl w.heap.size w).alloc (Nat.le_refl _) (.cells #[.bool l, A, B] 24))
  cases l with
  | true =>
    go_enter Try.func18, Try.ntmps18
    go_wp2_with fail
    go_ret
    exact ⟨rfl, BB.out⟩
  | false =>
    go_enter Try.func18, Try.ntmps18
    go_wp2_with fail
    go_ret
    exact ⟨rfl, BB.out⟩

/-- Nothing has turned but blocks p and q. -/
structure Apart (w w' : World) (p q : Nat) : Prop where
  os : w'.os = w.os
  tape : w'.tape = w.tape
  output : w'.output = w.output
  size : w'.heap.size = w.heap.size
  block : ∀ k, k ≠ p → k ≠ q → w'.heap[k]? = w.heap[k]?
theorem Apart.below {w w' : World} {p q B : Nat} (h : Apart w w' p q) (hp : B ≤ p) (hq : B ≤ q) : Below B w w' := ⟨h.os, h.tape, h.output, by rw [h.size]; exact Nat.le_refl _, fun k hk => h.block k (by omega) (by omega)⟩
theorem Apart.rowN {w w' : World} {p q g : Nat} {T : TypeId} {ns : List UInt64} (h : Apart w w' p q) (R : RowN w g T ns) (hp : g ≠ p) (hq : g ≠ q) : RowN w' g T ns := by
  unfold RowN at *
  rw [h.block g hp hq, R]

/-- The closure that writes: of a body of 123 bytes, P has been written. -/
structure Pen (w : World) (bb ab g : Nat) (P : List UInt8) : Prop where
  cb : w.cell? ⟨bb, 0, none⟩ = some (.slice (some ⟨g, 0, none⟩) 123 123)
  ca : w.cell? ⟨ab, 0, none⟩ = some (.int .i64 (P.length : Int))
  fa : w.frozen? ⟨ab, 0, none⟩ = false
  has : Has w g 0 (P ++ List.replicate (123 - P.length) 0)
  free : Free w g 0 123
  le : P.length ≤ 123
  n1 : bb ≠ g
  n2 : ab ≠ g
  n3 : bb ≠ ab

theorem pen_splice (P X : List UInt8) (s : Nat) (hX : X.length = s) (h : P.length + s ≤ 123) :
    (P ++ List.replicate (123 - P.length) 0).take P.length ++ X ++ (P ++ List.replicate (123 - P.length) 0).drop (P.length + s) = (P ++ X) ++ List.replicate (123 - (P ++ X).length) 0 := by
  rw [List.take_append_of_le_length (Nat.le_refl _), List.take_length, List.drop_append, List.drop_of_length_le (by omega), List.nil_append, List.length_append, hX, List.drop_replicate]
  congr 2
  omega

set_option maxHeartbeats 400000 in
theorem enc1 {w : World} {bb ab g : Nat} {P : List UInt8} (h : Pen w bb ab g P) (x : UInt64) (s : Nat) (h1 : 1 ≤ s) (h8 : s ≤ 8) (hs : P.length + s ≤ 123) (hx : x.toNat < 256 ^ s) :
    Calls Try.prog 15 #[.int .u64 (x.toNat : Int), .int .i64 (s : Int), .pointer (some ⟨bb, 0, none⟩), .pointer (some ⟨ab, 0, none⟩)] w fun e w' => e = .returned (.int .u64 (x.toNat : Int)) ∧ Pen w' bb ab g (P ++ bytesOf x.toNat s) ∧ Apart w w' g ab := by
  have HP := Lib.hid h
  have c1 := h.cb
  have c2 := h.ca
  have hle := h.le
  clear h
  go_enter Try.func15, Try.ntmps15
  go_wp2_with fail
  have HL := Lib.hid (show (P ++ List.replicate (123 - P.length) 0).length = 123 by simp; omega)
  have hput := put_yes g 0 123 (P ++ List.replicate (123 - P.length) 0) P.length s x.toNat w (by rw [HL.out]; decide) HP.out.has (by rw [HL.out]; exact HP.out.free) h1 h8 (by rw [HL.out]; exact hs) hx
  rw [HL.out] at hput
  refine hput.mono ?_
  rintro e w2 ⟨rfl, D⟩
  have c3 := (D.wrote.other HP.out.n2 0).trans HP.out.ca
  have f3 := (D.wrote.frz ⟨ab, 0, none⟩).trans HP.out.fa
  have HD := Lib.hid D
  clear D hput
  go_wp2_with fail
  go_ret
  have hlen : (bytesOf x.toNat s).length = s := length_bytesOf s x.toNat
  refine ⟨rfl, ⟨?_, ?_, ?_, ?_, ?_, ?_, HP.out.n1, HP.out.n2, HP.out.n3⟩, ⟨HD.out.wrote.os, HD.out.wrote.tape, HD.out.wrote.output, by simp [HD.out.wrote.size], fun k hk hk2 => (heap_setCell_other _ _ _ _ hk2).trans (HD.out.wrote.block k hk)⟩⟩
  · have hne : (⟨ab, 0, none⟩ : Addr) ≠ ⟨bb, 0, none⟩ := fun e => HP.out.n3 (Addr.mk.inj e).1.symm
    rw [World.cell?_setCell_other _ _ _ _ hne]
    exact (HD.out.wrote.other HP.out.n1 0).trans HP.out.cb
  · rw [set_same c3, List.length_append, hlen]
    simp
  · simp [f3]
  · rw [← pen_splice P _ s hlen hs]
    intro i hi
    have hne : (⟨ab, 0, none⟩ : Addr) ≠ ⟨g, 0 + i, none⟩ := fun e => HP.out.n2 (Addr.mk.inj e).1
    rw [World.cell?_setCell_other _ _ _ _ hne]
    exact HD.out.has i hi
  · intro i hi
    have := (HD.out.wrote.frz ⟨g, 0 + i, none⟩).trans (HP.out.free i hi)
    simpa using this
  · rw [List.length_append, hlen]; exact hs

/-- The closure that reads: of a body of 123 bytes, at of them have been read. -/
structure Book (w : World) (bb ab g at' : Nat) (bs : List UInt8) : Prop where
  cb : w.cell? ⟨bb, 0, none⟩ = some (.slice (some ⟨g, 0, none⟩) 123 123)
  ca : w.cell? ⟨ab, 0, none⟩ = some (.int .i64 (at' : Int))
  fa : w.frozen? ⟨ab, 0, none⟩ = false
  has : Has w g 0 bs
  len : bs.length = 123
  n2 : ab ≠ g
  n3 : bb ≠ ab

set_option maxHeartbeats 400000 in
theorem dec1 {w : World} {bb ab g p : Nat} {bs : List UInt8} (h : Book w bb ab g p bs) (x : Value) (s : Nat) (h1 : 1 ≤ s) (h8 : s ≤ 8) (hs : p + s ≤ 123) :
    Calls Try.prog 20 #[x, .int .i64 (s : Int), .pointer (some ⟨bb, 0, none⟩), .pointer (some ⟨ab, 0, none⟩)] w fun e w' => e = .returned (.int .u64 ((UInt64.ofNat (num ((bs.drop p).take s))).toNat : Int)) ∧ Book w' bb ab g (p + s) bs ∧ Apart w w' ab ab := by
  have HP := Lib.hid h
  have c1 := h.cb
  have c2 := h.ca
  have f2 := h.fa
  have hlen := h.len
  have HN := Lib.hid (show (((UInt64.ofNat (num ((bs.drop p).take s))).toNat : Nat) : Int) = (num ((bs.drop p).take s) : Int) by
    have := num_lt8 ((bs.drop p).take s) (by simp; omega)
    have : (UInt64.ofNat (num ((bs.drop p).take s))).toNat = num ((bs.drop p).take s) := by simp; omega
    rw [this])
  clear h
  go_enter Try.func20, Try.ntmps20
  go_wp2_with fail
  have hget := get_yes g 0 123 bs p s w (by rw [hlen]; decide) HP.out.has h1 h8 (by rw [hlen]; exact hs)
  rw [hlen] at hget
  refine hget.mono ?_
  rintro e w2 ⟨rfl, rfl⟩
  clear hget hlen
  go_wp2_with fail
  go_ret
  refine ⟨by rw [HN.out]; rfl, ⟨?_, ?_, ?_, ?_, HP.out.len, HP.out.n2, HP.out.n3⟩, ⟨rfl, rfl, rfl, by simp, fun k hk hk2 => heap_setCell_other _ _ _ _ hk2⟩⟩
  · have hne : (⟨ab, 0, none⟩ : Addr) ≠ ⟨bb, 0, none⟩ := fun e => HP.out.n3 (Addr.mk.inj e).1.symm
    rw [World.cell?_setCell_other _ _ _ _ hne]
    exact HP.out.cb
  · rw [set_same c2]
    simp
  · simp [f2]
  · intro i hi
    have hne : (⟨ab, 0, none⟩ : Addr) ≠ ⟨g, 0 + i, none⟩ := fun e => HP.out.n2 (Addr.mk.inj e).1
    rw [World.cell?_setCell_other _ _ _ _ hne]
    exact HP.out.has i hi
end Go.Proofs.Ytngigpciipdogaa.Lf
