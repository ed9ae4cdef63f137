/- What octets.parts and octets.Seal answer, with their bytes in memory as told. -/
import Derived.Test.YtbnmhbhebadkmaaOctD
import Derived.Deep.QuietTactic
import Derived.BigQuiet
import Derived.Laws.CopyOwn
namespace Go.Proofs.Ytbnmhbhebadkmaa.Oct
open Go.RowKit
set_option linter.unusedVariables false

/-- Nothing has turned but the tape's place. -/
structure Still (w w' : World) : Prop where
  os : w'.os = w.os
  tape : w'.tape = w.tape
  output : w'.output = w.output
  heap : w'.heap = w.heap
theorem Still.below {w w' : World} (h : Still w w') (B : Nat) : Below B w w' := ⟨h.os, h.tape, h.output, by rw [h.heap]; exact Nat.le_refl _, fun _ _ => by rw [h.heap]⟩
theorem Still.cell {w w' : World} (h : Still w w') (a : Addr) : w'.cell? a = w.cell? a := by simp [World.cell?, h.heap]
theorem Still.frozen {w w' : World} (h : Still w w') (a : Addr) : w'.frozen? a = w.frozen? a := by simp [World.frozen?, h.heap]
theorem Still.drewN (w : World) (n : Nat) : Still w (w.drewN n) := ⟨rfl, rfl, rfl, rfl⟩

set_option maxHeartbeats 400000 in
theorem parts_any (b o cap : Nat) (w : World) (hc : 128 ≤ cap) (hm : cap ≤ maxLen) :
    Calls Try.prog 26 #[.slice (some ⟨b, o, none⟩) 128 cap] w fun e w' => e = .returned (.tuple #[.slice (some ⟨b, o, none⟩) 1 1, .slice (some ⟨b, o + 1, none⟩) 123 123, .slice (some ⟨b, o + 124, none⟩) 4 4]) ∧ Still w w' := by
  unfold maxLen at hm
  go_enter Try.func26, Try.ntmps26
  go_wp2
  go_quiet (fail)
  go_wp2
  go_ret3
  exact ⟨rfl, Still.drewN _ _⟩

/-! ### Contracts with the length apart -/
theorem sum_len (b o len cap : Nat) (bs : List UInt8) (hlen : bs.length = len) (w : World) (hl : len ≤ maxLen) (hb : Has w b o bs) :
    Calls Try.prog 13 #[.slice (some ⟨b, o, none⟩) len cap] w fun e w' => e = .returned (.int .u32 (sum bs)) ∧ w = w' := by
  subst hlen
  exact sum_any b o cap bs w hl hb
theorem put_04 (b o cap : Nat) (bs : List UInt8) (hlen : bs.length = 4) (n : Nat) (w : World) (hb : Has w b o bs) (hf : Free w b o 4) (hn : n < 256 ^ 4) :
    Calls Try.prog 20 #[.slice (some ⟨b, o, none⟩) 4 cap, .int .i64 0, .int .i64 4, .int .u64 n] w fun e w' => e = .returned (.bool true) ∧ Has w' b o (bytesOf n 4) ∧ Wrote w w' b o (o + 4) := by
  have h := put_yes b o cap bs 0 4 n w (by rw [hlen]; decide) hb (by rw [hlen]; exact hf) (by omega) (by omega) (by omega) hn
  rw [hlen] at h
  refine h.mono fun e w' ⟨he, hd⟩ => ⟨he, ?_, hd.wrote⟩
  have := hd.has
  rwa [List.take_zero, List.nil_append, Nat.zero_add, List.drop_of_length_le (by omega), List.append_nil] at this
theorem get_04 (b o cap : Nat) (bs : List UInt8) (hlen : bs.length = 4) (w : World) (hb : Has w b o bs) :
    Calls Try.prog 11 #[.slice (some ⟨b, o, none⟩) 4 cap, .int .i64 0, .int .i64 4] w fun e w' => e = .returned (.tuple #[.int .u64 (num bs), .bool true]) ∧ w = w' := by
  have h := get_yes b o cap bs 0 4 w (by rw [hlen]; decide) hb (by omega) (by omega) (by omega)
  rw [hlen] at h
  rwa [List.drop_zero, List.take_of_length_le (by omega)] at h

/-! ### A block that holds bytes and nothing else -/
def vals (bs : List UInt8) : List Value := bs.map fun c => .int .u8 (c.toNat : Int)
theorem length_vals (bs : List UInt8) : (vals bs).length = bs.length := by simp [vals]
def Row (w : World) (g : Nat) (bs : List UInt8) : Prop := w.heap[g]? = some (.cells (vals bs).toArray 5 (0, 0))
theorem Row.has {w : World} {g : Nat} {bs : List UInt8} (h : Row w g bs) : Has w g 0 bs := by
  intro i hi
  unfold Row at h
  simp [World.cell?, h, vals, hi]
theorem Row.free {w : World} {g : Nat} {bs : List UInt8} (h : Row w g bs) (o n : Nat) : Free w g o n := by
  intro i hi
  unfold Row at h
  simp [World.frozen?, h]
theorem Row.still {w w' : World} {g : Nat} {bs : List UInt8} (h : Row w g bs) (hs : Still w w') : Row w' g bs := by
  unfold Row at h ⊢
  rw [hs.heap, h]
theorem Row.set {w : World} {g : Nat} {bs : List UInt8} (h : Row w g bs) (i : Nat) (c : UInt8) : Row (w.setCell ⟨g, i, none⟩ (.int .u8 (c.toNat : Int))) g (bs.set i c) := by
  unfold Row at h ⊢
  rw [heap_setCell_same w g i _ _ _ h]
  congr 2
  simp [vals, List.map_set]
theorem Has.cut {w : World} {b o : Nat} {bs : List UInt8} (h : Has w b o bs) (p s : Nat) : Has w b (o + p) ((bs.drop p).take s) := by
  intro i hi
  simp only [List.length_take, List.length_drop] at hi
  have := h (p + i) (by omega)
  rw [Nat.add_assoc, this]
  simp
theorem Has.pre {w : World} {b o : Nat} {bs : List UInt8} (h : Has w b o bs) (s : Nat) : Has w b o (bs.take s) := by
  have := h.cut 0 s
  rwa [Nat.add_zero, List.drop_zero] at this
theorem Has.join {w : World} {b o : Nat} {xs ys : List UInt8} (h : Has w b o xs) (k : Has w b (o + xs.length) ys) : Has w b o (xs ++ ys) := by
  intro i hi
  rw [List.length_append] at hi
  by_cases h1 : i < xs.length
  · rw [h i h1, List.getElem_append_left h1]
  · have := k (i - xs.length) (by omega)
    rw [show o + xs.length + (i - xs.length) = o + i by omega] at this
    rw [this, List.getElem_append_right (by omega)]
theorem made_zeros (n : Nat) : madeCells (Value.int .u8 0).cells n = (vals (List.replicate n 0)).toArray := by
  apply Array.ext
  · simp [madeCells, vals]
  · intro i h1 h2
    simp [madeCells, vals, Value.cells, Nat.mod_one]

theorem Free.row {w : World} {g : Nat} {bs : List UInt8} (h : Row w g bs) : Free w g 0 bs.length := h.free 0 _

/-! ### The page -/
/-- A page without its sum. -/
def face (kind : UInt8) (bs : List UInt8) : List UInt8 := kind :: (bs ++ List.replicate (123 - bs.length) 0)
def page (kind : UInt8) (bs : List UInt8) : List UInt8 := face kind bs ++ bytesOf (sum (face kind bs)) 4
theorem length_face (kind : UInt8) (bs : List UInt8) (h : bs.length ≤ 123) : (face kind bs).length = 124 := by simp [face]; omega
theorem length_page (kind : UInt8) (bs : List UInt8) (h : bs.length ≤ 123) : (page kind bs).length = 128 := by simp [page, length_face kind bs h, length_bytesOf]

def SealPost (w : World) (kind : UInt8) (bs : List UInt8) (e : Ending) (w' : World) : Prop :=
  ∃ g, e = .returned (.tuple #[.slice (some ⟨g, 0, none⟩) 128 128, .int .i64 0]) ∧ Fresh w w' g (page kind bs) 128

theorem splice_page (kind : UInt8) (bs : List UInt8) (h : bs.length ≤ 123) : splice (kind :: List.replicate 127 0) 1 bs = face kind bs ++ [0, 0, 0, 0] := by
  unfold splice face
  rw [show 1 + bs.length = bs.length + 1 by omega, List.drop_succ_cons, List.take_succ_cons, List.take_zero, List.drop_replicate]
  rw [List.cons_append, List.cons_append, List.nil_append, List.append_assoc]
  congr 2
  rw [show ([0, 0, 0, 0] : List UInt8) = List.replicate 4 0 from rfl, List.replicate_append_replicate]
  congr 1
  omega

theorem run_make_bytes (w : World) (n : Nat) (hn : n ≤ 281474976710656) :
    (Instr.makeSlice 22 (.int .i64 (n : Int)) (.int .i64 (n : Int))).run Try.prog w = .ok (.slice (some ⟨w.heap.size, 0, none⟩) n n) (w.alloc (.cells (vals (List.replicate n 0)).toArray 5)) := by
  have i0 : (Try.prog.info? 5).map (fun i => (i.zero, i.size, i.bytes)) = some (some (.int .u8 0), 1, 1) := by kernel_rfl
  obtain ⟨i0, hi, hz0, hz1, hz2⟩ := info_parts i0
  have h := run_make (P := Try.prog) w 22 5 i0 (.int .u8 0) Try.underlying22 hi hz0 .i64 .i64 n n (by omega) (by omega) (by rw [hz2]; omega) (by omega)
  rw [hz1, Nat.mul_one, Int.toNat_natCast, made_zeros] at h
  exact h
theorem add_plain (b o j : Nat) : (⟨b, o, none⟩ : Addr).add j = ⟨b, o + j, none⟩ := by unfold Addr.add; split <;> simp_all
theorem run_copy_bytes (w : World) (ty : TypeId) (g off dLen dCap : Nat) (cur bs : List UInt8) (R : Row w g cur) (a : Option Addr) (len cap : Nat) (hlen : bs.length = len) (hT : Told w a bs) (hd : len ≤ dLen) (hfit : off + len ≤ cur.length) :
    ∃ w', (Builtin.copy_ #[22, 22] ty #[.slice (some ⟨g, off, none⟩) dLen dCap, .slice a len cap]).run Try.prog w = .ok (goInt len) w' ∧ Row w' g (splice cur off bs) ∧ Below g w w' := by
  have hsz : (Try.prog.info? 5).map (·.size) = some 1 := by kernel_rfl
  rcases hT with rfl | ⟨b, o, rfl, hT⟩
  · obtain rfl : len = 0 := by simpa using hlen.symm
    refine ⟨w, run_copy_none (P := Try.prog) w _ _ ty 5 _ a dLen dCap 0 cap Try.underlying22 hsz (Nat.min_eq_left (Nat.zero_le _)), ?_, Below.refl _ _⟩
    simpa [splice] using R
  · have h := run_copy_row (P := Try.prog) w 22 22 ty 5 g off dLen dCap ⟨b, o, none⟩ len cap (vals cur).toArray 5 (vals bs) Try.underlying22 hsz R
      (by rw [length_vals, hlen]; exact (Nat.min_eq_left hd).symm)
      (fun j v hj => by
        have hjl : j < bs.length := by
          rcases Nat.lt_or_ge j bs.length with h | h
          · exact h
          · rw [List.getElem?_eq_none (by rw [length_vals]; exact h)] at hj; cases hj
        have hv : v = .int .u8 (bs[j].toNat : Int) := by simpa [vals, hjl] using hj.symm
        rw [hv, add_plain]
        exact hT j hjl)
      (by rw [length_vals, hlen]; simpa [length_vals] using hfit)
      (fun v hv => by simp [vals] at hv; obtain ⟨c, _, rfl⟩ := hv; rfl)
    rw [length_vals, hlen] at h
    refine ⟨_, h, ?_, ⟨rfl, rfl, rfl, by simp, fun k hk => setRow_other w g k _ (by omega)⟩⟩
    unfold Row
    rw [setRow_heap w g _ _ _ _ R]
    congr 3
    simp [splice, vals, List.map_take, List.map_drop, hlen]
theorem alloc_row (w : World) (bs : List UInt8) : Row (w.alloc (.cells (vals bs).toArray 5)) w.heap.size bs := heap_alloc_new w _
end Go.Proofs.Ytbnmhbhebadkmaa.Oct
