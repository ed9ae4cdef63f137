/- DiskTells: both disks at the start; copies of bytes in memory of their own; operations that came in. -/
import Derived.Test.YthcjhbjhghfhjaaRefM
import Derived.Test.YthcjhbjhghfhjaaDskOp
import Derived.Test.YthcjhbjhghfhjaaRefE
import Derived.Test.YthcjhbjhghfhjaaDskP
namespace Go.Proofs.Ythcjhbjhghfhjaa.Dsk
open Go.RowKit Go.Proofs.Ythcjhbjhghfhjaa.Oct
set_option linter.unusedVariables false

def rfresh (n : Nat) : Rf := ⟨n, [], [], -1, false⟩
theorem rat_fresh (w : World) (n base : Nat) (hb : base ≤ w.heap.size) : RIs (w.alloc (.cells #[.int .i64 (n : Int), .slice none 0 0, .slice none 0 0, .int .i64 (-1), .bool false] 30)) base w.heap.size (rfresh n) :=
  ⟨.slice none 0 0, .slice none 0 0, hb, heap_alloc_new w _, World.ownsRow_nil _ _ _ _, World.ownsRow_nil _ _ _ _, ⟨Nat.zero_le _, Nat.zero_le _⟩, ⟨Int.le_refl _, (by decide : (-1 : Int) ≤ 9223372036854775807)⟩⟩
theorem tie_fresh (n : Nat) : Tie (fresh n) (rfresh n) := by
  refine ⟨rfl, rfl, (fun h => by cases h), fun _ => rfl, rfl, fun p hp => ?_⟩
  have hp' : p < n := hp
  show ((List.replicate (n * 128) (0 : UInt8)).drop (p * 128)).take 128 = (last? ([] : List (Nat × List UInt8)) p).getD zeros
  rw [List.drop_replicate, List.take_replicate, Nat.min_eq_left (by omega)]
  rfl
theorem rfresh_whole (n : Nat) : (rfresh n).Whole := And.intro (fun x (hx : x ∈ ([] : List (Nat × List UInt8))) => absurd hx List.not_mem_nil) (fun x (hx : x ∈ ([] : List (Nat × List UInt8))) => absurd hx List.not_mem_nil)
theorem both_start {w' : World} {base p n : Nat} (h : Is w' base p (fresh n)) (hb : base ≤ w'.heap.size) : Both (w'.alloc (.cells #[.int .i64 (n : Int), .slice none 0 0, .slice none 0 0, .int .i64 (-1), .bool false] 30)) base p w'.heap.size (fresh n) (rfresh n) 0 :=
  ⟨h.below ((Below.refl w'.heap.size w').alloc (Nat.le_refl _) _), rat_fresh w' n base hb, tie_fresh n, rfresh_whole n, Nat.le_refl _⟩

/-- Block g is of bytes; from its head on they are bs; these may be written. -/
structure Room (w : World) (g : Nat) (bs : List UInt8) : Prop where
  blk : ∃ cs fr, w.heap[g]? = some (.cells cs 5 fr)
  has : Has w g 0 bs
  free : Free w g 0 bs.length
theorem Room.lt {w : World} {g : Nat} {bs : List UInt8} (h : Room w g bs) : g < w.heap.size := by
  obtain ⟨cs, fr, e⟩ := h.blk
  exact (Array.getElem?_eq_some_iff.1 e).1
theorem Room.at {w w' : World} {g : Nat} {bs : List UInt8} (h : Room w g bs) (k : w'.heap[g]? = w.heap[g]?) : Room w' g bs := by
  obtain ⟨cs, fr, e⟩ := h.blk
  refine ⟨⟨cs, fr, k.trans e⟩, fun i hi => ?_, fun i hi => ?_⟩
  · exact (World.cell?_of_block (a := ⟨g, 0 + i, none⟩) k).trans (h.has i hi)
  · have := h.free i hi
    simp only [World.frozen?, k] at this ⊢
    exact this
theorem Room.turned {w w' : World} {base g : Nat} {bs : List UInt8} (h : Room w g bs) (k : Turned dr base w w') : Room w' g bs := by
  obtain ⟨cs, fr, e⟩ := h.blk
  exact h.at (k.block g h.lt (.inr fun cs' t' fr' e' => by rw [e] at e'; cases e'; rfl))
theorem again_room (a : Option Addr) (len cap : Nat) (bs : List UInt8) (hlen : bs.length = len) (w : World) (hl : len ≤ maxLen) (hb : Oct.Told w a bs) :
    Calls Try.prog 12 #[.slice a len cap] w fun e w' => ∃ g c, e = .returned (.slice (some ⟨g, 0, none⟩) len c) ∧ Room w' g bs ∧ w.heap.size ≤ g ∧ Below w.heap.size w w' := by
  subst hlen
  have k1 := conv_told (P := Try.prog) hb cap 33 9 5 Try.underlying33 Try.underlying5 Try.underlying9
  have k2 := Lib.run_convert_string_bytes (P := Try.prog) w 9 33 5 ⟨bs.toArray⟩ Try.underlying9 Try.underlying33 Try.underlying5
  have F0 := fresh_bytes w 5 bs hl
  have F := Lib.hid (And.intro F0.below (show Room (Lib.bytesWorld w 5 ⟨bs.toArray⟩) w.heap.size bs from ⟨⟨_, _, Lib.bytesWorld_at_new w 5 ⟨bs.toArray⟩⟩, F0.has, F0.free⟩))
  clear hb F0
  generalize Lib.bytesWorld w 5 ⟨bs.toArray⟩ = w1 at k2 F
  rw [show (ByteArray.mk bs.toArray).size = bs.length from rfl] at k2
  go_enter Try.func12, Try.ntmps12
  go_wp2
  go_ret
  exact ⟨_, _, rfl, F.out.2, Nat.le_refl _, F.out.1⟩
/-- Bytes that are written touch neither disk. -/
theorem Both.wrote {w w' : World} {base p rb k g n : Nat} {s : St} {r : Rf} {bs : List UInt8} (h : Both w base p rb s r k) (R : Room w g bs) (W : Wrote w w' g 0 n) : Both w' base p rb s r k := by
  obtain ⟨cs, fr, e⟩ := R.blk
  have T : Turned (fun t => t == 5) 0 w w' := ⟨W.os, W.tape, W.output, by rw [W.size]; exact Nat.le_refl _, fun k hk hc => W.block k (fun q => by
    subst q
    rcases hc with hc | hc
    · omega
    · have := hc _ _ _ e
      simp at this)⟩
  refine ⟨h.is.other T (fun t ht => ?_), ?_, h.tie, h.whole, h.few⟩
  · unfold dT at ht
    simp only [Bool.or_eq_true, beq_iff_eq] at ht
    rcases ht with rfl | rfl | rfl <;> rfl
  · obtain ⟨cv, wv, q⟩ := h.ris
    exact ⟨cv, wv, q.same fun k cs' t fr' _ hl hc ht => T.block k hl (.inr fun cs2 t2 fr2 hc2 => by
      rw [hc] at hc2
      cases hc2
      rcases ht with rfl | rfl <;> rfl)⟩
theorem OpsIn.at {w : World} {A : Option Addr} {len cap k : Nat} {l : List Opr} (h : OpsIn w A len cap l) (hk : k < len) :
    ∃ b o, A = some ⟨b, o, none⟩ ∧ (l[k]'(by rw [h.hlen]; exact hk)).Lies w b (o + k * 6) ∧ (l[k]'(by rw [h.hlen]; exact hk)).Fits w := by
  have hl := h.hlen
  rcases h.lies with e | ⟨b, o, e, q⟩
  · subst e; simp at hl; omega
  · exact ⟨b, o, e, q k (by omega), h.fits _ (List.getElem_mem _)⟩
theorem Opr.Lies.below {w w' : World} {b o : Nat} {x : Opr} (h : x.Lies w b o) (k : Below w.heap.size w w') : x.Lies w' b o := by
  have hl := World.block_lt_of_cell? w _ h.c0
  exact ⟨(k.cell hl).trans h.c0, (k.cell (p := ⟨b, o + 1, none⟩) hl).trans h.c1, (k.cell (p := ⟨b, o + 2, none⟩) hl).trans h.c2, (k.cell (p := ⟨b, o + 3, none⟩) hl).trans h.c3, (k.cell (p := ⟨b, o + 4, none⟩) hl).trans h.c4, (k.cell (p := ⟨b, o + 5, none⟩) hl).trans h.c5⟩
theorem flags_early {w : World} {A : Option Addr} {ks : List Bool} (h : Flags w A ks) : ks = [] ∨ ∀ x, A = some x → x.block < w.heap.size := by
  rcases h with h | ⟨b, o, rfl, k⟩
  · exact .inl h
  · by_cases h0 : ks = []
    · exact .inl h0
    · refine .inr fun x hx => ?_
      cases hx
      exact World.block_lt_of_cell? w _ (k 0 (by rcases ks with _ | _; exact absurd rfl h0; simp))
theorem word_le {n : Int} (h : (Lit.int .i64 n).wf = true) : n ≤ 9223372036854775807 := by
  have h2 : IntKind.i64.min ≤ n ∧ n ≤ IntKind.i64.max := by simpa [Lit.wf] using h
  exact h2.2
end Go.Proofs.Ythcjhbjhghfhjaa.Dsk
