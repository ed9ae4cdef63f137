/- Which block is handed out next: look. (Written by bin/gen_pklook.py.) -/
import Derived.Test.YtlemjegngnfanaaPkB
import Derived.Deep.LoopGhost
namespace Go.Proofs.Ytlemjegngnfanaa.Pk
open Go.RowKit Go.Proofs.Ytlemjegngnfanaa.Oct Go.Proofs.Ytlemjegngnfanaa.Mv Go.Proofs.Ytlemjegngnfanaa.Tl Go.Maps
set_option linter.unusedVariables false

/-- From where to where it is looked, one after another. -/
def Q.lo (q : Q) (k : Nat) : Nat := if k = 0 then q.next else q.first
def Q.hi (q : Q) (k : Nat) : Nat := if k = 0 then q.s.n else q.next
/-- None of these blocks is free. -/
def Q.full (q : Q) (k m : Nat) : Prop := ∀ j, q.lo k ≤ j → j < m → q.s.free j = false
/-- What is found: the first free block from Next on, or else from the first one on. -/
def Q.Found (q : Q) (b : Nat) : Prop := b < q.s.n ∧ q.s.free b = true ∧ ((q.next ≤ b ∧ q.full 0 b) ∨ (q.full 0 q.s.n ∧ q.first ≤ b ∧ b < q.next ∧ q.full 1 b))
def Q.None (q : Q) : Prop := q.full 0 q.s.n ∧ q.full 1 q.next
def Q.Look (q : Q) (b : Nat) (ok : Bool) : Prop := if ok then q.Found b else b = 0 ∧ q.None

set_option maxRecDepth 100000 in
set_option maxHeartbeats 2000000 in
theorem look_at {w : World} {p ta cb mb c : Nat} {q : Q} (h : PAt w p ta cb mb c q) :
    Calls Try.prog 40 #[.pointer (some ⟨p, 0, none⟩)] w fun e w' => ∃ b ok, e = .returned (.tuple #[.int .i64 ((b : Nat) : Int), .bool ok]) ∧ q.Look b ok ∧ Below w.heap.size w w' := by
  have H := Lib.hid h
  have c0 := h.c0
  have c1 := h.c1
  have c2 := h.c2
  have hn : q.s.n ≤ 4096 := h.ok.s.hi
  have hf := h.ok.first
  have hl := h.ok.le
  have hnx := h.ok.nextn
  clear h
  go_enter Try.func40, Try.ntmps40
  go_upto_region 2 with (fail)
  go_step3
  go_upto_region 2 with (fail)
  refine Inv2.wp_region_inv (fun b a wy => ∃ z6 z10 z11 z12 z13 z14 z15 z16 z17 z18 z19 z20 z21 z22 z23 z24 z25 z26 z27 z28 z29, a = ⟨#[.pointer (some ⟨p, 0, none⟩), undef, .int .i64 0, .bool false, .int .i64 0, .bool false, z6, undef, undef, undef, z10, z11, z12, z13, z14, z15, z16, z17, z18, z19, z20, z21, z22, z23, z24, z25, z26, z27, z28, z29, undef, undef, undef, undef, undef, undef, undef, undef, undef, undef, undef, undef, undef, undef, undef, undef, undef, undef, undef, undef, undef, undef], []⟩ ∧ Hid ((b 0 = true → z10 = .pointer (some ⟨p, 0, none⟩)) ∧ (b 1 = true → z11 = .pointer (some ⟨p, 0, none⟩)) ∧ (b 2 = true → z12 = .pointer (some ⟨p, 2, none⟩)) ∧ (b 3 = true → z13 = .int .i64 (q.next : Int)) ∧ (b 4 = true → z14 = .pointer (some ⟨p, 0, none⟩)) ∧ (b 5 = true → z15 = .pointer (some ⟨p, 0, none⟩)) ∧ (b 6 = true → z16 = .pointer (some ⟨p, 0, none⟩)) ∧ (b 7 = true → z17 = .pointer (some ⟨ta, 0, none⟩)) ∧ (b 8 = true → z18 = .int .i64 (q.s.n : Int)) ∧ (b 9 = true → z19 = .agg #[.int .i64 (q.next : Int), .int .i64 (q.s.n : Int)]) ∧ (b 10 = true → z20 = .pointer (some ⟨p, 0, none⟩)) ∧ (b 11 = true → z21 = .pointer (some ⟨p, 0, none⟩)) ∧ (b 12 = true → z22 = .pointer (some ⟨p, 1, none⟩)) ∧ (b 13 = true → z23 = .int .i64 (q.first : Int)) ∧ (b 14 = true → z24 = .pointer (some ⟨p, 0, none⟩)) ∧ (b 15 = true → z25 = .pointer (some ⟨p, 0, none⟩)) ∧ (b 16 = true → z26 = .pointer (some ⟨p, 2, none⟩)) ∧ (b 17 = true → z27 = .int .i64 (q.next : Int)) ∧ (b 18 = true → z28 = .agg #[.int .i64 (q.first : Int), .int .i64 (q.next : Int)]) ∧ (b 19 = true → z29 = .agg #[.int .i64 (q.next : Int), .int .i64 (q.s.n : Int), .int .i64 (q.first : Int), .int .i64 (q.next : Int)])) ∧ Hid (Below w.heap.size w wy) ∧ Hid (∃ r, (b 20 = true → b 21 = false → z6 = .pointer (some ⟨r, 0, none⟩) ∧ w.heap.size ≤ r ∧ RowV wy r 107 [.int .i64 0, .int .i64 0, .int .i64 0, .int .i64 0]) ∧ (b 21 = true → z6 = .pointer (some ⟨r, 0, none⟩) ∧ w.heap.size ≤ r ∧ RowV wy r 107 [.int .i64 (q.next : Int), .int .i64 (q.s.n : Int), .int .i64 (q.first : Int), .int .i64 (q.next : Int)]) ∧ (b 21 = true → b 20 = true))) (by kernel_rfl) (by kernel_rfl) ?startL2 ?stepsL2 ?doneL2
  case startL2 =>
    intro b hb
    refine ⟨undef, undef, undef, undef, undef, undef, undef, undef, undef, undef, undef, undef, undef, undef, undef, undef, undef, undef, undef, undef, undef, rfl, Lib.hid ⟨?_, ?_, ?_, ?_, ?_, ?_, ?_, ?_, ?_, ?_, ?_, ?_, ?_, ?_, ?_, ?_, ?_, ?_, ?_, ?_⟩, Lib.hid ((show Still w w.drew from ⟨rfl, rfl, rfl, rfl⟩).below _), Lib.hid (⟨0, (fun e => by rw [hb _ (by decide)] at e; cases e), (fun e => by rw [hb _ (by decide)] at e; cases e), (fun e => by rw [hb _ (by decide)] at e; cases e)⟩)⟩
    all_goals (intro e; first | rfl | (rw [hb _ (by decide)] at e; cases e))
  case stepsL2 =>
    refine ⟨?_, ?_, ?_, ?_, ?_, ?_, ?_, ?_, ?_, ?_, ?_, ?_, ?_, ?_, ?_, ?_, ?_, ?_, ?_, ?_, ?_, ?_, trivial⟩
    · rintro b a wy hb hd ⟨z6, z10, z11, z12, z13, z14, z15, z16, z17, z18, z19, z20, z21, z22, z23, z24, z25, z26, z27, z28, z29, rfl, HV, HW, HX⟩ K hK
      obtain ⟨h0, h1, h2, h3, h4, h5, h6, h7, h8, h9, h10, h11, h12, h13, h14, h15, h16, h17, h18, h19⟩ := HV.out
      clear hd
      go_simp
      exact hK _ _ ⟨_, _, _, _, _, _, _, _, _, _, _, _, _, _, _, _, _, _, _, _, _, rfl, Lib.hid ⟨fun _ => rfl, h1, h2, h3, h4, h5, h6, h7, h8, h9, h10, h11, h12, h13, h14, h15, h16, h17, h18, h19⟩, HW, HX⟩
    · rintro b a wy hb hd ⟨z6, z10, z11, z12, z13, z14, z15, z16, z17, z18, z19, z20, z21, z22, z23, z24, z25, z26, z27, z28, z29, rfl, HV, HW, HX⟩ K hK
      obtain ⟨h0, h1, h2, h3, h4, h5, h6, h7, h8, h9, h10, h11, h12, h13, h14, h15, h16, h17, h18, h19⟩ := HV.out
      simp [Region.binds] at hd
      obtain rfl := h0 (by simp [hd])
      clear hd
      go_simp
      exact hK _ _ ⟨_, _, _, _, _, _, _, _, _, _, _, _, _, _, _, _, _, _, _, _, _, rfl, Lib.hid ⟨h0, fun _ => rfl, h2, h3, h4, h5, h6, h7, h8, h9, h10, h11, h12, h13, h14, h15, h16, h17, h18, h19⟩, HW, HX⟩
    · rintro b a wy hb hd ⟨z6, z10, z11, z12, z13, z14, z15, z16, z17, z18, z19, z20, z21, z22, z23, z24, z25, z26, z27, z28, z29, rfl, HV, HW, HX⟩ K hK
      obtain ⟨h0, h1, h2, h3, h4, h5, h6, h7, h8, h9, h10, h11, h12, h13, h14, h15, h16, h17, h18, h19⟩ := HV.out
      simp [Region.binds] at hd
      obtain rfl := h1 (by simp [hd])
      clear hd
      go_simp
      exact hK _ _ ⟨_, _, _, _, _, _, _, _, _, _, _, _, _, _, _, _, _, _, _, _, _, rfl, Lib.hid ⟨h0, h1, fun _ => rfl, h3, h4, h5, h6, h7, h8, h9, h10, h11, h12, h13, h14, h15, h16, h17, h18, h19⟩, HW, HX⟩
    · rintro b a wy hb hd ⟨z6, z10, z11, z12, z13, z14, z15, z16, z17, z18, z19, z20, z21, z22, z23, z24, z25, z26, z27, z28, z29, rfl, HV, HW, HX⟩ K hK
      obtain ⟨h0, h1, h2, h3, h4, h5, h6, h7, h8, h9, h10, h11, h12, h13, h14, h15, h16, h17, h18, h19⟩ := HV.out
      simp [Region.binds] at hd
      obtain rfl := h2 (by simp [hd])
      clear hd
      have hc := (H.out.kept HW.out).c2
      go_simp
      exact hK _ _ ⟨_, _, _, _, _, _, _, _, _, _, _, _, _, _, _, _, _, _, _, _, _, rfl, Lib.hid ⟨h0, h1, h2, fun _ => rfl, h4, h5, h6, h7, h8, h9, h10, h11, h12, h13, h14, h15, h16, h17, h18, h19⟩, HW, HX⟩
    · rintro b a wy hb hd ⟨z6, z10, z11, z12, z13, z14, z15, z16, z17, z18, z19, z20, z21, z22, z23, z24, z25, z26, z27, z28, z29, rfl, HV, HW, HX⟩ K hK
      obtain ⟨h0, h1, h2, h3, h4, h5, h6, h7, h8, h9, h10, h11, h12, h13, h14, h15, h16, h17, h18, h19⟩ := HV.out
      clear hd
      go_simp
      exact hK _ _ ⟨_, _, _, _, _, _, _, _, _, _, _, _, _, _, _, _, _, _, _, _, _, rfl, Lib.hid ⟨h0, h1, h2, h3, fun _ => rfl, h5, h6, h7, h8, h9, h10, h11, h12, h13, h14, h15, h16, h17, h18, h19⟩, HW, HX⟩
    · rintro b a wy hb hd ⟨z6, z10, z11, z12, z13, z14, z15, z16, z17, z18, z19, z20, z21, z22, z23, z24, z25, z26, z27, z28, z29, rfl, HV, HW, HX⟩ K hK
      obtain ⟨h0, h1, h2, h3, h4, h5, h6, h7, h8, h9, h10, h11, h12, h13, h14, h15, h16, h17, h18, h19⟩ := HV.out
      simp [Region.binds] at hd
      obtain rfl := h4 (by simp [hd])
      clear hd
      go_simp
      exact hK _ _ ⟨_, _, _, _, _, _, _, _, _, _, _, _, _, _, _, _, _, _, _, _, _, rfl, Lib.hid ⟨h0, h1, h2, h3, h4, fun _ => rfl, h6, h7, h8, h9, h10, h11, h12, h13, h14, h15, h16, h17, h18, h19⟩, HW, HX⟩
    · rintro b a wy hb hd ⟨z6, z10, z11, z12, z13, z14, z15, z16, z17, z18, z19, z20, z21, z22, z23, z24, z25, z26, z27, z28, z29, rfl, HV, HW, HX⟩ K hK
      obtain ⟨h0, h1, h2, h3, h4, h5, h6, h7, h8, h9, h10, h11, h12, h13, h14, h15, h16, h17, h18, h19⟩ := HV.out
      simp [Region.binds] at hd
      obtain rfl := h5 (by simp [hd])
      clear hd
      go_simp
      exact hK _ _ ⟨_, _, _, _, _, _, _, _, _, _, _, _, _, _, _, _, _, _, _, _, _, rfl, Lib.hid ⟨h0, h1, h2, h3, h4, h5, fun _ => rfl, h7, h8, h9, h10, h11, h12, h13, h14, h15, h16, h17, h18, h19⟩, HW, HX⟩
    · rintro b a wy hb hd ⟨z6, z10, z11, z12, z13, z14, z15, z16, z17, z18, z19, z20, z21, z22, z23, z24, z25, z26, z27, z28, z29, rfl, HV, HW, HX⟩ K hK
      obtain ⟨h0, h1, h2, h3, h4, h5, h6, h7, h8, h9, h10, h11, h12, h13, h14, h15, h16, h17, h18, h19⟩ := HV.out
      simp [Region.binds] at hd
      obtain rfl := h6 (by simp [hd])
      clear hd
      have hc := (H.out.kept HW.out).c0
      go_simp
      exact hK _ _ ⟨_, _, _, _, _, _, _, _, _, _, _, _, _, _, _, _, _, _, _, _, _, rfl, Lib.hid ⟨h0, h1, h2, h3, h4, h5, h6, fun _ => rfl, h8, h9, h10, h11, h12, h13, h14, h15, h16, h17, h18, h19⟩, HW, HX⟩
    · rintro b a wy hb hd ⟨z6, z10, z11, z12, z13, z14, z15, z16, z17, z18, z19, z20, z21, z22, z23, z24, z25, z26, z27, z28, z29, rfl, HV, HW, HX⟩ K hK
      obtain ⟨h0, h1, h2, h3, h4, h5, h6, h7, h8, h9, h10, h11, h12, h13, h14, h15, h16, h17, h18, h19⟩ := HV.out
      simp [Region.binds] at hd
      obtain rfl := h7 (by simp [hd])
      clear hd
      go_simp
      go_at_call 32
      refine (blocks_at (H.out.kept HW.out).tally).mono ?_
      rintro e wz ⟨rfl, rfl⟩
      try go_simp
      exact hK _ _ ⟨_, _, _, _, _, _, _, _, _, _, _, _, _, _, _, _, _, _, _, _, _, rfl, Lib.hid ⟨h0, h1, h2, h3, h4, h5, h6, h7, fun _ => rfl, h9, h10, h11, h12, h13, h14, h15, h16, h17, h18, h19⟩, HW, HX⟩
    · rintro b a wy hb hd ⟨z6, z10, z11, z12, z13, z14, z15, z16, z17, z18, z19, z20, z21, z22, z23, z24, z25, z26, z27, z28, z29, rfl, HV, HW, HX⟩ K hK
      obtain ⟨h0, h1, h2, h3, h4, h5, h6, h7, h8, h9, h10, h11, h12, h13, h14, h15, h16, h17, h18, h19⟩ := HV.out
      simp [Region.binds] at hd
      obtain rfl := h3 (by simp [hd])
      obtain rfl := h8 (by simp [hd])
      clear hd
      go_simp
      exact hK _ _ ⟨_, _, _, _, _, _, _, _, _, _, _, _, _, _, _, _, _, _, _, _, _, rfl, Lib.hid ⟨h0, h1, h2, h3, h4, h5, h6, h7, h8, fun _ => rfl, h10, h11, h12, h13, h14, h15, h16, h17, h18, h19⟩, HW, HX⟩
    · rintro b a wy hb hd ⟨z6, z10, z11, z12, z13, z14, z15, z16, z17, z18, z19, z20, z21, z22, z23, z24, z25, z26, z27, z28, z29, rfl, HV, HW, HX⟩ K hK
      obtain ⟨h0, h1, h2, h3, h4, h5, h6, h7, h8, h9, h10, h11, h12, h13, h14, h15, h16, h17, h18, h19⟩ := HV.out
      clear hd
      go_simp
      exact hK _ _ ⟨_, _, _, _, _, _, _, _, _, _, _, _, _, _, _, _, _, _, _, _, _, rfl, Lib.hid ⟨h0, h1, h2, h3, h4, h5, h6, h7, h8, h9, fun _ => rfl, h11, h12, h13, h14, h15, h16, h17, h18, h19⟩, HW, HX⟩
    · rintro b a wy hb hd ⟨z6, z10, z11, z12, z13, z14, z15, z16, z17, z18, z19, z20, z21, z22, z23, z24, z25, z26, z27, z28, z29, rfl, HV, HW, HX⟩ K hK
      obtain ⟨h0, h1, h2, h3, h4, h5, h6, h7, h8, h9, h10, h11, h12, h13, h14, h15, h16, h17, h18, h19⟩ := HV.out
      simp [Region.binds] at hd
      obtain rfl := h10 (by simp [hd])
      clear hd
      go_simp
      exact hK _ _ ⟨_, _, _, _, _, _, _, _, _, _, _, _, _, _, _, _, _, _, _, _, _, rfl, Lib.hid ⟨h0, h1, h2, h3, h4, h5, h6, h7, h8, h9, h10, fun _ => rfl, h12, h13, h14, h15, h16, h17, h18, h19⟩, HW, HX⟩
    · rintro b a wy hb hd ⟨z6, z10, z11, z12, z13, z14, z15, z16, z17, z18, z19, z20, z21, z22, z23, z24, z25, z26, z27, z28, z29, rfl, HV, HW, HX⟩ K hK
      obtain ⟨h0, h1, h2, h3, h4, h5, h6, h7, h8, h9, h10, h11, h12, h13, h14, h15, h16, h17, h18, h19⟩ := HV.out
      simp [Region.binds] at hd
      obtain rfl := h11 (by simp [hd])
      clear hd
      go_simp
      exact hK _ _ ⟨_, _, _, _, _, _, _, _, _, _, _, _, _, _, _, _, _, _, _, _, _, rfl, Lib.hid ⟨h0, h1, h2, h3, h4, h5, h6, h7, h8, h9, h10, h11, fun _ => rfl, h13, h14, h15, h16, h17, h18, h19⟩, HW, HX⟩
    · rintro b a wy hb hd ⟨z6, z10, z11, z12, z13, z14, z15, z16, z17, z18, z19, z20, z21, z22, z23, z24, z25, z26, z27, z28, z29, rfl, HV, HW, HX⟩ K hK
      obtain ⟨h0, h1, h2, h3, h4, h5, h6, h7, h8, h9, h10, h11, h12, h13, h14, h15, h16, h17, h18, h19⟩ := HV.out
      simp [Region.binds] at hd
      obtain rfl := h12 (by simp [hd])
      clear hd
      have hc := (H.out.kept HW.out).c1
      go_simp
      exact hK _ _ ⟨_, _, _, _, _, _, _, _, _, _, _, _, _, _, _, _, _, _, _, _, _, rfl, Lib.hid ⟨h0, h1, h2, h3, h4, h5, h6, h7, h8, h9, h10, h11, h12, fun _ => rfl, h14, h15, h16, h17, h18, h19⟩, HW, HX⟩
    · rintro b a wy hb hd ⟨z6, z10, z11, z12, z13, z14, z15, z16, z17, z18, z19, z20, z21, z22, z23, z24, z25, z26, z27, z28, z29, rfl, HV, HW, HX⟩ K hK
      obtain ⟨h0, h1, h2, h3, h4, h5, h6, h7, h8, h9, h10, h11, h12, h13, h14, h15, h16, h17, h18, h19⟩ := HV.out
      clear hd
      go_simp
      exact hK _ _ ⟨_, _, _, _, _, _, _, _, _, _, _, _, _, _, _, _, _, _, _, _, _, rfl, Lib.hid ⟨h0, h1, h2, h3, h4, h5, h6, h7, h8, h9, h10, h11, h12, h13, fun _ => rfl, h15, h16, h17, h18, h19⟩, HW, HX⟩
    · rintro b a wy hb hd ⟨z6, z10, z11, z12, z13, z14, z15, z16, z17, z18, z19, z20, z21, z22, z23, z24, z25, z26, z27, z28, z29, rfl, HV, HW, HX⟩ K hK
      obtain ⟨h0, h1, h2, h3, h4, h5, h6, h7, h8, h9, h10, h11, h12, h13, h14, h15, h16, h17, h18, h19⟩ := HV.out
      simp [Region.binds] at hd
      obtain rfl := h14 (by simp [hd])
      clear hd
      go_simp
      exact hK _ _ ⟨_, _, _, _, _, _, _, _, _, _, _, _, _, _, _, _, _, _, _, _, _, rfl, Lib.hid ⟨h0, h1, h2, h3, h4, h5, h6, h7, h8, h9, h10, h11, h12, h13, h14, fun _ => rfl, h16, h17, h18, h19⟩, HW, HX⟩
    · rintro b a wy hb hd ⟨z6, z10, z11, z12, z13, z14, z15, z16, z17, z18, z19, z20, z21, z22, z23, z24, z25, z26, z27, z28, z29, rfl, HV, HW, HX⟩ K hK
      obtain ⟨h0, h1, h2, h3, h4, h5, h6, h7, h8, h9, h10, h11, h12, h13, h14, h15, h16, h17, h18, h19⟩ := HV.out
      simp [Region.binds] at hd
      obtain rfl := h15 (by simp [hd])
      clear hd
      go_simp
      exact hK _ _ ⟨_, _, _, _, _, _, _, _, _, _, _, _, _, _, _, _, _, _, _, _, _, rfl, Lib.hid ⟨h0, h1, h2, h3, h4, h5, h6, h7, h8, h9, h10, h11, h12, h13, h14, h15, fun _ => rfl, h17, h18, h19⟩, HW, HX⟩
    · rintro b a wy hb hd ⟨z6, z10, z11, z12, z13, z14, z15, z16, z17, z18, z19, z20, z21, z22, z23, z24, z25, z26, z27, z28, z29, rfl, HV, HW, HX⟩ K hK
      obtain ⟨h0, h1, h2, h3, h4, h5, h6, h7, h8, h9, h10, h11, h12, h13, h14, h15, h16, h17, h18, h19⟩ := HV.out
      simp [Region.binds] at hd
      obtain rfl := h16 (by simp [hd])
      clear hd
      have hc := (H.out.kept HW.out).c2
      go_simp
      exact hK _ _ ⟨_, _, _, _, _, _, _, _, _, _, _, _, _, _, _, _, _, _, _, _, _, rfl, Lib.hid ⟨h0, h1, h2, h3, h4, h5, h6, h7, h8, h9, h10, h11, h12, h13, h14, h15, h16, fun _ => rfl, h18, h19⟩, HW, HX⟩
    · rintro b a wy hb hd ⟨z6, z10, z11, z12, z13, z14, z15, z16, z17, z18, z19, z20, z21, z22, z23, z24, z25, z26, z27, z28, z29, rfl, HV, HW, HX⟩ K hK
      obtain ⟨h0, h1, h2, h3, h4, h5, h6, h7, h8, h9, h10, h11, h12, h13, h14, h15, h16, h17, h18, h19⟩ := HV.out
      simp [Region.binds] at hd
      obtain rfl := h13 (by simp [hd])
      obtain rfl := h17 (by simp [hd])
      clear hd
      go_simp
      exact hK _ _ ⟨_, _, _, _, _, _, _, _, _, _, _, _, _, _, _, _, _, _, _, _, _, rfl, Lib.hid ⟨h0, h1, h2, h3, h4, h5, h6, h7, h8, h9, h10, h11, h12, h13, h14, h15, h16, h17, fun _ => rfl, h19⟩, HW, HX⟩
    · rintro b a wy hb hd ⟨z6, z10, z11, z12, z13, z14, z15, z16, z17, z18, z19, z20, z21, z22, z23, z24, z25, z26, z27, z28, z29, rfl, HV, HW, HX⟩ K hK
      obtain ⟨h0, h1, h2, h3, h4, h5, h6, h7, h8, h9, h10, h11, h12, h13, h14, h15, h16, h17, h18, h19⟩ := HV.out
      simp [Region.binds] at hd
      obtain rfl := h9 (by simp [hd])
      obtain rfl := h18 (by simp [hd])
      clear hd
      go_simp
      exact hK _ _ ⟨_, _, _, _, _, _, _, _, _, _, _, _, _, _, _, _, _, _, _, _, _, rfl, Lib.hid ⟨h0, h1, h2, h3, h4, h5, h6, h7, h8, h9, h10, h11, h12, h13, h14, h15, h16, h17, h18, fun _ => rfl⟩, HW, HX⟩
    · rintro b a wy hb hd ⟨z6, z10, z11, z12, z13, z14, z15, z16, z17, z18, z19, z20, z21, z22, z23, z24, z25, z26, z27, z28, z29, rfl, HV, HW, HX⟩ K hK
      obtain ⟨h0, h1, h2, h3, h4, h5, h6, h7, h8, h9, h10, h11, h12, h13, h14, h15, h16, h17, h18, h19⟩ := HV.out
      clear hd
      go_simp
      obtain ⟨r, x0, x1, x2⟩ := HX.out
      have B2 := (Below.refl wy.heap.size wy).alloc (Nat.le_refl _) (.cells #[.int .i64 0, .int .i64 0, .int .i64 0, .int .i64 0] 107)
      exact hK _ _ ⟨_, _, _, _, _, _, _, _, _, _, _, _, _, _, _, _, _, _, _, _, _, rfl, Lib.hid ⟨h0, h1, h2, h3, h4, h5, h6, h7, h8, h9, h10, h11, h12, h13, h14, h15, h16, h17, h18, h19⟩, Lib.hid (HW.out.trans (B2.mono HW.out.size)), Lib.hid ⟨wy.heap.size, fun _ _ => ⟨rfl, HW.out.size, alloc_rowV wy _ [.int .i64 0, .int .i64 0, .int .i64 0, .int .i64 0]⟩, fun e => absurd (x2 e) (by rw [hb]; decide), fun _ => rfl⟩⟩
    · rintro b a wy hb hd ⟨z6, z10, z11, z12, z13, z14, z15, z16, z17, z18, z19, z20, z21, z22, z23, z24, z25, z26, z27, z28, z29, rfl, HV, HW, HX⟩ K hK
      obtain ⟨h0, h1, h2, h3, h4, h5, h6, h7, h8, h9, h10, h11, h12, h13, h14, h15, h16, h17, h18, h19⟩ := HV.out
      simp [Region.binds] at hd
      have dd20 : b 20 = true := by simp [hd]
      obtain rfl := h19 (by simp [hd])
      clear hd
      obtain ⟨r, x0, x1, x2⟩ := HX.out
      obtain ⟨rfl, hrl, hrow⟩ := x0 dd20 hb
      have e0 := hrow.cellAt (i := 0) rfl
      have e1 := hrow.cellAt (i := 1) rfl
      have e2 := hrow.cellAt (i := 2) rfl
      have e3 := hrow.cellAt (i := 3) rfl
      have f0 := hrow.free 0
      have f1 := hrow.free 1
      have f2 := hrow.free 2
      have f3 := hrow.free 3
      have HRS := Lib.hid ((((hrow.set 0 (.int .i64 (q.next : Int))).set 1 (.int .i64 (q.s.n : Int))).set 2 (.int .i64 (q.first : Int))).set 3 (.int .i64 (q.next : Int)))
      have HWS := Lib.hid ((((HW.out.setCell (p := ⟨r, 0, none⟩) hrl (.int .i64 (q.next : Int))).setCell (p := ⟨r, 1, none⟩) hrl (.int .i64 (q.s.n : Int))).setCell (p := ⟨r, 2, none⟩) hrl (.int .i64 (q.first : Int))).setCell (p := ⟨r, 3, none⟩) hrl (.int .i64 (q.next : Int)))
      have HD := Lib.hid (And.intro hrl dd20)
      clear hrl hrow HX x0 x1 x2
      go_simp
      exact hK _ _ ⟨_, _, _, _, _, _, _, _, _, _, _, _, _, _, _, _, _, _, _, _, _, rfl, Lib.hid ⟨h0, h1, h2, h3, h4, h5, h6, h7, h8, h9, h10, h11, h12, h13, h14, h15, h16, h17, h18, h19⟩, HWS, Lib.hid ⟨r, fun _ e => (by cases e), fun _ => ⟨rfl, HD.out.1, HRS.out⟩, fun _ => HD.out.2⟩⟩
  case doneL2 =>
    rintro b a wy hb ⟨z6, z10, z11, z12, z13, z14, z15, z16, z17, z18, z19, z20, z21, z22, z23, z24, z25, z26, z27, z28, z29, rfl, HV, HW, HX⟩
    obtain ⟨h0, h1, h2, h3, h4, h5, h6, h7, h8, h9, h10, h11, h12, h13, h14, h15, h16, h17, h18, h19⟩ := HV.out
    obtain rfl := h0 (hb 0)
    obtain rfl := h1 (hb 1)
    obtain rfl := h2 (hb 2)
    obtain rfl := h3 (hb 3)
    obtain rfl := h4 (hb 4)
    obtain rfl := h5 (hb 5)
    obtain rfl := h6 (hb 6)
    obtain rfl := h7 (hb 7)
    obtain rfl := h8 (hb 8)
    obtain rfl := h9 (hb 9)
    obtain rfl := h10 (hb 10)
    obtain rfl := h11 (hb 11)
    obtain rfl := h12 (hb 12)
    obtain rfl := h13 (hb 13)
    obtain rfl := h14 (hb 14)
    obtain rfl := h15 (hb 15)
    obtain rfl := h16 (hb 16)
    obtain rfl := h17 (hb 17)
    obtain rfl := h18 (hb 18)
    obtain rfl := h19 (hb 19)
    clear HV h0 h1 h2 h3 h4 h5 h6 h7 h8 h9 h10 h11 h12 h13 h14 h15 h16 h17 h18 h19
    obtain ⟨r, -, x1, -⟩ := HX.out
    obtain ⟨rfl, hrl, hrow⟩ := x1 (hb 21)
    have d0 := hrow.cellAt (i := 0) rfl
    have d1 := hrow.cellAt (i := 1) rfl
    have d2 := hrow.cellAt (i := 2) rfl
    have d3 := hrow.cellAt (i := 3) rfl
    have H1 := Lib.hid (H.out.kept HW.out)
    clear x1 HX hb hrl hrow c0 c1 c2 H
    go_wp2_with fail
    go_step3
    go_wp2_with fail
    clear d0 d1 d2 d3
    go_loopg [31, 4, 5] 2 (fun g s31 s4 s5 wx => ∃ k : Nat, k + g = 2 ∧ s31 = .int .i64 (k : Int) ∧ s4 = .int .i64 0 ∧ s5 = .bool false ∧ Hid (0 < k → q.full 0 q.s.n) ∧ Hid (1 < k → q.full 1 q.next) ∧ Hid (Below w.heap.size w wx) ∧ Hid (PAt wx p ta cb mb c q))
    case atStart => exact ⟨0, rfl, rfl, rfl, rfl, fun e => absurd e (by omega), fun e => absurd e (by omega), HW, H1⟩
    case round =>
      obtain ⟨k, hk, rfl, rfl, rfl, F0, F1, HB, HP⟩ := hrel
      clear HW H1
      cases gk with
      | zero =>
        obtain rfl : k = 2 := by omega
        have f0 := F0.out (by omega)
        have f1 := F1.out (by omega)
        have HN := Lib.hid (show q.None from ⟨f0, f1⟩)
        clear F0 F1 f0 f1
        go_wp2_with fail
        try rw [Exit.noGoto_ret]
        go_ret2
        exact ⟨0, false, rfl, ⟨rfl, HN.out⟩, HB.out⟩
      | succ g =>
        have hk1 : k < 2 := by omega
        have hki : (k : Int) < 2 := by omega
        have ix : (Instr.index 107 (.agg #[.int .i64 (q.next : Int), .int .i64 (q.s.n : Int), .int .i64 (q.first : Int), .int .i64 (q.next : Int)]) (.int .i64 (k : Int))).run Try.prog wr = .ok (.agg #[.int .i64 (q.lo k : Int), .int .i64 (q.hi k : Int)]) wr := by
          unfold Instr.index
          rcases (show k = 0 ∨ k = 1 by omega) with rfl | rfl
          · simp [go_sem, Q.lo, Q.hi]
          · simp [go_sem, Q.lo, Q.hi]
        have hlh : q.lo k ≤ q.hi k := by unfold Q.lo Q.hi; split <;> omega
        have hhn : q.hi k ≤ q.s.n := by unfold Q.hi; split <;> omega
        have B1 := (Below.refl wr.heap.size wr).alloc (Nat.le_refl _) (.cells #[.int .i64 (q.lo k : Int), .int .i64 (q.hi k : Int)] 106)
        have HP1 := Lib.hid (HP.out.kept B1)
        have HB1 := Lib.hid (HB.out.trans (B1.mono HB.out.size))
        have R1 := alloc_rowV wr 106 [.int .i64 (q.lo k : Int), .int .i64 (q.hi k : Int)]
        have HR1 := Lib.hid R1
        clear B1 R1 HB HP
        go_upto_region 6 with (fail)
        clear ix
        generalize wr.alloc (.cells #[.int .i64 (q.lo k : Int), .int .i64 (q.hi k : Int)] 106) = w1 at *
        obtain ⟨sp, hsp⟩ : ∃ x, x = wr.heap.size := ⟨_, rfl⟩
        rw [← hsp] at HR1 ⊢
        clear hsp
        have e0 := HR1.out.cellAt (i := 0) rfl
        go_upto_region 7 with (fail)
        go_wp2_with fail
        clear e0
        have e1 := HR1.out.cellAt (i := 1) rfl
        go_loopg [9, 4, 5] (q.hi k - q.lo k) (fun g s9 s4 s5 wx => ∃ j : Nat, j + g = q.hi k ∧ q.lo k ≤ j ∧ s9 = .int .i64 (j : Int) ∧ s4 = .int .i64 0 ∧ s5 = .bool false ∧ Hid (q.full k j) ∧ wx = w1)
        case atStart => exact ⟨q.lo k, by omega, Nat.le_refl _, rfl, rfl, rfl, fun j h1 h2 => absurd h1 (by omega), rfl⟩
        case round =>
          obtain ⟨j, hj, hlj, rfl, rfl, rfl, FJ, rfl⟩ := hrel
          have c0 := HP1.out.c0
          cases gk with
          | zero =>
            obtain rfl : j = q.hi k := by omega
            have hjj : ¬ ((q.hi k : Int) < (q.hi k : Int)) := by omega
            go_wp2_with fail
            go_roundg g
            case measure => omega
            case rel =>
              refine ⟨k + 1, by omega, by go_num, rfl, rfl, fun _ => ?_, fun e => ?_, HB1.out, HP1.out⟩
              · by_cases e0 : k = 0
                · subst e0
                  exact FJ.out
                · exact F0.out (by omega)
              · obtain rfl : k = 1 := by omega
                exact FJ.out
          | succ gi =>
            have hjn : (j : Int) < (q.hi k : Int) := by omega
            have hjs : j < q.s.n := by omega
            have HF := Lib.hid (free_yes HP1.out.tally j hjs)
            cases hfr : q.s.free j
            · rw [hfr] at HF
              have HFR := Lib.hid hfr
              clear hfr
              go_wp2_with fail
              refine HF.out.mono ?_
              rintro e w' ⟨rfl, rfl⟩
              go_wp2_with fail
              go_roundg gi
              case measure => omega
              case rel =>
                refine ⟨j + 1, by omega, by omega, by go_num, rfl, rfl, fun i h1 h2 => ?_, rfl⟩
                by_cases e0 : i = j
                · subst e0
                  exact HFR.out
                · exact FJ.out i h1 (by omega)
            · rw [hfr] at HF
              have HFR := Lib.hid hfr
              clear hfr
              go_wp2_with fail
              refine HF.out.mono ?_
              rintro e w' ⟨rfl, rfl⟩
              go_wp2_with fail
              try rw [Exit.noGoto_ret]
              go_ret2
              refine ⟨j, true, rfl, ?_, HB1.out⟩
              refine ⟨hjs, HFR.out, ?_⟩
              rcases (show k = 0 ∨ k = 1 by omega) with rfl | rfl
              · exact .inl ⟨hlj, FJ.out⟩
              · exact .inr ⟨F0.out (by omega), hlj, by have : q.hi 1 = q.next := rfl; omega, FJ.out⟩
end Go.Proofs.Ytlemjegngnfanaa.Pk

