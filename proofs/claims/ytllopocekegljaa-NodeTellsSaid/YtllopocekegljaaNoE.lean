/- Layer 12: contracts of change, without, halves. (Written by bin/gen_noe.py.) -/
import Derived.Test.YtllopocekegljaaNoD
namespace Go.Proofs.Ytllopocekegljaa.No
open Go.RowKit Go.Proofs.Ytllopocekegljaa.Oct Go.Proofs.Ytllopocekegljaa.Lf Go.Proofs.Ytllopocekegljaa.Mv
set_option linter.unusedVariables false
set_option linter.unusedSimpArgs false

theorem if_wanted {c : Bool} {A B : Prop} (h : c = true) (a : A) : if c = true then A else B := by rw [if_pos h]; exact a
theorem wp_build_as {o : Oper} {a : Act} {w : World} {K : Act → World → Prop} {Q : Exit → Act → World → Prop} (t : TypeId) (parts : Array (Nat × Operand)) (ho : o.op = .build t parts)
    (cs : Array Value) (hb : Try.prog.built t (parts.map fun (i, x) => (i, a.eval x)).toList = some cs) (h : K (a.put o.dst (.agg cs)) w) : o.wp Try.prog a w K Q :=
  wp_build t parts ho (by rw [hb]; rfl) (by rw [hb]; exact h)
theorem wpList_build_as {ops : Array Oper} {rest : List Oper} {o : Oper} {a : Act} {w : World} {Q : Exit → Act → World → Prop} (hg : o.guard = none) (t : TypeId) (parts : Array (Nat × Operand)) (ho : o.op = .build t parts)
    (cs : Array Value) (hb : Try.prog.built t (parts.map fun (i, x) => (i, a.eval x)).toList = some cs) (h : wpList Try.prog ops Q rest (a.put o.dst (.agg cs)) w) : wpList Try.prog ops Q (o :: rest) a w :=
  wpList_plain hg fun _ hK => wp_build_as t parts ho cs hb (hK _ _ h)
theorem row_set {w : World} {g : Nat} {T : TypeId} {vs us : List Value} (h : RowV w g T vs) : RowV (w.setRow g us.toArray) g T us := setRow_heap w g _ _ _ _ h
theorem row_other {w : World} {g q : Nat} {T : TypeId} {vs : List Value} (h : RowV w g T vs) (cs : Array Value) (hq : g ≠ q) : RowV (w.setRow q cs) g T vs := by
  unfold RowV at h ⊢
  rw [setRow_other w q g cs hq, h]
theorem row_below {w : World} {B q : Nat} (cs : Array Value) (h : B ≤ q) : Below B w (w.setRow q cs) := ⟨rfl, rfl, rfl, by simp, fun k hk => setRow_other _ _ _ _ (by omega)⟩
/-- What one owns stays, where another block is stored to. -/
theorem own_row {w : World} {base q : Nat} {v : Value} {ns : List UInt64} (h : OwnN w base v ns) (cs : Array Value) (hq : q < base) : OwnN (w.setRow q cs) base v ns :=
  h.same fun k e _ => setRow_other _ _ _ _ (by have := (World.ownsRow.lt h k e).1; omega)
theorem own_at {w w' : World} {base : Nat} {v : Value} {ns : List UInt64} (h : OwnN w base v ns) (k : Below w.heap.size w w') : OwnN w' base v ns := h.below k (Nat.le_refl _)
theorem ones (l : Bool) {x y : Value} (hx : x.oneCell' = true) (hy : y.oneCell' = true) : (#[.bool l, x, y] : Array Value).all (·.oneCell') = true := by
  rw [← Array.all_toList]
  have hb : (Value.bool l).oneCell' = true := rfl
  simp [hx, hy, hb]
theorem node_zero (w : World) : (zeroValue 24).run Try.prog w = .ok (.agg #[.bool false, .slice none 0 0, .slice none 0 0]) w := by kernel_rfl
theorem node_size : (Try.prog.info? 24).map (·.size) = some 3 := by kernel_rfl
theorem node_built (l : Bool) (A B : Option Addr) (n c m d : Nat) : Try.prog.built 24 [(0, .bool l), (1, .slice A n c), (2, .slice B m d)] = some #[.bool l, .slice A n c, .slice B m d] := by kernel_rfl
theorem node_bare : Try.prog.built 24 [] = some #[.bool false, .slice none 0 0, .slice none 0 0] := by kernel_rfl

/-- A node that came in, in its box, and the zero node of a result. -/
abbrev box (w : World) (l : Bool) (A : Option Addr) (n c : Nat) (B : Option Addr) (m d : Nat) : World := w.alloc (.cells #[.bool l, .slice A n c, .slice B m d] 24)
abbrev zer (w : World) : World := w.alloc (.cells #[.bool false, .slice none 0 0, .slice none 0 0] 24)
theorem box_row (w : World) (l : Bool) (A : Option Addr) (n c : Nat) (B : Option Addr) (m d : Nat) : RowV (box w l A n c B m d) w.heap.size 24 [.bool l, .slice A n c, .slice B m d] := alloc_rowV _ _ _
theorem zer_row (w : World) : RowV (zer w) w.heap.size 24 [.bool false, .slice none 0 0, .slice none 0 0] := alloc_rowV _ _ _
theorem box_below (w : World) (l : Bool) (A : Option Addr) (n c : Nat) (B : Option Addr) (m d : Nat) : Below w.heap.size w (box w l A n c B m d) := (Below.refl _ _).alloc (Nat.le_refl _) _
theorem zer_below (w : World) : Below w.heap.size w (zer w) := (Below.refl _ _).alloc (Nat.le_refl _) _

set_option maxRecDepth 100000 in
set_option maxHeartbeats 4000000 in
theorem change_any (l : Bool) {w : World} {A B : Option Addr} {n c d : Nat} {ks vs : List UInt64} (h : Nd w A n c B n d ks vs) (i j : Nat) (hi : i ≤ n) (hj : j ≤ n) {O P : Option Addr} {p q d1 d2 : Nat} {os ps : List UInt64} (ho : os.length = p) (hp : ps.length = q) (tO : ToldN w O os) (tP : ToldN w P ps) (hsz : n + n + p ≤ 1000) (hsz2 : n + n + q ≤ 1000) :
    Calls Try.prog 33 #[.agg #[.bool l, .slice A n c, .slice B n d], .int .i64 (i : Int), .int .i64 (j : Int), .slice O p d1, .slice P q d2] w fun e w' => ∃ vk vv, e = .returned (.agg #[.bool l, vk, vv]) ∧ OwnN w' w.heap.size vk (cutIn ks i j os) ∧ OwnN w' w.heap.size vv (cutIn vs i j ps) ∧ Below w.heap.size w w' := by
  have hw2 : ((w.alloc (.cells #[.bool l, .slice A n c, .slice B n d] 24)).alloc (.cells #[.bool false, .slice none 0 0, .slice none 0 0] 24)).heap.size = w.heap.size + 2 := by simp
  have BB := Lib.hid (show Below w.heap.size w ((w.alloc (.cells #[.bool l, .slice A n c, .slice B n d] 24)).alloc (.cells #[.bool false, .slice none 0 0, .slice none 0 0] 24)) from (box_below w l A n c B n d).trans ((zer_below (box w l A n c B n d)).mono (by simp)))
  have HBX := Lib.hid (show RowV ((w.alloc (.cells #[.bool l, .slice A n c, .slice B n d] 24)).alloc (.cells #[.bool false, .slice none 0 0, .slice none 0 0] 24)) w.heap.size 24 [.bool l, .slice A n c, .slice B n d] from (box_row w l A n c B n d).below (by simp) (zer_below (box w l A n c B n d)))
  have HR := Lib.hid (show RowV ((w.alloc (.cells #[.bool l, .slice A n c, .slice B n d] 24)).alloc (.cells #[.bool false, .slice none 0 0, .slice none 0 0] 24)) (w.heap.size + 1) 24 [.bool false, .slice none 0 0, .slice none 0 0] from by have := zer_row (box w l A n c B n d); simpa using this)
  have HN := Lib.hid (h.below BB.out)
  have HO := Lib.hid (tO.below BB.out)
  have HP := Lib.hid (tP.below BB.out)
  have HLO := Lib.hid ho
  have HLP := Lib.hid hp
  have hz := node_zero
  have HN0 := Lib.hid h
  have tO0 := Lib.hid tO
  have tP0 := Lib.hid tP
  clear h tO tP ho hp
  go_enter Try.func33, Try.ntmps33
  go_upto_region 1 with (fail)
  generalize ((w.alloc (.cells #[.bool l, .slice A n c, .slice B n d] 24)).alloc (.cells #[.bool false, .slice none 0 0, .slice none 0 0] 24)) = w2 at *
  refine Inv2.wp_region_inv (fun b a wy => ∃ (z : Nat → Value) (z18 : Value) (z24 : Value) (z25 : Value), a = ⟨#[Value.agg #[Value.bool l, Value.slice A n c, Value.slice B n d], Value.int IntKind.i64 ↑i, Value.int IntKind.i64 ↑j, Value.slice O p d1, Value.slice P q d2, Value.pointer (some ⟨w.heap.size, 0, none⟩), undef, undef, undef, undef, Value.pointer (some ⟨w.heap.size + 1, 0, none⟩), (z 11), (z 12), (z 13), (z 14), (z 15), (z 16), (z 17), z18, (z 19), (z 20), (z 21), (z 22), (z 23), z24, z25], []⟩ ∧ Hid ((b 0 = true → (z 11) = .pointer (some ⟨w.heap.size, 0, none⟩)) ∧ (b 1 = true → (z 12) = .bool l) ∧ (b 2 = true → (z 13) = .pointer (some ⟨w.heap.size, 1, none⟩)) ∧ (b 3 = true → (z 14) = .slice A n c) ∧ (b 4 = true → (z 15) = Value.int IntKind.i64 ↑i) ∧ (b 5 = true → (z 16) = Value.int IntKind.i64 ↑j) ∧ (b 6 = true → (z 17) = Value.slice O p d1) ∧ (b 8 = true → (z 19) = .pointer (some ⟨w.heap.size, 2, none⟩)) ∧ (b 9 = true → (z 20) = .slice B n d) ∧ (b 10 = true → (z 21) = Value.int IntKind.i64 ↑i) ∧ (b 11 = true → (z 22) = Value.int IntKind.i64 ↑j) ∧ (b 12 = true → (z 23) = Value.slice P q d2)) ∧ Hid (Below (w.heap.size + 1) w2 wy) ∧ Hid ((b 7 = true → OwnN wy (w.heap.size + 2) z18 (cutIn ks i j os)) ∧ (b 13 = true → OwnN wy (w.heap.size + 2) z24 (cutIn vs i j ps)) ∧ (b 14 = true → b 7 = true ∧ b 13 = true ∧ z25 = .agg #[.bool l, z18, z24]) ∧ (b 15 = false → RowV wy (w.heap.size + 1) 24 [.bool false, .slice none 0 0, .slice none 0 0]) ∧ (b 15 = true → b 14 = true ∧ RowV wy (w.heap.size + 1) 24 [.bool l, z18, z24]))) (by kernel_rfl) (by kernel_rfl) ?startD ?stepsD ?doneD
  case startD =>
    intro b hb
    refine ⟨fun s => undef, undef, undef, undef, rfl, Lib.hid ⟨?_, ?_, ?_, ?_, ?_, ?_, ?_, ?_, ?_, ?_, ?_, ?_⟩, Lib.hid ((show Still w2 w2.drew from ⟨rfl, rfl, rfl, rfl⟩).below _), Lib.hid (⟨(fun e => by rw [hb _ (by decide)] at e; cases e), (fun e => by rw [hb _ (by decide)] at e; cases e), (fun e => by rw [hb _ (by decide)] at e; cases e), fun _ => HR.out, (fun e => by rw [hb _ (by decide)] at e; cases e)⟩)⟩
    all_goals (intro e; first | rfl | (rw [hb _ (by decide)] at e; cases e))
  case stepsD =>
    refine ⟨?_, ?_, ?_, ?_, ?_, ?_, ?_, ?_, ?_, ?_, ?_, ?_, ?_, ?_, ?_, ?_, trivial⟩
    · rintro b a wy hb hd ⟨z, z18, z24, z25, rfl, HV, HW, HX⟩ K hK
      clear hd
      go_simp
      have V := HV.out
      exact hK _ _ ⟨fun s => if s = 11 then .pointer (some ⟨w.heap.size, 0, none⟩) else z s, _, _, _, rfl, Lib.hid ⟨fun _ => rfl, V.2.1, V.2.2.1, V.2.2.2.1, V.2.2.2.2.1, V.2.2.2.2.2.1, V.2.2.2.2.2.2.1, V.2.2.2.2.2.2.2.1, V.2.2.2.2.2.2.2.2.1, V.2.2.2.2.2.2.2.2.2.1, V.2.2.2.2.2.2.2.2.2.2.1, V.2.2.2.2.2.2.2.2.2.2.2⟩, HW, HX⟩
    · rintro b a wy hb hd ⟨z, z18, z24, z25, rfl, HV, HW, HX⟩ K hK
      simp [Region.binds] at hd
      have e0 : (z 11) = .pointer (some ⟨w.heap.size, 0, none⟩) := (HV.out.1) (by simp [hd])
      clear hd
      have hbx := HBX.out.below (by omega) HW.out
      have c0 := hbx.cellAt (i := 0) rfl
      clear hbx
      go_simp
      have V := HV.out
      exact hK _ _ ⟨fun s => if s = 12 then .bool l else if s = 11 then .pointer (some ⟨w.heap.size, 0, none⟩) else z s, _, _, _, rfl, Lib.hid ⟨fun _ => rfl, fun _ => rfl, V.2.2.1, V.2.2.2.1, V.2.2.2.2.1, V.2.2.2.2.2.1, V.2.2.2.2.2.2.1, V.2.2.2.2.2.2.2.1, V.2.2.2.2.2.2.2.2.1, V.2.2.2.2.2.2.2.2.2.1, V.2.2.2.2.2.2.2.2.2.2.1, V.2.2.2.2.2.2.2.2.2.2.2⟩, HW, HX⟩
    · rintro b a wy hb hd ⟨z, z18, z24, z25, rfl, HV, HW, HX⟩ K hK
      clear hd
      go_simp
      have V := HV.out
      exact hK _ _ ⟨fun s => if s = 13 then .pointer (some ⟨w.heap.size, 1, none⟩) else z s, _, _, _, rfl, Lib.hid ⟨V.1, V.2.1, fun _ => rfl, V.2.2.2.1, V.2.2.2.2.1, V.2.2.2.2.2.1, V.2.2.2.2.2.2.1, V.2.2.2.2.2.2.2.1, V.2.2.2.2.2.2.2.2.1, V.2.2.2.2.2.2.2.2.2.1, V.2.2.2.2.2.2.2.2.2.2.1, V.2.2.2.2.2.2.2.2.2.2.2⟩, HW, HX⟩
    · rintro b a wy hb hd ⟨z, z18, z24, z25, rfl, HV, HW, HX⟩ K hK
      simp [Region.binds] at hd
      have e2 : (z 13) = .pointer (some ⟨w.heap.size, 1, none⟩) := (HV.out.2.2.1) (by simp [hd])
      clear hd
      have hbx := HBX.out.below (by omega) HW.out
      have c1 := hbx.cellAt (i := 1) rfl
      clear hbx
      go_simp
      have V := HV.out
      exact hK _ _ ⟨fun s => if s = 14 then .slice A n c else if s = 13 then .pointer (some ⟨w.heap.size, 1, none⟩) else z s, _, _, _, rfl, Lib.hid ⟨V.1, V.2.1, fun _ => rfl, fun _ => rfl, V.2.2.2.2.1, V.2.2.2.2.2.1, V.2.2.2.2.2.2.1, V.2.2.2.2.2.2.2.1, V.2.2.2.2.2.2.2.2.1, V.2.2.2.2.2.2.2.2.2.1, V.2.2.2.2.2.2.2.2.2.2.1, V.2.2.2.2.2.2.2.2.2.2.2⟩, HW, HX⟩
    · rintro b a wy hb hd ⟨z, z18, z24, z25, rfl, HV, HW, HX⟩ K hK
      clear hd
      go_simp
      have V := HV.out
      exact hK _ _ ⟨fun s => if s = 15 then Value.int IntKind.i64 ↑i else z s, _, _, _, rfl, Lib.hid ⟨V.1, V.2.1, V.2.2.1, V.2.2.2.1, fun _ => rfl, V.2.2.2.2.2.1, V.2.2.2.2.2.2.1, V.2.2.2.2.2.2.2.1, V.2.2.2.2.2.2.2.2.1, V.2.2.2.2.2.2.2.2.2.1, V.2.2.2.2.2.2.2.2.2.2.1, V.2.2.2.2.2.2.2.2.2.2.2⟩, HW, HX⟩
    · rintro b a wy hb hd ⟨z, z18, z24, z25, rfl, HV, HW, HX⟩ K hK
      clear hd
      go_simp
      have V := HV.out
      exact hK _ _ ⟨fun s => if s = 16 then Value.int IntKind.i64 ↑j else z s, _, _, _, rfl, Lib.hid ⟨V.1, V.2.1, V.2.2.1, V.2.2.2.1, V.2.2.2.2.1, fun _ => rfl, V.2.2.2.2.2.2.1, V.2.2.2.2.2.2.2.1, V.2.2.2.2.2.2.2.2.1, V.2.2.2.2.2.2.2.2.2.1, V.2.2.2.2.2.2.2.2.2.2.1, V.2.2.2.2.2.2.2.2.2.2.2⟩, HW, HX⟩
    · rintro b a wy hb hd ⟨z, z18, z24, z25, rfl, HV, HW, HX⟩ K hK
      clear hd
      go_simp
      have V := HV.out
      exact hK _ _ ⟨fun s => if s = 17 then Value.slice O p d1 else z s, _, _, _, rfl, Lib.hid ⟨V.1, V.2.1, V.2.2.1, V.2.2.2.1, V.2.2.2.2.1, V.2.2.2.2.2.1, fun _ => rfl, V.2.2.2.2.2.2.2.1, V.2.2.2.2.2.2.2.2.1, V.2.2.2.2.2.2.2.2.2.1, V.2.2.2.2.2.2.2.2.2.2.1, V.2.2.2.2.2.2.2.2.2.2.2⟩, HW, HX⟩
    · rintro b a wy hb hd ⟨z, z18, z24, z25, rfl, HV, HW, HX⟩ K hK
      simp [Region.binds] at hd
      have e3 : (z 14) = .slice A n c := (HV.out.2.2.2.1) (by simp [hd])
      have e4 : (z 15) = Value.int IntKind.i64 ↑i := (HV.out.2.2.2.2.1) (by simp [hd])
      have e5 : (z 16) = Value.int IntKind.i64 ↑j := (HV.out.2.2.2.2.2.1) (by simp [hd])
      have e6 : (z 17) = Value.slice O p d1 := (HV.out.2.2.2.2.2.2.1) (by simp [hd])
      clear hd
      obtain ⟨x1, x2, x3, x4, x5⟩ := HX.out
      have hsz9 : w.heap.size + 2 ≤ wy.heap.size := by have := HW.out.size; omega
      have lows : ∀ {A : Option Addr} {ns : List UInt64}, ToldN w A ns → ToldN wy A ns := fun h => h.below (BB.out.trans (HW.out.mono (by omega)))
      have b14 : b 14 = false := by
        rcases Bool.eq_false_or_eq_true (b 14) with e | e
        · exact absurd (hb.symm.trans (x3 e).1) (by decide)
        · exact e
      have b15 : b 15 = false := by
        rcases Bool.eq_false_or_eq_true (b 15) with e | e
        · exact absurd (hb.symm.trans (x3 (x5 e).1).1) (by decide)
        · exact e
      have C1 := instead_any (c := c) HN0.out.kl (lows HN0.out.ks) HN.out.kc HN.out.km i j hi hj HLO.out (d := d1) (lows tO0.out) hsz
      clear lows
      go_simp
      go_at_call 43
      refine (C1).mono ?_
      rintro e wz ⟨v, rfl, ow, kz⟩
      try go_simp
      have V := HV.out
      exact hK _ _ ⟨fun s => if s = 14 then .slice A n c else if s = 15 then Value.int IntKind.i64 ↑i else if s = 16 then Value.int IntKind.i64 ↑j else if s = 17 then Value.slice O p d1 else z s, _, _, _, rfl, Lib.hid ⟨V.1, V.2.1, V.2.2.1, fun _ => rfl, fun _ => rfl, fun _ => rfl, fun _ => rfl, V.2.2.2.2.2.2.2.1, V.2.2.2.2.2.2.2.2.1, V.2.2.2.2.2.2.2.2.2.1, V.2.2.2.2.2.2.2.2.2.2.1, V.2.2.2.2.2.2.2.2.2.2.2⟩, Lib.hid (HW.out.trans (kz.mono (by omega))), Lib.hid ⟨fun _ => own_mono ow hsz9, fun e => own_at (x2 e) kz, fun e => absurd (b14.symm.trans e) (by decide), fun _ => (x4 b15).below (by omega) kz, fun e => absurd (b15.symm.trans e) (by decide)⟩⟩
    · rintro b a wy hb hd ⟨z, z18, z24, z25, rfl, HV, HW, HX⟩ K hK
      clear hd
      go_simp
      have V := HV.out
      exact hK _ _ ⟨fun s => if s = 19 then .pointer (some ⟨w.heap.size, 2, none⟩) else z s, _, _, _, rfl, Lib.hid ⟨V.1, V.2.1, V.2.2.1, V.2.2.2.1, V.2.2.2.2.1, V.2.2.2.2.2.1, V.2.2.2.2.2.2.1, fun _ => rfl, V.2.2.2.2.2.2.2.2.1, V.2.2.2.2.2.2.2.2.2.1, V.2.2.2.2.2.2.2.2.2.2.1, V.2.2.2.2.2.2.2.2.2.2.2⟩, HW, HX⟩
    · rintro b a wy hb hd ⟨z, z18, z24, z25, rfl, HV, HW, HX⟩ K hK
      simp [Region.binds] at hd
      have e8 : (z 19) = .pointer (some ⟨w.heap.size, 2, none⟩) := (HV.out.2.2.2.2.2.2.2.1) (by simp [hd])
      clear hd
      have hbx := HBX.out.below (by omega) HW.out
      have c2 := hbx.cellAt (i := 2) rfl
      clear hbx
      go_simp
      have V := HV.out
      exact hK _ _ ⟨fun s => if s = 20 then .slice B n d else if s = 19 then .pointer (some ⟨w.heap.size, 2, none⟩) else z s, _, _, _, rfl, Lib.hid ⟨V.1, V.2.1, V.2.2.1, V.2.2.2.1, V.2.2.2.2.1, V.2.2.2.2.2.1, V.2.2.2.2.2.2.1, fun _ => rfl, fun _ => rfl, V.2.2.2.2.2.2.2.2.2.1, V.2.2.2.2.2.2.2.2.2.2.1, V.2.2.2.2.2.2.2.2.2.2.2⟩, HW, HX⟩
    · rintro b a wy hb hd ⟨z, z18, z24, z25, rfl, HV, HW, HX⟩ K hK
      clear hd
      go_simp
      have V := HV.out
      exact hK _ _ ⟨fun s => if s = 21 then Value.int IntKind.i64 ↑i else z s, _, _, _, rfl, Lib.hid ⟨V.1, V.2.1, V.2.2.1, V.2.2.2.1, V.2.2.2.2.1, V.2.2.2.2.2.1, V.2.2.2.2.2.2.1, V.2.2.2.2.2.2.2.1, V.2.2.2.2.2.2.2.2.1, fun _ => rfl, V.2.2.2.2.2.2.2.2.2.2.1, V.2.2.2.2.2.2.2.2.2.2.2⟩, HW, HX⟩
    · rintro b a wy hb hd ⟨z, z18, z24, z25, rfl, HV, HW, HX⟩ K hK
      clear hd
      go_simp
      have V := HV.out
      exact hK _ _ ⟨fun s => if s = 22 then Value.int IntKind.i64 ↑j else z s, _, _, _, rfl, Lib.hid ⟨V.1, V.2.1, V.2.2.1, V.2.2.2.1, V.2.2.2.2.1, V.2.2.2.2.2.1, V.2.2.2.2.2.2.1, V.2.2.2.2.2.2.2.1, V.2.2.2.2.2.2.2.2.1, V.2.2.2.2.2.2.2.2.2.1, fun _ => rfl, V.2.2.2.2.2.2.2.2.2.2.2⟩, HW, HX⟩
    · rintro b a wy hb hd ⟨z, z18, z24, z25, rfl, HV, HW, HX⟩ K hK
      clear hd
      go_simp
      have V := HV.out
      exact hK _ _ ⟨fun s => if s = 23 then Value.slice P q d2 else z s, _, _, _, rfl, Lib.hid ⟨V.1, V.2.1, V.2.2.1, V.2.2.2.1, V.2.2.2.2.1, V.2.2.2.2.2.1, V.2.2.2.2.2.2.1, V.2.2.2.2.2.2.2.1, V.2.2.2.2.2.2.2.2.1, V.2.2.2.2.2.2.2.2.2.1, V.2.2.2.2.2.2.2.2.2.2.1, fun _ => rfl⟩, HW, HX⟩
    · rintro b a wy hb hd ⟨z, z18, z24, z25, rfl, HV, HW, HX⟩ K hK
      simp [Region.binds] at hd
      have e9 : (z 20) = .slice B n d := (HV.out.2.2.2.2.2.2.2.2.1) (by simp [hd])
      have e10 : (z 21) = Value.int IntKind.i64 ↑i := (HV.out.2.2.2.2.2.2.2.2.2.1) (by simp [hd])
      have e11 : (z 22) = Value.int IntKind.i64 ↑j := (HV.out.2.2.2.2.2.2.2.2.2.2.1) (by simp [hd])
      have e12 : (z 23) = Value.slice P q d2 := (HV.out.2.2.2.2.2.2.2.2.2.2.2) (by simp [hd])
      clear hd
      obtain ⟨x1, x2, x3, x4, x5⟩ := HX.out
      have hsz9 : w.heap.size + 2 ≤ wy.heap.size := by have := HW.out.size; omega
      have lows : ∀ {A : Option Addr} {ns : List UInt64}, ToldN w A ns → ToldN wy A ns := fun h => h.below (BB.out.trans (HW.out.mono (by omega)))
      have b14 : b 14 = false := by
        rcases Bool.eq_false_or_eq_true (b 14) with e | e
        · exact absurd (hb.symm.trans (x3 e).2.1) (by decide)
        · exact e
      have b15 : b 15 = false := by
        rcases Bool.eq_false_or_eq_true (b 15) with e | e
        · exact absurd (hb.symm.trans (x3 (x5 e).1).2.1) (by decide)
        · exact e
      have C1 := instead_any (c := d) HN0.out.vl (lows HN0.out.vs) HN.out.vc HN.out.vm i j hi hj HLP.out (d := d2) (lows tP0.out) hsz2
      clear lows
      go_simp
      go_at_call 43
      refine (C1).mono ?_
      rintro e wz ⟨v, rfl, ow, kz⟩
      try go_simp
      have V := HV.out
      exact hK _ _ ⟨fun s => if s = 20 then .slice B n d else if s = 21 then Value.int IntKind.i64 ↑i else if s = 22 then Value.int IntKind.i64 ↑j else if s = 23 then Value.slice P q d2 else z s, _, _, _, rfl, Lib.hid ⟨V.1, V.2.1, V.2.2.1, V.2.2.2.1, V.2.2.2.2.1, V.2.2.2.2.2.1, V.2.2.2.2.2.2.1, V.2.2.2.2.2.2.2.1, fun _ => rfl, fun _ => rfl, fun _ => rfl, fun _ => rfl⟩, Lib.hid (HW.out.trans (kz.mono (by omega))), Lib.hid ⟨fun e => own_at (x1 e) kz, fun _ => own_mono ow hsz9, fun e => absurd (b14.symm.trans e) (by decide), fun _ => (x4 b15).below (by omega) kz, fun e => absurd (b15.symm.trans e) (by decide)⟩⟩
    · rintro b a wy hb hd ⟨z, z18, z24, z25, rfl, HV, HW, HX⟩ K hK
      simp [Region.binds] at hd
      have e1 : (z 12) = .bool l := (HV.out.2.1) (by simp [hd])
      have dd7 : b 7 = true := by simp [hd]
      have dd13 : b 13 = true := by simp [hd]
      clear hd
      obtain ⟨x1, x2, x3, x4, x5⟩ := HX.out
      have b15 : b 15 = false := by
        rcases Bool.eq_false_or_eq_true (b 15) with e | e
        · exact absurd (hb.symm.trans (x5 e).1) (by decide)
        · exact e
      obtain ⟨A1, k1, zz1, _⟩ := (x1 dd7).slice
      obtain ⟨A2, k2, zz2, _⟩ := (x2 dd13).slice
      subst zz1
      subst zz2
      rw [e1]
      refine if_wanted (by rfl) (wp_build_as 24 #[(0, .tmp 12), (1, .tmp 18), (2, .tmp 24)] rfl #[.bool l, .slice A1 (cutIn ks i j os).length k1, .slice A2 (cutIn vs i j ps).length k2] (by simp [Act.eval]; exact node_built l A1 A2 _ k1 _ k2) ?_)
      have V := HV.out
      exact hK _ _ ⟨fun s => if s = 12 then .bool l else z s, _, _, _, rfl, Lib.hid ⟨V.1, fun _ => rfl, V.2.2.1, V.2.2.2.1, V.2.2.2.2.1, V.2.2.2.2.2.1, V.2.2.2.2.2.2.1, V.2.2.2.2.2.2.2.1, V.2.2.2.2.2.2.2.2.1, V.2.2.2.2.2.2.2.2.2.1, V.2.2.2.2.2.2.2.2.2.2.1, V.2.2.2.2.2.2.2.2.2.2.2⟩, HW, Lib.hid ⟨x1, x2, fun _ => ⟨dd7, dd13, rfl⟩, x4, fun e => absurd (b15.symm.trans e) (by decide)⟩⟩
    · rintro b a wy hb hd ⟨z, z18, z24, z25, rfl, HV, HW, HX⟩ K hK
      simp [Region.binds] at hd
      have dd14 : b 14 = true := by simp [hd]
      clear hd
      obtain ⟨x1, x2, x3, x4, x5⟩ := HX.out
      obtain ⟨b7, b13, zz⟩ := x3 dd14
      have hr := x4 hb
      have o1 := own_one (x1 b7)
      have o2 := own_one (x2 b13)
      refine if_wanted (by rfl) (wp_store_row 24 (.tmp 10) (.tmp 25) rfl (w.heap.size + 1) #[.bool l, z18, z24] rfl zz _ _ hr node_size rfl (ones l o1 o2) ?_)
      have V := HV.out
      exact hK _ _ ⟨fun s => z s, _, _, _, rfl, Lib.hid ⟨V.1, V.2.1, V.2.2.1, V.2.2.2.1, V.2.2.2.2.1, V.2.2.2.2.2.1, V.2.2.2.2.2.2.1, V.2.2.2.2.2.2.2.1, V.2.2.2.2.2.2.2.2.1, V.2.2.2.2.2.2.2.2.2.1, V.2.2.2.2.2.2.2.2.2.2.1, V.2.2.2.2.2.2.2.2.2.2.2⟩, Lib.hid (HW.out.trans (row_below _ (Nat.le_refl _))), Lib.hid ⟨fun e => own_row (x1 e) _ (by omega), fun e => own_row (x2 e) _ (by omega), x3, fun e => (by cases e), fun _ => ⟨dd14, row_set hr⟩⟩⟩
  case doneD =>
    rintro b a w9 hb ⟨z, z18, z24, z25, rfl, HV, HW, HX⟩
    have e0 := (HV.out.1) (hb 0)
    have e1 := (HV.out.2.1) (hb 1)
    have e2 := (HV.out.2.2.1) (hb 2)
    have e3 := (HV.out.2.2.2.1) (hb 3)
    have e4 := (HV.out.2.2.2.2.1) (hb 4)
    have e5 := (HV.out.2.2.2.2.2.1) (hb 5)
    have e6 := (HV.out.2.2.2.2.2.2.1) (hb 6)
    have e8 := (HV.out.2.2.2.2.2.2.2.1) (hb 8)
    have e9 := (HV.out.2.2.2.2.2.2.2.2.1) (hb 9)
    have e10 := (HV.out.2.2.2.2.2.2.2.2.2.1) (hb 10)
    have e11 := (HV.out.2.2.2.2.2.2.2.2.2.2.1) (hb 11)
    have e12 := (HV.out.2.2.2.2.2.2.2.2.2.2.2) (hb 12)
    simp only [e0, e1, e2, e3, e4, e5, e6, e8, e9, e10, e11, e12]
    clear HV e0 e1 e2 e3 e4 e5 e6 e8 e9 e10 e11 e12
    obtain ⟨x1, x2, _, _, x5⟩ := HX.out
    have H9 := Lib.hid (And.intro (x1 (hb 7)) (x2 (hb 13)))
    have HR9 := Lib.hid (x5 (hb 15)).2
    have HB9 := Lib.hid (BB.out.trans (HW.out.mono (by omega)))
    clear x1 x2 x5 HX HW hb
    go_wp2_with fail
    refine bodyPost_ret (v := .agg #[.bool l, z18, z24]) ?_ rfl ⟨_, _, rfl, own_mono H9.out.1 (by omega), own_mono H9.out.2 (by omega), HB9.out⟩
    exact results_cell_row rfl _ _ (w.heap.size + 1) 24 _ (0, 0) _ rfl HR9.out Try.underlying24 rfl node_size

end Go.Proofs.Ytllopocekegljaa.No
