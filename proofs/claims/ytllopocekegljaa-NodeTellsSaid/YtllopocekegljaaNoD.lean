/- Layer 12: contracts of instead, change, without. (Written by bin/gen_nod.py.) -/
import Derived.Test.YtllopocekegljaaNoC
import Derived.Laws.Tables
import Derived.Laws.Rows
namespace Go.Proofs.Ytllopocekegljaa.No
open Go.RowKit Go.Proofs.Ytllopocekegljaa.Oct Go.Proofs.Ytllopocekegljaa.Lf Go.Proofs.Ytllopocekegljaa.Mv
set_option linter.unusedVariables false
set_option linter.unusedSimpArgs false

theorem own_mono {w : World} {base base' : Nat} {v : Value} {ns : List UInt64} (h : OwnN w base v ns) (hb : base' ≤ base) : OwnN w base' v ns := by
  refine ⟨h.1, ?_⟩
  rcases h.2 with hn | ⟨g, cap, cur, rfl, hg, rest⟩
  · exact .inl hn
  · exact .inr ⟨g, cap, cur, rfl, by omega, rest⟩
theorem own_one {w : World} {base : Nat} {v : Value} {ns : List UInt64} (h : OwnN w base v ns) : v.oneCell' = true := by
  obtain ⟨A, c, rfl, _⟩ := h.slice
  rfl
theorem own_nd {w : World} {base : Nat} {vk vv : Value} {ks vs : List UInt64} (h1 : OwnN w base vk ks) (h2 : OwnN w base vv vs) : ∃ A c B d, vk = .slice A ks.length c ∧ vv = .slice B vs.length d ∧ Nd w A ks.length c B vs.length d ks vs := by
  obtain ⟨A, c, rfl, t1, l1, m1⟩ := h1.slice
  obtain ⟨B, d, rfl, t2, l2, m2⟩ := h2.slice
  exact ⟨A, c, B, d, rfl, rfl, rfl, rfl, l1, m1, l2, m2, t1, t2⟩

/-! ### Parts of a slice of numbers -/
theorem num_size (w : World) : (Go.sizeOf 25).run Try.prog w = .ok 1 w := by kernel_rfl
theorem run_nums_head (w : World) (A : Option Addr) (n c k : Nat) (hk : k ≤ n) (hc : n ≤ c) (hm : c ≤ maxLen) :
    (Instr.slice 22 (.slice A n c) none (some (.int .i64 (k : Int))) none).run Try.prog w = .ok (.slice A k c) w := by
  unfold maxLen at hm
  have ht : Try.prog.underlying 22 = some (.slice (Try.prog.elem 22)) := by simp [Program.elem, Try.underlying22]
  have he : Try.prog.elem 22 = 25 := by simp [Program.elem, Try.underlying22]
  rw [run_slice_h w 22 A n c ht .i64 (k : Int) (by omega) (by omega), he, num_size]
  cases A <;> simp [Result.andThen, sliced, Addr.add]
theorem run_nums_tail (A : Option Addr) (n c k : Nat) (hk : k ≤ n) (hc : n ≤ c) (hm : c ≤ maxLen) :
    ∃ X : Option Addr, (∀ w, (Instr.slice 22 (.slice A n c) (some (.int .i64 (k : Int))) none none).run Try.prog w = .ok (.slice X (n - k) (c - k)) w) ∧
      (∀ w ns, ns.length = n → ToldN w A ns → ToldN w X (ns.drop k)) := by
  unfold maxLen at hm
  have ht : Try.prog.underlying 22 = some (.slice (Try.prog.elem 22)) := by simp [Program.elem, Try.underlying22]
  have he : Try.prog.elem 22 = 25 := by simp [Program.elem, Try.underlying22]
  cases A with
  | none =>
    refine ⟨none, fun w => ?_, fun w ns hl hT => ?_⟩
    · rw [run_slice_l w 22 _ n c ht .i64 (k : Int) (by omega) (by omega), he, num_size]
      simp [Result.andThen, sliced]
    · rcases hT with rfl | ⟨b, o, h, _⟩
      · exact .inl (by simp)
      · cases h
  | some a =>
    refine ⟨some (if c = k then a else a.add k), fun w => ?_, fun w ns hl hT => ?_⟩
    · rw [run_slice_l w 22 _ n c ht .i64 (k : Int) (by omega) (by omega), he, num_size]
      by_cases hck : c = k
      · simp [Result.andThen, sliced, hck]
      · simp [Result.andThen, sliced, hck]
    · by_cases hkn : k < n
      · rcases hT with rfl | ⟨b, o, h, hw⟩
        · exact .inl (by simp)
        · cases h
          rw [if_neg (by omega), add_plain]
          refine .inr ⟨b, o + k, rfl, ?_⟩
          have := hw.cut k ns.length
          rwa [List.take_of_length_le (by simp)] at this
      · exact .inl (List.drop_of_length_le (by omega))

/-- Others stand in the place of some. -/
def cutIn (ns : List UInt64) (i j : Nat) (os : List UInt64) : List UInt64 := ns.take i ++ os ++ ns.drop j

set_option maxHeartbeats 2000000 in
theorem instead_any {w : World} {A : Option Addr} {n c : Nat} {ns : List UInt64} (hlen : ns.length = n) (hT : ToldN w A ns) (hc : n ≤ c) (hm : c ≤ maxLen) (i j : Nat) (hi : i ≤ n) (hj : j ≤ n) {O : Option Addr} {m d : Nat} {os : List UInt64} (hlo : os.length = m) (hO : ToldN w O os) (hsz : n + n + m ≤ 1000) :
    Calls Try.prog 43 #[.slice A n c, .int .i64 (i : Int), .int .i64 (j : Int), .slice O m d] w fun e w' => ∃ v, e = .returned v ∧ OwnN w' w.heap.size v (cutIn ns i j os) ∧ Below w.heap.size w w' := by
  obtain ⟨X, hX, tX⟩ := run_nums_tail A n c j hj hc hm
  have hH := fun w => run_nums_head w A n c i hi hc hm
  have HL := Lib.hid hlen
  have HT := Lib.hid hT
  have HO := Lib.hid hO
  have HLO := Lib.hid hlo
  have HTX := Lib.hid tX
  clear hlen hT hO hlo tX
  go_enter Try.func43, Try.ntmps43
  go_upto_region 1 with (fail)
  refine Inv2.wp_region_inv (fun b a wy => ∃ (z : Nat → Value) (z8 : Value) (z16 : Value) (z17 : Value), a = ⟨#[Value.slice A n c, Value.int IntKind.i64 ↑i, Value.int IntKind.i64 ↑j, Value.slice O m d, undef, undef, undef, undef, z8, (z 9), (z 10), (z 11), (z 12), (z 13), (z 14), (z 15), z16, z17], []⟩ ∧ Hid ((b 0 = true → (z 9) = Value.slice A n c) ∧ (b 1 = true → (z 10) = Value.int IntKind.i64 ↑i) ∧ (b 2 = true → (z 11) = .slice A i c) ∧ (b 3 = true → (z 12) = Value.slice O m d) ∧ (b 4 = true → (z 13) = Value.slice A n c) ∧ (b 5 = true → (z 14) = Value.int IntKind.i64 ↑j) ∧ (b 6 = true → (z 15) = .slice X (n - j) (c - j))) ∧ Hid (Below w.heap.size w wy) ∧ Hid ((b 8 = true → b 7 = true) ∧ (b 9 = true → b 8 = true ∧ z8 = z17) ∧ (b 7 = true → b 8 = false → ∃ g, z16 = .slice (some ⟨g, 0, none⟩) 3 3 ∧ wy.cell? ⟨g, 0, none⟩ = some (.slice A i c) ∧ wy.cell? ⟨g, 1, none⟩ = some (.slice O m d) ∧ wy.cell? ⟨g, 2, none⟩ = some (.slice X (n - j) (c - j))) ∧ (b 8 = true → OwnN wy w.heap.size z17 (cutIn ns i j os)))) (by kernel_rfl) (by kernel_rfl) ?startD ?stepsD ?doneD
  case startD =>
    intro b hb
    refine ⟨fun s => undef, Value.slice none 0 0, undef, undef, rfl, Lib.hid ⟨?_, ?_, ?_, ?_, ?_, ?_, ?_⟩, Lib.hid ((show Still w w.drew from ⟨rfl, rfl, rfl, rfl⟩).below _), Lib.hid (⟨(fun e => by rw [hb _ (by decide)] at e; cases e), (fun e => by rw [hb _ (by decide)] at e; cases e), (fun e => by rw [hb _ (by decide)] at e; cases e), (fun e => by rw [hb _ (by decide)] at e; cases e)⟩)⟩
    all_goals (intro e; first | rfl | (rw [hb _ (by decide)] at e; cases e))
  case stepsD =>
    refine ⟨?_, ?_, ?_, ?_, ?_, ?_, ?_, ?_, ?_, ?_, trivial⟩
    · rintro b a wy hb hd ⟨z, z8, z16, z17, rfl, HV, HW, HX⟩ K hK
      clear hd
      go_simp
      have V := HV.out
      exact hK _ _ ⟨fun s => if s = 9 then Value.slice A n c else z s, _, _, _, rfl, Lib.hid ⟨fun _ => rfl, V.2.1, V.2.2.1, V.2.2.2.1, V.2.2.2.2.1, V.2.2.2.2.2.1, V.2.2.2.2.2.2⟩, HW, HX⟩
    · rintro b a wy hb hd ⟨z, z8, z16, z17, rfl, HV, HW, HX⟩ K hK
      clear hd
      go_simp
      have V := HV.out
      exact hK _ _ ⟨fun s => if s = 10 then Value.int IntKind.i64 ↑i else z s, _, _, _, rfl, Lib.hid ⟨V.1, fun _ => rfl, V.2.2.1, V.2.2.2.1, V.2.2.2.2.1, V.2.2.2.2.2.1, V.2.2.2.2.2.2⟩, HW, HX⟩
    · rintro b a wy hb hd ⟨z, z8, z16, z17, rfl, HV, HW, HX⟩ K hK
      simp [Region.binds] at hd
      have e0 : (z 9) = Value.slice A n c := (HV.out.1) (by simp [hd])
      have e1 : (z 10) = Value.int IntKind.i64 ↑i := (HV.out.2.1) (by simp [hd])
      clear hd
      go_simp
      have V := HV.out
      exact hK _ _ ⟨fun s => if s = 11 then .slice A i c else if s = 9 then Value.slice A n c else if s = 10 then Value.int IntKind.i64 ↑i else z s, _, _, _, rfl, Lib.hid ⟨fun _ => rfl, fun _ => rfl, fun _ => rfl, V.2.2.2.1, V.2.2.2.2.1, V.2.2.2.2.2.1, V.2.2.2.2.2.2⟩, HW, HX⟩
    · rintro b a wy hb hd ⟨z, z8, z16, z17, rfl, HV, HW, HX⟩ K hK
      clear hd
      go_simp
      have V := HV.out
      exact hK _ _ ⟨fun s => if s = 12 then Value.slice O m d else z s, _, _, _, rfl, Lib.hid ⟨V.1, V.2.1, V.2.2.1, fun _ => rfl, V.2.2.2.2.1, V.2.2.2.2.2.1, V.2.2.2.2.2.2⟩, HW, HX⟩
    · rintro b a wy hb hd ⟨z, z8, z16, z17, rfl, HV, HW, HX⟩ K hK
      clear hd
      go_simp
      have V := HV.out
      exact hK _ _ ⟨fun s => if s = 13 then Value.slice A n c else z s, _, _, _, rfl, Lib.hid ⟨V.1, V.2.1, V.2.2.1, V.2.2.2.1, fun _ => rfl, V.2.2.2.2.2.1, V.2.2.2.2.2.2⟩, HW, HX⟩
    · rintro b a wy hb hd ⟨z, z8, z16, z17, rfl, HV, HW, HX⟩ K hK
      clear hd
      go_simp
      have V := HV.out
      exact hK _ _ ⟨fun s => if s = 14 then Value.int IntKind.i64 ↑j else z s, _, _, _, rfl, Lib.hid ⟨V.1, V.2.1, V.2.2.1, V.2.2.2.1, V.2.2.2.2.1, fun _ => rfl, V.2.2.2.2.2.2⟩, HW, HX⟩
    · rintro b a wy hb hd ⟨z, z8, z16, z17, rfl, HV, HW, HX⟩ K hK
      simp [Region.binds] at hd
      have e4 : (z 13) = Value.slice A n c := (HV.out.2.2.2.2.1) (by simp [hd])
      have e5 : (z 14) = Value.int IntKind.i64 ↑j := (HV.out.2.2.2.2.2.1) (by simp [hd])
      clear hd
      go_simp
      have V := HV.out
      exact hK _ _ ⟨fun s => if s = 15 then .slice X (n - j) (c - j) else if s = 13 then Value.slice A n c else if s = 14 then Value.int IntKind.i64 ↑j else z s, _, _, _, rfl, Lib.hid ⟨V.1, V.2.1, V.2.2.1, V.2.2.2.1, fun _ => rfl, fun _ => rfl, fun _ => rfl⟩, HW, HX⟩
    · rintro b a wy hb hd ⟨z, z8, z16, z17, rfl, HV, HW, HX⟩ K hK
      simp [Region.binds] at hd
      have e2 : (z 11) = .slice A i c := (HV.out.2.2.1) (by simp [hd])
      have e3 : (z 12) = Value.slice O m d := (HV.out.2.2.2.1) (by simp [hd])
      have e6 : (z 15) = .slice X (n - j) (c - j) := (HV.out.2.2.2.2.2.2) (by simp [hd])
      clear hd
      obtain ⟨x1, x2, x3, x4⟩ := HX.out
      have b8 : b 8 = false := by
        rcases Bool.eq_false_or_eq_true (b 8) with e | e
        · exact absurd (hb.symm.trans (x1 e)) (by decide)
        · exact e
      have hal := Lib.hid (alloc_rowV wy 22 [.slice A i c, .slice O m d, .slice X (n - j) (c - j)])
      have hbe := Lib.hid ((Below.refl wy.heap.size wy).alloc (Nat.le_refl _) (.cells #[.slice A i c, .slice O m d, .slice X (n - j) (c - j)] 22))
      go_simp
      have V := HV.out
      exact hK _ _ ⟨fun s => if s = 11 then .slice A i c else if s = 12 then Value.slice O m d else if s = 15 then .slice X (n - j) (c - j) else z s, _, _, _, rfl, Lib.hid ⟨V.1, V.2.1, fun _ => rfl, fun _ => rfl, V.2.2.2.2.1, V.2.2.2.2.2.1, fun _ => rfl⟩, Lib.hid (HW.out.trans (hbe.out.mono HW.out.size)), Lib.hid ⟨fun e => absurd (b8.symm.trans e) (by decide), x2, fun _ _ => ⟨_, rfl, hal.out.cellAt rfl, hal.out.cellAt rfl, hal.out.cellAt rfl⟩, fun e => absurd (b8.symm.trans e) (by decide)⟩⟩
    · rintro b a wy hb hd ⟨z, z8, z16, z17, rfl, HV, HW, HX⟩ K hK
      simp [Region.binds] at hd
      have dd7 : b 7 = true := by simp [hd]
      clear hd
      obtain ⟨x1, x2, x3, x4⟩ := HX.out
      obtain ⟨g, zz, g0, g1, g2⟩ := x3 dd7 hb
      subst zz
      have T1 := Lib.hid (show ∀ r ∈ [Src.mk A i c (ns.take i), Src.mk O m d os, Src.mk X (n - j) (c - j) (ns.drop j)], Src.Told wy r by
        have k := HW.out
        have low : ∀ A (ns : List UInt64), ToldN w A ns → ToldN wy A ns := fun A ns h => h.below k
        intro r hr
        simp only [List.mem_cons, List.not_mem_nil, or_false] at hr
        rcases hr with rfl | rfl | rfl
        · exact ⟨low _ _ (HT.out.pre i), by have := HL.out; simp; omega⟩
        · exact ⟨low _ _ HO.out, HLO.out⟩
        · exact ⟨low _ _ (HTX.out _ ns HL.out HT.out), by have := HL.out; simp; omega⟩)
      have b9 : b 9 = false := by
        rcases Bool.eq_false_or_eq_true (b 9) with e | e
        · exact absurd (hb.symm.trans (x2 e).1) (by decide)
        · exact e
      have C1 := concat_any wy g 3 [Src.mk A i c (ns.take i), Src.mk O m d os, Src.mk X (n - j) (c - j) (ns.drop j)] rfl (fun q hq => by
        match q, hq with
        | 0, _ => exact g0
        | 1, _ => exact g1
        | 2, _ => exact g2) T1.out (by simp [total]; omega) (by omega)
      go_simp
      go_at_call 40
      refine (C1).mono ?_
      rintro e wz ⟨v, rfl, ow, kz⟩
      try go_simp
      have V := HV.out
      exact hK _ _ ⟨fun s => z s, _, _, _, rfl, Lib.hid ⟨V.1, V.2.1, V.2.2.1, V.2.2.2.1, V.2.2.2.2.1, V.2.2.2.2.2.1, V.2.2.2.2.2.2⟩, Lib.hid (HW.out.trans (kz.mono HW.out.size)), Lib.hid ⟨fun _ => dd7, fun e => absurd (b9.symm.trans e) (by decide), fun _ e => (by cases e), fun _ => by have := own_mono ow HW.out.size; simpa [flat, cutIn, List.append_assoc] using this⟩⟩
    · rintro b a wy hb hd ⟨z, z8, z16, z17, rfl, HV, HW, HX⟩ K hK
      simp [Region.binds] at hd
      have dd8 : b 8 = true := by simp [hd]
      clear hd
      obtain ⟨x1, x2, x3, x4⟩ := HX.out
      go_simp
      have V := HV.out
      exact hK _ _ ⟨fun s => z s, _, _, _, rfl, Lib.hid ⟨V.1, V.2.1, V.2.2.1, V.2.2.2.1, V.2.2.2.2.1, V.2.2.2.2.2.1, V.2.2.2.2.2.2⟩, HW, Lib.hid ⟨x1, fun _ => ⟨dd8, rfl⟩, x3, x4⟩⟩
  case doneD =>
    rintro b a w9 hb ⟨z, z8, z16, z17, rfl, HV, HW, HX⟩
    have e0 := (HV.out.1) (hb 0)
    have e1 := (HV.out.2.1) (hb 1)
    have e2 := (HV.out.2.2.1) (hb 2)
    have e3 := (HV.out.2.2.2.1) (hb 3)
    have e4 := (HV.out.2.2.2.2.1) (hb 4)
    have e5 := (HV.out.2.2.2.2.2.1) (hb 5)
    have e6 := (HV.out.2.2.2.2.2.2) (hb 6)
    simp only [e0, e1, e2, e3, e4, e5, e6]
    clear HV e0 e1 e2 e3 e4 e5 e6
    obtain ⟨_, x2, _, x4⟩ := HX.out
    have H9 := Lib.hid (And.intro (x4 (hb 8)) HW.out)
    obtain rfl := (x2 (hb 9)).2
    clear x2 x4 HX HW hb
    go_wp2_with fail
    go_ret
    exact ⟨_, rfl, H9.out.1, H9.out.2⟩

end Go.Proofs.Ytllopocekegljaa.No
