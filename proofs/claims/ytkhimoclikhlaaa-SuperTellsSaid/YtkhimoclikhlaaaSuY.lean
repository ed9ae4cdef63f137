/- The reference's Decode. (Written by bin/gen_surdec.py.) -/
import Derived.Test.YtkhimoclikhlaaaSuX
import Derived.IntWalk
namespace Go.Proofs.Ytkhimoclikhlaaa.Su
open Go.RowKit Go.Shelf Go.Proofs.Ytkhimoclikhlaaa.Oct Go.Proofs.Ytkhimoclikhlaaa.Sf
set_option linter.unusedVariables false

theorem if_wanted' {c : Bool} {A B : Prop} (h : c = true) (a : A) : if c = true then A else B := by rw [if_pos h]; exact a
theorem run_window (w : World) (g n cp lo hi d : Nat) (li hi' : Int) (h1 : li = (lo : Int)) (h2 : hi' = (hi : Int)) (h3 : lo + d = hi) (h4 : hi ≤ n) (h5 : n ≤ cp) (h6 : lo < cp) :
    (Instr.slice 28 (.slice (some ⟨g, 0, none⟩) n cp) (some (.int .i64 li)) (some (.int .i64 hi')) none).run Try.prog w = .ok (.slice (some ⟨g, lo, none⟩) d (cp - lo)) w := by
  have ht : Try.prog.underlying 28 = some (.slice (Try.prog.elem 28)) := by simp [Program.elem, Try.underlying28]
  have he : Try.prog.elem 28 = 5 := by simp [Program.elem, Try.underlying28]
  have hz1 : ∀ w, (Go.sizeOf 5).run Try.prog w = .ok 1 w := fun _ => by kernel_rfl
  subst h1 h2
  rw [run_slice_lh w 28 _ n cp ht .i64 .i64 (lo : Int) (hi : Int) (by omega) (by omega) (by omega), he, hz1]
  have h7 : ¬ cp = lo := by omega
  have h8 : hi - lo = d := by omega
  simp [Result.andThen, sliced, h7, h8, add_plain]
/-- Of a super's numbers those that are read when k roots are. -/
def dk (f : Nat → Nat) (k j : Nat) : Nat := if j < 2 ∨ (2 ≤ j ∧ j < 2 + k) ∨ (10 ≤ j ∧ j < 10 + k) then f j else 0
theorem dk_next (f : Nat → Nat) (k : Nat) (h : k < 8) : ((scells (supOf (dk f k))).set (2 + k) (.int .u32 (f (2 + k) : Int))).set (10 + k) (.int .u64 (f (10 + k) : Int)) = scells (supOf (dk f (k + 1))) := by
  rw [← scell_small (2 + k) (f (2 + k)) (by omega) (by omega), ← scell_wide (10 + k) (f (10 + k)) (.inr (by omega)), scells_set _ _ _ (by omega), scells_set _ _ _ (by omega)]
  congr 1
  refine supOf_congr fun j hj => ?_
  unfold upd dk
  by_cases e : j = 10 + k
  · subst e; rw [if_pos rfl, if_pos (by omega)]
  · rw [if_neg e]
    by_cases e2 : j = 2 + k
    · subst e2; rw [if_pos rfl, if_pos (by omega)]
    · rw [if_neg e2]
      by_cases e3 : j < 2 ∨ (2 ≤ j ∧ j < 2 + k) ∨ (10 ≤ j ∧ j < 10 + k)
      · rw [if_pos e3, if_pos (by omega)]
      · rw [if_neg e3, if_neg (by omega)]
theorem dk_all (f : Nat → Nat) : supOf (dk f 8) = supOf f := supOf_congr fun j hj => by unfold dk; rw [if_pos (by omega)]
theorem built_start (f : Nat → Nat) : Try.prog.built 27 [(0, .int .u64 (f 0 : Int)), (1, .int .u32 (f 1 : Int))] = some (scells (supOf (dk f 0))).toArray := by kernel_rfl
theorem has_window {w : World} {g : Nat} {bs : List UInt8} (h : Has w g 0 bs) (p s : Nat) : Has w g p ((bs.drop p).take s) := by
  have := h.cut p s
  rwa [Nat.zero_add] at this
theorem rd_at (bs : List UInt8) (j p s : Nat) (hp : pos j = p) (hs : size j = s) : num ((bs.drop p).take s) = rd bs j := by subst hp hs; rfl
theorem len_window {bs : List UInt8} (h : bs.length = 123) (p s : Nat) (hp : p + s ≤ 123) : ((bs.drop p).take s).length = s := by simp; omega
theorem sIn_rd (ps : List UInt8) : supOf (rd (bodyIn ps)) = sIn ps := rfl
theorem pos_root (k : Nat) (h : k < 8) : pos (2 + k) = 12 + 4 * k ∧ size (2 + k) = 4 := by
  unfold pos size
  rw [if_neg (by omega), if_neg (by omega), if_pos (by omega), if_pos (by omega)]
  exact ⟨by omega, rfl⟩
theorem pos_mark (k : Nat) (h : k < 8) : pos (10 + k) = 44 + 8 * k ∧ size (10 + k) = 8 := by
  unfold pos size
  rw [if_neg (by omega), if_neg (by omega), if_neg (by omega), if_pos (by omega), if_neg (by omega)]
  exact ⟨by omega, rfl⟩

theorem number_rd {w : World} (g p s cap : Nat) (bs : List UInt8) (j : Nat) (hp : pos j = p) (hs : size j = s) (hl : bs.length = 123) (hps : p + s ≤ 123) (h : Has w g 0 bs) :
    Calls Try.prog 35 #[.slice (some ⟨g, p, none⟩) s cap] w fun e w' => e = .returned (.int .u64 (rd bs j : Int)) ∧ w = w' := by
  have := number_any g p s cap _ (len_window hl p s hps) w (by rw [← hs]; exact (size_range j).2) (has_window h p s)
  rwa [rd_at bs j p s hp hs] at this
theorem wp_build_as {o : Oper} {a : Act} {w : World} {K : Act → World → Prop} {Q : Exit → Act → World → Prop} (t : TypeId) (parts : Array (Nat × Operand)) (ho : o.op = .build t parts)
    (cs : Array Value) (hb : Try.prog.built t (parts.map fun (i, x) => (i, a.eval x)).toList = some cs) (h : K (a.put o.dst (.agg cs)) w) : o.wp Try.prog a w K Q :=
  wp_build t parts ho (by rw [hb]; rfl) (by rw [hb]; exact h)
theorem err_no {ps : List UInt8} (h : ¬ Holds ps) : dsup ps = zero18 ∧ derr ps = 60 := dsup_no h

set_option maxRecDepth 100000 in
set_option maxHeartbeats 8000000 in
theorem rdecode_good (bq o cap : Nat) (ps : List UInt8) (w : World) (hb : Has w bq o ps) (hlen : ps.length = 128) (hc : 128 ≤ cap) (hm : cap ≤ maxLen) (hs : Oct.Good ps) :
    Calls Try.prog 15 #[.slice (some ⟨bq, o, none⟩) 128 cap] w fun e w' => e = .returned (.tuple #[sval (dsup ps), .int .i64 (derr ps)]) ∧ Below w.heap.size w w' := by
  have ka := (Below.refl w.heap.size w).alloc (Nat.le_refl _) (.cells #[(.int .u64 0), (.int .u32 0), (.int .u32 0), (.int .u32 0), (.int .u32 0), (.int .u32 0), (.int .u32 0), (.int .u32 0), (.int .u32 0), (.int .u32 0), (.int .u64 0), (.int .u64 0), (.int .u64 0), (.int .u64 0), (.int .u64 0), (.int .u64 0), (.int .u64 0), (.int .u64 0)] 27)
  have HPG := Lib.hid (hb.below (has_lt' hb (by omega)) ka)
  have HL := Lib.hid hlen
  have HGD := Lib.hid hs
  have HR := Lib.hid (show RowV (w.alloc (.cells #[(.int .u64 0), (.int .u32 0), (.int .u32 0), (.int .u32 0), (.int .u32 0), (.int .u32 0), (.int .u32 0), (.int .u32 0), (.int .u32 0), (.int .u32 0), (.int .u64 0), (.int .u64 0), (.int .u64 0), (.int .u64 0), (.int .u64 0), (.int .u64 0), (.int .u64 0), (.int .u64 0)] 27)) w.heap.size 27 (scells zero18) from alloc_rowV w 27 (scells zero18))
  have HB := Lib.hid ka
  clear hb hs ka
  go_enter Try.func15, Try.ntmps15
  go_upto_region 1 with (fail)
  generalize w.alloc (.cells #[(.int .u64 0), (.int .u32 0), (.int .u32 0), (.int .u32 0), (.int .u32 0), (.int .u32 0), (.int .u32 0), (.int .u32 0), (.int .u32 0), (.int .u32 0), (.int .u64 0), (.int .u64 0), (.int .u64 0), (.int .u64 0), (.int .u64 0), (.int .u64 0), (.int .u64 0), (.int .u64 0)] 27) = w1 at *
  have HO := Lib.hid (ropen_good bq o cap ps w1 HPG.out hlen hc hm HGD.out)
  generalize (ps[0]'(by omega)) = kd at HO
  clear hlen
  go_wp2_with fail
  refine HO.out.mono ?_
  rintro e w2 ⟨v, rfl, O2, kk⟩
  have hbl : (bodyIn ps).length = 123 := by have := HL.out; simp [bodyIn]; omega
  obtain ⟨a, cp, rfl, _, hcp, hcm, hne⟩ := O2.slice
  obtain ⟨g, rfl, hg1, hg2, hH⟩ := hne (by show bodyIn ps ≠ []; intro e; rw [e] at hbl; simp at hbl)
  have HH := Lib.hid (show Has w2 g 0 (bodyIn ps) from hH)
  change (bodyIn ps).length ≤ cp at hcp
  rw [show ((ps.drop 1).take 123).length = 123 from hbl]
  rw [hbl] at hcp
  have HBL := Lib.hid hbl
  have HGL := Lib.hid hg2
  replace HPG := Lib.hid (HPG.out.below (has_lt' HPG.out (by rw [HL.out]; decide)) kk)
  replace HR := Lib.hid (HR.out.below HR.out.lt kk)
  replace HB := Lib.hid (HB.out.trans (kk.mono HB.out.size))
  unfold maxLen at hcm
  clear HO O2 hne hH hbl kk hg1 hg2
  have hcp8 : ¬ cp = 8 := by omega
  have hcp8' : ¬ 8 = cp := by omega
  have hcpi : (8 : Int) ≤ (cp : Int) := by omega
  have hcpi2 : (12 : Int) ≤ (cp : Int) := by omega
  go_upto_region 4 with (fail)
  refine Inv2.wp_region_inv (fun b a wy => ∃ z7 z20 z21 z22 z23 z24 z25 z26 z27, a = ⟨(List.toArray (Value.slice (some { block := bq, off := o }) 128 cap :: undef :: Value.pointer (some { block := w.heap.size, off := 0 }) :: Value.int IntKind.i64 0 :: Value.int IntKind.u8 ↑kd.toNat :: Value.slice (some { block := g, off := 0 }) 123 cp :: Value.int IntKind.i64 0 :: z7 :: undef :: undef :: undef :: Value.tuple #[Value.int IntKind.u8 ↑kd.toNat, Value.slice (some { block := g, off := 0 }) 123 cp, Value.int IntKind.i64 0] :: Value.slice (some { block := bq, off := o }) 128 cap :: Value.tuple #[Value.int IntKind.u8 ↑kd.toNat, Value.slice (some { block := g, off := 0 }) 123 cp, Value.int IntKind.i64 0] :: Value.int IntKind.u8 ↑kd.toNat :: Value.slice (some { block := g, off := 0 }) 123 cp :: Value.int IntKind.i64 0 :: Value.int IntKind.i64 0 :: Value.bool false :: undef :: z20 :: z21 :: z22 :: z23 :: z24 :: z25 :: z26 :: z27 :: undef :: undef :: undef :: undef :: undef :: undef :: undef :: undef :: undef :: undef :: undef :: undef :: undef :: undef :: undef :: undef :: undef :: undef :: undef :: undef :: undef :: undef :: undef :: undef :: undef :: undef :: undef :: undef :: undef :: undef :: undef :: undef :: undef :: undef :: undef :: undef :: undef :: undef :: undef :: undef :: undef :: undef :: undef :: undef :: undef :: [])), []⟩ ∧ Hid ((b 0 = true → z20 = Value.slice (some { block := g, off := 0 }) 123 cp) ∧ (b 1 = true → z21 = .slice (some ⟨g, 0, none⟩) 8 cp) ∧ (b 2 = true → z22 = .int .u64 (rd (bodyIn ps) 0 : Int)) ∧ (b 3 = true → z23 = Value.slice (some { block := g, off := 0 }) 123 cp) ∧ (b 4 = true → z24 = .slice (some ⟨g, 8, none⟩) 4 (cp - 8)) ∧ (b 5 = true → z25 = .int .u64 (rd (bodyIn ps) 1 : Int)) ∧ (b 6 = true → z26 = .int .u32 (rd (bodyIn ps) 1 : Int)) ∧ (b 7 = true → z27 = .agg (scells (supOf (dk (rd (bodyIn ps)) 0))).toArray)) ∧ Hid (Below w2.heap.size w2 wy) ∧ Hid ((b 8 = true → ∃ q, z7 = .pointer (some ⟨q, 0, none⟩) ∧ w2.heap.size ≤ q ∧ (b 9 = false → RowV wy q 27 (scells zero18)) ∧ (b 9 = true → RowV wy q 27 (scells (supOf (dk (rd (bodyIn ps)) 0))))) ∧ (b 9 = true → b 8 = true))) (by kernel_rfl) (by kernel_rfl) ?startR4 ?stepsR4 ?doneR4
  case startR4 =>
    intro b hb
    refine ⟨undef, undef, undef, undef, undef, undef, undef, undef, undef, rfl, Lib.hid ⟨?_, ?_, ?_, ?_, ?_, ?_, ?_, ?_⟩, Lib.hid ((show Still w2 w2.drew from ⟨rfl, rfl, rfl, rfl⟩).below _), Lib.hid (⟨fun e => (by rw [hb _ (by decide)] at e; cases e), fun e => (by rw [hb _ (by decide)] at e; cases e)⟩)⟩
    all_goals (intro e; first | rfl | (rw [hb _ (by decide)] at e; cases e))
  case stepsR4 =>
    refine ⟨?_, ?_, ?_, ?_, ?_, ?_, ?_, ?_, ?_, ?_, trivial⟩
    · rintro b a wy hb hd ⟨z7, z20, z21, z22, z23, z24, z25, z26, z27, rfl, HV, HW, HX⟩ K hK
      obtain ⟨h0, h1, h2, h3, h4, h5, h6, h7⟩ := HV.out
      clear hd
      go_simp
      exact hK _ _ ⟨_, _, _, _, _, _, _, _, _, rfl, Lib.hid ⟨fun _ => rfl, h1, h2, h3, h4, h5, h6, h7⟩, HW, HX⟩
    · rintro b a wy hb hd ⟨z7, z20, z21, z22, z23, z24, z25, z26, z27, rfl, HV, HW, HX⟩ K hK
      obtain ⟨h0, h1, h2, h3, h4, h5, h6, h7⟩ := HV.out
      simp [Region.binds] at hd
      obtain rfl := h0 (by simp [hd])
      clear hd
      go_simp
      exact hK _ _ ⟨_, _, _, _, _, _, _, _, _, rfl, Lib.hid ⟨h0, fun _ => rfl, h2, h3, h4, h5, h6, h7⟩, HW, HX⟩
    · rintro b a wy hb hd ⟨z7, z20, z21, z22, z23, z24, z25, z26, z27, rfl, HV, HW, HX⟩ K hK
      obtain ⟨h0, h1, h2, h3, h4, h5, h6, h7⟩ := HV.out
      simp [Region.binds] at hd
      obtain rfl := h1 (by simp [hd])
      clear hd
      go_simp
      go_at_call 35
      refine (number_rd g 0 8 cp (bodyIn ps) 0 rfl rfl HBL.out (by decide) (HH.out.below HGL.out HW.out)).mono ?_
      rintro e wz ⟨rfl, rfl⟩
      try go_simp
      exact hK _ _ ⟨_, _, _, _, _, _, _, _, _, rfl, Lib.hid ⟨h0, h1, fun _ => rfl, h3, h4, h5, h6, h7⟩, HW, HX⟩
    · rintro b a wy hb hd ⟨z7, z20, z21, z22, z23, z24, z25, z26, z27, rfl, HV, HW, HX⟩ K hK
      obtain ⟨h0, h1, h2, h3, h4, h5, h6, h7⟩ := HV.out
      clear hd
      go_simp
      exact hK _ _ ⟨_, _, _, _, _, _, _, _, _, rfl, Lib.hid ⟨h0, h1, h2, fun _ => rfl, h4, h5, h6, h7⟩, HW, HX⟩
    · rintro b a wy hb hd ⟨z7, z20, z21, z22, z23, z24, z25, z26, z27, rfl, HV, HW, HX⟩ K hK
      obtain ⟨h0, h1, h2, h3, h4, h5, h6, h7⟩ := HV.out
      simp [Region.binds] at hd
      obtain rfl := h3 (by simp [hd])
      clear hd
      have sl := run_window wy g 123 cp 8 12 4 8 12 rfl rfl rfl (by omega) (by omega) (by omega)
      go_simp
      exact hK _ _ ⟨_, _, _, _, _, _, _, _, _, rfl, Lib.hid ⟨h0, h1, h2, h3, fun _ => rfl, h5, h6, h7⟩, HW, HX⟩
    · rintro b a wy hb hd ⟨z7, z20, z21, z22, z23, z24, z25, z26, z27, rfl, HV, HW, HX⟩ K hK
      obtain ⟨h0, h1, h2, h3, h4, h5, h6, h7⟩ := HV.out
      simp [Region.binds] at hd
      obtain rfl := h4 (by simp [hd])
      clear hd
      go_simp
      go_at_call 35
      refine (number_rd g 8 4 (cp - 8) (bodyIn ps) 1 rfl rfl HBL.out (by decide) (HH.out.below HGL.out HW.out)).mono ?_
      rintro e wz ⟨rfl, rfl⟩
      try go_simp
      exact hK _ _ ⟨_, _, _, _, _, _, _, _, _, rfl, Lib.hid ⟨h0, h1, h2, h3, h4, fun _ => rfl, h6, h7⟩, HW, HX⟩
    · rintro b a wy hb hd ⟨z7, z20, z21, z22, z23, z24, z25, z26, z27, rfl, HV, HW, HX⟩ K hK
      obtain ⟨h0, h1, h2, h3, h4, h5, h6, h7⟩ := HV.out
      simp [Region.binds] at hd
      obtain rfl := h5 (by simp [hd])
      clear hd
      have hsm := rd_small (bodyIn ps) 1 (by decide) (by decide)
      have hwu : IntKind.u32.wrap (rd (bodyIn ps) 1 : Int) = (rd (bodyIn ps) 1 : Int) := by simp [IntKind.wrap_u32]; omega
      go_simp
      exact hK _ _ ⟨_, _, _, _, _, _, _, _, _, rfl, Lib.hid ⟨h0, h1, h2, h3, h4, h5, fun _ => rfl, h7⟩, HW, HX⟩
    · rintro b a wy hb hd ⟨z7, z20, z21, z22, z23, z24, z25, z26, z27, rfl, HV, HW, HX⟩ K hK
      obtain ⟨h0, h1, h2, h3, h4, h5, h6, h7⟩ := HV.out
      simp [Region.binds] at hd
      obtain rfl := h2 (by simp [hd])
      obtain rfl := h6 (by simp [hd])
      clear hd
      refine if_wanted (by rfl) (wp_build_as 27 #[(0, .tmp 22), (1, .tmp 26)] rfl (scells (supOf (dk (rd (bodyIn ps)) 0))).toArray (by simp [Act.eval]; exact built_start _) ?_)
      exact hK _ _ ⟨_, _, _, _, _, _, _, _, _, rfl, Lib.hid ⟨h0, h1, h2, h3, h4, h5, h6, fun _ => rfl⟩, HW, HX⟩
    · rintro b a wy hb hd ⟨z7, z20, z21, z22, z23, z24, z25, z26, z27, rfl, HV, HW, HX⟩ K hK
      obtain ⟨h0, h1, h2, h3, h4, h5, h6, h7⟩ := HV.out
      clear hd
      obtain ⟨x8, o9⟩ := HX.out
      go_simp
      exact hK _ _ ⟨_, _, _, _, _, _, _, _, _, rfl, Lib.hid ⟨h0, h1, h2, h3, h4, h5, h6, h7⟩, Lib.hid (HW.out.alloc HW.out.size _), Lib.hid ⟨fun _ => ⟨wy.heap.size, rfl, HW.out.size, fun _ => alloc_rowV wy 27 (scells zero18), fun e => (by have q := o9 e; rw [hb] at q; cases q)⟩, fun _ => rfl⟩⟩
    · rintro b a wy hb hd ⟨z7, z20, z21, z22, z23, z24, z25, z26, z27, rfl, HV, HW, HX⟩ K hK
      obtain ⟨h0, h1, h2, h3, h4, h5, h6, h7⟩ := HV.out
      simp [Region.binds] at hd
      have dd8 : b 8 = true := by simp [hd]
      obtain rfl := h7 (by simp [hd])
      clear hd
      obtain ⟨x8, o9⟩ := HX.out
      obtain ⟨q, rfl, hq, r0, r1⟩ := x8 dd8
      have hR := r0 hb
      refine if_wanted (by rfl) (wp_store_row 27 (.tmp 7) (.tmp 27) rfl q (scells (supOf (dk (rd (bodyIn ps)) 0))).toArray rfl rfl _ _ hR (size_scells _) (by simp [length_scells]) (one_scells _) ?_)
      exact hK _ _ ⟨_, _, _, _, _, _, _, _, _, rfl, Lib.hid ⟨h0, h1, h2, h3, h4, h5, h6, h7⟩, Lib.hid (HW.out.trans (setRow_below _ hq)), Lib.hid ⟨fun _ => ⟨q, rfl, hq, fun e => (by simp [Inv.mark] at e), fun _ => row_setRow_same hR⟩, fun _ => dd8⟩⟩
  case doneR4 =>
    rintro b a wy hb ⟨z7, z20, z21, z22, z23, z24, z25, z26, z27, rfl, HV, HW, HX⟩
    obtain ⟨h0, h1, h2, h3, h4, h5, h6, h7⟩ := HV.out
    obtain rfl := h0 (hb 0)
    obtain rfl := h1 (hb 1)
    obtain rfl := h2 (hb 2)
    obtain rfl := h3 (hb 3)
    obtain rfl := h4 (hb 4)
    obtain rfl := h5 (hb 5)
    obtain rfl := h6 (hb 6)
    obtain rfl := h7 (hb 7)
    clear HV h0 h1 h2 h3 h4 h5 h6 h7
    obtain ⟨x8, o9⟩ := HX.out
    obtain ⟨q, rfl, hq, -, r1⟩ := x8 (hb 8)
    have HRQ := Lib.hid (r1 (hb 9))
    have HQL := Lib.hid hq
    clear HX x8 o9 r1 hb hq
    go_wp2_with fail
    go_loopw [8] (fun i wr => ∃ k : Nat, k ≤ 8 ∧ i = .int .i64 (k : Int) ∧ Hid (RowV wr q 27 (scells (supOf (dk (rd (bodyIn ps)) k)))) ∧ Hid (Below w2.heap.size w2 wr)) (fun i _ => 8 - (intOf i).toNat)
    case atStart => exact ⟨0, by omega, rfl, HRQ, HW⟩
    case round =>
      obtain ⟨k, hk, rfl, HRQ', HW'⟩ := hrel
      clear HRQ HW
      have HRQ := HRQ'
      have HW := HW'
      clear HRQ' HW'
      by_cases hlt : k < 8
      case pos =>
        have hki : (k : Int) < 8 := by omega
        have hk0 : (0 : Int) ≤ (k : Int) := by omega
        have s1 := fun w' => run_window w' g 123 cp (12 + 4 * k) (16 + 4 * k) 4 (12 + 4 * (k : Int)) (16 + 4 * (k : Int)) (by omega) (by omega) (by omega) (by omega) (by omega) (by omega)
        have s2 := fun w' => run_window w' g 123 cp (44 + 8 * k) (52 + 8 * k) 8 (44 + 8 * (k : Int)) (52 + 8 * (k : Int)) (by omega) (by omega) (by omega) (by omega) (by omega) (by omega)
        have e1 := HRQ.out.cellAt (scells_at _ (2 + k) (by omega))
        have f1 := HRQ.out.free (2 + k)
        have hw1 : IntKind.i64.wrap (12 + 4 * (k : Int)) = 12 + 4 * (k : Int) := IntWalk.i64_in _ (by omega)
        have hw2 : IntKind.i64.wrap (16 + 4 * (k : Int)) = 16 + 4 * (k : Int) := IntWalk.i64_in _ (by omega)
        have hw3 : IntKind.i64.wrap (44 + 8 * (k : Int)) = 44 + 8 * (k : Int) := IntWalk.i64_in _ (by omega)
        have hw4 : IntKind.i64.wrap (52 + 8 * (k : Int)) = 52 + 8 * (k : Int) := IntWalk.i64_in _ (by omega)
        have hsm := rd_small (bodyIn ps) (2 + k) (by omega) (by omega)
        have hwu : IntKind.u32.wrap (rd (bodyIn ps) (2 + k) : Int) = (rd (bodyIn ps) (2 + k) : Int) := by simp [IntKind.wrap_u32]; omega
        go_wp2_with fail
        refine (number_rd g (12 + 4 * k) 4 (cp - (12 + 4 * k)) (bodyIn ps) (2 + k) (pos_root k hlt).1 (pos_root k hlt).2 HBL.out (by omega) (HH.out.below HGL.out HW.out)).mono ?_
        rintro e wq ⟨rfl, rfl⟩
        go_upto_region 9 with (fail)
        have HRQ2 := Lib.hid (HRQ.out.set (2 + k) (.int .u32 (rd (bodyIn ps) (2 + k) : Int)))
        have HW2 := Lib.hid (HW.out.setCell (p := ⟨q, 2 + k, none⟩) HQL.out (.int .u32 (rd (bodyIn ps) (2 + k) : Int)))
        clear HRQ HW e1 f1
        generalize wr.setCell ⟨q, 2 + k, none⟩ (.int .u32 (rd (bodyIn ps) (2 + k) : Int)) = ws at *
        obtain ⟨u, hu⟩ : ∃ u, ((scells (supOf (dk (rd (bodyIn ps)) k))).set (2 + k) (.int .u32 (rd (bodyIn ps) (2 + k) : Int)))[10 + k]? = some u := ⟨_, List.getElem?_eq_getElem (by rw [List.length_set, length_scells]; omega)⟩
        have e2 := HRQ2.out.cellAt hu
        have f2 := HRQ2.out.free (10 + k)
        go_wp2_with fail
        refine (number_rd g (44 + 8 * k) 8 (cp - (44 + 8 * k)) (bodyIn ps) (10 + k) (pos_mark k hlt).1 (pos_mark k hlt).2 HBL.out (by omega) (HH.out.below HGL.out HW2.out)).mono ?_
        rintro e wq ⟨rfl, rfl⟩
        go_wp2_with fail
        go_roundw
        case rel => exact ⟨k + 1, by omega, by go_num, Lib.hid (by rw [← dk_next _ _ hlt]; exact HRQ2.out.set (10 + k) (.int .u64 (rd (bodyIn ps) (10 + k) : Int))), Lib.hid (HW2.out.setCell (p := ⟨q, 10 + k, none⟩) HQL.out (.int .u64 (rd (bodyIn ps) (10 + k) : Int)))⟩
        case measure => simp [intOf]; omega
      case neg =>
        obtain rfl : k = 8 := by omega
        have hrq := HRQ.out
        rw [dk_all, sIn_rd] at hrq
        have HRQ2 := Lib.hid hrq
        have HPG2 := Lib.hid (HPG.out.below (has_lt' HPG.out (by rw [HL.out]; decide)) HW.out)
        have HRS := Lib.hid (HR.out.below HR.out.lt HW.out)
        replace HB := Lib.hid (HB.out.trans (HW.out.mono HB.out.size))
        have hqw : w.heap.size ≠ q := by have := HR.out.lt; have := HQL.out; omega
        clear HRQ HW hrq HH HPG HR
        by_cases hfit : Fit (sIn ps)
        case neg =>
          have HDS := Lib.hid (err_no (ps := ps) fun h => hfit h.2.2.1)
          have HEN := Lib.hid (rencode_no (sIn ps) (ok_sIn ps) wr hfit)
          clear hfit
          go_wp2_with (refine wpList_load_row rfl 27 (.tmp 7) rfl q rfl _ (scells (sIn ps)).toArray _ _ HRQ2.out Try.underlying27 rfl (size_scells _) ?_)
          refine HEN.out.mono ?_
          rintro e w5 ⟨rfl, kk⟩
          replace HRS := Lib.hid (HRS.out.below HRS.out.lt kk)
          replace HB := Lib.hid (HB.out.trans (kk.mono HB.out.size))
          clear kk HEN
          go_wp2_with (first | (refine wpList_store_row rfl 27 (.tmp 2) (.tmp 71) rfl w.heap.size (scells zero18).toArray rfl rfl _ _ HRS.out (size_scells _) (by simp [length_scells]) (one_scells _) ?_) | (refine wpList_build_as rfl 27 #[] rfl (scells zero18).toArray ?_ ?_; (simp [Act.eval]); exact built_zero))
          refine bodyPost_ret (results_sup rfl _ _ w.heap.size zero18 rfl (row_setRow_same HRS.out)) rfl ⟨?_, HB.out.trans (setRow_below _ (Nat.le_refl _))⟩
          rw [HDS.out.1, HDS.out.2]
          rfl
        have HFT := Lib.hid hfit
        have HEN := Lib.hid (rencode_yes (sIn ps) (ok_sIn ps) wr hfit)
        clear hfit
        go_wp2_with (refine wpList_load_row rfl 27 (.tmp 7) rfl q rfl _ (scells (sIn ps)).toArray _ _ HRQ2.out Try.underlying27 rfl (size_scells _) ?_)
        refine HEN.out.mono ?_
        rintro e w5 ⟨A5, c5, rfl, HT5, kk⟩
        replace HRS := Lib.hid (HRS.out.below HRS.out.lt kk)
        replace HRQ2 := Lib.hid (HRQ2.out.below HRQ2.out.lt kk)
        replace HPG2 := Lib.hid (HPG2.out.below (has_lt' HPG2.out (by rw [HL.out]; decide)) kk)
        replace HB := Lib.hid (HB.out.trans (kk.mono HB.out.size))
        have k1 := conv_told (P := Try.prog) HT5.told c5 28 9 5 Try.underlying28 Try.underlying5 Try.underlying9
        have k2 := conv_told (P := Try.prog) HPG2.out.told cap 28 9 5 Try.underlying28 Try.underlying5 Try.underlying9
        rw [HT5.len] at k1
        rw [HL.out] at k2
        clear kk HEN HT5
        by_cases heq : supPage (sIn ps) = ps
        case pos =>
          have HDS := Lib.hid (show dsup ps = sIn ps ∧ derr ps = 0 by
            have : Holds ps := ⟨HL.out, HGD.out, HFT.out, heq⟩
            unfold dsup derr; rw [if_pos this, if_pos this]; exact ⟨rfl, rfl⟩)
          have hq : (supPage (sIn ps) != ps) = false := by rw [bne_eq_false_iff_eq]; exact heq
          have hq2 : (supPage (sIn ps) == ps) = true := by rw [beq_iff_eq]; exact heq
          clear heq
          go_upto_region 13 with (fail)
          go_wp2_with (first | (refine wpList_load_row rfl 27 (.tmp 7) rfl q rfl _ (scells (sIn ps)).toArray _ _ HRQ2.out Try.underlying27 rfl (size_scells _) ?_) | (refine wpList_store_row rfl 27 (.tmp 2) (.tmp 72) rfl w.heap.size (scells (sIn ps)).toArray rfl rfl _ _ HRS.out (size_scells _) (by simp [length_scells]) (one_scells _) ?_))
          refine bodyPost_ret (results_sup rfl _ _ w.heap.size (sIn ps) rfl (row_setRow_same HRS.out)) rfl ⟨?_, HB.out.trans (setRow_below _ (Nat.le_refl _))⟩
          rw [HDS.out.1, HDS.out.2]
          rfl
        have HDS := Lib.hid (err_no (ps := ps) fun h => heq h.2.2.2)
        have hq : (supPage (sIn ps) != ps) = true := by rw [bne_iff_ne]; exact heq
        have hq2 : (supPage (sIn ps) == ps) = false := by rw [beq_eq_false_iff_ne]; exact heq
        clear heq
        go_wp2_with (first | (refine wpList_store_row rfl 27 (.tmp 2) (.tmp 71) rfl w.heap.size (scells zero18).toArray rfl rfl _ _ HRS.out (size_scells _) (by simp [length_scells]) (one_scells _) ?_) | (refine wpList_build_as rfl 27 #[] rfl (scells zero18).toArray ?_ ?_; (simp [Act.eval]); exact built_zero))
        refine bodyPost_ret (results_sup rfl _ _ w.heap.size zero18 rfl (row_setRow_same HRS.out)) rfl ⟨?_, HB.out.trans (setRow_below _ (Nat.le_refl _))⟩
        rw [HDS.out.1, HDS.out.2]
        rfl
end Go.Proofs.Ytkhimoclikhlaaa.Su
