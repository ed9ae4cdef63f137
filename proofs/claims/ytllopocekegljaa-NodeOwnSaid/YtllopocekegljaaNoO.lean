/- Layer 12: the walk of the statement NodeOwn. (Written by bin/gen_noo.py.) -/
import Derived.Test.YtllopocekegljaaNoN
namespace Go.Proofs.Ytllopocekegljaa.No
open Go.RowKit Go.Proofs.Ytllopocekegljaa.Oct Go.Proofs.Ytllopocekegljaa.Lf Go.Proofs.Ytllopocekegljaa.Mv
set_option linter.unusedVariables false
set_option linter.unusedSimpArgs false

/-- Two rows of the call's own, apart. -/
structure P2 (w : World) (base : Nat) (cK cV : Value) (kn vn : List UInt64) : Prop where
  ok : OwnN w base cK kn
  ov : OwnN w base cV vn
  ne : ∀ k, cK.ownBlock = some k → cV.ownBlock ≠ some k
  bw : base ≤ w.heap.size
theorem P2.far {w w' : World} {base : Nat} {cK cV : Value} {kn vn : List UInt64} (h : P2 w base cK cV kn vn) (k : Below w.heap.size w w') : P2 w' base cK cV kn vn :=
  ⟨own_at h.ok k, own_at h.ov k, h.ne, Nat.le_trans h.bw k.size⟩
theorem P2.setK {w w' : World} {base : Nat} {cK cV v' : Value} {kn vn ns : List UInt64} (h : P2 w base cK cV kn vn) (ho : OwnN w' base v' ns) (hg : w.grownBy w' cK.ownBlock) (hl : v'.ownBlock = cK.ownBlock ∨ v'.ownBlock = some w.heap.size) : P2 w' base v' cV ns vn := by
  refine ⟨ho, h.ov.same (fun k e hk => hg.block k hk (fun e2 => h.ne k e2.symm e)), fun k e e2 => ?_, Nat.le_trans h.bw hg.size⟩
  rcases hl with hl | hl
  · exact h.ne k (by rw [← hl]; exact e) e2
  · have h1 : k = w.heap.size := by rw [hl] at e; exact (Option.some.inj e).symm
    have h2 := (World.ownsRow.lt h.ov k e2).2
    omega
theorem P2.setV {w w' : World} {base : Nat} {cK cV v' : Value} {kn vn ns : List UInt64} (h : P2 w base cK cV kn vn) (ho : OwnN w' base v' ns) (hg : w.grownBy w' cV.ownBlock) (hl : v'.ownBlock = cV.ownBlock ∨ v'.ownBlock = some w.heap.size) : P2 w' base cK v' kn ns := by
  refine ⟨h.ok.same (fun k e hk => hg.block k hk (fun e2 => h.ne k e e2.symm)), ho, fun k e e2 => ?_, Nat.le_trans h.bw hg.size⟩
  rcases hl with hl | hl
  · exact h.ne k e (by rw [← hl]; exact e2)
  · have h1 : k = w.heap.size := by rw [hl] at e2; exact (Option.some.inj e2).symm
    have h2 := (World.ownsRow.lt h.ok k e).2
    omega
/-- A node's variable, apart from two rows. -/
def VarAt (w : World) (v : Value) (cs : List Value) (cK cV : Value) (lo : Nat) : Prop := ∃ g, v = .pointer (some ⟨g, 0, none⟩) ∧ lo ≤ g ∧ cK.ownBlock ≠ some g ∧ cV.ownBlock ≠ some g ∧ RowV w g 24 cs
theorem VarAt.far {w w' : World} {v : Value} {cs : List Value} {cK cV : Value} {lo : Nat} (h : VarAt w v cs cK cV lo) (k : Below w.heap.size w w') : VarAt w' v cs cK cV lo := by
  obtain ⟨g, e, h1, h3, h4, h5⟩ := h
  exact ⟨g, e, h1, h3, h4, h5.below h5.lt k⟩
theorem VarAt.setK {w w' : World} {v : Value} {cs : List Value} {cK cV v' : Value} {lo : Nat} (h : VarAt w v cs cK cV lo) (hg : w.grownBy w' cK.ownBlock) (hl : v'.ownBlock = cK.ownBlock ∨ v'.ownBlock = some w.heap.size) : VarAt w' v cs v' cV lo := by
  obtain ⟨g, e, h1, h3, h4, h5⟩ := h
  have hlt := h5.lt
  refine ⟨g, e, h1, fun e2 => ?_, h4, h5.block (hg.block g hlt (fun e2 => h3 e2.symm))⟩
  rcases hl with hl | hl
  · exact h3 (by rw [← hl]; exact e2)
  · rw [hl] at e2
    have := Option.some.inj e2
    omega
theorem VarAt.setV {w w' : World} {v : Value} {cs : List Value} {cK cV v' : Value} {lo : Nat} (h : VarAt w v cs cK cV lo) (hg : w.grownBy w' cV.ownBlock) (hl : v'.ownBlock = cV.ownBlock ∨ v'.ownBlock = some w.heap.size) : VarAt w' v cs cK v' lo := by
  obtain ⟨g, e, h1, h3, h4, h5⟩ := h
  have hlt := h5.lt
  refine ⟨g, e, h1, h3, fun e2 => ?_, h5.block (hg.block g hlt (fun e2 => h4 e2.symm))⟩
  rcases hl with hl | hl
  · exact h4 (by rw [← hl]; exact e2)
  · rw [hl] at e2
    have := Option.some.inj e2
    omega
theorem made_twenty : madeCells (Value.int .u64 0).cells 20 = (nvals (List.replicate 20 0)).toArray := made_zerosN 20
def umax : UInt64 := 18446744073709551615
theorem umax_nat : (umax.toNat : Int) = 18446744073709551615 := by decide
theorem max_told (w : World) : ToldN (w.alloc (.cells #[.int .u64 18446744073709551615] 25)) (some ⟨w.heap.size, 0, none⟩) [umax] := by
  have := one_told w umax
  rw [umax_nat] at this
  exact this
def twenty : Obj := .cells (nvals (List.replicate 20 0)).toArray 25
theorem run_make_twenty (w : World) : (Instr.makeSlice 22 (.int .i64 0) (.int .i64 20)).run Try.prog w = .ok (.slice (some ⟨w.heap.size, 0, none⟩) 0 20) (w.alloc twenty) := by
  obtain ⟨i0, hi, hz0, hz1, hz2⟩ := info_parts nums_info
  have h := run_make (P := Try.prog) w 22 25 i0 (.int .u64 0) Try.underlying22 hi hz0 .i64 .i64 0 20 (by omega) (by omega) (by rw [hz2]; omega) (by omega)
  rw [hz1, Nat.mul_one, show Int.toNat 20 = 20 from rfl, made_twenty] at h
  exact h
theorem own_twenty (w : World) (base : Nat) (hb : base ≤ w.heap.size) : OwnN (w.alloc twenty) base (.slice (some ⟨w.heap.size, 0, none⟩) 0 20) [] :=
  World.ownsRow_made w (nvals (List.replicate 20 0)).toArray 20 hb (by unfold maxLen; omega) (by simp [nvals])

theorem put_own (l : Bool) {w : World} {A B : Option Addr} {n c m d : Nat} {ks vs : List UInt64} {bs : Nat} (h : Nd w A n c B m d ks vs) (hb : bs ≤ w.heap.size) (k x : UInt64) :
    Calls Try.prog 14 #[.agg #[.bool l, .slice A n c, .slice B m d], .int .u64 (k.toNat : Int), .int .u64 (x.toNat : Int)] w fun e w' => ∃ v b q l' ks' vs', e = .returned (.tuple #[v, .bool b, .int .i64 q]) ∧ OwnD w' bs v l' ks' vs' ∧ Below w.heap.size w w' := by
  refine (put_any l h k x _ rfl).mono ?_
  rintro e w' ⟨v, rfl, o, k⟩
  exact ⟨v, _, _, _, _, _, rfl, o.mono hb, k⟩
theorem take_own (l : Bool) {w : World} {A B : Option Addr} {n c m d : Nat} {ks vs : List UInt64} {bs : Nat} (h : Nd w A n c B m d ks vs) (hb : bs ≤ w.heap.size) (k : UInt64) :
    Calls Try.prog 17 #[.agg #[.bool l, .slice A n c, .slice B m d], .int .u64 (k.toNat : Int)] w fun e w' => ∃ v b q l' ks' vs', e = .returned (.tuple #[v, .int .u64 b, .int .i64 q]) ∧ OwnD w' bs v l' ks' vs' ∧ Below w.heap.size w w' := by
  refine (take_any l h k _ rfl).mono ?_
  rintro e w' ⟨v, rfl, o, k⟩
  exact ⟨v, _, _, _, _, _, rfl, o.mono hb, k⟩
theorem split_own (l : Bool) {w : World} {A B : Option Addr} {n c m d : Nat} {ks vs : List UInt64} {bs : Nat} (h : Nd w A n c B m d ks vs) (hb : bs ≤ w.heap.size) :
    Calls Try.prog 19 #[.agg #[.bool l, .slice A n c, .slice B m d]] w fun e w' => ∃ u v q l1 k1 v1 l2 k2 v2, e = .returned (.tuple #[u, v, .int .i64 q]) ∧ OwnD w' bs u l1 k1 v1 ∧ OwnD w' bs v l2 k2 v2 ∧ Below w.heap.size w w' := by
  refine (split_any l h _ rfl).mono ?_
  rintro e w' ⟨u, v, rfl, o, o', k⟩
  exact ⟨u, v, _, _, _, _, _, _, _, rfl, o.mono hb, o'.mono hb, k⟩
theorem join_own (l l' : Bool) {w : World} {A B A' B' : Option Addr} {n c m d n' c' m' d' : Nat} {ks vs ks' vs' : List UInt64} {bs : Nat} (h : Nd w A n c B m d ks vs) (h' : Nd w A' n' c' B' m' d' ks' vs') (hb : bs ≤ w.heap.size) :
    Calls Try.prog 21 #[.agg #[.bool l, .slice A n c, .slice B m d], .agg #[.bool l', .slice A' n' c', .slice B' m' d']] w fun e w' => ∃ v q k, e = .returned (.tuple #[v, .int .i64 q]) ∧ ListR w' bs v k ∧ k ≤ 2 ∧ Below w.heap.size w w' := by
  refine (join_any l l' h h' _ rfl).mono ?_
  rintro e w' ⟨v, rfl, o, k⟩
  refine ⟨v, _, _, rfl, (o.mono hb).roomy, ?_, k⟩
  unfold joinR
  split
  · split <;> simp
  · simp
theorem cut_own (l : Bool) {w : World} {A B : Option Addr} {n c m d : Nat} {ks vs : List UInt64} {bs : Nat} (h : Nd w A n c B m d ks vs) (hb : bs ≤ w.heap.size) (x y : UInt64) :
    Calls Try.prog 23 #[.agg #[.bool l, .slice A n c, .slice B m d], .int .u64 (x.toNat : Int), .int .u64 (y.toNat : Int)] w fun e w' => ∃ v g q l' ks' vs' ns, e = .returned (.tuple #[v, g, .int .i64 q]) ∧ OwnD w' bs v l' ks' vs' ∧ OwnN w' bs g ns ∧ Below w.heap.size w w' := by
  refine (cut_any l h x y _ rfl).mono ?_
  rintro e w' ⟨v, g, rfl, o, og, k⟩
  exact ⟨v, g, _, _, _, _, _, rfl, o.mono hb, own_mono og hb, k⟩

set_option maxRecDepth 100000 in
set_option maxHeartbeats 8000000 in
theorem own_walk (haw : ∀ w : World, Calls Try.prog 9 #[] w fun e w' => e = .returned (.bool true) ∧ Below w.heap.size w w') (l : Bool) {w : World} {A B : Option Addr} {n c m d : Nat} {ks vs : List UInt64} (h : Nd w A n c B m d ks vs) (k x : UInt64) :
    Calls Try.prog 8 #[.agg #[.bool l, .slice A n c, .slice B m d], .int .u64 (k.toNat : Int), .int .u64 (x.toNat : Int)] w fun e w' => e = .returned (.bool true) ∧ Below w.heap.size w w' := by
  have BB := Lib.hid ((Below.refl w.heap.size w).alloc (Nat.le_refl _) (.cells #[.bool l, .slice A n c, .slice B m d] 24))
  have HBX := Lib.hid (box_row w l A n c B m d)
  have HN := Lib.hid (h.below BB.out)
  have kl := h.kl
  have hz := node_zero
  have hs1 : (w.alloc (.cells #[.bool l, .slice A n c, .slice B m d] 24)).heap.size = w.heap.size + 1 := by simp
  have HAW := Lib.hid haw
  clear h haw
  go_enter Try.func8, Try.ntmps8
  go_wp2_with fail
  refine (right_any l HN.out).mono ?_
  rintro e w2 ⟨rfl, B2⟩
  have BB2 := Lib.hid (BB.out.trans (B2.mono BB.out.size))
  have HBX2 := Lib.hid (HBX.out.below HBX.out.lt B2)
  have HN2 := Lib.hid (HN.out.below B2)
  have hw2 : w.heap.size + 1 ≤ w2.heap.size := by have := B2.size; omega
  clear B2 HBX HN BB hs1
  by_cases hok : Ok l ks vs
  · rw [decide_eq_true hok]
    obtain rfl : m = n := by rw [← HN2.out.vl, ← kl]; exact hok.2.1
    have h7 := hok.1
    have HK := Lib.hid hok
    clear hok
    have hmk := run_make_twenty
    go_upto_region 3 with (fail)
    refine Inv2.wp_region_inv (fun b a wy => ∃ (z : Nat → Value) (z7 : Value) (z30 : Value) (z33 : Value) (z34 : Value) (z37 : Value) (z38 : Value), a = ⟨(List.toArray (Value.agg #[Value.bool l, Value.slice A m c, Value.slice B m d] :: Value.int IntKind.u64 ↑k.toNat :: Value.int IntKind.u64 ↑x.toNat :: Value.pointer (some ⟨w.heap.size, 0, none⟩) :: undef :: undef :: Value.bool false :: z7 :: undef :: undef :: undef :: undef :: undef :: undef :: undef :: undef :: undef :: undef :: undef :: undef :: undef :: undef :: undef :: undef :: Value.agg #[Value.bool l, Value.slice A m c, Value.slice B m d] :: Value.bool true :: Value.bool false :: undef :: (z 28) :: (z 29) :: z30 :: (z 31) :: (z 32) :: z33 :: z34 :: (z 35) :: (z 36) :: z37 :: z38 :: undef :: undef :: undef :: undef :: undef :: undef :: undef :: undef :: undef :: undef :: undef :: undef :: undef :: undef :: undef :: undef :: undef :: undef :: undef :: undef :: undef :: undef :: undef :: undef :: undef :: undef :: undef :: undef :: undef :: undef :: undef :: undef :: undef :: undef :: undef :: undef :: undef :: undef :: undef :: undef :: undef :: undef :: undef :: undef :: undef :: undef :: undef :: undef :: undef :: undef :: undef :: undef :: undef :: undef :: undef :: undef :: undef :: undef :: undef :: undef :: undef :: undef :: undef :: undef :: undef :: undef :: undef :: [])), []⟩ ∧ Hid ((b 0 = true → (z 28) = .pointer (some ⟨w.heap.size, 0, none⟩)) ∧ (b 1 = true → (z 29) = .bool l) ∧ (b 3 = true → (z 31) = .pointer (some ⟨w.heap.size, 1, none⟩)) ∧ (b 4 = true → (z 32) = .slice A m c) ∧ (b 7 = true → (z 35) = .pointer (some ⟨w.heap.size, 2, none⟩)) ∧ (b 8 = true → (z 36) = .slice B m d)) ∧ Hid (Below w2.heap.size w2 wy) ∧ Hid (∃ cK cV kn vn, P2 wy w2.heap.size cK cV kn vn ∧ (b 2 = false → cK = .slice none 0 0 ∧ kn = []) ∧ (b 2 = true → b 5 = false → cK = z30 ∧ kn = []) ∧ (b 5 = true → b 2 = true ∧ cK = z33 ∧ kn = ks) ∧ (b 6 = false → cV = .slice none 0 0 ∧ vn = []) ∧ (b 6 = true → b 9 = false → cV = z34 ∧ vn = []) ∧ (b 9 = true → b 6 = true ∧ cV = z37 ∧ vn = vs) ∧ (b 10 = true → b 5 = true ∧ b 9 = true ∧ z38 = .agg #[.bool l, z33, z37]) ∧ (b 11 = true → b 12 = false → VarAt wy z7 [.bool false, .slice none 0 0, .slice none 0 0] cK cV w2.heap.size) ∧ (b 12 = true → b 10 = true ∧ b 11 = true ∧ VarAt wy z7 [.bool l, z33, z37] cK cV w2.heap.size))) (by kernel_rfl) (by kernel_rfl) ?startD ?stepsD ?doneD
    case startD =>
      intro b hb
      refine ⟨fun s => undef, undef, undef, undef, undef, undef, undef, rfl, Lib.hid ⟨?_, ?_, ?_, ?_, ?_, ?_⟩, Lib.hid ((show Still w2 w2.drew from ⟨rfl, rfl, rfl, rfl⟩).below _), Lib.hid (⟨_, _, [], [], ⟨own_nil _ _, own_nil _ _, fun k e => (by cases e), (by show w2.heap.size ≤ w2.drew.heap.size; exact Nat.le_refl _)⟩, fun _ => ⟨rfl, rfl⟩, (fun e => by rw [hb _ (by decide)] at e; cases e), (fun e => by rw [hb _ (by decide)] at e; cases e), fun _ => ⟨rfl, rfl⟩, (fun e => by rw [hb _ (by decide)] at e; cases e), (fun e => by rw [hb _ (by decide)] at e; cases e), (fun e => by rw [hb _ (by decide)] at e; cases e), (fun e => by rw [hb _ (by decide)] at e; cases e), (fun e => by rw [hb _ (by decide)] at e; cases e)⟩)⟩
      all_goals (intro e; first | rfl | (rw [hb _ (by decide)] at e; cases e))
    case stepsD =>
      refine ⟨?_, ?_, ?_, ?_, ?_, ?_, ?_, ?_, ?_, ?_, ?_, ?_, ?_, trivial⟩
      · rintro b a wy hb hd ⟨z, z7, z30, z33, z34, z37, z38, rfl, HV, HW, HX⟩ K hK
        clear hd
        go_simp
        have V := HV.out
        exact hK _ _ ⟨fun s => if s = 28 then .pointer (some ⟨w.heap.size, 0, none⟩) else z s, _, _, _, _, _, _, rfl, Lib.hid ⟨fun _ => rfl, V.2.1, V.2.2.1, V.2.2.2.1, V.2.2.2.2.1, V.2.2.2.2.2⟩, HW, HX⟩
      · rintro b a wy hb hd ⟨z, z7, z30, z33, z34, z37, z38, rfl, HV, HW, HX⟩ K hK
        simp [Region.binds] at hd
        have e0 : (z 28) = .pointer (some ⟨w.heap.size, 0, none⟩) := (HV.out.1) (by simp [hd])
        clear hd
        have hbx := HBX2.out.below (by omega) HW.out
        have c0 := hbx.cellAt (i := 0) rfl
        clear hbx
        go_simp
        have V := HV.out
        exact hK _ _ ⟨fun s => if s = 29 then .bool l else if s = 28 then .pointer (some ⟨w.heap.size, 0, none⟩) else z s, _, _, _, _, _, _, rfl, Lib.hid ⟨fun _ => rfl, fun _ => rfl, V.2.2.1, V.2.2.2.1, V.2.2.2.2.1, V.2.2.2.2.2⟩, HW, HX⟩
      · rintro b a wy hb hd ⟨z, z7, z30, z33, z34, z37, z38, rfl, HV, HW, HX⟩ K hK
        clear hd
        obtain ⟨cK, cV, kn, vn, xt, x2f, x2, x5, x6f, x6, x9, x10, x11, x12⟩ := HX.out
        have b5 : b 5 = false := by
            rcases Bool.eq_false_or_eq_true (b 5) with e | e
            · exact absurd (hb.symm.trans (x5 e).1) (by decide)
            · exact e
        have b10 : b 10 = false := by
            rcases Bool.eq_false_or_eq_true (b 10) with e | e
            · exact absurd (hb.symm.trans (x5 (x10 e).1).1) (by decide)
            · exact e
        have b12 : b 12 = false := by
            rcases Bool.eq_false_or_eq_true (b 12) with e | e
            · exact absurd (hb.symm.trans (x5 (x10 (x12 e).1).1).1) (by decide)
            · exact e
        obtain ⟨ec, ek⟩ := x2f hb
        subst cK
        subst kn
        have ON := own_twenty wy w2.heap.size xt.bw
        have kz := (Below.refl wy.heap.size wy).alloc (Nat.le_refl _) twenty
        have gz := World.grownBy_alloc wy twenty none
        go_simp
        have V := HV.out
        exact hK _ _ ⟨fun s => z s, _, _, _, _, _, _, rfl, Lib.hid ⟨V.1, V.2.1, V.2.2.1, V.2.2.2.1, V.2.2.2.2.1, V.2.2.2.2.2⟩, Lib.hid (HW.out.trans (kz.mono HW.out.size)), Lib.hid ⟨_, cV, [], vn, xt.setK ON gz (.inr rfl), fun e => (by cases e), fun _ _ => ⟨rfl, rfl⟩, fun e => absurd (b5.symm.trans e) (by decide), x6f, x6, x9, fun e => absurd (b10.symm.trans e) (by decide), fun e e' => (x11 e e').setK gz (.inr rfl), fun e => absurd (b12.symm.trans e) (by decide)⟩⟩
      · rintro b a wy hb hd ⟨z, z7, z30, z33, z34, z37, z38, rfl, HV, HW, HX⟩ K hK
        clear hd
        go_simp
        have V := HV.out
        exact hK _ _ ⟨fun s => if s = 31 then .pointer (some ⟨w.heap.size, 1, none⟩) else z s, _, _, _, _, _, _, rfl, Lib.hid ⟨V.1, V.2.1, fun _ => rfl, V.2.2.2.1, V.2.2.2.2.1, V.2.2.2.2.2⟩, HW, HX⟩
      · rintro b a wy hb hd ⟨z, z7, z30, z33, z34, z37, z38, rfl, HV, HW, HX⟩ K hK
        simp [Region.binds] at hd
        have e3 : (z 31) = .pointer (some ⟨w.heap.size, 1, none⟩) := (HV.out.2.2.1) (by simp [hd])
        clear hd
        have hbx := HBX2.out.below (by omega) HW.out
        have c1 := hbx.cellAt (i := 1) rfl
        clear hbx
        go_simp
        have V := HV.out
        exact hK _ _ ⟨fun s => if s = 32 then .slice A m c else if s = 31 then .pointer (some ⟨w.heap.size, 1, none⟩) else z s, _, _, _, _, _, _, rfl, Lib.hid ⟨V.1, V.2.1, fun _ => rfl, fun _ => rfl, V.2.2.2.2.1, V.2.2.2.2.2⟩, HW, HX⟩
      · rintro b a wy hb hd ⟨z, z7, z30, z33, z34, z37, z38, rfl, HV, HW, HX⟩ K hK
        simp [Region.binds] at hd
        have dd2 : b 2 = true := by simp [hd]
        have e4 : (z 32) = .slice A m c := (HV.out.2.2.2.1) (by simp [hd])
        clear hd
        obtain ⟨cK, cV, kn, vn, xt, x2f, x2, x5, x6f, x6, x9, x10, x11, x12⟩ := HX.out
        have lows : ∀ {A : Option Addr} {ns : List UInt64}, ToldN w2 A ns → ToldN wy A ns := fun h => h.below HW.out
        have b10 : b 10 = false := by
            rcases Bool.eq_false_or_eq_true (b 10) with e | e
            · exact absurd (hb.symm.trans (x10 e).1) (by decide)
            · exact e
        have b12 : b 12 = false := by
            rcases Bool.eq_false_or_eq_true (b 12) with e | e
            · exact absurd (hb.symm.trans (x10 (x12 e).1).1) (by decide)
            · exact e
        obtain ⟨ec, ek⟩ := x2 dd2 hb
        subst cK
        subst kn
        obtain ⟨v', wn, hrun, on, gn, ln⟩ := run_append_any wy w2.heap.size 22 _ [] xt.ok A m c ks kl (lows HN2.out.ks) xt.bw (by simp; omega)
        rw [List.nil_append] at on
        have kz := own_below xt.ok xt.bw gn
        rw [e4]
        refine if_wanted (by rfl) (Lib.wp_append_run _ (.tmp 30) (.tmp 32) 22 22 rfl _ _ rfl rfl _ _ hrun ?_)
        have V := HV.out
        exact hK _ _ ⟨fun s => if s = 32 then .slice A m c else z s, _, _, _, _, _, _, rfl, Lib.hid ⟨V.1, V.2.1, V.2.2.1, fun _ => rfl, V.2.2.2.2.1, V.2.2.2.2.2⟩, Lib.hid (HW.out.trans (kz.mono (Nat.le_refl _))), Lib.hid ⟨_, cV, _, vn, xt.setK on gn ln, fun e => absurd (dd2.symm.trans e) (by decide), fun _ e => (by cases e), fun _ => ⟨dd2, rfl, rfl⟩, x6f, x6, x9, fun e => absurd (b10.symm.trans e) (by decide), fun e e' => (x11 e e').setK gn ln, fun e => absurd (b12.symm.trans e) (by decide)⟩⟩
      · rintro b a wy hb hd ⟨z, z7, z30, z33, z34, z37, z38, rfl, HV, HW, HX⟩ K hK
        clear hd
        obtain ⟨cK, cV, kn, vn, xt, x2f, x2, x5, x6f, x6, x9, x10, x11, x12⟩ := HX.out
        have b9 : b 9 = false := by
            rcases Bool.eq_false_or_eq_true (b 9) with e | e
            · exact absurd (hb.symm.trans (x9 e).1) (by decide)
            · exact e
        have b10 : b 10 = false := by
            rcases Bool.eq_false_or_eq_true (b 10) with e | e
            · exact absurd (hb.symm.trans (x9 (x10 e).2.1).1) (by decide)
            · exact e
        have b12 : b 12 = false := by
            rcases Bool.eq_false_or_eq_true (b 12) with e | e
            · exact absurd (hb.symm.trans (x9 (x10 (x12 e).1).2.1).1) (by decide)
            · exact e
        obtain ⟨ec, ek⟩ := x6f hb
        subst cV
        subst vn
        have ON := own_twenty wy w2.heap.size xt.bw
        have kz := (Below.refl wy.heap.size wy).alloc (Nat.le_refl _) twenty
        have gz := World.grownBy_alloc wy twenty none
        go_simp
        have V := HV.out
        exact hK _ _ ⟨fun s => z s, _, _, _, _, _, _, rfl, Lib.hid ⟨V.1, V.2.1, V.2.2.1, V.2.2.2.1, V.2.2.2.2.1, V.2.2.2.2.2⟩, Lib.hid (HW.out.trans (kz.mono HW.out.size)), Lib.hid ⟨cK, _, kn, [], xt.setV ON gz (.inr rfl), x2f, x2, x5, fun e => (by cases e), fun _ _ => ⟨rfl, rfl⟩, fun e => absurd (b9.symm.trans e) (by decide), fun e => absurd (b10.symm.trans e) (by decide), fun e e' => (x11 e e').setV gz (.inr rfl), fun e => absurd (b12.symm.trans e) (by decide)⟩⟩
      · rintro b a wy hb hd ⟨z, z7, z30, z33, z34, z37, z38, rfl, HV, HW, HX⟩ K hK
        clear hd
        go_simp
        have V := HV.out
        exact hK _ _ ⟨fun s => if s = 35 then .pointer (some ⟨w.heap.size, 2, none⟩) else z s, _, _, _, _, _, _, rfl, Lib.hid ⟨V.1, V.2.1, V.2.2.1, V.2.2.2.1, fun _ => rfl, V.2.2.2.2.2⟩, HW, HX⟩
      · rintro b a wy hb hd ⟨z, z7, z30, z33, z34, z37, z38, rfl, HV, HW, HX⟩ K hK
        simp [Region.binds] at hd
        have e7 : (z 35) = .pointer (some ⟨w.heap.size, 2, none⟩) := (HV.out.2.2.2.2.1) (by simp [hd])
        clear hd
        have hbx := HBX2.out.below (by omega) HW.out
        have c2 := hbx.cellAt (i := 2) rfl
        clear hbx
        go_simp
        have V := HV.out
        exact hK _ _ ⟨fun s => if s = 36 then .slice B m d else if s = 35 then .pointer (some ⟨w.heap.size, 2, none⟩) else z s, _, _, _, _, _, _, rfl, Lib.hid ⟨V.1, V.2.1, V.2.2.1, V.2.2.2.1, fun _ => rfl, fun _ => rfl⟩, HW, HX⟩
      · rintro b a wy hb hd ⟨z, z7, z30, z33, z34, z37, z38, rfl, HV, HW, HX⟩ K hK
        simp [Region.binds] at hd
        have dd6 : b 6 = true := by simp [hd]
        have e8 : (z 36) = .slice B m d := (HV.out.2.2.2.2.2) (by simp [hd])
        clear hd
        obtain ⟨cK, cV, kn, vn, xt, x2f, x2, x5, x6f, x6, x9, x10, x11, x12⟩ := HX.out
        have lows : ∀ {A : Option Addr} {ns : List UInt64}, ToldN w2 A ns → ToldN wy A ns := fun h => h.below HW.out
        have b10 : b 10 = false := by
            rcases Bool.eq_false_or_eq_true (b 10) with e | e
            · exact absurd (hb.symm.trans (x10 e).2.1) (by decide)
            · exact e
        have b12 : b 12 = false := by
            rcases Bool.eq_false_or_eq_true (b 12) with e | e
            · exact absurd (hb.symm.trans (x10 (x12 e).1).2.1) (by decide)
            · exact e
        obtain ⟨ec, ek⟩ := x6 dd6 hb
        subst cV
        subst vn
        obtain ⟨v', wn, hrun, on, gn, ln⟩ := run_append_any wy w2.heap.size 22 _ [] xt.ov B m d vs HN2.out.vl (lows HN2.out.vs) xt.bw (by simp; omega)
        rw [List.nil_append] at on
        have kz := own_below xt.ov xt.bw gn
        rw [e8]
        refine if_wanted (by rfl) (Lib.wp_append_run _ (.tmp 34) (.tmp 36) 22 22 rfl _ _ rfl rfl _ _ hrun ?_)
        have V := HV.out
        exact hK _ _ ⟨fun s => if s = 36 then .slice B m d else z s, _, _, _, _, _, _, rfl, Lib.hid ⟨V.1, V.2.1, V.2.2.1, V.2.2.2.1, V.2.2.2.2.1, fun _ => rfl⟩, Lib.hid (HW.out.trans (kz.mono (Nat.le_refl _))), Lib.hid ⟨cK, _, kn, _, xt.setV on gn ln, x2f, x2, x5, fun e => absurd (dd6.symm.trans e) (by decide), fun _ e => (by cases e), fun _ => ⟨dd6, rfl, rfl⟩, fun e => absurd (b10.symm.trans e) (by decide), fun e e' => (x11 e e').setV gn ln, fun e => absurd (b12.symm.trans e) (by decide)⟩⟩
      · rintro b a wy hb hd ⟨z, z7, z30, z33, z34, z37, z38, rfl, HV, HW, HX⟩ K hK
        simp [Region.binds] at hd
        have e1 : (z 29) = .bool l := (HV.out.2.1) (by simp [hd])
        have dd5 : b 5 = true := by simp [hd]
        have dd9 : b 9 = true := by simp [hd]
        clear hd
        obtain ⟨cK, cV, kn, vn, xt, x2f, x2, x5, x6f, x6, x9, x10, x11, x12⟩ := HX.out
        have b12 : b 12 = false := by
            rcases Bool.eq_false_or_eq_true (b 12) with e | e
            · exact absurd (hb.symm.trans (x12 e).1) (by decide)
            · exact e
        obtain ⟨_, ec1, ek1⟩ := x5 dd5
        obtain ⟨_, ec2, ek2⟩ := x9 dd9
        obtain ⟨A1, k1, zz1, _⟩ := xt.ok.slice
        obtain ⟨A2, k2, zz2, _⟩ := xt.ov.slice
        rw [ec1, ek1] at zz1
        rw [ec2, ek2] at zz2
        rw [e1]
        refine if_wanted (by rfl) (wp_build_as 24 #[(0, .tmp 29), (1, .tmp 33), (2, .tmp 37)] rfl #[.bool l, z33, z37] (by simp [Act.eval]; rw [zz1, zz2]; exact node_built l A1 A2 _ k1 _ k2) ?_)
        have V := HV.out
        exact hK _ _ ⟨fun s => if s = 29 then .bool l else z s, _, _, _, _, _, _, rfl, Lib.hid ⟨V.1, fun _ => rfl, V.2.2.1, V.2.2.2.1, V.2.2.2.2.1, V.2.2.2.2.2⟩, HW, Lib.hid ⟨cK, cV, kn, vn, xt, x2f, x2, x5, x6f, x6, x9, fun _ => ⟨dd5, dd9, rfl⟩, x11, fun e => absurd (b12.symm.trans e) (by decide)⟩⟩
      · rintro b a wy hb hd ⟨z, z7, z30, z33, z34, z37, z38, rfl, HV, HW, HX⟩ K hK
        clear hd
        obtain ⟨cK, cV, kn, vn, xt, x2f, x2, x5, x6f, x6, x9, x10, x11, x12⟩ := HX.out
        have b12 : b 12 = false := by
            rcases Bool.eq_false_or_eq_true (b 12) with e | e
            · exact absurd (hb.symm.trans (x12 e).2.1) (by decide)
            · exact e
        have kz := (Below.refl wy.heap.size wy).alloc (Nat.le_refl _) (.cells #[.bool false, .slice none 0 0, .slice none 0 0] 24)
        have LN := alloc_rowV wy 24 [.bool false, .slice none 0 0, .slice none 0 0]
        go_simp
        have V := HV.out
        exact hK _ _ ⟨fun s => z s, _, _, _, _, _, _, rfl, Lib.hid ⟨V.1, V.2.1, V.2.2.1, V.2.2.2.1, V.2.2.2.2.1, V.2.2.2.2.2⟩, Lib.hid (HW.out.trans (kz.mono HW.out.size)), Lib.hid ⟨cK, cV, kn, vn, xt.far kz, x2f, x2, x5, x6f, x6, x9, x10, fun _ _ => ⟨_, rfl, xt.bw, fun e => by have := (World.ownsRow.lt xt.ok _ e).2; omega, fun e => by have := (World.ownsRow.lt xt.ov _ e).2; omega, LN⟩, fun e => absurd (b12.symm.trans e) (by decide)⟩⟩
      · rintro b a wy hb hd ⟨z, z7, z30, z33, z34, z37, z38, rfl, HV, HW, HX⟩ K hK
        simp [Region.binds] at hd
        have dd11 : b 11 = true := by simp [hd]
        have dd10 : b 10 = true := by simp [hd]
        clear hd
        obtain ⟨cK, cV, kn, vn, xt, x2f, x2, x5, x6f, x6, x9, x10, x11, x12⟩ := HX.out
        obtain ⟨g, zz, g1, g3, g4, g5⟩ := x11 dd11 hb
        obtain ⟨q5, q9, zz10⟩ := x10 dd10
        obtain ⟨_, ec1, ek1⟩ := x5 q5
        obtain ⟨_, ec2, ek2⟩ := x9 q9
        have o1 := own_one xt.ok
        have o2 := own_one xt.ov
        rw [ec1] at o1
        rw [ec2] at o2
        subst zz
        refine if_wanted (by rfl) (wp_store_row 24 (.tmp 7) (.tmp 38) rfl g #[.bool l, z33, z37] rfl zz10 _ _ g5 node_size rfl (ones l o1 o2) ?_)
        have V := HV.out
        exact hK _ _ ⟨fun s => z s, _, _, _, _, _, _, rfl, Lib.hid ⟨V.1, V.2.1, V.2.2.1, V.2.2.2.1, V.2.2.2.2.1, V.2.2.2.2.2⟩, Lib.hid (HW.out.trans (row_below _ g1)), Lib.hid ⟨cK, cV, kn, vn, ⟨xt.ok.same (fun q e _ => setRow_other _ _ _ _ (fun e2 => g3 (by rw [← e2]; exact e))), xt.ov.same (fun q e _ => setRow_other _ _ _ _ (fun e2 => g4 (by rw [← e2]; exact e))), xt.ne, by simpa using xt.bw⟩, x2f, x2, x5, x6f, x6, x9, x10, fun _ e => (by cases e), fun _ => ⟨dd10, dd11, g, rfl, g1, g3, g4, row_set g5⟩⟩⟩
    case doneD =>
      rintro b a w4 hb ⟨z, z7, z30, z33, z34, z37, z38, rfl, HV, HW, HX⟩
      have e0 := (HV.out.1) (hb 0)
      have e1 := (HV.out.2.1) (hb 1)
      have e3 := (HV.out.2.2.1) (hb 3)
      have e4 := (HV.out.2.2.2.1) (hb 4)
      have e7 := (HV.out.2.2.2.2.1) (hb 7)
      have e8 := (HV.out.2.2.2.2.2) (hb 8)
      simp only [e0, e1, e3, e4, e7, e8]
      clear HV e0 e1 e3 e4 e7 e8
      obtain ⟨cK, cV, kn, vn, xt, _, _, x5, _, _, x9, _, _, x12⟩ := HX.out
      obtain ⟨_, ec1, ek1⟩ := x5 (hb 5)
      obtain ⟨_, ec2, ek2⟩ := x9 (hb 9)
      subst cK
      subst cV
      subst kn
      subst vn
      obtain ⟨_, _, ri, zz, g1, _, _, g5⟩ := x12 (hb 12)
      subst zz
      obtain ⟨A1, c1, B1, d1, ez1, ez2, N4⟩ := own_nd xt.ok xt.ov
      rw [kl, HN2.out.vl] at N4
      rw [kl] at ez1
      rw [HN2.out.vl] at ez2
      subst ez1
      subst ez2
      have HB0 := Lib.hid (BB2.out.trans (HW.out.mono BB2.out.size))
      have XI := Lib.hid (row_d g5)
      have NI := Lib.hid N4
      have XN := Lib.hid (row_d (HBX2.out.below HBX2.out.lt HW.out))
      have NN := Lib.hid (HN2.out.below HW.out)
      clear xt x5 x9 x12 g1 g5 N4 HX HW hb HBX2 HN2 BB2 hmk
      obtain ⟨bs, hbs⟩ : ∃ q, q = w4.heap.size := ⟨_, rfl⟩
      have HB := Lib.hid (show Below bs w4 w4 from Below.refl _ _)
      have hb4 : w4.heap.size ≤ w4.heap.size := Nat.le_refl _
      have HBS := Lib.hid hbs
      clear hbs hb4
      have hsz4 : bs ≤ w4.heap.size := by rw [HBS.out]; exact Nat.le_refl _
      have XI4 := XI
      have NI4 := NI
      have XN4 := XN
      have NN4 := NN
      go_wp2_with (first | (refine wpList_load_d rfl (.tmp 7) rfl ri _ rfl XI.out ?_))
      refine (put_own l NI.out (Nat.le_trans hsz4 HB.out.size) k x).mono ?_
      rintro e w5 ⟨p, b1, q1, l1, k1, v1, rfl, Op, kz⟩
      replace XI := Lib.hid (XI.out.below XI.out.lt kz)
      replace NI := Lib.hid (NI.out.below kz)
      replace XN := Lib.hid (XN.out.below XN.out.lt kz)
      replace NN := Lib.hid (NN.out.below kz)
      replace HB := Lib.hid (HB.out.trans (kz.mono (Nat.le_trans hsz4 HB.out.size)))
      clear kz
      replace Op := Lib.hid Op
      go_upto_region 5 with (first | (refine wpList_store_d rfl (.tmp 8) (.tmp 44) rfl w5.heap.size bs p zeroD _ _ _ rfl rfl (box_d w5 (.bool false) (.slice none 0 0) (.slice none 0 0)) (Op.out.at ((Below.refl w5.heap.size w5).alloc (Nat.le_refl _) (.cells #[.bool false, .slice none 0 0, .slice none 0 0] 24))) ?_; intro cs HC))
      have kv := ((Below.refl w5.heap.size w5).alloc (Nat.le_refl _) (.cells #[.bool false, .slice none 0 0, .slice none 0 0] 24)).trans (row_below cs (Nat.le_refl _))
      have Xp := Lib.hid HC
      clear HC
      obtain ⟨rp, hrp⟩ : ∃ r, r = w5.heap.size := ⟨_, rfl⟩
      generalize (w5.alloc (.cells #[.bool false, .slice none 0 0, .slice none 0 0] 24)).setRow w5.heap.size cs = w6 at *
      replace XI := Lib.hid (XI.out.below XI.out.lt kv)
      replace NI := Lib.hid (NI.out.below kv)
      replace XN := Lib.hid (XN.out.below XN.out.lt kv)
      replace NN := Lib.hid (NN.out.below kv)
      replace Op := Lib.hid (Op.out.at kv)
      replace HB := Lib.hid (HB.out.trans (kv.mono (Nat.le_trans hsz4 HB.out.size)))
      rw [← hrp] at Xp ⊢
      clear kv hrp
      go_wp2_with (first | (refine wpList_load_d rfl (.tmp 7) rfl ri _ rfl XI.out ?_))
      refine (take_own l NI.out (Nat.le_trans hsz4 HB.out.size) k).mono ?_
      rintro e w7 ⟨t, b2, q2, l2, k2, v2, rfl, Ot, kz⟩
      replace XI := Lib.hid (XI.out.below XI.out.lt kz)
      replace NI := Lib.hid (NI.out.below kz)
      replace XN := Lib.hid (XN.out.below XN.out.lt kz)
      replace NN := Lib.hid (NN.out.below kz)
      replace Op := Lib.hid (Op.out.at kz)
      replace Xp := Lib.hid (Xp.out.below Xp.out.lt kz)
      replace HB := Lib.hid (HB.out.trans (kz.mono (Nat.le_trans hsz4 HB.out.size)))
      clear kz
      replace Ot := Lib.hid Ot
      go_upto_region 6 with (first | (refine wpList_store_d rfl (.tmp 11) (.tmp 51) rfl w7.heap.size bs t zeroD _ _ _ rfl rfl (box_d w7 (.bool false) (.slice none 0 0) (.slice none 0 0)) (Ot.out.at ((Below.refl w7.heap.size w7).alloc (Nat.le_refl _) (.cells #[.bool false, .slice none 0 0, .slice none 0 0] 24))) ?_; intro cs HC))
      have kv := ((Below.refl w7.heap.size w7).alloc (Nat.le_refl _) (.cells #[.bool false, .slice none 0 0, .slice none 0 0] 24)).trans (row_below cs (Nat.le_refl _))
      have Xt := Lib.hid HC
      clear HC
      obtain ⟨rt, hrt⟩ : ∃ r, r = w7.heap.size := ⟨_, rfl⟩
      generalize (w7.alloc (.cells #[.bool false, .slice none 0 0, .slice none 0 0] 24)).setRow w7.heap.size cs = w8 at *
      replace XI := Lib.hid (XI.out.below XI.out.lt kv)
      replace NI := Lib.hid (NI.out.below kv)
      replace XN := Lib.hid (XN.out.below XN.out.lt kv)
      replace NN := Lib.hid (NN.out.below kv)
      replace Op := Lib.hid (Op.out.at kv)
      replace Xp := Lib.hid (Xp.out.below Xp.out.lt kv)
      replace Ot := Lib.hid (Ot.out.at kv)
      replace HB := Lib.hid (HB.out.trans (kv.mono (Nat.le_trans hsz4 HB.out.size)))
      rw [← hrt] at Xt ⊢
      clear kv hrt
      go_wp2_with (first | (refine wpList_load_d rfl (.tmp 7) rfl ri _ rfl XI.out ?_))
      refine (split_own l NI.out (Nat.le_trans hsz4 HB.out.size)).mono ?_
      rintro e w9 ⟨a_, b_, q3, l3, k3, v3, l4, k4, v4, rfl, Oa, Ob, kz⟩
      replace XI := Lib.hid (XI.out.below XI.out.lt kz)
      replace NI := Lib.hid (NI.out.below kz)
      replace XN := Lib.hid (XN.out.below XN.out.lt kz)
      replace NN := Lib.hid (NN.out.below kz)
      replace Op := Lib.hid (Op.out.at kz)
      replace Xp := Lib.hid (Xp.out.below Xp.out.lt kz)
      replace Ot := Lib.hid (Ot.out.at kz)
      replace Xt := Lib.hid (Xt.out.below Xt.out.lt kz)
      replace HB := Lib.hid (HB.out.trans (kz.mono (Nat.le_trans hsz4 HB.out.size)))
      clear kz
      replace Oa := Lib.hid Oa
      replace Ob := Lib.hid Ob
      have X2 := Lib.hid (box_d (w9.alloc (.cells #[.bool false, .slice none 0 0, .slice none 0 0] 24)) (.bool false) (.slice none 0 0) (.slice none 0 0))
      rw [show (w9.alloc (.cells #[.bool false, .slice none 0 0, .slice none 0 0] 24)).heap.size = w9.heap.size + 1 by simp] at X2
      have qv := (Below.refl w9.heap.size w9).alloc (Nat.le_refl _) (.cells #[.bool false, .slice none 0 0, .slice none 0 0] 24)
      have Q2 := Lib.hid (qv.alloc qv.size (.cells #[.bool false, .slice none 0 0, .slice none 0 0] 24))
      clear qv
      go_upto_region 7 with (first | (refine wpList_store_d rfl (.tmp 14) (.tmp 57) rfl w9.heap.size bs a_ zeroD _ _ _ rfl rfl ((box_d w9 (.bool false) (.slice none 0 0) (.slice none 0 0)).new (.cells #[.bool false, .slice none 0 0, .slice none 0 0] 24)) (Oa.out.at Q2.out) ?_; intro cs HC) | (refine wpList_store_d rfl (.tmp 15) (.tmp 58) rfl (w9.heap.size + 1) bs b_ zeroD _ _ _ rfl rfl (X2.out.other _ (by omega)) (Ob.out.at (Q2.out.trans (row_below cs (Nat.le_refl _)))) ?_; intro cs2 HC2))
      have kv := (Q2.out.trans (row_below cs (Nat.le_refl _))).trans (row_below cs2 (show w9.heap.size ≤ w9.heap.size + 1 by omega))
      have Xa := Lib.hid (HC.other cs2 (show w9.heap.size ≠ w9.heap.size + 1 by omega))
      have Xb := Lib.hid HC2
      clear HC HC2 X2 Q2
      obtain ⟨ra, hra⟩ : ∃ r, r = w9.heap.size := ⟨_, rfl⟩
      obtain ⟨rb, hrb⟩ : ∃ r, r = w9.heap.size + 1 := ⟨_, rfl⟩
      generalize (((w9.alloc (.cells #[.bool false, .slice none 0 0, .slice none 0 0] 24)).alloc (.cells #[.bool false, .slice none 0 0, .slice none 0 0] 24)).setRow w9.heap.size cs).setRow (w9.heap.size + 1) cs2 = w10 at *
      replace XI := Lib.hid (XI.out.below XI.out.lt kv)
      replace NI := Lib.hid (NI.out.below kv)
      replace XN := Lib.hid (XN.out.below XN.out.lt kv)
      replace NN := Lib.hid (NN.out.below kv)
      replace Op := Lib.hid (Op.out.at kv)
      replace Xp := Lib.hid (Xp.out.below Xp.out.lt kv)
      replace Ot := Lib.hid (Ot.out.at kv)
      replace Xt := Lib.hid (Xt.out.below Xt.out.lt kv)
      replace Oa := Lib.hid (Oa.out.at kv)
      replace Ob := Lib.hid (Ob.out.at kv)
      replace HB := Lib.hid (HB.out.trans (kv.mono (Nat.le_trans hsz4 HB.out.size)))
      rw [← hrb, ← hra]
      rw [← hra] at Xa
      rw [← hrb] at Xb
      clear kv hra hrb
      have cI := XI.out.of.cellAt (i := 0) rfl
      have cI1 := XI.out.of.cellAt (i := 1) rfl
      have cI2 := XI.out.of.cellAt (i := 2) rfl
      go_wp2_with fail
      have q1 := (Below.refl w10.heap.size w10).alloc (Nat.le_refl _) (.cells #[.int .u64 18446744073709551615] 25)
      have q2 := q1.alloc q1.size (.cells #[.int .u64 1] 25)
      have t1 := (max_told w10).below ((Below.refl _ _).alloc (Nat.le_refl _) (.cells #[.int .u64 1] 25))
      have t2 := one_told (w10.alloc (.cells #[.int .u64 18446744073709551615] 25)) 1
      rw [show (w10.alloc (.cells #[.int .u64 18446744073709551615] 25)).heap.size = w10.heap.size + 1 by simp] at t2
      have NX := Lib.hid (show Nd ((w10.alloc (.cells #[.int .u64 18446744073709551615] 25)).alloc (.cells #[.int .u64 1] 25)) (some ⟨w10.heap.size, 0, none⟩) 1 1 (some ⟨w10.heap.size + 1, 0, none⟩) 1 1 [umax] [1] from ⟨rfl, rfl, Nat.le_refl _, by unfold maxLen; omega, Nat.le_refl _, by unfold maxLen; omega, t1, t2⟩)
      clear t1 t2 q1 cI cI1 cI2
      generalize hWg : (w10.alloc (.cells #[.int .u64 18446744073709551615] 25)).alloc (.cells #[.int .u64 1] 25) = w11 at *
      clear hWg
      replace XI := Lib.hid (XI.out.below XI.out.lt q2)
      replace NI := Lib.hid (NI.out.below q2)
      replace XN := Lib.hid (XN.out.below XN.out.lt q2)
      replace NN := Lib.hid (NN.out.below q2)
      replace Op := Lib.hid (Op.out.at q2)
      replace Xp := Lib.hid (Xp.out.below Xp.out.lt q2)
      replace Ot := Lib.hid (Ot.out.at q2)
      replace Xt := Lib.hid (Xt.out.below Xt.out.lt q2)
      replace Oa := Lib.hid (Oa.out.at q2)
      replace Ob := Lib.hid (Ob.out.at q2)
      replace Xa := Lib.hid (Xa.out.below Xa.out.lt q2)
      replace Xb := Lib.hid (Xb.out.below Xb.out.lt q2)
      replace HB := Lib.hid (HB.out.trans (q2.mono (Nat.le_trans hsz4 HB.out.size)))
      clear q2
      refine (join_own l l NI.out NX.out (Nat.le_trans hsz4 HB.out.size)).mono ?_
      rintro e w12 ⟨jl, q4, kj, rfl, Lj, hkj, kz⟩
      replace XI := Lib.hid (XI.out.below XI.out.lt kz)
      replace NI := Lib.hid (NI.out.below kz)
      replace XN := Lib.hid (XN.out.below XN.out.lt kz)
      replace NN := Lib.hid (NN.out.below kz)
      replace Op := Lib.hid (Op.out.at kz)
      replace Xp := Lib.hid (Xp.out.below Xp.out.lt kz)
      replace Ot := Lib.hid (Ot.out.at kz)
      replace Xt := Lib.hid (Xt.out.below Xt.out.lt kz)
      replace Oa := Lib.hid (Oa.out.at kz)
      replace Ob := Lib.hid (Ob.out.at kz)
      replace Xa := Lib.hid (Xa.out.below Xa.out.lt kz)
      replace Xb := Lib.hid (Xb.out.below Xb.out.lt kz)
      replace HB := Lib.hid (HB.out.trans (kz.mono (Nat.le_trans hsz4 HB.out.size)))
      clear kz
      replace Lj := Lib.hid Lj
      clear NX
      go_wp2_with (first | (refine wpList_load_d rfl (.tmp 7) rfl ri _ rfl XI.out ?_))
      refine (cut_own l NI.out (Nat.le_trans hsz4 HB.out.size) k x).mono ?_
      rintro e w13 ⟨cc, gg, q5, l5, k5, v5, ns, rfl, Oc, Og, kz⟩
      replace XI := Lib.hid (XI.out.below XI.out.lt kz)
      replace NI := Lib.hid (NI.out.below kz)
      replace XN := Lib.hid (XN.out.below XN.out.lt kz)
      replace NN := Lib.hid (NN.out.below kz)
      replace Op := Lib.hid (Op.out.at kz)
      replace Xp := Lib.hid (Xp.out.below Xp.out.lt kz)
      replace Ot := Lib.hid (Ot.out.at kz)
      replace Xt := Lib.hid (Xt.out.below Xt.out.lt kz)
      replace Oa := Lib.hid (Oa.out.at kz)
      replace Ob := Lib.hid (Ob.out.at kz)
      replace Xa := Lib.hid (Xa.out.below Xa.out.lt kz)
      replace Xb := Lib.hid (Xb.out.below Xb.out.lt kz)
      replace Lj := Lib.hid (Lj.out.shape (Shape.of (Nat.le_trans hsz4 HB.out.size) kz))
      replace HB := Lib.hid (HB.out.trans (kz.mono (Nat.le_trans hsz4 HB.out.size)))
      clear kz
      replace Oc := Lib.hid Oc
      replace Og := Lib.hid Og
      go_upto_region 9 with (first | (refine wpList_store_d rfl (.tmp 19) (.tmp 75) rfl w13.heap.size bs cc zeroD _ _ _ rfl rfl (box_d w13 (.bool false) (.slice none 0 0) (.slice none 0 0)) (Oc.out.at ((Below.refl w13.heap.size w13).alloc (Nat.le_refl _) (.cells #[.bool false, .slice none 0 0, .slice none 0 0] 24))) ?_; intro cs HC))
      have kv := ((Below.refl w13.heap.size w13).alloc (Nat.le_refl _) (.cells #[.bool false, .slice none 0 0, .slice none 0 0] 24)).trans (row_below cs (Nat.le_refl _))
      have Xcc := Lib.hid HC
      clear HC
      obtain ⟨rcc, hrcc⟩ : ∃ r, r = w13.heap.size := ⟨_, rfl⟩
      generalize (w13.alloc (.cells #[.bool false, .slice none 0 0, .slice none 0 0] 24)).setRow w13.heap.size cs = w14 at *
      replace XI := Lib.hid (XI.out.below XI.out.lt kv)
      replace NI := Lib.hid (NI.out.below kv)
      replace XN := Lib.hid (XN.out.below XN.out.lt kv)
      replace NN := Lib.hid (NN.out.below kv)
      replace Op := Lib.hid (Op.out.at kv)
      replace Xp := Lib.hid (Xp.out.below Xp.out.lt kv)
      replace Ot := Lib.hid (Ot.out.at kv)
      replace Xt := Lib.hid (Xt.out.below Xt.out.lt kv)
      replace Oa := Lib.hid (Oa.out.at kv)
      replace Ob := Lib.hid (Ob.out.at kv)
      replace Xa := Lib.hid (Xa.out.below Xa.out.lt kv)
      replace Xb := Lib.hid (Xb.out.below Xb.out.lt kv)
      replace Lj := Lib.hid (Lj.out.shape (Shape.of (Nat.le_trans hsz4 HB.out.size) kv))
      replace Oc := Lib.hid (Oc.out.at kv)
      replace Og := Lib.hid (own_at Og.out kv)
      replace HB := Lib.hid (HB.out.trans (kv.mono (Nat.le_trans hsz4 HB.out.size)))
      rw [← hrcc] at Xcc ⊢
      clear kv hrcc
      go_wp2_with fail
      refine (over_any (OwnN_room Og.out)).mono ?_
      rintro e w15 ⟨rfl, sh⟩
      replace Xp := Lib.hid (Xp.out.shape sh)
      replace Xt := Lib.hid (Xt.out.shape sh)
      replace Xa := Lib.hid (Xa.out.shape sh)
      replace Xb := Lib.hid (Xb.out.shape sh)
      replace Xcc := Lib.hid (Xcc.out.shape sh)
      have Rp := Lib.hid (Op.out.roomy.shape sh)
      have Rt := Lib.hid (Ot.out.roomy.shape sh)
      have Ra := Lib.hid (Oa.out.roomy.shape sh)
      have Rb := Lib.hid (Ob.out.roomy.shape sh)
      have Rc := Lib.hid (Oc.out.roomy.shape sh)
      replace Lj := Lib.hid (Lj.out.shape sh)
      replace HB := Lib.hid (HB.out.trans sh.below)
      clear Op Ot Oa Ob Oc Og XI NI XN NN sh
      obtain ⟨l1', A1', n1', c1', B1', m1', d1', ev, _, _⟩ := Rp.out
      subst ev
      obtain ⟨l2', A2', n2', c2', B2', m2', d2', ev, _, _⟩ := Rt.out
      subst ev
      obtain ⟨l3', A3', n3', c3', B3', m3', d3', ev, _, _⟩ := Ra.out
      subst ev
      obtain ⟨l4', A4', n4', c4', B4', m4', d4', ev, _, _⟩ := Rb.out
      subst ev
      obtain ⟨l5', A5', n5', c5', B5', m5', d5', ev, _, _⟩ := Rc.out
      subst ev
      have hsz9 : bs ≤ w15.heap.size := Nat.le_trans hsz4 HB.out.size
      have q1 := (Below.refl w15.heap.size w15).alloc (Nat.le_refl _) (.cells #[.bool l1', .slice A1' n1' c1', .slice B1' m1' d1', .bool l2', .slice A2' n2' c2', .slice B2' m2' d2', .bool l3', .slice A3' n3' c3', .slice B3' m3' d3', .bool l4', .slice A4' n4' c4', .slice B4' m4' d4', .bool l5', .slice A5' n5' c5', .slice B5' m5' d5'] 24)
      have sf := Shape.of hsz9 q1
      have own5 := World.ownsRow_lit (base := bs) (size := 3) (e := 24) w15 #[.bool l1', .slice A1' n1' c1', .slice B1' m1' d1', .bool l2', .slice A2' n2' c2', .slice B2' m2' d2', .bool l3', .slice A3' n3' c3', .slice B3' m3' d3', .bool l4', .slice A4' n4' c4', .slice B4' m4' d4', .bool l5', .slice A5' n5' c5', .slice B5' m5' d5'] 5 hsz9 (by unfold maxLen; omega) rfl
      have hu5 : ∀ u ∈ ([(l1', .slice A1' n1' c1', .slice B1' m1' d1'), (l2', .slice A2' n2' c2', .slice B2' m2' d2'), (l3', .slice A3' n3' c3', .slice B3' m3' d3'), (l4', .slice A4' n4' c4', .slice B4' m4' d4'), (l5', .slice A5' n5' c5', .slice B5' m5' d5')] : List (Bool × Value × Value)), NodeR (w15.alloc (.cells #[.bool l1', .slice A1' n1' c1', .slice B1' m1' d1', .bool l2', .slice A2' n2' c2', .slice B2' m2' d2', .bool l3', .slice A3' n3' c3', .slice B3' m3' d3', .bool l4', .slice A4' n4' c4', .slice B4' m4' d4', .bool l5', .slice A5' n5' c5', .slice B5' m5' d5'] 24)) bs (.agg #[.bool u.1, u.2.1, u.2.2]) := by
        intro u hu
        simp only [List.mem_cons, List.not_mem_nil, or_false] at hu
        rcases hu with rfl | rfl | rfl | rfl | rfl
        · exact Rp.out.shape sf
        · exact Rt.out.shape sf
        · exact Ra.out.shape sf
        · exact Rb.out.shape sf
        · exact Rc.out.shape sf
      obtain ⟨vq, wq, us, hrun, own9, hul, hur, sq⟩ := run_append_nodes (n := 5) (us := [(l1', .slice A1' n1' c1', .slice B1' m1' d1'), (l2', .slice A2' n2' c2', .slice B2' m2' d2'), (l3', .slice A3' n3' c3', .slice B3' m3' d3'), (l4', .slice A4' n4' c4', .slice B4' m4' d4'), (l5', .slice A5' n5' c5', .slice B5' m5' d5')]) 38 rfl own5 hu5 (Lj.out.shape sf) (by simp; omega) (by omega)
      have HUR := Lib.hid hur
      have HOWN := Lib.hid own9
      have HUL := Lib.hid hul
      have HB9 := Lib.hid (HB.out.trans ((q1.mono hsz9).trans sq.below))
      obtain ⟨gq, capq, eq_, _, _⟩ := own9.form (by omega)
      subst eq_
      have HROW := Lib.hid (show ∃ cur, RowV wq gq 24 cur ∧ cur.take ((5 + kj) * 3) = rowOf us by
        rcases own9.2 with ⟨h, _⟩ | ⟨g, cap, cur, e, _, hg, _, _, _, ht⟩
        · cases h
        · simp only [Value.slice.injEq, Option.some.injEq, Addr.mk.injEq, and_true, true_and] at e
          obtain ⟨rfl, rfl⟩ := e
          exact ⟨cur.toList, by unfold RowV; rw [Array.toArray_toList]; exact hg, ht⟩)
      clear hur own9 hul q1 sf own5 hu5 sq hsz9 Rp Rt Ra Rb Rc HB Lj
      go_wp2_with (first | (refine wpList_load_d rfl (.tmp 8) rfl rp _ rfl Xp.out ?_) | (refine wpList_load_d rfl (.tmp 11) rfl rt _ rfl Xt.out ?_) | (refine wpList_load_d rfl (.tmp 14) rfl ra _ rfl Xa.out ?_) | (refine wpList_load_d rfl (.tmp 15) rfl rb _ rfl Xb.out ?_) | (refine wpList_load_d rfl (.tmp 19) rfl rcc _ rfl Xcc.out ?_) | (at_builtin; refine Lib.wpList_append_run _ rfl _ _ _ _ rfl _ _ rfl rfl _ _ hrun ?_))
      clear hrun Xp Xt Xa Xb Xcc
      obtain ⟨wS, hwS⟩ : ∃ x, x = wq := ⟨_, rfl⟩
      subst hwS
      obtain ⟨N, hN⟩ : ∃ q, q = 5 + kj := ⟨_, rfl⟩
      rw [← hN] at HOWN HUL HROW
      have hNi : (5 : Int) + (kj : Int) = (N : Int) := by omega
      have hN9 : N ≤ 7 := by omega
      try rw [hNi]
      try rw [← hN]
      clear hN hNi
      go_loopw [89] (fun i wr => ∃ q : Nat, q ≤ N ∧ i = .int .i64 (q : Int) ∧ Hid (Shape bs wS wr)) (fun i _ => N - (intOf i).toNat)
      case atStart => exact ⟨0, Nat.zero_le _, rfl, Lib.hid (Shape.refl _ _)⟩
      case round =>
        obtain ⟨q, hq, rfl, HS⟩ := hrel
        by_cases hlt : q < N
        · have hql : q < us.length := by rw [HUL.out]; exact hlt
          obtain ⟨lq, Aq, nq, cq, Bq, mq, dq, eq_, Rk, Rv⟩ := (HUR.out _ (List.getElem_mem hql)).shape HS.out
          simp only [Value.agg.injEq, Array.mk.injEq, List.cons.injEq, and_true] at eq_
          obtain ⟨f0, f1, f2⟩ := eq_
          obtain ⟨cur, hrow, ht⟩ := HROW.out
          obtain ⟨r0, r1, r2⟩ := rowOf_at us q hql
          rw [f0] at r0
          rw [f1] at r1
          rw [f2] at r2
          rw [← ht] at r0 r1 r2
          rw [List.getElem?_take_of_lt (by omega)] at r0 r1 r2
          have hrow' := RowVshape hrow HS.out
          have k0 := hrow'.cellAt r0
          have k1 := hrow'.cellAt r1
          have k2 := hrow'.cellAt r2
          rw [Nat.mul_comm 3 q] at k0 k1 k2
          have HRk := Lib.hid Rk
          have HRv := Lib.hid Rv
          have hsw : bs ≤ wr.heap.size := Nat.le_trans hsz4 (Nat.le_trans HB9.out.size HS.out.below.size)
          have qz := (Below.refl wr.heap.size wr).alloc (Nat.le_refl _) (.cells #[.bool false, .slice none 0 0, .slice none 0 0] 24)
          have zr := alloc_rowV wr 24 [.bool false, .slice none 0 0, .slice none 0 0]
          have HZR := Lib.hid zr
          have HQZ := Lib.hid qz
          clear f0 f1 f2 hrow ht r0 r1 r2 hrow' Rk Rv qz zr
          go_wp2_with (first | (refine wpList_store_row rfl 24 (.tmp 23) (.tmp 92) rfl wr.heap.size #[.bool lq, .slice Aq nq cq, .slice Bq mq dq] rfl rfl _ _ HZR.out node_size rfl (ones lq rfl rfl) ?_; have hR := row_set (us := [.bool lq, .slice Aq nq cq, .slice Bq mq dq]) HZR.out; have hc1 := hR.cellAt (i := 1) rfl))
          have SZ := Shape.of hsw (HQZ.out.trans (row_below #[.bool lq, .slice Aq nq cq, .slice Bq mq dq] (Nat.le_refl _)))
          refine (over_any (HRk.out.shape SZ)).mono ?_
          rintro e wx ⟨rfl, s1⟩
          have hc2 := (RowVshape hR s1).cellAt (i := 2) rfl
          have S1 := Lib.hid (SZ.trans s1)
          have HRv2 := Lib.hid ((HRv.out.shape SZ).shape s1)
          clear hc1 hR s1 SZ k0 k1 k2
          go_wp2_with fail
          refine (over_any HRv2.out).mono ?_
          rintro e wy ⟨rfl, s2⟩
          have S2 := Lib.hid (HS.out.trans (S1.out.trans s2))
          clear s2 hc2
          go_wp2_with fail
          go_roundw
          case rel => exact ⟨q + 1, by omega, by go_num, S2⟩
          case measure => simp [intOf]; omega
        · have HS9 := Lib.hid (HB9.out.trans HS.out.below)
          obtain rfl : q = N := by omega
          have k9 := HS9.out
          have XI9 := XI4.out.below XI4.out.lt (by rw [← HBS.out]; exact k9)
          have XN9 := XN4.out.below XN4.out.lt (by rw [← HBS.out]; exact k9)
          have NI9 := NI4.out.below (by rw [← HBS.out]; exact k9)
          have NN9 := NN4.out.below (by rw [← HBS.out]; exact k9)
          go_wp2_with (first | (refine wpList_load_d rfl (.tmp 7) rfl ri _ rfl XI9 ?_) | (refine wpList_load_d rfl (.tmp 3) rfl w.heap.size _ rfl XN9 ?_))
          refine (same_any l l NI9 NN9).mono ?_
          rintro e w90 ⟨rfl, k90⟩
          rw [decide_eq_true (show l = l ∧ ks = ks ∧ vs = vs from ⟨rfl, rfl, rfl⟩)]
          go_wp2_with fail
          refine (HAW.out _).mono ?_
          rintro e w91 ⟨rfl, k91⟩
          go_wp2_with fail
          go_ret
          have hs9 : bs ≤ wr.heap.size := Nat.le_trans hsz4 HS9.out.size
          exact ⟨rfl, HB0.out.trans ((HS9.out.trans ((k90.trans (k91.mono k90.size)).mono hs9)).mono (by rw [HBS.out]; exact HB0.out.size))⟩
  · rw [decide_eq_false hok]
    go_wp2_with fail
    refine (HAW.out _).mono ?_
    rintro e w3 ⟨rfl, k3⟩
    go_wp2_with fail
    go_ret
    exact ⟨rfl, BB2.out.trans (k3.mono BB2.out.size)⟩

end Go.Proofs.Ytllopocekegljaa.No
