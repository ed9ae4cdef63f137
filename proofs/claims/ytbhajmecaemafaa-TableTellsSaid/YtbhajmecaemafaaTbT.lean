/- TableTells: its walk. (Written by bin/gen_tbtells.py.) -/
import Derived.Test.YtbhajmecaemafaaTbQ
import Derived.Test.YtbhajmecaemafaaInv2
namespace Go.Proofs.Ytbhajmecaemafaa.Tb
open Go.RowKit Go.Proofs.Ytbhajmecaemafaa.Oct
set_option linter.unusedVariables false

theorem if_wanted {c : Bool} {A B : Prop} (h : c = true) (a : A) : if c = true then A else B := by rw [if_pos h]; exact a
theorem wp_append_run {P : Program} {w : World} {o : Oper} {a : Act} {K : Act → World → Prop} {Q : Exit → Act → World → Prop} (s x : Operand) (t : TypeId)
    (ho : o.op = .call { callee := .builtin .append, args := #[s, x], argTypes := #[t, t] }) (v1 v2 : Value) (hs : a.eval s = v1) (hx : a.eval x = v2) (v' : Value) (w' : World)
    (hrun : (Builtin.append_ #[t, t] o.type #[v1, v2]).run P w = .ok v' w') (h : K (a.put o.dst v') w') : o.wp P a w K Q := by
  unfold Oper.wp
  simp [execOp, ho, resolve, invoke, builtin, hs, hx, hrun, Result.andThen]
  exact h
theorem neq_some (x : Addr) (w : World) : (binOp .neq 30 (.pointer (some x)) (.pointer none)).run Try.prog w = .ok (.bool true) w := by
  have h : ∀ d : Nat, (Op.equalIn (d + 1) 30 (.pointer (some x)) (.pointer none)).run Try.prog w = .ok false w := fun d => by
    simp [Op.equalIn, run_underlying Try.underlying30]
  simp only [binOp]
  simp [Op.equal, Op.maxDepth, h 9999]
theorem neq_nil (w : World) : (binOp .neq 30 (.pointer none) (.pointer none)).run Try.prog w = .ok (.bool false) w := by
  have h : ∀ d : Nat, (Op.equalIn (d + 1) 30 (.pointer none) (.pointer none)).run Try.prog w = .ok true w := fun d => by
    simp [Op.equalIn, run_underlying Try.underlying30]
  simp only [binOp]
  simp [Op.equal, Op.maxDepth, h 9999]
theorem beyond_bool {w : World} {lo : Nat} {tp : Option Addr} {ps : List Pr} {rest : UInt64} (h : Beyond w lo tp ps rest) (k : Int) (hk : newErr ps = k) :
    ∃ u, (∀ w : World, (binOp .neq 30 (.pointer tp) (.pointer none)).run Try.prog w = .ok (.bool u) w) ∧ (k == 0) = u ∧ (u != u) = false := by
  subst hk
  by_cases e : newErr ps = 0
  · obtain ⟨a, b, rfl, _⟩ := h.1 e
    exact ⟨true, fun w => neq_some _ w, by rw [e]; rfl, rfl⟩
  · rw [h.2 e]
    exact ⟨false, fun w => neq_nil w, beq_eq_false_iff_ne.2 e, rfl⟩
theorem succ64 (x : UInt64) : IntKind.u64.wrap ((x.toNat : Int) + 1) = ((x + 1).toNat : Int) := by
  rw [show IntKind.u64.wrap ((x.toNat : Int) + 1) = (((x.toNat + 1) % 18446744073709551616 : Nat) : Int) from by go_num, UInt64.toNat_add]
  rfl
set_option maxRecDepth 100000 in
set_option maxHeartbeats 8000000 in
theorem tells_walk (A : Option Addr) (n c : Nat) (l : List Pair) (a1 : Int) (A2 : Option Addr) (n2 c2 : Nat) (l2 : List Part) (w : World) (hp : PIn w A n c l) (w1 : (Lit.int .u64 a1).wf = true) (hb : BIn w A2 n2 c2 l2) :
    Calls Try.prog 3 #[.slice A n c, .int .u64 a1, .slice A2 n2 c2] w fun e w' => e = .returned (.bool true) ∧ Below w.heap.size w w' := by
  obtain ⟨rest, rfl⟩ := u64_of w1
  have HP0 := Lib.hid hp
  have HO0 := Lib.hid hb
  have HB := Lib.hid (Below.refl w.heap.size w)
  have HL := Lib.hid hp.el
  have HA := Lib.hid (show ∀ w2 : World, Below w.heap.size w w2 → Calls Try.prog 8 #[] w2 fun e w' => e = .returned (.bool true) ∧ Below w.heap.size w w' from fun w2 k => (awake_any w2).mono fun e w' ⟨h1, h2⟩ => ⟨h1, k.trans (h2.mono k.size)⟩)
  clear w1 hb hp
  go_enter Try.func3, Try.ntmps3
  by_cases h60 : 60 < n
  · have h60i : (60 : Int) < (n : Int) := by omega
    go_wp2_with fail
    refine (HA.out _ HB.out).mono ?_
    rintro e wl ⟨rfl, kl⟩
    go_wp2_with fail
    go_ret
    exact ⟨rfl, kl⟩
  have h60i : ¬ ((60 : Int) < (n : Int)) := by omega
  by_cases h20 : 20 < n2
  · have h20i : (20 : Int) < (n2 : Int) := by omega
    go_wp2_with fail
    refine (HA.out _ HB.out).mono ?_
    rintro e wl ⟨rfl, kl⟩
    go_wp2_with fail
    go_ret
    exact ⟨rfl, kl⟩
  have h20i : ¬ ((20 : Int) < (n2 : Int)) := by omega
  go_wp2_with fail
  go_loopw [7, 33] (fun v i wr => ∃ k : Nat, k ≤ n ∧ i = .int .i64 (k : Int) ∧ Hid (∃ m, InL wr w.heap.size v m (l.take k)) ∧ Hid (Below w.heap.size w wr)) (fun _ i _ => n - (intOf i).toNat)
  case atStart => exact ⟨0, Nat.zero_le _, rfl, Lib.hid ⟨[], InL.nil w w.heap.size l⟩, HB⟩
  case round =>
    obtain ⟨k, hk, rfl, HW, HBq⟩ := hrel
    clear HB
    have HB := HBq
    clear HBq
    obtain ⟨m, IN⟩ := HW.out
    have HIN := Lib.hid IN
    clear HW IN
    by_cases hlt : k < n
    case pos =>
      have hki : (k : Int) < (n : Int) := by omega
      have hkl : k < l.length := by rw [HL.out]; exact hlt
      have HPr := Lib.hid (HP0.out.kept HB.out)
      obtain ⟨pb, po, hA, hpb, c1, c2'⟩ := HPr.out.at hlt
      subst hA
      have HOK := Lib.hid (HPr.out.ok l[k] (List.getElem_mem hkl))
      have HTK := Lib.hid (show l.take (k + 1) = l.take k ++ [l[k]] by rw [List.take_add_one, List.getElem?_eq_getElem hkl]; rfl)
      generalize l[k] = p at c1 c2' HOK HTK
      obtain ⟨pA, pn, pc, pbs, ppr⟩ := p
      simp only at c1 c2'
      go_upto_region 7 with (fail)
      have kk := (Below.refl wr.heap.size wr).alloc (Nat.le_refl _) (.cells #[.slice pA pn pc, .int .u64 (ppr.toNat : Int)] 28)
      have P1 := alloc_rowV wr 28 [.slice pA pn pc, .int .u64 (ppr.toNat : Int)]
      change RowV (wr.alloc (.cells #[.slice pA pn pc, .int .u64 (ppr.toNat : Int)] 28)) _ _ _ at P1
      have HOK1 := Lib.hid (HOK.out.below kk)
      have HIN1 := Lib.hid (HIN.out.kept kk)
      replace HB := Lib.hid (HB.out.trans (kk.mono HB.out.size))
      have HML := Lib.hid (show m.length ≤ 1000 by have := HIN.out.len; rw [List.length_take] at this; omega)
      clear HOK kk c1 c2' hpb HPr HIN
      generalize wr.alloc (.cells #[.slice pA pn pc, .int .u64 (ppr.toNat : Int)] 28) = v1 at *
      generalize wr.heap.size = pv at *
      have d0 := P1.cellAt (i := 0) rfl
      have d1 := P1.cellAt (i := 1) rfl
      have HPV := Lib.hid P1.lt
      clear P1
      refine Inv2.wp_region_inv (fun b a wy => ∃ z7 z37 z38 z39 z40 z41 z42 z43 z44 z45, a = ⟨(List.toArray (Value.slice (some { block := pb, off := po }) n c :: Value.int IntKind.u64 ↑rest.toNat :: Value.slice A2 n2 c2 :: undef :: undef :: undef :: Value.bool false :: z7 :: undef :: Value.pointer (some { block := pv, off := 0 }) :: undef :: undef :: undef :: undef :: undef :: undef :: undef :: undef :: undef :: undef :: undef :: undef :: Value.slice (some { block := pb, off := po }) n c :: Value.int IntKind.i64 ↑n :: Value.bool false :: Value.bool false :: Value.slice A2 n2 c2 :: Value.int IntKind.i64 ↑n2 :: Value.bool false :: Value.bool false :: undef :: Value.slice (some { block := pb, off := po }) n c :: Value.int IntKind.i64 ↑n :: Value.int IntKind.i64 ↑k :: Value.bool true :: Value.pointer (some { block := pb, off := po + k * 2 }) :: Value.agg #[Value.slice pA pn pc, Value.int IntKind.u64 ↑ppr.toNat] :: z37 :: z38 :: z39 :: z40 :: z41 :: z42 :: z43 :: z44 :: z45 :: u46 :: undef :: undef :: undef :: undef :: undef :: undef :: undef :: undef :: undef :: undef :: undef :: undef :: undef :: undef :: undef :: undef :: undef :: undef :: undef :: undef :: undef :: undef :: undef :: undef :: undef :: undef :: undef :: undef :: undef :: undef :: undef :: undef :: undef :: undef :: undef :: undef :: undef :: undef :: undef :: undef :: undef :: undef :: undef :: undef :: undef :: undef :: undef :: undef :: undef :: undef :: undef :: undef :: undef :: undef :: undef :: undef :: undef :: undef :: undef :: undef :: undef :: undef :: undef :: undef :: undef :: undef :: undef :: undef :: undef :: undef :: undef :: undef :: undef :: undef :: undef :: undef :: undef :: undef :: undef :: undef :: undef :: undef :: undef :: undef :: undef :: undef :: undef :: undef :: undef :: undef :: undef :: undef :: undef :: undef :: undef :: undef :: undef :: undef :: undef :: undef :: undef :: undef :: undef :: undef :: undef :: undef :: undef :: undef :: undef :: undef :: undef :: undef :: undef :: undef :: undef :: undef :: undef :: undef :: undef :: undef :: undef :: undef :: undef :: undef :: undef :: undef :: undef :: undef :: undef :: undef :: undef :: undef :: [])), []⟩ ∧ Hid ((b 0 = true → z37 = u7) ∧ (b 1 = true → z38 = .pointer (some ⟨pv, 0, none⟩)) ∧ (b 2 = true → z39 = .slice pA pn pc) ∧ (b 4 = true → z41 = .pointer (some ⟨pv, 1, none⟩)) ∧ (b 5 = true → z42 = .int .u64 (ppr.toNat : Int))) ∧ Hid (Below w.heap.size w wy) ∧ Hid ((b 8 = false → Below v1.heap.size v1 wy) ∧ (b 3 = true → b 8 = false → ∃ g c, z40 = .slice (some ⟨g, 0, none⟩) pn c ∧ Room wy g pbs ∧ v1.heap.size ≤ g) ∧ (b 6 = true → z43 = .agg #[z40, .int .u64 (ppr.toNat : Int)]) ∧ (b 7 = true → b 8 = false → ∃ q, z44 = .slice (some ⟨q, 0, none⟩) 1 1 ∧ RowV wy q 28 [z40, .int .u64 (ppr.toNat : Int)]) ∧ (b 8 = true → ∃ m, InL wy w.heap.size z45 m (l.take (k + 1))) ∧ (b 9 = true → b 8 = true ∧ z7 = z45) ∧ (b 3 = true → b 2 = true) ∧ (b 6 = true → b 3 = true ∧ b 5 = true) ∧ (b 7 = true → b 6 = true) ∧ (b 8 = true → b 7 = true ∧ b 0 = true) ∧ (b 9 = false → z7 = u7))) (by kernel_rfl) (by kernel_rfl) ?startT7 ?stepsT7 ?doneT7
      case startT7 =>
        intro b hb
        refine ⟨u7, u37, u38, u39, u40, u41, u42, u43, u44, u45, rfl, Lib.hid ⟨?_, ?_, ?_, ?_, ?_⟩, Lib.hid (HB.out.trans <| (show Still v1 v1.drew from ⟨rfl, rfl, rfl, rfl⟩).below _), Lib.hid (⟨fun _ => (show Still v1 v1.drew from ⟨rfl, rfl, rfl, rfl⟩).below _, fun e _ => (by rw [hb _ (by decide)] at e; cases e), fun e => (by rw [hb _ (by decide)] at e; cases e), fun e _ => (by rw [hb _ (by decide)] at e; cases e), fun e => (by rw [hb _ (by decide)] at e; cases e), fun e => (by rw [hb _ (by decide)] at e; cases e), fun e => (by rw [hb _ (by decide)] at e; cases e), fun e => (by rw [hb _ (by decide)] at e; cases e), fun e => (by rw [hb _ (by decide)] at e; cases e), fun e => (by rw [hb _ (by decide)] at e; cases e), fun _ => rfl⟩)⟩
        all_goals (intro e; first | rfl | (rw [hb _ (by decide)] at e; cases e))
      case stepsT7 =>
        refine ⟨?_, ?_, ?_, ?_, ?_, ?_, ?_, ?_, ?_, ?_, trivial⟩
        · rintro b a wy hb hd ⟨z7, z37, z38, z39, z40, z41, z42, z43, z44, z45, rfl, HV, HW, HX⟩ K hK
          obtain ⟨h0, h1, h2, h4, h5⟩ := HV.out
          clear hd
          obtain ⟨x0, x3, x6, x7, x8, x9, o3, o6, o7, o8, x10⟩ := HX.out
          have n9 : b 9 = false := by cases e9 : b 9 with | false => rfl | true => (have q := (o8 (x9 e9).1).2; rw [hb] at q; cases q)
          obtain rfl := x10 n9
          go_simp
          exact hK _ _ ⟨_, _, _, _, _, _, _, _, _, _, rfl, Lib.hid ⟨fun _ => rfl, h1, h2, h4, h5⟩, HW, Lib.hid ⟨x0, x3, x6, x7, x8, x9, o3, o6, o7, fun e => ⟨(o8 e).1, rfl⟩, x10⟩⟩
        · rintro b a wy hb hd ⟨z7, z37, z38, z39, z40, z41, z42, z43, z44, z45, rfl, HV, HW, HX⟩ K hK
          obtain ⟨h0, h1, h2, h4, h5⟩ := HV.out
          clear hd
          go_simp
          exact hK _ _ ⟨_, _, _, _, _, _, _, _, _, _, rfl, Lib.hid ⟨h0, fun _ => rfl, h2, h4, h5⟩, HW, HX⟩
        · rintro b a wy hb hd ⟨z7, z37, z38, z39, z40, z41, z42, z43, z44, z45, rfl, HV, HW, HX⟩ K hK
          obtain ⟨h0, h1, h2, h4, h5⟩ := HV.out
          simp [Region.binds] at hd
          obtain rfl := h1 (by simp [hd])
          clear hd
          obtain ⟨x0, x3, x6, x7, x8, x9, o3, o6, o7, o8, x10⟩ := HX.out
          have n8 : b 8 = false := by cases e8 : b 8 with | false => rfl | true => (have q := o3 (o6 (o7 (o8 e8).1)).1; rw [hb] at q; cases q)
          have d0' := ((x0 n8).cell (p := ⟨pv, 0, none⟩) HPV.out).trans d0
          go_simp
          exact hK _ _ ⟨_, _, _, _, _, _, _, _, _, _, rfl, Lib.hid ⟨h0, h1, fun _ => rfl, h4, h5⟩, HW, Lib.hid ⟨x0, x3, x6, x7, x8, x9, fun _ => rfl, o6, o7, o8, x10⟩⟩
        · rintro b a wy hb hd ⟨z7, z37, z38, z39, z40, z41, z42, z43, z44, z45, rfl, HV, HW, HX⟩ K hK
          obtain ⟨h0, h1, h2, h4, h5⟩ := HV.out
          simp [Region.binds] at hd
          obtain rfl := h2 (by simp [hd])
          have e2 : b 2 = true := by simp [hd]
          clear hd
          obtain ⟨x0, x3, x6, x7, x8, x9, o3, o6, o7, o8, x10⟩ := HX.out
          have n8 : b 8 = false := by cases e8 : b 8 with | false => rfl | true => (have q := (o6 (o7 (o8 e8).1)).1; rw [hb] at q; cases q)
          go_simp
          go_at_call 9
          refine (again_room pA pn pc pbs HOK1.out.len _ HOK1.out.le (HOK1.out.below (x0 n8)).told).mono ?_
          rintro e wz ⟨g, cg, rfl, hR, hg, kz⟩
          try go_simp
          exact hK _ _ ⟨_, _, _, _, _, _, _, _, _, _, rfl, Lib.hid ⟨h0, h1, h2, h4, h5⟩, Lib.hid (HW.out.trans (kz.mono HW.out.size)), Lib.hid ⟨fun _ => (x0 n8).trans (kz.mono (x0 n8).size), fun _ _ => ⟨g, cg, rfl, hR, Nat.le_trans (x0 n8).size hg⟩, fun e => (by have q := (o6 e).1; rw [hb] at q; cases q), fun e _ => (by have q := (o6 (o7 e)).1; rw [hb] at q; cases q), fun e => (by have e' : b 8 = true := e; rw [n8] at e'; cases e'), x9, fun _ => e2, fun e => ⟨rfl, (o6 e).2⟩, o7, o8, x10⟩⟩
        · rintro b a wy hb hd ⟨z7, z37, z38, z39, z40, z41, z42, z43, z44, z45, rfl, HV, HW, HX⟩ K hK
          obtain ⟨h0, h1, h2, h4, h5⟩ := HV.out
          clear hd
          go_simp
          exact hK _ _ ⟨_, _, _, _, _, _, _, _, _, _, rfl, Lib.hid ⟨h0, h1, h2, fun _ => rfl, h5⟩, HW, HX⟩
        · rintro b a wy hb hd ⟨z7, z37, z38, z39, z40, z41, z42, z43, z44, z45, rfl, HV, HW, HX⟩ K hK
          obtain ⟨h0, h1, h2, h4, h5⟩ := HV.out
          simp [Region.binds] at hd
          obtain rfl := h4 (by simp [hd])
          clear hd
          obtain ⟨x0, x3, x6, x7, x8, x9, o3, o6, o7, o8, x10⟩ := HX.out
          have n8 : b 8 = false := by cases e8 : b 8 with | false => rfl | true => (have q := (o6 (o7 (o8 e8).1)).2; rw [hb] at q; cases q)
          have d1' := ((x0 n8).cell (p := ⟨pv, 1, none⟩) HPV.out).trans d1
          go_simp
          exact hK _ _ ⟨_, _, _, _, _, _, _, _, _, _, rfl, Lib.hid ⟨h0, h1, h2, h4, fun _ => rfl⟩, HW, Lib.hid ⟨x0, x3, x6, x7, x8, x9, o3, fun e => ⟨(o6 e).1, rfl⟩, o7, o8, x10⟩⟩
        · rintro b a wy hb hd ⟨z7, z37, z38, z39, z40, z41, z42, z43, z44, z45, rfl, HV, HW, HX⟩ K hK
          obtain ⟨h0, h1, h2, h4, h5⟩ := HV.out
          simp [Region.binds] at hd
          have dd3 : b 3 = true := by simp [hd]
          obtain rfl := h5 (by simp [hd])
          have e5 : b 5 = true := by simp [hd]
          clear hd
          obtain ⟨x0, x3, x6, x7, x8, x9, o3, o6, o7, o8, x10⟩ := HX.out
          have n8 : b 8 = false := by cases e8 : b 8 with | false => rfl | true => (have q := o7 (o8 e8).1; rw [hb] at q; cases q)
          obtain ⟨g, cg, rfl, hR, hg⟩ := x3 dd3 n8
          obtain rfl := h2 (o3 dd3)
          go_simp
          exact hK _ _ ⟨_, _, _, _, _, _, _, _, _, _, rfl, Lib.hid ⟨h0, h1, h2, h4, h5⟩, HW, Lib.hid ⟨x0, x3, fun _ => rfl, x7, x8, x9, o3, fun _ => ⟨dd3, e5⟩, fun _ => rfl, o8, x10⟩⟩
        · rintro b a wy hb hd ⟨z7, z37, z38, z39, z40, z41, z42, z43, z44, z45, rfl, HV, HW, HX⟩ K hK
          obtain ⟨h0, h1, h2, h4, h5⟩ := HV.out
          simp [Region.binds] at hd
          have dd6 : b 6 = true := by simp [hd]
          clear hd
          obtain ⟨x0, x3, x6, x7, x8, x9, o3, o6, o7, o8, x10⟩ := HX.out
          have n8 : b 8 = false := by cases e8 : b 8 with | false => rfl | true => (have q := (o8 e8).1; rw [hb] at q; cases q)
          obtain rfl := x6 dd6
          obtain ⟨g, cg, rfl, hR, hg⟩ := x3 (o6 dd6).1 n8
          obtain rfl := h2 (o3 (o6 dd6).1)
          obtain rfl := h5 (o6 dd6).2
          have ka := (Below.refl wy.heap.size wy).alloc (Nat.le_refl _) (.cells #[.slice (some ⟨g, 0, none⟩) pn cg, .int .u64 (ppr.toNat : Int)] 28)
          go_simp
          exact hK _ _ ⟨_, _, _, _, _, _, _, _, _, _, rfl, Lib.hid ⟨h0, h1, h2, h4, h5⟩, Lib.hid (HW.out.trans (ka.mono HW.out.size)), Lib.hid ⟨fun _ => (x0 n8).trans (ka.mono (x0 n8).size), fun _ _ => ⟨g, cg, rfl, hR.kept ka, hg⟩, fun _ => rfl, fun _ _ => ⟨_, rfl, alloc_rowV wy 28 [.slice (some ⟨g, 0, none⟩) pn cg, .int .u64 (ppr.toNat : Int)]⟩, fun e => (by have e' : b 8 = true := e; rw [n8] at e'; cases e'), x9, o3, o6, fun _ => dd6, fun e => ⟨rfl, (o8 e).2⟩, x10⟩⟩
        · rintro b a wy hb hd ⟨z7, z37, z38, z39, z40, z41, z42, z43, z44, z45, rfl, HV, HW, HX⟩ K hK
          obtain ⟨h0, h1, h2, h4, h5⟩ := HV.out
          simp [Region.binds] at hd
          obtain rfl := h0 (by simp [hd])
          have dd7 : b 7 = true := by simp [hd]
          have e0 : b 0 = true := by simp [hd]
          clear hd
          obtain ⟨x0, x3, x6, x7, x8, x9, o3, o6, o7, o8, x10⟩ := HX.out
          obtain ⟨q, rfl, hV⟩ := x7 dd7 hb
          obtain ⟨g, cg, rfl, hR, hg⟩ := x3 (o6 (o7 dd7)).1 hb
          obtain ⟨v', w', hrun, hIn, kz⟩ := HIN1.out.step (p := ⟨pA, pn, pc, pbs, ppr⟩) HB.out.size (x0 hb) hR hg hV HOK1.out.len HOK1.out.le HML.out rfl
          rw [← HTK.out] at hIn
          refine if_wanted (by rfl) (wp_append_run (.tmp 37) (.tmp 44) 22 rfl _ _ rfl rfl _ _ hrun ?_)
          exact hK _ _ ⟨_, _, _, _, _, _, _, _, _, _, rfl, Lib.hid ⟨h0, h1, h2, h4, h5⟩, Lib.hid (HW.out.trans kz), Lib.hid ⟨fun e => (by simp [Inv.mark] at e), fun _ e => (by simp [Inv.mark] at e), x6, fun _ e => (by simp [Inv.mark] at e), fun _ => ⟨_, hIn⟩, fun e => (by have q := (x9 e).1; rw [hb] at q; cases q), o3, o6, o7, fun _ => ⟨dd7, e0⟩, x10⟩⟩
        · rintro b a wy hb hd ⟨z7, z37, z38, z39, z40, z41, z42, z43, z44, z45, rfl, HV, HW, HX⟩ K hK
          obtain ⟨h0, h1, h2, h4, h5⟩ := HV.out
          simp [Region.binds] at hd
          have dd8 : b 8 = true := by simp [hd]
          clear hd
          obtain ⟨x0, x3, x6, x7, x8, x9, o3, o6, o7, o8, x10⟩ := HX.out
          obtain rfl := h0 (o8 dd8).2
          go_simp
          exact hK _ _ ⟨_, _, _, _, _, _, _, _, _, _, rfl, Lib.hid ⟨h0, h1, h2, h4, h5⟩, HW, Lib.hid ⟨x0, x3, x6, x7, x8, fun _ => ⟨dd8, rfl⟩, o3, o6, o7, o8, fun e => (by simp [Inv.mark] at e)⟩⟩
      case doneT7 =>
        rintro b a wy hb ⟨z7, z37, z38, z39, z40, z41, z42, z43, z44, z45, rfl, HV, HW, HX⟩
        obtain ⟨h0, h1, h2, h4, h5⟩ := HV.out
        obtain rfl := h0 (hb 0)
        obtain rfl := h1 (hb 1)
        obtain rfl := h2 (hb 2)
        obtain rfl := h4 (hb 4)
        obtain rfl := h5 (hb 5)
        clear HV h0 h1 h2 h4 h5
        obtain ⟨x0, x3, x6, x7, x8, x9, o3, o6, o7, o8, x10⟩ := HX.out
        obtain ⟨m2, hIn⟩ := x8 (hb 8)
        obtain ⟨-, rfl⟩ := x9 (hb 9)
        have HIN2 := Lib.hid (show ∃ m, InL wy w.heap.size z7 m (l.take (k + 1)) from ⟨m2, hIn⟩)
        clear HX x0 x3 x6 x7 x8 x9 o3 o6 o7 o8 hIn hb d0 d1 HIN1
        go_wp2_with fail
        go_roundw
        case rel => exact ⟨k + 1, by omega, by go_num, HIN2, HW⟩
        case measure => simp [intOf]; omega
    case neg =>
      obtain rfl : k = n := by omega
      have HTL := Lib.hid (show l.take k = l from List.take_of_length_le (by rw [HL.out]; exact Nat.le_refl _))
      have IN := HIN.out
      rw [HTL.out] at IN
      obtain ⟨A3, c3, rfl, P3⟩ := IN.pin
      have hml : m.length = k := by rw [IN.len, HL.out]
      rw [hml] at P3 IN ⊢
      have HIN3 := Lib.hid IN
      have HP3 := Lib.hid P3
      have HML := Lib.hid hml
      clear HTL HIN IN P3 hml
      go_wp2_with fail
      refine (new_beyond HP3.out rest).mono ?_
      rintro e v1 ⟨tp, rfl, hT, kk⟩
      have HMI := Lib.hid (HIN3.out.mid kk)
      rw [HIN3.out.tel] at hT ⊢
      have HBE := Lib.hid hT
      replace HB := Lib.hid (HB.out.trans (kk.mono HB.out.size))
      have HTE := Lib.hid HIN3.out.tel
      clear hT kk HP3 HIN3
      generalize wr.heap.size = lo at *
      go_wp2_with fail
      refine (rnew_any (HP0.out.kept HB.out)).mono ?_
      rintro e v2 ⟨rfl, hs⟩
      have kk := hs.below v1.heap.size
      replace HMI := Lib.hid (HMI.out.kept kk)
      replace HBE := Lib.hid (HBE.out.kept kk)
      replace HB := Lib.hid (HB.out.trans (kk.mono HB.out.size))
      clear kk hs
      generalize hk1 : newErr (tells l) = k1
      obtain ⟨u, hu1, hu2, hu3⟩ := beyond_bool HBE.out k1 hk1
      have HK1 := Lib.hid hk1
      clear hk1
      have hu4 := hu1 v2
      go_wp2_with fail
      clear hu1 hu4
      go_loopw [67] (fun x wr => ∃ i : Nat, i ≤ k ∧ x = .int .i64 (i : Int) ∧ Hid (∃ m', Mid wr w.heap.size lo (.slice A3 k c3) m m' i) ∧ Hid (Beyond wr lo tp (tells l) rest) ∧ Hid (Below w.heap.size w wr)) (fun x _ => k - (intOf x).toNat)
      case atStart => exact ⟨0, Nat.zero_le _, rfl, Lib.hid ⟨m, HMI.out⟩, HBE, HB⟩
      case round =>
        obtain ⟨i, hi, rfl, HMq, HBEq, HBq⟩ := hrel
        clear HMI HBE HB
        have HBE := HBEq
        have HB := HBq
        clear HBEq HBq
        obtain ⟨m', MI⟩ := HMq.out
        have HMI := Lib.hid MI
        clear HMq MI
        by_cases hlt : i < k
        case pos =>
          have hii : (i : Int) < (k : Int) := by omega
          have hil : i < l.length := by rw [HL.out]; exact hlt
          have him : i < m.length := by rw [HML.out]; exact hlt
          have HPr := Lib.hid (HP0.out.kept HB.out)
          obtain ⟨pb, po, hA, hpb, c1, c2'⟩ := HPr.out.at hlt
          subst hA
          have HPB := Lib.hid hpb
          have HOK := Lib.hid (HPr.out.ok l[i] (List.getElem_mem hil))
          obtain ⟨q, cq, g, hA3, hq1, hq2, hq3, hqg, hgA, hg1, hg2, hR, d0, d1, hfq⟩ := HMI.out.cells him
          have htl : m[i].tell = l[i].tell := by
            have h1 : (tells m)[i]'(by rw [length_tells]; exact him) = m[i].tell := by simp [tells]
            have h2 : (tells l)[i]'(by rw [length_tells]; exact hil) = l[i].tell := by simp [tells]
            rw [← h1, ← h2]
            simp only [HTE.out]
          simp only [Pair.tell, Prod.mk.injEq] at htl
          have hmn : m[i].n = l[i].n := by
            rw [← HMI.out.lens m[i] (List.getElem_mem him), htl.1, HOK.out.len]
          rw [hgA, hmn] at d0
          rw [htl.2] at d1
          rw [htl.1] at hR
          rw [HML.out] at hA3
          simp only [Value.slice.injEq, true_and] at hA3
          obtain ⟨hA3, rfl⟩ := hA3
          have HGA := Lib.hid hgA
          clear htl hmn hgA
          generalize l[i] = p at c1 c2' HOK d0 d1 hR
          generalize m[i].c = mc at d0
          obtain ⟨pA, pn, pc, pbs, ppr⟩ := p
          simp only at c1 c2' d0 d1 hR
          have HRM := Lib.hid hR
          have HQL := Lib.hid hq3
          have HQG := Lib.hid hqg
          have HGB := Lib.hid hg1
          have HGL := Lib.hid hg2
          have HQB := Lib.hid hq1
          have HQW := Lib.hid hq2
          subst hA3
          clear hR hq1 hq2 hq3 hqg hg1 hg2 hpb HPr
          go_upto_region 16 with (fail)
          refine Inv2.wp_region_inv (fun b a wy => ∃ z70 z71 z72 z73 z74 z75 z76 z77 z78 z79 z80 z81 z82 z83 z84 z85 z86 z87 z88 z89 z90 z91 z92 z93 z94, a = ⟨(List.toArray (Value.slice (some { block := pb, off := po }) k c :: Value.int IntKind.u64 ↑rest.toNat :: Value.slice A2 n2 c2 :: undef :: undef :: undef :: u6 :: Value.slice (some { block := q, off := 0 }) k c3 :: undef :: u9 :: Value.pointer tp :: Value.int IntKind.i64 k1 :: Value.int IntKind.i64 k1 :: Value.int IntKind.i64 ↑i :: u14 :: undef :: undef :: undef :: undef :: undef :: undef :: undef :: Value.slice (some { block := pb, off := po }) k c :: Value.int IntKind.i64 ↑k :: Value.bool false :: Value.bool false :: Value.slice A2 n2 c2 :: Value.int IntKind.i64 ↑n2 :: Value.bool false :: Value.bool false :: undef :: Value.slice (some { block := pb, off := po }) k c :: Value.int IntKind.i64 ↑k :: Value.int IntKind.i64 ↑k :: Value.bool false :: u35 :: u36 :: u37 :: u38 :: u39 :: u40 :: u41 :: u42 :: u43 :: u44 :: u45 :: u46 :: Value.tuple #[Value.pointer tp, Value.int IntKind.i64 k1] :: Value.slice (some { block := q, off := 0 }) k c3 :: Value.int IntKind.u64 ↑rest.toNat :: Value.tuple #[Value.pointer tp, Value.int IntKind.i64 k1] :: Value.pointer tp :: Value.int IntKind.i64 k1 :: Value.slice (some { block := pb, off := po }) k c :: Value.int IntKind.i64 k1 :: Value.int IntKind.i64 k1 :: Value.int IntKind.i64 k1 :: Value.bool false :: Value.bool false :: Value.pointer tp :: Value.bool u :: Value.int IntKind.i64 k1 :: Value.bool u :: Value.bool false :: Value.bool false :: Value.slice (some { block := q, off := 0 }) k c3 :: Value.int IntKind.i64 ↑k :: Value.int IntKind.i64 ↑i :: Value.bool true :: Value.int IntKind.i64 ↑i :: z70 :: z71 :: z72 :: z73 :: z74 :: z75 :: z76 :: z77 :: z78 :: z79 :: z80 :: z81 :: z82 :: z83 :: z84 :: z85 :: z86 :: z87 :: z88 :: z89 :: z90 :: z91 :: z92 :: z93 :: z94 :: u95 :: u96 :: u97 :: u98 :: u99 :: u100 :: u101 :: u102 :: u103 :: u104 :: u105 :: u106 :: u107 :: u108 :: u109 :: u110 :: u111 :: u112 :: u113 :: u114 :: u115 :: u116 :: u117 :: u118 :: u119 :: u120 :: u121 :: u122 :: u123 :: undef :: undef :: undef :: undef :: undef :: undef :: undef :: undef :: undef :: undef :: undef :: undef :: undef :: undef :: undef :: undef :: undef :: undef :: undef :: undef :: undef :: undef :: undef :: undef :: undef :: undef :: undef :: undef :: undef :: undef :: undef :: undef :: undef :: undef :: undef :: undef :: undef :: undef :: undef :: undef :: undef :: undef :: undef :: undef :: undef :: undef :: undef :: undef :: undef :: undef :: undef :: undef :: undef :: undef :: undef :: [])), []⟩ ∧ Hid ((b 0 = true → z70 = Value.slice (some { block := q, off := 0 }) k c3) ∧ (b 1 = true → z71 = Value.int IntKind.i64 ↑i) ∧ (b 2 = true → z72 = .pointer (some ⟨q, i * 2, none⟩)) ∧ (b 3 = true → z73 = .pointer (some ⟨q, i * 2, none⟩)) ∧ (b 4 = true → z74 = .slice (some ⟨g, 0, none⟩) pn mc) ∧ (b 5 = true → z75 = Value.slice (some { block := pb, off := po }) k c) ∧ (b 6 = true → z76 = Value.int IntKind.i64 ↑i) ∧ (b 7 = true → z77 = .pointer (some ⟨pb, po + i * 2, none⟩)) ∧ (b 8 = true → z78 = .pointer (some ⟨pb, po + i * 2, none⟩)) ∧ (b 9 = true → z79 = .slice pA pn pc) ∧ (b 10 = true → z80 = .bool true) ∧ (b 11 = true → z81 = .bool false) ∧ (b 12 = true → z82 = .bool false) ∧ (b 13 = true → z83 = Value.slice (some { block := q, off := 0 }) k c3) ∧ (b 14 = true → z84 = Value.int IntKind.i64 ↑i) ∧ (b 15 = true → z85 = .pointer (some ⟨q, i * 2, none⟩)) ∧ (b 16 = true → z86 = .pointer (some ⟨q, i * 2 + 1, none⟩)) ∧ (b 17 = true → z87 = .int .u64 (ppr.toNat : Int)) ∧ (b 18 = true → z88 = Value.slice (some { block := pb, off := po }) k c) ∧ (b 19 = true → z89 = Value.int IntKind.i64 ↑i) ∧ (b 20 = true → z90 = .pointer (some ⟨pb, po + i * 2, none⟩)) ∧ (b 21 = true → z91 = .pointer (some ⟨pb, po + i * 2 + 1, none⟩)) ∧ (b 22 = true → z92 = .int .u64 (ppr.toNat : Int)) ∧ (b 23 = true → z93 = .bool false) ∧ (b 24 = true → z94 = .bool false)) ∧ Hid (Below wr.heap.size wr wy)) (by kernel_rfl) (by kernel_rfl) ?startT16 ?stepsT16 ?doneT16
          case startT16 =>
            intro b hb
            refine ⟨u70, u71, u72, u73, u74, u75, u76, u77, u78, u79, u80, u81, u82, u83, u84, u85, u86, u87, u88, u89, u90, u91, u92, u93, u94, rfl, Lib.hid ⟨?_, ?_, ?_, ?_, ?_, ?_, ?_, ?_, ?_, ?_, ?_, ?_, ?_, ?_, ?_, ?_, ?_, ?_, ?_, ?_, ?_, ?_, ?_, ?_, ?_⟩, Lib.hid ((show Still wr wr.drew from ⟨rfl, rfl, rfl, rfl⟩).below _)⟩
            all_goals (intro e; first | rfl | (rw [hb _ (by decide)] at e; cases e))
          case stepsT16 =>
            refine ⟨?_, ?_, ?_, ?_, ?_, ?_, ?_, ?_, ?_, ?_, ?_, ?_, ?_, ?_, ?_, ?_, ?_, ?_, ?_, ?_, ?_, ?_, ?_, ?_, ?_, trivial⟩
            · rintro b a wy hb hd ⟨z70, z71, z72, z73, z74, z75, z76, z77, z78, z79, z80, z81, z82, z83, z84, z85, z86, z87, z88, z89, z90, z91, z92, z93, z94, rfl, HV, HW⟩ K hK
              obtain ⟨h0, h1, h2, h3, h4, h5, h6, h7, h8, h9, h10, h11, h12, h13, h14, h15, h16, h17, h18, h19, h20, h21, h22, h23, h24⟩ := HV.out
              clear hd
              go_simp
              exact hK _ _ ⟨_, _, _, _, _, _, _, _, _, _, _, _, _, _, _, _, _, _, _, _, _, _, _, _, _, rfl, Lib.hid ⟨fun _ => rfl, h1, h2, h3, h4, h5, h6, h7, h8, h9, h10, h11, h12, h13, h14, h15, h16, h17, h18, h19, h20, h21, h22, h23, h24⟩, HW⟩
            · rintro b a wy hb hd ⟨z70, z71, z72, z73, z74, z75, z76, z77, z78, z79, z80, z81, z82, z83, z84, z85, z86, z87, z88, z89, z90, z91, z92, z93, z94, rfl, HV, HW⟩ K hK
              obtain ⟨h0, h1, h2, h3, h4, h5, h6, h7, h8, h9, h10, h11, h12, h13, h14, h15, h16, h17, h18, h19, h20, h21, h22, h23, h24⟩ := HV.out
              clear hd
              go_simp
              exact hK _ _ ⟨_, _, _, _, _, _, _, _, _, _, _, _, _, _, _, _, _, _, _, _, _, _, _, _, _, rfl, Lib.hid ⟨h0, fun _ => rfl, h2, h3, h4, h5, h6, h7, h8, h9, h10, h11, h12, h13, h14, h15, h16, h17, h18, h19, h20, h21, h22, h23, h24⟩, HW⟩
            · rintro b a wy hb hd ⟨z70, z71, z72, z73, z74, z75, z76, z77, z78, z79, z80, z81, z82, z83, z84, z85, z86, z87, z88, z89, z90, z91, z92, z93, z94, rfl, HV, HW⟩ K hK
              obtain ⟨h0, h1, h2, h3, h4, h5, h6, h7, h8, h9, h10, h11, h12, h13, h14, h15, h16, h17, h18, h19, h20, h21, h22, h23, h24⟩ := HV.out
              simp [Region.binds] at hd
              obtain rfl := h0 (by simp [hd])
              obtain rfl := h1 (by simp [hd])
              clear hd
              go_simp
              exact hK _ _ ⟨_, _, _, _, _, _, _, _, _, _, _, _, _, _, _, _, _, _, _, _, _, _, _, _, _, rfl, Lib.hid ⟨h0, h1, fun _ => rfl, h3, h4, h5, h6, h7, h8, h9, h10, h11, h12, h13, h14, h15, h16, h17, h18, h19, h20, h21, h22, h23, h24⟩, HW⟩
            · rintro b a wy hb hd ⟨z70, z71, z72, z73, z74, z75, z76, z77, z78, z79, z80, z81, z82, z83, z84, z85, z86, z87, z88, z89, z90, z91, z92, z93, z94, rfl, HV, HW⟩ K hK
              obtain ⟨h0, h1, h2, h3, h4, h5, h6, h7, h8, h9, h10, h11, h12, h13, h14, h15, h16, h17, h18, h19, h20, h21, h22, h23, h24⟩ := HV.out
              simp [Region.binds] at hd
              obtain rfl := h2 (by simp [hd])
              clear hd
              go_simp
              exact hK _ _ ⟨_, _, _, _, _, _, _, _, _, _, _, _, _, _, _, _, _, _, _, _, _, _, _, _, _, rfl, Lib.hid ⟨h0, h1, h2, fun _ => rfl, h4, h5, h6, h7, h8, h9, h10, h11, h12, h13, h14, h15, h16, h17, h18, h19, h20, h21, h22, h23, h24⟩, HW⟩
            · rintro b a wy hb hd ⟨z70, z71, z72, z73, z74, z75, z76, z77, z78, z79, z80, z81, z82, z83, z84, z85, z86, z87, z88, z89, z90, z91, z92, z93, z94, rfl, HV, HW⟩ K hK
              obtain ⟨h0, h1, h2, h3, h4, h5, h6, h7, h8, h9, h10, h11, h12, h13, h14, h15, h16, h17, h18, h19, h20, h21, h22, h23, h24⟩ := HV.out
              simp [Region.binds] at hd
              obtain rfl := h3 (by simp [hd])
              clear hd
              have dd := (HW.out.cell (p := ⟨q, i * 2, none⟩) HQL.out).trans d0
              go_simp
              exact hK _ _ ⟨_, _, _, _, _, _, _, _, _, _, _, _, _, _, _, _, _, _, _, _, _, _, _, _, _, rfl, Lib.hid ⟨h0, h1, h2, h3, fun _ => rfl, h5, h6, h7, h8, h9, h10, h11, h12, h13, h14, h15, h16, h17, h18, h19, h20, h21, h22, h23, h24⟩, HW⟩
            · rintro b a wy hb hd ⟨z70, z71, z72, z73, z74, z75, z76, z77, z78, z79, z80, z81, z82, z83, z84, z85, z86, z87, z88, z89, z90, z91, z92, z93, z94, rfl, HV, HW⟩ K hK
              obtain ⟨h0, h1, h2, h3, h4, h5, h6, h7, h8, h9, h10, h11, h12, h13, h14, h15, h16, h17, h18, h19, h20, h21, h22, h23, h24⟩ := HV.out
              clear hd
              go_simp
              exact hK _ _ ⟨_, _, _, _, _, _, _, _, _, _, _, _, _, _, _, _, _, _, _, _, _, _, _, _, _, rfl, Lib.hid ⟨h0, h1, h2, h3, h4, fun _ => rfl, h6, h7, h8, h9, h10, h11, h12, h13, h14, h15, h16, h17, h18, h19, h20, h21, h22, h23, h24⟩, HW⟩
            · rintro b a wy hb hd ⟨z70, z71, z72, z73, z74, z75, z76, z77, z78, z79, z80, z81, z82, z83, z84, z85, z86, z87, z88, z89, z90, z91, z92, z93, z94, rfl, HV, HW⟩ K hK
              obtain ⟨h0, h1, h2, h3, h4, h5, h6, h7, h8, h9, h10, h11, h12, h13, h14, h15, h16, h17, h18, h19, h20, h21, h22, h23, h24⟩ := HV.out
              clear hd
              go_simp
              exact hK _ _ ⟨_, _, _, _, _, _, _, _, _, _, _, _, _, _, _, _, _, _, _, _, _, _, _, _, _, rfl, Lib.hid ⟨h0, h1, h2, h3, h4, h5, fun _ => rfl, h7, h8, h9, h10, h11, h12, h13, h14, h15, h16, h17, h18, h19, h20, h21, h22, h23, h24⟩, HW⟩
            · rintro b a wy hb hd ⟨z70, z71, z72, z73, z74, z75, z76, z77, z78, z79, z80, z81, z82, z83, z84, z85, z86, z87, z88, z89, z90, z91, z92, z93, z94, rfl, HV, HW⟩ K hK
              obtain ⟨h0, h1, h2, h3, h4, h5, h6, h7, h8, h9, h10, h11, h12, h13, h14, h15, h16, h17, h18, h19, h20, h21, h22, h23, h24⟩ := HV.out
              simp [Region.binds] at hd
              obtain rfl := h5 (by simp [hd])
              obtain rfl := h6 (by simp [hd])
              clear hd
              go_simp
              exact hK _ _ ⟨_, _, _, _, _, _, _, _, _, _, _, _, _, _, _, _, _, _, _, _, _, _, _, _, _, rfl, Lib.hid ⟨h0, h1, h2, h3, h4, h5, h6, fun _ => rfl, h8, h9, h10, h11, h12, h13, h14, h15, h16, h17, h18, h19, h20, h21, h22, h23, h24⟩, HW⟩
            · rintro b a wy hb hd ⟨z70, z71, z72, z73, z74, z75, z76, z77, z78, z79, z80, z81, z82, z83, z84, z85, z86, z87, z88, z89, z90, z91, z92, z93, z94, rfl, HV, HW⟩ K hK
              obtain ⟨h0, h1, h2, h3, h4, h5, h6, h7, h8, h9, h10, h11, h12, h13, h14, h15, h16, h17, h18, h19, h20, h21, h22, h23, h24⟩ := HV.out
              simp [Region.binds] at hd
              obtain rfl := h7 (by simp [hd])
              clear hd
              go_simp
              exact hK _ _ ⟨_, _, _, _, _, _, _, _, _, _, _, _, _, _, _, _, _, _, _, _, _, _, _, _, _, rfl, Lib.hid ⟨h0, h1, h2, h3, h4, h5, h6, h7, fun _ => rfl, h9, h10, h11, h12, h13, h14, h15, h16, h17, h18, h19, h20, h21, h22, h23, h24⟩, HW⟩
            · rintro b a wy hb hd ⟨z70, z71, z72, z73, z74, z75, z76, z77, z78, z79, z80, z81, z82, z83, z84, z85, z86, z87, z88, z89, z90, z91, z92, z93, z94, rfl, HV, HW⟩ K hK
              obtain ⟨h0, h1, h2, h3, h4, h5, h6, h7, h8, h9, h10, h11, h12, h13, h14, h15, h16, h17, h18, h19, h20, h21, h22, h23, h24⟩ := HV.out
              simp [Region.binds] at hd
              obtain rfl := h8 (by simp [hd])
              clear hd
              have dd := (HW.out.cell (p := ⟨pb, po + i * 2, none⟩) HPB.out).trans c1
              go_simp
              exact hK _ _ ⟨_, _, _, _, _, _, _, _, _, _, _, _, _, _, _, _, _, _, _, _, _, _, _, _, _, rfl, Lib.hid ⟨h0, h1, h2, h3, h4, h5, h6, h7, h8, fun _ => rfl, h10, h11, h12, h13, h14, h15, h16, h17, h18, h19, h20, h21, h22, h23, h24⟩, HW⟩
            · rintro b a wy hb hd ⟨z70, z71, z72, z73, z74, z75, z76, z77, z78, z79, z80, z81, z82, z83, z84, z85, z86, z87, z88, z89, z90, z91, z92, z93, z94, rfl, HV, HW⟩ K hK
              obtain ⟨h0, h1, h2, h3, h4, h5, h6, h7, h8, h9, h10, h11, h12, h13, h14, h15, h16, h17, h18, h19, h20, h21, h22, h23, h24⟩ := HV.out
              simp [Region.binds] at hd
              obtain rfl := h4 (by simp [hd])
              obtain rfl := h9 (by simp [hd])
              clear hd
              go_simp
              go_at_call 12
              refine (equal_yes (some ⟨g, 0, none⟩) pA pn pn mc pc pbs pbs rfl HOK.out.len HOK.out.len _ (HRM.out.kept HW.out).told (HOK.out.below HW.out).told).mono ?_
              rintro e wz ⟨rfl, rfl⟩
              try go_simp
              exact hK _ _ ⟨_, _, _, _, _, _, _, _, _, _, _, _, _, _, _, _, _, _, _, _, _, _, _, _, _, rfl, Lib.hid ⟨h0, h1, h2, h3, h4, h5, h6, h7, h8, h9, fun _ => rfl, h11, h12, h13, h14, h15, h16, h17, h18, h19, h20, h21, h22, h23, h24⟩, HW⟩
            · rintro b a wy hb hd ⟨z70, z71, z72, z73, z74, z75, z76, z77, z78, z79, z80, z81, z82, z83, z84, z85, z86, z87, z88, z89, z90, z91, z92, z93, z94, rfl, HV, HW⟩ K hK
              obtain ⟨h0, h1, h2, h3, h4, h5, h6, h7, h8, h9, h10, h11, h12, h13, h14, h15, h16, h17, h18, h19, h20, h21, h22, h23, h24⟩ := HV.out
              simp [Region.binds] at hd
              obtain rfl := h10 (by simp [hd])
              clear hd
              go_simp
              exact hK _ _ ⟨_, _, _, _, _, _, _, _, _, _, _, _, _, _, _, _, _, _, _, _, _, _, _, _, _, rfl, Lib.hid ⟨h0, h1, h2, h3, h4, h5, h6, h7, h8, h9, h10, fun _ => rfl, h12, h13, h14, h15, h16, h17, h18, h19, h20, h21, h22, h23, h24⟩, HW⟩
            · rintro b a wy hb hd ⟨z70, z71, z72, z73, z74, z75, z76, z77, z78, z79, z80, z81, z82, z83, z84, z85, z86, z87, z88, z89, z90, z91, z92, z93, z94, rfl, HV, HW⟩ K hK
              obtain ⟨h0, h1, h2, h3, h4, h5, h6, h7, h8, h9, h10, h11, h12, h13, h14, h15, h16, h17, h18, h19, h20, h21, h22, h23, h24⟩ := HV.out
              simp [Region.binds] at hd
              obtain rfl := h11 (by simp [hd])
              clear hd
              go_simp
              exact hK _ _ ⟨_, _, _, _, _, _, _, _, _, _, _, _, _, _, _, _, _, _, _, _, _, _, _, _, _, rfl, Lib.hid ⟨h0, h1, h2, h3, h4, h5, h6, h7, h8, h9, h10, h11, fun _ => rfl, h13, h14, h15, h16, h17, h18, h19, h20, h21, h22, h23, h24⟩, HW⟩
            · rintro b a wy hb hd ⟨z70, z71, z72, z73, z74, z75, z76, z77, z78, z79, z80, z81, z82, z83, z84, z85, z86, z87, z88, z89, z90, z91, z92, z93, z94, rfl, HV, HW⟩ K hK
              obtain ⟨h0, h1, h2, h3, h4, h5, h6, h7, h8, h9, h10, h11, h12, h13, h14, h15, h16, h17, h18, h19, h20, h21, h22, h23, h24⟩ := HV.out
              simp [Region.binds] at hd
              obtain rfl := h12 (by simp [hd])
              clear hd
              go_simp
              exact hK _ _ ⟨_, _, _, _, _, _, _, _, _, _, _, _, _, _, _, _, _, _, _, _, _, _, _, _, _, rfl, Lib.hid ⟨h0, h1, h2, h3, h4, h5, h6, h7, h8, h9, h10, h11, h12, fun _ => rfl, h14, h15, h16, h17, h18, h19, h20, h21, h22, h23, h24⟩, HW⟩
            · rintro b a wy hb hd ⟨z70, z71, z72, z73, z74, z75, z76, z77, z78, z79, z80, z81, z82, z83, z84, z85, z86, z87, z88, z89, z90, z91, z92, z93, z94, rfl, HV, HW⟩ K hK
              obtain ⟨h0, h1, h2, h3, h4, h5, h6, h7, h8, h9, h10, h11, h12, h13, h14, h15, h16, h17, h18, h19, h20, h21, h22, h23, h24⟩ := HV.out
              simp [Region.binds] at hd
              obtain rfl := h12 (by simp [hd])
              clear hd
              go_simp
              exact hK _ _ ⟨_, _, _, _, _, _, _, _, _, _, _, _, _, _, _, _, _, _, _, _, _, _, _, _, _, rfl, Lib.hid ⟨h0, h1, h2, h3, h4, h5, h6, h7, h8, h9, h10, h11, h12, h13, fun _ => rfl, h15, h16, h17, h18, h19, h20, h21, h22, h23, h24⟩, HW⟩
            · rintro b a wy hb hd ⟨z70, z71, z72, z73, z74, z75, z76, z77, z78, z79, z80, z81, z82, z83, z84, z85, z86, z87, z88, z89, z90, z91, z92, z93, z94, rfl, HV, HW⟩ K hK
              obtain ⟨h0, h1, h2, h3, h4, h5, h6, h7, h8, h9, h10, h11, h12, h13, h14, h15, h16, h17, h18, h19, h20, h21, h22, h23, h24⟩ := HV.out
              simp [Region.binds] at hd
              obtain rfl := h12 (by simp [hd])
              obtain rfl := h13 (by simp [hd])
              obtain rfl := h14 (by simp [hd])
              clear hd
              go_simp
              exact hK _ _ ⟨_, _, _, _, _, _, _, _, _, _, _, _, _, _, _, _, _, _, _, _, _, _, _, _, _, rfl, Lib.hid ⟨h0, h1, h2, h3, h4, h5, h6, h7, h8, h9, h10, h11, h12, h13, h14, fun _ => rfl, h16, h17, h18, h19, h20, h21, h22, h23, h24⟩, HW⟩
            · rintro b a wy hb hd ⟨z70, z71, z72, z73, z74, z75, z76, z77, z78, z79, z80, z81, z82, z83, z84, z85, z86, z87, z88, z89, z90, z91, z92, z93, z94, rfl, HV, HW⟩ K hK
              obtain ⟨h0, h1, h2, h3, h4, h5, h6, h7, h8, h9, h10, h11, h12, h13, h14, h15, h16, h17, h18, h19, h20, h21, h22, h23, h24⟩ := HV.out
              simp [Region.binds] at hd
              obtain rfl := h12 (by simp [hd])
              obtain rfl := h15 (by simp [hd])
              clear hd
              go_simp
              exact hK _ _ ⟨_, _, _, _, _, _, _, _, _, _, _, _, _, _, _, _, _, _, _, _, _, _, _, _, _, rfl, Lib.hid ⟨h0, h1, h2, h3, h4, h5, h6, h7, h8, h9, h10, h11, h12, h13, h14, h15, fun _ => rfl, h17, h18, h19, h20, h21, h22, h23, h24⟩, HW⟩
            · rintro b a wy hb hd ⟨z70, z71, z72, z73, z74, z75, z76, z77, z78, z79, z80, z81, z82, z83, z84, z85, z86, z87, z88, z89, z90, z91, z92, z93, z94, rfl, HV, HW⟩ K hK
              obtain ⟨h0, h1, h2, h3, h4, h5, h6, h7, h8, h9, h10, h11, h12, h13, h14, h15, h16, h17, h18, h19, h20, h21, h22, h23, h24⟩ := HV.out
              simp [Region.binds] at hd
              obtain rfl := h12 (by simp [hd])
              obtain rfl := h16 (by simp [hd])
              clear hd
              have dd := (HW.out.cell (p := ⟨q, i * 2 + 1, none⟩) HQL.out).trans d1
              go_simp
              exact hK _ _ ⟨_, _, _, _, _, _, _, _, _, _, _, _, _, _, _, _, _, _, _, _, _, _, _, _, _, rfl, Lib.hid ⟨h0, h1, h2, h3, h4, h5, h6, h7, h8, h9, h10, h11, h12, h13, h14, h15, h16, fun _ => rfl, h18, h19, h20, h21, h22, h23, h24⟩, HW⟩
            · rintro b a wy hb hd ⟨z70, z71, z72, z73, z74, z75, z76, z77, z78, z79, z80, z81, z82, z83, z84, z85, z86, z87, z88, z89, z90, z91, z92, z93, z94, rfl, HV, HW⟩ K hK
              obtain ⟨h0, h1, h2, h3, h4, h5, h6, h7, h8, h9, h10, h11, h12, h13, h14, h15, h16, h17, h18, h19, h20, h21, h22, h23, h24⟩ := HV.out
              simp [Region.binds] at hd
              obtain rfl := h12 (by simp [hd])
              clear hd
              go_simp
              exact hK _ _ ⟨_, _, _, _, _, _, _, _, _, _, _, _, _, _, _, _, _, _, _, _, _, _, _, _, _, rfl, Lib.hid ⟨h0, h1, h2, h3, h4, h5, h6, h7, h8, h9, h10, h11, h12, h13, h14, h15, h16, h17, fun _ => rfl, h19, h20, h21, h22, h23, h24⟩, HW⟩
            · rintro b a wy hb hd ⟨z70, z71, z72, z73, z74, z75, z76, z77, z78, z79, z80, z81, z82, z83, z84, z85, z86, z87, z88, z89, z90, z91, z92, z93, z94, rfl, HV, HW⟩ K hK
              obtain ⟨h0, h1, h2, h3, h4, h5, h6, h7, h8, h9, h10, h11, h12, h13, h14, h15, h16, h17, h18, h19, h20, h21, h22, h23, h24⟩ := HV.out
              simp [Region.binds] at hd
              obtain rfl := h12 (by simp [hd])
              clear hd
              go_simp
              exact hK _ _ ⟨_, _, _, _, _, _, _, _, _, _, _, _, _, _, _, _, _, _, _, _, _, _, _, _, _, rfl, Lib.hid ⟨h0, h1, h2, h3, h4, h5, h6, h7, h8, h9, h10, h11, h12, h13, h14, h15, h16, h17, h18, fun _ => rfl, h20, h21, h22, h23, h24⟩, HW⟩
            · rintro b a wy hb hd ⟨z70, z71, z72, z73, z74, z75, z76, z77, z78, z79, z80, z81, z82, z83, z84, z85, z86, z87, z88, z89, z90, z91, z92, z93, z94, rfl, HV, HW⟩ K hK
              obtain ⟨h0, h1, h2, h3, h4, h5, h6, h7, h8, h9, h10, h11, h12, h13, h14, h15, h16, h17, h18, h19, h20, h21, h22, h23, h24⟩ := HV.out
              simp [Region.binds] at hd
              obtain rfl := h12 (by simp [hd])
              obtain rfl := h18 (by simp [hd])
              obtain rfl := h19 (by simp [hd])
              clear hd
              go_simp
              exact hK _ _ ⟨_, _, _, _, _, _, _, _, _, _, _, _, _, _, _, _, _, _, _, _, _, _, _, _, _, rfl, Lib.hid ⟨h0, h1, h2, h3, h4, h5, h6, h7, h8, h9, h10, h11, h12, h13, h14, h15, h16, h17, h18, h19, fun _ => rfl, h21, h22, h23, h24⟩, HW⟩
            · rintro b a wy hb hd ⟨z70, z71, z72, z73, z74, z75, z76, z77, z78, z79, z80, z81, z82, z83, z84, z85, z86, z87, z88, z89, z90, z91, z92, z93, z94, rfl, HV, HW⟩ K hK
              obtain ⟨h0, h1, h2, h3, h4, h5, h6, h7, h8, h9, h10, h11, h12, h13, h14, h15, h16, h17, h18, h19, h20, h21, h22, h23, h24⟩ := HV.out
              simp [Region.binds] at hd
              obtain rfl := h12 (by simp [hd])
              obtain rfl := h20 (by simp [hd])
              clear hd
              go_simp
              exact hK _ _ ⟨_, _, _, _, _, _, _, _, _, _, _, _, _, _, _, _, _, _, _, _, _, _, _, _, _, rfl, Lib.hid ⟨h0, h1, h2, h3, h4, h5, h6, h7, h8, h9, h10, h11, h12, h13, h14, h15, h16, h17, h18, h19, h20, fun _ => rfl, h22, h23, h24⟩, HW⟩
            · rintro b a wy hb hd ⟨z70, z71, z72, z73, z74, z75, z76, z77, z78, z79, z80, z81, z82, z83, z84, z85, z86, z87, z88, z89, z90, z91, z92, z93, z94, rfl, HV, HW⟩ K hK
              obtain ⟨h0, h1, h2, h3, h4, h5, h6, h7, h8, h9, h10, h11, h12, h13, h14, h15, h16, h17, h18, h19, h20, h21, h22, h23, h24⟩ := HV.out
              simp [Region.binds] at hd
              obtain rfl := h12 (by simp [hd])
              obtain rfl := h21 (by simp [hd])
              clear hd
              have dd := (HW.out.cell (p := ⟨pb, po + i * 2 + 1, none⟩) HPB.out).trans c2'
              go_simp
              exact hK _ _ ⟨_, _, _, _, _, _, _, _, _, _, _, _, _, _, _, _, _, _, _, _, _, _, _, _, _, rfl, Lib.hid ⟨h0, h1, h2, h3, h4, h5, h6, h7, h8, h9, h10, h11, h12, h13, h14, h15, h16, h17, h18, h19, h20, h21, fun _ => rfl, h23, h24⟩, HW⟩
            · rintro b a wy hb hd ⟨z70, z71, z72, z73, z74, z75, z76, z77, z78, z79, z80, z81, z82, z83, z84, z85, z86, z87, z88, z89, z90, z91, z92, z93, z94, rfl, HV, HW⟩ K hK
              obtain ⟨h0, h1, h2, h3, h4, h5, h6, h7, h8, h9, h10, h11, h12, h13, h14, h15, h16, h17, h18, h19, h20, h21, h22, h23, h24⟩ := HV.out
              simp [Region.binds] at hd
              obtain rfl := h12 (by simp [hd])
              obtain rfl := h17 (by simp [hd])
              obtain rfl := h22 (by simp [hd])
              clear hd
              go_simp
              exact hK _ _ ⟨_, _, _, _, _, _, _, _, _, _, _, _, _, _, _, _, _, _, _, _, _, _, _, _, _, rfl, Lib.hid ⟨h0, h1, h2, h3, h4, h5, h6, h7, h8, h9, h10, h11, h12, h13, h14, h15, h16, h17, h18, h19, h20, h21, h22, fun _ => rfl, h24⟩, HW⟩
            · rintro b a wy hb hd ⟨z70, z71, z72, z73, z74, z75, z76, z77, z78, z79, z80, z81, z82, z83, z84, z85, z86, z87, z88, z89, z90, z91, z92, z93, z94, rfl, HV, HW⟩ K hK
              obtain ⟨h0, h1, h2, h3, h4, h5, h6, h7, h8, h9, h10, h11, h12, h13, h14, h15, h16, h17, h18, h19, h20, h21, h22, h23, h24⟩ := HV.out
              simp [Region.binds] at hd
              obtain rfl := h12 (by simp [hd])
              obtain rfl := h23 (by simp [hd])
              clear hd
              go_simp
              exact hK _ _ ⟨_, _, _, _, _, _, _, _, _, _, _, _, _, _, _, _, _, _, _, _, _, _, _, _, _, rfl, Lib.hid ⟨h0, h1, h2, h3, h4, h5, h6, h7, h8, h9, h10, h11, h12, h13, h14, h15, h16, h17, h18, h19, h20, h21, h22, h23, fun _ => rfl⟩, HW⟩
          case doneT16 =>
            rintro b a wy hb ⟨z70, z71, z72, z73, z74, z75, z76, z77, z78, z79, z80, z81, z82, z83, z84, z85, z86, z87, z88, z89, z90, z91, z92, z93, z94, rfl, HV, HW⟩
            obtain ⟨h0, h1, h2, h3, h4, h5, h6, h7, h8, h9, h10, h11, h12, h13, h14, h15, h16, h17, h18, h19, h20, h21, h22, h23, h24⟩ := HV.out
            obtain rfl := h0 (hb 0)
            obtain rfl := h1 (hb 1)
            obtain rfl := h2 (hb 2)
            obtain rfl := h3 (hb 3)
            obtain rfl := h4 (hb 4)
            obtain rfl := h5 (hb 5)
            obtain rfl := h6 (hb 6)
            obtain rfl := h7 (hb 7)
            obtain rfl := h8 (hb 8)
            obtain rfl := h9 (hb 9)
            obtain rfl := h10 (hb 10)
            obtain rfl := h11 (hb 11)
            obtain rfl := h12 (hb 12)
            obtain rfl := h13 (hb 13)
            obtain rfl := h14 (hb 14)
            obtain rfl := h15 (hb 15)
            obtain rfl := h16 (hb 16)
            obtain rfl := h17 (hb 17)
            obtain rfl := h18 (hb 18)
            obtain rfl := h19 (hb 19)
            obtain rfl := h20 (hb 20)
            obtain rfl := h21 (hb 21)
            obtain rfl := h22 (hb 22)
            obtain rfl := h23 (hb 23)
            obtain rfl := h24 (hb 24)
            clear HV hb h0 h1 h2 h3 h4 h5 h6 h7 h8 h9 h10 h11 h12 h13 h14 h15 h16 h17 h18 h19 h20 h21 h22 h23 h24
            have kk := HW.out
            replace HMI := Lib.hid (HMI.out.kept kk)
            replace HBE := Lib.hid (HBE.out.kept kk)
            replace HB := Lib.hid (HB.out.trans (kk.mono HB.out.size))
            replace HRM := Lib.hid (HRM.out.kept kk)
            replace d0 := (kk.cell (p := ⟨q, i * 2, none⟩) HQL.out).trans d0
            replace d1 := (kk.cell (p := ⟨q, i * 2 + 1, none⟩) HQL.out).trans d1
            replace hfq := (kk.frozen (p := ⟨q, i * 2 + 1, none⟩) HQL.out).trans hfq
            clear HW kk c1 c2'
            obtain ⟨wm, hwm⟩ : ∃ x, x = wy := ⟨_, rfl⟩
            subst hwm
            have HLN := Lib.hid (show pbs.length = pn from HOK.out.len)
            have hpm := HOK.out.le
            unfold maxLen at hpm
            clear HOK
            go_wp2_with fail
            go_loopw [101] (fun x wv => ∃ z : Nat, z ≤ pn ∧ x = .int .i64 (z : Int) ∧ Hid (Over wm wv g pn)) (fun x _ => pn - (intOf x).toNat)
            case atStart => exact ⟨0, Nat.zero_le _, rfl, Lib.hid (Over.start HRM.out.has HLN.out)⟩
            case round =>
              obtain ⟨z, hz, rfl, HO⟩ := hrel
              have e0 := (HO.out.wrote.other HQG.out (i * 2)).trans d0
              have e1 := (HO.out.wrote.other HQG.out (i * 2 + 1)).trans d1
              by_cases hzt : z < pn
              case pos =>
                obtain ⟨cc, hcell⟩ := HO.out.at hzt
                have hf0 := HRM.out.free z (by rw [HLN.out]; exact hzt)
                rw [Nat.zero_add] at hf0
                have hfz := (HO.out.wrote.frz ⟨g, z, none⟩).trans hf0
                have HON := Lib.hid (HO.out.next hzt (((cc.toNat : Int) + 1) % 256) (cc + 1) (succ8 cc))
                have hzc : (z : Int) < (pn : Int) := by omega
                clear e1 d0 d1 hfq
                go_wp2_with fail
                go_roundw
                case rel => exact ⟨z + 1, by omega, by go_num, Lib.hid HON.out⟩
                case measure => simp [intOf]; omega
              case neg =>
                obtain rfl : z = pn := by omega
                have hf2 := (HO.out.wrote.frz ⟨q, i * 2 + 1, none⟩).trans hfq
                obtain ⟨m2, MS⟩ := HMI.out.step him (by rw [HML.out]) HQG.out HGA.out HO.out.wrote (ppr + 1)
                have HMS := Lib.hid MS
                have HBS := Lib.hid (HBE.out.step (k := i * 2 + 1) (u := .int .u64 ((ppr + 1).toNat : Int)) HO.out.wrote HGL.out HQW.out)
                have HB2 := Lib.hid ((HB.out.trans (HO.out.wrote.below HGB.out)).setCell (p := ⟨q, i * 2 + 1, none⟩) HQB.out (.int .u64 ((ppr + 1).toNat : Int)))
                have HS64 := Lib.hid (succ64 ppr)
                clear MS HMI HBE HB d0 d1 hfq HRM
                go_wp2_with fail
                rw [HS64.out]
                go_roundw
                case rel => exact ⟨i + 1, by omega, by go_num, Lib.hid ⟨m2, HMS.out⟩, HBS, HB2⟩
                case measure => simp [intOf]; omega
        case neg =>
          obtain rfl : i = k := by omega
          clear HMI
          by_cases e1 : k1 = 0
          case neg =>
            have e1b : (k1 == 0) = false := by rw [beq_eq_false_iff_ne]; exact e1
            go_wp2_with fail
            refine (HA.out _ HB.out).mono ?_
            rintro e wl ⟨rfl, kl⟩
            go_wp2_with fail
            go_ret
            exact ⟨rfl, kl⟩
          subst e1
          clear hu2 hu3
          obtain ⟨a, b, rfl, -, -, T1⟩ := HBE.out.1 HK1.out
          have HT := Lib.hid T1
          clear T1 HBE
          go_wp2_with fail
          go_loopw [129] (fun x wr => ∃ z : Nat, z ≤ n2 ∧ x = .int .i64 (z : Int) ∧ Hid (Tab wr a b (tells l) rest) ∧ Hid (Below w.heap.size w wr)) (fun x _ => n2 - (intOf x).toNat)
          case atStart => exact ⟨0, Nat.zero_le _, rfl, HT, HB⟩
          case round =>
            obtain ⟨z, hz, rfl, HTq, HBq⟩ := hrel
            clear HT HB
            have HT := HTq
            have HB := HBq
            clear HTq HBq
            by_cases hlt2 : z < n2
            case pos =>
              have hzi : (z : Int) < (n2 : Int) := by omega
              have HO := Lib.hid (HO0.out.kept HB.out)
              have hzl : z < l2.length := by rw [HO.out.el]; exact hlt2
              obtain ⟨pb, po, hA, hpb, c1⟩ := HO.out.at hlt2
              have HOK := Lib.hid (HO.out.ok l2[z] (List.getElem_mem hzl))
              generalize l2[z] = p at c1 HOK
              obtain ⟨pA, pn, pc, pbs⟩ := p
              simp only at c1
              subst hA
              clear HO
              go_wp2_with fail
              refine (again_room pA pn pc pbs HOK.out.len _ HOK.out.le HOK.out.told).mono ?_
              rintro e v1 ⟨g, cg, rfl, hR, -, kk⟩
              replace HT := Lib.hid (HT.out.kept kk)
              replace HOK := Lib.hid (HOK.out.kept kk)
              replace HB := Lib.hid (HB.out.trans (kk.mono HB.out.size))
              have HR := Lib.hid hR
              clear hR c1
              clear kk
              go_wp2_with fail
              refine (print_tab HT.out (some ⟨g, 0, none⟩) pn cg pbs HOK.out.len HR.out.told).mono ?_
              rintro e v2 ⟨rfl, kk⟩
              replace HT := Lib.hid (HT.out.kept kk)
              replace HOK := Lib.hid (HOK.out.kept kk)
              replace HR := Lib.hid (HR.out.kept kk)
              replace HB := Lib.hid (HB.out.trans (kk.mono HB.out.size))
              clear kk
              go_wp2_with fail
              refine (rprint_any (HP0.out.kept HB.out) (by omega) rest _ rfl pA pn pc pbs HOK.out.len HOK.out.told).mono ?_
              rintro e v9 ⟨rfl, hs⟩
              have kk := hs.below v2.heap.size
              clear hs
              replace HT := Lib.hid (HT.out.kept kk)
              replace HOK := Lib.hid (HOK.out.kept kk)
              replace HR := Lib.hid (HR.out.kept kk)
              replace HB := Lib.hid (HB.out.trans (kk.mono HB.out.size))
              clear kk
              generalize (pout (tells l) rest pbs).1 = pp
              generalize (pout (tells l) rest pbs).2 = pe
              go_wp2_with fail
              refine (equal_yes (some ⟨g, 0, none⟩) pA pn pn cg pc pbs pbs rfl HOK.out.len HOK.out.len _ HR.out.told HOK.out.told).mono ?_
              rintro e wq ⟨rfl, rfl⟩
              go_wp2_with fail
              go_roundw
              case rel => exact ⟨z + 1, by omega, by go_num, HT, HB⟩
              case measure => simp [intOf]; omega
            case neg =>
              obtain rfl : z = n2 := by omega
              go_wp2_with fail
              refine (len_is HT.out (i : Int) (by rw [length_tells, HL.out])).mono ?_
              rintro e wq ⟨rfl, rfl⟩
              go_wp2_with fail
              refine (unlike_is HT.out (unlike (tells l) rest) rfl).mono ?_
              rintro e v1 ⟨rfl, kk⟩
              replace HT := Lib.hid (HT.out.kept kk)
              replace HB := Lib.hid (HB.out.trans (kk.mono HB.out.size))
              clear kk
              go_wp2_with fail
              refine (runlike_any (HP0.out.kept HB.out) (by omega) rest _ rfl).mono ?_
              rintro e v9 ⟨rfl, hs⟩
              have kk := hs.below v1.heap.size
              clear hs
              replace HT := Lib.hid (HT.out.kept kk)
              replace HB := Lib.hid (HB.out.trans (kk.mono HB.out.size))
              clear kk
              generalize unlike (tells l) rest = ub
              go_wp2_with fail
              refine (HA.out _ HB.out).mono ?_
              rintro e wl ⟨rfl, kl⟩
              go_wp2_with fail
              go_ret
              exact ⟨rfl, kl⟩
end Go.Proofs.Ytbhajmecaemafaa.Tb
