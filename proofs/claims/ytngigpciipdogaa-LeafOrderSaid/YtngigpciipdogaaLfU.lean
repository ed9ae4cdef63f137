/- The walk of the statement LeafOrder. -/
import Derived.Test.YtngigpciipdogaaLfQ
import Derived.Test.YtngigpciipdogaaLfK
import Derived.Deep.DeepCutAuto
import Derived.IntWalk
import Derived.Test.YtngigpciipdogaaInv2
import Derived.Deep.RegionHeld3
namespace Go.Proofs.Ytngigpciipdogaa.Lf
open Go.RowKit Go.Proofs.Ytngigpciipdogaa.Oct
set_option linter.unusedVariables false

/-- A node built in a region, and its two rows, all apart. -/
structure Built (w4 W : World) (q gk gv : Nat) (l : Bool) (n : Nat) (ks vs : List UInt64) : Prop where
  md : Made2 w4 W q gk gv l n n ks vs
  kv : gk ≠ gv
  kq : gk ≠ q
  vq : gv ≠ q
  bk : w4.heap.size ≤ gk
  bv : w4.heap.size ≤ gv
  bq : w4.heap.size ≤ q
  f : ∀ i, W.frozen? ⟨q, i, none⟩ = false
/-- The node with a place less. -/
structure Less (w0 w : World) (q : Nat) (l : Bool) (A : Option Addr) (n c : Nat) (B : Option Addr) (d : Nat) (ks vs : List UInt64) : Prop where
  v : Var w q l A n c B n d
  nd : Nd w A n c B n d ks vs
  bw : Below w0.heap.size w0 w
theorem pair_set {w : World} {a i j : Nat} (hij : i ≠ j) (v : Value) : (w.setCell ⟨a, i, none⟩ v).cell? ⟨a, j, none⟩ = w.cell? ⟨a, j, none⟩ := World.cell?_setCell_other _ _ _ _ (fun e => hij (Addr.mk.inj e).2.1)
theorem less12 {w0 w : World} {q n c d : Nat} {l : Bool} {A B : Option Addr} {ks vs : List UInt64} {x y : Value} (P : Pair w0 w q w0.heap.size (.slice A n c) (.slice B n d) ks vs) (c0 : w.cell? ⟨q, 0, none⟩ = some (.bool l)) (c1 : w.cell? ⟨q, 1, none⟩ = some x) (c2 : w.cell? ⟨q, 2, none⟩ = some y) (hk : ks.length = n) (hv : vs.length = n) :
    Less w0 ((w.setCell ⟨q, 1, none⟩ (.slice A n c)).setCell ⟨q, 2, none⟩ (.slice B n d)) q l A n c B d ks vs :=
  ⟨⟨(pair_set (by omega) _).trans ((pair_set (by omega) _).trans c0), (pair_set (by omega) _).trans (set_same c1), set_same ((pair_set (by omega) _).trans c2), by simpa using P.lt⟩, ((P.store _ _).store _ _).nd hk hv, ((P.store _ _).store _ _).bw⟩
theorem less21 {w0 w : World} {q n c d : Nat} {l : Bool} {A B : Option Addr} {ks vs : List UInt64} {x y : Value} (P : Pair w0 w q w0.heap.size (.slice A n c) (.slice B n d) ks vs) (c0 : w.cell? ⟨q, 0, none⟩ = some (.bool l)) (c1 : w.cell? ⟨q, 1, none⟩ = some x) (c2 : w.cell? ⟨q, 2, none⟩ = some y) (hk : ks.length = n) (hv : vs.length = n) :
    Less w0 ((w.setCell ⟨q, 2, none⟩ (.slice B n d)).setCell ⟨q, 1, none⟩ (.slice A n c)) q l A n c B d ks vs :=
  ⟨⟨(pair_set (by omega) _).trans ((pair_set (by omega) _).trans c0), set_same ((pair_set (by omega) _).trans c1), (pair_set (by omega) _).trans (set_same c2), by simpa using P.lt⟩, ((P.store _ _).store _ _).nd hk hv, ((P.store _ _).store _ _).bw⟩
theorem built_alloc {w4 wk wv : World} {gk gv n : Nat} {ks vs : List UInt64} (l : Bool) (FK : FreshN w4.drew wk gk ks) (FV : FreshN wk wv gv vs) (BV : Below w4.heap.size w4 wv) :
    Built w4 (wv.alloc (.cells #[.bool l, .slice (some ⟨gk, 0, none⟩) n n, .slice (some ⟨gv, 0, none⟩) n n] 24)) wv.heap.size gk gv l n ks vs := by
  have h1 : w4.heap.size ≤ gk := by have := FK.lo; simpa using this
  have h2 := FK.hi
  have h3 := FV.lo
  have h4 := FV.hi
  exact ⟨made2_alloc l FK FV BV, by omega, by omega, by omega, h1, by omega, by omega, fun i => box_free wv _ _ i⟩
theorem built_set {w4 W1 W2 wk wv : World} {a gk gv n : Nat} {ks vs : List UInt64} (l : Bool) (FK : FreshN W1 wk gk ks) (FV : FreshN W2 wv gv vs) (h2 : Below wk.heap.size wk W2) (BV : Below w4.heap.size w4 wv) (Z : Res wv a) (ha : w4.heap.size ≤ a) (hk : a ≠ gk) (hv : a ≠ gv)
    (h1 : w4.heap.size ≤ W1.heap.size) (h3 : w4.heap.size ≤ gv) (h4 : gk ≠ gv) :
    Built w4 (((wv.setCell ⟨a, 0, none⟩ (.bool l)).setCell ⟨a, 1, none⟩ (.slice (some ⟨gk, 0, none⟩) n n)).setCell ⟨a, 2, none⟩ (.slice (some ⟨gv, 0, none⟩) n n)) a gk gv l n ks vs :=
  ⟨made2_set l FK FV h2 BV Z ha hk hv, h4, fun e => hk e.symm, fun e => hv e.symm, Nat.le_trans h1 FK.lo, h3, ha, fun i => by simpa using Z.f i⟩

theorem turned_done {we wf W0 : World} {q gk gv m : Nat} {l : Bool} {ks vs : List UInt64} (H : Built we wf q gk gv l m ks vs) (S : Still wf W0) (hk : ks.length = m) (hv : vs.length = m) (hm : m ≤ 1000) (i k : Nat) (x y : UInt64) :
    Var ((W0.setCell ⟨gk, i, none⟩ (.int .u64 (x.toNat : Int))).setCell ⟨gk, k, none⟩ (.int .u64 (y.toNat : Int))) q l (some ⟨gk, 0, none⟩) m m (some ⟨gv, 0, none⟩) m m ∧
    Nd ((W0.setCell ⟨gk, i, none⟩ (.int .u64 (x.toNat : Int))).setCell ⟨gk, k, none⟩ (.int .u64 (y.toNat : Int))) (some ⟨gk, 0, none⟩) m m (some ⟨gv, 0, none⟩) m m ((ks.set i x).set k y) vs ∧
    Below we.heap.size we ((W0.setCell ⟨gk, i, none⟩ (.int .u64 (x.toNat : Int))).setCell ⟨gk, k, none⟩ (.int .u64 (y.toNat : Int))) := by
  have hc : ∀ j, ((W0.setCell ⟨gk, i, none⟩ (.int .u64 (x.toNat : Int))).setCell ⟨gk, k, none⟩ (.int .u64 (y.toNat : Int))).cell? ⟨q, j, none⟩ = wf.cell? ⟨q, j, none⟩ := fun j =>
    (World.cell?_setCell_other _ _ _ _ (fun e => H.kq (Addr.mk.inj e).1)).trans ((World.cell?_setCell_other _ _ _ _ (fun e => H.kq (Addr.mk.inj e).1)).trans (S.cell _))
  have rk : RowN W0 gk 28 ks := by have := H.md.rk; unfold RowN at *; rw [S.heap]; exact this
  have rv : RowN W0 gv 28 vs := by have := H.md.rv; unfold RowN at *; rw [S.heap]; exact this
  have hm' : m ≤ maxLen := by unfold maxLen; omega
  refine ⟨⟨(hc 0).trans H.md.n0, (hc 1).trans H.md.n1, (hc 2).trans H.md.n2, ?_⟩, ⟨by simp [hk], hv, Nat.le_refl _, hm', Nat.le_refl _, hm', ((rk.set i x).set k y).has.told, ((rv.other (fun e => H.kv e.symm)).other (fun e => H.kv e.symm)).has.told⟩, ?_⟩
  · have := World.block_lt_of_cell? _ _ ((hc 0).trans H.md.n0)
    exact this
  · exact ((H.md.below.trans (S.below _)).setCell (p := ⟨gk, i, none⟩) H.bk _).setCell (p := ⟨gk, k, none⟩) H.bk _

theorem if_wanted {c : Bool} {A B : Prop} (h : c = true) (a : A) : if c = true then A else B := by rw [if_pos h]; exact a
theorem wp_append_run {P : Program} {w : World} {o : Oper} {a : Act} {K : Act → World → Prop} {Q : Exit → Act → World → Prop} (s x : Operand) (t : TypeId)
    (ho : o.op = .call { callee := .builtin .append, args := #[s, x], argTypes := #[t, t] }) (v1 v2 : Value) (hs : a.eval s = v1) (hx : a.eval x = v2) (v' : Value) (w' : World)
    (hrun : (Builtin.append_ #[t, t] o.type #[v1, v2]).run P w = .ok v' w') (h : K (a.put o.dst v') w') : o.wp P a w K Q := by
  unfold Oper.wp
  simp [execOp, ho, resolve, invoke, builtin, hs, hx, hrun, Result.andThen]
  exact h
set_option maxRecDepth 100000 in
set_option maxHeartbeats 40000000 in
theorem order_walk (l : Bool) (A : Option Addr) (n c : Nat) (B : Option Addr) (m d : Nat) (ks vs : List UInt64) (za zb : Int) (w : World) (h : Nd w A n c B m d ks vs) (ha : (Lit.int .u8 za).wf = true) (hb : (Lit.int .u8 zb).wf = true) :
    Calls Try.prog 3 #[.agg #[.bool l, .slice A n c, .slice B m d], .int .u8 za, .int .u8 zb] w fun e w' => e = .returned (.bool true) ∧ Below w.heap.size w w' := by
  obtain ⟨a, rfl⟩ := u8_of ha
  obtain ⟨b, rfl⟩ := u8_of hb
  clear ha hb
  have HD0 := Lib.hid h
  have HD := Lib.hid (h.boxed (.cells #[.bool l, .slice A n c, .slice B m d] 24))
  have BX := Lib.hid (var_new w l A n c B m d)
  have BB := Lib.hid ((Below.refl w.heap.size w).alloc (Nat.le_refl _) (.cells #[.bool l, .slice A n c, .slice B m d] 24))
  have ha8 := a.toNat_lt
  have hb8 := b.toNat_lt
  have HA := Lib.hid (show ∀ w2 : World, Below w.heap.size w w2 → Calls Try.prog 5 #[] w2 fun e w' => e = .returned (.bool true) ∧ Below w.heap.size w w' from fun w2 k => (awake_any w2).mono fun e w' ⟨h1, h2⟩ => ⟨h1, k.trans (h2.mono k.size)⟩)
  clear h
  by_cases hn : n ≤ 20
  · by_cases hm : m ≤ 20
    · go_enter Try.func3, Try.ntmps3
      go_wp2_with fail
      generalize w.alloc (.cells #[.bool l, .slice A n c, .slice B m d] 24) = w1 at *
      refine (right_any l HD.out (by omega) (by omega)).mono ?_
      rintro e w2 ⟨rfl, B2⟩
      have X2 := Lib.hid (BX.out.below B2 BX.out.lt)
      have D2 := Lib.hid (HD.out.below B2)
      have Y2 := Lib.hid (BB.out.trans (B2.mono BB.out.size))
      clear B2 BX HD BB
      obtain ⟨a0, a1, a2, alt⟩ := X2.out
      by_cases hf : Fit l ks vs
      · rw [decide_eq_true hf]
        have HF := Lib.hid hf
        obtain rfl : m = n := by rw [← D2.out.kl, ← D2.out.vl]; exact hf.2.1
        have hn7 : m ≤ 7 := by have := hf.1; rw [D2.out.kl] at this; exact this
        clear hf
        by_cases h0 : m = 0
        · subst h0
          go_wp2_with fail
          refine (HA.out _ Y2.out).mono ?_
          rintro e w3 ⟨rfl, B3⟩
          go_wp2_with fail
          go_ret
          exact ⟨rfl, B3⟩
        · have hm0 : 0 < m := by omega
          have hmz : ¬ (m : Int) = 0 := by omega
          have hmz2 : ((m : Int) == 0) = false := by simp; omega
          go_wp2_with fail
          go_cut [7, 8] (fun s7 s8 wx => ∃ i k : Nat, s7 = .int .i64 (i : Int) ∧ s8 = .int .i64 (k : Int) ∧ i < m ∧ k < m ∧ Hid (Below w2.heap.size w2 wx))
          case first => as_aux_lemma =>
            go_region
            all_goals
              go_wp2_with fail
              go_meet
              exact ⟨a.toNat % m, b.toNat % m, by simp, by simp, Nat.mod_lt _ hm0, Nat.mod_lt _ hm0, Lib.hid ((Still.drew _).below _)⟩
          case rest =>
            obtain ⟨i, k, rfl, rfl, hi, hk, HC⟩ := hcut
            obtain ⟨wa, hwa⟩ : ∃ x, x = wc := ⟨_, rfl⟩
            subst hwa
            have X3 := Lib.hid (X2.out.below HC.out X2.out.lt)
            have D3 := Lib.hid (D2.out.below HC.out)
            have Y3 := Lib.hid (Y2.out.trans (HC.out.mono Y2.out.size))
            clear a0 a1 a2 alt X2 D2 Y2 HC
            obtain ⟨c0, c1, c2, hlt⟩ := X3.out
            have hcm := D3.out.km
            have hdm := D3.out.vm
            have hmc := D3.out.kc
            have hmd := D3.out.vc
            have HLK := Lib.hid (show (ks.take i).length = i by rw [List.length_take, D3.out.kl]; omega)
            have HLV := Lib.hid (show (vs.take i).length = i by rw [List.length_take, D3.out.vl]; omega)
            have KS := Lib.hid (show ∀ w', Below wa.heap.size wa w' → (w'.cell? ⟨w.heap.size, 0, none⟩ = some (.bool l) ∧ w'.cell? ⟨w.heap.size, 1, none⟩ = some (.slice A m c) ∧ w'.cell? ⟨w.heap.size, 2, none⟩ = some (.slice B m d)) from fun w' q => let x := X3.out.below q hlt; ⟨x.a0, x.a1, x.a2⟩)
            have HTK := Lib.hid (show ∀ w', Below wa.heap.size wa w' → ToldN w' A (ks.take i) from fun w' q => (D3.out.ks.below q).pre i)
            have HTV := Lib.hid (show ∀ w', Below wa.heap.size wa w' → ToldN w' B (vs.take i) from fun w' q => (D3.out.vs.below q).pre i)
            have hs1 := fun w' => run_nums_head w' A m c i (by omega) hmc hcm
            have hs2 := fun w' => run_nums_head w' B m d i (by omega) hmd hdm
            go_wp2_with fail
            go_cut [9] (fun s9 wx => ∃ q gk gv : Nat, s9 = .pointer (some ⟨q, 0, none⟩) ∧ Hid (Built wa wx q gk gv l i (ks.take i) (vs.take i)))
            case first => as_aux_lemma =>
              go_region_held3 (fun w' => w'.cell? ⟨w.heap.size, 0, none⟩ = some (.bool l) ∧ w'.cell? ⟨w.heap.size, 1, none⟩ = some (.slice A m c) ∧ w'.cell? ⟨w.heap.size, 2, none⟩ = some (.slice B m d)) ((refine KS.out _ ?_; (repeat' (first | with_reducible exact Below.refl _ _ | with_reducible exact HBK.out | with_reducible exact HBV.out | with_reducible refine Below.drew ?_ | with_reducible refine Below.setCell ?_ (by first | exact HBV.out.size | exact HBK.out.size | exact Nat.le_refl _) _ | with_reducible refine Below.alloc ?_ (by first | exact HBV.out.size | exact HBK.out.size | exact Nat.le_refl _) _)))) (first | (go_at_call 6; with_reducible refine (againn_any A i c (ks.take i) HLK.out _ (by omega) ?_).mono ?_; exact HTK.out _ (by (repeat' (first | with_reducible exact Below.refl _ _ | with_reducible exact HBK.out | with_reducible exact HBV.out | with_reducible refine Below.drew ?_ | with_reducible refine Below.setCell ?_ (by first | exact HBV.out.size | exact HBK.out.size | exact Nat.le_refl _) _ | with_reducible refine Below.alloc ?_ (by first | exact HBV.out.size | exact HBK.out.size | exact Nat.le_refl _) _))); rintro e wk ⟨gk, rfl, Fk⟩; have HBK := Lib.hid (show Below wa.heap.size wa wk from Below.trans (by (repeat' (first | with_reducible exact Below.refl _ _ | with_reducible exact HBK.out | with_reducible exact HBV.out | with_reducible refine Below.drew ?_ | with_reducible refine Below.setCell ?_ (by first | exact HBV.out.size | exact HBK.out.size | exact Nat.le_refl _) _ | with_reducible refine Below.alloc ?_ (by first | exact HBV.out.size | exact HBK.out.size | exact Nat.le_refl _) _))) (Fk.below.mono (Below.size (B := wa.heap.size) (by (repeat' (first | with_reducible exact Below.refl wa.heap.size wa | with_reducible exact HBK.out | with_reducible exact HBV.out | with_reducible refine Below.drew ?_ | with_reducible refine Below.setCell ?_ (by first | exact HBV.out.size | exact HBK.out.size | exact Nat.le_refl _) _ | with_reducible refine Below.alloc ?_ (by first | exact HBV.out.size | exact HBK.out.size | exact Nat.le_refl _) _)))))); have HZK := Lib.hid (fun a (h : Res _ a) => h.below Fk.below h.lt); have HFK := Lib.hid Fk; clear Fk; (try (first | (with_reducible have ZZ := HZK.out _ ZZ) | (with_reducible have ZZ := HZK.out _ (res_new wv)) | (with_reducible have ZZ := HZK.out _ ((res_new wa).still (Still.drew _)))); (try (have z0 := ZZ.c0; have z1 := ZZ.c1; have z2 := ZZ.c2; have zf0 := ZZ.f 0; have zf1 := ZZ.f 1; have zf2 := ZZ.f 2; have zlt := ZZ.lt)))) | (go_at_call 6; with_reducible refine (againn_any B i d (vs.take i) HLV.out _ (by omega) ?_).mono ?_; exact HTV.out _ (by (repeat' (first | with_reducible exact Below.refl _ _ | with_reducible exact HBK.out | with_reducible exact HBV.out | with_reducible refine Below.drew ?_ | with_reducible refine Below.setCell ?_ (by first | exact HBV.out.size | exact HBK.out.size | exact Nat.le_refl _) _ | with_reducible refine Below.alloc ?_ (by first | exact HBV.out.size | exact HBK.out.size | exact Nat.le_refl _) _))); rintro e wv ⟨gv, rfl, Fv⟩; have HBV := Lib.hid (show Below wa.heap.size wa wv from Below.trans (by (repeat' (first | with_reducible exact Below.refl _ _ | with_reducible exact HBK.out | with_reducible exact HBV.out | with_reducible refine Below.drew ?_ | with_reducible refine Below.setCell ?_ (by first | exact HBV.out.size | exact HBK.out.size | exact Nat.le_refl _) _ | with_reducible refine Below.alloc ?_ (by first | exact HBV.out.size | exact HBK.out.size | exact Nat.le_refl _) _))) (Fv.below.mono (Below.size (B := wa.heap.size) (by (repeat' (first | with_reducible exact Below.refl wa.heap.size wa | with_reducible exact HBK.out | with_reducible exact HBV.out | with_reducible refine Below.drew ?_ | with_reducible refine Below.setCell ?_ (by first | exact HBV.out.size | exact HBK.out.size | exact Nat.le_refl _) _ | with_reducible refine Below.alloc ?_ (by first | exact HBV.out.size | exact HBK.out.size | exact Nat.le_refl _) _)))))); have HZV := Lib.hid (fun a (h : Res _ a) => h.below Fv.below h.lt); have HFV := Lib.hid Fv; clear Fv; (try (first | (with_reducible have ZZ := HZV.out _ ZZ) | (with_reducible have ZZ := HZV.out _ (res_new wk)) | (with_reducible have ZZ := HZV.out _ ((res_new wa).still (Still.drew _)))); (try (have z0 := ZZ.c0; have z1 := ZZ.c1; have z2 := ZZ.c2; have zf0 := ZZ.f 0; have zf1 := ZZ.f 1; have zf2 := ZZ.f 2; have zlt := ZZ.lt)))))
              all_goals
                go_wp2_with fail
                go_meet
                first
                  | (exact ⟨_, gk, gv, rfl, Lib.hid (built_alloc (w4 := wa) (n := i) l HFK.out HFV.out HBV.out)⟩)
                  | (exact ⟨_, gk, gv, rfl, Lib.hid (built_set (w4 := wa) (n := i) l HFK.out HFV.out ((Below.refl wk.heap.size wk).alloc (Nat.le_refl _) _) HBV.out ZZ HBK.out.size (by have := HFK.out.hi; omega) (by have := HFV.out.lo; simp at this; omega) (by simp) (by have := HBK.out.size; have := HFV.out.lo; simp at this; omega) (by have := HFK.out.hi; have := HFV.out.lo; simp at this; omega))⟩)
                  | (exact ⟨_, gk, gv, rfl, Lib.hid (built_set (w4 := wa) (n := i) l HFK.out HFV.out (Below.refl wk.heap.size wk) HBV.out ZZ (Nat.le_refl _) (by have := HFK.out.lo; simp at this; omega) (by have := HFV.out.lo; have := HBK.out.size; have := HFK.out.hi; have := HFK.out.lo; simp at *; omega) (by simp) (by have := HBK.out.size; have := HFV.out.lo; omega) (by have := HFK.out.hi; have := HFV.out.lo; omega))⟩)
            case rest =>
              obtain ⟨q, gk, gv, rfl, HBT⟩ := hcut
              obtain ⟨wb, hwb⟩ : ∃ x, x = wc := ⟨_, rfl⟩
              subst hwb
              clear hs1 hs2 HTK HTV c0 c1 c2
              have DB := Lib.hid (D3.out.below HBT.out.md.below)
              obtain ⟨bA, oA, rfl, hA⟩ := D3.out.ks.has (by rw [D3.out.kl]; exact hm0)
              obtain ⟨bB, oB, rfl, hB⟩ := D3.out.vs.has (by rw [D3.out.vl]; exact hm0)
              obtain ⟨xA, hsa0, hta⟩ := run_nums_tail bA oA m c (i + 1) ks D3.out.kl (by omega) hmc hcm
              obtain ⟨xB, hsb0, htb⟩ := run_nums_tail bB oB m d (i + 1) vs D3.out.vl (by omega) hmd hdm
              have hix : ((i + 1 : Nat) : Int) = (i : Int) + 1 := by omega
              rw [hix] at hsa0 hsb0
              have hw1 : IntKind.i64.wrap ((i : Int) + 1) = (i : Int) + 1 := IntWalk.i64_in _ (by omega)
              have HTA := Lib.hid (show ∀ w', Below wa.heap.size wa w' → ToldN w' (some xA) (ks.drop (i + 1)) from fun w' q => hta w' (hA.below (hA.lt (by rw [D3.out.kl]; exact hm0)) q))
              have HTB := Lib.hid (show ∀ w', Below wa.heap.size wa w' → ToldN w' (some xB) (vs.drop (i + 1)) from fun w' q => htb w' (hB.below (hB.lt (by rw [D3.out.vl]; exact hm0)) q))
              have HDA := Lib.hid (show (ks.drop (i + 1)).length = m - (i + 1) by rw [List.length_drop, D3.out.kl])
              have HDB := Lib.hid (show (vs.drop (i + 1)).length = m - (i + 1) by rw [List.length_drop, D3.out.vl])
              have HNA := Lib.hid (show (ks.take i ++ ks.drop (i + 1)).length = m - 1 by rw [less_len ks i (by rw [D3.out.kl]; exact hi), D3.out.kl])
              have HNB := Lib.hid (show (vs.take i ++ vs.drop (i + 1)).length = m - 1 by rw [less_len vs i (by rw [D3.out.vl]; exact hi), D3.out.vl])
              have HSA := Lib.hid hsa0
              have HSB := Lib.hid hsb0
              have PD := Lib.hid ((show Pair wa wb q wa.heap.size (.slice (some ⟨gk, 0, none⟩) i i) (.slice (some ⟨gv, 0, none⟩) i i) (ks.take i) (vs.take i) from
                ⟨by have := OwnN.row HBT.out.md.rk HBT.out.bk (by rw [HLK.out]; omega); rwa [HLK.out] at this, by have := OwnN.row HBT.out.md.rv HBT.out.bv (by rw [HLV.out]; omega); rwa [HLV.out] at this,
                  fun k e e2 => HBT.out.kv (by simp [Value.ownBlock] at e e2; omega), fun e => HBT.out.kq (by simpa [Value.ownBlock] using e), fun e => HBT.out.vq (by simpa [Value.ownBlock] using e), World.block_lt_of_cell? _ _ HBT.out.md.n0, HBT.out.bq, HBT.out.md.below⟩).still (Still.drew wb))
              obtain ⟨c0, c1, c2⟩ := KS.out wb HBT.out.md.below
              have d0 := HBT.out.md.n0
              have d1 := HBT.out.md.n1
              have d2 := HBT.out.md.n2
              have df := HBT.out.f
              have hqb : wa.heap.size ≤ wb.heap.size := HBT.out.md.below.size
              clear hta htb hA hB hsa0 hsb0
              obtain ⟨mi, hmi⟩ : ∃ x, x = m - (i + 1) := ⟨_, rfl⟩
              obtain ⟨ci, hci⟩ : ∃ x, x = c - (i + 1) := ⟨_, rfl⟩
              obtain ⟨di, hdi⟩ : ∃ x, x = d - (i + 1) := ⟨_, rfl⟩
              obtain ⟨mm, hmm⟩ : ∃ x, x = m - 1 := ⟨_, rfl⟩
              have HSA : Hid (∀ w', (Instr.slice 22 (.slice (some ⟨bA, oA, none⟩) m c) (some (.int .i64 ((i : Int) + 1))) none none).run Try.prog w' = .ok (.slice (some xA) mi ci) w') := by rw [hmi, hci]; exact HSA
              have HSB : Hid (∀ w', (Instr.slice 22 (.slice (some ⟨bB, oB, none⟩) m d) (some (.int .i64 ((i : Int) + 1))) none none).run Try.prog w' = .ok (.slice (some xB) mi di) w') := by rw [hmi, hdi]; exact HSB
              have HDA := Lib.hid (show (ks.drop (i + 1)).length = mi by rw [hmi]; exact HDA.out)
              have HDB := Lib.hid (show (vs.drop (i + 1)).length = mi by rw [hmi]; exact HDB.out)
              have HNA := Lib.hid (show (ks.take i ++ ks.drop (i + 1)).length = mm by rw [hmm]; exact HNA.out)
              have HNB := Lib.hid (show (vs.take i ++ vs.drop (i + 1)).length = mm by rw [hmm]; exact HNB.out)
              have HMM := Lib.hid hmm
              have HMI := Lib.hid hmi
              have hmi7 : mi ≤ 7 := by omega
              clear hmm hmi hci hdi
              have HSK := Lib.hid (show (ks.take i).length + mi ≤ 1000000 by rw [HLK.out]; omega)
              have HSV := Lib.hid (show (vs.take i).length + mi ≤ 1000000 by rw [HLV.out]; omega)
              have hsa := HSA.out
              have hsb := HSB.out
              go_wp2_with fail
              go_cut [] (fun wx => ∃ A2 f2 B2 g2, Hid (Less wa wx q l A2 mm f2 B2 g2 (ks.take i ++ ks.drop (i + 1)) (vs.take i ++ vs.drop (i + 1))))
              case first => as_aux_lemma =>
                have HB := Lib.hid HBT.out.md.below
                refine Inv2.wp_region_inv (fun bq aq wy => ∃ z58 z59 z60 z61 z62 z63 z64 z65 z66 z67 z68 z69 z70 z71 z72 z73 z74 z75, aq = ⟨(List.toArray (Value.agg #[Value.bool l, Value.slice (some { block := bA, off := oA }) m c, Value.slice (some { block := bB, off := oB }) m d] :: Value.int IntKind.u8 ↑a.toNat :: Value.int IntKind.u8 ↑b.toNat :: Value.pointer (some { block := w.heap.size, off := 0 }) :: undef :: undef :: Value.bool false :: Value.int IntKind.i64 ↑i :: Value.int IntKind.i64 ↑k :: Value.pointer (some { block := q, off := 0 }) :: undef :: u11 :: u12 :: u13 :: u14 :: u15 :: u16 :: u17 :: u18 :: u19 :: u20 :: u21 :: u22 :: u23 :: u24 :: u25 :: u26 :: u27 :: u28 :: u29 :: u30 :: u31 :: u32 :: u33 :: u34 :: u35 :: u36 :: u37 :: u38 :: u39 :: u40 :: u41 :: u42 :: u43 :: u44 :: u45 :: u46 :: u47 :: u48 :: u49 :: u50 :: u51 :: u52 :: u53 :: u54 :: u55 :: u56 :: u57 :: z58 :: z59 :: z60 :: z61 :: z62 :: z63 :: z64 :: z65 :: z66 :: z67 :: z68 :: z69 :: z70 :: z71 :: z72 :: z73 :: z74 :: z75 :: u76 :: u77 :: u78 :: u79 :: u80 :: u81 :: u82 :: u83 :: u84 :: u85 :: u86 :: u87 :: u88 :: u89 :: u90 :: u91 :: u92 :: u93 :: u94 :: u95 :: u96 :: u97 :: u98 :: u99 :: u100 :: u101 :: u102 :: u103 :: u104 :: u105 :: u106 :: u107 :: u108 :: u109 :: u110 :: u111 :: u112 :: u113 :: u114 :: u115 :: u116 :: u117 :: u118 :: u119 :: u120 :: u121 :: u122 :: u123 :: [])), []⟩ ∧ Hid ((bq 0 = true → z58 = .pointer (some ⟨q, 1, none⟩)) ∧ (bq 1 = true → z59 = .slice (some ⟨gk, 0, none⟩) i i) ∧ (bq 2 = true → z60 = .pointer (some ⟨w.heap.size, 1, none⟩)) ∧ (bq 3 = true → z61 = .slice (some ⟨bA, oA, none⟩) m c) ∧ (bq 4 = true → z62 = Value.int IntKind.i64 ↑i) ∧ (bq 5 = true → z63 = .int .i64 ((i : Int) + 1)) ∧ (bq 6 = true → z64 = .slice (some xA) mi ci) ∧ (bq 8 = true → z66 = .pointer (some ⟨q, 2, none⟩)) ∧ (bq 9 = true → z67 = .slice (some ⟨gv, 0, none⟩) i i) ∧ (bq 10 = true → z68 = .pointer (some ⟨w.heap.size, 2, none⟩)) ∧ (bq 11 = true → z69 = .slice (some ⟨bB, oB, none⟩) m d) ∧ (bq 12 = true → z70 = Value.int IntKind.i64 ↑i) ∧ (bq 13 = true → z71 = .int .i64 ((i : Int) + 1)) ∧ (bq 14 = true → z72 = .slice (some xB) mi di) ∧ (bq 16 = true → z74 = .pointer (some ⟨q, 1, none⟩)) ∧ (bq 18 = true → z75 = .pointer (some ⟨q, 2, none⟩))) ∧ Hid (Below wa.heap.size wa wy) ∧ Hid ((∃ X Y ns ms x y, Pair wa wy q wa.heap.size X Y ns ms ∧ wy.cell? ⟨q, 0, none⟩ = some (.bool l) ∧ wy.cell? ⟨q, 1, none⟩ = some x ∧ wy.cell? ⟨q, 2, none⟩ = some y ∧ (∀ j, wy.frozen? ⟨q, j, none⟩ = false) ∧ (bq 7 = false → X = .slice (some ⟨gk, 0, none⟩) i i ∧ ns = ks.take i) ∧ (bq 7 = true → z65 = X ∧ (∃ A c, X = .slice A mm c) ∧ ns = (ks.take i ++ ks.drop (i + 1))) ∧ (bq 15 = false → Y = .slice (some ⟨gv, 0, none⟩) i i ∧ ms = vs.take i) ∧ (bq 15 = true → z73 = Y ∧ (∃ A c, Y = .slice A mm c) ∧ ms = (vs.take i ++ vs.drop (i + 1))) ∧ (bq 17 = false → x = .slice (some ⟨gk, 0, none⟩) i i) ∧ (bq 17 = true → x = X) ∧ (bq 19 = false → y = .slice (some ⟨gv, 0, none⟩) i i) ∧ (bq 19 = true → y = Y)) ∧ (bq 17 = true → bq 7 = true) ∧ (bq 7 = true → bq 1 = true) ∧ (bq 19 = true → bq 15 = true) ∧ (bq 15 = true → bq 9 = true))) (by kernel_rfl) (by kernel_rfl) ?startF ?stepsF ?doneF
                case startF =>
                  intro b hb
                  refine ⟨u58, u59, u60, u61, u62, u63, u64, u65, u66, u67, u68, u69, u70, u71, u72, u73, u74, u75, rfl, Lib.hid ⟨?_, ?_, ?_, ?_, ?_, ?_, ?_, ?_, ?_, ?_, ?_, ?_, ?_, ?_, ?_, ?_⟩, Lib.hid (HB.out.trans <| (show Still wb wb.drew from ⟨rfl, rfl, rfl, rfl⟩).below _), Lib.hid (⟨⟨_, _, _, _, _, _, PD.out, d0, d1, d2, df, fun _ => ⟨rfl, rfl⟩, fun e => absurd e (by rw [hb _ (by decide)]; decide), fun _ => ⟨rfl, rfl⟩, fun e => absurd e (by rw [hb _ (by decide)]; decide), fun _ => rfl, fun e => absurd e (by rw [hb _ (by decide)]; decide), fun _ => rfl, fun e => absurd e (by rw [hb _ (by decide)]; decide)⟩, fun e => absurd e (by rw [hb _ (by decide)]; decide), fun e => absurd e (by rw [hb _ (by decide)]; decide), fun e => absurd e (by rw [hb _ (by decide)]; decide), fun e => absurd e (by rw [hb _ (by decide)]; decide)⟩)⟩
                  all_goals (intro e; first | rfl | (rw [hb _ (by decide)] at e; cases e))
                case stepsF =>
                  refine ⟨?_, ?_, ?_, ?_, ?_, ?_, ?_, ?_, ?_, ?_, ?_, ?_, ?_, ?_, ?_, ?_, ?_, ?_, ?_, ?_, trivial⟩
                  · rintro b a wy hb hd ⟨z58, z59, z60, z61, z62, z63, z64, z65, z66, z67, z68, z69, z70, z71, z72, z73, z74, z75, rfl, HV, HW, HX⟩ K hK
                    obtain ⟨h0, h1, h2, h3, h4, h5, h6, h8, h9, h10, h11, h12, h13, h14, h16, h18⟩ := HV.out
                    clear hd
                    go_simp
                    exact hK _ _ ⟨_, _, _, _, _, _, _, _, _, _, _, _, _, _, _, _, _, _, rfl, Lib.hid ⟨fun _ => rfl, h1, h2, h3, h4, h5, h6, h8, h9, h10, h11, h12, h13, h14, h16, h18⟩, HW, HX⟩
                  · rintro b a wy hb hd ⟨z58, z59, z60, z61, z62, z63, z64, z65, z66, z67, z68, z69, z70, z71, z72, z73, z74, z75, rfl, HV, HW, HX⟩ K hK
                    obtain ⟨h0, h1, h2, h3, h4, h5, h6, h8, h9, h10, h11, h12, h13, h14, h16, h18⟩ := HV.out
                    simp [Region.binds] at hd
                    obtain rfl := h0 (by simp [hd])
                    clear hd
                    obtain ⟨⟨X, Y, ns, ms, x, y, P, k0, k1, k2, kf, x7, x7', y15, y15', s17, s17', s19, s19'⟩, o1, o2, o3, o4⟩ := HX.out
                    have n17 : b 17 = false := by
                        cases e : b 17 with
                        | false => rfl
                        | true => have := o2 (o1 e); rw [hb] at this; cases this
                    obtain rfl := s17 n17
                    go_simp
                    exact hK _ _ ⟨_, _, _, _, _, _, _, _, _, _, _, _, _, _, _, _, _, _, rfl, Lib.hid ⟨h0, fun _ => rfl, h2, h3, h4, h5, h6, h8, h9, h10, h11, h12, h13, h14, h16, h18⟩, HW, Lib.hid ⟨HX.out.1, o1, fun _ => rfl, o3, o4⟩⟩
                  · rintro b a wy hb hd ⟨z58, z59, z60, z61, z62, z63, z64, z65, z66, z67, z68, z69, z70, z71, z72, z73, z74, z75, rfl, HV, HW, HX⟩ K hK
                    obtain ⟨h0, h1, h2, h3, h4, h5, h6, h8, h9, h10, h11, h12, h13, h14, h16, h18⟩ := HV.out
                    clear hd
                    go_simp
                    exact hK _ _ ⟨_, _, _, _, _, _, _, _, _, _, _, _, _, _, _, _, _, _, rfl, Lib.hid ⟨h0, h1, fun _ => rfl, h3, h4, h5, h6, h8, h9, h10, h11, h12, h13, h14, h16, h18⟩, HW, HX⟩
                  · rintro b a wy hb hd ⟨z58, z59, z60, z61, z62, z63, z64, z65, z66, z67, z68, z69, z70, z71, z72, z73, z74, z75, rfl, HV, HW, HX⟩ K hK
                    obtain ⟨h0, h1, h2, h3, h4, h5, h6, h8, h9, h10, h11, h12, h13, h14, h16, h18⟩ := HV.out
                    simp [Region.binds] at hd
                    obtain rfl := h2 (by simp [hd])
                    clear hd
                    obtain ⟨c0, c1, c2⟩ := KS.out wy HW.out
                    go_simp
                    exact hK _ _ ⟨_, _, _, _, _, _, _, _, _, _, _, _, _, _, _, _, _, _, rfl, Lib.hid ⟨h0, h1, h2, fun _ => rfl, h4, h5, h6, h8, h9, h10, h11, h12, h13, h14, h16, h18⟩, HW, HX⟩
                  · rintro b a wy hb hd ⟨z58, z59, z60, z61, z62, z63, z64, z65, z66, z67, z68, z69, z70, z71, z72, z73, z74, z75, rfl, HV, HW, HX⟩ K hK
                    obtain ⟨h0, h1, h2, h3, h4, h5, h6, h8, h9, h10, h11, h12, h13, h14, h16, h18⟩ := HV.out
                    clear hd
                    go_simp
                    exact hK _ _ ⟨_, _, _, _, _, _, _, _, _, _, _, _, _, _, _, _, _, _, rfl, Lib.hid ⟨h0, h1, h2, h3, fun _ => rfl, h5, h6, h8, h9, h10, h11, h12, h13, h14, h16, h18⟩, HW, HX⟩
                  · rintro b a wy hb hd ⟨z58, z59, z60, z61, z62, z63, z64, z65, z66, z67, z68, z69, z70, z71, z72, z73, z74, z75, rfl, HV, HW, HX⟩ K hK
                    obtain ⟨h0, h1, h2, h3, h4, h5, h6, h8, h9, h10, h11, h12, h13, h14, h16, h18⟩ := HV.out
                    simp [Region.binds] at hd
                    obtain rfl := h4 (by simp [hd])
                    clear hd
                    go_simp
                    exact hK _ _ ⟨_, _, _, _, _, _, _, _, _, _, _, _, _, _, _, _, _, _, rfl, Lib.hid ⟨h0, h1, h2, h3, h4, fun _ => rfl, h6, h8, h9, h10, h11, h12, h13, h14, h16, h18⟩, HW, HX⟩
                  · rintro b a wy hb hd ⟨z58, z59, z60, z61, z62, z63, z64, z65, z66, z67, z68, z69, z70, z71, z72, z73, z74, z75, rfl, HV, HW, HX⟩ K hK
                    obtain ⟨h0, h1, h2, h3, h4, h5, h6, h8, h9, h10, h11, h12, h13, h14, h16, h18⟩ := HV.out
                    simp [Region.binds] at hd
                    obtain rfl := h3 (by simp [hd])
                    obtain rfl := h5 (by simp [hd])
                    clear hd
                    have hs := HSA.out wy
                    go_simp
                    exact hK _ _ ⟨_, _, _, _, _, _, _, _, _, _, _, _, _, _, _, _, _, _, rfl, Lib.hid ⟨h0, h1, h2, h3, h4, h5, fun _ => rfl, h8, h9, h10, h11, h12, h13, h14, h16, h18⟩, HW, HX⟩
                  · rintro b a wy hb hd ⟨z58, z59, z60, z61, z62, z63, z64, z65, z66, z67, z68, z69, z70, z71, z72, z73, z74, z75, rfl, HV, HW, HX⟩ K hK
                    obtain ⟨h0, h1, h2, h3, h4, h5, h6, h8, h9, h10, h11, h12, h13, h14, h16, h18⟩ := HV.out
                    simp [Region.binds] at hd
                    obtain rfl := h1 (by simp [hd])
                    obtain rfl := h6 (by simp [hd])
                    have d1 : b 1 = true := by simp [hd]
                    clear hd
                    obtain ⟨⟨X, Y, ns, ms, x, y, P, k0, k1, k2, kf, x7, x7', y15, y15', s17, s17', s19, s19'⟩, o1, o2, o3, o4⟩ := HX.out
                    obtain ⟨rfl, rfl⟩ := x7 hb
                    obtain ⟨v', w', hrun, ho', hg', hl'⟩ := run_append_nums wy 22 wa.heap.size _ (ks.take i) (ks.drop (i + 1)) P.ok xA mi ci HDA.out (HTA.out _ P.bw) HSK.out (Nat.le_of_lt (Nat.lt_of_le_of_lt P.ba P.lt))
                    obtain ⟨A', c', rfl, -⟩ := ho'.slice
                    rw [HNA.out] at hrun ho' hl'
                    refine if_wanted (by rfl) (wp_append_run (.tmp 59) (.tmp 64) 22 rfl _ _ rfl rfl _ _ hrun ?_)
                    exact hK _ _ ⟨_, _, _, _, _, _, _, _, _, _, _, _, _, _, _, _, _, _, rfl, Lib.hid ⟨h0, h1, h2, h3, h4, h5, h6, h8, h9, h10, h11, h12, h13, h14, h16, h18⟩, Lib.hid (P.pushK ho' hg' hl').bw, Lib.hid ⟨⟨_, Y, _, ms, x, y, P.pushK ho' hg' hl', (P.cellK hg' 0).trans k0, (P.cellK hg' 1).trans k1, (P.cellK hg' 2).trans k2, fun j => (P.freeK hg' j).trans (kf j), fun e => (by simp [Inv.mark] at e), fun _ => ⟨rfl, ⟨A', c', rfl⟩, rfl⟩, y15, y15', s17, fun e => (by have := o1 e; rw [hb] at this; cases this), s19, s19'⟩, fun _ => rfl, fun _ => d1, o3, o4⟩⟩
                  · rintro b a wy hb hd ⟨z58, z59, z60, z61, z62, z63, z64, z65, z66, z67, z68, z69, z70, z71, z72, z73, z74, z75, rfl, HV, HW, HX⟩ K hK
                    obtain ⟨h0, h1, h2, h3, h4, h5, h6, h8, h9, h10, h11, h12, h13, h14, h16, h18⟩ := HV.out
                    clear hd
                    go_simp
                    exact hK _ _ ⟨_, _, _, _, _, _, _, _, _, _, _, _, _, _, _, _, _, _, rfl, Lib.hid ⟨h0, h1, h2, h3, h4, h5, h6, fun _ => rfl, h9, h10, h11, h12, h13, h14, h16, h18⟩, HW, HX⟩
                  · rintro b a wy hb hd ⟨z58, z59, z60, z61, z62, z63, z64, z65, z66, z67, z68, z69, z70, z71, z72, z73, z74, z75, rfl, HV, HW, HX⟩ K hK
                    obtain ⟨h0, h1, h2, h3, h4, h5, h6, h8, h9, h10, h11, h12, h13, h14, h16, h18⟩ := HV.out
                    simp [Region.binds] at hd
                    obtain rfl := h8 (by simp [hd])
                    clear hd
                    obtain ⟨⟨X, Y, ns, ms, x, y, P, k0, k1, k2, kf, x7, x7', y15, y15', s17, s17', s19, s19'⟩, o1, o2, o3, o4⟩ := HX.out
                    have n19 : b 19 = false := by
                        cases e : b 19 with
                        | false => rfl
                        | true => have := o4 (o3 e); rw [hb] at this; cases this
                    obtain rfl := s19 n19
                    go_simp
                    exact hK _ _ ⟨_, _, _, _, _, _, _, _, _, _, _, _, _, _, _, _, _, _, rfl, Lib.hid ⟨h0, h1, h2, h3, h4, h5, h6, h8, fun _ => rfl, h10, h11, h12, h13, h14, h16, h18⟩, HW, Lib.hid ⟨HX.out.1, o1, o2, o3, fun _ => rfl⟩⟩
                  · rintro b a wy hb hd ⟨z58, z59, z60, z61, z62, z63, z64, z65, z66, z67, z68, z69, z70, z71, z72, z73, z74, z75, rfl, HV, HW, HX⟩ K hK
                    obtain ⟨h0, h1, h2, h3, h4, h5, h6, h8, h9, h10, h11, h12, h13, h14, h16, h18⟩ := HV.out
                    clear hd
                    go_simp
                    exact hK _ _ ⟨_, _, _, _, _, _, _, _, _, _, _, _, _, _, _, _, _, _, rfl, Lib.hid ⟨h0, h1, h2, h3, h4, h5, h6, h8, h9, fun _ => rfl, h11, h12, h13, h14, h16, h18⟩, HW, HX⟩
                  · rintro b a wy hb hd ⟨z58, z59, z60, z61, z62, z63, z64, z65, z66, z67, z68, z69, z70, z71, z72, z73, z74, z75, rfl, HV, HW, HX⟩ K hK
                    obtain ⟨h0, h1, h2, h3, h4, h5, h6, h8, h9, h10, h11, h12, h13, h14, h16, h18⟩ := HV.out
                    simp [Region.binds] at hd
                    obtain rfl := h10 (by simp [hd])
                    clear hd
                    obtain ⟨c0, c1, c2⟩ := KS.out wy HW.out
                    go_simp
                    exact hK _ _ ⟨_, _, _, _, _, _, _, _, _, _, _, _, _, _, _, _, _, _, rfl, Lib.hid ⟨h0, h1, h2, h3, h4, h5, h6, h8, h9, h10, fun _ => rfl, h12, h13, h14, h16, h18⟩, HW, HX⟩
                  · rintro b a wy hb hd ⟨z58, z59, z60, z61, z62, z63, z64, z65, z66, z67, z68, z69, z70, z71, z72, z73, z74, z75, rfl, HV, HW, HX⟩ K hK
                    obtain ⟨h0, h1, h2, h3, h4, h5, h6, h8, h9, h10, h11, h12, h13, h14, h16, h18⟩ := HV.out
                    clear hd
                    go_simp
                    exact hK _ _ ⟨_, _, _, _, _, _, _, _, _, _, _, _, _, _, _, _, _, _, rfl, Lib.hid ⟨h0, h1, h2, h3, h4, h5, h6, h8, h9, h10, h11, fun _ => rfl, h13, h14, h16, h18⟩, HW, HX⟩
                  · rintro b a wy hb hd ⟨z58, z59, z60, z61, z62, z63, z64, z65, z66, z67, z68, z69, z70, z71, z72, z73, z74, z75, rfl, HV, HW, HX⟩ K hK
                    obtain ⟨h0, h1, h2, h3, h4, h5, h6, h8, h9, h10, h11, h12, h13, h14, h16, h18⟩ := HV.out
                    simp [Region.binds] at hd
                    obtain rfl := h12 (by simp [hd])
                    clear hd
                    go_simp
                    exact hK _ _ ⟨_, _, _, _, _, _, _, _, _, _, _, _, _, _, _, _, _, _, rfl, Lib.hid ⟨h0, h1, h2, h3, h4, h5, h6, h8, h9, h10, h11, h12, fun _ => rfl, h14, h16, h18⟩, HW, HX⟩
                  · rintro b a wy hb hd ⟨z58, z59, z60, z61, z62, z63, z64, z65, z66, z67, z68, z69, z70, z71, z72, z73, z74, z75, rfl, HV, HW, HX⟩ K hK
                    obtain ⟨h0, h1, h2, h3, h4, h5, h6, h8, h9, h10, h11, h12, h13, h14, h16, h18⟩ := HV.out
                    simp [Region.binds] at hd
                    obtain rfl := h11 (by simp [hd])
                    obtain rfl := h13 (by simp [hd])
                    clear hd
                    have hs := HSB.out wy
                    go_simp
                    exact hK _ _ ⟨_, _, _, _, _, _, _, _, _, _, _, _, _, _, _, _, _, _, rfl, Lib.hid ⟨h0, h1, h2, h3, h4, h5, h6, h8, h9, h10, h11, h12, h13, fun _ => rfl, h16, h18⟩, HW, HX⟩
                  · rintro b a wy hb hd ⟨z58, z59, z60, z61, z62, z63, z64, z65, z66, z67, z68, z69, z70, z71, z72, z73, z74, z75, rfl, HV, HW, HX⟩ K hK
                    obtain ⟨h0, h1, h2, h3, h4, h5, h6, h8, h9, h10, h11, h12, h13, h14, h16, h18⟩ := HV.out
                    simp [Region.binds] at hd
                    obtain rfl := h9 (by simp [hd])
                    obtain rfl := h14 (by simp [hd])
                    have d9 : b 9 = true := by simp [hd]
                    clear hd
                    obtain ⟨⟨X, Y, ns, ms, x, y, P, k0, k1, k2, kf, x7, x7', y15, y15', s17, s17', s19, s19'⟩, o1, o2, o3, o4⟩ := HX.out
                    obtain ⟨rfl, rfl⟩ := y15 hb
                    obtain ⟨v', w', hrun, ho', hg', hl'⟩ := run_append_nums wy 22 wa.heap.size _ (vs.take i) (vs.drop (i + 1)) P.ov xB mi di HDB.out (HTB.out _ P.bw) HSV.out (Nat.le_of_lt (Nat.lt_of_le_of_lt P.ba P.lt))
                    obtain ⟨A', c', rfl, -⟩ := ho'.slice
                    rw [HNB.out] at hrun ho' hl'
                    refine if_wanted (by rfl) (wp_append_run (.tmp 67) (.tmp 72) 22 rfl _ _ rfl rfl _ _ hrun ?_)
                    exact hK _ _ ⟨_, _, _, _, _, _, _, _, _, _, _, _, _, _, _, _, _, _, rfl, Lib.hid ⟨h0, h1, h2, h3, h4, h5, h6, h8, h9, h10, h11, h12, h13, h14, h16, h18⟩, Lib.hid (P.pushV ho' hg' hl').bw, Lib.hid ⟨⟨X, _, ns, _, x, y, P.pushV ho' hg' hl', (P.cellV hg' 0).trans k0, (P.cellV hg' 1).trans k1, (P.cellV hg' 2).trans k2, fun j => (P.freeV hg' j).trans (kf j), x7, x7', fun e => (by simp [Inv.mark] at e), fun _ => ⟨rfl, ⟨A', c', rfl⟩, rfl⟩, s17, s17', s19, fun e => (by have := o3 e; rw [hb] at this; cases this)⟩, o1, o2, fun _ => rfl, fun _ => d9⟩⟩
                  · rintro b a wy hb hd ⟨z58, z59, z60, z61, z62, z63, z64, z65, z66, z67, z68, z69, z70, z71, z72, z73, z74, z75, rfl, HV, HW, HX⟩ K hK
                    obtain ⟨h0, h1, h2, h3, h4, h5, h6, h8, h9, h10, h11, h12, h13, h14, h16, h18⟩ := HV.out
                    clear hd
                    go_simp
                    exact hK _ _ ⟨_, _, _, _, _, _, _, _, _, _, _, _, _, _, _, _, _, _, rfl, Lib.hid ⟨h0, h1, h2, h3, h4, h5, h6, h8, h9, h10, h11, h12, h13, h14, fun _ => rfl, h18⟩, HW, HX⟩
                  · rintro b a wy hb hd ⟨z58, z59, z60, z61, z62, z63, z64, z65, z66, z67, z68, z69, z70, z71, z72, z73, z74, z75, rfl, HV, HW, HX⟩ K hK
                    obtain ⟨h0, h1, h2, h3, h4, h5, h6, h8, h9, h10, h11, h12, h13, h14, h16, h18⟩ := HV.out
                    simp [Region.binds] at hd
                    obtain rfl := h16 (by simp [hd])
                    have dd7 : b 7 = true := by simp [hd]
                    clear hd
                    have HZ : Hid (∃ A' c', z65 = .slice A' mm c') := Lib.hid (by
                      obtain ⟨⟨X, Y, ns, ms, x, y, P, k0, k1, k2, kf, x7, x7', y15, y15', s17, s17', s19, s19'⟩, o1, o2, o3, o4⟩ := HX.out
                      obtain ⟨e1, ⟨A', c', eX⟩, -⟩ := x7' dd7
                      exact ⟨A', c', e1.trans eX⟩)
                    obtain ⟨A', c', rfl⟩ := HZ.out
                    have hcell : ∃ v, wy.cell? ⟨q, 1, none⟩ = some v := by
                      obtain ⟨⟨X, Y, ns, ms, x, y, P, k0, k1, k2, kf, x7, x7', y15, y15', s17, s17', s19, s19'⟩, o1, o2, o3, o4⟩ := HX.out
                      exact ⟨_, k1⟩
                    obtain ⟨xo, hc⟩ := hcell
                    have hf : wy.frozen? ⟨q, 1, none⟩ = false := by
                      obtain ⟨⟨X, Y, ns, ms, x, y, P, k0, k1, k2, kf, x7, x7', y15, y15', s17, s17', s19, s19'⟩, o1, o2, o3, o4⟩ := HX.out
                      exact kf 1
                    clear HZ
                    go_simp
                    obtain ⟨⟨X, Y, ns, ms, x, y, P, k0, k1, k2, kf, x7, x7', y15, y15', s17, s17', s19, s19'⟩, o1, o2, o3, o4⟩ := HX.out
                    obtain ⟨e65, -, -⟩ := x7' dd7
                    exact hK _ _ ⟨_, _, _, _, _, _, _, _, _, _, _, _, _, _, _, _, _, _, rfl, Lib.hid ⟨h0, h1, h2, h3, h4, h5, h6, h8, h9, h10, h11, h12, h13, h14, h16, h18⟩, Lib.hid (P.store 1 _).bw, Lib.hid ⟨⟨X, Y, ns, ms, _, y, P.store 1 _, (pair_set (by omega) _).trans k0, set_same k1, (pair_set (by omega) _).trans k2, fun j => (by simpa using kf j), x7, x7', y15, y15', fun e => (by simp [Inv.mark] at e), fun _ => e65, s19, s19'⟩, fun _ => dd7, o2, o3, o4⟩⟩
                  · rintro b a wy hb hd ⟨z58, z59, z60, z61, z62, z63, z64, z65, z66, z67, z68, z69, z70, z71, z72, z73, z74, z75, rfl, HV, HW, HX⟩ K hK
                    obtain ⟨h0, h1, h2, h3, h4, h5, h6, h8, h9, h10, h11, h12, h13, h14, h16, h18⟩ := HV.out
                    clear hd
                    go_simp
                    exact hK _ _ ⟨_, _, _, _, _, _, _, _, _, _, _, _, _, _, _, _, _, _, rfl, Lib.hid ⟨h0, h1, h2, h3, h4, h5, h6, h8, h9, h10, h11, h12, h13, h14, h16, fun _ => rfl⟩, HW, HX⟩
                  · rintro b a wy hb hd ⟨z58, z59, z60, z61, z62, z63, z64, z65, z66, z67, z68, z69, z70, z71, z72, z73, z74, z75, rfl, HV, HW, HX⟩ K hK
                    obtain ⟨h0, h1, h2, h3, h4, h5, h6, h8, h9, h10, h11, h12, h13, h14, h16, h18⟩ := HV.out
                    simp [Region.binds] at hd
                    obtain rfl := h18 (by simp [hd])
                    have dd15 : b 15 = true := by simp [hd]
                    clear hd
                    have HZ : Hid (∃ A' c', z73 = .slice A' mm c') := Lib.hid (by
                      obtain ⟨⟨X, Y, ns, ms, x, y, P, k0, k1, k2, kf, x7, x7', y15, y15', s17, s17', s19, s19'⟩, o1, o2, o3, o4⟩ := HX.out
                      obtain ⟨e1, ⟨A', c', eX⟩, -⟩ := y15' dd15
                      exact ⟨A', c', e1.trans eX⟩)
                    obtain ⟨A', c', rfl⟩ := HZ.out
                    have hcell : ∃ v, wy.cell? ⟨q, 2, none⟩ = some v := by
                      obtain ⟨⟨X, Y, ns, ms, x, y, P, k0, k1, k2, kf, x7, x7', y15, y15', s17, s17', s19, s19'⟩, o1, o2, o3, o4⟩ := HX.out
                      exact ⟨_, k2⟩
                    obtain ⟨xo, hc⟩ := hcell
                    have hf : wy.frozen? ⟨q, 2, none⟩ = false := by
                      obtain ⟨⟨X, Y, ns, ms, x, y, P, k0, k1, k2, kf, x7, x7', y15, y15', s17, s17', s19, s19'⟩, o1, o2, o3, o4⟩ := HX.out
                      exact kf 2
                    clear HZ
                    go_simp
                    obtain ⟨⟨X, Y, ns, ms, x, y, P, k0, k1, k2, kf, x7, x7', y15, y15', s17, s17', s19, s19'⟩, o1, o2, o3, o4⟩ := HX.out
                    obtain ⟨e73, -, -⟩ := y15' dd15
                    exact hK _ _ ⟨_, _, _, _, _, _, _, _, _, _, _, _, _, _, _, _, _, _, rfl, Lib.hid ⟨h0, h1, h2, h3, h4, h5, h6, h8, h9, h10, h11, h12, h13, h14, h16, h18⟩, Lib.hid (P.store 2 _).bw, Lib.hid ⟨⟨X, Y, ns, ms, x, _, P.store 2 _, (pair_set (by omega) _).trans k0, (pair_set (by omega) _).trans k1, set_same k2, fun j => (by simpa using kf j), x7, x7', y15, y15', s17, s17', fun e => (by simp [Inv.mark] at e), fun _ => e73⟩, o1, o2, fun _ => dd15, o4⟩⟩
                case doneF =>
                  rintro b a wy hb ⟨z58, z59, z60, z61, z62, z63, z64, z65, z66, z67, z68, z69, z70, z71, z72, z73, z74, z75, rfl, HV, HW, HX⟩
                  obtain ⟨h0, h1, h2, h3, h4, h5, h6, h8, h9, h10, h11, h12, h13, h14, h16, h18⟩ := HV.out
                  obtain rfl := h0 (hb 0)
                  obtain rfl := h1 (hb 1)
                  obtain rfl := h2 (hb 2)
                  obtain rfl := h3 (hb 3)
                  obtain rfl := h4 (hb 4)
                  obtain rfl := h5 (hb 5)
                  obtain rfl := h6 (hb 6)
                  obtain rfl := h8 (hb 8)
                  obtain rfl := h9 (hb 9)
                  obtain rfl := h10 (hb 10)
                  obtain rfl := h11 (hb 11)
                  obtain rfl := h12 (hb 12)
                  obtain rfl := h13 (hb 13)
                  obtain rfl := h14 (hb 14)
                  obtain rfl := h16 (hb 16)
                  obtain rfl := h18 (hb 18)
                  clear HV h0 h1 h2 h3 h4 h5 h6 h8 h9 h10 h11 h12 h13 h14 h16 h18
                  obtain ⟨⟨X, Y, ns, ms, x, y, P, k0, k1, k2, kf, x7, x7', y15, y15', s17, s17', s19, s19'⟩, o1, o2, o3, o4⟩ := HX.out
                  obtain ⟨-, ⟨A2, f2, rfl⟩, rfl⟩ := x7' (hb 7)
                  obtain ⟨-, ⟨B2, g2, rfl⟩, rfl⟩ := y15' (hb 15)
                  obtain rfl := s17' (hb 17)
                  obtain rfl := s19' (hb 19)
                  have HLE := Lib.hid (show Less wa wy q l A2 mm f2 B2 g2 (ks.take i ++ ks.drop (i + 1)) (vs.take i ++ vs.drop (i + 1)) from ⟨⟨k0, k1, k2, P.lt⟩, P.nd HNA.out HNB.out, P.bw⟩)
                  clear hb HX HW P k0 k1 k2 kf x7 x7' y15 y15' s17 s17' s19 s19' o1 o2 o3 o4 c0 c1 c2 d0 d1 d2 df HB PD
                  go_wp2_with fail
                  go_meet
                  exact ⟨_, _, _, _, HLE⟩
              case rest =>
                obtain ⟨A2, f2, B2, g2, HLS⟩ := hcut
                have hmm := HMM.out
                subst hmm
                clear HMM HMI hmi7
                obtain ⟨wd, hwd⟩ : ∃ x, x = wc := ⟨_, rfl⟩
                subst hwd
                clear HTA HTB HDA HDB HNA HNB HSA HSB HSK HSV PD c0 c1 c2 d0 d1 d2 df hqb hsa hsb DB HBT KS HLK HLV hix hw1
                have X4 := Lib.hid (X3.out.below HLS.out.bw X3.out.lt)
                have D4 := Lib.hid (D3.out.below HLS.out.bw)
                have Y4 := Lib.hid (Y3.out.trans (HLS.out.bw.mono Y3.out.size))
                obtain ⟨n0, n1, n2, nlt⟩ := HLS.out.v
                obtain ⟨x0, x1, x2, xlt⟩ := X4.out
                have N4 := Lib.hid (HLS.out.nd.below ((Still.drew wd).below _))
                have HFT := Lib.hid (show decide (Fit l (ks.take i ++ ks.drop (i + 1)) (vs.take i ++ vs.drop (i + 1))) = (l || decide (1 < m)) from by
                  have := fit_less HF.out i (by rw [D3.out.kl]; exact hi)
                  rwa [D3.out.kl] at this)
                have KT := Lib.hid (show ∀ w', Below wd.heap.size wd w' → (w'.cell? ⟨w.heap.size, 0, none⟩ = some (.bool l) ∧ w'.cell? ⟨w.heap.size, 1, none⟩ = some (.slice (some ⟨bA, oA, none⟩) m c) ∧ w'.cell? ⟨q, 0, none⟩ = some (.bool l) ∧ w'.cell? ⟨q, 1, none⟩ = some (.slice A2 (m - 1) f2) ∧ w'.cell? ⟨q, 2, none⟩ = some (.slice B2 (m - 1) g2)) from fun w' qq => let x := X4.out.below qq xlt; let y := HLS.out.v.below qq nlt; ⟨x.a0, x.a1, y.a0, y.a1, y.a2⟩)
                clear X3 D3 Y3
                go_wp2_with fail
                go_cut [86] (fun s86 wx => s86 = .bool false ∧ Hid (Below wd.heap.size wd wx))
                case first => as_aux_lemma =>
                  cases l with
                  | true =>
                    first
                      | (go_region_with (go_at_call 4; refine (right_any true N4.out (by omega) (by omega)).mono ?_; rintro e wr ⟨rfl, Br⟩; rw [HFT.out]; have HBR := Lib.hid (show Below wd.heap.size wd wr from ((Still.drew wd).below _).trans (Br.mono (Nat.le_refl _))); obtain ⟨y0, y1, y2, y3, y4⟩ := KT.out _ HBR.out; clear Br))
                      | fail
                    all_goals
                      go_wp2_with fail
                      go_meet
                      exact ⟨rfl, HBR⟩
                  | false =>
                    by_cases h1m : 1 < m
                    · have h1i : (1 : Int) < (m : Int) := by omega
                      have hft : (false || decide (1 < m)) = true := by simp [h1m]
                      have HFT := Lib.hid (HFT.out.trans hft)
                      go_region_held3 (fun w' => w'.cell? ⟨w.heap.size, 0, none⟩ = some (.bool false) ∧ w'.cell? ⟨w.heap.size, 1, none⟩ = some (.slice (some ⟨bA, oA, none⟩) m c) ∧ w'.cell? ⟨q, 0, none⟩ = some (.bool false) ∧ w'.cell? ⟨q, 1, none⟩ = some (.slice A2 (m - 1) f2) ∧ w'.cell? ⟨q, 2, none⟩ = some (.slice B2 (m - 1) g2)) ((refine KT.out _ ?_; (repeat' (first | with_reducible exact Below.refl _ _ | with_reducible exact HBR.out | with_reducible refine Below.drew ?_)))) (first | (go_at_call 4; with_reducible refine (right_any false N4.out (by omega) (by omega)).mono ?_; rintro e wr ⟨rfl, Br⟩; rw [HFT.out]; have HBR := Lib.hid (show Below wd.heap.size wd wr from ((Still.drew wd).below _).trans (Br.mono (Nat.le_refl _))); clear Br) | fail)
                      all_goals
                        go_wp2_with fail
                        go_meet
                        exact ⟨rfl, HBR⟩
                    · have h1i : ¬ (1 : Int) < (m : Int) := by omega
                      have hft : (false || decide (1 < m)) = false := by simp; omega
                      have HFT := Lib.hid (HFT.out.trans hft)
                      go_region_held3 (fun w' => w'.cell? ⟨w.heap.size, 0, none⟩ = some (.bool false) ∧ w'.cell? ⟨w.heap.size, 1, none⟩ = some (.slice (some ⟨bA, oA, none⟩) m c) ∧ w'.cell? ⟨q, 0, none⟩ = some (.bool false) ∧ w'.cell? ⟨q, 1, none⟩ = some (.slice A2 (m - 1) f2) ∧ w'.cell? ⟨q, 2, none⟩ = some (.slice B2 (m - 1) g2)) ((refine KT.out _ ?_; (repeat' (first | with_reducible exact Below.refl _ _ | with_reducible exact HBR.out | with_reducible refine Below.drew ?_)))) (first | (go_at_call 4; with_reducible refine (right_any false N4.out (by omega) (by omega)).mono ?_; rintro e wr ⟨rfl, Br⟩; rw [HFT.out]; have HBR := Lib.hid (show Below wd.heap.size wd wr from ((Still.drew wd).below _).trans (Br.mono (Nat.le_refl _))); clear Br) | fail)
                      all_goals
                        go_wp2_with fail
                        go_meet
                        exact ⟨by first | rfl | (simp; omega), HBR⟩
                case rest =>
                  obtain ⟨rfl, HBE⟩ := hcut
                  obtain ⟨we, hwe⟩ : ∃ x, x = wc := ⟨_, rfl⟩
                  subst hwe
                  have X5 := Lib.hid (X4.out.below HBE.out xlt)
                  have D5 := Lib.hid (D4.out.below HBE.out)
                  have Y5 := Lib.hid (Y4.out.trans (HBE.out.mono Y4.out.size))
                  clear X4 D4 Y4 HBE n0 n1 n2 nlt x0 x1 x2 N4 HFT KT HLS
                  obtain ⟨x0, x1, x2, xlt⟩ := X5.out
                  by_cases hik : i = k
                  · subst hik
                    go_wp2_with fail
                    refine (HA.out _ Y5.out).mono ?_
                    rintro e w9 ⟨rfl, B9⟩
                    go_wp2_with fail
                    go_ret
                    exact ⟨rfl, B9⟩
                  · have hiki : ¬ ((i : Int) = (k : Int)) := by omega
                    have hikb : ((i : Int) == (k : Int)) = false := by rw [beq_eq_false_iff_ne]; omega
                    have HKK := Lib.hid D5.out.kl
                    have HVV := Lib.hid D5.out.vl
                    have KS := Lib.hid (show ∀ w', Below we.heap.size we w' → (w'.cell? ⟨w.heap.size, 0, none⟩ = some (.bool l) ∧ w'.cell? ⟨w.heap.size, 1, none⟩ = some (.slice (some ⟨bA, oA, none⟩) m c) ∧ w'.cell? ⟨w.heap.size, 2, none⟩ = some (.slice (some ⟨bB, oB, none⟩) m d)) from fun w' q => let x := X5.out.below q xlt; ⟨x.a0, x.a1, x.a2⟩)
                    have HTK := Lib.hid (show ∀ w', Below we.heap.size we w' → ToldN w' (some ⟨bA, oA, none⟩) ks from fun w' q => D5.out.ks.below q)
                    have HTV := Lib.hid (show ∀ w', Below we.heap.size we w' → ToldN w' (some ⟨bB, oB, none⟩) vs from fun w' q => D5.out.vs.below q)
                    go_wp2_with fail
                    go_cut [10] (fun s10 wx => ∃ q gk gv : Nat, s10 = .pointer (some ⟨q, 0, none⟩) ∧ Hid (Built we wx q gk gv l m ks vs))
                    case first => as_aux_lemma =>
                      go_region_held3 (fun w' => w'.cell? ⟨w.heap.size, 0, none⟩ = some (.bool l) ∧ w'.cell? ⟨w.heap.size, 1, none⟩ = some (.slice (some ⟨bA, oA, none⟩) m c) ∧ w'.cell? ⟨w.heap.size, 2, none⟩ = some (.slice (some ⟨bB, oB, none⟩) m d)) ((refine KS.out _ ?_; (repeat' (first | with_reducible exact Below.refl _ _ | with_reducible exact HBK.out | with_reducible exact HBV.out | with_reducible refine Below.drew ?_ | with_reducible refine Below.setCell ?_ (by first | exact HBV.out.size | exact HBK.out.size | exact Nat.le_refl _) _ | with_reducible refine Below.alloc ?_ (by first | exact HBV.out.size | exact HBK.out.size | exact Nat.le_refl _) _)))) (first | (go_at_call 6; with_reducible refine (againn_any (some ⟨bA, oA, none⟩) m c (ks) HKK.out _ (by omega) ?_).mono ?_; exact HTK.out _ (by (repeat' (first | with_reducible exact Below.refl _ _ | with_reducible exact HBK.out | with_reducible exact HBV.out | with_reducible refine Below.drew ?_ | with_reducible refine Below.setCell ?_ (by first | exact HBV.out.size | exact HBK.out.size | exact Nat.le_refl _) _ | with_reducible refine Below.alloc ?_ (by first | exact HBV.out.size | exact HBK.out.size | exact Nat.le_refl _) _))); rintro e wk ⟨gk, rfl, Fk⟩; have HBK := Lib.hid (show Below we.heap.size we wk from Below.trans (by (repeat' (first | with_reducible exact Below.refl _ _ | with_reducible exact HBK.out | with_reducible exact HBV.out | with_reducible refine Below.drew ?_ | with_reducible refine Below.setCell ?_ (by first | exact HBV.out.size | exact HBK.out.size | exact Nat.le_refl _) _ | with_reducible refine Below.alloc ?_ (by first | exact HBV.out.size | exact HBK.out.size | exact Nat.le_refl _) _))) (Fk.below.mono (Below.size (B := we.heap.size) (by (repeat' (first | with_reducible exact Below.refl we.heap.size we | with_reducible exact HBK.out | with_reducible exact HBV.out | with_reducible refine Below.drew ?_ | with_reducible refine Below.setCell ?_ (by first | exact HBV.out.size | exact HBK.out.size | exact Nat.le_refl _) _ | with_reducible refine Below.alloc ?_ (by first | exact HBV.out.size | exact HBK.out.size | exact Nat.le_refl _) _)))))); have HZK := Lib.hid (fun a (h : Res _ a) => h.below Fk.below h.lt); have HFK := Lib.hid Fk; clear Fk; (try (first | (with_reducible have ZZ := HZK.out _ ZZ) | (with_reducible have ZZ := HZK.out _ (res_new wv)) | (with_reducible have ZZ := HZK.out _ ((res_new we).still (Still.drew _)))); (try (have z0 := ZZ.c0; have z1 := ZZ.c1; have z2 := ZZ.c2; have zf0 := ZZ.f 0; have zf1 := ZZ.f 1; have zf2 := ZZ.f 2; have zlt := ZZ.lt)))) | (go_at_call 6; with_reducible refine (againn_any (some ⟨bB, oB, none⟩) m d (vs) HVV.out _ (by omega) ?_).mono ?_; exact HTV.out _ (by (repeat' (first | with_reducible exact Below.refl _ _ | with_reducible exact HBK.out | with_reducible exact HBV.out | with_reducible refine Below.drew ?_ | with_reducible refine Below.setCell ?_ (by first | exact HBV.out.size | exact HBK.out.size | exact Nat.le_refl _) _ | with_reducible refine Below.alloc ?_ (by first | exact HBV.out.size | exact HBK.out.size | exact Nat.le_refl _) _))); rintro e wv ⟨gv, rfl, Fv⟩; have HBV := Lib.hid (show Below we.heap.size we wv from Below.trans (by (repeat' (first | with_reducible exact Below.refl _ _ | with_reducible exact HBK.out | with_reducible exact HBV.out | with_reducible refine Below.drew ?_ | with_reducible refine Below.setCell ?_ (by first | exact HBV.out.size | exact HBK.out.size | exact Nat.le_refl _) _ | with_reducible refine Below.alloc ?_ (by first | exact HBV.out.size | exact HBK.out.size | exact Nat.le_refl _) _))) (Fv.below.mono (Below.size (B := we.heap.size) (by (repeat' (first | with_reducible exact Below.refl we.heap.size we | with_reducible exact HBK.out | with_reducible exact HBV.out | with_reducible refine Below.drew ?_ | with_reducible refine Below.setCell ?_ (by first | exact HBV.out.size | exact HBK.out.size | exact Nat.le_refl _) _ | with_reducible refine Below.alloc ?_ (by first | exact HBV.out.size | exact HBK.out.size | exact Nat.le_refl _) _)))))); have HZV := Lib.hid (fun a (h : Res _ a) => h.below Fv.below h.lt); have HFV := Lib.hid Fv; clear Fv; (try (first | (with_reducible have ZZ := HZV.out _ ZZ) | (with_reducible have ZZ := HZV.out _ (res_new wk)) | (with_reducible have ZZ := HZV.out _ ((res_new we).still (Still.drew _)))); (try (have z0 := ZZ.c0; have z1 := ZZ.c1; have z2 := ZZ.c2; have zf0 := ZZ.f 0; have zf1 := ZZ.f 1; have zf2 := ZZ.f 2; have zlt := ZZ.lt)))))
                      all_goals
                        go_wp2_with fail
                        go_meet
                        first
                          | (exact ⟨_, gk, gv, rfl, Lib.hid (built_alloc (w4 := we) (n := m) l HFK.out HFV.out HBV.out)⟩)
                          | (exact ⟨_, gk, gv, rfl, Lib.hid (built_set (w4 := we) (n := m) l HFK.out HFV.out ((Below.refl wk.heap.size wk).alloc (Nat.le_refl _) _) HBV.out ZZ HBK.out.size (by have := HFK.out.hi; omega) (by have := HFV.out.lo; simp at this; omega) (by simp) (by have := HBK.out.size; have := HFV.out.lo; simp at this; omega) (by have := HFK.out.hi; have := HFV.out.lo; simp at this; omega))⟩)
                          | (exact ⟨_, gk, gv, rfl, Lib.hid (built_set (w4 := we) (n := m) l HFK.out HFV.out (Below.refl wk.heap.size wk) HBV.out ZZ (Nat.le_refl _) (by have := HFK.out.lo; simp at this; omega) (by have := HFV.out.lo; have := HBK.out.size; have := HFK.out.hi; have := HFK.out.lo; simp at *; omega) (by simp) (by have := HBK.out.size; have := HFV.out.lo; omega) (by have := HFK.out.hi; have := HFV.out.lo; omega))⟩)
                    case rest =>
                      obtain ⟨q2, gk2, gv2, rfl, HTU⟩ := hcut
                      obtain ⟨wf, hwf⟩ : ∃ x, x = wc := ⟨_, rfl⟩
                      subst hwf
                      obtain ⟨bJ, oJ, eJ, hJ⟩ := D5.out.ks.has (by rw [HKK.out]; omega)
                      cases eJ
                      have hq1 : bA < we.heap.size := hJ.lt (by rw [HKK.out]; omega)
                      have hq2 := HTU.out.bk
                      have hq3 := HTU.out.kq
                      have hq4 : ¬ gk2 = bA := by omega
                      have hq5 : ¬ bA = gk2 := by omega
                      have hq6 : ¬ gk2 = w.heap.size := by omega
                      have hq7 : ¬ w.heap.size = gk2 := by omega
                      have hq8 : ¬ q2 = gk2 := fun e => hq3 e.symm
                      have hik2 : ¬ k = i := fun e => hik e.symm
                      clear hJ
                      have X6 := Lib.hid (X5.out.below HTU.out.md.below xlt)
                      have D6 := Lib.hid (D5.out.below HTU.out.md.below)
                      clear KS HTK HTV x0 x1 x2 X5
                      obtain ⟨x0, x1, x2, xlt'⟩ := X6.out
                      have t0 := HTU.out.md.n0
                      have t1 := HTU.out.md.n1
                      have t2 := HTU.out.md.n2
                      have hkm : k < ks.length := by rw [HKK.out]; exact hk
                      have him : i < ks.length := by rw [HKK.out]; exact hi
                      obtain ⟨bK, oK, eK, hK⟩ := D6.out.ks.has (by omega)
                      cases eK
                      have r1 := hK i him
                      have r2 := hK k hkm
                      have u1 := HTU.out.md.rk.cellAt (List.getElem?_eq_getElem him)
                      have u2 := HTU.out.md.rk.cellAt (List.getElem?_eq_getElem hkm)
                      have v1 := HTU.out.md.rk.free i
                      have v2 := HTU.out.md.rk.free k
                      have HUF := Lib.hid (turned_unfit HF.out him hkm hik)
                      generalize ks[i]'him = xi at r1 u1 HUF
                      generalize ks[k]'hkm = xk at r2 u2 HUF
                      have HTD := Lib.hid (fun W0 S => turned_done (W0 := W0) HTU.out S HKK.out HVV.out (by omega) i k xk xi)
                      have hiI : (i : Int) < (m : Int) := by omega
                      have hkI : (k : Int) < (m : Int) := by omega
                      have hi0 : (0 : Int) ≤ (i : Int) := by omega
                      have hk0 : (0 : Int) ≤ (k : Int) := by omega
                      clear hK hkm him D6
                      go_wp2_with fail
                      go_cut [] (fun wx => Hid (Var wx q2 l (some ⟨gk2, 0, none⟩) m m (some ⟨gv2, 0, none⟩) m m ∧ Nd wx (some ⟨gk2, 0, none⟩) m m (some ⟨gv2, 0, none⟩) m m ((ks.set i xk).set k xi) vs ∧ Below we.heap.size we wx))
                      case first => as_aux_lemma =>
                        go_region
                        all_goals
                          go_wp2_with fail
                          go_meet
                          exact Lib.hid (HTD.out wf.drew (Still.drew wf))
                      case rest =>
                        obtain ⟨V7, N7, B7⟩ := hcut.out
                        obtain ⟨y0, y1, y2, ylt⟩ := V7
                        have HN7 := Lib.hid N7
                        have HB7 := Lib.hid (Y5.out.trans (B7.mono Y5.out.size))
                        clear N7 B7 x0 x1 x2 t0 t1 t2 r1 r2 u1 u2 v1 v2 X6 HTU HTD
                        go_wp2_with fail
                        refine (right_any l HN7.out (by omega) (by omega)).mono ?_
                        rintro e w8 ⟨rfl, B8⟩
                        rw [HUF.out]
                        have HB8 := Lib.hid (HB7.out.trans (B8.mono HB7.out.size))
                        clear B8
                        go_wp2_with fail
                        refine (HA.out _ HB8.out).mono ?_
                        rintro e w9 ⟨rfl, B9⟩
                        go_wp2_with fail
                        go_ret
                        exact ⟨rfl, B9⟩
      · rw [decide_eq_false hf]
        clear hf
        go_wp2_with fail
        refine (HA.out _ Y2.out).mono ?_
        rintro e w3 ⟨rfl, B3⟩
        go_wp2_with fail
        go_ret
        exact ⟨rfl, B3⟩
    · go_enter Try.func3, Try.ntmps3
      go_wp2_with fail
      refine (HA.out _ BB.out).mono ?_
      rintro e w2 ⟨rfl, B2⟩
      go_wp2_with fail
      go_ret
      exact ⟨rfl, B2⟩
  · go_enter Try.func3, Try.ntmps3
    go_wp2_with fail
    refine (HA.out _ BB.out).mono ?_
    rintro e w2 ⟨rfl, B2⟩
    go_wp2_with fail
    go_ret
    exact ⟨rfl, B2⟩
end Go.Proofs.Ytngigpciipdogaa.Lf
