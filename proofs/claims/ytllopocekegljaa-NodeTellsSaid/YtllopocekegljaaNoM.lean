/- Layer 12: the contract of awake, catchmentlaw12's own. (Written by bin/gen_nom.py.) -/
import Derived.Test.YtllopocekegljaaNoL
namespace Go.Proofs.Ytllopocekegljaa.No
open Go.RowKit Go.Proofs.Ytllopocekegljaa.Oct Go.Proofs.Ytllopocekegljaa.Lf Go.Proofs.Ytllopocekegljaa.Mv
set_option linter.unusedVariables false
set_option linter.unusedSimpArgs false

/-- A list of numbers that was laid. -/
def Lit (w : World) (v : Value) (n : Nat) (ks : List UInt64) : Prop := ∃ g, v = .slice (some ⟨g, 0, none⟩) n n ∧ HasN w g 0 ks ∧ g < w.heap.size
theorem Lit.far {w w' : World} {v : Value} {n : Nat} {ks : List UInt64} (h : Lit w v n ks) (k : Below w.heap.size w w') : Lit w' v n ks := by
  obtain ⟨g, e, h1, h2⟩ := h
  exact ⟨g, e, h1.below h2 k, Nat.lt_of_lt_of_le h2 k.size⟩
theorem lit_new (w : World) (ks : List UInt64) : HasN (w.alloc (.cells (nvals ks).toArray 25)) w.heap.size 0 ks := (alloc_rowN w 25 ks).has
/-- A node that is told. -/
def NodeV (w : World) (v : Value) (l : Bool) (n : Nat) (ks vs : List UInt64) : Prop := ∃ A c B d, v = .agg #[.bool l, .slice A n c, .slice B n d] ∧ Nd w A n c B n d ks vs
theorem NodeV.far {w w' : World} {v : Value} {l : Bool} {n : Nat} {ks vs : List UInt64} (h : NodeV w v l n ks vs) (k : Below w.heap.size w w') : NodeV w' v l n ks vs := by
  obtain ⟨A, c, B, d, e, h⟩ := h
  exact ⟨A, c, B, d, e, h.below k⟩
theorem OwnD.lit {w : World} {base : Nat} {v : Value} {l : Bool} {ks vs : List UInt64} {n : Nat} (h : OwnD w base v l ks vs) (hk : ks.length = n) (hv : vs.length = n) : NodeV w v l n ks vs := by
  obtain ⟨A, c, B, d, e, h⟩ := h.nd
  rw [hk, hv] at e h
  exact ⟨A, c, B, d, e, h⟩
theorem leaf_lit {w : World} {gk n c : Nat} {ks vs : List UInt64} (hn : ks.length = n) (h : HasN w gk 0 ks) (hs : ∀ x ∈ ks, x.toNat ≤ 100) (h9 : n ≤ 100) (hv : tens ks = vs) :
    Calls Try.prog 29 #[.slice (some ⟨gk, 0, none⟩) n c] w fun e w' => ∃ v, e = .returned v ∧ NodeV w' v true n ks vs ∧ OwnD w' w.heap.size v true ks vs ∧ Below w.heap.size w w' := by
  refine (leaf_any hn h hs h9).mono ?_
  rintro e w' ⟨v, rfl, o, k⟩
  rw [hv] at o
  exact ⟨v, rfl, o.lit hn (by rw [← hv]; unfold tens; rw [List.length_map]; exact hn), o, k⟩
/-- A store of a node into a fresh variable. -/
theorem wpList_store_v {ops : Array Oper} {rest : List Oper} {o : Oper} {a : Act} {w : World} {Q : Exit → Act → World → Prop} (hgd : o.guard = none) (x y : Operand) (ho : o.op = .store 24 x y)
    (r : Nat) (v v0 : Value) (l : Bool) (n : Nat) (ks vs : List UInt64) (hx : a.eval x = .pointer (some ⟨r, 0, none⟩)) (hy : a.eval y = v) (hr : BoxD w r v0) {w0 : World} (hv : NodeV w0 v l n ks vs)
    (h : ∀ cs, BoxD (w.setRow r cs) r v → wpList Try.prog ops Q rest (a.put o.dst undef) (w.setRow r cs)) : wpList Try.prog ops Q (o :: rest) a w := by
  obtain ⟨x0, y0, z0, rfl, hr⟩ := hr
  obtain ⟨A, c, B, d, rfl, _⟩ := hv
  exact wpList_store_row hgd 24 x y ho r #[.bool l, .slice A n c, .slice B n d] hx hy _ _ hr node_size rfl (ones l rfl rfl) (h _ ⟨_, _, _, rfl, row_set hr⟩)
theorem at_lit (l : Bool) {w : World} {v : Value} {n : Nat} {ks vs : List UInt64} (h : NodeV w v l n ks vs) (k : UInt64) (t : Nat × Bool × Nat) (ht : t = atR l ks vs k) :
    Calls Try.prog 10 #[v, .int .u64 (k.toNat : Int)] w fun e w' => e = .returned (.tuple #[.int .i64 (t.1 : Nat), .bool t.2.1, .int .i64 (t.2.2 : Nat)]) ∧ Below w.heap.size w w' := by
  obtain ⟨A, c, B, d, rfl, h⟩ := h
  exact at_any l h k t ht
theorem put_lit (l : Bool) {w : World} {v : Value} {n : Nat} {ks vs : List UInt64} (h : NodeV w v l n ks vs) (k x : UInt64) (t : PN × Bool × Nat) (ht : t = putR l ks vs k x) (m : Nat) (hm : t.1.2.1.length = m) (hm2 : t.1.2.2.length = m) :
    Calls Try.prog 14 #[v, .int .u64 (k.toNat : Int), .int .u64 (x.toNat : Int)] w fun e w' => ∃ u, e = .returned (.tuple #[u, .bool t.2.1, .int .i64 (t.2.2 : Nat)]) ∧ NodeV w' u t.1.1 m t.1.2.1 t.1.2.2 ∧ Below w.heap.size w w' := by
  obtain ⟨A, c, B, d, rfl, h⟩ := h
  refine (put_any l h k x t ht).mono ?_
  rintro e w' ⟨u, rfl, o, k⟩
  exact ⟨u, rfl, o.lit hm hm2, k⟩
theorem take_lit (l : Bool) {w : World} {v : Value} {n : Nat} {ks vs : List UInt64} (h : NodeV w v l n ks vs) (k : UInt64) (t : PN × UInt64 × Nat) (ht : t = takeR l ks vs k) (m : Nat) (hm : t.1.2.1.length = m) (hm2 : t.1.2.2.length = m) :
    Calls Try.prog 17 #[v, .int .u64 (k.toNat : Int)] w fun e w' => ∃ u, e = .returned (.tuple #[u, .int .u64 (t.2.1.toNat : Int), .int .i64 (t.2.2 : Nat)]) ∧ NodeV w' u t.1.1 m t.1.2.1 t.1.2.2 ∧ Below w.heap.size w w' := by
  obtain ⟨A, c, B, d, rfl, h⟩ := h
  refine (take_any l h k t ht).mono ?_
  rintro e w' ⟨u, rfl, o, k⟩
  exact ⟨u, rfl, o.lit hm hm2, k⟩
theorem split_lit (l : Bool) {w : World} {v : Value} {n : Nat} {ks vs : List UInt64} (h : NodeV w v l n ks vs) (t : PN × PN × Nat) (ht : t = splitR l ks vs) (m m' : Nat) (hm : t.1.2.1.length = m) (hm2 : t.1.2.2.length = m) (hm' : t.2.1.2.1.length = m') (hm2' : t.2.1.2.2.length = m') :
    Calls Try.prog 19 #[v] w fun e w' => ∃ u u', e = .returned (.tuple #[u, u', .int .i64 (t.2.2 : Nat)]) ∧ NodeV w' u t.1.1 m t.1.2.1 t.1.2.2 ∧ NodeV w' u' t.2.1.1 m' t.2.1.2.1 t.2.1.2.2 ∧ Below w.heap.size w w' := by
  obtain ⟨A, c, B, d, rfl, h⟩ := h
  refine (split_any l h t ht).mono ?_
  rintro e w' ⟨u, u', rfl, o, o', k⟩
  exact ⟨u, u', rfl, o.lit hm hm2, o'.lit hm' hm2', k⟩
/-- Two nodes in a list. -/
def Two (w : World) (v : Value) (l : Bool) (n n' : Nat) (ks vs ks' vs' : List UInt64) : Prop := ∃ g A c B d A' c' B' d', v = .slice (some ⟨g, 0, none⟩) 2 2 ∧ RowV w g 24 [.bool l, .slice A n c, .slice B n d, .bool l, .slice A' n' c', .slice B' n' d'] ∧ Nd w A n c B n d ks vs ∧ Nd w A' n' c' B' n' d' ks' vs'
theorem Two.far {w w' : World} {v : Value} {l : Bool} {n n' : Nat} {ks vs ks' vs' : List UInt64} (h : Two w v l n n' ks vs ks' vs') (k : Below w.heap.size w w') : Two w' v l n n' ks vs ks' vs' := by
  obtain ⟨g, A, c, B, d, A', c', B', d', e, h1, h2, h3⟩ := h
  exact ⟨g, A, c, B, d, A', c', B', d', e, h1.below h1.lt k, h2.below k, h3.below k⟩
theorem ListD.two {w : World} {base : Nat} {v : Value} {l : Bool} {n n' : Nat} {ks vs ks' vs' : List UInt64} (h : ListD w base v [(l, ks, vs), (l, ks', vs')]) (h1 : ks.length = n) (h2 : vs.length = n) (h3 : ks'.length = n') (h4 : vs'.length = n') : Two w v l n n' ks vs ks' vs' := by
  rcases h with ⟨_, h⟩ | ⟨g, us, e, _, hr, hl, hu⟩
  · cases h
  · match us, hl with
    | [u0, u1], _ =>
      obtain ⟨e0, o0, o0'⟩ := hu 0 (by simp) (by simp)
      obtain ⟨e1, o1, o1'⟩ := hu 1 (by simp) (by simp)
      obtain ⟨A, c, B, d, f1, f2, N0⟩ := own_nd o0 o0'
      obtain ⟨A', c', B', d', f3, f4, N1⟩ := own_nd o1 o1'
      simp at e0 e1 f1 f2 f3 f4 N0 N1
      obtain ⟨a0, b0, c0⟩ := u0
      obtain ⟨a1, b1, c1⟩ := u1
      simp at e0 e1 f1 f2 f3 f4
      subst a0
      subst a1
      subst f1 f2 f3 f4
      rw [h1, h2] at N0
      rw [h3, h4] at N1
      have hr' : RowV w g 24 [.bool l, .slice A ks.length c, .slice B vs.length d, .bool l, .slice A' ks'.length c', .slice B' vs'.length d'] := hr
      rw [h1, h2, h3, h4] at hr'
      exact ⟨g, A, c, B, d, A', c', B', d', e, hr', N0, N1⟩
theorem join_lit (l l' : Bool) {w : World} {v v' : Value} {n n' : Nat} {ks vs ks' vs' : List UInt64} (h : NodeV w v l n ks vs) (h' : NodeV w v' l' n' ks' vs') (t : List PN × Nat) (ht : t = joinR l ks vs l' ks' vs') :
    Calls Try.prog 21 #[v, v'] w fun e w' => ∃ u, e = .returned (.tuple #[u, .int .i64 (t.2 : Nat)]) ∧ ListD w' w.heap.size u t.1 ∧ Below w.heap.size w w' := by
  obtain ⟨A, c, B, d, rfl, h⟩ := h
  obtain ⟨A', c', B', d', rfl, h'⟩ := h'
  exact join_any l l' h h' t ht
/-- A list of numbers somewhere. -/
def Nums (w : World) (v : Value) (n : Nat) (ns : List UInt64) : Prop := ∃ A c, v = .slice A n c ∧ ToldN w A ns ∧ ns.length = n ∧ n ≤ c ∧ c ≤ maxLen
theorem Nums.far {w w' : World} {v : Value} {n : Nat} {ns : List UInt64} (h : Nums w v n ns) (k : Below w.heap.size w w') : Nums w' v n ns := by
  obtain ⟨A, c, e, h1, h2⟩ := h
  exact ⟨A, c, e, h1.below k, h2⟩
theorem cut_lit (l : Bool) {w : World} {v : Value} {n : Nat} {ks vs : List UInt64} (h : NodeV w v l n ks vs) (x y : UInt64) (t : PN × List UInt64 × Nat) (ht : t = cutR l ks vs x y) (m : Nat) (hm : t.1.2.1.length = m) (hm2 : t.1.2.2.length = m) (p : Nat) (hp : t.2.1.length = p) :
    Calls Try.prog 23 #[v, .int .u64 (x.toNat : Int), .int .u64 (y.toNat : Int)] w fun e w' => ∃ u g, e = .returned (.tuple #[u, g, .int .i64 (t.2.2 : Nat)]) ∧ NodeV w' u t.1.1 m t.1.2.1 t.1.2.2 ∧ Nums w' g p t.2.1 ∧ Below w.heap.size w w' := by
  obtain ⟨A, c, B, d, rfl, h⟩ := h
  refine (cut_any l h x y t ht).mono ?_
  rintro e w' ⟨u, g, rfl, o, og, k⟩
  obtain ⟨A', c', rfl, t1, l1, m1⟩ := og.slice
  rw [hp] at l1
  exact ⟨u, _, rfl, o.lit hm hm2, ⟨A', c', by rw [hp], t1, hp, l1, m1⟩, k⟩
theorem same_lit {w : World} {v v' : Value} {l l' : Bool} {n n' : Nat} {ks vs ks' vs' : List UInt64} (h : NodeV w v l n ks vs) (h' : NodeV w v' l' n' ks' vs') (b : Bool) (hb : b = decide (l = l' ∧ ks = ks' ∧ vs = vs')) :
    Calls Try.prog 16 #[v, v'] w fun e w' => e = .returned (.bool b) ∧ Below w.heap.size w w' := by
  obtain ⟨A, c, B, d, rfl, h⟩ := h
  obtain ⟨A', c', B', d', rfl, h'⟩ := h'
  subst hb
  exact same_any l l' h h'
theorem numbers_lit {w : World} {v v' : Value} {n n' : Nat} {ns ns' : List UInt64} (h : Nums w v n ns) (h' : Lit w v' n' ns') (hn : ns'.length = n') (hm : n' ≤ 1000) (b : Bool) (hb : b = decide (ns = ns')) :
    Calls Try.prog 25 #[v, v'] w fun e w' => e = .returned (.bool b) ∧ Still w w' := by
  obtain ⟨A, c, rfl, h1, h2, h3, h4⟩ := h
  obtain ⟨g, rfl, h5, _⟩ := h'
  subst hb
  exact numbers_any A (some ⟨g, 0, none⟩) n n' c n' ns ns' h2 hn w (Nat.le_trans h3 h4) (by unfold maxLen; omega) h1 h5.told
set_option maxRecDepth 100000 in
set_option maxHeartbeats 8000000 in
theorem awake_any (w : World) :
    Calls Try.prog 9 #[] w fun e w' => e = .returned (.bool true) ∧ Below w.heap.size w w' := by
  have hz := node_zero
  go_enter Try.func9, Try.ntmps9
  go_wp2_with fail
  have ka := (Below.refl w.heap.size w).alloc (Nat.le_refl _) (.cells #[.int .u64 2, .int .u64 5] 25)
  have HL := Lib.hid (show HasN (w.alloc (.cells #[.int .u64 2, .int .u64 5] 25)) w.heap.size 0 [2, 5] from lit_new w [2, 5])
  obtain ⟨gl1, hgl⟩ : ∃ g, g = w.heap.size := ⟨_, rfl⟩
  generalize hW : w.alloc (.cells #[.int .u64 2, .int .u64 5] 25) = w1 at *
  have HB := Lib.hid ka
  rw [← hgl] at HL ⊢
  clear hW ka hgl
  refine (leaf_lit (gk := gl1) (n := 2) (ks := [2, 5]) (vs := [20, 50]) rfl HL.out (by decide) (by decide) (by decide)).mono ?_
  rintro e w2 ⟨n, rfl, Nn, On, kz⟩
  clear HL
  replace HB := Lib.hid (HB.out.trans (kz.mono HB.out.size))
  replace Nn := Lib.hid Nn
  clear kz On
  go_upto_region 2 with (first | (refine wpList_store_v rfl (.tmp 1) (.tmp 30) rfl w2.heap.size n zeroD true 2 [2, 5] [20, 50] rfl rfl (box_d w2 (.bool false) (.slice none 0 0) (.slice none 0 0)) Nn.out ?_; intro cs HC))
  have kv := ((Below.refl w2.heap.size w2).alloc (Nat.le_refl _) (.cells #[.bool false, .slice none 0 0, .slice none 0 0] 24)).trans (row_below cs (Nat.le_refl _))
  have Xn := Lib.hid HC
  clear HC
  obtain ⟨rn, hrn⟩ : ∃ r, r = w2.heap.size := ⟨_, rfl⟩
  generalize (w2.alloc (.cells #[.bool false, .slice none 0 0, .slice none 0 0] 24)).setRow w2.heap.size cs = w3 at *
  replace Nn := Lib.hid (Nn.out.far kv)
  replace HB := Lib.hid (HB.out.trans (kv.mono HB.out.size))
  rw [← hrn] at Xn ⊢
  clear kv hrn
  go_wp2_with (first | (refine wpList_load_d rfl (.tmp 1) rfl rn _ rfl Xn.out ?_))
  refine (at_lit true Nn.out 5 (1, true, 0) (by decide)).mono ?_
  rintro e w4 ⟨rfl, kz⟩
  replace Nn := Lib.hid (Nn.out.far kz)
  replace Xn := Lib.hid (Xn.out.below Xn.out.lt kz)
  replace HB := Lib.hid (HB.out.trans (kz.mono HB.out.size))
  clear kz
  go_wp2_with (first | (refine wpList_load_d rfl (.tmp 1) rfl rn _ rfl Xn.out ?_))
  refine (at_lit true Nn.out 3 (1, false, 0) (by decide)).mono ?_
  rintro e w5 ⟨rfl, kz⟩
  replace Nn := Lib.hid (Nn.out.far kz)
  replace Xn := Lib.hid (Xn.out.below Xn.out.lt kz)
  replace HB := Lib.hid (HB.out.trans (kz.mono HB.out.size))
  clear kz
  go_wp2_with fail
  have ka := (Below.refl w5.heap.size w5).alloc (Nat.le_refl _) (.cells #[.int .u64 2, .int .u64 5] 25)
  have HL := Lib.hid (show HasN (w5.alloc (.cells #[.int .u64 2, .int .u64 5] 25)) w5.heap.size 0 [2, 5] from lit_new w5 [2, 5])
  obtain ⟨gl6, hgl⟩ : ∃ g, g = w5.heap.size := ⟨_, rfl⟩
  generalize hW : w5.alloc (.cells #[.int .u64 2, .int .u64 5] 25) = w6 at *
  replace Nn := Lib.hid (Nn.out.far ka)
  replace Xn := Lib.hid (Xn.out.below Xn.out.lt ka)
  replace HB := Lib.hid (HB.out.trans (ka.mono HB.out.size))
  rw [← hgl] at HL ⊢
  clear hW ka hgl
  refine (leaf_lit (gk := gl6) (n := 2) (ks := [2, 5]) (vs := [20, 50]) rfl HL.out (by decide) (by decide) (by decide)).mono ?_
  rintro e w7 ⟨i, rfl, Ni, Oi, kz⟩
  clear HL
  replace Nn := Lib.hid (Nn.out.far kz)
  replace Xn := Lib.hid (Xn.out.below Xn.out.lt kz)
  replace HB := Lib.hid (HB.out.trans (kz.mono HB.out.size))
  replace Ni := Lib.hid Ni
  clear kz Oi
  obtain ⟨Ai, ci, Bi, di, rfl, Ndi⟩ := Ni.out
  go_upto_region 6 with (first | (refine wpList_store_v rfl (.tmp 8) (.tmp 44) rfl w7.heap.size _ zeroD true 2 [2, 5] [20, 50] rfl rfl (box_d w7 (.bool false) (.slice none 0 0) (.slice none 0 0)) Ni.out ?_; intro cs HC; have hc0 := HC.of.cellAt (i := 0) rfl; have hf0 := HC.of.free 0))
  have kv := (((Below.refl w7.heap.size w7).alloc (Nat.le_refl _) (.cells #[.bool false, .slice none 0 0, .slice none 0 0] 24)).trans (row_below cs (Nat.le_refl _))).setCell (p := ⟨w7.heap.size, 0, none⟩) (Nat.le_refl _) (.bool false)
  have Xi := Lib.hid (show BoxD (((w7.alloc (.cells #[.bool false, .slice none 0 0, .slice none 0 0] 24)).setRow w7.heap.size cs).setCell ⟨w7.heap.size, 0, none⟩ (.bool false)) w7.heap.size (.agg #[.bool false, .slice Ai 2 ci, .slice Bi 2 di]) from row_d (HC.of.set 0 (.bool false)))
  replace Ndi := Ndi.below kv
  clear HC hc0 hf0
  obtain ⟨ri, hri⟩ : ∃ r, r = w7.heap.size := ⟨_, rfl⟩
  generalize ((w7.alloc (.cells #[.bool false, .slice none 0 0, .slice none 0 0] 24)).setRow w7.heap.size cs).setCell ⟨w7.heap.size, 0, none⟩ (.bool false) = w8 at *
  replace Nn := Lib.hid (Nn.out.far kv)
  replace Xn := Lib.hid (Xn.out.below Xn.out.lt kv)
  replace HB := Lib.hid (HB.out.trans (kv.mono HB.out.size))
  clear Ni
  have Ni := Lib.hid (show NodeV w8 (.agg #[.bool false, .slice Ai 2 ci, .slice Bi 2 di]) false 2 [2, 5] [20, 50] from ⟨Ai, ci, Bi, di, rfl, Ndi⟩)
  generalize (Value.agg #[.bool false, .slice Ai 2 ci, .slice Bi 2 di]) = i at *
  rw [← hri] at Xi ⊢
  clear kv hri Ndi
  go_wp2_with (first | (refine wpList_load_d rfl (.tmp 8) rfl ri _ rfl Xi.out ?_))
  refine (at_lit false Ni.out 4 (0, false, 0) (by decide)).mono ?_
  rintro e w9 ⟨rfl, kz⟩
  replace Nn := Lib.hid (Nn.out.far kz)
  replace Xn := Lib.hid (Xn.out.below Xn.out.lt kz)
  replace Xi := Lib.hid (Xi.out.below Xi.out.lt kz)
  replace Ni := Lib.hid (Ni.out.far kz)
  replace HB := Lib.hid (HB.out.trans (kz.mono HB.out.size))
  clear kz
  go_wp2_with (first | (refine wpList_load_d rfl (.tmp 1) rfl rn _ rfl Xn.out ?_))
  refine (put_lit true Nn.out 3 30 ((true, [2, 3, 5], [20, 30, 50]), false, 0) (by decide) 3 rfl rfl).mono ?_
  rintro e w10 ⟨p, rfl, Np, kz⟩
  replace Nn := Lib.hid (Nn.out.far kz)
  replace Xn := Lib.hid (Xn.out.below Xn.out.lt kz)
  replace Xi := Lib.hid (Xi.out.below Xi.out.lt kz)
  replace Ni := Lib.hid (Ni.out.far kz)
  replace HB := Lib.hid (HB.out.trans (kz.mono HB.out.size))
  clear kz
  replace Np := Lib.hid Np
  go_upto_region 8 with (first | (refine wpList_store_v rfl (.tmp 12) (.tmp 55) rfl w10.heap.size p zeroD true 3 [2, 3, 5] [20, 30, 50] rfl rfl (box_d w10 (.bool false) (.slice none 0 0) (.slice none 0 0)) Np.out ?_; intro cs HC))
  have kv := ((Below.refl w10.heap.size w10).alloc (Nat.le_refl _) (.cells #[.bool false, .slice none 0 0, .slice none 0 0] 24)).trans (row_below cs (Nat.le_refl _))
  have Xp := Lib.hid HC
  clear HC
  obtain ⟨rp, hrp⟩ : ∃ r, r = w10.heap.size := ⟨_, rfl⟩
  generalize (w10.alloc (.cells #[.bool false, .slice none 0 0, .slice none 0 0] 24)).setRow w10.heap.size cs = w11 at *
  replace Nn := Lib.hid (Nn.out.far kv)
  replace Xn := Lib.hid (Xn.out.below Xn.out.lt kv)
  replace Xi := Lib.hid (Xi.out.below Xi.out.lt kv)
  replace Ni := Lib.hid (Ni.out.far kv)
  replace Np := Lib.hid (Np.out.far kv)
  replace HB := Lib.hid (HB.out.trans (kv.mono HB.out.size))
  rw [← hrp] at Xp ⊢
  clear kv hrp
  go_wp2_with (first | (refine wpList_load_d rfl (.tmp 1) rfl rn _ rfl Xn.out ?_))
  refine (take_lit true Nn.out 2 ((true, [5], [50]), 20, 0) (by decide) 1 rfl rfl).mono ?_
  rintro e w12 ⟨t, rfl, Nt, kz⟩
  replace Nn := Lib.hid (Nn.out.far kz)
  replace Xn := Lib.hid (Xn.out.below Xn.out.lt kz)
  replace Xi := Lib.hid (Xi.out.below Xi.out.lt kz)
  replace Ni := Lib.hid (Ni.out.far kz)
  replace Np := Lib.hid (Np.out.far kz)
  replace Xp := Lib.hid (Xp.out.below Xp.out.lt kz)
  replace HB := Lib.hid (HB.out.trans (kz.mono HB.out.size))
  clear kz
  replace Nt := Lib.hid Nt
  go_upto_region 9 with (first | (refine wpList_store_v rfl (.tmp 15) (.tmp 61) rfl w12.heap.size t zeroD true 1 [5] [50] rfl rfl (box_d w12 (.bool false) (.slice none 0 0) (.slice none 0 0)) Nt.out ?_; intro cs HC))
  have kv := ((Below.refl w12.heap.size w12).alloc (Nat.le_refl _) (.cells #[.bool false, .slice none 0 0, .slice none 0 0] 24)).trans (row_below cs (Nat.le_refl _))
  have Xt := Lib.hid HC
  clear HC
  obtain ⟨rt, hrt⟩ : ∃ r, r = w12.heap.size := ⟨_, rfl⟩
  generalize (w12.alloc (.cells #[.bool false, .slice none 0 0, .slice none 0 0] 24)).setRow w12.heap.size cs = w13 at *
  replace Nn := Lib.hid (Nn.out.far kv)
  replace Xn := Lib.hid (Xn.out.below Xn.out.lt kv)
  replace Xi := Lib.hid (Xi.out.below Xi.out.lt kv)
  replace Ni := Lib.hid (Ni.out.far kv)
  replace Np := Lib.hid (Np.out.far kv)
  replace Xp := Lib.hid (Xp.out.below Xp.out.lt kv)
  replace Nt := Lib.hid (Nt.out.far kv)
  replace HB := Lib.hid (HB.out.trans (kv.mono HB.out.size))
  rw [← hrt] at Xt ⊢
  clear kv hrt
  go_wp2_with (first | (refine wpList_load_d rfl (.tmp 1) rfl rn _ rfl Xn.out ?_))
  refine (take_lit true Nn.out 4 (zn, 0, 121) (by decide) 0 rfl rfl).mono ?_
  rintro e w14 ⟨u, rfl, Nu, kz⟩
  replace Nn := Lib.hid (Nn.out.far kz)
  replace Xn := Lib.hid (Xn.out.below Xn.out.lt kz)
  replace Xi := Lib.hid (Xi.out.below Xi.out.lt kz)
  replace Ni := Lib.hid (Ni.out.far kz)
  replace Np := Lib.hid (Np.out.far kz)
  replace Xp := Lib.hid (Xp.out.below Xp.out.lt kz)
  replace Nt := Lib.hid (Nt.out.far kz)
  replace Xt := Lib.hid (Xt.out.below Xt.out.lt kz)
  replace HB := Lib.hid (HB.out.trans (kz.mono HB.out.size))
  clear kz
  replace Nu := Lib.hid Nu
  go_upto_region 10 with (first | (refine wpList_store_v rfl (.tmp 18) (.tmp 67) rfl w14.heap.size u zeroD false 0 [] [] rfl rfl (box_d w14 (.bool false) (.slice none 0 0) (.slice none 0 0)) Nu.out ?_; intro cs HC))
  have kv := ((Below.refl w14.heap.size w14).alloc (Nat.le_refl _) (.cells #[.bool false, .slice none 0 0, .slice none 0 0] 24)).trans (row_below cs (Nat.le_refl _))
  have Xu := Lib.hid HC
  clear HC
  obtain ⟨ru, hru⟩ : ∃ r, r = w14.heap.size := ⟨_, rfl⟩
  generalize (w14.alloc (.cells #[.bool false, .slice none 0 0, .slice none 0 0] 24)).setRow w14.heap.size cs = w15 at *
  replace Nn := Lib.hid (Nn.out.far kv)
  replace Xn := Lib.hid (Xn.out.below Xn.out.lt kv)
  replace Xi := Lib.hid (Xi.out.below Xi.out.lt kv)
  replace Ni := Lib.hid (Ni.out.far kv)
  replace Np := Lib.hid (Np.out.far kv)
  replace Xp := Lib.hid (Xp.out.below Xp.out.lt kv)
  replace Nt := Lib.hid (Nt.out.far kv)
  replace Xt := Lib.hid (Xt.out.below Xt.out.lt kv)
  replace Nu := Lib.hid (Nu.out.far kv)
  replace HB := Lib.hid (HB.out.trans (kv.mono HB.out.size))
  rw [← hru] at Xu ⊢
  clear kv hru
  go_wp2_with fail
  have ka := (Below.refl w15.heap.size w15).alloc (Nat.le_refl _) (.cells #[.int .u64 1, .int .u64 2, .int .u64 3] 25)
  have HL := Lib.hid (show HasN (w15.alloc (.cells #[.int .u64 1, .int .u64 2, .int .u64 3] 25)) w15.heap.size 0 [1, 2, 3] from lit_new w15 [1, 2, 3])
  obtain ⟨gl16, hgl⟩ : ∃ g, g = w15.heap.size := ⟨_, rfl⟩
  generalize hW : w15.alloc (.cells #[.int .u64 1, .int .u64 2, .int .u64 3] 25) = w16 at *
  replace Nn := Lib.hid (Nn.out.far ka)
  replace Xn := Lib.hid (Xn.out.below Xn.out.lt ka)
  replace Xi := Lib.hid (Xi.out.below Xi.out.lt ka)
  replace Ni := Lib.hid (Ni.out.far ka)
  replace Np := Lib.hid (Np.out.far ka)
  replace Xp := Lib.hid (Xp.out.below Xp.out.lt ka)
  replace Nt := Lib.hid (Nt.out.far ka)
  replace Xt := Lib.hid (Xt.out.below Xt.out.lt ka)
  replace Nu := Lib.hid (Nu.out.far ka)
  replace Xu := Lib.hid (Xu.out.below Xu.out.lt ka)
  replace HB := Lib.hid (HB.out.trans (ka.mono HB.out.size))
  rw [← hgl] at HL ⊢
  clear hW ka hgl
  refine (leaf_lit (gk := gl16) (n := 3) (ks := [1, 2, 3]) (vs := [10, 20, 30]) rfl HL.out (by decide) (by decide) (by decide)).mono ?_
  rintro e w17 ⟨h, rfl, Nh, Oh, kz⟩
  clear HL
  replace Nn := Lib.hid (Nn.out.far kz)
  replace Xn := Lib.hid (Xn.out.below Xn.out.lt kz)
  replace Xi := Lib.hid (Xi.out.below Xi.out.lt kz)
  replace Ni := Lib.hid (Ni.out.far kz)
  replace Np := Lib.hid (Np.out.far kz)
  replace Xp := Lib.hid (Xp.out.below Xp.out.lt kz)
  replace Nt := Lib.hid (Nt.out.far kz)
  replace Xt := Lib.hid (Xt.out.below Xt.out.lt kz)
  replace Nu := Lib.hid (Nu.out.far kz)
  replace Xu := Lib.hid (Xu.out.below Xu.out.lt kz)
  replace HB := Lib.hid (HB.out.trans (kz.mono HB.out.size))
  replace Nh := Lib.hid Nh
  clear kz Oh
  go_wp2_with fail
  refine (split_lit true Nh.out ((true, [1, 2], [10, 20]), (true, [3], [30]), 0) (by decide) 2 1 rfl rfl rfl rfl).mono ?_
  rintro e w18 ⟨x, y, rfl, Nx, Ny, kz⟩
  replace Nn := Lib.hid (Nn.out.far kz)
  replace Xn := Lib.hid (Xn.out.below Xn.out.lt kz)
  replace Xi := Lib.hid (Xi.out.below Xi.out.lt kz)
  replace Ni := Lib.hid (Ni.out.far kz)
  replace Np := Lib.hid (Np.out.far kz)
  replace Xp := Lib.hid (Xp.out.below Xp.out.lt kz)
  replace Nt := Lib.hid (Nt.out.far kz)
  replace Xt := Lib.hid (Xt.out.below Xt.out.lt kz)
  replace Nu := Lib.hid (Nu.out.far kz)
  replace Xu := Lib.hid (Xu.out.below Xu.out.lt kz)
  replace Nh := Lib.hid (Nh.out.far kz)
  replace HB := Lib.hid (HB.out.trans (kz.mono HB.out.size))
  clear kz
  replace Nx := Lib.hid Nx
  replace Ny := Lib.hid Ny
  have X2 := Lib.hid (box_d (w18.alloc (.cells #[.bool false, .slice none 0 0, .slice none 0 0] 24)) (.bool false) (.slice none 0 0) (.slice none 0 0))
  rw [show (w18.alloc (.cells #[.bool false, .slice none 0 0, .slice none 0 0] 24)).heap.size = w18.heap.size + 1 by simp] at X2
  have qv := (Below.refl w18.heap.size w18).alloc (Nat.le_refl _) (.cells #[.bool false, .slice none 0 0, .slice none 0 0] 24)
  have Q2 := Lib.hid (qv.alloc qv.size (.cells #[.bool false, .slice none 0 0, .slice none 0 0] 24))
  clear qv
  go_upto_region 11 with (first | (refine wpList_store_v rfl (.tmp 21) (.tmp 74) rfl w18.heap.size x zeroD true 2 [1, 2] [10, 20] rfl rfl ((box_d w18 (.bool false) (.slice none 0 0) (.slice none 0 0)).new (.cells #[.bool false, .slice none 0 0, .slice none 0 0] 24)) Nx.out ?_; intro cs HC) | (refine wpList_store_v rfl (.tmp 22) (.tmp 75) rfl (w18.heap.size + 1) y zeroD true 1 [3] [30] rfl rfl (X2.out.other _ (by omega)) Ny.out ?_; intro cs2 HC2))
  have kv := (Q2.out.trans (row_below cs (Nat.le_refl _))).trans (row_below cs2 (show w18.heap.size ≤ w18.heap.size + 1 by omega))
  have Xx := Lib.hid (HC.other cs2 (show w18.heap.size ≠ w18.heap.size + 1 by omega))
  have Xy := Lib.hid HC2
  clear HC HC2 X2 Q2
  obtain ⟨rx, hrx⟩ : ∃ r, r = w18.heap.size := ⟨_, rfl⟩
  obtain ⟨ry, hry⟩ : ∃ r, r = w18.heap.size + 1 := ⟨_, rfl⟩
  generalize (((w18.alloc (.cells #[.bool false, .slice none 0 0, .slice none 0 0] 24)).alloc (.cells #[.bool false, .slice none 0 0, .slice none 0 0] 24)).setRow w18.heap.size cs).setRow (w18.heap.size + 1) cs2 = w19 at *
  replace Nn := Lib.hid (Nn.out.far kv)
  replace Xn := Lib.hid (Xn.out.below Xn.out.lt kv)
  replace Xi := Lib.hid (Xi.out.below Xi.out.lt kv)
  replace Ni := Lib.hid (Ni.out.far kv)
  replace Np := Lib.hid (Np.out.far kv)
  replace Xp := Lib.hid (Xp.out.below Xp.out.lt kv)
  replace Nt := Lib.hid (Nt.out.far kv)
  replace Xt := Lib.hid (Xt.out.below Xt.out.lt kv)
  replace Nu := Lib.hid (Nu.out.far kv)
  replace Xu := Lib.hid (Xu.out.below Xu.out.lt kv)
  replace Nh := Lib.hid (Nh.out.far kv)
  replace Nx := Lib.hid (Nx.out.far kv)
  replace Ny := Lib.hid (Ny.out.far kv)
  replace HB := Lib.hid (HB.out.trans (kv.mono HB.out.size))
  rw [← hry, ← hrx]
  rw [← hrx] at Xx
  rw [← hry] at Xy
  clear kv hrx hry
  go_wp2_with fail
  have ka := (Below.refl w19.heap.size w19).alloc (Nat.le_refl _) (.cells #[.int .u64 1, .int .u64 2, .int .u64 3, .int .u64 4, .int .u64 5] 25)
  have HL := Lib.hid (show HasN (w19.alloc (.cells #[.int .u64 1, .int .u64 2, .int .u64 3, .int .u64 4, .int .u64 5] 25)) w19.heap.size 0 [1, 2, 3, 4, 5] from lit_new w19 [1, 2, 3, 4, 5])
  obtain ⟨gl20, hgl⟩ : ∃ g, g = w19.heap.size := ⟨_, rfl⟩
  generalize hW : w19.alloc (.cells #[.int .u64 1, .int .u64 2, .int .u64 3, .int .u64 4, .int .u64 5] 25) = w20 at *
  replace Nn := Lib.hid (Nn.out.far ka)
  replace Xn := Lib.hid (Xn.out.below Xn.out.lt ka)
  replace Xi := Lib.hid (Xi.out.below Xi.out.lt ka)
  replace Ni := Lib.hid (Ni.out.far ka)
  replace Np := Lib.hid (Np.out.far ka)
  replace Xp := Lib.hid (Xp.out.below Xp.out.lt ka)
  replace Nt := Lib.hid (Nt.out.far ka)
  replace Xt := Lib.hid (Xt.out.below Xt.out.lt ka)
  replace Nu := Lib.hid (Nu.out.far ka)
  replace Xu := Lib.hid (Xu.out.below Xu.out.lt ka)
  replace Nh := Lib.hid (Nh.out.far ka)
  replace Nx := Lib.hid (Nx.out.far ka)
  replace Ny := Lib.hid (Ny.out.far ka)
  replace Xx := Lib.hid (Xx.out.below Xx.out.lt ka)
  replace Xy := Lib.hid (Xy.out.below Xy.out.lt ka)
  replace HB := Lib.hid (HB.out.trans (ka.mono HB.out.size))
  rw [← hgl] at HL ⊢
  clear hW ka hgl
  refine (leaf_lit (gk := gl20) (n := 5) (ks := [1, 2, 3, 4, 5]) (vs := [10, 20, 30, 40, 50]) rfl HL.out (by decide) (by decide) (by decide)).mono ?_
  rintro e w21 ⟨j1, rfl, Nj1, Oj1, kz⟩
  clear HL
  replace Nn := Lib.hid (Nn.out.far kz)
  replace Xn := Lib.hid (Xn.out.below Xn.out.lt kz)
  replace Xi := Lib.hid (Xi.out.below Xi.out.lt kz)
  replace Ni := Lib.hid (Ni.out.far kz)
  replace Np := Lib.hid (Np.out.far kz)
  replace Xp := Lib.hid (Xp.out.below Xp.out.lt kz)
  replace Nt := Lib.hid (Nt.out.far kz)
  replace Xt := Lib.hid (Xt.out.below Xt.out.lt kz)
  replace Nu := Lib.hid (Nu.out.far kz)
  replace Xu := Lib.hid (Xu.out.below Xu.out.lt kz)
  replace Nh := Lib.hid (Nh.out.far kz)
  replace Nx := Lib.hid (Nx.out.far kz)
  replace Ny := Lib.hid (Ny.out.far kz)
  replace Xx := Lib.hid (Xx.out.below Xx.out.lt kz)
  replace Xy := Lib.hid (Xy.out.below Xy.out.lt kz)
  replace HB := Lib.hid (HB.out.trans (kz.mono HB.out.size))
  replace Nj1 := Lib.hid Nj1
  clear kz Oj1
  go_wp2_with fail
  have ka := (Below.refl w21.heap.size w21).alloc (Nat.le_refl _) (.cells #[.int .u64 6, .int .u64 7, .int .u64 8, .int .u64 9] 25)
  have HL := Lib.hid (show HasN (w21.alloc (.cells #[.int .u64 6, .int .u64 7, .int .u64 8, .int .u64 9] 25)) w21.heap.size 0 [6, 7, 8, 9] from lit_new w21 [6, 7, 8, 9])
  obtain ⟨gl22, hgl⟩ : ∃ g, g = w21.heap.size := ⟨_, rfl⟩
  generalize hW : w21.alloc (.cells #[.int .u64 6, .int .u64 7, .int .u64 8, .int .u64 9] 25) = w22 at *
  replace Nn := Lib.hid (Nn.out.far ka)
  replace Xn := Lib.hid (Xn.out.below Xn.out.lt ka)
  replace Xi := Lib.hid (Xi.out.below Xi.out.lt ka)
  replace Ni := Lib.hid (Ni.out.far ka)
  replace Np := Lib.hid (Np.out.far ka)
  replace Xp := Lib.hid (Xp.out.below Xp.out.lt ka)
  replace Nt := Lib.hid (Nt.out.far ka)
  replace Xt := Lib.hid (Xt.out.below Xt.out.lt ka)
  replace Nu := Lib.hid (Nu.out.far ka)
  replace Xu := Lib.hid (Xu.out.below Xu.out.lt ka)
  replace Nh := Lib.hid (Nh.out.far ka)
  replace Nx := Lib.hid (Nx.out.far ka)
  replace Ny := Lib.hid (Ny.out.far ka)
  replace Xx := Lib.hid (Xx.out.below Xx.out.lt ka)
  replace Xy := Lib.hid (Xy.out.below Xy.out.lt ka)
  replace Nj1 := Lib.hid (Nj1.out.far ka)
  replace HB := Lib.hid (HB.out.trans (ka.mono HB.out.size))
  rw [← hgl] at HL ⊢
  clear hW ka hgl
  refine (leaf_lit (gk := gl22) (n := 4) (ks := [6, 7, 8, 9]) (vs := [60, 70, 80, 90]) rfl HL.out (by decide) (by decide) (by decide)).mono ?_
  rintro e w23 ⟨j2, rfl, Nj2, Oj2, kz⟩
  clear HL
  replace Nn := Lib.hid (Nn.out.far kz)
  replace Xn := Lib.hid (Xn.out.below Xn.out.lt kz)
  replace Xi := Lib.hid (Xi.out.below Xi.out.lt kz)
  replace Ni := Lib.hid (Ni.out.far kz)
  replace Np := Lib.hid (Np.out.far kz)
  replace Xp := Lib.hid (Xp.out.below Xp.out.lt kz)
  replace Nt := Lib.hid (Nt.out.far kz)
  replace Xt := Lib.hid (Xt.out.below Xt.out.lt kz)
  replace Nu := Lib.hid (Nu.out.far kz)
  replace Xu := Lib.hid (Xu.out.below Xu.out.lt kz)
  replace Nh := Lib.hid (Nh.out.far kz)
  replace Nx := Lib.hid (Nx.out.far kz)
  replace Ny := Lib.hid (Ny.out.far kz)
  replace Xx := Lib.hid (Xx.out.below Xx.out.lt kz)
  replace Xy := Lib.hid (Xy.out.below Xy.out.lt kz)
  replace Nj1 := Lib.hid (Nj1.out.far kz)
  replace HB := Lib.hid (HB.out.trans (kz.mono HB.out.size))
  replace Nj2 := Lib.hid Nj2
  clear kz Oj2
  go_wp2_with fail
  refine (join_lit true true Nj1.out Nj2.out ([(true, [1, 2, 3, 4, 5], [10, 20, 30, 40, 50]), (true, [6, 7, 8, 9], [60, 70, 80, 90])], 0) (by decide)).mono ?_
  rintro e w24 ⟨q, rfl, Nq, kz⟩
  replace Nn := Lib.hid (Nn.out.far kz)
  replace Xn := Lib.hid (Xn.out.below Xn.out.lt kz)
  replace Xi := Lib.hid (Xi.out.below Xi.out.lt kz)
  replace Ni := Lib.hid (Ni.out.far kz)
  replace Np := Lib.hid (Np.out.far kz)
  replace Xp := Lib.hid (Xp.out.below Xp.out.lt kz)
  replace Nt := Lib.hid (Nt.out.far kz)
  replace Xt := Lib.hid (Xt.out.below Xt.out.lt kz)
  replace Nu := Lib.hid (Nu.out.far kz)
  replace Xu := Lib.hid (Xu.out.below Xu.out.lt kz)
  replace Nh := Lib.hid (Nh.out.far kz)
  replace Nx := Lib.hid (Nx.out.far kz)
  replace Ny := Lib.hid (Ny.out.far kz)
  replace Xx := Lib.hid (Xx.out.below Xx.out.lt kz)
  replace Xy := Lib.hid (Xy.out.below Xy.out.lt kz)
  replace Nj1 := Lib.hid (Nj1.out.far kz)
  replace Nj2 := Lib.hid (Nj2.out.far kz)
  replace HB := Lib.hid (HB.out.trans (kz.mono HB.out.size))
  replace Nq := Lib.hid (show Two w24 q true 5 4 [1, 2, 3, 4, 5] [10, 20, 30, 40, 50] [6, 7, 8, 9] [60, 70, 80, 90] from Nq.two rfl rfl rfl rfl)
  clear kz
  go_wp2_with fail
  have ka := (Below.refl w24.heap.size w24).alloc (Nat.le_refl _) (.cells #[.int .u64 1, .int .u64 2, .int .u64 3] 25)
  have HL := Lib.hid (show HasN (w24.alloc (.cells #[.int .u64 1, .int .u64 2, .int .u64 3] 25)) w24.heap.size 0 [1, 2, 3] from lit_new w24 [1, 2, 3])
  obtain ⟨gl25, hgl⟩ : ∃ g, g = w24.heap.size := ⟨_, rfl⟩
  generalize hW : w24.alloc (.cells #[.int .u64 1, .int .u64 2, .int .u64 3] 25) = w25 at *
  replace Nn := Lib.hid (Nn.out.far ka)
  replace Xn := Lib.hid (Xn.out.below Xn.out.lt ka)
  replace Xi := Lib.hid (Xi.out.below Xi.out.lt ka)
  replace Ni := Lib.hid (Ni.out.far ka)
  replace Np := Lib.hid (Np.out.far ka)
  replace Xp := Lib.hid (Xp.out.below Xp.out.lt ka)
  replace Nt := Lib.hid (Nt.out.far ka)
  replace Xt := Lib.hid (Xt.out.below Xt.out.lt ka)
  replace Nu := Lib.hid (Nu.out.far ka)
  replace Xu := Lib.hid (Xu.out.below Xu.out.lt ka)
  replace Nh := Lib.hid (Nh.out.far ka)
  replace Nx := Lib.hid (Nx.out.far ka)
  replace Ny := Lib.hid (Ny.out.far ka)
  replace Xx := Lib.hid (Xx.out.below Xx.out.lt ka)
  replace Xy := Lib.hid (Xy.out.below Xy.out.lt ka)
  replace Nj1 := Lib.hid (Nj1.out.far ka)
  replace Nj2 := Lib.hid (Nj2.out.far ka)
  replace Nq := Lib.hid (Nq.out.far ka)
  replace HB := Lib.hid (HB.out.trans (ka.mono HB.out.size))
  rw [← hgl] at HL ⊢
  clear hW ka hgl
  refine (leaf_lit (gk := gl25) (n := 3) (ks := [1, 2, 3]) (vs := [10, 20, 30]) rfl HL.out (by decide) (by decide) (by decide)).mono ?_
  rintro e w26 ⟨k, rfl, Nk, Ok, kz⟩
  clear HL
  replace Nn := Lib.hid (Nn.out.far kz)
  replace Xn := Lib.hid (Xn.out.below Xn.out.lt kz)
  replace Xi := Lib.hid (Xi.out.below Xi.out.lt kz)
  replace Ni := Lib.hid (Ni.out.far kz)
  replace Np := Lib.hid (Np.out.far kz)
  replace Xp := Lib.hid (Xp.out.below Xp.out.lt kz)
  replace Nt := Lib.hid (Nt.out.far kz)
  replace Xt := Lib.hid (Xt.out.below Xt.out.lt kz)
  replace Nu := Lib.hid (Nu.out.far kz)
  replace Xu := Lib.hid (Xu.out.below Xu.out.lt kz)
  replace Nh := Lib.hid (Nh.out.far kz)
  replace Nx := Lib.hid (Nx.out.far kz)
  replace Ny := Lib.hid (Ny.out.far kz)
  replace Xx := Lib.hid (Xx.out.below Xx.out.lt kz)
  replace Xy := Lib.hid (Xy.out.below Xy.out.lt kz)
  replace Nj1 := Lib.hid (Nj1.out.far kz)
  replace Nj2 := Lib.hid (Nj2.out.far kz)
  replace Nq := Lib.hid (Nq.out.far kz)
  replace HB := Lib.hid (HB.out.trans (kz.mono HB.out.size))
  replace Nk := Lib.hid Nk
  clear kz Ok
  go_wp2_with fail
  refine (cut_lit true Nk.out 2 9 ((true, [1], [10]), [20, 30], 0) (by decide) 1 rfl rfl 2 rfl).mono ?_
  rintro e w27 ⟨m, o, rfl, Nm, No, kz⟩
  replace Nn := Lib.hid (Nn.out.far kz)
  replace Xn := Lib.hid (Xn.out.below Xn.out.lt kz)
  replace Xi := Lib.hid (Xi.out.below Xi.out.lt kz)
  replace Ni := Lib.hid (Ni.out.far kz)
  replace Np := Lib.hid (Np.out.far kz)
  replace Xp := Lib.hid (Xp.out.below Xp.out.lt kz)
  replace Nt := Lib.hid (Nt.out.far kz)
  replace Xt := Lib.hid (Xt.out.below Xt.out.lt kz)
  replace Nu := Lib.hid (Nu.out.far kz)
  replace Xu := Lib.hid (Xu.out.below Xu.out.lt kz)
  replace Nh := Lib.hid (Nh.out.far kz)
  replace Nx := Lib.hid (Nx.out.far kz)
  replace Ny := Lib.hid (Ny.out.far kz)
  replace Xx := Lib.hid (Xx.out.below Xx.out.lt kz)
  replace Xy := Lib.hid (Xy.out.below Xy.out.lt kz)
  replace Nj1 := Lib.hid (Nj1.out.far kz)
  replace Nj2 := Lib.hid (Nj2.out.far kz)
  replace Nq := Lib.hid (Nq.out.far kz)
  replace Nk := Lib.hid (Nk.out.far kz)
  replace HB := Lib.hid (HB.out.trans (kz.mono HB.out.size))
  clear kz
  replace Nm := Lib.hid Nm
  replace No := Lib.hid No
  go_upto_region 13 with (first | (refine wpList_store_v rfl (.tmp 26) (.tmp 89) rfl w27.heap.size m zeroD true 1 [1] [10] rfl rfl (box_d w27 (.bool false) (.slice none 0 0) (.slice none 0 0)) Nm.out ?_; intro cs HC))
  have kv := ((Below.refl w27.heap.size w27).alloc (Nat.le_refl _) (.cells #[.bool false, .slice none 0 0, .slice none 0 0] 24)).trans (row_below cs (Nat.le_refl _))
  have Xm := Lib.hid HC
  clear HC
  obtain ⟨rm, hrm⟩ : ∃ r, r = w27.heap.size := ⟨_, rfl⟩
  generalize (w27.alloc (.cells #[.bool false, .slice none 0 0, .slice none 0 0] 24)).setRow w27.heap.size cs = w28 at *
  replace Nn := Lib.hid (Nn.out.far kv)
  replace Xn := Lib.hid (Xn.out.below Xn.out.lt kv)
  replace Xi := Lib.hid (Xi.out.below Xi.out.lt kv)
  replace Ni := Lib.hid (Ni.out.far kv)
  replace Np := Lib.hid (Np.out.far kv)
  replace Xp := Lib.hid (Xp.out.below Xp.out.lt kv)
  replace Nt := Lib.hid (Nt.out.far kv)
  replace Xt := Lib.hid (Xt.out.below Xt.out.lt kv)
  replace Nu := Lib.hid (Nu.out.far kv)
  replace Xu := Lib.hid (Xu.out.below Xu.out.lt kv)
  replace Nh := Lib.hid (Nh.out.far kv)
  replace Nx := Lib.hid (Nx.out.far kv)
  replace Ny := Lib.hid (Ny.out.far kv)
  replace Xx := Lib.hid (Xx.out.below Xx.out.lt kv)
  replace Xy := Lib.hid (Xy.out.below Xy.out.lt kv)
  replace Nj1 := Lib.hid (Nj1.out.far kv)
  replace Nj2 := Lib.hid (Nj2.out.far kv)
  replace Nq := Lib.hid (Nq.out.far kv)
  replace Nk := Lib.hid (Nk.out.far kv)
  replace Nm := Lib.hid (Nm.out.far kv)
  replace No := Lib.hid (No.out.far kv)
  replace HB := Lib.hid (HB.out.trans (kv.mono HB.out.size))
  rw [← hrm] at Xm ⊢
  clear kv hrm
  clear Nh Nj1 Nj2 Nk Nn Ni Xn Xi Xu Nu
  refine Inv2.wp_region_inv (fun b a wy => ∃ (z : Nat → Value) (z126 : Value) (z127 : Value) (z141 : Value) (z142 : Value), a = ⟨(List.toArray (Value.bool false :: Value.pointer (some ⟨rn, 0, none⟩) :: Value.int IntKind.i64 1 :: Value.bool true :: Value.int IntKind.i64 0 :: Value.int IntKind.i64 1 :: Value.bool false :: Value.int IntKind.i64 0 :: Value.pointer (some ⟨ri, 0, none⟩) :: Value.int IntKind.i64 0 :: Value.bool false :: Value.int IntKind.i64 0 :: Value.pointer (some ⟨rp, 0, none⟩) :: Value.bool false :: Value.int IntKind.i64 0 :: Value.pointer (some ⟨rt, 0, none⟩) :: Value.int IntKind.u64 20 :: Value.int IntKind.i64 0 :: Value.pointer (some ⟨ru, 0, none⟩) :: Value.int IntKind.u64 0 :: Value.int IntKind.i64 121 :: Value.pointer (some ⟨rx, 0, none⟩) :: Value.pointer (some ⟨ry, 0, none⟩) :: Value.int IntKind.i64 0 :: q :: Value.int IntKind.i64 0 :: Value.pointer (some ⟨rm, 0, none⟩) :: o :: Value.int IntKind.i64 0 :: Value.slice (some ⟨gl1, 0, none⟩) 2 2 :: n :: Value.tuple #[Value.int IntKind.i64 1, Value.bool true, Value.int IntKind.i64 0] :: n :: Value.tuple #[Value.int IntKind.i64 1, Value.bool true, Value.int IntKind.i64 0] :: Value.int IntKind.i64 1 :: Value.bool true :: Value.int IntKind.i64 0 :: Value.tuple #[Value.int IntKind.i64 1, Value.bool false, Value.int IntKind.i64 0] :: n :: Value.tuple #[Value.int IntKind.i64 1, Value.bool false, Value.int IntKind.i64 0] :: Value.int IntKind.i64 1 :: Value.bool false :: Value.int IntKind.i64 0 :: Value.slice (some ⟨gl6, 0, none⟩) 2 2 :: Value.agg #[Value.bool true, Value.slice Ai 2 ci, Value.slice Bi 2 di] :: Value.pointer (some ⟨ri, 0, none⟩) :: Value.tuple #[Value.int IntKind.i64 0, Value.bool false, Value.int IntKind.i64 0] :: i :: Value.tuple #[Value.int IntKind.i64 0, Value.bool false, Value.int IntKind.i64 0] :: Value.int IntKind.i64 0 :: Value.bool false :: Value.int IntKind.i64 0 :: Value.tuple #[p, Value.bool false, Value.int IntKind.i64 0] :: n :: Value.tuple #[p, Value.bool false, Value.int IntKind.i64 0] :: p :: Value.bool false :: Value.int IntKind.i64 0 :: Value.tuple #[t, Value.int IntKind.u64 20, Value.int IntKind.i64 0] :: n :: Value.tuple #[t, Value.int IntKind.u64 20, Value.int IntKind.i64 0] :: t :: Value.int IntKind.u64 20 :: Value.int IntKind.i64 0 :: Value.tuple #[u, Value.int IntKind.u64 0, Value.int IntKind.i64 121] :: n :: Value.tuple #[u, Value.int IntKind.u64 0, Value.int IntKind.i64 121] :: u :: Value.int IntKind.u64 0 :: Value.int IntKind.i64 121 :: Value.tuple #[x, y, Value.int IntKind.i64 0] :: Value.slice (some ⟨gl16, 0, none⟩) 3 3 :: h :: Value.tuple #[x, y, Value.int IntKind.i64 0] :: x :: y :: Value.int IntKind.i64 0 :: Value.tuple #[q, Value.int IntKind.i64 0] :: Value.slice (some ⟨gl20, 0, none⟩) 5 5 :: j1 :: Value.slice (some ⟨gl22, 0, none⟩) 4 4 :: j2 :: Value.tuple #[q, Value.int IntKind.i64 0] :: q :: Value.int IntKind.i64 0 :: Value.tuple #[m, o, Value.int IntKind.i64 0] :: Value.slice (some ⟨gl25, 0, none⟩) 3 3 :: k :: Value.tuple #[m, o, Value.int IntKind.i64 0] :: m :: o :: Value.int IntKind.i64 0 :: (z 92) :: (z 93) :: (z 94) :: (z 95) :: (z 96) :: (z 97) :: (z 98) :: (z 99) :: (z 100) :: (z 101) :: (z 102) :: (z 103) :: (z 104) :: (z 105) :: (z 106) :: (z 107) :: (z 108) :: (z 109) :: (z 110) :: (z 111) :: (z 112) :: (z 113) :: (z 114) :: (z 115) :: (z 116) :: (z 117) :: (z 118) :: (z 119) :: (z 120) :: (z 121) :: (z 122) :: (z 123) :: (z 124) :: (z 125) :: z126 :: z127 :: (z 128) :: (z 129) :: (z 130) :: (z 131) :: (z 132) :: (z 133) :: (z 134) :: (z 135) :: (z 136) :: (z 137) :: (z 138) :: (z 139) :: (z 140) :: z141 :: z142 :: (z 143) :: (z 144) :: (z 145) :: (z 146) :: (z 147) :: (z 148) :: (z 149) :: undef :: undef :: undef :: undef :: undef :: undef :: undef :: undef :: undef :: undef :: undef :: undef :: undef :: undef :: undef :: undef :: undef :: undef :: undef :: undef :: undef :: undef :: undef :: undef :: undef :: undef :: undef :: undef :: undef :: undef :: undef :: undef :: undef :: undef :: undef :: undef :: undef :: undef :: undef :: undef :: undef :: undef :: undef :: undef :: undef :: undef :: undef :: undef :: undef :: undef :: undef :: undef :: undef :: undef :: [])), []⟩ ∧ Hid ((b 0 = true → (z 92) = Value.int IntKind.i64 0) ∧ (b 1 = true → (z 93) = .bool false) ∧ (b 2 = true → (z 94) = .bool false) ∧ (b 3 = true → (z 95) = Value.int IntKind.i64 1) ∧ (b 4 = true → (z 96) = .bool false) ∧ (b 5 = true → (z 97) = .bool false) ∧ (b 6 = true → (z 98) = .bool false) ∧ (b 7 = true → (z 99) = Value.bool true) ∧ (b 8 = true → (z 100) = .bool false) ∧ (b 9 = true → (z 101) = .bool false) ∧ (b 10 = true → (z 102) = .bool false) ∧ (b 11 = true → (z 103) = Value.int IntKind.i64 1) ∧ (b 12 = true → (z 104) = .bool false) ∧ (b 13 = true → (z 105) = .bool false) ∧ (b 14 = true → (z 106) = .bool false) ∧ (b 15 = true → (z 107) = Value.bool false) ∧ (b 16 = true → (z 108) = Value.bool false) ∧ (b 17 = true → (z 109) = Value.bool false) ∧ (b 18 = true → (z 110) = Value.int IntKind.i64 0) ∧ (b 19 = true → (z 111) = .bool false) ∧ (b 20 = true → (z 112) = .bool false) ∧ (b 21 = true → (z 113) = .bool false) ∧ (b 22 = true → (z 114) = Value.int IntKind.i64 0) ∧ (b 23 = true → (z 115) = .bool false) ∧ (b 24 = true → (z 116) = .bool false) ∧ (b 25 = true → (z 117) = .bool false) ∧ (b 26 = true → (z 118) = Value.int IntKind.i64 0) ∧ (b 27 = true → (z 119) = .bool false) ∧ (b 28 = true → (z 120) = .bool false) ∧ (b 29 = true → (z 121) = .bool false) ∧ (b 30 = true → (z 122) = Value.bool false) ∧ (b 31 = true → (z 123) = Value.bool false) ∧ (b 32 = true → (z 124) = Value.bool false) ∧ (b 33 = true → (z 125) = p) ∧ (b 36 = true → (z 128) = .bool true) ∧ (b 37 = true → (z 129) = .bool false) ∧ (b 38 = true → (z 130) = .bool false) ∧ (b 39 = true → (z 131) = .bool false) ∧ (b 40 = true → (z 132) = Value.int IntKind.i64 0) ∧ (b 41 = true → (z 133) = .bool false) ∧ (b 42 = true → (z 134) = .bool false) ∧ (b 43 = true → (z 135) = .bool false) ∧ (b 44 = true → (z 136) = Value.int IntKind.u64 20) ∧ (b 45 = true → (z 137) = .bool false) ∧ (b 46 = true → (z 138) = .bool false) ∧ (b 47 = true → (z 139) = .bool false) ∧ (b 48 = true → (z 140) = t) ∧ (b 51 = true → (z 143) = .bool true) ∧ (b 52 = true → (z 144) = .bool false) ∧ (b 53 = true → (z 145) = .bool false) ∧ (b 54 = true → (z 146) = .bool false) ∧ (b 55 = true → (z 147) = Value.int IntKind.i64 121) ∧ (b 56 = true → (z 148) = .bool false) ∧ (b 57 = true → (z 149) = .bool false)) ∧ Hid (Below w28.heap.size w28 wy) ∧ Hid ((b 34 = true → Lit wy z126 3 [2, 3, 5]) ∧ (b 49 = true → Lit wy z141 1 [5]) ∧ (b 35 = true → NodeV wy z127 true 3 [2, 3, 5] [20, 30, 50]) ∧ (b 50 = true → NodeV wy z142 true 1 [5] [50]))) (by kernel_rfl) (by kernel_rfl) ?startD ?stepsD ?doneD
  case startD =>
    intro b hb
    refine ⟨fun s => undef, undef, undef, undef, undef, rfl, Lib.hid ⟨?_, ?_, ?_, ?_, ?_, ?_, ?_, ?_, ?_, ?_, ?_, ?_, ?_, ?_, ?_, ?_, ?_, ?_, ?_, ?_, ?_, ?_, ?_, ?_, ?_, ?_, ?_, ?_, ?_, ?_, ?_, ?_, ?_, ?_, ?_, ?_, ?_, ?_, ?_, ?_, ?_, ?_, ?_, ?_, ?_, ?_, ?_, ?_, ?_, ?_, ?_, ?_, ?_, ?_⟩, Lib.hid ((show Still w28 w28.drew from ⟨rfl, rfl, rfl, rfl⟩).below _), Lib.hid (⟨(fun e => by rw [hb _ (by decide)] at e; cases e), (fun e => by rw [hb _ (by decide)] at e; cases e), (fun e => by rw [hb _ (by decide)] at e; cases e), (fun e => by rw [hb _ (by decide)] at e; cases e)⟩)⟩
    all_goals (intro e; first | rfl | (rw [hb _ (by decide)] at e; cases e))
  case stepsD =>
    refine ⟨?_, ?_, ?_, ?_, ?_, ?_, ?_, ?_, ?_, ?_, ?_, ?_, ?_, ?_, ?_, ?_, ?_, ?_, ?_, ?_, ?_, ?_, ?_, ?_, ?_, ?_, ?_, ?_, ?_, ?_, ?_, ?_, ?_, ?_, ?_, ?_, ?_, ?_, ?_, ?_, ?_, ?_, ?_, ?_, ?_, ?_, ?_, ?_, ?_, ?_, ?_, ?_, ?_, ?_, ?_, ?_, ?_, ?_, trivial⟩
    · rintro b a wy hb hd ⟨z, z126, z127, z141, z142, rfl, HV, HW, HX⟩ K hK
      clear hd
      go_simp
      have V := HV.out
      have V10 := V.2.2.2.2.2.2.2.2.2.2
      have V20 := V10.2.2.2.2.2.2.2.2.2.2
      have V30 := V20.2.2.2.2.2.2.2.2.2.2
      have V40 := V30.2.2.2.2.2.2.2.2.2.2
      have V50 := V40.2.2.2.2.2.2.2.2.2.2
      exact hK _ _ ⟨fun s => if s = 92 then Value.int IntKind.i64 0 else z s, _, _, _, _, rfl, Lib.hid ⟨fun _ => rfl, V.2.1, V.2.2.1, V.2.2.2.1, V.2.2.2.2.1, V.2.2.2.2.2.1, V.2.2.2.2.2.2.1, V.2.2.2.2.2.2.2.1, V.2.2.2.2.2.2.2.2.1, V.2.2.2.2.2.2.2.2.2.1, V10.1, V10.2.1, V10.2.2.1, V10.2.2.2.1, V10.2.2.2.2.1, V10.2.2.2.2.2.1, V10.2.2.2.2.2.2.1, V10.2.2.2.2.2.2.2.1, V10.2.2.2.2.2.2.2.2.1, V10.2.2.2.2.2.2.2.2.2.1, V20.1, V20.2.1, V20.2.2.1, V20.2.2.2.1, V20.2.2.2.2.1, V20.2.2.2.2.2.1, V20.2.2.2.2.2.2.1, V20.2.2.2.2.2.2.2.1, V20.2.2.2.2.2.2.2.2.1, V20.2.2.2.2.2.2.2.2.2.1, V30.1, V30.2.1, V30.2.2.1, V30.2.2.2.1, V30.2.2.2.2.1, V30.2.2.2.2.2.1, V30.2.2.2.2.2.2.1, V30.2.2.2.2.2.2.2.1, V30.2.2.2.2.2.2.2.2.1, V30.2.2.2.2.2.2.2.2.2.1, V40.1, V40.2.1, V40.2.2.1, V40.2.2.2.1, V40.2.2.2.2.1, V40.2.2.2.2.2.1, V40.2.2.2.2.2.2.1, V40.2.2.2.2.2.2.2.1, V40.2.2.2.2.2.2.2.2.1, V40.2.2.2.2.2.2.2.2.2.1, V50.1, V50.2.1, V50.2.2.1, V50.2.2.2⟩, HW, HX⟩
    · rintro b a wy hb hd ⟨z, z126, z127, z141, z142, rfl, HV, HW, HX⟩ K hK
      simp [Region.binds] at hd
      have e0 : (z 92) = Value.int IntKind.i64 0 := (HV.out.1) (by simp [hd])
      clear hd
      go_simp
      have V := HV.out
      have V10 := V.2.2.2.2.2.2.2.2.2.2
      have V20 := V10.2.2.2.2.2.2.2.2.2.2
      have V30 := V20.2.2.2.2.2.2.2.2.2.2
      have V40 := V30.2.2.2.2.2.2.2.2.2.2
      have V50 := V40.2.2.2.2.2.2.2.2.2.2
      exact hK _ _ ⟨fun s => if s = 93 then .bool false else if s = 92 then Value.int IntKind.i64 0 else z s, _, _, _, _, rfl, Lib.hid ⟨fun _ => rfl, fun _ => rfl, V.2.2.1, V.2.2.2.1, V.2.2.2.2.1, V.2.2.2.2.2.1, V.2.2.2.2.2.2.1, V.2.2.2.2.2.2.2.1, V.2.2.2.2.2.2.2.2.1, V.2.2.2.2.2.2.2.2.2.1, V10.1, V10.2.1, V10.2.2.1, V10.2.2.2.1, V10.2.2.2.2.1, V10.2.2.2.2.2.1, V10.2.2.2.2.2.2.1, V10.2.2.2.2.2.2.2.1, V10.2.2.2.2.2.2.2.2.1, V10.2.2.2.2.2.2.2.2.2.1, V20.1, V20.2.1, V20.2.2.1, V20.2.2.2.1, V20.2.2.2.2.1, V20.2.2.2.2.2.1, V20.2.2.2.2.2.2.1, V20.2.2.2.2.2.2.2.1, V20.2.2.2.2.2.2.2.2.1, V20.2.2.2.2.2.2.2.2.2.1, V30.1, V30.2.1, V30.2.2.1, V30.2.2.2.1, V30.2.2.2.2.1, V30.2.2.2.2.2.1, V30.2.2.2.2.2.2.1, V30.2.2.2.2.2.2.2.1, V30.2.2.2.2.2.2.2.2.1, V30.2.2.2.2.2.2.2.2.2.1, V40.1, V40.2.1, V40.2.2.1, V40.2.2.2.1, V40.2.2.2.2.1, V40.2.2.2.2.2.1, V40.2.2.2.2.2.2.1, V40.2.2.2.2.2.2.2.1, V40.2.2.2.2.2.2.2.2.1, V40.2.2.2.2.2.2.2.2.2.1, V50.1, V50.2.1, V50.2.2.1, V50.2.2.2⟩, HW, HX⟩
    · rintro b a wy hb hd ⟨z, z126, z127, z141, z142, rfl, HV, HW, HX⟩ K hK
      simp [Region.binds] at hd
      have e1 : (z 93) = .bool false := (HV.out.2.1) (by simp [hd])
      clear hd
      go_simp
      have V := HV.out
      have V10 := V.2.2.2.2.2.2.2.2.2.2
      have V20 := V10.2.2.2.2.2.2.2.2.2.2
      have V30 := V20.2.2.2.2.2.2.2.2.2.2
      have V40 := V30.2.2.2.2.2.2.2.2.2.2
      have V50 := V40.2.2.2.2.2.2.2.2.2.2
      exact hK _ _ ⟨fun s => if s = 94 then .bool false else if s = 93 then .bool false else z s, _, _, _, _, rfl, Lib.hid ⟨V.1, fun _ => rfl, fun _ => rfl, V.2.2.2.1, V.2.2.2.2.1, V.2.2.2.2.2.1, V.2.2.2.2.2.2.1, V.2.2.2.2.2.2.2.1, V.2.2.2.2.2.2.2.2.1, V.2.2.2.2.2.2.2.2.2.1, V10.1, V10.2.1, V10.2.2.1, V10.2.2.2.1, V10.2.2.2.2.1, V10.2.2.2.2.2.1, V10.2.2.2.2.2.2.1, V10.2.2.2.2.2.2.2.1, V10.2.2.2.2.2.2.2.2.1, V10.2.2.2.2.2.2.2.2.2.1, V20.1, V20.2.1, V20.2.2.1, V20.2.2.2.1, V20.2.2.2.2.1, V20.2.2.2.2.2.1, V20.2.2.2.2.2.2.1, V20.2.2.2.2.2.2.2.1, V20.2.2.2.2.2.2.2.2.1, V20.2.2.2.2.2.2.2.2.2.1, V30.1, V30.2.1, V30.2.2.1, V30.2.2.2.1, V30.2.2.2.2.1, V30.2.2.2.2.2.1, V30.2.2.2.2.2.2.1, V30.2.2.2.2.2.2.2.1, V30.2.2.2.2.2.2.2.2.1, V30.2.2.2.2.2.2.2.2.2.1, V40.1, V40.2.1, V40.2.2.1, V40.2.2.2.1, V40.2.2.2.2.1, V40.2.2.2.2.2.1, V40.2.2.2.2.2.2.1, V40.2.2.2.2.2.2.2.1, V40.2.2.2.2.2.2.2.2.1, V40.2.2.2.2.2.2.2.2.2.1, V50.1, V50.2.1, V50.2.2.1, V50.2.2.2⟩, HW, HX⟩
    · rintro b a wy hb hd ⟨z, z126, z127, z141, z142, rfl, HV, HW, HX⟩ K hK
      simp [Region.binds] at hd
      have e2 : (z 94) = .bool false := (HV.out.2.2.1) (by simp [hd])
      clear hd
      go_simp
      have V := HV.out
      have V10 := V.2.2.2.2.2.2.2.2.2.2
      have V20 := V10.2.2.2.2.2.2.2.2.2.2
      have V30 := V20.2.2.2.2.2.2.2.2.2.2
      have V40 := V30.2.2.2.2.2.2.2.2.2.2
      have V50 := V40.2.2.2.2.2.2.2.2.2.2
      exact hK _ _ ⟨fun s => if s = 95 then Value.int IntKind.i64 1 else if s = 94 then .bool false else z s, _, _, _, _, rfl, Lib.hid ⟨V.1, V.2.1, fun _ => rfl, fun _ => rfl, V.2.2.2.2.1, V.2.2.2.2.2.1, V.2.2.2.2.2.2.1, V.2.2.2.2.2.2.2.1, V.2.2.2.2.2.2.2.2.1, V.2.2.2.2.2.2.2.2.2.1, V10.1, V10.2.1, V10.2.2.1, V10.2.2.2.1, V10.2.2.2.2.1, V10.2.2.2.2.2.1, V10.2.2.2.2.2.2.1, V10.2.2.2.2.2.2.2.1, V10.2.2.2.2.2.2.2.2.1, V10.2.2.2.2.2.2.2.2.2.1, V20.1, V20.2.1, V20.2.2.1, V20.2.2.2.1, V20.2.2.2.2.1, V20.2.2.2.2.2.1, V20.2.2.2.2.2.2.1, V20.2.2.2.2.2.2.2.1, V20.2.2.2.2.2.2.2.2.1, V20.2.2.2.2.2.2.2.2.2.1, V30.1, V30.2.1, V30.2.2.1, V30.2.2.2.1, V30.2.2.2.2.1, V30.2.2.2.2.2.1, V30.2.2.2.2.2.2.1, V30.2.2.2.2.2.2.2.1, V30.2.2.2.2.2.2.2.2.1, V30.2.2.2.2.2.2.2.2.2.1, V40.1, V40.2.1, V40.2.2.1, V40.2.2.2.1, V40.2.2.2.2.1, V40.2.2.2.2.2.1, V40.2.2.2.2.2.2.1, V40.2.2.2.2.2.2.2.1, V40.2.2.2.2.2.2.2.2.1, V40.2.2.2.2.2.2.2.2.2.1, V50.1, V50.2.1, V50.2.2.1, V50.2.2.2⟩, HW, HX⟩
    · rintro b a wy hb hd ⟨z, z126, z127, z141, z142, rfl, HV, HW, HX⟩ K hK
      simp [Region.binds] at hd
      have e2 : (z 94) = .bool false := (HV.out.2.2.1) (by simp [hd])
      have e3 : (z 95) = Value.int IntKind.i64 1 := (HV.out.2.2.2.1) (by simp [hd])
      clear hd
      go_simp
      have V := HV.out
      have V10 := V.2.2.2.2.2.2.2.2.2.2
      have V20 := V10.2.2.2.2.2.2.2.2.2.2
      have V30 := V20.2.2.2.2.2.2.2.2.2.2
      have V40 := V30.2.2.2.2.2.2.2.2.2.2
      have V50 := V40.2.2.2.2.2.2.2.2.2.2
      exact hK _ _ ⟨fun s => if s = 96 then .bool false else if s = 94 then .bool false else if s = 95 then Value.int IntKind.i64 1 else z s, _, _, _, _, rfl, Lib.hid ⟨V.1, V.2.1, fun _ => rfl, fun _ => rfl, fun _ => rfl, V.2.2.2.2.2.1, V.2.2.2.2.2.2.1, V.2.2.2.2.2.2.2.1, V.2.2.2.2.2.2.2.2.1, V.2.2.2.2.2.2.2.2.2.1, V10.1, V10.2.1, V10.2.2.1, V10.2.2.2.1, V10.2.2.2.2.1, V10.2.2.2.2.2.1, V10.2.2.2.2.2.2.1, V10.2.2.2.2.2.2.2.1, V10.2.2.2.2.2.2.2.2.1, V10.2.2.2.2.2.2.2.2.2.1, V20.1, V20.2.1, V20.2.2.1, V20.2.2.2.1, V20.2.2.2.2.1, V20.2.2.2.2.2.1, V20.2.2.2.2.2.2.1, V20.2.2.2.2.2.2.2.1, V20.2.2.2.2.2.2.2.2.1, V20.2.2.2.2.2.2.2.2.2.1, V30.1, V30.2.1, V30.2.2.1, V30.2.2.2.1, V30.2.2.2.2.1, V30.2.2.2.2.2.1, V30.2.2.2.2.2.2.1, V30.2.2.2.2.2.2.2.1, V30.2.2.2.2.2.2.2.2.1, V30.2.2.2.2.2.2.2.2.2.1, V40.1, V40.2.1, V40.2.2.1, V40.2.2.2.1, V40.2.2.2.2.1, V40.2.2.2.2.2.1, V40.2.2.2.2.2.2.1, V40.2.2.2.2.2.2.2.1, V40.2.2.2.2.2.2.2.2.1, V40.2.2.2.2.2.2.2.2.2.1, V50.1, V50.2.1, V50.2.2.1, V50.2.2.2⟩, HW, HX⟩
    · rintro b a wy hb hd ⟨z, z126, z127, z141, z142, rfl, HV, HW, HX⟩ K hK
      simp [Region.binds] at hd
      have e2 : (z 94) = .bool false := (HV.out.2.2.1) (by simp [hd])
      have e4 : (z 96) = .bool false := (HV.out.2.2.2.2.1) (by simp [hd])
      clear hd
      go_simp
      have V := HV.out
      have V10 := V.2.2.2.2.2.2.2.2.2.2
      have V20 := V10.2.2.2.2.2.2.2.2.2.2
      have V30 := V20.2.2.2.2.2.2.2.2.2.2
      have V40 := V30.2.2.2.2.2.2.2.2.2.2
      have V50 := V40.2.2.2.2.2.2.2.2.2.2
      exact hK _ _ ⟨fun s => if s = 97 then .bool false else if s = 94 then .bool false else if s = 96 then .bool false else z s, _, _, _, _, rfl, Lib.hid ⟨V.1, V.2.1, fun _ => rfl, V.2.2.2.1, fun _ => rfl, fun _ => rfl, V.2.2.2.2.2.2.1, V.2.2.2.2.2.2.2.1, V.2.2.2.2.2.2.2.2.1, V.2.2.2.2.2.2.2.2.2.1, V10.1, V10.2.1, V10.2.2.1, V10.2.2.2.1, V10.2.2.2.2.1, V10.2.2.2.2.2.1, V10.2.2.2.2.2.2.1, V10.2.2.2.2.2.2.2.1, V10.2.2.2.2.2.2.2.2.1, V10.2.2.2.2.2.2.2.2.2.1, V20.1, V20.2.1, V20.2.2.1, V20.2.2.2.1, V20.2.2.2.2.1, V20.2.2.2.2.2.1, V20.2.2.2.2.2.2.1, V20.2.2.2.2.2.2.2.1, V20.2.2.2.2.2.2.2.2.1, V20.2.2.2.2.2.2.2.2.2.1, V30.1, V30.2.1, V30.2.2.1, V30.2.2.2.1, V30.2.2.2.2.1, V30.2.2.2.2.2.1, V30.2.2.2.2.2.2.1, V30.2.2.2.2.2.2.2.1, V30.2.2.2.2.2.2.2.2.1, V30.2.2.2.2.2.2.2.2.2.1, V40.1, V40.2.1, V40.2.2.1, V40.2.2.2.1, V40.2.2.2.2.1, V40.2.2.2.2.2.1, V40.2.2.2.2.2.2.1, V40.2.2.2.2.2.2.2.1, V40.2.2.2.2.2.2.2.2.1, V40.2.2.2.2.2.2.2.2.2.1, V50.1, V50.2.1, V50.2.2.1, V50.2.2.2⟩, HW, HX⟩
    · rintro b a wy hb hd ⟨z, z126, z127, z141, z142, rfl, HV, HW, HX⟩ K hK
      simp [Region.binds] at hd
      have e5 : (z 97) = .bool false := (HV.out.2.2.2.2.2.1) (by simp [hd])
      clear hd
      go_simp
      have V := HV.out
      have V10 := V.2.2.2.2.2.2.2.2.2.2
      have V20 := V10.2.2.2.2.2.2.2.2.2.2
      have V30 := V20.2.2.2.2.2.2.2.2.2.2
      have V40 := V30.2.2.2.2.2.2.2.2.2.2
      have V50 := V40.2.2.2.2.2.2.2.2.2.2
      exact hK _ _ ⟨fun s => if s = 98 then .bool false else if s = 97 then .bool false else z s, _, _, _, _, rfl, Lib.hid ⟨V.1, V.2.1, V.2.2.1, V.2.2.2.1, V.2.2.2.2.1, fun _ => rfl, fun _ => rfl, V.2.2.2.2.2.2.2.1, V.2.2.2.2.2.2.2.2.1, V.2.2.2.2.2.2.2.2.2.1, V10.1, V10.2.1, V10.2.2.1, V10.2.2.2.1, V10.2.2.2.2.1, V10.2.2.2.2.2.1, V10.2.2.2.2.2.2.1, V10.2.2.2.2.2.2.2.1, V10.2.2.2.2.2.2.2.2.1, V10.2.2.2.2.2.2.2.2.2.1, V20.1, V20.2.1, V20.2.2.1, V20.2.2.2.1, V20.2.2.2.2.1, V20.2.2.2.2.2.1, V20.2.2.2.2.2.2.1, V20.2.2.2.2.2.2.2.1, V20.2.2.2.2.2.2.2.2.1, V20.2.2.2.2.2.2.2.2.2.1, V30.1, V30.2.1, V30.2.2.1, V30.2.2.2.1, V30.2.2.2.2.1, V30.2.2.2.2.2.1, V30.2.2.2.2.2.2.1, V30.2.2.2.2.2.2.2.1, V30.2.2.2.2.2.2.2.2.1, V30.2.2.2.2.2.2.2.2.2.1, V40.1, V40.2.1, V40.2.2.1, V40.2.2.2.1, V40.2.2.2.2.1, V40.2.2.2.2.2.1, V40.2.2.2.2.2.2.1, V40.2.2.2.2.2.2.2.1, V40.2.2.2.2.2.2.2.2.1, V40.2.2.2.2.2.2.2.2.2.1, V50.1, V50.2.1, V50.2.2.1, V50.2.2.2⟩, HW, HX⟩
    · rintro b a wy hb hd ⟨z, z126, z127, z141, z142, rfl, HV, HW, HX⟩ K hK
      simp [Region.binds] at hd
      have e6 : (z 98) = .bool false := (HV.out.2.2.2.2.2.2.1) (by simp [hd])
      clear hd
      go_simp
      have V := HV.out
      have V10 := V.2.2.2.2.2.2.2.2.2.2
      have V20 := V10.2.2.2.2.2.2.2.2.2.2
      have V30 := V20.2.2.2.2.2.2.2.2.2.2
      have V40 := V30.2.2.2.2.2.2.2.2.2.2
      have V50 := V40.2.2.2.2.2.2.2.2.2.2
      exact hK _ _ ⟨fun s => if s = 99 then Value.bool true else if s = 98 then .bool false else z s, _, _, _, _, rfl, Lib.hid ⟨V.1, V.2.1, V.2.2.1, V.2.2.2.1, V.2.2.2.2.1, V.2.2.2.2.2.1, fun _ => rfl, fun _ => rfl, V.2.2.2.2.2.2.2.2.1, V.2.2.2.2.2.2.2.2.2.1, V10.1, V10.2.1, V10.2.2.1, V10.2.2.2.1, V10.2.2.2.2.1, V10.2.2.2.2.2.1, V10.2.2.2.2.2.2.1, V10.2.2.2.2.2.2.2.1, V10.2.2.2.2.2.2.2.2.1, V10.2.2.2.2.2.2.2.2.2.1, V20.1, V20.2.1, V20.2.2.1, V20.2.2.2.1, V20.2.2.2.2.1, V20.2.2.2.2.2.1, V20.2.2.2.2.2.2.1, V20.2.2.2.2.2.2.2.1, V20.2.2.2.2.2.2.2.2.1, V20.2.2.2.2.2.2.2.2.2.1, V30.1, V30.2.1, V30.2.2.1, V30.2.2.2.1, V30.2.2.2.2.1, V30.2.2.2.2.2.1, V30.2.2.2.2.2.2.1, V30.2.2.2.2.2.2.2.1, V30.2.2.2.2.2.2.2.2.1, V30.2.2.2.2.2.2.2.2.2.1, V40.1, V40.2.1, V40.2.2.1, V40.2.2.2.1, V40.2.2.2.2.1, V40.2.2.2.2.2.1, V40.2.2.2.2.2.2.1, V40.2.2.2.2.2.2.2.1, V40.2.2.2.2.2.2.2.2.1, V40.2.2.2.2.2.2.2.2.2.1, V50.1, V50.2.1, V50.2.2.1, V50.2.2.2⟩, HW, HX⟩
    · rintro b a wy hb hd ⟨z, z126, z127, z141, z142, rfl, HV, HW, HX⟩ K hK
      simp [Region.binds] at hd
      have e6 : (z 98) = .bool false := (HV.out.2.2.2.2.2.2.1) (by simp [hd])
      have e7 : (z 99) = Value.bool true := (HV.out.2.2.2.2.2.2.2.1) (by simp [hd])
      clear hd
      go_simp
      have V := HV.out
      have V10 := V.2.2.2.2.2.2.2.2.2.2
      have V20 := V10.2.2.2.2.2.2.2.2.2.2
      have V30 := V20.2.2.2.2.2.2.2.2.2.2
      have V40 := V30.2.2.2.2.2.2.2.2.2.2
      have V50 := V40.2.2.2.2.2.2.2.2.2.2
      exact hK _ _ ⟨fun s => if s = 100 then .bool false else if s = 98 then .bool false else if s = 99 then Value.bool true else z s, _, _, _, _, rfl, Lib.hid ⟨V.1, V.2.1, V.2.2.1, V.2.2.2.1, V.2.2.2.2.1, V.2.2.2.2.2.1, fun _ => rfl, fun _ => rfl, fun _ => rfl, V.2.2.2.2.2.2.2.2.2.1, V10.1, V10.2.1, V10.2.2.1, V10.2.2.2.1, V10.2.2.2.2.1, V10.2.2.2.2.2.1, V10.2.2.2.2.2.2.1, V10.2.2.2.2.2.2.2.1, V10.2.2.2.2.2.2.2.2.1, V10.2.2.2.2.2.2.2.2.2.1, V20.1, V20.2.1, V20.2.2.1, V20.2.2.2.1, V20.2.2.2.2.1, V20.2.2.2.2.2.1, V20.2.2.2.2.2.2.1, V20.2.2.2.2.2.2.2.1, V20.2.2.2.2.2.2.2.2.1, V20.2.2.2.2.2.2.2.2.2.1, V30.1, V30.2.1, V30.2.2.1, V30.2.2.2.1, V30.2.2.2.2.1, V30.2.2.2.2.2.1, V30.2.2.2.2.2.2.1, V30.2.2.2.2.2.2.2.1, V30.2.2.2.2.2.2.2.2.1, V30.2.2.2.2.2.2.2.2.2.1, V40.1, V40.2.1, V40.2.2.1, V40.2.2.2.1, V40.2.2.2.2.1, V40.2.2.2.2.2.1, V40.2.2.2.2.2.2.1, V40.2.2.2.2.2.2.2.1, V40.2.2.2.2.2.2.2.2.1, V40.2.2.2.2.2.2.2.2.2.1, V50.1, V50.2.1, V50.2.2.1, V50.2.2.2⟩, HW, HX⟩
    · rintro b a wy hb hd ⟨z, z126, z127, z141, z142, rfl, HV, HW, HX⟩ K hK
      simp [Region.binds] at hd
      have e6 : (z 98) = .bool false := (HV.out.2.2.2.2.2.2.1) (by simp [hd])
      have e8 : (z 100) = .bool false := (HV.out.2.2.2.2.2.2.2.2.1) (by simp [hd])
      clear hd
      go_simp
      have V := HV.out
      have V10 := V.2.2.2.2.2.2.2.2.2.2
      have V20 := V10.2.2.2.2.2.2.2.2.2.2
      have V30 := V20.2.2.2.2.2.2.2.2.2.2
      have V40 := V30.2.2.2.2.2.2.2.2.2.2
      have V50 := V40.2.2.2.2.2.2.2.2.2.2
      exact hK _ _ ⟨fun s => if s = 101 then .bool false else if s = 98 then .bool false else if s = 100 then .bool false else z s, _, _, _, _, rfl, Lib.hid ⟨V.1, V.2.1, V.2.2.1, V.2.2.2.1, V.2.2.2.2.1, V.2.2.2.2.2.1, fun _ => rfl, V.2.2.2.2.2.2.2.1, fun _ => rfl, fun _ => rfl, V10.1, V10.2.1, V10.2.2.1, V10.2.2.2.1, V10.2.2.2.2.1, V10.2.2.2.2.2.1, V10.2.2.2.2.2.2.1, V10.2.2.2.2.2.2.2.1, V10.2.2.2.2.2.2.2.2.1, V10.2.2.2.2.2.2.2.2.2.1, V20.1, V20.2.1, V20.2.2.1, V20.2.2.2.1, V20.2.2.2.2.1, V20.2.2.2.2.2.1, V20.2.2.2.2.2.2.1, V20.2.2.2.2.2.2.2.1, V20.2.2.2.2.2.2.2.2.1, V20.2.2.2.2.2.2.2.2.2.1, V30.1, V30.2.1, V30.2.2.1, V30.2.2.2.1, V30.2.2.2.2.1, V30.2.2.2.2.2.1, V30.2.2.2.2.2.2.1, V30.2.2.2.2.2.2.2.1, V30.2.2.2.2.2.2.2.2.1, V30.2.2.2.2.2.2.2.2.2.1, V40.1, V40.2.1, V40.2.2.1, V40.2.2.2.1, V40.2.2.2.2.1, V40.2.2.2.2.2.1, V40.2.2.2.2.2.2.1, V40.2.2.2.2.2.2.2.1, V40.2.2.2.2.2.2.2.2.1, V40.2.2.2.2.2.2.2.2.2.1, V50.1, V50.2.1, V50.2.2.1, V50.2.2.2⟩, HW, HX⟩
    · rintro b a wy hb hd ⟨z, z126, z127, z141, z142, rfl, HV, HW, HX⟩ K hK
      simp [Region.binds] at hd
      have e9 : (z 101) = .bool false := (HV.out.2.2.2.2.2.2.2.2.2.1) (by simp [hd])
      clear hd
      go_simp
      have V := HV.out
      have V10 := V.2.2.2.2.2.2.2.2.2.2
      have V20 := V10.2.2.2.2.2.2.2.2.2.2
      have V30 := V20.2.2.2.2.2.2.2.2.2.2
      have V40 := V30.2.2.2.2.2.2.2.2.2.2
      have V50 := V40.2.2.2.2.2.2.2.2.2.2
      exact hK _ _ ⟨fun s => if s = 102 then .bool false else if s = 101 then .bool false else z s, _, _, _, _, rfl, Lib.hid ⟨V.1, V.2.1, V.2.2.1, V.2.2.2.1, V.2.2.2.2.1, V.2.2.2.2.2.1, V.2.2.2.2.2.2.1, V.2.2.2.2.2.2.2.1, V.2.2.2.2.2.2.2.2.1, fun _ => rfl, fun _ => rfl, V10.2.1, V10.2.2.1, V10.2.2.2.1, V10.2.2.2.2.1, V10.2.2.2.2.2.1, V10.2.2.2.2.2.2.1, V10.2.2.2.2.2.2.2.1, V10.2.2.2.2.2.2.2.2.1, V10.2.2.2.2.2.2.2.2.2.1, V20.1, V20.2.1, V20.2.2.1, V20.2.2.2.1, V20.2.2.2.2.1, V20.2.2.2.2.2.1, V20.2.2.2.2.2.2.1, V20.2.2.2.2.2.2.2.1, V20.2.2.2.2.2.2.2.2.1, V20.2.2.2.2.2.2.2.2.2.1, V30.1, V30.2.1, V30.2.2.1, V30.2.2.2.1, V30.2.2.2.2.1, V30.2.2.2.2.2.1, V30.2.2.2.2.2.2.1, V30.2.2.2.2.2.2.2.1, V30.2.2.2.2.2.2.2.2.1, V30.2.2.2.2.2.2.2.2.2.1, V40.1, V40.2.1, V40.2.2.1, V40.2.2.2.1, V40.2.2.2.2.1, V40.2.2.2.2.2.1, V40.2.2.2.2.2.2.1, V40.2.2.2.2.2.2.2.1, V40.2.2.2.2.2.2.2.2.1, V40.2.2.2.2.2.2.2.2.2.1, V50.1, V50.2.1, V50.2.2.1, V50.2.2.2⟩, HW, HX⟩
    · rintro b a wy hb hd ⟨z, z126, z127, z141, z142, rfl, HV, HW, HX⟩ K hK
      simp [Region.binds] at hd
      have e10 : (z 102) = .bool false := (HV.out.2.2.2.2.2.2.2.2.2.2.1) (by simp [hd])
      clear hd
      go_simp
      have V := HV.out
      have V10 := V.2.2.2.2.2.2.2.2.2.2
      have V20 := V10.2.2.2.2.2.2.2.2.2.2
      have V30 := V20.2.2.2.2.2.2.2.2.2.2
      have V40 := V30.2.2.2.2.2.2.2.2.2.2
      have V50 := V40.2.2.2.2.2.2.2.2.2.2
      exact hK _ _ ⟨fun s => if s = 103 then Value.int IntKind.i64 1 else if s = 102 then .bool false else z s, _, _, _, _, rfl, Lib.hid ⟨V.1, V.2.1, V.2.2.1, V.2.2.2.1, V.2.2.2.2.1, V.2.2.2.2.2.1, V.2.2.2.2.2.2.1, V.2.2.2.2.2.2.2.1, V.2.2.2.2.2.2.2.2.1, V.2.2.2.2.2.2.2.2.2.1, fun _ => rfl, fun _ => rfl, V10.2.2.1, V10.2.2.2.1, V10.2.2.2.2.1, V10.2.2.2.2.2.1, V10.2.2.2.2.2.2.1, V10.2.2.2.2.2.2.2.1, V10.2.2.2.2.2.2.2.2.1, V10.2.2.2.2.2.2.2.2.2.1, V20.1, V20.2.1, V20.2.2.1, V20.2.2.2.1, V20.2.2.2.2.1, V20.2.2.2.2.2.1, V20.2.2.2.2.2.2.1, V20.2.2.2.2.2.2.2.1, V20.2.2.2.2.2.2.2.2.1, V20.2.2.2.2.2.2.2.2.2.1, V30.1, V30.2.1, V30.2.2.1, V30.2.2.2.1, V30.2.2.2.2.1, V30.2.2.2.2.2.1, V30.2.2.2.2.2.2.1, V30.2.2.2.2.2.2.2.1, V30.2.2.2.2.2.2.2.2.1, V30.2.2.2.2.2.2.2.2.2.1, V40.1, V40.2.1, V40.2.2.1, V40.2.2.2.1, V40.2.2.2.2.1, V40.2.2.2.2.2.1, V40.2.2.2.2.2.2.1, V40.2.2.2.2.2.2.2.1, V40.2.2.2.2.2.2.2.2.1, V40.2.2.2.2.2.2.2.2.2.1, V50.1, V50.2.1, V50.2.2.1, V50.2.2.2⟩, HW, HX⟩
    · rintro b a wy hb hd ⟨z, z126, z127, z141, z142, rfl, HV, HW, HX⟩ K hK
      simp [Region.binds] at hd
      have e10 : (z 102) = .bool false := (HV.out.2.2.2.2.2.2.2.2.2.2.1) (by simp [hd])
      have e11 : (z 103) = Value.int IntKind.i64 1 := (HV.out.2.2.2.2.2.2.2.2.2.2.2.1) (by simp [hd])
      clear hd
      go_simp
      have V := HV.out
      have V10 := V.2.2.2.2.2.2.2.2.2.2
      have V20 := V10.2.2.2.2.2.2.2.2.2.2
      have V30 := V20.2.2.2.2.2.2.2.2.2.2
      have V40 := V30.2.2.2.2.2.2.2.2.2.2
      have V50 := V40.2.2.2.2.2.2.2.2.2.2
      exact hK _ _ ⟨fun s => if s = 104 then .bool false else if s = 102 then .bool false else if s = 103 then Value.int IntKind.i64 1 else z s, _, _, _, _, rfl, Lib.hid ⟨V.1, V.2.1, V.2.2.1, V.2.2.2.1, V.2.2.2.2.1, V.2.2.2.2.2.1, V.2.2.2.2.2.2.1, V.2.2.2.2.2.2.2.1, V.2.2.2.2.2.2.2.2.1, V.2.2.2.2.2.2.2.2.2.1, fun _ => rfl, fun _ => rfl, fun _ => rfl, V10.2.2.2.1, V10.2.2.2.2.1, V10.2.2.2.2.2.1, V10.2.2.2.2.2.2.1, V10.2.2.2.2.2.2.2.1, V10.2.2.2.2.2.2.2.2.1, V10.2.2.2.2.2.2.2.2.2.1, V20.1, V20.2.1, V20.2.2.1, V20.2.2.2.1, V20.2.2.2.2.1, V20.2.2.2.2.2.1, V20.2.2.2.2.2.2.1, V20.2.2.2.2.2.2.2.1, V20.2.2.2.2.2.2.2.2.1, V20.2.2.2.2.2.2.2.2.2.1, V30.1, V30.2.1, V30.2.2.1, V30.2.2.2.1, V30.2.2.2.2.1, V30.2.2.2.2.2.1, V30.2.2.2.2.2.2.1, V30.2.2.2.2.2.2.2.1, V30.2.2.2.2.2.2.2.2.1, V30.2.2.2.2.2.2.2.2.2.1, V40.1, V40.2.1, V40.2.2.1, V40.2.2.2.1, V40.2.2.2.2.1, V40.2.2.2.2.2.1, V40.2.2.2.2.2.2.1, V40.2.2.2.2.2.2.2.1, V40.2.2.2.2.2.2.2.2.1, V40.2.2.2.2.2.2.2.2.2.1, V50.1, V50.2.1, V50.2.2.1, V50.2.2.2⟩, HW, HX⟩
    · rintro b a wy hb hd ⟨z, z126, z127, z141, z142, rfl, HV, HW, HX⟩ K hK
      simp [Region.binds] at hd
      have e10 : (z 102) = .bool false := (HV.out.2.2.2.2.2.2.2.2.2.2.1) (by simp [hd])
      have e12 : (z 104) = .bool false := (HV.out.2.2.2.2.2.2.2.2.2.2.2.2.1) (by simp [hd])
      clear hd
      go_simp
      have V := HV.out
      have V10 := V.2.2.2.2.2.2.2.2.2.2
      have V20 := V10.2.2.2.2.2.2.2.2.2.2
      have V30 := V20.2.2.2.2.2.2.2.2.2.2
      have V40 := V30.2.2.2.2.2.2.2.2.2.2
      have V50 := V40.2.2.2.2.2.2.2.2.2.2
      exact hK _ _ ⟨fun s => if s = 105 then .bool false else if s = 102 then .bool false else if s = 104 then .bool false else z s, _, _, _, _, rfl, Lib.hid ⟨V.1, V.2.1, V.2.2.1, V.2.2.2.1, V.2.2.2.2.1, V.2.2.2.2.2.1, V.2.2.2.2.2.2.1, V.2.2.2.2.2.2.2.1, V.2.2.2.2.2.2.2.2.1, V.2.2.2.2.2.2.2.2.2.1, fun _ => rfl, V10.2.1, fun _ => rfl, fun _ => rfl, V10.2.2.2.2.1, V10.2.2.2.2.2.1, V10.2.2.2.2.2.2.1, V10.2.2.2.2.2.2.2.1, V10.2.2.2.2.2.2.2.2.1, V10.2.2.2.2.2.2.2.2.2.1, V20.1, V20.2.1, V20.2.2.1, V20.2.2.2.1, V20.2.2.2.2.1, V20.2.2.2.2.2.1, V20.2.2.2.2.2.2.1, V20.2.2.2.2.2.2.2.1, V20.2.2.2.2.2.2.2.2.1, V20.2.2.2.2.2.2.2.2.2.1, V30.1, V30.2.1, V30.2.2.1, V30.2.2.2.1, V30.2.2.2.2.1, V30.2.2.2.2.2.1, V30.2.2.2.2.2.2.1, V30.2.2.2.2.2.2.2.1, V30.2.2.2.2.2.2.2.2.1, V30.2.2.2.2.2.2.2.2.2.1, V40.1, V40.2.1, V40.2.2.1, V40.2.2.2.1, V40.2.2.2.2.1, V40.2.2.2.2.2.1, V40.2.2.2.2.2.2.1, V40.2.2.2.2.2.2.2.1, V40.2.2.2.2.2.2.2.2.1, V40.2.2.2.2.2.2.2.2.2.1, V50.1, V50.2.1, V50.2.2.1, V50.2.2.2⟩, HW, HX⟩
    · rintro b a wy hb hd ⟨z, z126, z127, z141, z142, rfl, HV, HW, HX⟩ K hK
      simp [Region.binds] at hd
      have e13 : (z 105) = .bool false := (HV.out.2.2.2.2.2.2.2.2.2.2.2.2.2.1) (by simp [hd])
      clear hd
      go_simp
      have V := HV.out
      have V10 := V.2.2.2.2.2.2.2.2.2.2
      have V20 := V10.2.2.2.2.2.2.2.2.2.2
      have V30 := V20.2.2.2.2.2.2.2.2.2.2
      have V40 := V30.2.2.2.2.2.2.2.2.2.2
      have V50 := V40.2.2.2.2.2.2.2.2.2.2
      exact hK _ _ ⟨fun s => if s = 106 then .bool false else if s = 105 then .bool false else z s, _, _, _, _, rfl, Lib.hid ⟨V.1, V.2.1, V.2.2.1, V.2.2.2.1, V.2.2.2.2.1, V.2.2.2.2.2.1, V.2.2.2.2.2.2.1, V.2.2.2.2.2.2.2.1, V.2.2.2.2.2.2.2.2.1, V.2.2.2.2.2.2.2.2.2.1, V10.1, V10.2.1, V10.2.2.1, fun _ => rfl, fun _ => rfl, V10.2.2.2.2.2.1, V10.2.2.2.2.2.2.1, V10.2.2.2.2.2.2.2.1, V10.2.2.2.2.2.2.2.2.1, V10.2.2.2.2.2.2.2.2.2.1, V20.1, V20.2.1, V20.2.2.1, V20.2.2.2.1, V20.2.2.2.2.1, V20.2.2.2.2.2.1, V20.2.2.2.2.2.2.1, V20.2.2.2.2.2.2.2.1, V20.2.2.2.2.2.2.2.2.1, V20.2.2.2.2.2.2.2.2.2.1, V30.1, V30.2.1, V30.2.2.1, V30.2.2.2.1, V30.2.2.2.2.1, V30.2.2.2.2.2.1, V30.2.2.2.2.2.2.1, V30.2.2.2.2.2.2.2.1, V30.2.2.2.2.2.2.2.2.1, V30.2.2.2.2.2.2.2.2.2.1, V40.1, V40.2.1, V40.2.2.1, V40.2.2.2.1, V40.2.2.2.2.1, V40.2.2.2.2.2.1, V40.2.2.2.2.2.2.1, V40.2.2.2.2.2.2.2.1, V40.2.2.2.2.2.2.2.2.1, V40.2.2.2.2.2.2.2.2.2.1, V50.1, V50.2.1, V50.2.2.1, V50.2.2.2⟩, HW, HX⟩
    · rintro b a wy hb hd ⟨z, z126, z127, z141, z142, rfl, HV, HW, HX⟩ K hK
      simp [Region.binds] at hd
      have e14 : (z 106) = .bool false := (HV.out.2.2.2.2.2.2.2.2.2.2.2.2.2.2.1) (by simp [hd])
      clear hd
      go_simp
      have V := HV.out
      have V10 := V.2.2.2.2.2.2.2.2.2.2
      have V20 := V10.2.2.2.2.2.2.2.2.2.2
      have V30 := V20.2.2.2.2.2.2.2.2.2.2
      have V40 := V30.2.2.2.2.2.2.2.2.2.2
      have V50 := V40.2.2.2.2.2.2.2.2.2.2
      exact hK _ _ ⟨fun s => if s = 107 then Value.bool false else if s = 106 then .bool false else z s, _, _, _, _, rfl, Lib.hid ⟨V.1, V.2.1, V.2.2.1, V.2.2.2.1, V.2.2.2.2.1, V.2.2.2.2.2.1, V.2.2.2.2.2.2.1, V.2.2.2.2.2.2.2.1, V.2.2.2.2.2.2.2.2.1, V.2.2.2.2.2.2.2.2.2.1, V10.1, V10.2.1, V10.2.2.1, V10.2.2.2.1, fun _ => rfl, fun _ => rfl, V10.2.2.2.2.2.2.1, V10.2.2.2.2.2.2.2.1, V10.2.2.2.2.2.2.2.2.1, V10.2.2.2.2.2.2.2.2.2.1, V20.1, V20.2.1, V20.2.2.1, V20.2.2.2.1, V20.2.2.2.2.1, V20.2.2.2.2.2.1, V20.2.2.2.2.2.2.1, V20.2.2.2.2.2.2.2.1, V20.2.2.2.2.2.2.2.2.1, V20.2.2.2.2.2.2.2.2.2.1, V30.1, V30.2.1, V30.2.2.1, V30.2.2.2.1, V30.2.2.2.2.1, V30.2.2.2.2.2.1, V30.2.2.2.2.2.2.1, V30.2.2.2.2.2.2.2.1, V30.2.2.2.2.2.2.2.2.1, V30.2.2.2.2.2.2.2.2.2.1, V40.1, V40.2.1, V40.2.2.1, V40.2.2.2.1, V40.2.2.2.2.1, V40.2.2.2.2.2.1, V40.2.2.2.2.2.2.1, V40.2.2.2.2.2.2.2.1, V40.2.2.2.2.2.2.2.2.1, V40.2.2.2.2.2.2.2.2.2.1, V50.1, V50.2.1, V50.2.2.1, V50.2.2.2⟩, HW, HX⟩
    · rintro b a wy hb hd ⟨z, z126, z127, z141, z142, rfl, HV, HW, HX⟩ K hK
      simp [Region.binds] at hd
      have e14 : (z 106) = .bool false := (HV.out.2.2.2.2.2.2.2.2.2.2.2.2.2.2.1) (by simp [hd])
      have e15 : (z 107) = Value.bool false := (HV.out.2.2.2.2.2.2.2.2.2.2.2.2.2.2.2.1) (by simp [hd])
      clear hd
      go_simp
      have V := HV.out
      have V10 := V.2.2.2.2.2.2.2.2.2.2
      have V20 := V10.2.2.2.2.2.2.2.2.2.2
      have V30 := V20.2.2.2.2.2.2.2.2.2.2
      have V40 := V30.2.2.2.2.2.2.2.2.2.2
      have V50 := V40.2.2.2.2.2.2.2.2.2.2
      exact hK _ _ ⟨fun s => if s = 108 then Value.bool false else if s = 106 then .bool false else if s = 107 then Value.bool false else z s, _, _, _, _, rfl, Lib.hid ⟨V.1, V.2.1, V.2.2.1, V.2.2.2.1, V.2.2.2.2.1, V.2.2.2.2.2.1, V.2.2.2.2.2.2.1, V.2.2.2.2.2.2.2.1, V.2.2.2.2.2.2.2.2.1, V.2.2.2.2.2.2.2.2.2.1, V10.1, V10.2.1, V10.2.2.1, V10.2.2.2.1, fun _ => rfl, fun _ => rfl, fun _ => rfl, V10.2.2.2.2.2.2.2.1, V10.2.2.2.2.2.2.2.2.1, V10.2.2.2.2.2.2.2.2.2.1, V20.1, V20.2.1, V20.2.2.1, V20.2.2.2.1, V20.2.2.2.2.1, V20.2.2.2.2.2.1, V20.2.2.2.2.2.2.1, V20.2.2.2.2.2.2.2.1, V20.2.2.2.2.2.2.2.2.1, V20.2.2.2.2.2.2.2.2.2.1, V30.1, V30.2.1, V30.2.2.1, V30.2.2.2.1, V30.2.2.2.2.1, V30.2.2.2.2.2.1, V30.2.2.2.2.2.2.1, V30.2.2.2.2.2.2.2.1, V30.2.2.2.2.2.2.2.2.1, V30.2.2.2.2.2.2.2.2.2.1, V40.1, V40.2.1, V40.2.2.1, V40.2.2.2.1, V40.2.2.2.2.1, V40.2.2.2.2.2.1, V40.2.2.2.2.2.2.1, V40.2.2.2.2.2.2.2.1, V40.2.2.2.2.2.2.2.2.1, V40.2.2.2.2.2.2.2.2.2.1, V50.1, V50.2.1, V50.2.2.1, V50.2.2.2⟩, HW, HX⟩
    · rintro b a wy hb hd ⟨z, z126, z127, z141, z142, rfl, HV, HW, HX⟩ K hK
      simp [Region.binds] at hd
      have e16 : (z 108) = Value.bool false := (HV.out.2.2.2.2.2.2.2.2.2.2.2.2.2.2.2.2.1) (by simp [hd])
      clear hd
      go_simp
      have V := HV.out
      have V10 := V.2.2.2.2.2.2.2.2.2.2
      have V20 := V10.2.2.2.2.2.2.2.2.2.2
      have V30 := V20.2.2.2.2.2.2.2.2.2.2
      have V40 := V30.2.2.2.2.2.2.2.2.2.2
      have V50 := V40.2.2.2.2.2.2.2.2.2.2
      exact hK _ _ ⟨fun s => if s = 109 then Value.bool false else if s = 108 then Value.bool false else z s, _, _, _, _, rfl, Lib.hid ⟨V.1, V.2.1, V.2.2.1, V.2.2.2.1, V.2.2.2.2.1, V.2.2.2.2.2.1, V.2.2.2.2.2.2.1, V.2.2.2.2.2.2.2.1, V.2.2.2.2.2.2.2.2.1, V.2.2.2.2.2.2.2.2.2.1, V10.1, V10.2.1, V10.2.2.1, V10.2.2.2.1, V10.2.2.2.2.1, V10.2.2.2.2.2.1, fun _ => rfl, fun _ => rfl, V10.2.2.2.2.2.2.2.2.1, V10.2.2.2.2.2.2.2.2.2.1, V20.1, V20.2.1, V20.2.2.1, V20.2.2.2.1, V20.2.2.2.2.1, V20.2.2.2.2.2.1, V20.2.2.2.2.2.2.1, V20.2.2.2.2.2.2.2.1, V20.2.2.2.2.2.2.2.2.1, V20.2.2.2.2.2.2.2.2.2.1, V30.1, V30.2.1, V30.2.2.1, V30.2.2.2.1, V30.2.2.2.2.1, V30.2.2.2.2.2.1, V30.2.2.2.2.2.2.1, V30.2.2.2.2.2.2.2.1, V30.2.2.2.2.2.2.2.2.1, V30.2.2.2.2.2.2.2.2.2.1, V40.1, V40.2.1, V40.2.2.1, V40.2.2.2.1, V40.2.2.2.2.1, V40.2.2.2.2.2.1, V40.2.2.2.2.2.2.1, V40.2.2.2.2.2.2.2.1, V40.2.2.2.2.2.2.2.2.1, V40.2.2.2.2.2.2.2.2.2.1, V50.1, V50.2.1, V50.2.2.1, V50.2.2.2⟩, HW, HX⟩
    · rintro b a wy hb hd ⟨z, z126, z127, z141, z142, rfl, HV, HW, HX⟩ K hK
      simp [Region.binds] at hd
      have e17 : (z 109) = Value.bool false := (HV.out.2.2.2.2.2.2.2.2.2.2.2.2.2.2.2.2.2.1) (by simp [hd])
      clear hd
      go_simp
      have V := HV.out
      have V10 := V.2.2.2.2.2.2.2.2.2.2
      have V20 := V10.2.2.2.2.2.2.2.2.2.2
      have V30 := V20.2.2.2.2.2.2.2.2.2.2
      have V40 := V30.2.2.2.2.2.2.2.2.2.2
      have V50 := V40.2.2.2.2.2.2.2.2.2.2
      exact hK _ _ ⟨fun s => if s = 110 then Value.int IntKind.i64 0 else if s = 109 then Value.bool false else z s, _, _, _, _, rfl, Lib.hid ⟨V.1, V.2.1, V.2.2.1, V.2.2.2.1, V.2.2.2.2.1, V.2.2.2.2.2.1, V.2.2.2.2.2.2.1, V.2.2.2.2.2.2.2.1, V.2.2.2.2.2.2.2.2.1, V.2.2.2.2.2.2.2.2.2.1, V10.1, V10.2.1, V10.2.2.1, V10.2.2.2.1, V10.2.2.2.2.1, V10.2.2.2.2.2.1, V10.2.2.2.2.2.2.1, fun _ => rfl, fun _ => rfl, V10.2.2.2.2.2.2.2.2.2.1, V20.1, V20.2.1, V20.2.2.1, V20.2.2.2.1, V20.2.2.2.2.1, V20.2.2.2.2.2.1, V20.2.2.2.2.2.2.1, V20.2.2.2.2.2.2.2.1, V20.2.2.2.2.2.2.2.2.1, V20.2.2.2.2.2.2.2.2.2.1, V30.1, V30.2.1, V30.2.2.1, V30.2.2.2.1, V30.2.2.2.2.1, V30.2.2.2.2.2.1, V30.2.2.2.2.2.2.1, V30.2.2.2.2.2.2.2.1, V30.2.2.2.2.2.2.2.2.1, V30.2.2.2.2.2.2.2.2.2.1, V40.1, V40.2.1, V40.2.2.1, V40.2.2.2.1, V40.2.2.2.2.1, V40.2.2.2.2.2.1, V40.2.2.2.2.2.2.1, V40.2.2.2.2.2.2.2.1, V40.2.2.2.2.2.2.2.2.1, V40.2.2.2.2.2.2.2.2.2.1, V50.1, V50.2.1, V50.2.2.1, V50.2.2.2⟩, HW, HX⟩
    · rintro b a wy hb hd ⟨z, z126, z127, z141, z142, rfl, HV, HW, HX⟩ K hK
      simp [Region.binds] at hd
      have e17 : (z 109) = Value.bool false := (HV.out.2.2.2.2.2.2.2.2.2.2.2.2.2.2.2.2.2.1) (by simp [hd])
      have e18 : (z 110) = Value.int IntKind.i64 0 := (HV.out.2.2.2.2.2.2.2.2.2.2.2.2.2.2.2.2.2.2.1) (by simp [hd])
      clear hd
      go_simp
      have V := HV.out
      have V10 := V.2.2.2.2.2.2.2.2.2.2
      have V20 := V10.2.2.2.2.2.2.2.2.2.2
      have V30 := V20.2.2.2.2.2.2.2.2.2.2
      have V40 := V30.2.2.2.2.2.2.2.2.2.2
      have V50 := V40.2.2.2.2.2.2.2.2.2.2
      exact hK _ _ ⟨fun s => if s = 111 then .bool false else if s = 109 then Value.bool false else if s = 110 then Value.int IntKind.i64 0 else z s, _, _, _, _, rfl, Lib.hid ⟨V.1, V.2.1, V.2.2.1, V.2.2.2.1, V.2.2.2.2.1, V.2.2.2.2.2.1, V.2.2.2.2.2.2.1, V.2.2.2.2.2.2.2.1, V.2.2.2.2.2.2.2.2.1, V.2.2.2.2.2.2.2.2.2.1, V10.1, V10.2.1, V10.2.2.1, V10.2.2.2.1, V10.2.2.2.2.1, V10.2.2.2.2.2.1, V10.2.2.2.2.2.2.1, fun _ => rfl, fun _ => rfl, fun _ => rfl, V20.1, V20.2.1, V20.2.2.1, V20.2.2.2.1, V20.2.2.2.2.1, V20.2.2.2.2.2.1, V20.2.2.2.2.2.2.1, V20.2.2.2.2.2.2.2.1, V20.2.2.2.2.2.2.2.2.1, V20.2.2.2.2.2.2.2.2.2.1, V30.1, V30.2.1, V30.2.2.1, V30.2.2.2.1, V30.2.2.2.2.1, V30.2.2.2.2.2.1, V30.2.2.2.2.2.2.1, V30.2.2.2.2.2.2.2.1, V30.2.2.2.2.2.2.2.2.1, V30.2.2.2.2.2.2.2.2.2.1, V40.1, V40.2.1, V40.2.2.1, V40.2.2.2.1, V40.2.2.2.2.1, V40.2.2.2.2.2.1, V40.2.2.2.2.2.2.1, V40.2.2.2.2.2.2.2.1, V40.2.2.2.2.2.2.2.2.1, V40.2.2.2.2.2.2.2.2.2.1, V50.1, V50.2.1, V50.2.2.1, V50.2.2.2⟩, HW, HX⟩
    · rintro b a wy hb hd ⟨z, z126, z127, z141, z142, rfl, HV, HW, HX⟩ K hK
      simp [Region.binds] at hd
      have e17 : (z 109) = Value.bool false := (HV.out.2.2.2.2.2.2.2.2.2.2.2.2.2.2.2.2.2.1) (by simp [hd])
      have e19 : (z 111) = .bool false := (HV.out.2.2.2.2.2.2.2.2.2.2.2.2.2.2.2.2.2.2.2.1) (by simp [hd])
      clear hd
      go_simp
      have V := HV.out
      have V10 := V.2.2.2.2.2.2.2.2.2.2
      have V20 := V10.2.2.2.2.2.2.2.2.2.2
      have V30 := V20.2.2.2.2.2.2.2.2.2.2
      have V40 := V30.2.2.2.2.2.2.2.2.2.2
      have V50 := V40.2.2.2.2.2.2.2.2.2.2
      exact hK _ _ ⟨fun s => if s = 112 then .bool false else if s = 109 then Value.bool false else if s = 111 then .bool false else z s, _, _, _, _, rfl, Lib.hid ⟨V.1, V.2.1, V.2.2.1, V.2.2.2.1, V.2.2.2.2.1, V.2.2.2.2.2.1, V.2.2.2.2.2.2.1, V.2.2.2.2.2.2.2.1, V.2.2.2.2.2.2.2.2.1, V.2.2.2.2.2.2.2.2.2.1, V10.1, V10.2.1, V10.2.2.1, V10.2.2.2.1, V10.2.2.2.2.1, V10.2.2.2.2.2.1, V10.2.2.2.2.2.2.1, fun _ => rfl, V10.2.2.2.2.2.2.2.2.1, fun _ => rfl, fun _ => rfl, V20.2.1, V20.2.2.1, V20.2.2.2.1, V20.2.2.2.2.1, V20.2.2.2.2.2.1, V20.2.2.2.2.2.2.1, V20.2.2.2.2.2.2.2.1, V20.2.2.2.2.2.2.2.2.1, V20.2.2.2.2.2.2.2.2.2.1, V30.1, V30.2.1, V30.2.2.1, V30.2.2.2.1, V30.2.2.2.2.1, V30.2.2.2.2.2.1, V30.2.2.2.2.2.2.1, V30.2.2.2.2.2.2.2.1, V30.2.2.2.2.2.2.2.2.1, V30.2.2.2.2.2.2.2.2.2.1, V40.1, V40.2.1, V40.2.2.1, V40.2.2.2.1, V40.2.2.2.2.1, V40.2.2.2.2.2.1, V40.2.2.2.2.2.2.1, V40.2.2.2.2.2.2.2.1, V40.2.2.2.2.2.2.2.2.1, V40.2.2.2.2.2.2.2.2.2.1, V50.1, V50.2.1, V50.2.2.1, V50.2.2.2⟩, HW, HX⟩
    · rintro b a wy hb hd ⟨z, z126, z127, z141, z142, rfl, HV, HW, HX⟩ K hK
      simp [Region.binds] at hd
      have e20 : (z 112) = .bool false := (HV.out.2.2.2.2.2.2.2.2.2.2.2.2.2.2.2.2.2.2.2.2.1) (by simp [hd])
      clear hd
      go_simp
      have V := HV.out
      have V10 := V.2.2.2.2.2.2.2.2.2.2
      have V20 := V10.2.2.2.2.2.2.2.2.2.2
      have V30 := V20.2.2.2.2.2.2.2.2.2.2
      have V40 := V30.2.2.2.2.2.2.2.2.2.2
      have V50 := V40.2.2.2.2.2.2.2.2.2.2
      exact hK _ _ ⟨fun s => if s = 113 then .bool false else if s = 112 then .bool false else z s, _, _, _, _, rfl, Lib.hid ⟨V.1, V.2.1, V.2.2.1, V.2.2.2.1, V.2.2.2.2.1, V.2.2.2.2.2.1, V.2.2.2.2.2.2.1, V.2.2.2.2.2.2.2.1, V.2.2.2.2.2.2.2.2.1, V.2.2.2.2.2.2.2.2.2.1, V10.1, V10.2.1, V10.2.2.1, V10.2.2.2.1, V10.2.2.2.2.1, V10.2.2.2.2.2.1, V10.2.2.2.2.2.2.1, V10.2.2.2.2.2.2.2.1, V10.2.2.2.2.2.2.2.2.1, V10.2.2.2.2.2.2.2.2.2.1, fun _ => rfl, fun _ => rfl, V20.2.2.1, V20.2.2.2.1, V20.2.2.2.2.1, V20.2.2.2.2.2.1, V20.2.2.2.2.2.2.1, V20.2.2.2.2.2.2.2.1, V20.2.2.2.2.2.2.2.2.1, V20.2.2.2.2.2.2.2.2.2.1, V30.1, V30.2.1, V30.2.2.1, V30.2.2.2.1, V30.2.2.2.2.1, V30.2.2.2.2.2.1, V30.2.2.2.2.2.2.1, V30.2.2.2.2.2.2.2.1, V30.2.2.2.2.2.2.2.2.1, V30.2.2.2.2.2.2.2.2.2.1, V40.1, V40.2.1, V40.2.2.1, V40.2.2.2.1, V40.2.2.2.2.1, V40.2.2.2.2.2.1, V40.2.2.2.2.2.2.1, V40.2.2.2.2.2.2.2.1, V40.2.2.2.2.2.2.2.2.1, V40.2.2.2.2.2.2.2.2.2.1, V50.1, V50.2.1, V50.2.2.1, V50.2.2.2⟩, HW, HX⟩
    · rintro b a wy hb hd ⟨z, z126, z127, z141, z142, rfl, HV, HW, HX⟩ K hK
      simp [Region.binds] at hd
      have e21 : (z 113) = .bool false := (HV.out.2.2.2.2.2.2.2.2.2.2.2.2.2.2.2.2.2.2.2.2.2.1) (by simp [hd])
      clear hd
      go_simp
      have V := HV.out
      have V10 := V.2.2.2.2.2.2.2.2.2.2
      have V20 := V10.2.2.2.2.2.2.2.2.2.2
      have V30 := V20.2.2.2.2.2.2.2.2.2.2
      have V40 := V30.2.2.2.2.2.2.2.2.2.2
      have V50 := V40.2.2.2.2.2.2.2.2.2.2
      exact hK _ _ ⟨fun s => if s = 114 then Value.int IntKind.i64 0 else if s = 113 then .bool false else z s, _, _, _, _, rfl, Lib.hid ⟨V.1, V.2.1, V.2.2.1, V.2.2.2.1, V.2.2.2.2.1, V.2.2.2.2.2.1, V.2.2.2.2.2.2.1, V.2.2.2.2.2.2.2.1, V.2.2.2.2.2.2.2.2.1, V.2.2.2.2.2.2.2.2.2.1, V10.1, V10.2.1, V10.2.2.1, V10.2.2.2.1, V10.2.2.2.2.1, V10.2.2.2.2.2.1, V10.2.2.2.2.2.2.1, V10.2.2.2.2.2.2.2.1, V10.2.2.2.2.2.2.2.2.1, V10.2.2.2.2.2.2.2.2.2.1, V20.1, fun _ => rfl, fun _ => rfl, V20.2.2.2.1, V20.2.2.2.2.1, V20.2.2.2.2.2.1, V20.2.2.2.2.2.2.1, V20.2.2.2.2.2.2.2.1, V20.2.2.2.2.2.2.2.2.1, V20.2.2.2.2.2.2.2.2.2.1, V30.1, V30.2.1, V30.2.2.1, V30.2.2.2.1, V30.2.2.2.2.1, V30.2.2.2.2.2.1, V30.2.2.2.2.2.2.1, V30.2.2.2.2.2.2.2.1, V30.2.2.2.2.2.2.2.2.1, V30.2.2.2.2.2.2.2.2.2.1, V40.1, V40.2.1, V40.2.2.1, V40.2.2.2.1, V40.2.2.2.2.1, V40.2.2.2.2.2.1, V40.2.2.2.2.2.2.1, V40.2.2.2.2.2.2.2.1, V40.2.2.2.2.2.2.2.2.1, V40.2.2.2.2.2.2.2.2.2.1, V50.1, V50.2.1, V50.2.2.1, V50.2.2.2⟩, HW, HX⟩
    · rintro b a wy hb hd ⟨z, z126, z127, z141, z142, rfl, HV, HW, HX⟩ K hK
      simp [Region.binds] at hd
      have e21 : (z 113) = .bool false := (HV.out.2.2.2.2.2.2.2.2.2.2.2.2.2.2.2.2.2.2.2.2.2.1) (by simp [hd])
      have e22 : (z 114) = Value.int IntKind.i64 0 := (HV.out.2.2.2.2.2.2.2.2.2.2.2.2.2.2.2.2.2.2.2.2.2.2.1) (by simp [hd])
      clear hd
      go_simp
      have V := HV.out
      have V10 := V.2.2.2.2.2.2.2.2.2.2
      have V20 := V10.2.2.2.2.2.2.2.2.2.2
      have V30 := V20.2.2.2.2.2.2.2.2.2.2
      have V40 := V30.2.2.2.2.2.2.2.2.2.2
      have V50 := V40.2.2.2.2.2.2.2.2.2.2
      exact hK _ _ ⟨fun s => if s = 115 then .bool false else if s = 113 then .bool false else if s = 114 then Value.int IntKind.i64 0 else z s, _, _, _, _, rfl, Lib.hid ⟨V.1, V.2.1, V.2.2.1, V.2.2.2.1, V.2.2.2.2.1, V.2.2.2.2.2.1, V.2.2.2.2.2.2.1, V.2.2.2.2.2.2.2.1, V.2.2.2.2.2.2.2.2.1, V.2.2.2.2.2.2.2.2.2.1, V10.1, V10.2.1, V10.2.2.1, V10.2.2.2.1, V10.2.2.2.2.1, V10.2.2.2.2.2.1, V10.2.2.2.2.2.2.1, V10.2.2.2.2.2.2.2.1, V10.2.2.2.2.2.2.2.2.1, V10.2.2.2.2.2.2.2.2.2.1, V20.1, fun _ => rfl, fun _ => rfl, fun _ => rfl, V20.2.2.2.2.1, V20.2.2.2.2.2.1, V20.2.2.2.2.2.2.1, V20.2.2.2.2.2.2.2.1, V20.2.2.2.2.2.2.2.2.1, V20.2.2.2.2.2.2.2.2.2.1, V30.1, V30.2.1, V30.2.2.1, V30.2.2.2.1, V30.2.2.2.2.1, V30.2.2.2.2.2.1, V30.2.2.2.2.2.2.1, V30.2.2.2.2.2.2.2.1, V30.2.2.2.2.2.2.2.2.1, V30.2.2.2.2.2.2.2.2.2.1, V40.1, V40.2.1, V40.2.2.1, V40.2.2.2.1, V40.2.2.2.2.1, V40.2.2.2.2.2.1, V40.2.2.2.2.2.2.1, V40.2.2.2.2.2.2.2.1, V40.2.2.2.2.2.2.2.2.1, V40.2.2.2.2.2.2.2.2.2.1, V50.1, V50.2.1, V50.2.2.1, V50.2.2.2⟩, HW, HX⟩
    · rintro b a wy hb hd ⟨z, z126, z127, z141, z142, rfl, HV, HW, HX⟩ K hK
      simp [Region.binds] at hd
      have e21 : (z 113) = .bool false := (HV.out.2.2.2.2.2.2.2.2.2.2.2.2.2.2.2.2.2.2.2.2.2.1) (by simp [hd])
      have e23 : (z 115) = .bool false := (HV.out.2.2.2.2.2.2.2.2.2.2.2.2.2.2.2.2.2.2.2.2.2.2.2.1) (by simp [hd])
      clear hd
      go_simp
      have V := HV.out
      have V10 := V.2.2.2.2.2.2.2.2.2.2
      have V20 := V10.2.2.2.2.2.2.2.2.2.2
      have V30 := V20.2.2.2.2.2.2.2.2.2.2
      have V40 := V30.2.2.2.2.2.2.2.2.2.2
      have V50 := V40.2.2.2.2.2.2.2.2.2.2
      exact hK _ _ ⟨fun s => if s = 116 then .bool false else if s = 113 then .bool false else if s = 115 then .bool false else z s, _, _, _, _, rfl, Lib.hid ⟨V.1, V.2.1, V.2.2.1, V.2.2.2.1, V.2.2.2.2.1, V.2.2.2.2.2.1, V.2.2.2.2.2.2.1, V.2.2.2.2.2.2.2.1, V.2.2.2.2.2.2.2.2.1, V.2.2.2.2.2.2.2.2.2.1, V10.1, V10.2.1, V10.2.2.1, V10.2.2.2.1, V10.2.2.2.2.1, V10.2.2.2.2.2.1, V10.2.2.2.2.2.2.1, V10.2.2.2.2.2.2.2.1, V10.2.2.2.2.2.2.2.2.1, V10.2.2.2.2.2.2.2.2.2.1, V20.1, fun _ => rfl, V20.2.2.1, fun _ => rfl, fun _ => rfl, V20.2.2.2.2.2.1, V20.2.2.2.2.2.2.1, V20.2.2.2.2.2.2.2.1, V20.2.2.2.2.2.2.2.2.1, V20.2.2.2.2.2.2.2.2.2.1, V30.1, V30.2.1, V30.2.2.1, V30.2.2.2.1, V30.2.2.2.2.1, V30.2.2.2.2.2.1, V30.2.2.2.2.2.2.1, V30.2.2.2.2.2.2.2.1, V30.2.2.2.2.2.2.2.2.1, V30.2.2.2.2.2.2.2.2.2.1, V40.1, V40.2.1, V40.2.2.1, V40.2.2.2.1, V40.2.2.2.2.1, V40.2.2.2.2.2.1, V40.2.2.2.2.2.2.1, V40.2.2.2.2.2.2.2.1, V40.2.2.2.2.2.2.2.2.1, V40.2.2.2.2.2.2.2.2.2.1, V50.1, V50.2.1, V50.2.2.1, V50.2.2.2⟩, HW, HX⟩
    · rintro b a wy hb hd ⟨z, z126, z127, z141, z142, rfl, HV, HW, HX⟩ K hK
      simp [Region.binds] at hd
      have e24 : (z 116) = .bool false := (HV.out.2.2.2.2.2.2.2.2.2.2.2.2.2.2.2.2.2.2.2.2.2.2.2.2.1) (by simp [hd])
      clear hd
      go_simp
      have V := HV.out
      have V10 := V.2.2.2.2.2.2.2.2.2.2
      have V20 := V10.2.2.2.2.2.2.2.2.2.2
      have V30 := V20.2.2.2.2.2.2.2.2.2.2
      have V40 := V30.2.2.2.2.2.2.2.2.2.2
      have V50 := V40.2.2.2.2.2.2.2.2.2.2
      exact hK _ _ ⟨fun s => if s = 117 then .bool false else if s = 116 then .bool false else z s, _, _, _, _, rfl, Lib.hid ⟨V.1, V.2.1, V.2.2.1, V.2.2.2.1, V.2.2.2.2.1, V.2.2.2.2.2.1, V.2.2.2.2.2.2.1, V.2.2.2.2.2.2.2.1, V.2.2.2.2.2.2.2.2.1, V.2.2.2.2.2.2.2.2.2.1, V10.1, V10.2.1, V10.2.2.1, V10.2.2.2.1, V10.2.2.2.2.1, V10.2.2.2.2.2.1, V10.2.2.2.2.2.2.1, V10.2.2.2.2.2.2.2.1, V10.2.2.2.2.2.2.2.2.1, V10.2.2.2.2.2.2.2.2.2.1, V20.1, V20.2.1, V20.2.2.1, V20.2.2.2.1, fun _ => rfl, fun _ => rfl, V20.2.2.2.2.2.2.1, V20.2.2.2.2.2.2.2.1, V20.2.2.2.2.2.2.2.2.1, V20.2.2.2.2.2.2.2.2.2.1, V30.1, V30.2.1, V30.2.2.1, V30.2.2.2.1, V30.2.2.2.2.1, V30.2.2.2.2.2.1, V30.2.2.2.2.2.2.1, V30.2.2.2.2.2.2.2.1, V30.2.2.2.2.2.2.2.2.1, V30.2.2.2.2.2.2.2.2.2.1, V40.1, V40.2.1, V40.2.2.1, V40.2.2.2.1, V40.2.2.2.2.1, V40.2.2.2.2.2.1, V40.2.2.2.2.2.2.1, V40.2.2.2.2.2.2.2.1, V40.2.2.2.2.2.2.2.2.1, V40.2.2.2.2.2.2.2.2.2.1, V50.1, V50.2.1, V50.2.2.1, V50.2.2.2⟩, HW, HX⟩
    · rintro b a wy hb hd ⟨z, z126, z127, z141, z142, rfl, HV, HW, HX⟩ K hK
      simp [Region.binds] at hd
      have e25 : (z 117) = .bool false := (HV.out.2.2.2.2.2.2.2.2.2.2.2.2.2.2.2.2.2.2.2.2.2.2.2.2.2.1) (by simp [hd])
      clear hd
      go_simp
      have V := HV.out
      have V10 := V.2.2.2.2.2.2.2.2.2.2
      have V20 := V10.2.2.2.2.2.2.2.2.2.2
      have V30 := V20.2.2.2.2.2.2.2.2.2.2
      have V40 := V30.2.2.2.2.2.2.2.2.2.2
      have V50 := V40.2.2.2.2.2.2.2.2.2.2
      exact hK _ _ ⟨fun s => if s = 118 then Value.int IntKind.i64 0 else if s = 117 then .bool false else z s, _, _, _, _, rfl, Lib.hid ⟨V.1, V.2.1, V.2.2.1, V.2.2.2.1, V.2.2.2.2.1, V.2.2.2.2.2.1, V.2.2.2.2.2.2.1, V.2.2.2.2.2.2.2.1, V.2.2.2.2.2.2.2.2.1, V.2.2.2.2.2.2.2.2.2.1, V10.1, V10.2.1, V10.2.2.1, V10.2.2.2.1, V10.2.2.2.2.1, V10.2.2.2.2.2.1, V10.2.2.2.2.2.2.1, V10.2.2.2.2.2.2.2.1, V10.2.2.2.2.2.2.2.2.1, V10.2.2.2.2.2.2.2.2.2.1, V20.1, V20.2.1, V20.2.2.1, V20.2.2.2.1, V20.2.2.2.2.1, fun _ => rfl, fun _ => rfl, V20.2.2.2.2.2.2.2.1, V20.2.2.2.2.2.2.2.2.1, V20.2.2.2.2.2.2.2.2.2.1, V30.1, V30.2.1, V30.2.2.1, V30.2.2.2.1, V30.2.2.2.2.1, V30.2.2.2.2.2.1, V30.2.2.2.2.2.2.1, V30.2.2.2.2.2.2.2.1, V30.2.2.2.2.2.2.2.2.1, V30.2.2.2.2.2.2.2.2.2.1, V40.1, V40.2.1, V40.2.2.1, V40.2.2.2.1, V40.2.2.2.2.1, V40.2.2.2.2.2.1, V40.2.2.2.2.2.2.1, V40.2.2.2.2.2.2.2.1, V40.2.2.2.2.2.2.2.2.1, V40.2.2.2.2.2.2.2.2.2.1, V50.1, V50.2.1, V50.2.2.1, V50.2.2.2⟩, HW, HX⟩
    · rintro b a wy hb hd ⟨z, z126, z127, z141, z142, rfl, HV, HW, HX⟩ K hK
      simp [Region.binds] at hd
      have e25 : (z 117) = .bool false := (HV.out.2.2.2.2.2.2.2.2.2.2.2.2.2.2.2.2.2.2.2.2.2.2.2.2.2.1) (by simp [hd])
      have e26 : (z 118) = Value.int IntKind.i64 0 := (HV.out.2.2.2.2.2.2.2.2.2.2.2.2.2.2.2.2.2.2.2.2.2.2.2.2.2.2.1) (by simp [hd])
      clear hd
      go_simp
      have V := HV.out
      have V10 := V.2.2.2.2.2.2.2.2.2.2
      have V20 := V10.2.2.2.2.2.2.2.2.2.2
      have V30 := V20.2.2.2.2.2.2.2.2.2.2
      have V40 := V30.2.2.2.2.2.2.2.2.2.2
      have V50 := V40.2.2.2.2.2.2.2.2.2.2
      exact hK _ _ ⟨fun s => if s = 119 then .bool false else if s = 117 then .bool false else if s = 118 then Value.int IntKind.i64 0 else z s, _, _, _, _, rfl, Lib.hid ⟨V.1, V.2.1, V.2.2.1, V.2.2.2.1, V.2.2.2.2.1, V.2.2.2.2.2.1, V.2.2.2.2.2.2.1, V.2.2.2.2.2.2.2.1, V.2.2.2.2.2.2.2.2.1, V.2.2.2.2.2.2.2.2.2.1, V10.1, V10.2.1, V10.2.2.1, V10.2.2.2.1, V10.2.2.2.2.1, V10.2.2.2.2.2.1, V10.2.2.2.2.2.2.1, V10.2.2.2.2.2.2.2.1, V10.2.2.2.2.2.2.2.2.1, V10.2.2.2.2.2.2.2.2.2.1, V20.1, V20.2.1, V20.2.2.1, V20.2.2.2.1, V20.2.2.2.2.1, fun _ => rfl, fun _ => rfl, fun _ => rfl, V20.2.2.2.2.2.2.2.2.1, V20.2.2.2.2.2.2.2.2.2.1, V30.1, V30.2.1, V30.2.2.1, V30.2.2.2.1, V30.2.2.2.2.1, V30.2.2.2.2.2.1, V30.2.2.2.2.2.2.1, V30.2.2.2.2.2.2.2.1, V30.2.2.2.2.2.2.2.2.1, V30.2.2.2.2.2.2.2.2.2.1, V40.1, V40.2.1, V40.2.2.1, V40.2.2.2.1, V40.2.2.2.2.1, V40.2.2.2.2.2.1, V40.2.2.2.2.2.2.1, V40.2.2.2.2.2.2.2.1, V40.2.2.2.2.2.2.2.2.1, V40.2.2.2.2.2.2.2.2.2.1, V50.1, V50.2.1, V50.2.2.1, V50.2.2.2⟩, HW, HX⟩
    · rintro b a wy hb hd ⟨z, z126, z127, z141, z142, rfl, HV, HW, HX⟩ K hK
      simp [Region.binds] at hd
      have e25 : (z 117) = .bool false := (HV.out.2.2.2.2.2.2.2.2.2.2.2.2.2.2.2.2.2.2.2.2.2.2.2.2.2.1) (by simp [hd])
      have e27 : (z 119) = .bool false := (HV.out.2.2.2.2.2.2.2.2.2.2.2.2.2.2.2.2.2.2.2.2.2.2.2.2.2.2.2.1) (by simp [hd])
      clear hd
      go_simp
      have V := HV.out
      have V10 := V.2.2.2.2.2.2.2.2.2.2
      have V20 := V10.2.2.2.2.2.2.2.2.2.2
      have V30 := V20.2.2.2.2.2.2.2.2.2.2
      have V40 := V30.2.2.2.2.2.2.2.2.2.2
      have V50 := V40.2.2.2.2.2.2.2.2.2.2
      exact hK _ _ ⟨fun s => if s = 120 then .bool false else if s = 117 then .bool false else if s = 119 then .bool false else z s, _, _, _, _, rfl, Lib.hid ⟨V.1, V.2.1, V.2.2.1, V.2.2.2.1, V.2.2.2.2.1, V.2.2.2.2.2.1, V.2.2.2.2.2.2.1, V.2.2.2.2.2.2.2.1, V.2.2.2.2.2.2.2.2.1, V.2.2.2.2.2.2.2.2.2.1, V10.1, V10.2.1, V10.2.2.1, V10.2.2.2.1, V10.2.2.2.2.1, V10.2.2.2.2.2.1, V10.2.2.2.2.2.2.1, V10.2.2.2.2.2.2.2.1, V10.2.2.2.2.2.2.2.2.1, V10.2.2.2.2.2.2.2.2.2.1, V20.1, V20.2.1, V20.2.2.1, V20.2.2.2.1, V20.2.2.2.2.1, fun _ => rfl, V20.2.2.2.2.2.2.1, fun _ => rfl, fun _ => rfl, V20.2.2.2.2.2.2.2.2.2.1, V30.1, V30.2.1, V30.2.2.1, V30.2.2.2.1, V30.2.2.2.2.1, V30.2.2.2.2.2.1, V30.2.2.2.2.2.2.1, V30.2.2.2.2.2.2.2.1, V30.2.2.2.2.2.2.2.2.1, V30.2.2.2.2.2.2.2.2.2.1, V40.1, V40.2.1, V40.2.2.1, V40.2.2.2.1, V40.2.2.2.2.1, V40.2.2.2.2.2.1, V40.2.2.2.2.2.2.1, V40.2.2.2.2.2.2.2.1, V40.2.2.2.2.2.2.2.2.1, V40.2.2.2.2.2.2.2.2.2.1, V50.1, V50.2.1, V50.2.2.1, V50.2.2.2⟩, HW, HX⟩
    · rintro b a wy hb hd ⟨z, z126, z127, z141, z142, rfl, HV, HW, HX⟩ K hK
      simp [Region.binds] at hd
      have e28 : (z 120) = .bool false := (HV.out.2.2.2.2.2.2.2.2.2.2.2.2.2.2.2.2.2.2.2.2.2.2.2.2.2.2.2.2.1) (by simp [hd])
      clear hd
      go_simp
      have V := HV.out
      have V10 := V.2.2.2.2.2.2.2.2.2.2
      have V20 := V10.2.2.2.2.2.2.2.2.2.2
      have V30 := V20.2.2.2.2.2.2.2.2.2.2
      have V40 := V30.2.2.2.2.2.2.2.2.2.2
      have V50 := V40.2.2.2.2.2.2.2.2.2.2
      exact hK _ _ ⟨fun s => if s = 121 then .bool false else if s = 120 then .bool false else z s, _, _, _, _, rfl, Lib.hid ⟨V.1, V.2.1, V.2.2.1, V.2.2.2.1, V.2.2.2.2.1, V.2.2.2.2.2.1, V.2.2.2.2.2.2.1, V.2.2.2.2.2.2.2.1, V.2.2.2.2.2.2.2.2.1, V.2.2.2.2.2.2.2.2.2.1, V10.1, V10.2.1, V10.2.2.1, V10.2.2.2.1, V10.2.2.2.2.1, V10.2.2.2.2.2.1, V10.2.2.2.2.2.2.1, V10.2.2.2.2.2.2.2.1, V10.2.2.2.2.2.2.2.2.1, V10.2.2.2.2.2.2.2.2.2.1, V20.1, V20.2.1, V20.2.2.1, V20.2.2.2.1, V20.2.2.2.2.1, V20.2.2.2.2.2.1, V20.2.2.2.2.2.2.1, V20.2.2.2.2.2.2.2.1, fun _ => rfl, fun _ => rfl, V30.1, V30.2.1, V30.2.2.1, V30.2.2.2.1, V30.2.2.2.2.1, V30.2.2.2.2.2.1, V30.2.2.2.2.2.2.1, V30.2.2.2.2.2.2.2.1, V30.2.2.2.2.2.2.2.2.1, V30.2.2.2.2.2.2.2.2.2.1, V40.1, V40.2.1, V40.2.2.1, V40.2.2.2.1, V40.2.2.2.2.1, V40.2.2.2.2.2.1, V40.2.2.2.2.2.2.1, V40.2.2.2.2.2.2.2.1, V40.2.2.2.2.2.2.2.2.1, V40.2.2.2.2.2.2.2.2.2.1, V50.1, V50.2.1, V50.2.2.1, V50.2.2.2⟩, HW, HX⟩
    · rintro b a wy hb hd ⟨z, z126, z127, z141, z142, rfl, HV, HW, HX⟩ K hK
      simp [Region.binds] at hd
      have e29 : (z 121) = .bool false := (HV.out.2.2.2.2.2.2.2.2.2.2.2.2.2.2.2.2.2.2.2.2.2.2.2.2.2.2.2.2.2.1) (by simp [hd])
      clear hd
      go_simp
      have V := HV.out
      have V10 := V.2.2.2.2.2.2.2.2.2.2
      have V20 := V10.2.2.2.2.2.2.2.2.2.2
      have V30 := V20.2.2.2.2.2.2.2.2.2.2
      have V40 := V30.2.2.2.2.2.2.2.2.2.2
      have V50 := V40.2.2.2.2.2.2.2.2.2.2
      exact hK _ _ ⟨fun s => if s = 122 then Value.bool false else if s = 121 then .bool false else z s, _, _, _, _, rfl, Lib.hid ⟨V.1, V.2.1, V.2.2.1, V.2.2.2.1, V.2.2.2.2.1, V.2.2.2.2.2.1, V.2.2.2.2.2.2.1, V.2.2.2.2.2.2.2.1, V.2.2.2.2.2.2.2.2.1, V.2.2.2.2.2.2.2.2.2.1, V10.1, V10.2.1, V10.2.2.1, V10.2.2.2.1, V10.2.2.2.2.1, V10.2.2.2.2.2.1, V10.2.2.2.2.2.2.1, V10.2.2.2.2.2.2.2.1, V10.2.2.2.2.2.2.2.2.1, V10.2.2.2.2.2.2.2.2.2.1, V20.1, V20.2.1, V20.2.2.1, V20.2.2.2.1, V20.2.2.2.2.1, V20.2.2.2.2.2.1, V20.2.2.2.2.2.2.1, V20.2.2.2.2.2.2.2.1, V20.2.2.2.2.2.2.2.2.1, fun _ => rfl, fun _ => rfl, V30.2.1, V30.2.2.1, V30.2.2.2.1, V30.2.2.2.2.1, V30.2.2.2.2.2.1, V30.2.2.2.2.2.2.1, V30.2.2.2.2.2.2.2.1, V30.2.2.2.2.2.2.2.2.1, V30.2.2.2.2.2.2.2.2.2.1, V40.1, V40.2.1, V40.2.2.1, V40.2.2.2.1, V40.2.2.2.2.1, V40.2.2.2.2.2.1, V40.2.2.2.2.2.2.1, V40.2.2.2.2.2.2.2.1, V40.2.2.2.2.2.2.2.2.1, V40.2.2.2.2.2.2.2.2.2.1, V50.1, V50.2.1, V50.2.2.1, V50.2.2.2⟩, HW, HX⟩
    · rintro b a wy hb hd ⟨z, z126, z127, z141, z142, rfl, HV, HW, HX⟩ K hK
      simp [Region.binds] at hd
      have e29 : (z 121) = .bool false := (HV.out.2.2.2.2.2.2.2.2.2.2.2.2.2.2.2.2.2.2.2.2.2.2.2.2.2.2.2.2.2.1) (by simp [hd])
      have e30 : (z 122) = Value.bool false := (HV.out.2.2.2.2.2.2.2.2.2.2.2.2.2.2.2.2.2.2.2.2.2.2.2.2.2.2.2.2.2.2.1) (by simp [hd])
      clear hd
      go_simp
      have V := HV.out
      have V10 := V.2.2.2.2.2.2.2.2.2.2
      have V20 := V10.2.2.2.2.2.2.2.2.2.2
      have V30 := V20.2.2.2.2.2.2.2.2.2.2
      have V40 := V30.2.2.2.2.2.2.2.2.2.2
      have V50 := V40.2.2.2.2.2.2.2.2.2.2
      exact hK _ _ ⟨fun s => if s = 123 then Value.bool false else if s = 121 then .bool false else if s = 122 then Value.bool false else z s, _, _, _, _, rfl, Lib.hid ⟨V.1, V.2.1, V.2.2.1, V.2.2.2.1, V.2.2.2.2.1, V.2.2.2.2.2.1, V.2.2.2.2.2.2.1, V.2.2.2.2.2.2.2.1, V.2.2.2.2.2.2.2.2.1, V.2.2.2.2.2.2.2.2.2.1, V10.1, V10.2.1, V10.2.2.1, V10.2.2.2.1, V10.2.2.2.2.1, V10.2.2.2.2.2.1, V10.2.2.2.2.2.2.1, V10.2.2.2.2.2.2.2.1, V10.2.2.2.2.2.2.2.2.1, V10.2.2.2.2.2.2.2.2.2.1, V20.1, V20.2.1, V20.2.2.1, V20.2.2.2.1, V20.2.2.2.2.1, V20.2.2.2.2.2.1, V20.2.2.2.2.2.2.1, V20.2.2.2.2.2.2.2.1, V20.2.2.2.2.2.2.2.2.1, fun _ => rfl, fun _ => rfl, fun _ => rfl, V30.2.2.1, V30.2.2.2.1, V30.2.2.2.2.1, V30.2.2.2.2.2.1, V30.2.2.2.2.2.2.1, V30.2.2.2.2.2.2.2.1, V30.2.2.2.2.2.2.2.2.1, V30.2.2.2.2.2.2.2.2.2.1, V40.1, V40.2.1, V40.2.2.1, V40.2.2.2.1, V40.2.2.2.2.1, V40.2.2.2.2.2.1, V40.2.2.2.2.2.2.1, V40.2.2.2.2.2.2.2.1, V40.2.2.2.2.2.2.2.2.1, V40.2.2.2.2.2.2.2.2.2.1, V50.1, V50.2.1, V50.2.2.1, V50.2.2.2⟩, HW, HX⟩
    · rintro b a wy hb hd ⟨z, z126, z127, z141, z142, rfl, HV, HW, HX⟩ K hK
      simp [Region.binds] at hd
      have e31 : (z 123) = Value.bool false := (HV.out.2.2.2.2.2.2.2.2.2.2.2.2.2.2.2.2.2.2.2.2.2.2.2.2.2.2.2.2.2.2.2.1) (by simp [hd])
      clear hd
      go_simp
      have V := HV.out
      have V10 := V.2.2.2.2.2.2.2.2.2.2
      have V20 := V10.2.2.2.2.2.2.2.2.2.2
      have V30 := V20.2.2.2.2.2.2.2.2.2.2
      have V40 := V30.2.2.2.2.2.2.2.2.2.2
      have V50 := V40.2.2.2.2.2.2.2.2.2.2
      exact hK _ _ ⟨fun s => if s = 124 then Value.bool false else if s = 123 then Value.bool false else z s, _, _, _, _, rfl, Lib.hid ⟨V.1, V.2.1, V.2.2.1, V.2.2.2.1, V.2.2.2.2.1, V.2.2.2.2.2.1, V.2.2.2.2.2.2.1, V.2.2.2.2.2.2.2.1, V.2.2.2.2.2.2.2.2.1, V.2.2.2.2.2.2.2.2.2.1, V10.1, V10.2.1, V10.2.2.1, V10.2.2.2.1, V10.2.2.2.2.1, V10.2.2.2.2.2.1, V10.2.2.2.2.2.2.1, V10.2.2.2.2.2.2.2.1, V10.2.2.2.2.2.2.2.2.1, V10.2.2.2.2.2.2.2.2.2.1, V20.1, V20.2.1, V20.2.2.1, V20.2.2.2.1, V20.2.2.2.2.1, V20.2.2.2.2.2.1, V20.2.2.2.2.2.2.1, V20.2.2.2.2.2.2.2.1, V20.2.2.2.2.2.2.2.2.1, V20.2.2.2.2.2.2.2.2.2.1, V30.1, fun _ => rfl, fun _ => rfl, V30.2.2.2.1, V30.2.2.2.2.1, V30.2.2.2.2.2.1, V30.2.2.2.2.2.2.1, V30.2.2.2.2.2.2.2.1, V30.2.2.2.2.2.2.2.2.1, V30.2.2.2.2.2.2.2.2.2.1, V40.1, V40.2.1, V40.2.2.1, V40.2.2.2.1, V40.2.2.2.2.1, V40.2.2.2.2.2.1, V40.2.2.2.2.2.2.1, V40.2.2.2.2.2.2.2.1, V40.2.2.2.2.2.2.2.2.1, V40.2.2.2.2.2.2.2.2.2.1, V50.1, V50.2.1, V50.2.2.1, V50.2.2.2⟩, HW, HX⟩
    · rintro b a wy hb hd ⟨z, z126, z127, z141, z142, rfl, HV, HW, HX⟩ K hK
      simp [Region.binds] at hd
      have e32 : (z 124) = Value.bool false := (HV.out.2.2.2.2.2.2.2.2.2.2.2.2.2.2.2.2.2.2.2.2.2.2.2.2.2.2.2.2.2.2.2.2.1) (by simp [hd])
      clear hd
      have hbx := Xp.out.below Xp.out.lt HW.out
      rw [e32]
      refine if_wanted (by rfl) (wp_load_d (.tmp 12) rfl rp _ rfl hbx ?_)
      have V := HV.out
      have V10 := V.2.2.2.2.2.2.2.2.2.2
      have V20 := V10.2.2.2.2.2.2.2.2.2.2
      have V30 := V20.2.2.2.2.2.2.2.2.2.2
      have V40 := V30.2.2.2.2.2.2.2.2.2.2
      have V50 := V40.2.2.2.2.2.2.2.2.2.2
      exact hK _ _ ⟨fun s => if s = 125 then p else if s = 124 then Value.bool false else z s, _, _, _, _, rfl, Lib.hid ⟨V.1, V.2.1, V.2.2.1, V.2.2.2.1, V.2.2.2.2.1, V.2.2.2.2.2.1, V.2.2.2.2.2.2.1, V.2.2.2.2.2.2.2.1, V.2.2.2.2.2.2.2.2.1, V.2.2.2.2.2.2.2.2.2.1, V10.1, V10.2.1, V10.2.2.1, V10.2.2.2.1, V10.2.2.2.2.1, V10.2.2.2.2.2.1, V10.2.2.2.2.2.2.1, V10.2.2.2.2.2.2.2.1, V10.2.2.2.2.2.2.2.2.1, V10.2.2.2.2.2.2.2.2.2.1, V20.1, V20.2.1, V20.2.2.1, V20.2.2.2.1, V20.2.2.2.2.1, V20.2.2.2.2.2.1, V20.2.2.2.2.2.2.1, V20.2.2.2.2.2.2.2.1, V20.2.2.2.2.2.2.2.2.1, V20.2.2.2.2.2.2.2.2.2.1, V30.1, V30.2.1, fun _ => rfl, fun _ => rfl, V30.2.2.2.2.1, V30.2.2.2.2.2.1, V30.2.2.2.2.2.2.1, V30.2.2.2.2.2.2.2.1, V30.2.2.2.2.2.2.2.2.1, V30.2.2.2.2.2.2.2.2.2.1, V40.1, V40.2.1, V40.2.2.1, V40.2.2.2.1, V40.2.2.2.2.1, V40.2.2.2.2.2.1, V40.2.2.2.2.2.2.1, V40.2.2.2.2.2.2.2.1, V40.2.2.2.2.2.2.2.2.1, V40.2.2.2.2.2.2.2.2.2.1, V50.1, V50.2.1, V50.2.2.1, V50.2.2.2⟩, HW, HX⟩
    · rintro b a wy hb hd ⟨z, z126, z127, z141, z142, rfl, HV, HW, HX⟩ K hK
      simp [Region.binds] at hd
      have e32 : (z 124) = Value.bool false := (HV.out.2.2.2.2.2.2.2.2.2.2.2.2.2.2.2.2.2.2.2.2.2.2.2.2.2.2.2.2.2.2.2.2.1) (by simp [hd])
      clear hd
      obtain ⟨x34, x49, x35, x50⟩ := HX.out
      have kz := (Below.refl wy.heap.size wy).alloc (Nat.le_refl _) (.cells #[.int .u64 2, .int .u64 3, .int .u64 5] 25)
      have LN := lit_new wy [2, 3, 5]
      go_simp
      have V := HV.out
      have V10 := V.2.2.2.2.2.2.2.2.2.2
      have V20 := V10.2.2.2.2.2.2.2.2.2.2
      have V30 := V20.2.2.2.2.2.2.2.2.2.2
      have V40 := V30.2.2.2.2.2.2.2.2.2.2
      have V50 := V40.2.2.2.2.2.2.2.2.2.2
      exact hK _ _ ⟨fun s => if s = 124 then Value.bool false else z s, _, _, _, _, rfl, Lib.hid ⟨V.1, V.2.1, V.2.2.1, V.2.2.2.1, V.2.2.2.2.1, V.2.2.2.2.2.1, V.2.2.2.2.2.2.1, V.2.2.2.2.2.2.2.1, V.2.2.2.2.2.2.2.2.1, V.2.2.2.2.2.2.2.2.2.1, V10.1, V10.2.1, V10.2.2.1, V10.2.2.2.1, V10.2.2.2.2.1, V10.2.2.2.2.2.1, V10.2.2.2.2.2.2.1, V10.2.2.2.2.2.2.2.1, V10.2.2.2.2.2.2.2.2.1, V10.2.2.2.2.2.2.2.2.2.1, V20.1, V20.2.1, V20.2.2.1, V20.2.2.2.1, V20.2.2.2.2.1, V20.2.2.2.2.2.1, V20.2.2.2.2.2.2.1, V20.2.2.2.2.2.2.2.1, V20.2.2.2.2.2.2.2.2.1, V20.2.2.2.2.2.2.2.2.2.1, V30.1, V30.2.1, fun _ => rfl, V30.2.2.2.1, V30.2.2.2.2.1, V30.2.2.2.2.2.1, V30.2.2.2.2.2.2.1, V30.2.2.2.2.2.2.2.1, V30.2.2.2.2.2.2.2.2.1, V30.2.2.2.2.2.2.2.2.2.1, V40.1, V40.2.1, V40.2.2.1, V40.2.2.2.1, V40.2.2.2.2.1, V40.2.2.2.2.2.1, V40.2.2.2.2.2.2.1, V40.2.2.2.2.2.2.2.1, V40.2.2.2.2.2.2.2.2.1, V40.2.2.2.2.2.2.2.2.2.1, V50.1, V50.2.1, V50.2.2.1, V50.2.2.2⟩, Lib.hid (HW.out.trans (kz.mono HW.out.size)), Lib.hid ⟨fun _ => ⟨wy.heap.size, rfl, LN, by simp⟩, fun e => (x49 e).far kz, fun e => (x35 e).far kz, fun e => (x50 e).far kz⟩⟩
    · rintro b a wy hb hd ⟨z, z126, z127, z141, z142, rfl, HV, HW, HX⟩ K hK
      simp [Region.binds] at hd
      have e32 : (z 124) = Value.bool false := (HV.out.2.2.2.2.2.2.2.2.2.2.2.2.2.2.2.2.2.2.2.2.2.2.2.2.2.2.2.2.2.2.2.2.1) (by simp [hd])
      have dd34 : b 34 = true := by simp [hd]
      clear hd
      obtain ⟨x34, x49, x35, x50⟩ := HX.out
      obtain ⟨gl, zz, LN, _⟩ := x34 dd34
      subst zz
      go_simp
      go_at_call 29
      refine (leaf_lit (gk := gl) (n := 3) (ks := [2, 3, 5]) (vs := [20, 30, 50]) rfl LN (by decide) (by decide) (by decide)).mono ?_
      rintro e wz ⟨v, rfl, nv, _, kz⟩
      try go_simp
      have V := HV.out
      have V10 := V.2.2.2.2.2.2.2.2.2.2
      have V20 := V10.2.2.2.2.2.2.2.2.2.2
      have V30 := V20.2.2.2.2.2.2.2.2.2.2
      have V40 := V30.2.2.2.2.2.2.2.2.2.2
      have V50 := V40.2.2.2.2.2.2.2.2.2.2
      exact hK _ _ ⟨fun s => if s = 124 then Value.bool false else z s, _, _, _, _, rfl, Lib.hid ⟨V.1, V.2.1, V.2.2.1, V.2.2.2.1, V.2.2.2.2.1, V.2.2.2.2.2.1, V.2.2.2.2.2.2.1, V.2.2.2.2.2.2.2.1, V.2.2.2.2.2.2.2.2.1, V.2.2.2.2.2.2.2.2.2.1, V10.1, V10.2.1, V10.2.2.1, V10.2.2.2.1, V10.2.2.2.2.1, V10.2.2.2.2.2.1, V10.2.2.2.2.2.2.1, V10.2.2.2.2.2.2.2.1, V10.2.2.2.2.2.2.2.2.1, V10.2.2.2.2.2.2.2.2.2.1, V20.1, V20.2.1, V20.2.2.1, V20.2.2.2.1, V20.2.2.2.2.1, V20.2.2.2.2.2.1, V20.2.2.2.2.2.2.1, V20.2.2.2.2.2.2.2.1, V20.2.2.2.2.2.2.2.2.1, V20.2.2.2.2.2.2.2.2.2.1, V30.1, V30.2.1, fun _ => rfl, V30.2.2.2.1, V30.2.2.2.2.1, V30.2.2.2.2.2.1, V30.2.2.2.2.2.2.1, V30.2.2.2.2.2.2.2.1, V30.2.2.2.2.2.2.2.2.1, V30.2.2.2.2.2.2.2.2.2.1, V40.1, V40.2.1, V40.2.2.1, V40.2.2.2.1, V40.2.2.2.2.1, V40.2.2.2.2.2.1, V40.2.2.2.2.2.2.1, V40.2.2.2.2.2.2.2.1, V40.2.2.2.2.2.2.2.2.1, V40.2.2.2.2.2.2.2.2.2.1, V50.1, V50.2.1, V50.2.2.1, V50.2.2.2⟩, Lib.hid (HW.out.trans (kz.mono HW.out.size)), Lib.hid ⟨fun e => (x34 e).far kz, fun e => (x49 e).far kz, fun _ => nv, fun e => (x50 e).far kz⟩⟩
    · rintro b a wy hb hd ⟨z, z126, z127, z141, z142, rfl, HV, HW, HX⟩ K hK
      simp [Region.binds] at hd
      have e32 : (z 124) = Value.bool false := (HV.out.2.2.2.2.2.2.2.2.2.2.2.2.2.2.2.2.2.2.2.2.2.2.2.2.2.2.2.2.2.2.2.2.1) (by simp [hd])
      have e33 : (z 125) = p := (HV.out.2.2.2.2.2.2.2.2.2.2.2.2.2.2.2.2.2.2.2.2.2.2.2.2.2.2.2.2.2.2.2.2.2.1) (by simp [hd])
      have dd35 : b 35 = true := by simp [hd]
      clear hd
      obtain ⟨x34, x49, x35, x50⟩ := HX.out
      have NF := Np.out.far HW.out
      go_simp
      go_at_call 16
      refine (same_lit NF (x35 dd35) true (by decide)).mono ?_
      rintro e wz ⟨rfl, kz⟩
      try go_simp
      have V := HV.out
      have V10 := V.2.2.2.2.2.2.2.2.2.2
      have V20 := V10.2.2.2.2.2.2.2.2.2.2
      have V30 := V20.2.2.2.2.2.2.2.2.2.2
      have V40 := V30.2.2.2.2.2.2.2.2.2.2
      have V50 := V40.2.2.2.2.2.2.2.2.2.2
      exact hK _ _ ⟨fun s => if s = 128 then .bool true else if s = 124 then Value.bool false else if s = 125 then p else z s, _, _, _, _, rfl, Lib.hid ⟨V.1, V.2.1, V.2.2.1, V.2.2.2.1, V.2.2.2.2.1, V.2.2.2.2.2.1, V.2.2.2.2.2.2.1, V.2.2.2.2.2.2.2.1, V.2.2.2.2.2.2.2.2.1, V.2.2.2.2.2.2.2.2.2.1, V10.1, V10.2.1, V10.2.2.1, V10.2.2.2.1, V10.2.2.2.2.1, V10.2.2.2.2.2.1, V10.2.2.2.2.2.2.1, V10.2.2.2.2.2.2.2.1, V10.2.2.2.2.2.2.2.2.1, V10.2.2.2.2.2.2.2.2.2.1, V20.1, V20.2.1, V20.2.2.1, V20.2.2.2.1, V20.2.2.2.2.1, V20.2.2.2.2.2.1, V20.2.2.2.2.2.2.1, V20.2.2.2.2.2.2.2.1, V20.2.2.2.2.2.2.2.2.1, V20.2.2.2.2.2.2.2.2.2.1, V30.1, V30.2.1, fun _ => rfl, fun _ => rfl, fun _ => rfl, V30.2.2.2.2.2.1, V30.2.2.2.2.2.2.1, V30.2.2.2.2.2.2.2.1, V30.2.2.2.2.2.2.2.2.1, V30.2.2.2.2.2.2.2.2.2.1, V40.1, V40.2.1, V40.2.2.1, V40.2.2.2.1, V40.2.2.2.2.1, V40.2.2.2.2.2.1, V40.2.2.2.2.2.2.1, V40.2.2.2.2.2.2.2.1, V40.2.2.2.2.2.2.2.2.1, V40.2.2.2.2.2.2.2.2.2.1, V50.1, V50.2.1, V50.2.2.1, V50.2.2.2⟩, Lib.hid (HW.out.trans (kz.mono HW.out.size)), Lib.hid ⟨fun e => (x34 e).far kz, fun e => (x49 e).far kz, fun e => (x35 e).far kz, fun e => (x50 e).far kz⟩⟩
    · rintro b a wy hb hd ⟨z, z126, z127, z141, z142, rfl, HV, HW, HX⟩ K hK
      simp [Region.binds] at hd
      have e32 : (z 124) = Value.bool false := (HV.out.2.2.2.2.2.2.2.2.2.2.2.2.2.2.2.2.2.2.2.2.2.2.2.2.2.2.2.2.2.2.2.2.1) (by simp [hd])
      have e36 : (z 128) = .bool true := (HV.out.2.2.2.2.2.2.2.2.2.2.2.2.2.2.2.2.2.2.2.2.2.2.2.2.2.2.2.2.2.2.2.2.2.2.1) (by simp [hd])
      clear hd
      go_simp
      have V := HV.out
      have V10 := V.2.2.2.2.2.2.2.2.2.2
      have V20 := V10.2.2.2.2.2.2.2.2.2.2
      have V30 := V20.2.2.2.2.2.2.2.2.2.2
      have V40 := V30.2.2.2.2.2.2.2.2.2.2
      have V50 := V40.2.2.2.2.2.2.2.2.2.2
      exact hK _ _ ⟨fun s => if s = 129 then .bool false else if s = 124 then Value.bool false else if s = 128 then .bool true else z s, _, _, _, _, rfl, Lib.hid ⟨V.1, V.2.1, V.2.2.1, V.2.2.2.1, V.2.2.2.2.1, V.2.2.2.2.2.1, V.2.2.2.2.2.2.1, V.2.2.2.2.2.2.2.1, V.2.2.2.2.2.2.2.2.1, V.2.2.2.2.2.2.2.2.2.1, V10.1, V10.2.1, V10.2.2.1, V10.2.2.2.1, V10.2.2.2.2.1, V10.2.2.2.2.2.1, V10.2.2.2.2.2.2.1, V10.2.2.2.2.2.2.2.1, V10.2.2.2.2.2.2.2.2.1, V10.2.2.2.2.2.2.2.2.2.1, V20.1, V20.2.1, V20.2.2.1, V20.2.2.2.1, V20.2.2.2.2.1, V20.2.2.2.2.2.1, V20.2.2.2.2.2.2.1, V20.2.2.2.2.2.2.2.1, V20.2.2.2.2.2.2.2.2.1, V20.2.2.2.2.2.2.2.2.2.1, V30.1, V30.2.1, fun _ => rfl, V30.2.2.2.1, fun _ => rfl, fun _ => rfl, V30.2.2.2.2.2.2.1, V30.2.2.2.2.2.2.2.1, V30.2.2.2.2.2.2.2.2.1, V30.2.2.2.2.2.2.2.2.2.1, V40.1, V40.2.1, V40.2.2.1, V40.2.2.2.1, V40.2.2.2.2.1, V40.2.2.2.2.2.1, V40.2.2.2.2.2.2.1, V40.2.2.2.2.2.2.2.1, V40.2.2.2.2.2.2.2.2.1, V40.2.2.2.2.2.2.2.2.2.1, V50.1, V50.2.1, V50.2.2.1, V50.2.2.2⟩, HW, HX⟩
    · rintro b a wy hb hd ⟨z, z126, z127, z141, z142, rfl, HV, HW, HX⟩ K hK
      simp [Region.binds] at hd
      have e32 : (z 124) = Value.bool false := (HV.out.2.2.2.2.2.2.2.2.2.2.2.2.2.2.2.2.2.2.2.2.2.2.2.2.2.2.2.2.2.2.2.2.1) (by simp [hd])
      have e37 : (z 129) = .bool false := (HV.out.2.2.2.2.2.2.2.2.2.2.2.2.2.2.2.2.2.2.2.2.2.2.2.2.2.2.2.2.2.2.2.2.2.2.2.1) (by simp [hd])
      clear hd
      go_simp
      have V := HV.out
      have V10 := V.2.2.2.2.2.2.2.2.2.2
      have V20 := V10.2.2.2.2.2.2.2.2.2.2
      have V30 := V20.2.2.2.2.2.2.2.2.2.2
      have V40 := V30.2.2.2.2.2.2.2.2.2.2
      have V50 := V40.2.2.2.2.2.2.2.2.2.2
      exact hK _ _ ⟨fun s => if s = 130 then .bool false else if s = 124 then Value.bool false else if s = 129 then .bool false else z s, _, _, _, _, rfl, Lib.hid ⟨V.1, V.2.1, V.2.2.1, V.2.2.2.1, V.2.2.2.2.1, V.2.2.2.2.2.1, V.2.2.2.2.2.2.1, V.2.2.2.2.2.2.2.1, V.2.2.2.2.2.2.2.2.1, V.2.2.2.2.2.2.2.2.2.1, V10.1, V10.2.1, V10.2.2.1, V10.2.2.2.1, V10.2.2.2.2.1, V10.2.2.2.2.2.1, V10.2.2.2.2.2.2.1, V10.2.2.2.2.2.2.2.1, V10.2.2.2.2.2.2.2.2.1, V10.2.2.2.2.2.2.2.2.2.1, V20.1, V20.2.1, V20.2.2.1, V20.2.2.2.1, V20.2.2.2.2.1, V20.2.2.2.2.2.1, V20.2.2.2.2.2.2.1, V20.2.2.2.2.2.2.2.1, V20.2.2.2.2.2.2.2.2.1, V20.2.2.2.2.2.2.2.2.2.1, V30.1, V30.2.1, fun _ => rfl, V30.2.2.2.1, V30.2.2.2.2.1, fun _ => rfl, fun _ => rfl, V30.2.2.2.2.2.2.2.1, V30.2.2.2.2.2.2.2.2.1, V30.2.2.2.2.2.2.2.2.2.1, V40.1, V40.2.1, V40.2.2.1, V40.2.2.2.1, V40.2.2.2.2.1, V40.2.2.2.2.2.1, V40.2.2.2.2.2.2.1, V40.2.2.2.2.2.2.2.1, V40.2.2.2.2.2.2.2.2.1, V40.2.2.2.2.2.2.2.2.2.1, V50.1, V50.2.1, V50.2.2.1, V50.2.2.2⟩, HW, HX⟩
    · rintro b a wy hb hd ⟨z, z126, z127, z141, z142, rfl, HV, HW, HX⟩ K hK
      simp [Region.binds] at hd
      have e38 : (z 130) = .bool false := (HV.out.2.2.2.2.2.2.2.2.2.2.2.2.2.2.2.2.2.2.2.2.2.2.2.2.2.2.2.2.2.2.2.2.2.2.2.2.1) (by simp [hd])
      clear hd
      go_simp
      have V := HV.out
      have V10 := V.2.2.2.2.2.2.2.2.2.2
      have V20 := V10.2.2.2.2.2.2.2.2.2.2
      have V30 := V20.2.2.2.2.2.2.2.2.2.2
      have V40 := V30.2.2.2.2.2.2.2.2.2.2
      have V50 := V40.2.2.2.2.2.2.2.2.2.2
      exact hK _ _ ⟨fun s => if s = 131 then .bool false else if s = 130 then .bool false else z s, _, _, _, _, rfl, Lib.hid ⟨V.1, V.2.1, V.2.2.1, V.2.2.2.1, V.2.2.2.2.1, V.2.2.2.2.2.1, V.2.2.2.2.2.2.1, V.2.2.2.2.2.2.2.1, V.2.2.2.2.2.2.2.2.1, V.2.2.2.2.2.2.2.2.2.1, V10.1, V10.2.1, V10.2.2.1, V10.2.2.2.1, V10.2.2.2.2.1, V10.2.2.2.2.2.1, V10.2.2.2.2.2.2.1, V10.2.2.2.2.2.2.2.1, V10.2.2.2.2.2.2.2.2.1, V10.2.2.2.2.2.2.2.2.2.1, V20.1, V20.2.1, V20.2.2.1, V20.2.2.2.1, V20.2.2.2.2.1, V20.2.2.2.2.2.1, V20.2.2.2.2.2.2.1, V20.2.2.2.2.2.2.2.1, V20.2.2.2.2.2.2.2.2.1, V20.2.2.2.2.2.2.2.2.2.1, V30.1, V30.2.1, V30.2.2.1, V30.2.2.2.1, V30.2.2.2.2.1, V30.2.2.2.2.2.1, fun _ => rfl, fun _ => rfl, V30.2.2.2.2.2.2.2.2.1, V30.2.2.2.2.2.2.2.2.2.1, V40.1, V40.2.1, V40.2.2.1, V40.2.2.2.1, V40.2.2.2.2.1, V40.2.2.2.2.2.1, V40.2.2.2.2.2.2.1, V40.2.2.2.2.2.2.2.1, V40.2.2.2.2.2.2.2.2.1, V40.2.2.2.2.2.2.2.2.2.1, V50.1, V50.2.1, V50.2.2.1, V50.2.2.2⟩, HW, HX⟩
    · rintro b a wy hb hd ⟨z, z126, z127, z141, z142, rfl, HV, HW, HX⟩ K hK
      simp [Region.binds] at hd
      have e39 : (z 131) = .bool false := (HV.out.2.2.2.2.2.2.2.2.2.2.2.2.2.2.2.2.2.2.2.2.2.2.2.2.2.2.2.2.2.2.2.2.2.2.2.2.2.1) (by simp [hd])
      clear hd
      go_simp
      have V := HV.out
      have V10 := V.2.2.2.2.2.2.2.2.2.2
      have V20 := V10.2.2.2.2.2.2.2.2.2.2
      have V30 := V20.2.2.2.2.2.2.2.2.2.2
      have V40 := V30.2.2.2.2.2.2.2.2.2.2
      have V50 := V40.2.2.2.2.2.2.2.2.2.2
      exact hK _ _ ⟨fun s => if s = 132 then Value.int IntKind.i64 0 else if s = 131 then .bool false else z s, _, _, _, _, rfl, Lib.hid ⟨V.1, V.2.1, V.2.2.1, V.2.2.2.1, V.2.2.2.2.1, V.2.2.2.2.2.1, V.2.2.2.2.2.2.1, V.2.2.2.2.2.2.2.1, V.2.2.2.2.2.2.2.2.1, V.2.2.2.2.2.2.2.2.2.1, V10.1, V10.2.1, V10.2.2.1, V10.2.2.2.1, V10.2.2.2.2.1, V10.2.2.2.2.2.1, V10.2.2.2.2.2.2.1, V10.2.2.2.2.2.2.2.1, V10.2.2.2.2.2.2.2.2.1, V10.2.2.2.2.2.2.2.2.2.1, V20.1, V20.2.1, V20.2.2.1, V20.2.2.2.1, V20.2.2.2.2.1, V20.2.2.2.2.2.1, V20.2.2.2.2.2.2.1, V20.2.2.2.2.2.2.2.1, V20.2.2.2.2.2.2.2.2.1, V20.2.2.2.2.2.2.2.2.2.1, V30.1, V30.2.1, V30.2.2.1, V30.2.2.2.1, V30.2.2.2.2.1, V30.2.2.2.2.2.1, V30.2.2.2.2.2.2.1, fun _ => rfl, fun _ => rfl, V30.2.2.2.2.2.2.2.2.2.1, V40.1, V40.2.1, V40.2.2.1, V40.2.2.2.1, V40.2.2.2.2.1, V40.2.2.2.2.2.1, V40.2.2.2.2.2.2.1, V40.2.2.2.2.2.2.2.1, V40.2.2.2.2.2.2.2.2.1, V40.2.2.2.2.2.2.2.2.2.1, V50.1, V50.2.1, V50.2.2.1, V50.2.2.2⟩, HW, HX⟩
    · rintro b a wy hb hd ⟨z, z126, z127, z141, z142, rfl, HV, HW, HX⟩ K hK
      simp [Region.binds] at hd
      have e39 : (z 131) = .bool false := (HV.out.2.2.2.2.2.2.2.2.2.2.2.2.2.2.2.2.2.2.2.2.2.2.2.2.2.2.2.2.2.2.2.2.2.2.2.2.2.1) (by simp [hd])
      have e40 : (z 132) = Value.int IntKind.i64 0 := (HV.out.2.2.2.2.2.2.2.2.2.2.2.2.2.2.2.2.2.2.2.2.2.2.2.2.2.2.2.2.2.2.2.2.2.2.2.2.2.2.1) (by simp [hd])
      clear hd
      go_simp
      have V := HV.out
      have V10 := V.2.2.2.2.2.2.2.2.2.2
      have V20 := V10.2.2.2.2.2.2.2.2.2.2
      have V30 := V20.2.2.2.2.2.2.2.2.2.2
      have V40 := V30.2.2.2.2.2.2.2.2.2.2
      have V50 := V40.2.2.2.2.2.2.2.2.2.2
      exact hK _ _ ⟨fun s => if s = 133 then .bool false else if s = 131 then .bool false else if s = 132 then Value.int IntKind.i64 0 else z s, _, _, _, _, rfl, Lib.hid ⟨V.1, V.2.1, V.2.2.1, V.2.2.2.1, V.2.2.2.2.1, V.2.2.2.2.2.1, V.2.2.2.2.2.2.1, V.2.2.2.2.2.2.2.1, V.2.2.2.2.2.2.2.2.1, V.2.2.2.2.2.2.2.2.2.1, V10.1, V10.2.1, V10.2.2.1, V10.2.2.2.1, V10.2.2.2.2.1, V10.2.2.2.2.2.1, V10.2.2.2.2.2.2.1, V10.2.2.2.2.2.2.2.1, V10.2.2.2.2.2.2.2.2.1, V10.2.2.2.2.2.2.2.2.2.1, V20.1, V20.2.1, V20.2.2.1, V20.2.2.2.1, V20.2.2.2.2.1, V20.2.2.2.2.2.1, V20.2.2.2.2.2.2.1, V20.2.2.2.2.2.2.2.1, V20.2.2.2.2.2.2.2.2.1, V20.2.2.2.2.2.2.2.2.2.1, V30.1, V30.2.1, V30.2.2.1, V30.2.2.2.1, V30.2.2.2.2.1, V30.2.2.2.2.2.1, V30.2.2.2.2.2.2.1, fun _ => rfl, fun _ => rfl, fun _ => rfl, V40.1, V40.2.1, V40.2.2.1, V40.2.2.2.1, V40.2.2.2.2.1, V40.2.2.2.2.2.1, V40.2.2.2.2.2.2.1, V40.2.2.2.2.2.2.2.1, V40.2.2.2.2.2.2.2.2.1, V40.2.2.2.2.2.2.2.2.2.1, V50.1, V50.2.1, V50.2.2.1, V50.2.2.2⟩, HW, HX⟩
    · rintro b a wy hb hd ⟨z, z126, z127, z141, z142, rfl, HV, HW, HX⟩ K hK
      simp [Region.binds] at hd
      have e39 : (z 131) = .bool false := (HV.out.2.2.2.2.2.2.2.2.2.2.2.2.2.2.2.2.2.2.2.2.2.2.2.2.2.2.2.2.2.2.2.2.2.2.2.2.2.1) (by simp [hd])
      have e41 : (z 133) = .bool false := (HV.out.2.2.2.2.2.2.2.2.2.2.2.2.2.2.2.2.2.2.2.2.2.2.2.2.2.2.2.2.2.2.2.2.2.2.2.2.2.2.2.1) (by simp [hd])
      clear hd
      go_simp
      have V := HV.out
      have V10 := V.2.2.2.2.2.2.2.2.2.2
      have V20 := V10.2.2.2.2.2.2.2.2.2.2
      have V30 := V20.2.2.2.2.2.2.2.2.2.2
      have V40 := V30.2.2.2.2.2.2.2.2.2.2
      have V50 := V40.2.2.2.2.2.2.2.2.2.2
      exact hK _ _ ⟨fun s => if s = 134 then .bool false else if s = 131 then .bool false else if s = 133 then .bool false else z s, _, _, _, _, rfl, Lib.hid ⟨V.1, V.2.1, V.2.2.1, V.2.2.2.1, V.2.2.2.2.1, V.2.2.2.2.2.1, V.2.2.2.2.2.2.1, V.2.2.2.2.2.2.2.1, V.2.2.2.2.2.2.2.2.1, V.2.2.2.2.2.2.2.2.2.1, V10.1, V10.2.1, V10.2.2.1, V10.2.2.2.1, V10.2.2.2.2.1, V10.2.2.2.2.2.1, V10.2.2.2.2.2.2.1, V10.2.2.2.2.2.2.2.1, V10.2.2.2.2.2.2.2.2.1, V10.2.2.2.2.2.2.2.2.2.1, V20.1, V20.2.1, V20.2.2.1, V20.2.2.2.1, V20.2.2.2.2.1, V20.2.2.2.2.2.1, V20.2.2.2.2.2.2.1, V20.2.2.2.2.2.2.2.1, V20.2.2.2.2.2.2.2.2.1, V20.2.2.2.2.2.2.2.2.2.1, V30.1, V30.2.1, V30.2.2.1, V30.2.2.2.1, V30.2.2.2.2.1, V30.2.2.2.2.2.1, V30.2.2.2.2.2.2.1, fun _ => rfl, V30.2.2.2.2.2.2.2.2.1, fun _ => rfl, fun _ => rfl, V40.2.1, V40.2.2.1, V40.2.2.2.1, V40.2.2.2.2.1, V40.2.2.2.2.2.1, V40.2.2.2.2.2.2.1, V40.2.2.2.2.2.2.2.1, V40.2.2.2.2.2.2.2.2.1, V40.2.2.2.2.2.2.2.2.2.1, V50.1, V50.2.1, V50.2.2.1, V50.2.2.2⟩, HW, HX⟩
    · rintro b a wy hb hd ⟨z, z126, z127, z141, z142, rfl, HV, HW, HX⟩ K hK
      simp [Region.binds] at hd
      have e42 : (z 134) = .bool false := (HV.out.2.2.2.2.2.2.2.2.2.2.2.2.2.2.2.2.2.2.2.2.2.2.2.2.2.2.2.2.2.2.2.2.2.2.2.2.2.2.2.2.1) (by simp [hd])
      clear hd
      go_simp
      have V := HV.out
      have V10 := V.2.2.2.2.2.2.2.2.2.2
      have V20 := V10.2.2.2.2.2.2.2.2.2.2
      have V30 := V20.2.2.2.2.2.2.2.2.2.2
      have V40 := V30.2.2.2.2.2.2.2.2.2.2
      have V50 := V40.2.2.2.2.2.2.2.2.2.2
      exact hK _ _ ⟨fun s => if s = 135 then .bool false else if s = 134 then .bool false else z s, _, _, _, _, rfl, Lib.hid ⟨V.1, V.2.1, V.2.2.1, V.2.2.2.1, V.2.2.2.2.1, V.2.2.2.2.2.1, V.2.2.2.2.2.2.1, V.2.2.2.2.2.2.2.1, V.2.2.2.2.2.2.2.2.1, V.2.2.2.2.2.2.2.2.2.1, V10.1, V10.2.1, V10.2.2.1, V10.2.2.2.1, V10.2.2.2.2.1, V10.2.2.2.2.2.1, V10.2.2.2.2.2.2.1, V10.2.2.2.2.2.2.2.1, V10.2.2.2.2.2.2.2.2.1, V10.2.2.2.2.2.2.2.2.2.1, V20.1, V20.2.1, V20.2.2.1, V20.2.2.2.1, V20.2.2.2.2.1, V20.2.2.2.2.2.1, V20.2.2.2.2.2.2.1, V20.2.2.2.2.2.2.2.1, V20.2.2.2.2.2.2.2.2.1, V20.2.2.2.2.2.2.2.2.2.1, V30.1, V30.2.1, V30.2.2.1, V30.2.2.2.1, V30.2.2.2.2.1, V30.2.2.2.2.2.1, V30.2.2.2.2.2.2.1, V30.2.2.2.2.2.2.2.1, V30.2.2.2.2.2.2.2.2.1, V30.2.2.2.2.2.2.2.2.2.1, fun _ => rfl, fun _ => rfl, V40.2.2.1, V40.2.2.2.1, V40.2.2.2.2.1, V40.2.2.2.2.2.1, V40.2.2.2.2.2.2.1, V40.2.2.2.2.2.2.2.1, V40.2.2.2.2.2.2.2.2.1, V40.2.2.2.2.2.2.2.2.2.1, V50.1, V50.2.1, V50.2.2.1, V50.2.2.2⟩, HW, HX⟩
    · rintro b a wy hb hd ⟨z, z126, z127, z141, z142, rfl, HV, HW, HX⟩ K hK
      simp [Region.binds] at hd
      have e43 : (z 135) = .bool false := (HV.out.2.2.2.2.2.2.2.2.2.2.2.2.2.2.2.2.2.2.2.2.2.2.2.2.2.2.2.2.2.2.2.2.2.2.2.2.2.2.2.2.2.1) (by simp [hd])
      clear hd
      go_simp
      have V := HV.out
      have V10 := V.2.2.2.2.2.2.2.2.2.2
      have V20 := V10.2.2.2.2.2.2.2.2.2.2
      have V30 := V20.2.2.2.2.2.2.2.2.2.2
      have V40 := V30.2.2.2.2.2.2.2.2.2.2
      have V50 := V40.2.2.2.2.2.2.2.2.2.2
      exact hK _ _ ⟨fun s => if s = 136 then Value.int IntKind.u64 20 else if s = 135 then .bool false else z s, _, _, _, _, rfl, Lib.hid ⟨V.1, V.2.1, V.2.2.1, V.2.2.2.1, V.2.2.2.2.1, V.2.2.2.2.2.1, V.2.2.2.2.2.2.1, V.2.2.2.2.2.2.2.1, V.2.2.2.2.2.2.2.2.1, V.2.2.2.2.2.2.2.2.2.1, V10.1, V10.2.1, V10.2.2.1, V10.2.2.2.1, V10.2.2.2.2.1, V10.2.2.2.2.2.1, V10.2.2.2.2.2.2.1, V10.2.2.2.2.2.2.2.1, V10.2.2.2.2.2.2.2.2.1, V10.2.2.2.2.2.2.2.2.2.1, V20.1, V20.2.1, V20.2.2.1, V20.2.2.2.1, V20.2.2.2.2.1, V20.2.2.2.2.2.1, V20.2.2.2.2.2.2.1, V20.2.2.2.2.2.2.2.1, V20.2.2.2.2.2.2.2.2.1, V20.2.2.2.2.2.2.2.2.2.1, V30.1, V30.2.1, V30.2.2.1, V30.2.2.2.1, V30.2.2.2.2.1, V30.2.2.2.2.2.1, V30.2.2.2.2.2.2.1, V30.2.2.2.2.2.2.2.1, V30.2.2.2.2.2.2.2.2.1, V30.2.2.2.2.2.2.2.2.2.1, V40.1, fun _ => rfl, fun _ => rfl, V40.2.2.2.1, V40.2.2.2.2.1, V40.2.2.2.2.2.1, V40.2.2.2.2.2.2.1, V40.2.2.2.2.2.2.2.1, V40.2.2.2.2.2.2.2.2.1, V40.2.2.2.2.2.2.2.2.2.1, V50.1, V50.2.1, V50.2.2.1, V50.2.2.2⟩, HW, HX⟩
    · rintro b a wy hb hd ⟨z, z126, z127, z141, z142, rfl, HV, HW, HX⟩ K hK
      simp [Region.binds] at hd
      have e43 : (z 135) = .bool false := (HV.out.2.2.2.2.2.2.2.2.2.2.2.2.2.2.2.2.2.2.2.2.2.2.2.2.2.2.2.2.2.2.2.2.2.2.2.2.2.2.2.2.2.1) (by simp [hd])
      have e44 : (z 136) = Value.int IntKind.u64 20 := (HV.out.2.2.2.2.2.2.2.2.2.2.2.2.2.2.2.2.2.2.2.2.2.2.2.2.2.2.2.2.2.2.2.2.2.2.2.2.2.2.2.2.2.2.1) (by simp [hd])
      clear hd
      go_simp
      have V := HV.out
      have V10 := V.2.2.2.2.2.2.2.2.2.2
      have V20 := V10.2.2.2.2.2.2.2.2.2.2
      have V30 := V20.2.2.2.2.2.2.2.2.2.2
      have V40 := V30.2.2.2.2.2.2.2.2.2.2
      have V50 := V40.2.2.2.2.2.2.2.2.2.2
      exact hK _ _ ⟨fun s => if s = 137 then .bool false else if s = 135 then .bool false else if s = 136 then Value.int IntKind.u64 20 else z s, _, _, _, _, rfl, Lib.hid ⟨V.1, V.2.1, V.2.2.1, V.2.2.2.1, V.2.2.2.2.1, V.2.2.2.2.2.1, V.2.2.2.2.2.2.1, V.2.2.2.2.2.2.2.1, V.2.2.2.2.2.2.2.2.1, V.2.2.2.2.2.2.2.2.2.1, V10.1, V10.2.1, V10.2.2.1, V10.2.2.2.1, V10.2.2.2.2.1, V10.2.2.2.2.2.1, V10.2.2.2.2.2.2.1, V10.2.2.2.2.2.2.2.1, V10.2.2.2.2.2.2.2.2.1, V10.2.2.2.2.2.2.2.2.2.1, V20.1, V20.2.1, V20.2.2.1, V20.2.2.2.1, V20.2.2.2.2.1, V20.2.2.2.2.2.1, V20.2.2.2.2.2.2.1, V20.2.2.2.2.2.2.2.1, V20.2.2.2.2.2.2.2.2.1, V20.2.2.2.2.2.2.2.2.2.1, V30.1, V30.2.1, V30.2.2.1, V30.2.2.2.1, V30.2.2.2.2.1, V30.2.2.2.2.2.1, V30.2.2.2.2.2.2.1, V30.2.2.2.2.2.2.2.1, V30.2.2.2.2.2.2.2.2.1, V30.2.2.2.2.2.2.2.2.2.1, V40.1, fun _ => rfl, fun _ => rfl, fun _ => rfl, V40.2.2.2.2.1, V40.2.2.2.2.2.1, V40.2.2.2.2.2.2.1, V40.2.2.2.2.2.2.2.1, V40.2.2.2.2.2.2.2.2.1, V40.2.2.2.2.2.2.2.2.2.1, V50.1, V50.2.1, V50.2.2.1, V50.2.2.2⟩, HW, HX⟩
    · rintro b a wy hb hd ⟨z, z126, z127, z141, z142, rfl, HV, HW, HX⟩ K hK
      simp [Region.binds] at hd
      have e43 : (z 135) = .bool false := (HV.out.2.2.2.2.2.2.2.2.2.2.2.2.2.2.2.2.2.2.2.2.2.2.2.2.2.2.2.2.2.2.2.2.2.2.2.2.2.2.2.2.2.1) (by simp [hd])
      have e45 : (z 137) = .bool false := (HV.out.2.2.2.2.2.2.2.2.2.2.2.2.2.2.2.2.2.2.2.2.2.2.2.2.2.2.2.2.2.2.2.2.2.2.2.2.2.2.2.2.2.2.2.1) (by simp [hd])
      clear hd
      go_simp
      have V := HV.out
      have V10 := V.2.2.2.2.2.2.2.2.2.2
      have V20 := V10.2.2.2.2.2.2.2.2.2.2
      have V30 := V20.2.2.2.2.2.2.2.2.2.2
      have V40 := V30.2.2.2.2.2.2.2.2.2.2
      have V50 := V40.2.2.2.2.2.2.2.2.2.2
      exact hK _ _ ⟨fun s => if s = 138 then .bool false else if s = 135 then .bool false else if s = 137 then .bool false else z s, _, _, _, _, rfl, Lib.hid ⟨V.1, V.2.1, V.2.2.1, V.2.2.2.1, V.2.2.2.2.1, V.2.2.2.2.2.1, V.2.2.2.2.2.2.1, V.2.2.2.2.2.2.2.1, V.2.2.2.2.2.2.2.2.1, V.2.2.2.2.2.2.2.2.2.1, V10.1, V10.2.1, V10.2.2.1, V10.2.2.2.1, V10.2.2.2.2.1, V10.2.2.2.2.2.1, V10.2.2.2.2.2.2.1, V10.2.2.2.2.2.2.2.1, V10.2.2.2.2.2.2.2.2.1, V10.2.2.2.2.2.2.2.2.2.1, V20.1, V20.2.1, V20.2.2.1, V20.2.2.2.1, V20.2.2.2.2.1, V20.2.2.2.2.2.1, V20.2.2.2.2.2.2.1, V20.2.2.2.2.2.2.2.1, V20.2.2.2.2.2.2.2.2.1, V20.2.2.2.2.2.2.2.2.2.1, V30.1, V30.2.1, V30.2.2.1, V30.2.2.2.1, V30.2.2.2.2.1, V30.2.2.2.2.2.1, V30.2.2.2.2.2.2.1, V30.2.2.2.2.2.2.2.1, V30.2.2.2.2.2.2.2.2.1, V30.2.2.2.2.2.2.2.2.2.1, V40.1, fun _ => rfl, V40.2.2.1, fun _ => rfl, fun _ => rfl, V40.2.2.2.2.2.1, V40.2.2.2.2.2.2.1, V40.2.2.2.2.2.2.2.1, V40.2.2.2.2.2.2.2.2.1, V40.2.2.2.2.2.2.2.2.2.1, V50.1, V50.2.1, V50.2.2.1, V50.2.2.2⟩, HW, HX⟩
    · rintro b a wy hb hd ⟨z, z126, z127, z141, z142, rfl, HV, HW, HX⟩ K hK
      simp [Region.binds] at hd
      have e46 : (z 138) = .bool false := (HV.out.2.2.2.2.2.2.2.2.2.2.2.2.2.2.2.2.2.2.2.2.2.2.2.2.2.2.2.2.2.2.2.2.2.2.2.2.2.2.2.2.2.2.2.2.1) (by simp [hd])
      clear hd
      go_simp
      have V := HV.out
      have V10 := V.2.2.2.2.2.2.2.2.2.2
      have V20 := V10.2.2.2.2.2.2.2.2.2.2
      have V30 := V20.2.2.2.2.2.2.2.2.2.2
      have V40 := V30.2.2.2.2.2.2.2.2.2.2
      have V50 := V40.2.2.2.2.2.2.2.2.2.2
      exact hK _ _ ⟨fun s => if s = 139 then .bool false else if s = 138 then .bool false else z s, _, _, _, _, rfl, Lib.hid ⟨V.1, V.2.1, V.2.2.1, V.2.2.2.1, V.2.2.2.2.1, V.2.2.2.2.2.1, V.2.2.2.2.2.2.1, V.2.2.2.2.2.2.2.1, V.2.2.2.2.2.2.2.2.1, V.2.2.2.2.2.2.2.2.2.1, V10.1, V10.2.1, V10.2.2.1, V10.2.2.2.1, V10.2.2.2.2.1, V10.2.2.2.2.2.1, V10.2.2.2.2.2.2.1, V10.2.2.2.2.2.2.2.1, V10.2.2.2.2.2.2.2.2.1, V10.2.2.2.2.2.2.2.2.2.1, V20.1, V20.2.1, V20.2.2.1, V20.2.2.2.1, V20.2.2.2.2.1, V20.2.2.2.2.2.1, V20.2.2.2.2.2.2.1, V20.2.2.2.2.2.2.2.1, V20.2.2.2.2.2.2.2.2.1, V20.2.2.2.2.2.2.2.2.2.1, V30.1, V30.2.1, V30.2.2.1, V30.2.2.2.1, V30.2.2.2.2.1, V30.2.2.2.2.2.1, V30.2.2.2.2.2.2.1, V30.2.2.2.2.2.2.2.1, V30.2.2.2.2.2.2.2.2.1, V30.2.2.2.2.2.2.2.2.2.1, V40.1, V40.2.1, V40.2.2.1, V40.2.2.2.1, fun _ => rfl, fun _ => rfl, V40.2.2.2.2.2.2.1, V40.2.2.2.2.2.2.2.1, V40.2.2.2.2.2.2.2.2.1, V40.2.2.2.2.2.2.2.2.2.1, V50.1, V50.2.1, V50.2.2.1, V50.2.2.2⟩, HW, HX⟩
    · rintro b a wy hb hd ⟨z, z126, z127, z141, z142, rfl, HV, HW, HX⟩ K hK
      simp [Region.binds] at hd
      have e47 : (z 139) = .bool false := (HV.out.2.2.2.2.2.2.2.2.2.2.2.2.2.2.2.2.2.2.2.2.2.2.2.2.2.2.2.2.2.2.2.2.2.2.2.2.2.2.2.2.2.2.2.2.2.1) (by simp [hd])
      clear hd
      have hbx := Xt.out.below Xt.out.lt HW.out
      rw [e47]
      refine if_wanted (by rfl) (wp_load_d (.tmp 15) rfl rt _ rfl hbx ?_)
      have V := HV.out
      have V10 := V.2.2.2.2.2.2.2.2.2.2
      have V20 := V10.2.2.2.2.2.2.2.2.2.2
      have V30 := V20.2.2.2.2.2.2.2.2.2.2
      have V40 := V30.2.2.2.2.2.2.2.2.2.2
      have V50 := V40.2.2.2.2.2.2.2.2.2.2
      exact hK _ _ ⟨fun s => if s = 140 then t else if s = 139 then .bool false else z s, _, _, _, _, rfl, Lib.hid ⟨V.1, V.2.1, V.2.2.1, V.2.2.2.1, V.2.2.2.2.1, V.2.2.2.2.2.1, V.2.2.2.2.2.2.1, V.2.2.2.2.2.2.2.1, V.2.2.2.2.2.2.2.2.1, V.2.2.2.2.2.2.2.2.2.1, V10.1, V10.2.1, V10.2.2.1, V10.2.2.2.1, V10.2.2.2.2.1, V10.2.2.2.2.2.1, V10.2.2.2.2.2.2.1, V10.2.2.2.2.2.2.2.1, V10.2.2.2.2.2.2.2.2.1, V10.2.2.2.2.2.2.2.2.2.1, V20.1, V20.2.1, V20.2.2.1, V20.2.2.2.1, V20.2.2.2.2.1, V20.2.2.2.2.2.1, V20.2.2.2.2.2.2.1, V20.2.2.2.2.2.2.2.1, V20.2.2.2.2.2.2.2.2.1, V20.2.2.2.2.2.2.2.2.2.1, V30.1, V30.2.1, V30.2.2.1, V30.2.2.2.1, V30.2.2.2.2.1, V30.2.2.2.2.2.1, V30.2.2.2.2.2.2.1, V30.2.2.2.2.2.2.2.1, V30.2.2.2.2.2.2.2.2.1, V30.2.2.2.2.2.2.2.2.2.1, V40.1, V40.2.1, V40.2.2.1, V40.2.2.2.1, V40.2.2.2.2.1, fun _ => rfl, fun _ => rfl, V40.2.2.2.2.2.2.2.1, V40.2.2.2.2.2.2.2.2.1, V40.2.2.2.2.2.2.2.2.2.1, V50.1, V50.2.1, V50.2.2.1, V50.2.2.2⟩, HW, HX⟩
    · rintro b a wy hb hd ⟨z, z126, z127, z141, z142, rfl, HV, HW, HX⟩ K hK
      simp [Region.binds] at hd
      have e47 : (z 139) = .bool false := (HV.out.2.2.2.2.2.2.2.2.2.2.2.2.2.2.2.2.2.2.2.2.2.2.2.2.2.2.2.2.2.2.2.2.2.2.2.2.2.2.2.2.2.2.2.2.2.1) (by simp [hd])
      clear hd
      obtain ⟨x34, x49, x35, x50⟩ := HX.out
      have kz := (Below.refl wy.heap.size wy).alloc (Nat.le_refl _) (.cells #[.int .u64 5] 25)
      have LN := lit_new wy [5]
      go_simp
      have V := HV.out
      have V10 := V.2.2.2.2.2.2.2.2.2.2
      have V20 := V10.2.2.2.2.2.2.2.2.2.2
      have V30 := V20.2.2.2.2.2.2.2.2.2.2
      have V40 := V30.2.2.2.2.2.2.2.2.2.2
      have V50 := V40.2.2.2.2.2.2.2.2.2.2
      exact hK _ _ ⟨fun s => if s = 139 then .bool false else z s, _, _, _, _, rfl, Lib.hid ⟨V.1, V.2.1, V.2.2.1, V.2.2.2.1, V.2.2.2.2.1, V.2.2.2.2.2.1, V.2.2.2.2.2.2.1, V.2.2.2.2.2.2.2.1, V.2.2.2.2.2.2.2.2.1, V.2.2.2.2.2.2.2.2.2.1, V10.1, V10.2.1, V10.2.2.1, V10.2.2.2.1, V10.2.2.2.2.1, V10.2.2.2.2.2.1, V10.2.2.2.2.2.2.1, V10.2.2.2.2.2.2.2.1, V10.2.2.2.2.2.2.2.2.1, V10.2.2.2.2.2.2.2.2.2.1, V20.1, V20.2.1, V20.2.2.1, V20.2.2.2.1, V20.2.2.2.2.1, V20.2.2.2.2.2.1, V20.2.2.2.2.2.2.1, V20.2.2.2.2.2.2.2.1, V20.2.2.2.2.2.2.2.2.1, V20.2.2.2.2.2.2.2.2.2.1, V30.1, V30.2.1, V30.2.2.1, V30.2.2.2.1, V30.2.2.2.2.1, V30.2.2.2.2.2.1, V30.2.2.2.2.2.2.1, V30.2.2.2.2.2.2.2.1, V30.2.2.2.2.2.2.2.2.1, V30.2.2.2.2.2.2.2.2.2.1, V40.1, V40.2.1, V40.2.2.1, V40.2.2.2.1, V40.2.2.2.2.1, fun _ => rfl, V40.2.2.2.2.2.2.1, V40.2.2.2.2.2.2.2.1, V40.2.2.2.2.2.2.2.2.1, V40.2.2.2.2.2.2.2.2.2.1, V50.1, V50.2.1, V50.2.2.1, V50.2.2.2⟩, Lib.hid (HW.out.trans (kz.mono HW.out.size)), Lib.hid ⟨fun e => (x34 e).far kz, fun _ => ⟨wy.heap.size, rfl, LN, by simp⟩, fun e => (x35 e).far kz, fun e => (x50 e).far kz⟩⟩
    · rintro b a wy hb hd ⟨z, z126, z127, z141, z142, rfl, HV, HW, HX⟩ K hK
      simp [Region.binds] at hd
      have e47 : (z 139) = .bool false := (HV.out.2.2.2.2.2.2.2.2.2.2.2.2.2.2.2.2.2.2.2.2.2.2.2.2.2.2.2.2.2.2.2.2.2.2.2.2.2.2.2.2.2.2.2.2.2.1) (by simp [hd])
      have dd49 : b 49 = true := by simp [hd]
      clear hd
      obtain ⟨x34, x49, x35, x50⟩ := HX.out
      obtain ⟨gl, zz, LN, _⟩ := x49 dd49
      subst zz
      go_simp
      go_at_call 29
      refine (leaf_lit (gk := gl) (n := 1) (ks := [5]) (vs := [50]) rfl LN (by decide) (by decide) (by decide)).mono ?_
      rintro e wz ⟨v, rfl, nv, _, kz⟩
      try go_simp
      have V := HV.out
      have V10 := V.2.2.2.2.2.2.2.2.2.2
      have V20 := V10.2.2.2.2.2.2.2.2.2.2
      have V30 := V20.2.2.2.2.2.2.2.2.2.2
      have V40 := V30.2.2.2.2.2.2.2.2.2.2
      have V50 := V40.2.2.2.2.2.2.2.2.2.2
      exact hK _ _ ⟨fun s => if s = 139 then .bool false else z s, _, _, _, _, rfl, Lib.hid ⟨V.1, V.2.1, V.2.2.1, V.2.2.2.1, V.2.2.2.2.1, V.2.2.2.2.2.1, V.2.2.2.2.2.2.1, V.2.2.2.2.2.2.2.1, V.2.2.2.2.2.2.2.2.1, V.2.2.2.2.2.2.2.2.2.1, V10.1, V10.2.1, V10.2.2.1, V10.2.2.2.1, V10.2.2.2.2.1, V10.2.2.2.2.2.1, V10.2.2.2.2.2.2.1, V10.2.2.2.2.2.2.2.1, V10.2.2.2.2.2.2.2.2.1, V10.2.2.2.2.2.2.2.2.2.1, V20.1, V20.2.1, V20.2.2.1, V20.2.2.2.1, V20.2.2.2.2.1, V20.2.2.2.2.2.1, V20.2.2.2.2.2.2.1, V20.2.2.2.2.2.2.2.1, V20.2.2.2.2.2.2.2.2.1, V20.2.2.2.2.2.2.2.2.2.1, V30.1, V30.2.1, V30.2.2.1, V30.2.2.2.1, V30.2.2.2.2.1, V30.2.2.2.2.2.1, V30.2.2.2.2.2.2.1, V30.2.2.2.2.2.2.2.1, V30.2.2.2.2.2.2.2.2.1, V30.2.2.2.2.2.2.2.2.2.1, V40.1, V40.2.1, V40.2.2.1, V40.2.2.2.1, V40.2.2.2.2.1, fun _ => rfl, V40.2.2.2.2.2.2.1, V40.2.2.2.2.2.2.2.1, V40.2.2.2.2.2.2.2.2.1, V40.2.2.2.2.2.2.2.2.2.1, V50.1, V50.2.1, V50.2.2.1, V50.2.2.2⟩, Lib.hid (HW.out.trans (kz.mono HW.out.size)), Lib.hid ⟨fun e => (x34 e).far kz, fun e => (x49 e).far kz, fun e => (x35 e).far kz, fun _ => nv⟩⟩
    · rintro b a wy hb hd ⟨z, z126, z127, z141, z142, rfl, HV, HW, HX⟩ K hK
      simp [Region.binds] at hd
      have e47 : (z 139) = .bool false := (HV.out.2.2.2.2.2.2.2.2.2.2.2.2.2.2.2.2.2.2.2.2.2.2.2.2.2.2.2.2.2.2.2.2.2.2.2.2.2.2.2.2.2.2.2.2.2.1) (by simp [hd])
      have e48 : (z 140) = t := (HV.out.2.2.2.2.2.2.2.2.2.2.2.2.2.2.2.2.2.2.2.2.2.2.2.2.2.2.2.2.2.2.2.2.2.2.2.2.2.2.2.2.2.2.2.2.2.2.1) (by simp [hd])
      have dd50 : b 50 = true := by simp [hd]
      clear hd
      obtain ⟨x34, x49, x35, x50⟩ := HX.out
      have NF := Nt.out.far HW.out
      go_simp
      go_at_call 16
      refine (same_lit NF (x50 dd50) true (by decide)).mono ?_
      rintro e wz ⟨rfl, kz⟩
      try go_simp
      have V := HV.out
      have V10 := V.2.2.2.2.2.2.2.2.2.2
      have V20 := V10.2.2.2.2.2.2.2.2.2.2
      have V30 := V20.2.2.2.2.2.2.2.2.2.2
      have V40 := V30.2.2.2.2.2.2.2.2.2.2
      have V50 := V40.2.2.2.2.2.2.2.2.2.2
      exact hK _ _ ⟨fun s => if s = 143 then .bool true else if s = 139 then .bool false else if s = 140 then t else z s, _, _, _, _, rfl, Lib.hid ⟨V.1, V.2.1, V.2.2.1, V.2.2.2.1, V.2.2.2.2.1, V.2.2.2.2.2.1, V.2.2.2.2.2.2.1, V.2.2.2.2.2.2.2.1, V.2.2.2.2.2.2.2.2.1, V.2.2.2.2.2.2.2.2.2.1, V10.1, V10.2.1, V10.2.2.1, V10.2.2.2.1, V10.2.2.2.2.1, V10.2.2.2.2.2.1, V10.2.2.2.2.2.2.1, V10.2.2.2.2.2.2.2.1, V10.2.2.2.2.2.2.2.2.1, V10.2.2.2.2.2.2.2.2.2.1, V20.1, V20.2.1, V20.2.2.1, V20.2.2.2.1, V20.2.2.2.2.1, V20.2.2.2.2.2.1, V20.2.2.2.2.2.2.1, V20.2.2.2.2.2.2.2.1, V20.2.2.2.2.2.2.2.2.1, V20.2.2.2.2.2.2.2.2.2.1, V30.1, V30.2.1, V30.2.2.1, V30.2.2.2.1, V30.2.2.2.2.1, V30.2.2.2.2.2.1, V30.2.2.2.2.2.2.1, V30.2.2.2.2.2.2.2.1, V30.2.2.2.2.2.2.2.2.1, V30.2.2.2.2.2.2.2.2.2.1, V40.1, V40.2.1, V40.2.2.1, V40.2.2.2.1, V40.2.2.2.2.1, fun _ => rfl, fun _ => rfl, fun _ => rfl, V40.2.2.2.2.2.2.2.2.1, V40.2.2.2.2.2.2.2.2.2.1, V50.1, V50.2.1, V50.2.2.1, V50.2.2.2⟩, Lib.hid (HW.out.trans (kz.mono HW.out.size)), Lib.hid ⟨fun e => (x34 e).far kz, fun e => (x49 e).far kz, fun e => (x35 e).far kz, fun e => (x50 e).far kz⟩⟩
    · rintro b a wy hb hd ⟨z, z126, z127, z141, z142, rfl, HV, HW, HX⟩ K hK
      simp [Region.binds] at hd
      have e47 : (z 139) = .bool false := (HV.out.2.2.2.2.2.2.2.2.2.2.2.2.2.2.2.2.2.2.2.2.2.2.2.2.2.2.2.2.2.2.2.2.2.2.2.2.2.2.2.2.2.2.2.2.2.1) (by simp [hd])
      have e51 : (z 143) = .bool true := (HV.out.2.2.2.2.2.2.2.2.2.2.2.2.2.2.2.2.2.2.2.2.2.2.2.2.2.2.2.2.2.2.2.2.2.2.2.2.2.2.2.2.2.2.2.2.2.2.2.1) (by simp [hd])
      clear hd
      go_simp
      have V := HV.out
      have V10 := V.2.2.2.2.2.2.2.2.2.2
      have V20 := V10.2.2.2.2.2.2.2.2.2.2
      have V30 := V20.2.2.2.2.2.2.2.2.2.2
      have V40 := V30.2.2.2.2.2.2.2.2.2.2
      have V50 := V40.2.2.2.2.2.2.2.2.2.2
      exact hK _ _ ⟨fun s => if s = 144 then .bool false else if s = 139 then .bool false else if s = 143 then .bool true else z s, _, _, _, _, rfl, Lib.hid ⟨V.1, V.2.1, V.2.2.1, V.2.2.2.1, V.2.2.2.2.1, V.2.2.2.2.2.1, V.2.2.2.2.2.2.1, V.2.2.2.2.2.2.2.1, V.2.2.2.2.2.2.2.2.1, V.2.2.2.2.2.2.2.2.2.1, V10.1, V10.2.1, V10.2.2.1, V10.2.2.2.1, V10.2.2.2.2.1, V10.2.2.2.2.2.1, V10.2.2.2.2.2.2.1, V10.2.2.2.2.2.2.2.1, V10.2.2.2.2.2.2.2.2.1, V10.2.2.2.2.2.2.2.2.2.1, V20.1, V20.2.1, V20.2.2.1, V20.2.2.2.1, V20.2.2.2.2.1, V20.2.2.2.2.2.1, V20.2.2.2.2.2.2.1, V20.2.2.2.2.2.2.2.1, V20.2.2.2.2.2.2.2.2.1, V20.2.2.2.2.2.2.2.2.2.1, V30.1, V30.2.1, V30.2.2.1, V30.2.2.2.1, V30.2.2.2.2.1, V30.2.2.2.2.2.1, V30.2.2.2.2.2.2.1, V30.2.2.2.2.2.2.2.1, V30.2.2.2.2.2.2.2.2.1, V30.2.2.2.2.2.2.2.2.2.1, V40.1, V40.2.1, V40.2.2.1, V40.2.2.2.1, V40.2.2.2.2.1, fun _ => rfl, V40.2.2.2.2.2.2.1, fun _ => rfl, fun _ => rfl, V40.2.2.2.2.2.2.2.2.2.1, V50.1, V50.2.1, V50.2.2.1, V50.2.2.2⟩, HW, HX⟩
    · rintro b a wy hb hd ⟨z, z126, z127, z141, z142, rfl, HV, HW, HX⟩ K hK
      simp [Region.binds] at hd
      have e47 : (z 139) = .bool false := (HV.out.2.2.2.2.2.2.2.2.2.2.2.2.2.2.2.2.2.2.2.2.2.2.2.2.2.2.2.2.2.2.2.2.2.2.2.2.2.2.2.2.2.2.2.2.2.1) (by simp [hd])
      have e52 : (z 144) = .bool false := (HV.out.2.2.2.2.2.2.2.2.2.2.2.2.2.2.2.2.2.2.2.2.2.2.2.2.2.2.2.2.2.2.2.2.2.2.2.2.2.2.2.2.2.2.2.2.2.2.2.2.1) (by simp [hd])
      clear hd
      go_simp
      have V := HV.out
      have V10 := V.2.2.2.2.2.2.2.2.2.2
      have V20 := V10.2.2.2.2.2.2.2.2.2.2
      have V30 := V20.2.2.2.2.2.2.2.2.2.2
      have V40 := V30.2.2.2.2.2.2.2.2.2.2
      have V50 := V40.2.2.2.2.2.2.2.2.2.2
      exact hK _ _ ⟨fun s => if s = 145 then .bool false else if s = 139 then .bool false else if s = 144 then .bool false else z s, _, _, _, _, rfl, Lib.hid ⟨V.1, V.2.1, V.2.2.1, V.2.2.2.1, V.2.2.2.2.1, V.2.2.2.2.2.1, V.2.2.2.2.2.2.1, V.2.2.2.2.2.2.2.1, V.2.2.2.2.2.2.2.2.1, V.2.2.2.2.2.2.2.2.2.1, V10.1, V10.2.1, V10.2.2.1, V10.2.2.2.1, V10.2.2.2.2.1, V10.2.2.2.2.2.1, V10.2.2.2.2.2.2.1, V10.2.2.2.2.2.2.2.1, V10.2.2.2.2.2.2.2.2.1, V10.2.2.2.2.2.2.2.2.2.1, V20.1, V20.2.1, V20.2.2.1, V20.2.2.2.1, V20.2.2.2.2.1, V20.2.2.2.2.2.1, V20.2.2.2.2.2.2.1, V20.2.2.2.2.2.2.2.1, V20.2.2.2.2.2.2.2.2.1, V20.2.2.2.2.2.2.2.2.2.1, V30.1, V30.2.1, V30.2.2.1, V30.2.2.2.1, V30.2.2.2.2.1, V30.2.2.2.2.2.1, V30.2.2.2.2.2.2.1, V30.2.2.2.2.2.2.2.1, V30.2.2.2.2.2.2.2.2.1, V30.2.2.2.2.2.2.2.2.2.1, V40.1, V40.2.1, V40.2.2.1, V40.2.2.2.1, V40.2.2.2.2.1, fun _ => rfl, V40.2.2.2.2.2.2.1, V40.2.2.2.2.2.2.2.1, fun _ => rfl, fun _ => rfl, V50.1, V50.2.1, V50.2.2.1, V50.2.2.2⟩, HW, HX⟩
    · rintro b a wy hb hd ⟨z, z126, z127, z141, z142, rfl, HV, HW, HX⟩ K hK
      simp [Region.binds] at hd
      have e53 : (z 145) = .bool false := (HV.out.2.2.2.2.2.2.2.2.2.2.2.2.2.2.2.2.2.2.2.2.2.2.2.2.2.2.2.2.2.2.2.2.2.2.2.2.2.2.2.2.2.2.2.2.2.2.2.2.2.1) (by simp [hd])
      clear hd
      go_simp
      have V := HV.out
      have V10 := V.2.2.2.2.2.2.2.2.2.2
      have V20 := V10.2.2.2.2.2.2.2.2.2.2
      have V30 := V20.2.2.2.2.2.2.2.2.2.2
      have V40 := V30.2.2.2.2.2.2.2.2.2.2
      have V50 := V40.2.2.2.2.2.2.2.2.2.2
      exact hK _ _ ⟨fun s => if s = 146 then .bool false else if s = 145 then .bool false else z s, _, _, _, _, rfl, Lib.hid ⟨V.1, V.2.1, V.2.2.1, V.2.2.2.1, V.2.2.2.2.1, V.2.2.2.2.2.1, V.2.2.2.2.2.2.1, V.2.2.2.2.2.2.2.1, V.2.2.2.2.2.2.2.2.1, V.2.2.2.2.2.2.2.2.2.1, V10.1, V10.2.1, V10.2.2.1, V10.2.2.2.1, V10.2.2.2.2.1, V10.2.2.2.2.2.1, V10.2.2.2.2.2.2.1, V10.2.2.2.2.2.2.2.1, V10.2.2.2.2.2.2.2.2.1, V10.2.2.2.2.2.2.2.2.2.1, V20.1, V20.2.1, V20.2.2.1, V20.2.2.2.1, V20.2.2.2.2.1, V20.2.2.2.2.2.1, V20.2.2.2.2.2.2.1, V20.2.2.2.2.2.2.2.1, V20.2.2.2.2.2.2.2.2.1, V20.2.2.2.2.2.2.2.2.2.1, V30.1, V30.2.1, V30.2.2.1, V30.2.2.2.1, V30.2.2.2.2.1, V30.2.2.2.2.2.1, V30.2.2.2.2.2.2.1, V30.2.2.2.2.2.2.2.1, V30.2.2.2.2.2.2.2.2.1, V30.2.2.2.2.2.2.2.2.2.1, V40.1, V40.2.1, V40.2.2.1, V40.2.2.2.1, V40.2.2.2.2.1, V40.2.2.2.2.2.1, V40.2.2.2.2.2.2.1, V40.2.2.2.2.2.2.2.1, V40.2.2.2.2.2.2.2.2.1, fun _ => rfl, fun _ => rfl, V50.2.1, V50.2.2.1, V50.2.2.2⟩, HW, HX⟩
    · rintro b a wy hb hd ⟨z, z126, z127, z141, z142, rfl, HV, HW, HX⟩ K hK
      simp [Region.binds] at hd
      have e54 : (z 146) = .bool false := (HV.out.2.2.2.2.2.2.2.2.2.2.2.2.2.2.2.2.2.2.2.2.2.2.2.2.2.2.2.2.2.2.2.2.2.2.2.2.2.2.2.2.2.2.2.2.2.2.2.2.2.2.1) (by simp [hd])
      clear hd
      go_simp
      have V := HV.out
      have V10 := V.2.2.2.2.2.2.2.2.2.2
      have V20 := V10.2.2.2.2.2.2.2.2.2.2
      have V30 := V20.2.2.2.2.2.2.2.2.2.2
      have V40 := V30.2.2.2.2.2.2.2.2.2.2
      have V50 := V40.2.2.2.2.2.2.2.2.2.2
      exact hK _ _ ⟨fun s => if s = 147 then Value.int IntKind.i64 121 else if s = 146 then .bool false else z s, _, _, _, _, rfl, Lib.hid ⟨V.1, V.2.1, V.2.2.1, V.2.2.2.1, V.2.2.2.2.1, V.2.2.2.2.2.1, V.2.2.2.2.2.2.1, V.2.2.2.2.2.2.2.1, V.2.2.2.2.2.2.2.2.1, V.2.2.2.2.2.2.2.2.2.1, V10.1, V10.2.1, V10.2.2.1, V10.2.2.2.1, V10.2.2.2.2.1, V10.2.2.2.2.2.1, V10.2.2.2.2.2.2.1, V10.2.2.2.2.2.2.2.1, V10.2.2.2.2.2.2.2.2.1, V10.2.2.2.2.2.2.2.2.2.1, V20.1, V20.2.1, V20.2.2.1, V20.2.2.2.1, V20.2.2.2.2.1, V20.2.2.2.2.2.1, V20.2.2.2.2.2.2.1, V20.2.2.2.2.2.2.2.1, V20.2.2.2.2.2.2.2.2.1, V20.2.2.2.2.2.2.2.2.2.1, V30.1, V30.2.1, V30.2.2.1, V30.2.2.2.1, V30.2.2.2.2.1, V30.2.2.2.2.2.1, V30.2.2.2.2.2.2.1, V30.2.2.2.2.2.2.2.1, V30.2.2.2.2.2.2.2.2.1, V30.2.2.2.2.2.2.2.2.2.1, V40.1, V40.2.1, V40.2.2.1, V40.2.2.2.1, V40.2.2.2.2.1, V40.2.2.2.2.2.1, V40.2.2.2.2.2.2.1, V40.2.2.2.2.2.2.2.1, V40.2.2.2.2.2.2.2.2.1, V40.2.2.2.2.2.2.2.2.2.1, fun _ => rfl, fun _ => rfl, V50.2.2.1, V50.2.2.2⟩, HW, HX⟩
    · rintro b a wy hb hd ⟨z, z126, z127, z141, z142, rfl, HV, HW, HX⟩ K hK
      simp [Region.binds] at hd
      have e54 : (z 146) = .bool false := (HV.out.2.2.2.2.2.2.2.2.2.2.2.2.2.2.2.2.2.2.2.2.2.2.2.2.2.2.2.2.2.2.2.2.2.2.2.2.2.2.2.2.2.2.2.2.2.2.2.2.2.2.1) (by simp [hd])
      have e55 : (z 147) = Value.int IntKind.i64 121 := (HV.out.2.2.2.2.2.2.2.2.2.2.2.2.2.2.2.2.2.2.2.2.2.2.2.2.2.2.2.2.2.2.2.2.2.2.2.2.2.2.2.2.2.2.2.2.2.2.2.2.2.2.2.1) (by simp [hd])
      clear hd
      go_simp
      have V := HV.out
      have V10 := V.2.2.2.2.2.2.2.2.2.2
      have V20 := V10.2.2.2.2.2.2.2.2.2.2
      have V30 := V20.2.2.2.2.2.2.2.2.2.2
      have V40 := V30.2.2.2.2.2.2.2.2.2.2
      have V50 := V40.2.2.2.2.2.2.2.2.2.2
      exact hK _ _ ⟨fun s => if s = 148 then .bool false else if s = 146 then .bool false else if s = 147 then Value.int IntKind.i64 121 else z s, _, _, _, _, rfl, Lib.hid ⟨V.1, V.2.1, V.2.2.1, V.2.2.2.1, V.2.2.2.2.1, V.2.2.2.2.2.1, V.2.2.2.2.2.2.1, V.2.2.2.2.2.2.2.1, V.2.2.2.2.2.2.2.2.1, V.2.2.2.2.2.2.2.2.2.1, V10.1, V10.2.1, V10.2.2.1, V10.2.2.2.1, V10.2.2.2.2.1, V10.2.2.2.2.2.1, V10.2.2.2.2.2.2.1, V10.2.2.2.2.2.2.2.1, V10.2.2.2.2.2.2.2.2.1, V10.2.2.2.2.2.2.2.2.2.1, V20.1, V20.2.1, V20.2.2.1, V20.2.2.2.1, V20.2.2.2.2.1, V20.2.2.2.2.2.1, V20.2.2.2.2.2.2.1, V20.2.2.2.2.2.2.2.1, V20.2.2.2.2.2.2.2.2.1, V20.2.2.2.2.2.2.2.2.2.1, V30.1, V30.2.1, V30.2.2.1, V30.2.2.2.1, V30.2.2.2.2.1, V30.2.2.2.2.2.1, V30.2.2.2.2.2.2.1, V30.2.2.2.2.2.2.2.1, V30.2.2.2.2.2.2.2.2.1, V30.2.2.2.2.2.2.2.2.2.1, V40.1, V40.2.1, V40.2.2.1, V40.2.2.2.1, V40.2.2.2.2.1, V40.2.2.2.2.2.1, V40.2.2.2.2.2.2.1, V40.2.2.2.2.2.2.2.1, V40.2.2.2.2.2.2.2.2.1, V40.2.2.2.2.2.2.2.2.2.1, fun _ => rfl, fun _ => rfl, fun _ => rfl, V50.2.2.2⟩, HW, HX⟩
    · rintro b a wy hb hd ⟨z, z126, z127, z141, z142, rfl, HV, HW, HX⟩ K hK
      simp [Region.binds] at hd
      have e54 : (z 146) = .bool false := (HV.out.2.2.2.2.2.2.2.2.2.2.2.2.2.2.2.2.2.2.2.2.2.2.2.2.2.2.2.2.2.2.2.2.2.2.2.2.2.2.2.2.2.2.2.2.2.2.2.2.2.2.1) (by simp [hd])
      have e56 : (z 148) = .bool false := (HV.out.2.2.2.2.2.2.2.2.2.2.2.2.2.2.2.2.2.2.2.2.2.2.2.2.2.2.2.2.2.2.2.2.2.2.2.2.2.2.2.2.2.2.2.2.2.2.2.2.2.2.2.2.1) (by simp [hd])
      clear hd
      go_simp
      have V := HV.out
      have V10 := V.2.2.2.2.2.2.2.2.2.2
      have V20 := V10.2.2.2.2.2.2.2.2.2.2
      have V30 := V20.2.2.2.2.2.2.2.2.2.2
      have V40 := V30.2.2.2.2.2.2.2.2.2.2
      have V50 := V40.2.2.2.2.2.2.2.2.2.2
      exact hK _ _ ⟨fun s => if s = 149 then .bool false else if s = 146 then .bool false else if s = 148 then .bool false else z s, _, _, _, _, rfl, Lib.hid ⟨V.1, V.2.1, V.2.2.1, V.2.2.2.1, V.2.2.2.2.1, V.2.2.2.2.2.1, V.2.2.2.2.2.2.1, V.2.2.2.2.2.2.2.1, V.2.2.2.2.2.2.2.2.1, V.2.2.2.2.2.2.2.2.2.1, V10.1, V10.2.1, V10.2.2.1, V10.2.2.2.1, V10.2.2.2.2.1, V10.2.2.2.2.2.1, V10.2.2.2.2.2.2.1, V10.2.2.2.2.2.2.2.1, V10.2.2.2.2.2.2.2.2.1, V10.2.2.2.2.2.2.2.2.2.1, V20.1, V20.2.1, V20.2.2.1, V20.2.2.2.1, V20.2.2.2.2.1, V20.2.2.2.2.2.1, V20.2.2.2.2.2.2.1, V20.2.2.2.2.2.2.2.1, V20.2.2.2.2.2.2.2.2.1, V20.2.2.2.2.2.2.2.2.2.1, V30.1, V30.2.1, V30.2.2.1, V30.2.2.2.1, V30.2.2.2.2.1, V30.2.2.2.2.2.1, V30.2.2.2.2.2.2.1, V30.2.2.2.2.2.2.2.1, V30.2.2.2.2.2.2.2.2.1, V30.2.2.2.2.2.2.2.2.2.1, V40.1, V40.2.1, V40.2.2.1, V40.2.2.2.1, V40.2.2.2.2.1, V40.2.2.2.2.2.1, V40.2.2.2.2.2.2.1, V40.2.2.2.2.2.2.2.1, V40.2.2.2.2.2.2.2.2.1, V40.2.2.2.2.2.2.2.2.2.1, fun _ => rfl, V50.2.1, fun _ => rfl, fun _ => rfl⟩, HW, HX⟩
  case doneD =>
    rintro b a w29 hb ⟨z, z126, z127, z141, z142, rfl, HV, HW, HX⟩
    have e0 := (HV.out.1) (hb 0)
    have e1 := (HV.out.2.1) (hb 1)
    have e2 := (HV.out.2.2.1) (hb 2)
    have e3 := (HV.out.2.2.2.1) (hb 3)
    have e4 := (HV.out.2.2.2.2.1) (hb 4)
    have e5 := (HV.out.2.2.2.2.2.1) (hb 5)
    have e6 := (HV.out.2.2.2.2.2.2.1) (hb 6)
    have e7 := (HV.out.2.2.2.2.2.2.2.1) (hb 7)
    have e8 := (HV.out.2.2.2.2.2.2.2.2.1) (hb 8)
    have e9 := (HV.out.2.2.2.2.2.2.2.2.2.1) (hb 9)
    have e10 := (HV.out.2.2.2.2.2.2.2.2.2.2.1) (hb 10)
    have e11 := (HV.out.2.2.2.2.2.2.2.2.2.2.2.1) (hb 11)
    have e12 := (HV.out.2.2.2.2.2.2.2.2.2.2.2.2.1) (hb 12)
    have e13 := (HV.out.2.2.2.2.2.2.2.2.2.2.2.2.2.1) (hb 13)
    have e14 := (HV.out.2.2.2.2.2.2.2.2.2.2.2.2.2.2.1) (hb 14)
    have e15 := (HV.out.2.2.2.2.2.2.2.2.2.2.2.2.2.2.2.1) (hb 15)
    have e16 := (HV.out.2.2.2.2.2.2.2.2.2.2.2.2.2.2.2.2.1) (hb 16)
    have e17 := (HV.out.2.2.2.2.2.2.2.2.2.2.2.2.2.2.2.2.2.1) (hb 17)
    have e18 := (HV.out.2.2.2.2.2.2.2.2.2.2.2.2.2.2.2.2.2.2.1) (hb 18)
    have e19 := (HV.out.2.2.2.2.2.2.2.2.2.2.2.2.2.2.2.2.2.2.2.1) (hb 19)
    have e20 := (HV.out.2.2.2.2.2.2.2.2.2.2.2.2.2.2.2.2.2.2.2.2.1) (hb 20)
    have e21 := (HV.out.2.2.2.2.2.2.2.2.2.2.2.2.2.2.2.2.2.2.2.2.2.1) (hb 21)
    have e22 := (HV.out.2.2.2.2.2.2.2.2.2.2.2.2.2.2.2.2.2.2.2.2.2.2.1) (hb 22)
    have e23 := (HV.out.2.2.2.2.2.2.2.2.2.2.2.2.2.2.2.2.2.2.2.2.2.2.2.1) (hb 23)
    have e24 := (HV.out.2.2.2.2.2.2.2.2.2.2.2.2.2.2.2.2.2.2.2.2.2.2.2.2.1) (hb 24)
    have e25 := (HV.out.2.2.2.2.2.2.2.2.2.2.2.2.2.2.2.2.2.2.2.2.2.2.2.2.2.1) (hb 25)
    have e26 := (HV.out.2.2.2.2.2.2.2.2.2.2.2.2.2.2.2.2.2.2.2.2.2.2.2.2.2.2.1) (hb 26)
    have e27 := (HV.out.2.2.2.2.2.2.2.2.2.2.2.2.2.2.2.2.2.2.2.2.2.2.2.2.2.2.2.1) (hb 27)
    have e28 := (HV.out.2.2.2.2.2.2.2.2.2.2.2.2.2.2.2.2.2.2.2.2.2.2.2.2.2.2.2.2.1) (hb 28)
    have e29 := (HV.out.2.2.2.2.2.2.2.2.2.2.2.2.2.2.2.2.2.2.2.2.2.2.2.2.2.2.2.2.2.1) (hb 29)
    have e30 := (HV.out.2.2.2.2.2.2.2.2.2.2.2.2.2.2.2.2.2.2.2.2.2.2.2.2.2.2.2.2.2.2.1) (hb 30)
    have e31 := (HV.out.2.2.2.2.2.2.2.2.2.2.2.2.2.2.2.2.2.2.2.2.2.2.2.2.2.2.2.2.2.2.2.1) (hb 31)
    have e32 := (HV.out.2.2.2.2.2.2.2.2.2.2.2.2.2.2.2.2.2.2.2.2.2.2.2.2.2.2.2.2.2.2.2.2.1) (hb 32)
    have e33 := (HV.out.2.2.2.2.2.2.2.2.2.2.2.2.2.2.2.2.2.2.2.2.2.2.2.2.2.2.2.2.2.2.2.2.2.1) (hb 33)
    have e36 := (HV.out.2.2.2.2.2.2.2.2.2.2.2.2.2.2.2.2.2.2.2.2.2.2.2.2.2.2.2.2.2.2.2.2.2.2.1) (hb 36)
    have e37 := (HV.out.2.2.2.2.2.2.2.2.2.2.2.2.2.2.2.2.2.2.2.2.2.2.2.2.2.2.2.2.2.2.2.2.2.2.2.1) (hb 37)
    have e38 := (HV.out.2.2.2.2.2.2.2.2.2.2.2.2.2.2.2.2.2.2.2.2.2.2.2.2.2.2.2.2.2.2.2.2.2.2.2.2.1) (hb 38)
    have e39 := (HV.out.2.2.2.2.2.2.2.2.2.2.2.2.2.2.2.2.2.2.2.2.2.2.2.2.2.2.2.2.2.2.2.2.2.2.2.2.2.1) (hb 39)
    have e40 := (HV.out.2.2.2.2.2.2.2.2.2.2.2.2.2.2.2.2.2.2.2.2.2.2.2.2.2.2.2.2.2.2.2.2.2.2.2.2.2.2.1) (hb 40)
    have e41 := (HV.out.2.2.2.2.2.2.2.2.2.2.2.2.2.2.2.2.2.2.2.2.2.2.2.2.2.2.2.2.2.2.2.2.2.2.2.2.2.2.2.1) (hb 41)
    have e42 := (HV.out.2.2.2.2.2.2.2.2.2.2.2.2.2.2.2.2.2.2.2.2.2.2.2.2.2.2.2.2.2.2.2.2.2.2.2.2.2.2.2.2.1) (hb 42)
    have e43 := (HV.out.2.2.2.2.2.2.2.2.2.2.2.2.2.2.2.2.2.2.2.2.2.2.2.2.2.2.2.2.2.2.2.2.2.2.2.2.2.2.2.2.2.1) (hb 43)
    have e44 := (HV.out.2.2.2.2.2.2.2.2.2.2.2.2.2.2.2.2.2.2.2.2.2.2.2.2.2.2.2.2.2.2.2.2.2.2.2.2.2.2.2.2.2.2.1) (hb 44)
    have e45 := (HV.out.2.2.2.2.2.2.2.2.2.2.2.2.2.2.2.2.2.2.2.2.2.2.2.2.2.2.2.2.2.2.2.2.2.2.2.2.2.2.2.2.2.2.2.1) (hb 45)
    have e46 := (HV.out.2.2.2.2.2.2.2.2.2.2.2.2.2.2.2.2.2.2.2.2.2.2.2.2.2.2.2.2.2.2.2.2.2.2.2.2.2.2.2.2.2.2.2.2.1) (hb 46)
    have e47 := (HV.out.2.2.2.2.2.2.2.2.2.2.2.2.2.2.2.2.2.2.2.2.2.2.2.2.2.2.2.2.2.2.2.2.2.2.2.2.2.2.2.2.2.2.2.2.2.1) (hb 47)
    have e48 := (HV.out.2.2.2.2.2.2.2.2.2.2.2.2.2.2.2.2.2.2.2.2.2.2.2.2.2.2.2.2.2.2.2.2.2.2.2.2.2.2.2.2.2.2.2.2.2.2.1) (hb 48)
    have e51 := (HV.out.2.2.2.2.2.2.2.2.2.2.2.2.2.2.2.2.2.2.2.2.2.2.2.2.2.2.2.2.2.2.2.2.2.2.2.2.2.2.2.2.2.2.2.2.2.2.2.1) (hb 51)
    have e52 := (HV.out.2.2.2.2.2.2.2.2.2.2.2.2.2.2.2.2.2.2.2.2.2.2.2.2.2.2.2.2.2.2.2.2.2.2.2.2.2.2.2.2.2.2.2.2.2.2.2.2.1) (hb 52)
    have e53 := (HV.out.2.2.2.2.2.2.2.2.2.2.2.2.2.2.2.2.2.2.2.2.2.2.2.2.2.2.2.2.2.2.2.2.2.2.2.2.2.2.2.2.2.2.2.2.2.2.2.2.2.1) (hb 53)
    have e54 := (HV.out.2.2.2.2.2.2.2.2.2.2.2.2.2.2.2.2.2.2.2.2.2.2.2.2.2.2.2.2.2.2.2.2.2.2.2.2.2.2.2.2.2.2.2.2.2.2.2.2.2.2.1) (hb 54)
    have e55 := (HV.out.2.2.2.2.2.2.2.2.2.2.2.2.2.2.2.2.2.2.2.2.2.2.2.2.2.2.2.2.2.2.2.2.2.2.2.2.2.2.2.2.2.2.2.2.2.2.2.2.2.2.2.1) (hb 55)
    have e56 := (HV.out.2.2.2.2.2.2.2.2.2.2.2.2.2.2.2.2.2.2.2.2.2.2.2.2.2.2.2.2.2.2.2.2.2.2.2.2.2.2.2.2.2.2.2.2.2.2.2.2.2.2.2.2.1) (hb 56)
    have e57 := (HV.out.2.2.2.2.2.2.2.2.2.2.2.2.2.2.2.2.2.2.2.2.2.2.2.2.2.2.2.2.2.2.2.2.2.2.2.2.2.2.2.2.2.2.2.2.2.2.2.2.2.2.2.2.2) (hb 57)
    simp only [e0, e1, e2, e3, e4, e5, e6, e7, e8, e9, e10, e11, e12, e13, e14, e15, e16, e17, e18, e19, e20, e21, e22, e23, e24, e25, e26, e27, e28, e29, e30, e31, e32, e33, e36, e37, e38, e39, e40, e41, e42, e43, e44, e45, e46, e47, e48, e51, e52, e53, e54, e55, e56, e57]
    clear HV e0 e1 e2 e3 e4 e5 e6 e7 e8 e9 e10 e11 e12 e13 e14 e15 e16 e17 e18 e19 e20 e21 e22 e23 e24 e25 e26 e27 e28 e29 e30 e31 e32 e33 e36 e37 e38 e39 e40 e41 e42 e43 e44 e45 e46 e47 e48 e51 e52 e53 e54 e55 e56 e57
  
    have kz := HW.out
    clear HX HW hb
    replace Np := Lib.hid (Np.out.far kz)
    replace Xp := Lib.hid (Xp.out.below Xp.out.lt kz)
    replace Nt := Lib.hid (Nt.out.far kz)
    replace Xt := Lib.hid (Xt.out.below Xt.out.lt kz)
    replace Nx := Lib.hid (Nx.out.far kz)
    replace Ny := Lib.hid (Ny.out.far kz)
    replace Xx := Lib.hid (Xx.out.below Xx.out.lt kz)
    replace Xy := Lib.hid (Xy.out.below Xy.out.lt kz)
    replace Nq := Lib.hid (Nq.out.far kz)
    replace Nm := Lib.hid (Nm.out.far kz)
    replace No := Lib.hid (No.out.far kz)
    replace Xm := Lib.hid (Xm.out.below Xm.out.lt kz)
    replace HB := Lib.hid (HB.out.trans (kz.mono HB.out.size))
    clear kz
    obtain ⟨gq, A5, c5, B5, d5, A4, c4, B4, d4, rfl, Hq, Hq0, Hq1⟩ := Nq.out
    have Rq := Lib.hid Hq
    have Nq0 := Lib.hid (show NodeV w29 (.agg #[.bool true, .slice A5 5 c5, .slice B5 5 d5]) true 5 [1, 2, 3, 4, 5] [10, 20, 30, 40, 50] from ⟨_, _, _, _, rfl, Hq0⟩)
    have Nq1 := Lib.hid (show NodeV w29 (.agg #[.bool true, .slice A4 4 c4, .slice B4 4 d4]) true 4 [6, 7, 8, 9] [60, 70, 80, 90] from ⟨_, _, _, _, rfl, Hq1⟩)
    clear Hq Hq0 Hq1 Nq Xp Xt Np Nt
    go_upto_region 15 with (fail)
    refine Inv2.wp_region_inv (fun b a wy => ∃ (z : Nat → Value) (z154 : Value) (z155 : Value) (z160 : Value) (z161 : Value) (z177 : Value) (z178 : Value) (z185 : Value) (z186 : Value) (z195 : Value) (z196 : Value) (z201 : Value), a = ⟨(List.toArray ((z 0) :: Value.pointer (some ⟨rn, 0, none⟩) :: Value.int IntKind.i64 1 :: Value.bool true :: Value.int IntKind.i64 0 :: Value.int IntKind.i64 1 :: Value.bool false :: Value.int IntKind.i64 0 :: Value.pointer (some ⟨ri, 0, none⟩) :: Value.int IntKind.i64 0 :: Value.bool false :: Value.int IntKind.i64 0 :: Value.pointer (some ⟨rp, 0, none⟩) :: Value.bool false :: Value.int IntKind.i64 0 :: Value.pointer (some ⟨rt, 0, none⟩) :: Value.int IntKind.u64 20 :: Value.int IntKind.i64 0 :: Value.pointer (some ⟨ru, 0, none⟩) :: Value.int IntKind.u64 0 :: Value.int IntKind.i64 121 :: Value.pointer (some ⟨rx, 0, none⟩) :: Value.pointer (some ⟨ry, 0, none⟩) :: Value.int IntKind.i64 0 :: Value.slice (some ⟨gq, 0, none⟩) 2 2 :: Value.int IntKind.i64 0 :: Value.pointer (some ⟨rm, 0, none⟩) :: o :: Value.int IntKind.i64 0 :: Value.slice (some ⟨gl1, 0, none⟩) 2 2 :: n :: Value.tuple #[Value.int IntKind.i64 1, Value.bool true, Value.int IntKind.i64 0] :: n :: Value.tuple #[Value.int IntKind.i64 1, Value.bool true, Value.int IntKind.i64 0] :: Value.int IntKind.i64 1 :: Value.bool true :: Value.int IntKind.i64 0 :: Value.tuple #[Value.int IntKind.i64 1, Value.bool false, Value.int IntKind.i64 0] :: n :: Value.tuple #[Value.int IntKind.i64 1, Value.bool false, Value.int IntKind.i64 0] :: Value.int IntKind.i64 1 :: Value.bool false :: Value.int IntKind.i64 0 :: Value.slice (some ⟨gl6, 0, none⟩) 2 2 :: Value.agg #[Value.bool true, Value.slice Ai 2 ci, Value.slice Bi 2 di] :: Value.pointer (some ⟨ri, 0, none⟩) :: Value.tuple #[Value.int IntKind.i64 0, Value.bool false, Value.int IntKind.i64 0] :: i :: Value.tuple #[Value.int IntKind.i64 0, Value.bool false, Value.int IntKind.i64 0] :: Value.int IntKind.i64 0 :: Value.bool false :: Value.int IntKind.i64 0 :: Value.tuple #[p, Value.bool false, Value.int IntKind.i64 0] :: n :: Value.tuple #[p, Value.bool false, Value.int IntKind.i64 0] :: p :: Value.bool false :: Value.int IntKind.i64 0 :: Value.tuple #[t, Value.int IntKind.u64 20, Value.int IntKind.i64 0] :: n :: Value.tuple #[t, Value.int IntKind.u64 20, Value.int IntKind.i64 0] :: t :: Value.int IntKind.u64 20 :: Value.int IntKind.i64 0 :: Value.tuple #[u, Value.int IntKind.u64 0, Value.int IntKind.i64 121] :: n :: Value.tuple #[u, Value.int IntKind.u64 0, Value.int IntKind.i64 121] :: u :: Value.int IntKind.u64 0 :: Value.int IntKind.i64 121 :: Value.tuple #[x, y, Value.int IntKind.i64 0] :: Value.slice (some ⟨gl16, 0, none⟩) 3 3 :: h :: Value.tuple #[x, y, Value.int IntKind.i64 0] :: x :: y :: Value.int IntKind.i64 0 :: Value.tuple #[Value.slice (some ⟨gq, 0, none⟩) 2 2, Value.int IntKind.i64 0] :: Value.slice (some ⟨gl20, 0, none⟩) 5 5 :: j1 :: Value.slice (some ⟨gl22, 0, none⟩) 4 4 :: j2 :: Value.tuple #[Value.slice (some ⟨gq, 0, none⟩) 2 2, Value.int IntKind.i64 0] :: Value.slice (some ⟨gq, 0, none⟩) 2 2 :: Value.int IntKind.i64 0 :: Value.tuple #[m, o, Value.int IntKind.i64 0] :: Value.slice (some ⟨gl25, 0, none⟩) 3 3 :: k :: Value.tuple #[m, o, Value.int IntKind.i64 0] :: m :: o :: Value.int IntKind.i64 0 :: Value.int IntKind.i64 0 :: Value.bool false :: Value.bool false :: Value.int IntKind.i64 1 :: Value.bool false :: Value.bool false :: Value.bool false :: Value.bool true :: Value.bool false :: Value.bool false :: Value.bool false :: Value.int IntKind.i64 1 :: Value.bool false :: Value.bool false :: Value.bool false :: Value.bool false :: Value.bool false :: Value.bool false :: Value.int IntKind.i64 0 :: Value.bool false :: Value.bool false :: Value.bool false :: Value.int IntKind.i64 0 :: Value.bool false :: Value.bool false :: Value.bool false :: Value.int IntKind.i64 0 :: Value.bool false :: Value.bool false :: Value.bool false :: Value.bool false :: Value.bool false :: Value.bool false :: p :: z126 :: z127 :: Value.bool true :: Value.bool false :: Value.bool false :: Value.bool false :: Value.int IntKind.i64 0 :: Value.bool false :: Value.bool false :: Value.bool false :: Value.int IntKind.u64 20 :: Value.bool false :: Value.bool false :: Value.bool false :: t :: z141 :: z142 :: Value.bool true :: Value.bool false :: Value.bool false :: Value.bool false :: Value.int IntKind.i64 121 :: Value.bool false :: Value.bool false :: (z 150) :: (z 151) :: (z 152) :: (z 153) :: z154 :: z155 :: (z 156) :: (z 157) :: (z 158) :: (z 159) :: z160 :: z161 :: (z 162) :: (z 163) :: (z 164) :: (z 165) :: (z 166) :: (z 167) :: (z 168) :: (z 169) :: (z 170) :: (z 171) :: (z 172) :: (z 173) :: (z 174) :: (z 175) :: (z 176) :: z177 :: z178 :: (z 179) :: (z 180) :: (z 181) :: (z 182) :: (z 183) :: (z 184) :: z185 :: z186 :: (z 187) :: (z 188) :: (z 189) :: (z 190) :: (z 191) :: (z 192) :: (z 193) :: (z 194) :: z195 :: z196 :: (z 197) :: (z 198) :: (z 199) :: (z 200) :: z201 :: (z 202) :: (z 203) :: [])), []⟩ ∧ Hid ((b 0 = true → (z 150) = Value.int IntKind.i64 0) ∧ (b 1 = true → (z 151) = .bool true) ∧ (b 2 = true → (z 152) = .bool true) ∧ (b 3 = true → (z 153) = x) ∧ (b 6 = true → (z 156) = .bool true) ∧ (b 7 = true → (z 157) = .bool true) ∧ (b 8 = true → (z 158) = .bool true) ∧ (b 9 = true → (z 159) = y) ∧ (b 12 = true → (z 162) = .bool true) ∧ (b 13 = true → (z 163) = .bool true) ∧ (b 14 = true → (z 164) = .bool true) ∧ (b 15 = true → (z 165) = Value.int IntKind.i64 0) ∧ (b 16 = true → (z 166) = .bool true) ∧ (b 17 = true → (z 167) = .bool true) ∧ (b 18 = true → (z 168) = .bool true) ∧ (b 19 = true → (z 169) = Value.slice (some ⟨gq, 0, none⟩) 2 2) ∧ (b 20 = true → (z 170) = .int .i64 2) ∧ (b 21 = true → (z 171) = .bool true) ∧ (b 22 = true → (z 172) = .bool true) ∧ (b 23 = true → (z 173) = .bool true) ∧ (b 24 = true → (z 174) = Value.slice (some ⟨gq, 0, none⟩) 2 2) ∧ (b 25 = true → (z 175) = .pointer (some ⟨gq, 0, none⟩)) ∧ (b 26 = true → (z 176) = .agg #[.bool true, .slice A5 5 c5, .slice B5 5 d5]) ∧ (b 29 = true → (z 179) = .bool true) ∧ (b 30 = true → (z 180) = .bool true) ∧ (b 31 = true → (z 181) = .bool true) ∧ (b 32 = true → (z 182) = Value.slice (some ⟨gq, 0, none⟩) 2 2) ∧ (b 33 = true → (z 183) = .pointer (some ⟨gq, 3, none⟩)) ∧ (b 34 = true → (z 184) = .agg #[.bool true, .slice A4 4 c4, .slice B4 4 d4]) ∧ (b 37 = true → (z 187) = .bool true) ∧ (b 38 = true → (z 188) = .bool true) ∧ (b 39 = true → (z 189) = .bool true) ∧ (b 40 = true → (z 190) = Value.int IntKind.i64 0) ∧ (b 41 = true → (z 191) = .bool true) ∧ (b 42 = true → (z 192) = .bool true) ∧ (b 43 = true → (z 193) = .bool true) ∧ (b 44 = true → (z 194) = m) ∧ (b 47 = true → (z 197) = .bool true) ∧ (b 48 = true → (z 198) = .bool true) ∧ (b 49 = true → (z 199) = .bool true) ∧ (b 50 = true → (z 200) = o) ∧ (b 52 = true → (z 202) = .bool true) ∧ (b 53 = true → (z 203) = .bool true) ∧ (b 54 = true → (z 0) = .bool true)) ∧ Hid (Below w29.heap.size w29 wy) ∧ Hid ((b 4 = true → Lit wy z154 2 [1, 2]) ∧ (b 10 = true → Lit wy z160 1 [3]) ∧ (b 27 = true → Lit wy z177 5 [1, 2, 3, 4, 5]) ∧ (b 35 = true → Lit wy z185 4 [6, 7, 8, 9]) ∧ (b 45 = true → Lit wy z195 1 [1]) ∧ (b 51 = true → Lit wy z201 2 [20, 30]) ∧ (b 5 = true → NodeV wy z155 true 2 [1, 2] [10, 20]) ∧ (b 11 = true → NodeV wy z161 true 1 [3] [30]) ∧ (b 28 = true → NodeV wy z178 true 5 [1, 2, 3, 4, 5] [10, 20, 30, 40, 50]) ∧ (b 36 = true → NodeV wy z186 true 4 [6, 7, 8, 9] [60, 70, 80, 90]) ∧ (b 46 = true → NodeV wy z196 true 1 [1] [10]))) (by kernel_rfl) (by kernel_rfl) ?startE ?stepsE ?doneE
    case startE =>
      intro b hb
      refine ⟨fun s => if s = 0 then Value.bool false else undef, undef, undef, undef, undef, undef, undef, undef, undef, undef, undef, undef, rfl, Lib.hid ⟨?_, ?_, ?_, ?_, ?_, ?_, ?_, ?_, ?_, ?_, ?_, ?_, ?_, ?_, ?_, ?_, ?_, ?_, ?_, ?_, ?_, ?_, ?_, ?_, ?_, ?_, ?_, ?_, ?_, ?_, ?_, ?_, ?_, ?_, ?_, ?_, ?_, ?_, ?_, ?_, ?_, ?_, ?_, ?_⟩, Lib.hid ((show Still w29 w29.drew from ⟨rfl, rfl, rfl, rfl⟩).below _), Lib.hid (⟨(fun e => by rw [hb _ (by decide)] at e; cases e), (fun e => by rw [hb _ (by decide)] at e; cases e), (fun e => by rw [hb _ (by decide)] at e; cases e), (fun e => by rw [hb _ (by decide)] at e; cases e), (fun e => by rw [hb _ (by decide)] at e; cases e), (fun e => by rw [hb _ (by decide)] at e; cases e), (fun e => by rw [hb _ (by decide)] at e; cases e), (fun e => by rw [hb _ (by decide)] at e; cases e), (fun e => by rw [hb _ (by decide)] at e; cases e), (fun e => by rw [hb _ (by decide)] at e; cases e), (fun e => by rw [hb _ (by decide)] at e; cases e)⟩)⟩
      all_goals (intro e; first | rfl | (rw [hb _ (by decide)] at e; cases e))
    case stepsE =>
      refine ⟨?_, ?_, ?_, ?_, ?_, ?_, ?_, ?_, ?_, ?_, ?_, ?_, ?_, ?_, ?_, ?_, ?_, ?_, ?_, ?_, ?_, ?_, ?_, ?_, ?_, ?_, ?_, ?_, ?_, ?_, ?_, ?_, ?_, ?_, ?_, ?_, ?_, ?_, ?_, ?_, ?_, ?_, ?_, ?_, ?_, ?_, ?_, ?_, ?_, ?_, ?_, ?_, ?_, ?_, ?_, trivial⟩
      · rintro b a wy hb hd ⟨z, z154, z155, z160, z161, z177, z178, z185, z186, z195, z196, z201, rfl, HV, HW, HX⟩ K hK
        clear hd
        go_simp
        have V := HV.out
        have V10 := V.2.2.2.2.2.2.2.2.2.2
        have V20 := V10.2.2.2.2.2.2.2.2.2.2
        have V30 := V20.2.2.2.2.2.2.2.2.2.2
        have V40 := V30.2.2.2.2.2.2.2.2.2.2
        exact hK _ _ ⟨fun s => if s = 150 then Value.int IntKind.i64 0 else z s, _, _, _, _, _, _, _, _, _, _, _, rfl, Lib.hid ⟨fun _ => rfl, V.2.1, V.2.2.1, V.2.2.2.1, V.2.2.2.2.1, V.2.2.2.2.2.1, V.2.2.2.2.2.2.1, V.2.2.2.2.2.2.2.1, V.2.2.2.2.2.2.2.2.1, V.2.2.2.2.2.2.2.2.2.1, V10.1, V10.2.1, V10.2.2.1, V10.2.2.2.1, V10.2.2.2.2.1, V10.2.2.2.2.2.1, V10.2.2.2.2.2.2.1, V10.2.2.2.2.2.2.2.1, V10.2.2.2.2.2.2.2.2.1, V10.2.2.2.2.2.2.2.2.2.1, V20.1, V20.2.1, V20.2.2.1, V20.2.2.2.1, V20.2.2.2.2.1, V20.2.2.2.2.2.1, V20.2.2.2.2.2.2.1, V20.2.2.2.2.2.2.2.1, V20.2.2.2.2.2.2.2.2.1, V20.2.2.2.2.2.2.2.2.2.1, V30.1, V30.2.1, V30.2.2.1, V30.2.2.2.1, V30.2.2.2.2.1, V30.2.2.2.2.2.1, V30.2.2.2.2.2.2.1, V30.2.2.2.2.2.2.2.1, V30.2.2.2.2.2.2.2.2.1, V30.2.2.2.2.2.2.2.2.2.1, V40.1, V40.2.1, V40.2.2.1, V40.2.2.2⟩, HW, HX⟩
      · rintro b a wy hb hd ⟨z, z154, z155, z160, z161, z177, z178, z185, z186, z195, z196, z201, rfl, HV, HW, HX⟩ K hK
        simp [Region.binds] at hd
        have e0 : (z 150) = Value.int IntKind.i64 0 := (HV.out.1) (by simp [hd])
        clear hd
        go_simp
        have V := HV.out
        have V10 := V.2.2.2.2.2.2.2.2.2.2
        have V20 := V10.2.2.2.2.2.2.2.2.2.2
        have V30 := V20.2.2.2.2.2.2.2.2.2.2
        have V40 := V30.2.2.2.2.2.2.2.2.2.2
        exact hK _ _ ⟨fun s => if s = 151 then .bool true else if s = 150 then Value.int IntKind.i64 0 else z s, _, _, _, _, _, _, _, _, _, _, _, rfl, Lib.hid ⟨fun _ => rfl, fun _ => rfl, V.2.2.1, V.2.2.2.1, V.2.2.2.2.1, V.2.2.2.2.2.1, V.2.2.2.2.2.2.1, V.2.2.2.2.2.2.2.1, V.2.2.2.2.2.2.2.2.1, V.2.2.2.2.2.2.2.2.2.1, V10.1, V10.2.1, V10.2.2.1, V10.2.2.2.1, V10.2.2.2.2.1, V10.2.2.2.2.2.1, V10.2.2.2.2.2.2.1, V10.2.2.2.2.2.2.2.1, V10.2.2.2.2.2.2.2.2.1, V10.2.2.2.2.2.2.2.2.2.1, V20.1, V20.2.1, V20.2.2.1, V20.2.2.2.1, V20.2.2.2.2.1, V20.2.2.2.2.2.1, V20.2.2.2.2.2.2.1, V20.2.2.2.2.2.2.2.1, V20.2.2.2.2.2.2.2.2.1, V20.2.2.2.2.2.2.2.2.2.1, V30.1, V30.2.1, V30.2.2.1, V30.2.2.2.1, V30.2.2.2.2.1, V30.2.2.2.2.2.1, V30.2.2.2.2.2.2.1, V30.2.2.2.2.2.2.2.1, V30.2.2.2.2.2.2.2.2.1, V30.2.2.2.2.2.2.2.2.2.1, V40.1, V40.2.1, V40.2.2.1, V40.2.2.2⟩, HW, HX⟩
      · rintro b a wy hb hd ⟨z, z154, z155, z160, z161, z177, z178, z185, z186, z195, z196, z201, rfl, HV, HW, HX⟩ K hK
        simp [Region.binds] at hd
        have e1 : (z 151) = .bool true := (HV.out.2.1) (by simp [hd])
        clear hd
        go_simp
        have V := HV.out
        have V10 := V.2.2.2.2.2.2.2.2.2.2
        have V20 := V10.2.2.2.2.2.2.2.2.2.2
        have V30 := V20.2.2.2.2.2.2.2.2.2.2
        have V40 := V30.2.2.2.2.2.2.2.2.2.2
        exact hK _ _ ⟨fun s => if s = 152 then .bool true else if s = 151 then .bool true else z s, _, _, _, _, _, _, _, _, _, _, _, rfl, Lib.hid ⟨V.1, fun _ => rfl, fun _ => rfl, V.2.2.2.1, V.2.2.2.2.1, V.2.2.2.2.2.1, V.2.2.2.2.2.2.1, V.2.2.2.2.2.2.2.1, V.2.2.2.2.2.2.2.2.1, V.2.2.2.2.2.2.2.2.2.1, V10.1, V10.2.1, V10.2.2.1, V10.2.2.2.1, V10.2.2.2.2.1, V10.2.2.2.2.2.1, V10.2.2.2.2.2.2.1, V10.2.2.2.2.2.2.2.1, V10.2.2.2.2.2.2.2.2.1, V10.2.2.2.2.2.2.2.2.2.1, V20.1, V20.2.1, V20.2.2.1, V20.2.2.2.1, V20.2.2.2.2.1, V20.2.2.2.2.2.1, V20.2.2.2.2.2.2.1, V20.2.2.2.2.2.2.2.1, V20.2.2.2.2.2.2.2.2.1, V20.2.2.2.2.2.2.2.2.2.1, V30.1, V30.2.1, V30.2.2.1, V30.2.2.2.1, V30.2.2.2.2.1, V30.2.2.2.2.2.1, V30.2.2.2.2.2.2.1, V30.2.2.2.2.2.2.2.1, V30.2.2.2.2.2.2.2.2.1, V30.2.2.2.2.2.2.2.2.2.1, V40.1, V40.2.1, V40.2.2.1, V40.2.2.2⟩, HW, HX⟩
      · rintro b a wy hb hd ⟨z, z154, z155, z160, z161, z177, z178, z185, z186, z195, z196, z201, rfl, HV, HW, HX⟩ K hK
        simp [Region.binds] at hd
        have e2 : (z 152) = .bool true := (HV.out.2.2.1) (by simp [hd])
        clear hd
        have hbx := Xx.out.below Xx.out.lt HW.out
        rw [e2]
        refine if_wanted (by rfl) (wp_load_d (.tmp 21) rfl rx _ rfl hbx ?_)
        have V := HV.out
        have V10 := V.2.2.2.2.2.2.2.2.2.2
        have V20 := V10.2.2.2.2.2.2.2.2.2.2
        have V30 := V20.2.2.2.2.2.2.2.2.2.2
        have V40 := V30.2.2.2.2.2.2.2.2.2.2
        exact hK _ _ ⟨fun s => if s = 153 then x else if s = 152 then .bool true else z s, _, _, _, _, _, _, _, _, _, _, _, rfl, Lib.hid ⟨V.1, V.2.1, fun _ => rfl, fun _ => rfl, V.2.2.2.2.1, V.2.2.2.2.2.1, V.2.2.2.2.2.2.1, V.2.2.2.2.2.2.2.1, V.2.2.2.2.2.2.2.2.1, V.2.2.2.2.2.2.2.2.2.1, V10.1, V10.2.1, V10.2.2.1, V10.2.2.2.1, V10.2.2.2.2.1, V10.2.2.2.2.2.1, V10.2.2.2.2.2.2.1, V10.2.2.2.2.2.2.2.1, V10.2.2.2.2.2.2.2.2.1, V10.2.2.2.2.2.2.2.2.2.1, V20.1, V20.2.1, V20.2.2.1, V20.2.2.2.1, V20.2.2.2.2.1, V20.2.2.2.2.2.1, V20.2.2.2.2.2.2.1, V20.2.2.2.2.2.2.2.1, V20.2.2.2.2.2.2.2.2.1, V20.2.2.2.2.2.2.2.2.2.1, V30.1, V30.2.1, V30.2.2.1, V30.2.2.2.1, V30.2.2.2.2.1, V30.2.2.2.2.2.1, V30.2.2.2.2.2.2.1, V30.2.2.2.2.2.2.2.1, V30.2.2.2.2.2.2.2.2.1, V30.2.2.2.2.2.2.2.2.2.1, V40.1, V40.2.1, V40.2.2.1, V40.2.2.2⟩, HW, HX⟩
      · rintro b a wy hb hd ⟨z, z154, z155, z160, z161, z177, z178, z185, z186, z195, z196, z201, rfl, HV, HW, HX⟩ K hK
        simp [Region.binds] at hd
        have e2 : (z 152) = .bool true := (HV.out.2.2.1) (by simp [hd])
        clear hd
        obtain ⟨x4, x10, x27, x35, x45, x51, x5, x11, x28, x36, x46⟩ := HX.out
        have kz := (Below.refl wy.heap.size wy).alloc (Nat.le_refl _) (.cells #[.int .u64 1, .int .u64 2] 25)
        have LN := lit_new wy [1, 2]
        go_simp
        have V := HV.out
        have V10 := V.2.2.2.2.2.2.2.2.2.2
        have V20 := V10.2.2.2.2.2.2.2.2.2.2
        have V30 := V20.2.2.2.2.2.2.2.2.2.2
        have V40 := V30.2.2.2.2.2.2.2.2.2.2
        exact hK _ _ ⟨fun s => if s = 152 then .bool true else z s, _, _, _, _, _, _, _, _, _, _, _, rfl, Lib.hid ⟨V.1, V.2.1, fun _ => rfl, V.2.2.2.1, V.2.2.2.2.1, V.2.2.2.2.2.1, V.2.2.2.2.2.2.1, V.2.2.2.2.2.2.2.1, V.2.2.2.2.2.2.2.2.1, V.2.2.2.2.2.2.2.2.2.1, V10.1, V10.2.1, V10.2.2.1, V10.2.2.2.1, V10.2.2.2.2.1, V10.2.2.2.2.2.1, V10.2.2.2.2.2.2.1, V10.2.2.2.2.2.2.2.1, V10.2.2.2.2.2.2.2.2.1, V10.2.2.2.2.2.2.2.2.2.1, V20.1, V20.2.1, V20.2.2.1, V20.2.2.2.1, V20.2.2.2.2.1, V20.2.2.2.2.2.1, V20.2.2.2.2.2.2.1, V20.2.2.2.2.2.2.2.1, V20.2.2.2.2.2.2.2.2.1, V20.2.2.2.2.2.2.2.2.2.1, V30.1, V30.2.1, V30.2.2.1, V30.2.2.2.1, V30.2.2.2.2.1, V30.2.2.2.2.2.1, V30.2.2.2.2.2.2.1, V30.2.2.2.2.2.2.2.1, V30.2.2.2.2.2.2.2.2.1, V30.2.2.2.2.2.2.2.2.2.1, V40.1, V40.2.1, V40.2.2.1, V40.2.2.2⟩, Lib.hid (HW.out.trans (kz.mono HW.out.size)), Lib.hid ⟨fun _ => ⟨wy.heap.size, rfl, LN, by simp⟩, fun e => (x10 e).far kz, fun e => (x27 e).far kz, fun e => (x35 e).far kz, fun e => (x45 e).far kz, fun e => (x51 e).far kz, fun e => (x5 e).far kz, fun e => (x11 e).far kz, fun e => (x28 e).far kz, fun e => (x36 e).far kz, fun e => (x46 e).far kz⟩⟩
      · rintro b a wy hb hd ⟨z, z154, z155, z160, z161, z177, z178, z185, z186, z195, z196, z201, rfl, HV, HW, HX⟩ K hK
        simp [Region.binds] at hd
        have e2 : (z 152) = .bool true := (HV.out.2.2.1) (by simp [hd])
        have dd4 : b 4 = true := by simp [hd]
        clear hd
        obtain ⟨x4, x10, x27, x35, x45, x51, x5, x11, x28, x36, x46⟩ := HX.out
        obtain ⟨gl, zz, LN, _⟩ := x4 dd4
        subst zz
        go_simp
        go_at_call 29
        refine (leaf_lit (gk := gl) (n := 2) (ks := [1, 2]) (vs := [10, 20]) rfl LN (by decide) (by decide) (by decide)).mono ?_
        rintro e wz ⟨v, rfl, nv, _, kz⟩
        try go_simp
        have V := HV.out
        have V10 := V.2.2.2.2.2.2.2.2.2.2
        have V20 := V10.2.2.2.2.2.2.2.2.2.2
        have V30 := V20.2.2.2.2.2.2.2.2.2.2
        have V40 := V30.2.2.2.2.2.2.2.2.2.2
        exact hK _ _ ⟨fun s => if s = 152 then .bool true else z s, _, _, _, _, _, _, _, _, _, _, _, rfl, Lib.hid ⟨V.1, V.2.1, fun _ => rfl, V.2.2.2.1, V.2.2.2.2.1, V.2.2.2.2.2.1, V.2.2.2.2.2.2.1, V.2.2.2.2.2.2.2.1, V.2.2.2.2.2.2.2.2.1, V.2.2.2.2.2.2.2.2.2.1, V10.1, V10.2.1, V10.2.2.1, V10.2.2.2.1, V10.2.2.2.2.1, V10.2.2.2.2.2.1, V10.2.2.2.2.2.2.1, V10.2.2.2.2.2.2.2.1, V10.2.2.2.2.2.2.2.2.1, V10.2.2.2.2.2.2.2.2.2.1, V20.1, V20.2.1, V20.2.2.1, V20.2.2.2.1, V20.2.2.2.2.1, V20.2.2.2.2.2.1, V20.2.2.2.2.2.2.1, V20.2.2.2.2.2.2.2.1, V20.2.2.2.2.2.2.2.2.1, V20.2.2.2.2.2.2.2.2.2.1, V30.1, V30.2.1, V30.2.2.1, V30.2.2.2.1, V30.2.2.2.2.1, V30.2.2.2.2.2.1, V30.2.2.2.2.2.2.1, V30.2.2.2.2.2.2.2.1, V30.2.2.2.2.2.2.2.2.1, V30.2.2.2.2.2.2.2.2.2.1, V40.1, V40.2.1, V40.2.2.1, V40.2.2.2⟩, Lib.hid (HW.out.trans (kz.mono HW.out.size)), Lib.hid ⟨fun e => (x4 e).far kz, fun e => (x10 e).far kz, fun e => (x27 e).far kz, fun e => (x35 e).far kz, fun e => (x45 e).far kz, fun e => (x51 e).far kz, fun _ => nv, fun e => (x11 e).far kz, fun e => (x28 e).far kz, fun e => (x36 e).far kz, fun e => (x46 e).far kz⟩⟩
      · rintro b a wy hb hd ⟨z, z154, z155, z160, z161, z177, z178, z185, z186, z195, z196, z201, rfl, HV, HW, HX⟩ K hK
        simp [Region.binds] at hd
        have e2 : (z 152) = .bool true := (HV.out.2.2.1) (by simp [hd])
        have e3 : (z 153) = x := (HV.out.2.2.2.1) (by simp [hd])
        have dd5 : b 5 = true := by simp [hd]
        clear hd
        obtain ⟨x4, x10, x27, x35, x45, x51, x5, x11, x28, x36, x46⟩ := HX.out
        have NF := Nx.out.far HW.out
        go_simp
        go_at_call 16
        refine (same_lit NF (x5 dd5) true (by decide)).mono ?_
        rintro e wz ⟨rfl, kz⟩
        try go_simp
        have V := HV.out
        have V10 := V.2.2.2.2.2.2.2.2.2.2
        have V20 := V10.2.2.2.2.2.2.2.2.2.2
        have V30 := V20.2.2.2.2.2.2.2.2.2.2
        have V40 := V30.2.2.2.2.2.2.2.2.2.2
        exact hK _ _ ⟨fun s => if s = 156 then .bool true else if s = 152 then .bool true else if s = 153 then x else z s, _, _, _, _, _, _, _, _, _, _, _, rfl, Lib.hid ⟨V.1, V.2.1, fun _ => rfl, fun _ => rfl, fun _ => rfl, V.2.2.2.2.2.1, V.2.2.2.2.2.2.1, V.2.2.2.2.2.2.2.1, V.2.2.2.2.2.2.2.2.1, V.2.2.2.2.2.2.2.2.2.1, V10.1, V10.2.1, V10.2.2.1, V10.2.2.2.1, V10.2.2.2.2.1, V10.2.2.2.2.2.1, V10.2.2.2.2.2.2.1, V10.2.2.2.2.2.2.2.1, V10.2.2.2.2.2.2.2.2.1, V10.2.2.2.2.2.2.2.2.2.1, V20.1, V20.2.1, V20.2.2.1, V20.2.2.2.1, V20.2.2.2.2.1, V20.2.2.2.2.2.1, V20.2.2.2.2.2.2.1, V20.2.2.2.2.2.2.2.1, V20.2.2.2.2.2.2.2.2.1, V20.2.2.2.2.2.2.2.2.2.1, V30.1, V30.2.1, V30.2.2.1, V30.2.2.2.1, V30.2.2.2.2.1, V30.2.2.2.2.2.1, V30.2.2.2.2.2.2.1, V30.2.2.2.2.2.2.2.1, V30.2.2.2.2.2.2.2.2.1, V30.2.2.2.2.2.2.2.2.2.1, V40.1, V40.2.1, V40.2.2.1, V40.2.2.2⟩, Lib.hid (HW.out.trans (kz.mono HW.out.size)), Lib.hid ⟨fun e => (x4 e).far kz, fun e => (x10 e).far kz, fun e => (x27 e).far kz, fun e => (x35 e).far kz, fun e => (x45 e).far kz, fun e => (x51 e).far kz, fun e => (x5 e).far kz, fun e => (x11 e).far kz, fun e => (x28 e).far kz, fun e => (x36 e).far kz, fun e => (x46 e).far kz⟩⟩
      · rintro b a wy hb hd ⟨z, z154, z155, z160, z161, z177, z178, z185, z186, z195, z196, z201, rfl, HV, HW, HX⟩ K hK
        simp [Region.binds] at hd
        have e2 : (z 152) = .bool true := (HV.out.2.2.1) (by simp [hd])
        have e6 : (z 156) = .bool true := (HV.out.2.2.2.2.1) (by simp [hd])
        clear hd
        go_simp
        have V := HV.out
        have V10 := V.2.2.2.2.2.2.2.2.2.2
        have V20 := V10.2.2.2.2.2.2.2.2.2.2
        have V30 := V20.2.2.2.2.2.2.2.2.2.2
        have V40 := V30.2.2.2.2.2.2.2.2.2.2
        exact hK _ _ ⟨fun s => if s = 157 then .bool true else if s = 152 then .bool true else if s = 156 then .bool true else z s, _, _, _, _, _, _, _, _, _, _, _, rfl, Lib.hid ⟨V.1, V.2.1, fun _ => rfl, V.2.2.2.1, fun _ => rfl, fun _ => rfl, V.2.2.2.2.2.2.1, V.2.2.2.2.2.2.2.1, V.2.2.2.2.2.2.2.2.1, V.2.2.2.2.2.2.2.2.2.1, V10.1, V10.2.1, V10.2.2.1, V10.2.2.2.1, V10.2.2.2.2.1, V10.2.2.2.2.2.1, V10.2.2.2.2.2.2.1, V10.2.2.2.2.2.2.2.1, V10.2.2.2.2.2.2.2.2.1, V10.2.2.2.2.2.2.2.2.2.1, V20.1, V20.2.1, V20.2.2.1, V20.2.2.2.1, V20.2.2.2.2.1, V20.2.2.2.2.2.1, V20.2.2.2.2.2.2.1, V20.2.2.2.2.2.2.2.1, V20.2.2.2.2.2.2.2.2.1, V20.2.2.2.2.2.2.2.2.2.1, V30.1, V30.2.1, V30.2.2.1, V30.2.2.2.1, V30.2.2.2.2.1, V30.2.2.2.2.2.1, V30.2.2.2.2.2.2.1, V30.2.2.2.2.2.2.2.1, V30.2.2.2.2.2.2.2.2.1, V30.2.2.2.2.2.2.2.2.2.1, V40.1, V40.2.1, V40.2.2.1, V40.2.2.2⟩, HW, HX⟩
      · rintro b a wy hb hd ⟨z, z154, z155, z160, z161, z177, z178, z185, z186, z195, z196, z201, rfl, HV, HW, HX⟩ K hK
        simp [Region.binds] at hd
        have e7 : (z 157) = .bool true := (HV.out.2.2.2.2.2.1) (by simp [hd])
        clear hd
        go_simp
        have V := HV.out
        have V10 := V.2.2.2.2.2.2.2.2.2.2
        have V20 := V10.2.2.2.2.2.2.2.2.2.2
        have V30 := V20.2.2.2.2.2.2.2.2.2.2
        have V40 := V30.2.2.2.2.2.2.2.2.2.2
        exact hK _ _ ⟨fun s => if s = 158 then .bool true else if s = 157 then .bool true else z s, _, _, _, _, _, _, _, _, _, _, _, rfl, Lib.hid ⟨V.1, V.2.1, V.2.2.1, V.2.2.2.1, V.2.2.2.2.1, fun _ => rfl, fun _ => rfl, V.2.2.2.2.2.2.2.1, V.2.2.2.2.2.2.2.2.1, V.2.2.2.2.2.2.2.2.2.1, V10.1, V10.2.1, V10.2.2.1, V10.2.2.2.1, V10.2.2.2.2.1, V10.2.2.2.2.2.1, V10.2.2.2.2.2.2.1, V10.2.2.2.2.2.2.2.1, V10.2.2.2.2.2.2.2.2.1, V10.2.2.2.2.2.2.2.2.2.1, V20.1, V20.2.1, V20.2.2.1, V20.2.2.2.1, V20.2.2.2.2.1, V20.2.2.2.2.2.1, V20.2.2.2.2.2.2.1, V20.2.2.2.2.2.2.2.1, V20.2.2.2.2.2.2.2.2.1, V20.2.2.2.2.2.2.2.2.2.1, V30.1, V30.2.1, V30.2.2.1, V30.2.2.2.1, V30.2.2.2.2.1, V30.2.2.2.2.2.1, V30.2.2.2.2.2.2.1, V30.2.2.2.2.2.2.2.1, V30.2.2.2.2.2.2.2.2.1, V30.2.2.2.2.2.2.2.2.2.1, V40.1, V40.2.1, V40.2.2.1, V40.2.2.2⟩, HW, HX⟩
      · rintro b a wy hb hd ⟨z, z154, z155, z160, z161, z177, z178, z185, z186, z195, z196, z201, rfl, HV, HW, HX⟩ K hK
        simp [Region.binds] at hd
        have e8 : (z 158) = .bool true := (HV.out.2.2.2.2.2.2.1) (by simp [hd])
        clear hd
        have hbx := Xy.out.below Xy.out.lt HW.out
        rw [e8]
        refine if_wanted (by rfl) (wp_load_d (.tmp 22) rfl ry _ rfl hbx ?_)
        have V := HV.out
        have V10 := V.2.2.2.2.2.2.2.2.2.2
        have V20 := V10.2.2.2.2.2.2.2.2.2.2
        have V30 := V20.2.2.2.2.2.2.2.2.2.2
        have V40 := V30.2.2.2.2.2.2.2.2.2.2
        exact hK _ _ ⟨fun s => if s = 159 then y else if s = 158 then .bool true else z s, _, _, _, _, _, _, _, _, _, _, _, rfl, Lib.hid ⟨V.1, V.2.1, V.2.2.1, V.2.2.2.1, V.2.2.2.2.1, V.2.2.2.2.2.1, fun _ => rfl, fun _ => rfl, V.2.2.2.2.2.2.2.2.1, V.2.2.2.2.2.2.2.2.2.1, V10.1, V10.2.1, V10.2.2.1, V10.2.2.2.1, V10.2.2.2.2.1, V10.2.2.2.2.2.1, V10.2.2.2.2.2.2.1, V10.2.2.2.2.2.2.2.1, V10.2.2.2.2.2.2.2.2.1, V10.2.2.2.2.2.2.2.2.2.1, V20.1, V20.2.1, V20.2.2.1, V20.2.2.2.1, V20.2.2.2.2.1, V20.2.2.2.2.2.1, V20.2.2.2.2.2.2.1, V20.2.2.2.2.2.2.2.1, V20.2.2.2.2.2.2.2.2.1, V20.2.2.2.2.2.2.2.2.2.1, V30.1, V30.2.1, V30.2.2.1, V30.2.2.2.1, V30.2.2.2.2.1, V30.2.2.2.2.2.1, V30.2.2.2.2.2.2.1, V30.2.2.2.2.2.2.2.1, V30.2.2.2.2.2.2.2.2.1, V30.2.2.2.2.2.2.2.2.2.1, V40.1, V40.2.1, V40.2.2.1, V40.2.2.2⟩, HW, HX⟩
      · rintro b a wy hb hd ⟨z, z154, z155, z160, z161, z177, z178, z185, z186, z195, z196, z201, rfl, HV, HW, HX⟩ K hK
        simp [Region.binds] at hd
        have e8 : (z 158) = .bool true := (HV.out.2.2.2.2.2.2.1) (by simp [hd])
        clear hd
        obtain ⟨x4, x10, x27, x35, x45, x51, x5, x11, x28, x36, x46⟩ := HX.out
        have kz := (Below.refl wy.heap.size wy).alloc (Nat.le_refl _) (.cells #[.int .u64 3] 25)
        have LN := lit_new wy [3]
        go_simp
        have V := HV.out
        have V10 := V.2.2.2.2.2.2.2.2.2.2
        have V20 := V10.2.2.2.2.2.2.2.2.2.2
        have V30 := V20.2.2.2.2.2.2.2.2.2.2
        have V40 := V30.2.2.2.2.2.2.2.2.2.2
        exact hK _ _ ⟨fun s => if s = 158 then .bool true else z s, _, _, _, _, _, _, _, _, _, _, _, rfl, Lib.hid ⟨V.1, V.2.1, V.2.2.1, V.2.2.2.1, V.2.2.2.2.1, V.2.2.2.2.2.1, fun _ => rfl, V.2.2.2.2.2.2.2.1, V.2.2.2.2.2.2.2.2.1, V.2.2.2.2.2.2.2.2.2.1, V10.1, V10.2.1, V10.2.2.1, V10.2.2.2.1, V10.2.2.2.2.1, V10.2.2.2.2.2.1, V10.2.2.2.2.2.2.1, V10.2.2.2.2.2.2.2.1, V10.2.2.2.2.2.2.2.2.1, V10.2.2.2.2.2.2.2.2.2.1, V20.1, V20.2.1, V20.2.2.1, V20.2.2.2.1, V20.2.2.2.2.1, V20.2.2.2.2.2.1, V20.2.2.2.2.2.2.1, V20.2.2.2.2.2.2.2.1, V20.2.2.2.2.2.2.2.2.1, V20.2.2.2.2.2.2.2.2.2.1, V30.1, V30.2.1, V30.2.2.1, V30.2.2.2.1, V30.2.2.2.2.1, V30.2.2.2.2.2.1, V30.2.2.2.2.2.2.1, V30.2.2.2.2.2.2.2.1, V30.2.2.2.2.2.2.2.2.1, V30.2.2.2.2.2.2.2.2.2.1, V40.1, V40.2.1, V40.2.2.1, V40.2.2.2⟩, Lib.hid (HW.out.trans (kz.mono HW.out.size)), Lib.hid ⟨fun e => (x4 e).far kz, fun _ => ⟨wy.heap.size, rfl, LN, by simp⟩, fun e => (x27 e).far kz, fun e => (x35 e).far kz, fun e => (x45 e).far kz, fun e => (x51 e).far kz, fun e => (x5 e).far kz, fun e => (x11 e).far kz, fun e => (x28 e).far kz, fun e => (x36 e).far kz, fun e => (x46 e).far kz⟩⟩
      · rintro b a wy hb hd ⟨z, z154, z155, z160, z161, z177, z178, z185, z186, z195, z196, z201, rfl, HV, HW, HX⟩ K hK
        simp [Region.binds] at hd
        have e8 : (z 158) = .bool true := (HV.out.2.2.2.2.2.2.1) (by simp [hd])
        have dd10 : b 10 = true := by simp [hd]
        clear hd
        obtain ⟨x4, x10, x27, x35, x45, x51, x5, x11, x28, x36, x46⟩ := HX.out
        obtain ⟨gl, zz, LN, _⟩ := x10 dd10
        subst zz
        go_simp
        go_at_call 29
        refine (leaf_lit (gk := gl) (n := 1) (ks := [3]) (vs := [30]) rfl LN (by decide) (by decide) (by decide)).mono ?_
        rintro e wz ⟨v, rfl, nv, _, kz⟩
        try go_simp
        have V := HV.out
        have V10 := V.2.2.2.2.2.2.2.2.2.2
        have V20 := V10.2.2.2.2.2.2.2.2.2.2
        have V30 := V20.2.2.2.2.2.2.2.2.2.2
        have V40 := V30.2.2.2.2.2.2.2.2.2.2
        exact hK _ _ ⟨fun s => if s = 158 then .bool true else z s, _, _, _, _, _, _, _, _, _, _, _, rfl, Lib.hid ⟨V.1, V.2.1, V.2.2.1, V.2.2.2.1, V.2.2.2.2.1, V.2.2.2.2.2.1, fun _ => rfl, V.2.2.2.2.2.2.2.1, V.2.2.2.2.2.2.2.2.1, V.2.2.2.2.2.2.2.2.2.1, V10.1, V10.2.1, V10.2.2.1, V10.2.2.2.1, V10.2.2.2.2.1, V10.2.2.2.2.2.1, V10.2.2.2.2.2.2.1, V10.2.2.2.2.2.2.2.1, V10.2.2.2.2.2.2.2.2.1, V10.2.2.2.2.2.2.2.2.2.1, V20.1, V20.2.1, V20.2.2.1, V20.2.2.2.1, V20.2.2.2.2.1, V20.2.2.2.2.2.1, V20.2.2.2.2.2.2.1, V20.2.2.2.2.2.2.2.1, V20.2.2.2.2.2.2.2.2.1, V20.2.2.2.2.2.2.2.2.2.1, V30.1, V30.2.1, V30.2.2.1, V30.2.2.2.1, V30.2.2.2.2.1, V30.2.2.2.2.2.1, V30.2.2.2.2.2.2.1, V30.2.2.2.2.2.2.2.1, V30.2.2.2.2.2.2.2.2.1, V30.2.2.2.2.2.2.2.2.2.1, V40.1, V40.2.1, V40.2.2.1, V40.2.2.2⟩, Lib.hid (HW.out.trans (kz.mono HW.out.size)), Lib.hid ⟨fun e => (x4 e).far kz, fun e => (x10 e).far kz, fun e => (x27 e).far kz, fun e => (x35 e).far kz, fun e => (x45 e).far kz, fun e => (x51 e).far kz, fun e => (x5 e).far kz, fun _ => nv, fun e => (x28 e).far kz, fun e => (x36 e).far kz, fun e => (x46 e).far kz⟩⟩
      · rintro b a wy hb hd ⟨z, z154, z155, z160, z161, z177, z178, z185, z186, z195, z196, z201, rfl, HV, HW, HX⟩ K hK
        simp [Region.binds] at hd
        have e8 : (z 158) = .bool true := (HV.out.2.2.2.2.2.2.1) (by simp [hd])
        have e9 : (z 159) = y := (HV.out.2.2.2.2.2.2.2.1) (by simp [hd])
        have dd11 : b 11 = true := by simp [hd]
        clear hd
        obtain ⟨x4, x10, x27, x35, x45, x51, x5, x11, x28, x36, x46⟩ := HX.out
        have NF := Ny.out.far HW.out
        go_simp
        go_at_call 16
        refine (same_lit NF (x11 dd11) true (by decide)).mono ?_
        rintro e wz ⟨rfl, kz⟩
        try go_simp
        have V := HV.out
        have V10 := V.2.2.2.2.2.2.2.2.2.2
        have V20 := V10.2.2.2.2.2.2.2.2.2.2
        have V30 := V20.2.2.2.2.2.2.2.2.2.2
        have V40 := V30.2.2.2.2.2.2.2.2.2.2
        exact hK _ _ ⟨fun s => if s = 162 then .bool true else if s = 158 then .bool true else if s = 159 then y else z s, _, _, _, _, _, _, _, _, _, _, _, rfl, Lib.hid ⟨V.1, V.2.1, V.2.2.1, V.2.2.2.1, V.2.2.2.2.1, V.2.2.2.2.2.1, fun _ => rfl, fun _ => rfl, fun _ => rfl, V.2.2.2.2.2.2.2.2.2.1, V10.1, V10.2.1, V10.2.2.1, V10.2.2.2.1, V10.2.2.2.2.1, V10.2.2.2.2.2.1, V10.2.2.2.2.2.2.1, V10.2.2.2.2.2.2.2.1, V10.2.2.2.2.2.2.2.2.1, V10.2.2.2.2.2.2.2.2.2.1, V20.1, V20.2.1, V20.2.2.1, V20.2.2.2.1, V20.2.2.2.2.1, V20.2.2.2.2.2.1, V20.2.2.2.2.2.2.1, V20.2.2.2.2.2.2.2.1, V20.2.2.2.2.2.2.2.2.1, V20.2.2.2.2.2.2.2.2.2.1, V30.1, V30.2.1, V30.2.2.1, V30.2.2.2.1, V30.2.2.2.2.1, V30.2.2.2.2.2.1, V30.2.2.2.2.2.2.1, V30.2.2.2.2.2.2.2.1, V30.2.2.2.2.2.2.2.2.1, V30.2.2.2.2.2.2.2.2.2.1, V40.1, V40.2.1, V40.2.2.1, V40.2.2.2⟩, Lib.hid (HW.out.trans (kz.mono HW.out.size)), Lib.hid ⟨fun e => (x4 e).far kz, fun e => (x10 e).far kz, fun e => (x27 e).far kz, fun e => (x35 e).far kz, fun e => (x45 e).far kz, fun e => (x51 e).far kz, fun e => (x5 e).far kz, fun e => (x11 e).far kz, fun e => (x28 e).far kz, fun e => (x36 e).far kz, fun e => (x46 e).far kz⟩⟩
      · rintro b a wy hb hd ⟨z, z154, z155, z160, z161, z177, z178, z185, z186, z195, z196, z201, rfl, HV, HW, HX⟩ K hK
        simp [Region.binds] at hd
        have e8 : (z 158) = .bool true := (HV.out.2.2.2.2.2.2.1) (by simp [hd])
        have e12 : (z 162) = .bool true := (HV.out.2.2.2.2.2.2.2.2.1) (by simp [hd])
        clear hd
        go_simp
        have V := HV.out
        have V10 := V.2.2.2.2.2.2.2.2.2.2
        have V20 := V10.2.2.2.2.2.2.2.2.2.2
        have V30 := V20.2.2.2.2.2.2.2.2.2.2
        have V40 := V30.2.2.2.2.2.2.2.2.2.2
        exact hK _ _ ⟨fun s => if s = 163 then .bool true else if s = 158 then .bool true else if s = 162 then .bool true else z s, _, _, _, _, _, _, _, _, _, _, _, rfl, Lib.hid ⟨V.1, V.2.1, V.2.2.1, V.2.2.2.1, V.2.2.2.2.1, V.2.2.2.2.2.1, fun _ => rfl, V.2.2.2.2.2.2.2.1, fun _ => rfl, fun _ => rfl, V10.1, V10.2.1, V10.2.2.1, V10.2.2.2.1, V10.2.2.2.2.1, V10.2.2.2.2.2.1, V10.2.2.2.2.2.2.1, V10.2.2.2.2.2.2.2.1, V10.2.2.2.2.2.2.2.2.1, V10.2.2.2.2.2.2.2.2.2.1, V20.1, V20.2.1, V20.2.2.1, V20.2.2.2.1, V20.2.2.2.2.1, V20.2.2.2.2.2.1, V20.2.2.2.2.2.2.1, V20.2.2.2.2.2.2.2.1, V20.2.2.2.2.2.2.2.2.1, V20.2.2.2.2.2.2.2.2.2.1, V30.1, V30.2.1, V30.2.2.1, V30.2.2.2.1, V30.2.2.2.2.1, V30.2.2.2.2.2.1, V30.2.2.2.2.2.2.1, V30.2.2.2.2.2.2.2.1, V30.2.2.2.2.2.2.2.2.1, V30.2.2.2.2.2.2.2.2.2.1, V40.1, V40.2.1, V40.2.2.1, V40.2.2.2⟩, HW, HX⟩
      · rintro b a wy hb hd ⟨z, z154, z155, z160, z161, z177, z178, z185, z186, z195, z196, z201, rfl, HV, HW, HX⟩ K hK
        simp [Region.binds] at hd
        have e13 : (z 163) = .bool true := (HV.out.2.2.2.2.2.2.2.2.2.1) (by simp [hd])
        clear hd
        go_simp
        have V := HV.out
        have V10 := V.2.2.2.2.2.2.2.2.2.2
        have V20 := V10.2.2.2.2.2.2.2.2.2.2
        have V30 := V20.2.2.2.2.2.2.2.2.2.2
        have V40 := V30.2.2.2.2.2.2.2.2.2.2
        exact hK _ _ ⟨fun s => if s = 164 then .bool true else if s = 163 then .bool true else z s, _, _, _, _, _, _, _, _, _, _, _, rfl, Lib.hid ⟨V.1, V.2.1, V.2.2.1, V.2.2.2.1, V.2.2.2.2.1, V.2.2.2.2.2.1, V.2.2.2.2.2.2.1, V.2.2.2.2.2.2.2.1, V.2.2.2.2.2.2.2.2.1, fun _ => rfl, fun _ => rfl, V10.2.1, V10.2.2.1, V10.2.2.2.1, V10.2.2.2.2.1, V10.2.2.2.2.2.1, V10.2.2.2.2.2.2.1, V10.2.2.2.2.2.2.2.1, V10.2.2.2.2.2.2.2.2.1, V10.2.2.2.2.2.2.2.2.2.1, V20.1, V20.2.1, V20.2.2.1, V20.2.2.2.1, V20.2.2.2.2.1, V20.2.2.2.2.2.1, V20.2.2.2.2.2.2.1, V20.2.2.2.2.2.2.2.1, V20.2.2.2.2.2.2.2.2.1, V20.2.2.2.2.2.2.2.2.2.1, V30.1, V30.2.1, V30.2.2.1, V30.2.2.2.1, V30.2.2.2.2.1, V30.2.2.2.2.2.1, V30.2.2.2.2.2.2.1, V30.2.2.2.2.2.2.2.1, V30.2.2.2.2.2.2.2.2.1, V30.2.2.2.2.2.2.2.2.2.1, V40.1, V40.2.1, V40.2.2.1, V40.2.2.2⟩, HW, HX⟩
      · rintro b a wy hb hd ⟨z, z154, z155, z160, z161, z177, z178, z185, z186, z195, z196, z201, rfl, HV, HW, HX⟩ K hK
        simp [Region.binds] at hd
        have e14 : (z 164) = .bool true := (HV.out.2.2.2.2.2.2.2.2.2.2.1) (by simp [hd])
        clear hd
        go_simp
        have V := HV.out
        have V10 := V.2.2.2.2.2.2.2.2.2.2
        have V20 := V10.2.2.2.2.2.2.2.2.2.2
        have V30 := V20.2.2.2.2.2.2.2.2.2.2
        have V40 := V30.2.2.2.2.2.2.2.2.2.2
        exact hK _ _ ⟨fun s => if s = 165 then Value.int IntKind.i64 0 else if s = 164 then .bool true else z s, _, _, _, _, _, _, _, _, _, _, _, rfl, Lib.hid ⟨V.1, V.2.1, V.2.2.1, V.2.2.2.1, V.2.2.2.2.1, V.2.2.2.2.2.1, V.2.2.2.2.2.2.1, V.2.2.2.2.2.2.2.1, V.2.2.2.2.2.2.2.2.1, V.2.2.2.2.2.2.2.2.2.1, fun _ => rfl, fun _ => rfl, V10.2.2.1, V10.2.2.2.1, V10.2.2.2.2.1, V10.2.2.2.2.2.1, V10.2.2.2.2.2.2.1, V10.2.2.2.2.2.2.2.1, V10.2.2.2.2.2.2.2.2.1, V10.2.2.2.2.2.2.2.2.2.1, V20.1, V20.2.1, V20.2.2.1, V20.2.2.2.1, V20.2.2.2.2.1, V20.2.2.2.2.2.1, V20.2.2.2.2.2.2.1, V20.2.2.2.2.2.2.2.1, V20.2.2.2.2.2.2.2.2.1, V20.2.2.2.2.2.2.2.2.2.1, V30.1, V30.2.1, V30.2.2.1, V30.2.2.2.1, V30.2.2.2.2.1, V30.2.2.2.2.2.1, V30.2.2.2.2.2.2.1, V30.2.2.2.2.2.2.2.1, V30.2.2.2.2.2.2.2.2.1, V30.2.2.2.2.2.2.2.2.2.1, V40.1, V40.2.1, V40.2.2.1, V40.2.2.2⟩, HW, HX⟩
      · rintro b a wy hb hd ⟨z, z154, z155, z160, z161, z177, z178, z185, z186, z195, z196, z201, rfl, HV, HW, HX⟩ K hK
        simp [Region.binds] at hd
        have e14 : (z 164) = .bool true := (HV.out.2.2.2.2.2.2.2.2.2.2.1) (by simp [hd])
        have e15 : (z 165) = Value.int IntKind.i64 0 := (HV.out.2.2.2.2.2.2.2.2.2.2.2.1) (by simp [hd])
        clear hd
        go_simp
        have V := HV.out
        have V10 := V.2.2.2.2.2.2.2.2.2.2
        have V20 := V10.2.2.2.2.2.2.2.2.2.2
        have V30 := V20.2.2.2.2.2.2.2.2.2.2
        have V40 := V30.2.2.2.2.2.2.2.2.2.2
        exact hK _ _ ⟨fun s => if s = 166 then .bool true else if s = 164 then .bool true else if s = 165 then Value.int IntKind.i64 0 else z s, _, _, _, _, _, _, _, _, _, _, _, rfl, Lib.hid ⟨V.1, V.2.1, V.2.2.1, V.2.2.2.1, V.2.2.2.2.1, V.2.2.2.2.2.1, V.2.2.2.2.2.2.1, V.2.2.2.2.2.2.2.1, V.2.2.2.2.2.2.2.2.1, V.2.2.2.2.2.2.2.2.2.1, fun _ => rfl, fun _ => rfl, fun _ => rfl, V10.2.2.2.1, V10.2.2.2.2.1, V10.2.2.2.2.2.1, V10.2.2.2.2.2.2.1, V10.2.2.2.2.2.2.2.1, V10.2.2.2.2.2.2.2.2.1, V10.2.2.2.2.2.2.2.2.2.1, V20.1, V20.2.1, V20.2.2.1, V20.2.2.2.1, V20.2.2.2.2.1, V20.2.2.2.2.2.1, V20.2.2.2.2.2.2.1, V20.2.2.2.2.2.2.2.1, V20.2.2.2.2.2.2.2.2.1, V20.2.2.2.2.2.2.2.2.2.1, V30.1, V30.2.1, V30.2.2.1, V30.2.2.2.1, V30.2.2.2.2.1, V30.2.2.2.2.2.1, V30.2.2.2.2.2.2.1, V30.2.2.2.2.2.2.2.1, V30.2.2.2.2.2.2.2.2.1, V30.2.2.2.2.2.2.2.2.2.1, V40.1, V40.2.1, V40.2.2.1, V40.2.2.2⟩, HW, HX⟩
      · rintro b a wy hb hd ⟨z, z154, z155, z160, z161, z177, z178, z185, z186, z195, z196, z201, rfl, HV, HW, HX⟩ K hK
        simp [Region.binds] at hd
        have e14 : (z 164) = .bool true := (HV.out.2.2.2.2.2.2.2.2.2.2.1) (by simp [hd])
        have e16 : (z 166) = .bool true := (HV.out.2.2.2.2.2.2.2.2.2.2.2.2.1) (by simp [hd])
        clear hd
        go_simp
        have V := HV.out
        have V10 := V.2.2.2.2.2.2.2.2.2.2
        have V20 := V10.2.2.2.2.2.2.2.2.2.2
        have V30 := V20.2.2.2.2.2.2.2.2.2.2
        have V40 := V30.2.2.2.2.2.2.2.2.2.2
        exact hK _ _ ⟨fun s => if s = 167 then .bool true else if s = 164 then .bool true else if s = 166 then .bool true else z s, _, _, _, _, _, _, _, _, _, _, _, rfl, Lib.hid ⟨V.1, V.2.1, V.2.2.1, V.2.2.2.1, V.2.2.2.2.1, V.2.2.2.2.2.1, V.2.2.2.2.2.2.1, V.2.2.2.2.2.2.2.1, V.2.2.2.2.2.2.2.2.1, V.2.2.2.2.2.2.2.2.2.1, fun _ => rfl, V10.2.1, fun _ => rfl, fun _ => rfl, V10.2.2.2.2.1, V10.2.2.2.2.2.1, V10.2.2.2.2.2.2.1, V10.2.2.2.2.2.2.2.1, V10.2.2.2.2.2.2.2.2.1, V10.2.2.2.2.2.2.2.2.2.1, V20.1, V20.2.1, V20.2.2.1, V20.2.2.2.1, V20.2.2.2.2.1, V20.2.2.2.2.2.1, V20.2.2.2.2.2.2.1, V20.2.2.2.2.2.2.2.1, V20.2.2.2.2.2.2.2.2.1, V20.2.2.2.2.2.2.2.2.2.1, V30.1, V30.2.1, V30.2.2.1, V30.2.2.2.1, V30.2.2.2.2.1, V30.2.2.2.2.2.1, V30.2.2.2.2.2.2.1, V30.2.2.2.2.2.2.2.1, V30.2.2.2.2.2.2.2.2.1, V30.2.2.2.2.2.2.2.2.2.1, V40.1, V40.2.1, V40.2.2.1, V40.2.2.2⟩, HW, HX⟩
      · rintro b a wy hb hd ⟨z, z154, z155, z160, z161, z177, z178, z185, z186, z195, z196, z201, rfl, HV, HW, HX⟩ K hK
        simp [Region.binds] at hd
        have e17 : (z 167) = .bool true := (HV.out.2.2.2.2.2.2.2.2.2.2.2.2.2.1) (by simp [hd])
        clear hd
        go_simp
        have V := HV.out
        have V10 := V.2.2.2.2.2.2.2.2.2.2
        have V20 := V10.2.2.2.2.2.2.2.2.2.2
        have V30 := V20.2.2.2.2.2.2.2.2.2.2
        have V40 := V30.2.2.2.2.2.2.2.2.2.2
        exact hK _ _ ⟨fun s => if s = 168 then .bool true else if s = 167 then .bool true else z s, _, _, _, _, _, _, _, _, _, _, _, rfl, Lib.hid ⟨V.1, V.2.1, V.2.2.1, V.2.2.2.1, V.2.2.2.2.1, V.2.2.2.2.2.1, V.2.2.2.2.2.2.1, V.2.2.2.2.2.2.2.1, V.2.2.2.2.2.2.2.2.1, V.2.2.2.2.2.2.2.2.2.1, V10.1, V10.2.1, V10.2.2.1, fun _ => rfl, fun _ => rfl, V10.2.2.2.2.2.1, V10.2.2.2.2.2.2.1, V10.2.2.2.2.2.2.2.1, V10.2.2.2.2.2.2.2.2.1, V10.2.2.2.2.2.2.2.2.2.1, V20.1, V20.2.1, V20.2.2.1, V20.2.2.2.1, V20.2.2.2.2.1, V20.2.2.2.2.2.1, V20.2.2.2.2.2.2.1, V20.2.2.2.2.2.2.2.1, V20.2.2.2.2.2.2.2.2.1, V20.2.2.2.2.2.2.2.2.2.1, V30.1, V30.2.1, V30.2.2.1, V30.2.2.2.1, V30.2.2.2.2.1, V30.2.2.2.2.2.1, V30.2.2.2.2.2.2.1, V30.2.2.2.2.2.2.2.1, V30.2.2.2.2.2.2.2.2.1, V30.2.2.2.2.2.2.2.2.2.1, V40.1, V40.2.1, V40.2.2.1, V40.2.2.2⟩, HW, HX⟩
      · rintro b a wy hb hd ⟨z, z154, z155, z160, z161, z177, z178, z185, z186, z195, z196, z201, rfl, HV, HW, HX⟩ K hK
        simp [Region.binds] at hd
        have e18 : (z 168) = .bool true := (HV.out.2.2.2.2.2.2.2.2.2.2.2.2.2.2.1) (by simp [hd])
        clear hd
        go_simp
        have V := HV.out
        have V10 := V.2.2.2.2.2.2.2.2.2.2
        have V20 := V10.2.2.2.2.2.2.2.2.2.2
        have V30 := V20.2.2.2.2.2.2.2.2.2.2
        have V40 := V30.2.2.2.2.2.2.2.2.2.2
        exact hK _ _ ⟨fun s => if s = 169 then Value.slice (some ⟨gq, 0, none⟩) 2 2 else if s = 168 then .bool true else z s, _, _, _, _, _, _, _, _, _, _, _, rfl, Lib.hid ⟨V.1, V.2.1, V.2.2.1, V.2.2.2.1, V.2.2.2.2.1, V.2.2.2.2.2.1, V.2.2.2.2.2.2.1, V.2.2.2.2.2.2.2.1, V.2.2.2.2.2.2.2.2.1, V.2.2.2.2.2.2.2.2.2.1, V10.1, V10.2.1, V10.2.2.1, V10.2.2.2.1, fun _ => rfl, fun _ => rfl, V10.2.2.2.2.2.2.1, V10.2.2.2.2.2.2.2.1, V10.2.2.2.2.2.2.2.2.1, V10.2.2.2.2.2.2.2.2.2.1, V20.1, V20.2.1, V20.2.2.1, V20.2.2.2.1, V20.2.2.2.2.1, V20.2.2.2.2.2.1, V20.2.2.2.2.2.2.1, V20.2.2.2.2.2.2.2.1, V20.2.2.2.2.2.2.2.2.1, V20.2.2.2.2.2.2.2.2.2.1, V30.1, V30.2.1, V30.2.2.1, V30.2.2.2.1, V30.2.2.2.2.1, V30.2.2.2.2.2.1, V30.2.2.2.2.2.2.1, V30.2.2.2.2.2.2.2.1, V30.2.2.2.2.2.2.2.2.1, V30.2.2.2.2.2.2.2.2.2.1, V40.1, V40.2.1, V40.2.2.1, V40.2.2.2⟩, HW, HX⟩
      · rintro b a wy hb hd ⟨z, z154, z155, z160, z161, z177, z178, z185, z186, z195, z196, z201, rfl, HV, HW, HX⟩ K hK
        simp [Region.binds] at hd
        have e18 : (z 168) = .bool true := (HV.out.2.2.2.2.2.2.2.2.2.2.2.2.2.2.1) (by simp [hd])
        have e19 : (z 169) = Value.slice (some ⟨gq, 0, none⟩) 2 2 := (HV.out.2.2.2.2.2.2.2.2.2.2.2.2.2.2.2.1) (by simp [hd])
        clear hd
        go_simp
        have V := HV.out
        have V10 := V.2.2.2.2.2.2.2.2.2.2
        have V20 := V10.2.2.2.2.2.2.2.2.2.2
        have V30 := V20.2.2.2.2.2.2.2.2.2.2
        have V40 := V30.2.2.2.2.2.2.2.2.2.2
        exact hK _ _ ⟨fun s => if s = 170 then .int .i64 2 else if s = 168 then .bool true else if s = 169 then Value.slice (some ⟨gq, 0, none⟩) 2 2 else z s, _, _, _, _, _, _, _, _, _, _, _, rfl, Lib.hid ⟨V.1, V.2.1, V.2.2.1, V.2.2.2.1, V.2.2.2.2.1, V.2.2.2.2.2.1, V.2.2.2.2.2.2.1, V.2.2.2.2.2.2.2.1, V.2.2.2.2.2.2.2.2.1, V.2.2.2.2.2.2.2.2.2.1, V10.1, V10.2.1, V10.2.2.1, V10.2.2.2.1, fun _ => rfl, fun _ => rfl, fun _ => rfl, V10.2.2.2.2.2.2.2.1, V10.2.2.2.2.2.2.2.2.1, V10.2.2.2.2.2.2.2.2.2.1, V20.1, V20.2.1, V20.2.2.1, V20.2.2.2.1, V20.2.2.2.2.1, V20.2.2.2.2.2.1, V20.2.2.2.2.2.2.1, V20.2.2.2.2.2.2.2.1, V20.2.2.2.2.2.2.2.2.1, V20.2.2.2.2.2.2.2.2.2.1, V30.1, V30.2.1, V30.2.2.1, V30.2.2.2.1, V30.2.2.2.2.1, V30.2.2.2.2.2.1, V30.2.2.2.2.2.2.1, V30.2.2.2.2.2.2.2.1, V30.2.2.2.2.2.2.2.2.1, V30.2.2.2.2.2.2.2.2.2.1, V40.1, V40.2.1, V40.2.2.1, V40.2.2.2⟩, HW, HX⟩
      · rintro b a wy hb hd ⟨z, z154, z155, z160, z161, z177, z178, z185, z186, z195, z196, z201, rfl, HV, HW, HX⟩ K hK
        simp [Region.binds] at hd
        have e18 : (z 168) = .bool true := (HV.out.2.2.2.2.2.2.2.2.2.2.2.2.2.2.1) (by simp [hd])
        have e20 : (z 170) = .int .i64 2 := (HV.out.2.2.2.2.2.2.2.2.2.2.2.2.2.2.2.2.1) (by simp [hd])
        clear hd
        go_simp
        have V := HV.out
        have V10 := V.2.2.2.2.2.2.2.2.2.2
        have V20 := V10.2.2.2.2.2.2.2.2.2.2
        have V30 := V20.2.2.2.2.2.2.2.2.2.2
        have V40 := V30.2.2.2.2.2.2.2.2.2.2
        exact hK _ _ ⟨fun s => if s = 171 then .bool true else if s = 168 then .bool true else if s = 170 then .int .i64 2 else z s, _, _, _, _, _, _, _, _, _, _, _, rfl, Lib.hid ⟨V.1, V.2.1, V.2.2.1, V.2.2.2.1, V.2.2.2.2.1, V.2.2.2.2.2.1, V.2.2.2.2.2.2.1, V.2.2.2.2.2.2.2.1, V.2.2.2.2.2.2.2.2.1, V.2.2.2.2.2.2.2.2.2.1, V10.1, V10.2.1, V10.2.2.1, V10.2.2.2.1, fun _ => rfl, V10.2.2.2.2.2.1, fun _ => rfl, fun _ => rfl, V10.2.2.2.2.2.2.2.2.1, V10.2.2.2.2.2.2.2.2.2.1, V20.1, V20.2.1, V20.2.2.1, V20.2.2.2.1, V20.2.2.2.2.1, V20.2.2.2.2.2.1, V20.2.2.2.2.2.2.1, V20.2.2.2.2.2.2.2.1, V20.2.2.2.2.2.2.2.2.1, V20.2.2.2.2.2.2.2.2.2.1, V30.1, V30.2.1, V30.2.2.1, V30.2.2.2.1, V30.2.2.2.2.1, V30.2.2.2.2.2.1, V30.2.2.2.2.2.2.1, V30.2.2.2.2.2.2.2.1, V30.2.2.2.2.2.2.2.2.1, V30.2.2.2.2.2.2.2.2.2.1, V40.1, V40.2.1, V40.2.2.1, V40.2.2.2⟩, HW, HX⟩
      · rintro b a wy hb hd ⟨z, z154, z155, z160, z161, z177, z178, z185, z186, z195, z196, z201, rfl, HV, HW, HX⟩ K hK
        simp [Region.binds] at hd
        have e18 : (z 168) = .bool true := (HV.out.2.2.2.2.2.2.2.2.2.2.2.2.2.2.1) (by simp [hd])
        have e21 : (z 171) = .bool true := (HV.out.2.2.2.2.2.2.2.2.2.2.2.2.2.2.2.2.2.1) (by simp [hd])
        clear hd
        go_simp
        have V := HV.out
        have V10 := V.2.2.2.2.2.2.2.2.2.2
        have V20 := V10.2.2.2.2.2.2.2.2.2.2
        have V30 := V20.2.2.2.2.2.2.2.2.2.2
        have V40 := V30.2.2.2.2.2.2.2.2.2.2
        exact hK _ _ ⟨fun s => if s = 172 then .bool true else if s = 168 then .bool true else if s = 171 then .bool true else z s, _, _, _, _, _, _, _, _, _, _, _, rfl, Lib.hid ⟨V.1, V.2.1, V.2.2.1, V.2.2.2.1, V.2.2.2.2.1, V.2.2.2.2.2.1, V.2.2.2.2.2.2.1, V.2.2.2.2.2.2.2.1, V.2.2.2.2.2.2.2.2.1, V.2.2.2.2.2.2.2.2.2.1, V10.1, V10.2.1, V10.2.2.1, V10.2.2.2.1, fun _ => rfl, V10.2.2.2.2.2.1, V10.2.2.2.2.2.2.1, fun _ => rfl, fun _ => rfl, V10.2.2.2.2.2.2.2.2.2.1, V20.1, V20.2.1, V20.2.2.1, V20.2.2.2.1, V20.2.2.2.2.1, V20.2.2.2.2.2.1, V20.2.2.2.2.2.2.1, V20.2.2.2.2.2.2.2.1, V20.2.2.2.2.2.2.2.2.1, V20.2.2.2.2.2.2.2.2.2.1, V30.1, V30.2.1, V30.2.2.1, V30.2.2.2.1, V30.2.2.2.2.1, V30.2.2.2.2.2.1, V30.2.2.2.2.2.2.1, V30.2.2.2.2.2.2.2.1, V30.2.2.2.2.2.2.2.2.1, V30.2.2.2.2.2.2.2.2.2.1, V40.1, V40.2.1, V40.2.2.1, V40.2.2.2⟩, HW, HX⟩
      · rintro b a wy hb hd ⟨z, z154, z155, z160, z161, z177, z178, z185, z186, z195, z196, z201, rfl, HV, HW, HX⟩ K hK
        simp [Region.binds] at hd
        have e22 : (z 172) = .bool true := (HV.out.2.2.2.2.2.2.2.2.2.2.2.2.2.2.2.2.2.2.1) (by simp [hd])
        clear hd
        go_simp
        have V := HV.out
        have V10 := V.2.2.2.2.2.2.2.2.2.2
        have V20 := V10.2.2.2.2.2.2.2.2.2.2
        have V30 := V20.2.2.2.2.2.2.2.2.2.2
        have V40 := V30.2.2.2.2.2.2.2.2.2.2
        exact hK _ _ ⟨fun s => if s = 173 then .bool true else if s = 172 then .bool true else z s, _, _, _, _, _, _, _, _, _, _, _, rfl, Lib.hid ⟨V.1, V.2.1, V.2.2.1, V.2.2.2.1, V.2.2.2.2.1, V.2.2.2.2.2.1, V.2.2.2.2.2.2.1, V.2.2.2.2.2.2.2.1, V.2.2.2.2.2.2.2.2.1, V.2.2.2.2.2.2.2.2.2.1, V10.1, V10.2.1, V10.2.2.1, V10.2.2.2.1, V10.2.2.2.2.1, V10.2.2.2.2.2.1, V10.2.2.2.2.2.2.1, V10.2.2.2.2.2.2.2.1, fun _ => rfl, fun _ => rfl, V20.1, V20.2.1, V20.2.2.1, V20.2.2.2.1, V20.2.2.2.2.1, V20.2.2.2.2.2.1, V20.2.2.2.2.2.2.1, V20.2.2.2.2.2.2.2.1, V20.2.2.2.2.2.2.2.2.1, V20.2.2.2.2.2.2.2.2.2.1, V30.1, V30.2.1, V30.2.2.1, V30.2.2.2.1, V30.2.2.2.2.1, V30.2.2.2.2.2.1, V30.2.2.2.2.2.2.1, V30.2.2.2.2.2.2.2.1, V30.2.2.2.2.2.2.2.2.1, V30.2.2.2.2.2.2.2.2.2.1, V40.1, V40.2.1, V40.2.2.1, V40.2.2.2⟩, HW, HX⟩
      · rintro b a wy hb hd ⟨z, z154, z155, z160, z161, z177, z178, z185, z186, z195, z196, z201, rfl, HV, HW, HX⟩ K hK
        simp [Region.binds] at hd
        have e23 : (z 173) = .bool true := (HV.out.2.2.2.2.2.2.2.2.2.2.2.2.2.2.2.2.2.2.2.1) (by simp [hd])
        clear hd
        go_simp
        have V := HV.out
        have V10 := V.2.2.2.2.2.2.2.2.2.2
        have V20 := V10.2.2.2.2.2.2.2.2.2.2
        have V30 := V20.2.2.2.2.2.2.2.2.2.2
        have V40 := V30.2.2.2.2.2.2.2.2.2.2
        exact hK _ _ ⟨fun s => if s = 174 then Value.slice (some ⟨gq, 0, none⟩) 2 2 else if s = 173 then .bool true else z s, _, _, _, _, _, _, _, _, _, _, _, rfl, Lib.hid ⟨V.1, V.2.1, V.2.2.1, V.2.2.2.1, V.2.2.2.2.1, V.2.2.2.2.2.1, V.2.2.2.2.2.2.1, V.2.2.2.2.2.2.2.1, V.2.2.2.2.2.2.2.2.1, V.2.2.2.2.2.2.2.2.2.1, V10.1, V10.2.1, V10.2.2.1, V10.2.2.2.1, V10.2.2.2.2.1, V10.2.2.2.2.2.1, V10.2.2.2.2.2.2.1, V10.2.2.2.2.2.2.2.1, V10.2.2.2.2.2.2.2.2.1, fun _ => rfl, fun _ => rfl, V20.2.1, V20.2.2.1, V20.2.2.2.1, V20.2.2.2.2.1, V20.2.2.2.2.2.1, V20.2.2.2.2.2.2.1, V20.2.2.2.2.2.2.2.1, V20.2.2.2.2.2.2.2.2.1, V20.2.2.2.2.2.2.2.2.2.1, V30.1, V30.2.1, V30.2.2.1, V30.2.2.2.1, V30.2.2.2.2.1, V30.2.2.2.2.2.1, V30.2.2.2.2.2.2.1, V30.2.2.2.2.2.2.2.1, V30.2.2.2.2.2.2.2.2.1, V30.2.2.2.2.2.2.2.2.2.1, V40.1, V40.2.1, V40.2.2.1, V40.2.2.2⟩, HW, HX⟩
      · rintro b a wy hb hd ⟨z, z154, z155, z160, z161, z177, z178, z185, z186, z195, z196, z201, rfl, HV, HW, HX⟩ K hK
        simp [Region.binds] at hd
        have e23 : (z 173) = .bool true := (HV.out.2.2.2.2.2.2.2.2.2.2.2.2.2.2.2.2.2.2.2.1) (by simp [hd])
        have e24 : (z 174) = Value.slice (some ⟨gq, 0, none⟩) 2 2 := (HV.out.2.2.2.2.2.2.2.2.2.2.2.2.2.2.2.2.2.2.2.2.1) (by simp [hd])
        clear hd
        go_simp
        have V := HV.out
        have V10 := V.2.2.2.2.2.2.2.2.2.2
        have V20 := V10.2.2.2.2.2.2.2.2.2.2
        have V30 := V20.2.2.2.2.2.2.2.2.2.2
        have V40 := V30.2.2.2.2.2.2.2.2.2.2
        exact hK _ _ ⟨fun s => if s = 175 then .pointer (some ⟨gq, 0, none⟩) else if s = 173 then .bool true else if s = 174 then Value.slice (some ⟨gq, 0, none⟩) 2 2 else z s, _, _, _, _, _, _, _, _, _, _, _, rfl, Lib.hid ⟨V.1, V.2.1, V.2.2.1, V.2.2.2.1, V.2.2.2.2.1, V.2.2.2.2.2.1, V.2.2.2.2.2.2.1, V.2.2.2.2.2.2.2.1, V.2.2.2.2.2.2.2.2.1, V.2.2.2.2.2.2.2.2.2.1, V10.1, V10.2.1, V10.2.2.1, V10.2.2.2.1, V10.2.2.2.2.1, V10.2.2.2.2.2.1, V10.2.2.2.2.2.2.1, V10.2.2.2.2.2.2.2.1, V10.2.2.2.2.2.2.2.2.1, fun _ => rfl, fun _ => rfl, fun _ => rfl, V20.2.2.1, V20.2.2.2.1, V20.2.2.2.2.1, V20.2.2.2.2.2.1, V20.2.2.2.2.2.2.1, V20.2.2.2.2.2.2.2.1, V20.2.2.2.2.2.2.2.2.1, V20.2.2.2.2.2.2.2.2.2.1, V30.1, V30.2.1, V30.2.2.1, V30.2.2.2.1, V30.2.2.2.2.1, V30.2.2.2.2.2.1, V30.2.2.2.2.2.2.1, V30.2.2.2.2.2.2.2.1, V30.2.2.2.2.2.2.2.2.1, V30.2.2.2.2.2.2.2.2.2.1, V40.1, V40.2.1, V40.2.2.1, V40.2.2.2⟩, HW, HX⟩
      · rintro b a wy hb hd ⟨z, z154, z155, z160, z161, z177, z178, z185, z186, z195, z196, z201, rfl, HV, HW, HX⟩ K hK
        simp [Region.binds] at hd
        have e23 : (z 173) = .bool true := (HV.out.2.2.2.2.2.2.2.2.2.2.2.2.2.2.2.2.2.2.2.1) (by simp [hd])
        have e25 : (z 175) = .pointer (some ⟨gq, 0, none⟩) := (HV.out.2.2.2.2.2.2.2.2.2.2.2.2.2.2.2.2.2.2.2.2.2.1) (by simp [hd])
        clear hd
        have rq := Rq.out.below Rq.out.lt HW.out
        have k0 := rq.cellAt (i := 0) rfl
        have k1 := rq.cellAt (i := 1) rfl
        have k2 := rq.cellAt (i := 2) rfl
        clear rq
        go_simp
        have V := HV.out
        have V10 := V.2.2.2.2.2.2.2.2.2.2
        have V20 := V10.2.2.2.2.2.2.2.2.2.2
        have V30 := V20.2.2.2.2.2.2.2.2.2.2
        have V40 := V30.2.2.2.2.2.2.2.2.2.2
        exact hK _ _ ⟨fun s => if s = 176 then .agg #[.bool true, .slice A5 5 c5, .slice B5 5 d5] else if s = 173 then .bool true else if s = 175 then .pointer (some ⟨gq, 0, none⟩) else z s, _, _, _, _, _, _, _, _, _, _, _, rfl, Lib.hid ⟨V.1, V.2.1, V.2.2.1, V.2.2.2.1, V.2.2.2.2.1, V.2.2.2.2.2.1, V.2.2.2.2.2.2.1, V.2.2.2.2.2.2.2.1, V.2.2.2.2.2.2.2.2.1, V.2.2.2.2.2.2.2.2.2.1, V10.1, V10.2.1, V10.2.2.1, V10.2.2.2.1, V10.2.2.2.2.1, V10.2.2.2.2.2.1, V10.2.2.2.2.2.2.1, V10.2.2.2.2.2.2.2.1, V10.2.2.2.2.2.2.2.2.1, fun _ => rfl, V20.1, fun _ => rfl, fun _ => rfl, V20.2.2.2.1, V20.2.2.2.2.1, V20.2.2.2.2.2.1, V20.2.2.2.2.2.2.1, V20.2.2.2.2.2.2.2.1, V20.2.2.2.2.2.2.2.2.1, V20.2.2.2.2.2.2.2.2.2.1, V30.1, V30.2.1, V30.2.2.1, V30.2.2.2.1, V30.2.2.2.2.1, V30.2.2.2.2.2.1, V30.2.2.2.2.2.2.1, V30.2.2.2.2.2.2.2.1, V30.2.2.2.2.2.2.2.2.1, V30.2.2.2.2.2.2.2.2.2.1, V40.1, V40.2.1, V40.2.2.1, V40.2.2.2⟩, HW, HX⟩
      · rintro b a wy hb hd ⟨z, z154, z155, z160, z161, z177, z178, z185, z186, z195, z196, z201, rfl, HV, HW, HX⟩ K hK
        simp [Region.binds] at hd
        have e23 : (z 173) = .bool true := (HV.out.2.2.2.2.2.2.2.2.2.2.2.2.2.2.2.2.2.2.2.1) (by simp [hd])
        clear hd
        obtain ⟨x4, x10, x27, x35, x45, x51, x5, x11, x28, x36, x46⟩ := HX.out
        have kz := (Below.refl wy.heap.size wy).alloc (Nat.le_refl _) (.cells #[.int .u64 1, .int .u64 2, .int .u64 3, .int .u64 4, .int .u64 5] 25)
        have LN := lit_new wy [1, 2, 3, 4, 5]
        go_simp
        have V := HV.out
        have V10 := V.2.2.2.2.2.2.2.2.2.2
        have V20 := V10.2.2.2.2.2.2.2.2.2.2
        have V30 := V20.2.2.2.2.2.2.2.2.2.2
        have V40 := V30.2.2.2.2.2.2.2.2.2.2
        exact hK _ _ ⟨fun s => if s = 173 then .bool true else z s, _, _, _, _, _, _, _, _, _, _, _, rfl, Lib.hid ⟨V.1, V.2.1, V.2.2.1, V.2.2.2.1, V.2.2.2.2.1, V.2.2.2.2.2.1, V.2.2.2.2.2.2.1, V.2.2.2.2.2.2.2.1, V.2.2.2.2.2.2.2.2.1, V.2.2.2.2.2.2.2.2.2.1, V10.1, V10.2.1, V10.2.2.1, V10.2.2.2.1, V10.2.2.2.2.1, V10.2.2.2.2.2.1, V10.2.2.2.2.2.2.1, V10.2.2.2.2.2.2.2.1, V10.2.2.2.2.2.2.2.2.1, fun _ => rfl, V20.1, V20.2.1, V20.2.2.1, V20.2.2.2.1, V20.2.2.2.2.1, V20.2.2.2.2.2.1, V20.2.2.2.2.2.2.1, V20.2.2.2.2.2.2.2.1, V20.2.2.2.2.2.2.2.2.1, V20.2.2.2.2.2.2.2.2.2.1, V30.1, V30.2.1, V30.2.2.1, V30.2.2.2.1, V30.2.2.2.2.1, V30.2.2.2.2.2.1, V30.2.2.2.2.2.2.1, V30.2.2.2.2.2.2.2.1, V30.2.2.2.2.2.2.2.2.1, V30.2.2.2.2.2.2.2.2.2.1, V40.1, V40.2.1, V40.2.2.1, V40.2.2.2⟩, Lib.hid (HW.out.trans (kz.mono HW.out.size)), Lib.hid ⟨fun e => (x4 e).far kz, fun e => (x10 e).far kz, fun _ => ⟨wy.heap.size, rfl, LN, by simp⟩, fun e => (x35 e).far kz, fun e => (x45 e).far kz, fun e => (x51 e).far kz, fun e => (x5 e).far kz, fun e => (x11 e).far kz, fun e => (x28 e).far kz, fun e => (x36 e).far kz, fun e => (x46 e).far kz⟩⟩
      · rintro b a wy hb hd ⟨z, z154, z155, z160, z161, z177, z178, z185, z186, z195, z196, z201, rfl, HV, HW, HX⟩ K hK
        simp [Region.binds] at hd
        have e23 : (z 173) = .bool true := (HV.out.2.2.2.2.2.2.2.2.2.2.2.2.2.2.2.2.2.2.2.1) (by simp [hd])
        have dd27 : b 27 = true := by simp [hd]
        clear hd
        obtain ⟨x4, x10, x27, x35, x45, x51, x5, x11, x28, x36, x46⟩ := HX.out
        obtain ⟨gl, zz, LN, _⟩ := x27 dd27
        subst zz
        go_simp
        go_at_call 29
        refine (leaf_lit (gk := gl) (n := 5) (ks := [1, 2, 3, 4, 5]) (vs := [10, 20, 30, 40, 50]) rfl LN (by decide) (by decide) (by decide)).mono ?_
        rintro e wz ⟨v, rfl, nv, _, kz⟩
        try go_simp
        have V := HV.out
        have V10 := V.2.2.2.2.2.2.2.2.2.2
        have V20 := V10.2.2.2.2.2.2.2.2.2.2
        have V30 := V20.2.2.2.2.2.2.2.2.2.2
        have V40 := V30.2.2.2.2.2.2.2.2.2.2
        exact hK _ _ ⟨fun s => if s = 173 then .bool true else z s, _, _, _, _, _, _, _, _, _, _, _, rfl, Lib.hid ⟨V.1, V.2.1, V.2.2.1, V.2.2.2.1, V.2.2.2.2.1, V.2.2.2.2.2.1, V.2.2.2.2.2.2.1, V.2.2.2.2.2.2.2.1, V.2.2.2.2.2.2.2.2.1, V.2.2.2.2.2.2.2.2.2.1, V10.1, V10.2.1, V10.2.2.1, V10.2.2.2.1, V10.2.2.2.2.1, V10.2.2.2.2.2.1, V10.2.2.2.2.2.2.1, V10.2.2.2.2.2.2.2.1, V10.2.2.2.2.2.2.2.2.1, fun _ => rfl, V20.1, V20.2.1, V20.2.2.1, V20.2.2.2.1, V20.2.2.2.2.1, V20.2.2.2.2.2.1, V20.2.2.2.2.2.2.1, V20.2.2.2.2.2.2.2.1, V20.2.2.2.2.2.2.2.2.1, V20.2.2.2.2.2.2.2.2.2.1, V30.1, V30.2.1, V30.2.2.1, V30.2.2.2.1, V30.2.2.2.2.1, V30.2.2.2.2.2.1, V30.2.2.2.2.2.2.1, V30.2.2.2.2.2.2.2.1, V30.2.2.2.2.2.2.2.2.1, V30.2.2.2.2.2.2.2.2.2.1, V40.1, V40.2.1, V40.2.2.1, V40.2.2.2⟩, Lib.hid (HW.out.trans (kz.mono HW.out.size)), Lib.hid ⟨fun e => (x4 e).far kz, fun e => (x10 e).far kz, fun e => (x27 e).far kz, fun e => (x35 e).far kz, fun e => (x45 e).far kz, fun e => (x51 e).far kz, fun e => (x5 e).far kz, fun e => (x11 e).far kz, fun _ => nv, fun e => (x36 e).far kz, fun e => (x46 e).far kz⟩⟩
      · rintro b a wy hb hd ⟨z, z154, z155, z160, z161, z177, z178, z185, z186, z195, z196, z201, rfl, HV, HW, HX⟩ K hK
        simp [Region.binds] at hd
        have e23 : (z 173) = .bool true := (HV.out.2.2.2.2.2.2.2.2.2.2.2.2.2.2.2.2.2.2.2.1) (by simp [hd])
        have e26 : (z 176) = .agg #[.bool true, .slice A5 5 c5, .slice B5 5 d5] := (HV.out.2.2.2.2.2.2.2.2.2.2.2.2.2.2.2.2.2.2.2.2.2.2.1) (by simp [hd])
        have dd28 : b 28 = true := by simp [hd]
        clear hd
        obtain ⟨x4, x10, x27, x35, x45, x51, x5, x11, x28, x36, x46⟩ := HX.out
        have NF := Nq0.out.far HW.out
        go_simp
        go_at_call 16
        refine (same_lit NF (x28 dd28) true (by decide)).mono ?_
        rintro e wz ⟨rfl, kz⟩
        try go_simp
        have V := HV.out
        have V10 := V.2.2.2.2.2.2.2.2.2.2
        have V20 := V10.2.2.2.2.2.2.2.2.2.2
        have V30 := V20.2.2.2.2.2.2.2.2.2.2
        have V40 := V30.2.2.2.2.2.2.2.2.2.2
        exact hK _ _ ⟨fun s => if s = 179 then .bool true else if s = 173 then .bool true else if s = 176 then .agg #[.bool true, .slice A5 5 c5, .slice B5 5 d5] else z s, _, _, _, _, _, _, _, _, _, _, _, rfl, Lib.hid ⟨V.1, V.2.1, V.2.2.1, V.2.2.2.1, V.2.2.2.2.1, V.2.2.2.2.2.1, V.2.2.2.2.2.2.1, V.2.2.2.2.2.2.2.1, V.2.2.2.2.2.2.2.2.1, V.2.2.2.2.2.2.2.2.2.1, V10.1, V10.2.1, V10.2.2.1, V10.2.2.2.1, V10.2.2.2.2.1, V10.2.2.2.2.2.1, V10.2.2.2.2.2.2.1, V10.2.2.2.2.2.2.2.1, V10.2.2.2.2.2.2.2.2.1, fun _ => rfl, V20.1, V20.2.1, fun _ => rfl, fun _ => rfl, V20.2.2.2.2.1, V20.2.2.2.2.2.1, V20.2.2.2.2.2.2.1, V20.2.2.2.2.2.2.2.1, V20.2.2.2.2.2.2.2.2.1, V20.2.2.2.2.2.2.2.2.2.1, V30.1, V30.2.1, V30.2.2.1, V30.2.2.2.1, V30.2.2.2.2.1, V30.2.2.2.2.2.1, V30.2.2.2.2.2.2.1, V30.2.2.2.2.2.2.2.1, V30.2.2.2.2.2.2.2.2.1, V30.2.2.2.2.2.2.2.2.2.1, V40.1, V40.2.1, V40.2.2.1, V40.2.2.2⟩, Lib.hid (HW.out.trans (kz.mono HW.out.size)), Lib.hid ⟨fun e => (x4 e).far kz, fun e => (x10 e).far kz, fun e => (x27 e).far kz, fun e => (x35 e).far kz, fun e => (x45 e).far kz, fun e => (x51 e).far kz, fun e => (x5 e).far kz, fun e => (x11 e).far kz, fun e => (x28 e).far kz, fun e => (x36 e).far kz, fun e => (x46 e).far kz⟩⟩
      · rintro b a wy hb hd ⟨z, z154, z155, z160, z161, z177, z178, z185, z186, z195, z196, z201, rfl, HV, HW, HX⟩ K hK
        simp [Region.binds] at hd
        have e23 : (z 173) = .bool true := (HV.out.2.2.2.2.2.2.2.2.2.2.2.2.2.2.2.2.2.2.2.1) (by simp [hd])
        have e29 : (z 179) = .bool true := (HV.out.2.2.2.2.2.2.2.2.2.2.2.2.2.2.2.2.2.2.2.2.2.2.2.1) (by simp [hd])
        clear hd
        go_simp
        have V := HV.out
        have V10 := V.2.2.2.2.2.2.2.2.2.2
        have V20 := V10.2.2.2.2.2.2.2.2.2.2
        have V30 := V20.2.2.2.2.2.2.2.2.2.2
        have V40 := V30.2.2.2.2.2.2.2.2.2.2
        exact hK _ _ ⟨fun s => if s = 180 then .bool true else if s = 173 then .bool true else if s = 179 then .bool true else z s, _, _, _, _, _, _, _, _, _, _, _, rfl, Lib.hid ⟨V.1, V.2.1, V.2.2.1, V.2.2.2.1, V.2.2.2.2.1, V.2.2.2.2.2.1, V.2.2.2.2.2.2.1, V.2.2.2.2.2.2.2.1, V.2.2.2.2.2.2.2.2.1, V.2.2.2.2.2.2.2.2.2.1, V10.1, V10.2.1, V10.2.2.1, V10.2.2.2.1, V10.2.2.2.2.1, V10.2.2.2.2.2.1, V10.2.2.2.2.2.2.1, V10.2.2.2.2.2.2.2.1, V10.2.2.2.2.2.2.2.2.1, fun _ => rfl, V20.1, V20.2.1, V20.2.2.1, fun _ => rfl, fun _ => rfl, V20.2.2.2.2.2.1, V20.2.2.2.2.2.2.1, V20.2.2.2.2.2.2.2.1, V20.2.2.2.2.2.2.2.2.1, V20.2.2.2.2.2.2.2.2.2.1, V30.1, V30.2.1, V30.2.2.1, V30.2.2.2.1, V30.2.2.2.2.1, V30.2.2.2.2.2.1, V30.2.2.2.2.2.2.1, V30.2.2.2.2.2.2.2.1, V30.2.2.2.2.2.2.2.2.1, V30.2.2.2.2.2.2.2.2.2.1, V40.1, V40.2.1, V40.2.2.1, V40.2.2.2⟩, HW, HX⟩
      · rintro b a wy hb hd ⟨z, z154, z155, z160, z161, z177, z178, z185, z186, z195, z196, z201, rfl, HV, HW, HX⟩ K hK
        simp [Region.binds] at hd
        have e30 : (z 180) = .bool true := (HV.out.2.2.2.2.2.2.2.2.2.2.2.2.2.2.2.2.2.2.2.2.2.2.2.2.1) (by simp [hd])
        clear hd
        go_simp
        have V := HV.out
        have V10 := V.2.2.2.2.2.2.2.2.2.2
        have V20 := V10.2.2.2.2.2.2.2.2.2.2
        have V30 := V20.2.2.2.2.2.2.2.2.2.2
        have V40 := V30.2.2.2.2.2.2.2.2.2.2
        exact hK _ _ ⟨fun s => if s = 181 then .bool true else if s = 180 then .bool true else z s, _, _, _, _, _, _, _, _, _, _, _, rfl, Lib.hid ⟨V.1, V.2.1, V.2.2.1, V.2.2.2.1, V.2.2.2.2.1, V.2.2.2.2.2.1, V.2.2.2.2.2.2.1, V.2.2.2.2.2.2.2.1, V.2.2.2.2.2.2.2.2.1, V.2.2.2.2.2.2.2.2.2.1, V10.1, V10.2.1, V10.2.2.1, V10.2.2.2.1, V10.2.2.2.2.1, V10.2.2.2.2.2.1, V10.2.2.2.2.2.2.1, V10.2.2.2.2.2.2.2.1, V10.2.2.2.2.2.2.2.2.1, V10.2.2.2.2.2.2.2.2.2.1, V20.1, V20.2.1, V20.2.2.1, V20.2.2.2.1, fun _ => rfl, fun _ => rfl, V20.2.2.2.2.2.2.1, V20.2.2.2.2.2.2.2.1, V20.2.2.2.2.2.2.2.2.1, V20.2.2.2.2.2.2.2.2.2.1, V30.1, V30.2.1, V30.2.2.1, V30.2.2.2.1, V30.2.2.2.2.1, V30.2.2.2.2.2.1, V30.2.2.2.2.2.2.1, V30.2.2.2.2.2.2.2.1, V30.2.2.2.2.2.2.2.2.1, V30.2.2.2.2.2.2.2.2.2.1, V40.1, V40.2.1, V40.2.2.1, V40.2.2.2⟩, HW, HX⟩
      · rintro b a wy hb hd ⟨z, z154, z155, z160, z161, z177, z178, z185, z186, z195, z196, z201, rfl, HV, HW, HX⟩ K hK
        simp [Region.binds] at hd
        have e31 : (z 181) = .bool true := (HV.out.2.2.2.2.2.2.2.2.2.2.2.2.2.2.2.2.2.2.2.2.2.2.2.2.2.1) (by simp [hd])
        clear hd
        go_simp
        have V := HV.out
        have V10 := V.2.2.2.2.2.2.2.2.2.2
        have V20 := V10.2.2.2.2.2.2.2.2.2.2
        have V30 := V20.2.2.2.2.2.2.2.2.2.2
        have V40 := V30.2.2.2.2.2.2.2.2.2.2
        exact hK _ _ ⟨fun s => if s = 182 then Value.slice (some ⟨gq, 0, none⟩) 2 2 else if s = 181 then .bool true else z s, _, _, _, _, _, _, _, _, _, _, _, rfl, Lib.hid ⟨V.1, V.2.1, V.2.2.1, V.2.2.2.1, V.2.2.2.2.1, V.2.2.2.2.2.1, V.2.2.2.2.2.2.1, V.2.2.2.2.2.2.2.1, V.2.2.2.2.2.2.2.2.1, V.2.2.2.2.2.2.2.2.2.1, V10.1, V10.2.1, V10.2.2.1, V10.2.2.2.1, V10.2.2.2.2.1, V10.2.2.2.2.2.1, V10.2.2.2.2.2.2.1, V10.2.2.2.2.2.2.2.1, V10.2.2.2.2.2.2.2.2.1, V10.2.2.2.2.2.2.2.2.2.1, V20.1, V20.2.1, V20.2.2.1, V20.2.2.2.1, V20.2.2.2.2.1, fun _ => rfl, fun _ => rfl, V20.2.2.2.2.2.2.2.1, V20.2.2.2.2.2.2.2.2.1, V20.2.2.2.2.2.2.2.2.2.1, V30.1, V30.2.1, V30.2.2.1, V30.2.2.2.1, V30.2.2.2.2.1, V30.2.2.2.2.2.1, V30.2.2.2.2.2.2.1, V30.2.2.2.2.2.2.2.1, V30.2.2.2.2.2.2.2.2.1, V30.2.2.2.2.2.2.2.2.2.1, V40.1, V40.2.1, V40.2.2.1, V40.2.2.2⟩, HW, HX⟩
      · rintro b a wy hb hd ⟨z, z154, z155, z160, z161, z177, z178, z185, z186, z195, z196, z201, rfl, HV, HW, HX⟩ K hK
        simp [Region.binds] at hd
        have e31 : (z 181) = .bool true := (HV.out.2.2.2.2.2.2.2.2.2.2.2.2.2.2.2.2.2.2.2.2.2.2.2.2.2.1) (by simp [hd])
        have e32 : (z 182) = Value.slice (some ⟨gq, 0, none⟩) 2 2 := (HV.out.2.2.2.2.2.2.2.2.2.2.2.2.2.2.2.2.2.2.2.2.2.2.2.2.2.2.1) (by simp [hd])
        clear hd
        go_simp
        have V := HV.out
        have V10 := V.2.2.2.2.2.2.2.2.2.2
        have V20 := V10.2.2.2.2.2.2.2.2.2.2
        have V30 := V20.2.2.2.2.2.2.2.2.2.2
        have V40 := V30.2.2.2.2.2.2.2.2.2.2
        exact hK _ _ ⟨fun s => if s = 183 then .pointer (some ⟨gq, 3, none⟩) else if s = 181 then .bool true else if s = 182 then Value.slice (some ⟨gq, 0, none⟩) 2 2 else z s, _, _, _, _, _, _, _, _, _, _, _, rfl, Lib.hid ⟨V.1, V.2.1, V.2.2.1, V.2.2.2.1, V.2.2.2.2.1, V.2.2.2.2.2.1, V.2.2.2.2.2.2.1, V.2.2.2.2.2.2.2.1, V.2.2.2.2.2.2.2.2.1, V.2.2.2.2.2.2.2.2.2.1, V10.1, V10.2.1, V10.2.2.1, V10.2.2.2.1, V10.2.2.2.2.1, V10.2.2.2.2.2.1, V10.2.2.2.2.2.2.1, V10.2.2.2.2.2.2.2.1, V10.2.2.2.2.2.2.2.2.1, V10.2.2.2.2.2.2.2.2.2.1, V20.1, V20.2.1, V20.2.2.1, V20.2.2.2.1, V20.2.2.2.2.1, fun _ => rfl, fun _ => rfl, fun _ => rfl, V20.2.2.2.2.2.2.2.2.1, V20.2.2.2.2.2.2.2.2.2.1, V30.1, V30.2.1, V30.2.2.1, V30.2.2.2.1, V30.2.2.2.2.1, V30.2.2.2.2.2.1, V30.2.2.2.2.2.2.1, V30.2.2.2.2.2.2.2.1, V30.2.2.2.2.2.2.2.2.1, V30.2.2.2.2.2.2.2.2.2.1, V40.1, V40.2.1, V40.2.2.1, V40.2.2.2⟩, HW, HX⟩
      · rintro b a wy hb hd ⟨z, z154, z155, z160, z161, z177, z178, z185, z186, z195, z196, z201, rfl, HV, HW, HX⟩ K hK
        simp [Region.binds] at hd
        have e31 : (z 181) = .bool true := (HV.out.2.2.2.2.2.2.2.2.2.2.2.2.2.2.2.2.2.2.2.2.2.2.2.2.2.1) (by simp [hd])
        have e33 : (z 183) = .pointer (some ⟨gq, 3, none⟩) := (HV.out.2.2.2.2.2.2.2.2.2.2.2.2.2.2.2.2.2.2.2.2.2.2.2.2.2.2.2.1) (by simp [hd])
        clear hd
        have rq := Rq.out.below Rq.out.lt HW.out
        have k3 := rq.cellAt (i := 3) rfl
        have k4 := rq.cellAt (i := 4) rfl
        have k5 := rq.cellAt (i := 5) rfl
        clear rq
        go_simp
        have V := HV.out
        have V10 := V.2.2.2.2.2.2.2.2.2.2
        have V20 := V10.2.2.2.2.2.2.2.2.2.2
        have V30 := V20.2.2.2.2.2.2.2.2.2.2
        have V40 := V30.2.2.2.2.2.2.2.2.2.2
        exact hK _ _ ⟨fun s => if s = 184 then .agg #[.bool true, .slice A4 4 c4, .slice B4 4 d4] else if s = 181 then .bool true else if s = 183 then .pointer (some ⟨gq, 3, none⟩) else z s, _, _, _, _, _, _, _, _, _, _, _, rfl, Lib.hid ⟨V.1, V.2.1, V.2.2.1, V.2.2.2.1, V.2.2.2.2.1, V.2.2.2.2.2.1, V.2.2.2.2.2.2.1, V.2.2.2.2.2.2.2.1, V.2.2.2.2.2.2.2.2.1, V.2.2.2.2.2.2.2.2.2.1, V10.1, V10.2.1, V10.2.2.1, V10.2.2.2.1, V10.2.2.2.2.1, V10.2.2.2.2.2.1, V10.2.2.2.2.2.2.1, V10.2.2.2.2.2.2.2.1, V10.2.2.2.2.2.2.2.2.1, V10.2.2.2.2.2.2.2.2.2.1, V20.1, V20.2.1, V20.2.2.1, V20.2.2.2.1, V20.2.2.2.2.1, fun _ => rfl, V20.2.2.2.2.2.2.1, fun _ => rfl, fun _ => rfl, V20.2.2.2.2.2.2.2.2.2.1, V30.1, V30.2.1, V30.2.2.1, V30.2.2.2.1, V30.2.2.2.2.1, V30.2.2.2.2.2.1, V30.2.2.2.2.2.2.1, V30.2.2.2.2.2.2.2.1, V30.2.2.2.2.2.2.2.2.1, V30.2.2.2.2.2.2.2.2.2.1, V40.1, V40.2.1, V40.2.2.1, V40.2.2.2⟩, HW, HX⟩
      · rintro b a wy hb hd ⟨z, z154, z155, z160, z161, z177, z178, z185, z186, z195, z196, z201, rfl, HV, HW, HX⟩ K hK
        simp [Region.binds] at hd
        have e31 : (z 181) = .bool true := (HV.out.2.2.2.2.2.2.2.2.2.2.2.2.2.2.2.2.2.2.2.2.2.2.2.2.2.1) (by simp [hd])
        clear hd
        obtain ⟨x4, x10, x27, x35, x45, x51, x5, x11, x28, x36, x46⟩ := HX.out
        have kz := (Below.refl wy.heap.size wy).alloc (Nat.le_refl _) (.cells #[.int .u64 6, .int .u64 7, .int .u64 8, .int .u64 9] 25)
        have LN := lit_new wy [6, 7, 8, 9]
        go_simp
        have V := HV.out
        have V10 := V.2.2.2.2.2.2.2.2.2.2
        have V20 := V10.2.2.2.2.2.2.2.2.2.2
        have V30 := V20.2.2.2.2.2.2.2.2.2.2
        have V40 := V30.2.2.2.2.2.2.2.2.2.2
        exact hK _ _ ⟨fun s => if s = 181 then .bool true else z s, _, _, _, _, _, _, _, _, _, _, _, rfl, Lib.hid ⟨V.1, V.2.1, V.2.2.1, V.2.2.2.1, V.2.2.2.2.1, V.2.2.2.2.2.1, V.2.2.2.2.2.2.1, V.2.2.2.2.2.2.2.1, V.2.2.2.2.2.2.2.2.1, V.2.2.2.2.2.2.2.2.2.1, V10.1, V10.2.1, V10.2.2.1, V10.2.2.2.1, V10.2.2.2.2.1, V10.2.2.2.2.2.1, V10.2.2.2.2.2.2.1, V10.2.2.2.2.2.2.2.1, V10.2.2.2.2.2.2.2.2.1, V10.2.2.2.2.2.2.2.2.2.1, V20.1, V20.2.1, V20.2.2.1, V20.2.2.2.1, V20.2.2.2.2.1, fun _ => rfl, V20.2.2.2.2.2.2.1, V20.2.2.2.2.2.2.2.1, V20.2.2.2.2.2.2.2.2.1, V20.2.2.2.2.2.2.2.2.2.1, V30.1, V30.2.1, V30.2.2.1, V30.2.2.2.1, V30.2.2.2.2.1, V30.2.2.2.2.2.1, V30.2.2.2.2.2.2.1, V30.2.2.2.2.2.2.2.1, V30.2.2.2.2.2.2.2.2.1, V30.2.2.2.2.2.2.2.2.2.1, V40.1, V40.2.1, V40.2.2.1, V40.2.2.2⟩, Lib.hid (HW.out.trans (kz.mono HW.out.size)), Lib.hid ⟨fun e => (x4 e).far kz, fun e => (x10 e).far kz, fun e => (x27 e).far kz, fun _ => ⟨wy.heap.size, rfl, LN, by simp⟩, fun e => (x45 e).far kz, fun e => (x51 e).far kz, fun e => (x5 e).far kz, fun e => (x11 e).far kz, fun e => (x28 e).far kz, fun e => (x36 e).far kz, fun e => (x46 e).far kz⟩⟩
      · rintro b a wy hb hd ⟨z, z154, z155, z160, z161, z177, z178, z185, z186, z195, z196, z201, rfl, HV, HW, HX⟩ K hK
        simp [Region.binds] at hd
        have e31 : (z 181) = .bool true := (HV.out.2.2.2.2.2.2.2.2.2.2.2.2.2.2.2.2.2.2.2.2.2.2.2.2.2.1) (by simp [hd])
        have dd35 : b 35 = true := by simp [hd]
        clear hd
        obtain ⟨x4, x10, x27, x35, x45, x51, x5, x11, x28, x36, x46⟩ := HX.out
        obtain ⟨gl, zz, LN, _⟩ := x35 dd35
        subst zz
        go_simp
        go_at_call 29
        refine (leaf_lit (gk := gl) (n := 4) (ks := [6, 7, 8, 9]) (vs := [60, 70, 80, 90]) rfl LN (by decide) (by decide) (by decide)).mono ?_
        rintro e wz ⟨v, rfl, nv, _, kz⟩
        try go_simp
        have V := HV.out
        have V10 := V.2.2.2.2.2.2.2.2.2.2
        have V20 := V10.2.2.2.2.2.2.2.2.2.2
        have V30 := V20.2.2.2.2.2.2.2.2.2.2
        have V40 := V30.2.2.2.2.2.2.2.2.2.2
        exact hK _ _ ⟨fun s => if s = 181 then .bool true else z s, _, _, _, _, _, _, _, _, _, _, _, rfl, Lib.hid ⟨V.1, V.2.1, V.2.2.1, V.2.2.2.1, V.2.2.2.2.1, V.2.2.2.2.2.1, V.2.2.2.2.2.2.1, V.2.2.2.2.2.2.2.1, V.2.2.2.2.2.2.2.2.1, V.2.2.2.2.2.2.2.2.2.1, V10.1, V10.2.1, V10.2.2.1, V10.2.2.2.1, V10.2.2.2.2.1, V10.2.2.2.2.2.1, V10.2.2.2.2.2.2.1, V10.2.2.2.2.2.2.2.1, V10.2.2.2.2.2.2.2.2.1, V10.2.2.2.2.2.2.2.2.2.1, V20.1, V20.2.1, V20.2.2.1, V20.2.2.2.1, V20.2.2.2.2.1, fun _ => rfl, V20.2.2.2.2.2.2.1, V20.2.2.2.2.2.2.2.1, V20.2.2.2.2.2.2.2.2.1, V20.2.2.2.2.2.2.2.2.2.1, V30.1, V30.2.1, V30.2.2.1, V30.2.2.2.1, V30.2.2.2.2.1, V30.2.2.2.2.2.1, V30.2.2.2.2.2.2.1, V30.2.2.2.2.2.2.2.1, V30.2.2.2.2.2.2.2.2.1, V30.2.2.2.2.2.2.2.2.2.1, V40.1, V40.2.1, V40.2.2.1, V40.2.2.2⟩, Lib.hid (HW.out.trans (kz.mono HW.out.size)), Lib.hid ⟨fun e => (x4 e).far kz, fun e => (x10 e).far kz, fun e => (x27 e).far kz, fun e => (x35 e).far kz, fun e => (x45 e).far kz, fun e => (x51 e).far kz, fun e => (x5 e).far kz, fun e => (x11 e).far kz, fun e => (x28 e).far kz, fun _ => nv, fun e => (x46 e).far kz⟩⟩
      · rintro b a wy hb hd ⟨z, z154, z155, z160, z161, z177, z178, z185, z186, z195, z196, z201, rfl, HV, HW, HX⟩ K hK
        simp [Region.binds] at hd
        have e31 : (z 181) = .bool true := (HV.out.2.2.2.2.2.2.2.2.2.2.2.2.2.2.2.2.2.2.2.2.2.2.2.2.2.1) (by simp [hd])
        have e34 : (z 184) = .agg #[.bool true, .slice A4 4 c4, .slice B4 4 d4] := (HV.out.2.2.2.2.2.2.2.2.2.2.2.2.2.2.2.2.2.2.2.2.2.2.2.2.2.2.2.2.1) (by simp [hd])
        have dd36 : b 36 = true := by simp [hd]
        clear hd
        obtain ⟨x4, x10, x27, x35, x45, x51, x5, x11, x28, x36, x46⟩ := HX.out
        have NF := Nq1.out.far HW.out
        go_simp
        go_at_call 16
        refine (same_lit NF (x36 dd36) true (by decide)).mono ?_
        rintro e wz ⟨rfl, kz⟩
        try go_simp
        have V := HV.out
        have V10 := V.2.2.2.2.2.2.2.2.2.2
        have V20 := V10.2.2.2.2.2.2.2.2.2.2
        have V30 := V20.2.2.2.2.2.2.2.2.2.2
        have V40 := V30.2.2.2.2.2.2.2.2.2.2
        exact hK _ _ ⟨fun s => if s = 187 then .bool true else if s = 181 then .bool true else if s = 184 then .agg #[.bool true, .slice A4 4 c4, .slice B4 4 d4] else z s, _, _, _, _, _, _, _, _, _, _, _, rfl, Lib.hid ⟨V.1, V.2.1, V.2.2.1, V.2.2.2.1, V.2.2.2.2.1, V.2.2.2.2.2.1, V.2.2.2.2.2.2.1, V.2.2.2.2.2.2.2.1, V.2.2.2.2.2.2.2.2.1, V.2.2.2.2.2.2.2.2.2.1, V10.1, V10.2.1, V10.2.2.1, V10.2.2.2.1, V10.2.2.2.2.1, V10.2.2.2.2.2.1, V10.2.2.2.2.2.2.1, V10.2.2.2.2.2.2.2.1, V10.2.2.2.2.2.2.2.2.1, V10.2.2.2.2.2.2.2.2.2.1, V20.1, V20.2.1, V20.2.2.1, V20.2.2.2.1, V20.2.2.2.2.1, fun _ => rfl, V20.2.2.2.2.2.2.1, V20.2.2.2.2.2.2.2.1, fun _ => rfl, fun _ => rfl, V30.1, V30.2.1, V30.2.2.1, V30.2.2.2.1, V30.2.2.2.2.1, V30.2.2.2.2.2.1, V30.2.2.2.2.2.2.1, V30.2.2.2.2.2.2.2.1, V30.2.2.2.2.2.2.2.2.1, V30.2.2.2.2.2.2.2.2.2.1, V40.1, V40.2.1, V40.2.2.1, V40.2.2.2⟩, Lib.hid (HW.out.trans (kz.mono HW.out.size)), Lib.hid ⟨fun e => (x4 e).far kz, fun e => (x10 e).far kz, fun e => (x27 e).far kz, fun e => (x35 e).far kz, fun e => (x45 e).far kz, fun e => (x51 e).far kz, fun e => (x5 e).far kz, fun e => (x11 e).far kz, fun e => (x28 e).far kz, fun e => (x36 e).far kz, fun e => (x46 e).far kz⟩⟩
      · rintro b a wy hb hd ⟨z, z154, z155, z160, z161, z177, z178, z185, z186, z195, z196, z201, rfl, HV, HW, HX⟩ K hK
        simp [Region.binds] at hd
        have e31 : (z 181) = .bool true := (HV.out.2.2.2.2.2.2.2.2.2.2.2.2.2.2.2.2.2.2.2.2.2.2.2.2.2.1) (by simp [hd])
        have e37 : (z 187) = .bool true := (HV.out.2.2.2.2.2.2.2.2.2.2.2.2.2.2.2.2.2.2.2.2.2.2.2.2.2.2.2.2.2.1) (by simp [hd])
        clear hd
        go_simp
        have V := HV.out
        have V10 := V.2.2.2.2.2.2.2.2.2.2
        have V20 := V10.2.2.2.2.2.2.2.2.2.2
        have V30 := V20.2.2.2.2.2.2.2.2.2.2
        have V40 := V30.2.2.2.2.2.2.2.2.2.2
        exact hK _ _ ⟨fun s => if s = 188 then .bool true else if s = 181 then .bool true else if s = 187 then .bool true else z s, _, _, _, _, _, _, _, _, _, _, _, rfl, Lib.hid ⟨V.1, V.2.1, V.2.2.1, V.2.2.2.1, V.2.2.2.2.1, V.2.2.2.2.2.1, V.2.2.2.2.2.2.1, V.2.2.2.2.2.2.2.1, V.2.2.2.2.2.2.2.2.1, V.2.2.2.2.2.2.2.2.2.1, V10.1, V10.2.1, V10.2.2.1, V10.2.2.2.1, V10.2.2.2.2.1, V10.2.2.2.2.2.1, V10.2.2.2.2.2.2.1, V10.2.2.2.2.2.2.2.1, V10.2.2.2.2.2.2.2.2.1, V10.2.2.2.2.2.2.2.2.2.1, V20.1, V20.2.1, V20.2.2.1, V20.2.2.2.1, V20.2.2.2.2.1, fun _ => rfl, V20.2.2.2.2.2.2.1, V20.2.2.2.2.2.2.2.1, V20.2.2.2.2.2.2.2.2.1, fun _ => rfl, fun _ => rfl, V30.2.1, V30.2.2.1, V30.2.2.2.1, V30.2.2.2.2.1, V30.2.2.2.2.2.1, V30.2.2.2.2.2.2.1, V30.2.2.2.2.2.2.2.1, V30.2.2.2.2.2.2.2.2.1, V30.2.2.2.2.2.2.2.2.2.1, V40.1, V40.2.1, V40.2.2.1, V40.2.2.2⟩, HW, HX⟩
      · rintro b a wy hb hd ⟨z, z154, z155, z160, z161, z177, z178, z185, z186, z195, z196, z201, rfl, HV, HW, HX⟩ K hK
        simp [Region.binds] at hd
        have e38 : (z 188) = .bool true := (HV.out.2.2.2.2.2.2.2.2.2.2.2.2.2.2.2.2.2.2.2.2.2.2.2.2.2.2.2.2.2.2.1) (by simp [hd])
        clear hd
        go_simp
        have V := HV.out
        have V10 := V.2.2.2.2.2.2.2.2.2.2
        have V20 := V10.2.2.2.2.2.2.2.2.2.2
        have V30 := V20.2.2.2.2.2.2.2.2.2.2
        have V40 := V30.2.2.2.2.2.2.2.2.2.2
        exact hK _ _ ⟨fun s => if s = 189 then .bool true else if s = 188 then .bool true else z s, _, _, _, _, _, _, _, _, _, _, _, rfl, Lib.hid ⟨V.1, V.2.1, V.2.2.1, V.2.2.2.1, V.2.2.2.2.1, V.2.2.2.2.2.1, V.2.2.2.2.2.2.1, V.2.2.2.2.2.2.2.1, V.2.2.2.2.2.2.2.2.1, V.2.2.2.2.2.2.2.2.2.1, V10.1, V10.2.1, V10.2.2.1, V10.2.2.2.1, V10.2.2.2.2.1, V10.2.2.2.2.2.1, V10.2.2.2.2.2.2.1, V10.2.2.2.2.2.2.2.1, V10.2.2.2.2.2.2.2.2.1, V10.2.2.2.2.2.2.2.2.2.1, V20.1, V20.2.1, V20.2.2.1, V20.2.2.2.1, V20.2.2.2.2.1, V20.2.2.2.2.2.1, V20.2.2.2.2.2.2.1, V20.2.2.2.2.2.2.2.1, V20.2.2.2.2.2.2.2.2.1, V20.2.2.2.2.2.2.2.2.2.1, fun _ => rfl, fun _ => rfl, V30.2.2.1, V30.2.2.2.1, V30.2.2.2.2.1, V30.2.2.2.2.2.1, V30.2.2.2.2.2.2.1, V30.2.2.2.2.2.2.2.1, V30.2.2.2.2.2.2.2.2.1, V30.2.2.2.2.2.2.2.2.2.1, V40.1, V40.2.1, V40.2.2.1, V40.2.2.2⟩, HW, HX⟩
      · rintro b a wy hb hd ⟨z, z154, z155, z160, z161, z177, z178, z185, z186, z195, z196, z201, rfl, HV, HW, HX⟩ K hK
        simp [Region.binds] at hd
        have e39 : (z 189) = .bool true := (HV.out.2.2.2.2.2.2.2.2.2.2.2.2.2.2.2.2.2.2.2.2.2.2.2.2.2.2.2.2.2.2.2.1) (by simp [hd])
        clear hd
        go_simp
        have V := HV.out
        have V10 := V.2.2.2.2.2.2.2.2.2.2
        have V20 := V10.2.2.2.2.2.2.2.2.2.2
        have V30 := V20.2.2.2.2.2.2.2.2.2.2
        have V40 := V30.2.2.2.2.2.2.2.2.2.2
        exact hK _ _ ⟨fun s => if s = 190 then Value.int IntKind.i64 0 else if s = 189 then .bool true else z s, _, _, _, _, _, _, _, _, _, _, _, rfl, Lib.hid ⟨V.1, V.2.1, V.2.2.1, V.2.2.2.1, V.2.2.2.2.1, V.2.2.2.2.2.1, V.2.2.2.2.2.2.1, V.2.2.2.2.2.2.2.1, V.2.2.2.2.2.2.2.2.1, V.2.2.2.2.2.2.2.2.2.1, V10.1, V10.2.1, V10.2.2.1, V10.2.2.2.1, V10.2.2.2.2.1, V10.2.2.2.2.2.1, V10.2.2.2.2.2.2.1, V10.2.2.2.2.2.2.2.1, V10.2.2.2.2.2.2.2.2.1, V10.2.2.2.2.2.2.2.2.2.1, V20.1, V20.2.1, V20.2.2.1, V20.2.2.2.1, V20.2.2.2.2.1, V20.2.2.2.2.2.1, V20.2.2.2.2.2.2.1, V20.2.2.2.2.2.2.2.1, V20.2.2.2.2.2.2.2.2.1, V20.2.2.2.2.2.2.2.2.2.1, V30.1, fun _ => rfl, fun _ => rfl, V30.2.2.2.1, V30.2.2.2.2.1, V30.2.2.2.2.2.1, V30.2.2.2.2.2.2.1, V30.2.2.2.2.2.2.2.1, V30.2.2.2.2.2.2.2.2.1, V30.2.2.2.2.2.2.2.2.2.1, V40.1, V40.2.1, V40.2.2.1, V40.2.2.2⟩, HW, HX⟩
      · rintro b a wy hb hd ⟨z, z154, z155, z160, z161, z177, z178, z185, z186, z195, z196, z201, rfl, HV, HW, HX⟩ K hK
        simp [Region.binds] at hd
        have e39 : (z 189) = .bool true := (HV.out.2.2.2.2.2.2.2.2.2.2.2.2.2.2.2.2.2.2.2.2.2.2.2.2.2.2.2.2.2.2.2.1) (by simp [hd])
        have e40 : (z 190) = Value.int IntKind.i64 0 := (HV.out.2.2.2.2.2.2.2.2.2.2.2.2.2.2.2.2.2.2.2.2.2.2.2.2.2.2.2.2.2.2.2.2.1) (by simp [hd])
        clear hd
        go_simp
        have V := HV.out
        have V10 := V.2.2.2.2.2.2.2.2.2.2
        have V20 := V10.2.2.2.2.2.2.2.2.2.2
        have V30 := V20.2.2.2.2.2.2.2.2.2.2
        have V40 := V30.2.2.2.2.2.2.2.2.2.2
        exact hK _ _ ⟨fun s => if s = 191 then .bool true else if s = 189 then .bool true else if s = 190 then Value.int IntKind.i64 0 else z s, _, _, _, _, _, _, _, _, _, _, _, rfl, Lib.hid ⟨V.1, V.2.1, V.2.2.1, V.2.2.2.1, V.2.2.2.2.1, V.2.2.2.2.2.1, V.2.2.2.2.2.2.1, V.2.2.2.2.2.2.2.1, V.2.2.2.2.2.2.2.2.1, V.2.2.2.2.2.2.2.2.2.1, V10.1, V10.2.1, V10.2.2.1, V10.2.2.2.1, V10.2.2.2.2.1, V10.2.2.2.2.2.1, V10.2.2.2.2.2.2.1, V10.2.2.2.2.2.2.2.1, V10.2.2.2.2.2.2.2.2.1, V10.2.2.2.2.2.2.2.2.2.1, V20.1, V20.2.1, V20.2.2.1, V20.2.2.2.1, V20.2.2.2.2.1, V20.2.2.2.2.2.1, V20.2.2.2.2.2.2.1, V20.2.2.2.2.2.2.2.1, V20.2.2.2.2.2.2.2.2.1, V20.2.2.2.2.2.2.2.2.2.1, V30.1, fun _ => rfl, fun _ => rfl, fun _ => rfl, V30.2.2.2.2.1, V30.2.2.2.2.2.1, V30.2.2.2.2.2.2.1, V30.2.2.2.2.2.2.2.1, V30.2.2.2.2.2.2.2.2.1, V30.2.2.2.2.2.2.2.2.2.1, V40.1, V40.2.1, V40.2.2.1, V40.2.2.2⟩, HW, HX⟩
      · rintro b a wy hb hd ⟨z, z154, z155, z160, z161, z177, z178, z185, z186, z195, z196, z201, rfl, HV, HW, HX⟩ K hK
        simp [Region.binds] at hd
        have e39 : (z 189) = .bool true := (HV.out.2.2.2.2.2.2.2.2.2.2.2.2.2.2.2.2.2.2.2.2.2.2.2.2.2.2.2.2.2.2.2.1) (by simp [hd])
        have e41 : (z 191) = .bool true := (HV.out.2.2.2.2.2.2.2.2.2.2.2.2.2.2.2.2.2.2.2.2.2.2.2.2.2.2.2.2.2.2.2.2.2.1) (by simp [hd])
        clear hd
        go_simp
        have V := HV.out
        have V10 := V.2.2.2.2.2.2.2.2.2.2
        have V20 := V10.2.2.2.2.2.2.2.2.2.2
        have V30 := V20.2.2.2.2.2.2.2.2.2.2
        have V40 := V30.2.2.2.2.2.2.2.2.2.2
        exact hK _ _ ⟨fun s => if s = 192 then .bool true else if s = 189 then .bool true else if s = 191 then .bool true else z s, _, _, _, _, _, _, _, _, _, _, _, rfl, Lib.hid ⟨V.1, V.2.1, V.2.2.1, V.2.2.2.1, V.2.2.2.2.1, V.2.2.2.2.2.1, V.2.2.2.2.2.2.1, V.2.2.2.2.2.2.2.1, V.2.2.2.2.2.2.2.2.1, V.2.2.2.2.2.2.2.2.2.1, V10.1, V10.2.1, V10.2.2.1, V10.2.2.2.1, V10.2.2.2.2.1, V10.2.2.2.2.2.1, V10.2.2.2.2.2.2.1, V10.2.2.2.2.2.2.2.1, V10.2.2.2.2.2.2.2.2.1, V10.2.2.2.2.2.2.2.2.2.1, V20.1, V20.2.1, V20.2.2.1, V20.2.2.2.1, V20.2.2.2.2.1, V20.2.2.2.2.2.1, V20.2.2.2.2.2.2.1, V20.2.2.2.2.2.2.2.1, V20.2.2.2.2.2.2.2.2.1, V20.2.2.2.2.2.2.2.2.2.1, V30.1, fun _ => rfl, V30.2.2.1, fun _ => rfl, fun _ => rfl, V30.2.2.2.2.2.1, V30.2.2.2.2.2.2.1, V30.2.2.2.2.2.2.2.1, V30.2.2.2.2.2.2.2.2.1, V30.2.2.2.2.2.2.2.2.2.1, V40.1, V40.2.1, V40.2.2.1, V40.2.2.2⟩, HW, HX⟩
      · rintro b a wy hb hd ⟨z, z154, z155, z160, z161, z177, z178, z185, z186, z195, z196, z201, rfl, HV, HW, HX⟩ K hK
        simp [Region.binds] at hd
        have e42 : (z 192) = .bool true := (HV.out.2.2.2.2.2.2.2.2.2.2.2.2.2.2.2.2.2.2.2.2.2.2.2.2.2.2.2.2.2.2.2.2.2.2.1) (by simp [hd])
        clear hd
        go_simp
        have V := HV.out
        have V10 := V.2.2.2.2.2.2.2.2.2.2
        have V20 := V10.2.2.2.2.2.2.2.2.2.2
        have V30 := V20.2.2.2.2.2.2.2.2.2.2
        have V40 := V30.2.2.2.2.2.2.2.2.2.2
        exact hK _ _ ⟨fun s => if s = 193 then .bool true else if s = 192 then .bool true else z s, _, _, _, _, _, _, _, _, _, _, _, rfl, Lib.hid ⟨V.1, V.2.1, V.2.2.1, V.2.2.2.1, V.2.2.2.2.1, V.2.2.2.2.2.1, V.2.2.2.2.2.2.1, V.2.2.2.2.2.2.2.1, V.2.2.2.2.2.2.2.2.1, V.2.2.2.2.2.2.2.2.2.1, V10.1, V10.2.1, V10.2.2.1, V10.2.2.2.1, V10.2.2.2.2.1, V10.2.2.2.2.2.1, V10.2.2.2.2.2.2.1, V10.2.2.2.2.2.2.2.1, V10.2.2.2.2.2.2.2.2.1, V10.2.2.2.2.2.2.2.2.2.1, V20.1, V20.2.1, V20.2.2.1, V20.2.2.2.1, V20.2.2.2.2.1, V20.2.2.2.2.2.1, V20.2.2.2.2.2.2.1, V20.2.2.2.2.2.2.2.1, V20.2.2.2.2.2.2.2.2.1, V20.2.2.2.2.2.2.2.2.2.1, V30.1, V30.2.1, V30.2.2.1, V30.2.2.2.1, fun _ => rfl, fun _ => rfl, V30.2.2.2.2.2.2.1, V30.2.2.2.2.2.2.2.1, V30.2.2.2.2.2.2.2.2.1, V30.2.2.2.2.2.2.2.2.2.1, V40.1, V40.2.1, V40.2.2.1, V40.2.2.2⟩, HW, HX⟩
      · rintro b a wy hb hd ⟨z, z154, z155, z160, z161, z177, z178, z185, z186, z195, z196, z201, rfl, HV, HW, HX⟩ K hK
        simp [Region.binds] at hd
        have e43 : (z 193) = .bool true := (HV.out.2.2.2.2.2.2.2.2.2.2.2.2.2.2.2.2.2.2.2.2.2.2.2.2.2.2.2.2.2.2.2.2.2.2.2.1) (by simp [hd])
        clear hd
        have hbx := Xm.out.below Xm.out.lt HW.out
        rw [e43]
        refine if_wanted (by rfl) (wp_load_d (.tmp 26) rfl rm _ rfl hbx ?_)
        have V := HV.out
        have V10 := V.2.2.2.2.2.2.2.2.2.2
        have V20 := V10.2.2.2.2.2.2.2.2.2.2
        have V30 := V20.2.2.2.2.2.2.2.2.2.2
        have V40 := V30.2.2.2.2.2.2.2.2.2.2
        exact hK _ _ ⟨fun s => if s = 194 then m else if s = 193 then .bool true else z s, _, _, _, _, _, _, _, _, _, _, _, rfl, Lib.hid ⟨V.1, V.2.1, V.2.2.1, V.2.2.2.1, V.2.2.2.2.1, V.2.2.2.2.2.1, V.2.2.2.2.2.2.1, V.2.2.2.2.2.2.2.1, V.2.2.2.2.2.2.2.2.1, V.2.2.2.2.2.2.2.2.2.1, V10.1, V10.2.1, V10.2.2.1, V10.2.2.2.1, V10.2.2.2.2.1, V10.2.2.2.2.2.1, V10.2.2.2.2.2.2.1, V10.2.2.2.2.2.2.2.1, V10.2.2.2.2.2.2.2.2.1, V10.2.2.2.2.2.2.2.2.2.1, V20.1, V20.2.1, V20.2.2.1, V20.2.2.2.1, V20.2.2.2.2.1, V20.2.2.2.2.2.1, V20.2.2.2.2.2.2.1, V20.2.2.2.2.2.2.2.1, V20.2.2.2.2.2.2.2.2.1, V20.2.2.2.2.2.2.2.2.2.1, V30.1, V30.2.1, V30.2.2.1, V30.2.2.2.1, V30.2.2.2.2.1, fun _ => rfl, fun _ => rfl, V30.2.2.2.2.2.2.2.1, V30.2.2.2.2.2.2.2.2.1, V30.2.2.2.2.2.2.2.2.2.1, V40.1, V40.2.1, V40.2.2.1, V40.2.2.2⟩, HW, HX⟩
      · rintro b a wy hb hd ⟨z, z154, z155, z160, z161, z177, z178, z185, z186, z195, z196, z201, rfl, HV, HW, HX⟩ K hK
        simp [Region.binds] at hd
        have e43 : (z 193) = .bool true := (HV.out.2.2.2.2.2.2.2.2.2.2.2.2.2.2.2.2.2.2.2.2.2.2.2.2.2.2.2.2.2.2.2.2.2.2.2.1) (by simp [hd])
        clear hd
        obtain ⟨x4, x10, x27, x35, x45, x51, x5, x11, x28, x36, x46⟩ := HX.out
        have kz := (Below.refl wy.heap.size wy).alloc (Nat.le_refl _) (.cells #[.int .u64 1] 25)
        have LN := lit_new wy [1]
        go_simp
        have V := HV.out
        have V10 := V.2.2.2.2.2.2.2.2.2.2
        have V20 := V10.2.2.2.2.2.2.2.2.2.2
        have V30 := V20.2.2.2.2.2.2.2.2.2.2
        have V40 := V30.2.2.2.2.2.2.2.2.2.2
        exact hK _ _ ⟨fun s => if s = 193 then .bool true else z s, _, _, _, _, _, _, _, _, _, _, _, rfl, Lib.hid ⟨V.1, V.2.1, V.2.2.1, V.2.2.2.1, V.2.2.2.2.1, V.2.2.2.2.2.1, V.2.2.2.2.2.2.1, V.2.2.2.2.2.2.2.1, V.2.2.2.2.2.2.2.2.1, V.2.2.2.2.2.2.2.2.2.1, V10.1, V10.2.1, V10.2.2.1, V10.2.2.2.1, V10.2.2.2.2.1, V10.2.2.2.2.2.1, V10.2.2.2.2.2.2.1, V10.2.2.2.2.2.2.2.1, V10.2.2.2.2.2.2.2.2.1, V10.2.2.2.2.2.2.2.2.2.1, V20.1, V20.2.1, V20.2.2.1, V20.2.2.2.1, V20.2.2.2.2.1, V20.2.2.2.2.2.1, V20.2.2.2.2.2.2.1, V20.2.2.2.2.2.2.2.1, V20.2.2.2.2.2.2.2.2.1, V20.2.2.2.2.2.2.2.2.2.1, V30.1, V30.2.1, V30.2.2.1, V30.2.2.2.1, V30.2.2.2.2.1, fun _ => rfl, V30.2.2.2.2.2.2.1, V30.2.2.2.2.2.2.2.1, V30.2.2.2.2.2.2.2.2.1, V30.2.2.2.2.2.2.2.2.2.1, V40.1, V40.2.1, V40.2.2.1, V40.2.2.2⟩, Lib.hid (HW.out.trans (kz.mono HW.out.size)), Lib.hid ⟨fun e => (x4 e).far kz, fun e => (x10 e).far kz, fun e => (x27 e).far kz, fun e => (x35 e).far kz, fun _ => ⟨wy.heap.size, rfl, LN, by simp⟩, fun e => (x51 e).far kz, fun e => (x5 e).far kz, fun e => (x11 e).far kz, fun e => (x28 e).far kz, fun e => (x36 e).far kz, fun e => (x46 e).far kz⟩⟩
      · rintro b a wy hb hd ⟨z, z154, z155, z160, z161, z177, z178, z185, z186, z195, z196, z201, rfl, HV, HW, HX⟩ K hK
        simp [Region.binds] at hd
        have e43 : (z 193) = .bool true := (HV.out.2.2.2.2.2.2.2.2.2.2.2.2.2.2.2.2.2.2.2.2.2.2.2.2.2.2.2.2.2.2.2.2.2.2.2.1) (by simp [hd])
        have dd45 : b 45 = true := by simp [hd]
        clear hd
        obtain ⟨x4, x10, x27, x35, x45, x51, x5, x11, x28, x36, x46⟩ := HX.out
        obtain ⟨gl, zz, LN, _⟩ := x45 dd45
        subst zz
        go_simp
        go_at_call 29
        refine (leaf_lit (gk := gl) (n := 1) (ks := [1]) (vs := [10]) rfl LN (by decide) (by decide) (by decide)).mono ?_
        rintro e wz ⟨v, rfl, nv, _, kz⟩
        try go_simp
        have V := HV.out
        have V10 := V.2.2.2.2.2.2.2.2.2.2
        have V20 := V10.2.2.2.2.2.2.2.2.2.2
        have V30 := V20.2.2.2.2.2.2.2.2.2.2
        have V40 := V30.2.2.2.2.2.2.2.2.2.2
        exact hK _ _ ⟨fun s => if s = 193 then .bool true else z s, _, _, _, _, _, _, _, _, _, _, _, rfl, Lib.hid ⟨V.1, V.2.1, V.2.2.1, V.2.2.2.1, V.2.2.2.2.1, V.2.2.2.2.2.1, V.2.2.2.2.2.2.1, V.2.2.2.2.2.2.2.1, V.2.2.2.2.2.2.2.2.1, V.2.2.2.2.2.2.2.2.2.1, V10.1, V10.2.1, V10.2.2.1, V10.2.2.2.1, V10.2.2.2.2.1, V10.2.2.2.2.2.1, V10.2.2.2.2.2.2.1, V10.2.2.2.2.2.2.2.1, V10.2.2.2.2.2.2.2.2.1, V10.2.2.2.2.2.2.2.2.2.1, V20.1, V20.2.1, V20.2.2.1, V20.2.2.2.1, V20.2.2.2.2.1, V20.2.2.2.2.2.1, V20.2.2.2.2.2.2.1, V20.2.2.2.2.2.2.2.1, V20.2.2.2.2.2.2.2.2.1, V20.2.2.2.2.2.2.2.2.2.1, V30.1, V30.2.1, V30.2.2.1, V30.2.2.2.1, V30.2.2.2.2.1, fun _ => rfl, V30.2.2.2.2.2.2.1, V30.2.2.2.2.2.2.2.1, V30.2.2.2.2.2.2.2.2.1, V30.2.2.2.2.2.2.2.2.2.1, V40.1, V40.2.1, V40.2.2.1, V40.2.2.2⟩, Lib.hid (HW.out.trans (kz.mono HW.out.size)), Lib.hid ⟨fun e => (x4 e).far kz, fun e => (x10 e).far kz, fun e => (x27 e).far kz, fun e => (x35 e).far kz, fun e => (x45 e).far kz, fun e => (x51 e).far kz, fun e => (x5 e).far kz, fun e => (x11 e).far kz, fun e => (x28 e).far kz, fun e => (x36 e).far kz, fun _ => nv⟩⟩
      · rintro b a wy hb hd ⟨z, z154, z155, z160, z161, z177, z178, z185, z186, z195, z196, z201, rfl, HV, HW, HX⟩ K hK
        simp [Region.binds] at hd
        have e43 : (z 193) = .bool true := (HV.out.2.2.2.2.2.2.2.2.2.2.2.2.2.2.2.2.2.2.2.2.2.2.2.2.2.2.2.2.2.2.2.2.2.2.2.1) (by simp [hd])
        have e44 : (z 194) = m := (HV.out.2.2.2.2.2.2.2.2.2.2.2.2.2.2.2.2.2.2.2.2.2.2.2.2.2.2.2.2.2.2.2.2.2.2.2.2.1) (by simp [hd])
        have dd46 : b 46 = true := by simp [hd]
        clear hd
        obtain ⟨x4, x10, x27, x35, x45, x51, x5, x11, x28, x36, x46⟩ := HX.out
        have NF := Nm.out.far HW.out
        go_simp
        go_at_call 16
        refine (same_lit NF (x46 dd46) true (by decide)).mono ?_
        rintro e wz ⟨rfl, kz⟩
        try go_simp
        have V := HV.out
        have V10 := V.2.2.2.2.2.2.2.2.2.2
        have V20 := V10.2.2.2.2.2.2.2.2.2.2
        have V30 := V20.2.2.2.2.2.2.2.2.2.2
        have V40 := V30.2.2.2.2.2.2.2.2.2.2
        exact hK _ _ ⟨fun s => if s = 197 then .bool true else if s = 193 then .bool true else if s = 194 then m else z s, _, _, _, _, _, _, _, _, _, _, _, rfl, Lib.hid ⟨V.1, V.2.1, V.2.2.1, V.2.2.2.1, V.2.2.2.2.1, V.2.2.2.2.2.1, V.2.2.2.2.2.2.1, V.2.2.2.2.2.2.2.1, V.2.2.2.2.2.2.2.2.1, V.2.2.2.2.2.2.2.2.2.1, V10.1, V10.2.1, V10.2.2.1, V10.2.2.2.1, V10.2.2.2.2.1, V10.2.2.2.2.2.1, V10.2.2.2.2.2.2.1, V10.2.2.2.2.2.2.2.1, V10.2.2.2.2.2.2.2.2.1, V10.2.2.2.2.2.2.2.2.2.1, V20.1, V20.2.1, V20.2.2.1, V20.2.2.2.1, V20.2.2.2.2.1, V20.2.2.2.2.2.1, V20.2.2.2.2.2.2.1, V20.2.2.2.2.2.2.2.1, V20.2.2.2.2.2.2.2.2.1, V20.2.2.2.2.2.2.2.2.2.1, V30.1, V30.2.1, V30.2.2.1, V30.2.2.2.1, V30.2.2.2.2.1, fun _ => rfl, fun _ => rfl, fun _ => rfl, V30.2.2.2.2.2.2.2.2.1, V30.2.2.2.2.2.2.2.2.2.1, V40.1, V40.2.1, V40.2.2.1, V40.2.2.2⟩, Lib.hid (HW.out.trans (kz.mono HW.out.size)), Lib.hid ⟨fun e => (x4 e).far kz, fun e => (x10 e).far kz, fun e => (x27 e).far kz, fun e => (x35 e).far kz, fun e => (x45 e).far kz, fun e => (x51 e).far kz, fun e => (x5 e).far kz, fun e => (x11 e).far kz, fun e => (x28 e).far kz, fun e => (x36 e).far kz, fun e => (x46 e).far kz⟩⟩
      · rintro b a wy hb hd ⟨z, z154, z155, z160, z161, z177, z178, z185, z186, z195, z196, z201, rfl, HV, HW, HX⟩ K hK
        simp [Region.binds] at hd
        have e43 : (z 193) = .bool true := (HV.out.2.2.2.2.2.2.2.2.2.2.2.2.2.2.2.2.2.2.2.2.2.2.2.2.2.2.2.2.2.2.2.2.2.2.2.1) (by simp [hd])
        have e47 : (z 197) = .bool true := (HV.out.2.2.2.2.2.2.2.2.2.2.2.2.2.2.2.2.2.2.2.2.2.2.2.2.2.2.2.2.2.2.2.2.2.2.2.2.2.1) (by simp [hd])
        clear hd
        go_simp
        have V := HV.out
        have V10 := V.2.2.2.2.2.2.2.2.2.2
        have V20 := V10.2.2.2.2.2.2.2.2.2.2
        have V30 := V20.2.2.2.2.2.2.2.2.2.2
        have V40 := V30.2.2.2.2.2.2.2.2.2.2
        exact hK _ _ ⟨fun s => if s = 198 then .bool true else if s = 193 then .bool true else if s = 197 then .bool true else z s, _, _, _, _, _, _, _, _, _, _, _, rfl, Lib.hid ⟨V.1, V.2.1, V.2.2.1, V.2.2.2.1, V.2.2.2.2.1, V.2.2.2.2.2.1, V.2.2.2.2.2.2.1, V.2.2.2.2.2.2.2.1, V.2.2.2.2.2.2.2.2.1, V.2.2.2.2.2.2.2.2.2.1, V10.1, V10.2.1, V10.2.2.1, V10.2.2.2.1, V10.2.2.2.2.1, V10.2.2.2.2.2.1, V10.2.2.2.2.2.2.1, V10.2.2.2.2.2.2.2.1, V10.2.2.2.2.2.2.2.2.1, V10.2.2.2.2.2.2.2.2.2.1, V20.1, V20.2.1, V20.2.2.1, V20.2.2.2.1, V20.2.2.2.2.1, V20.2.2.2.2.2.1, V20.2.2.2.2.2.2.1, V20.2.2.2.2.2.2.2.1, V20.2.2.2.2.2.2.2.2.1, V20.2.2.2.2.2.2.2.2.2.1, V30.1, V30.2.1, V30.2.2.1, V30.2.2.2.1, V30.2.2.2.2.1, fun _ => rfl, V30.2.2.2.2.2.2.1, fun _ => rfl, fun _ => rfl, V30.2.2.2.2.2.2.2.2.2.1, V40.1, V40.2.1, V40.2.2.1, V40.2.2.2⟩, HW, HX⟩
      · rintro b a wy hb hd ⟨z, z154, z155, z160, z161, z177, z178, z185, z186, z195, z196, z201, rfl, HV, HW, HX⟩ K hK
        simp [Region.binds] at hd
        have e48 : (z 198) = .bool true := (HV.out.2.2.2.2.2.2.2.2.2.2.2.2.2.2.2.2.2.2.2.2.2.2.2.2.2.2.2.2.2.2.2.2.2.2.2.2.2.2.1) (by simp [hd])
        clear hd
        go_simp
        have V := HV.out
        have V10 := V.2.2.2.2.2.2.2.2.2.2
        have V20 := V10.2.2.2.2.2.2.2.2.2.2
        have V30 := V20.2.2.2.2.2.2.2.2.2.2
        have V40 := V30.2.2.2.2.2.2.2.2.2.2
        exact hK _ _ ⟨fun s => if s = 199 then .bool true else if s = 198 then .bool true else z s, _, _, _, _, _, _, _, _, _, _, _, rfl, Lib.hid ⟨V.1, V.2.1, V.2.2.1, V.2.2.2.1, V.2.2.2.2.1, V.2.2.2.2.2.1, V.2.2.2.2.2.2.1, V.2.2.2.2.2.2.2.1, V.2.2.2.2.2.2.2.2.1, V.2.2.2.2.2.2.2.2.2.1, V10.1, V10.2.1, V10.2.2.1, V10.2.2.2.1, V10.2.2.2.2.1, V10.2.2.2.2.2.1, V10.2.2.2.2.2.2.1, V10.2.2.2.2.2.2.2.1, V10.2.2.2.2.2.2.2.2.1, V10.2.2.2.2.2.2.2.2.2.1, V20.1, V20.2.1, V20.2.2.1, V20.2.2.2.1, V20.2.2.2.2.1, V20.2.2.2.2.2.1, V20.2.2.2.2.2.2.1, V20.2.2.2.2.2.2.2.1, V20.2.2.2.2.2.2.2.2.1, V20.2.2.2.2.2.2.2.2.2.1, V30.1, V30.2.1, V30.2.2.1, V30.2.2.2.1, V30.2.2.2.2.1, V30.2.2.2.2.2.1, V30.2.2.2.2.2.2.1, V30.2.2.2.2.2.2.2.1, fun _ => rfl, fun _ => rfl, V40.1, V40.2.1, V40.2.2.1, V40.2.2.2⟩, HW, HX⟩
      · rintro b a wy hb hd ⟨z, z154, z155, z160, z161, z177, z178, z185, z186, z195, z196, z201, rfl, HV, HW, HX⟩ K hK
        simp [Region.binds] at hd
        have e49 : (z 199) = .bool true := (HV.out.2.2.2.2.2.2.2.2.2.2.2.2.2.2.2.2.2.2.2.2.2.2.2.2.2.2.2.2.2.2.2.2.2.2.2.2.2.2.2.1) (by simp [hd])
        clear hd
        go_simp
        have V := HV.out
        have V10 := V.2.2.2.2.2.2.2.2.2.2
        have V20 := V10.2.2.2.2.2.2.2.2.2.2
        have V30 := V20.2.2.2.2.2.2.2.2.2.2
        have V40 := V30.2.2.2.2.2.2.2.2.2.2
        exact hK _ _ ⟨fun s => if s = 200 then o else if s = 199 then .bool true else z s, _, _, _, _, _, _, _, _, _, _, _, rfl, Lib.hid ⟨V.1, V.2.1, V.2.2.1, V.2.2.2.1, V.2.2.2.2.1, V.2.2.2.2.2.1, V.2.2.2.2.2.2.1, V.2.2.2.2.2.2.2.1, V.2.2.2.2.2.2.2.2.1, V.2.2.2.2.2.2.2.2.2.1, V10.1, V10.2.1, V10.2.2.1, V10.2.2.2.1, V10.2.2.2.2.1, V10.2.2.2.2.2.1, V10.2.2.2.2.2.2.1, V10.2.2.2.2.2.2.2.1, V10.2.2.2.2.2.2.2.2.1, V10.2.2.2.2.2.2.2.2.2.1, V20.1, V20.2.1, V20.2.2.1, V20.2.2.2.1, V20.2.2.2.2.1, V20.2.2.2.2.2.1, V20.2.2.2.2.2.2.1, V20.2.2.2.2.2.2.2.1, V20.2.2.2.2.2.2.2.2.1, V20.2.2.2.2.2.2.2.2.2.1, V30.1, V30.2.1, V30.2.2.1, V30.2.2.2.1, V30.2.2.2.2.1, V30.2.2.2.2.2.1, V30.2.2.2.2.2.2.1, V30.2.2.2.2.2.2.2.1, V30.2.2.2.2.2.2.2.2.1, fun _ => rfl, fun _ => rfl, V40.2.1, V40.2.2.1, V40.2.2.2⟩, HW, HX⟩
      · rintro b a wy hb hd ⟨z, z154, z155, z160, z161, z177, z178, z185, z186, z195, z196, z201, rfl, HV, HW, HX⟩ K hK
        simp [Region.binds] at hd
        have e49 : (z 199) = .bool true := (HV.out.2.2.2.2.2.2.2.2.2.2.2.2.2.2.2.2.2.2.2.2.2.2.2.2.2.2.2.2.2.2.2.2.2.2.2.2.2.2.2.1) (by simp [hd])
        clear hd
        obtain ⟨x4, x10, x27, x35, x45, x51, x5, x11, x28, x36, x46⟩ := HX.out
        have kz := (Below.refl wy.heap.size wy).alloc (Nat.le_refl _) (.cells #[.int .u64 20, .int .u64 30] 25)
        have LN := lit_new wy [20, 30]
        go_simp
        have V := HV.out
        have V10 := V.2.2.2.2.2.2.2.2.2.2
        have V20 := V10.2.2.2.2.2.2.2.2.2.2
        have V30 := V20.2.2.2.2.2.2.2.2.2.2
        have V40 := V30.2.2.2.2.2.2.2.2.2.2
        exact hK _ _ ⟨fun s => if s = 199 then .bool true else z s, _, _, _, _, _, _, _, _, _, _, _, rfl, Lib.hid ⟨V.1, V.2.1, V.2.2.1, V.2.2.2.1, V.2.2.2.2.1, V.2.2.2.2.2.1, V.2.2.2.2.2.2.1, V.2.2.2.2.2.2.2.1, V.2.2.2.2.2.2.2.2.1, V.2.2.2.2.2.2.2.2.2.1, V10.1, V10.2.1, V10.2.2.1, V10.2.2.2.1, V10.2.2.2.2.1, V10.2.2.2.2.2.1, V10.2.2.2.2.2.2.1, V10.2.2.2.2.2.2.2.1, V10.2.2.2.2.2.2.2.2.1, V10.2.2.2.2.2.2.2.2.2.1, V20.1, V20.2.1, V20.2.2.1, V20.2.2.2.1, V20.2.2.2.2.1, V20.2.2.2.2.2.1, V20.2.2.2.2.2.2.1, V20.2.2.2.2.2.2.2.1, V20.2.2.2.2.2.2.2.2.1, V20.2.2.2.2.2.2.2.2.2.1, V30.1, V30.2.1, V30.2.2.1, V30.2.2.2.1, V30.2.2.2.2.1, V30.2.2.2.2.2.1, V30.2.2.2.2.2.2.1, V30.2.2.2.2.2.2.2.1, V30.2.2.2.2.2.2.2.2.1, fun _ => rfl, V40.1, V40.2.1, V40.2.2.1, V40.2.2.2⟩, Lib.hid (HW.out.trans (kz.mono HW.out.size)), Lib.hid ⟨fun e => (x4 e).far kz, fun e => (x10 e).far kz, fun e => (x27 e).far kz, fun e => (x35 e).far kz, fun e => (x45 e).far kz, fun _ => ⟨wy.heap.size, rfl, LN, by simp⟩, fun e => (x5 e).far kz, fun e => (x11 e).far kz, fun e => (x28 e).far kz, fun e => (x36 e).far kz, fun e => (x46 e).far kz⟩⟩
      · rintro b a wy hb hd ⟨z, z154, z155, z160, z161, z177, z178, z185, z186, z195, z196, z201, rfl, HV, HW, HX⟩ K hK
        simp [Region.binds] at hd
        have e49 : (z 199) = .bool true := (HV.out.2.2.2.2.2.2.2.2.2.2.2.2.2.2.2.2.2.2.2.2.2.2.2.2.2.2.2.2.2.2.2.2.2.2.2.2.2.2.2.1) (by simp [hd])
        have e50 : (z 200) = o := (HV.out.2.2.2.2.2.2.2.2.2.2.2.2.2.2.2.2.2.2.2.2.2.2.2.2.2.2.2.2.2.2.2.2.2.2.2.2.2.2.2.2.1) (by simp [hd])
        have dd51 : b 51 = true := by simp [hd]
        clear hd
        obtain ⟨x4, x10, x27, x35, x45, x51, x5, x11, x28, x36, x46⟩ := HX.out
        have NF := No.out.far HW.out
        go_simp
        go_at_call 25
        refine (numbers_lit NF (x51 dd51) rfl (by decide) true (by decide)).mono ?_
        rintro e wz ⟨rfl, S9⟩
        try go_simp
        have V := HV.out
        have V10 := V.2.2.2.2.2.2.2.2.2.2
        have V20 := V10.2.2.2.2.2.2.2.2.2.2
        have V30 := V20.2.2.2.2.2.2.2.2.2.2
        have V40 := V30.2.2.2.2.2.2.2.2.2.2
        exact hK _ _ ⟨fun s => if s = 202 then .bool true else if s = 199 then .bool true else if s = 200 then o else z s, _, _, _, _, _, _, _, _, _, _, _, rfl, Lib.hid ⟨V.1, V.2.1, V.2.2.1, V.2.2.2.1, V.2.2.2.2.1, V.2.2.2.2.2.1, V.2.2.2.2.2.2.1, V.2.2.2.2.2.2.2.1, V.2.2.2.2.2.2.2.2.1, V.2.2.2.2.2.2.2.2.2.1, V10.1, V10.2.1, V10.2.2.1, V10.2.2.2.1, V10.2.2.2.2.1, V10.2.2.2.2.2.1, V10.2.2.2.2.2.2.1, V10.2.2.2.2.2.2.2.1, V10.2.2.2.2.2.2.2.2.1, V10.2.2.2.2.2.2.2.2.2.1, V20.1, V20.2.1, V20.2.2.1, V20.2.2.2.1, V20.2.2.2.2.1, V20.2.2.2.2.2.1, V20.2.2.2.2.2.2.1, V20.2.2.2.2.2.2.2.1, V20.2.2.2.2.2.2.2.2.1, V20.2.2.2.2.2.2.2.2.2.1, V30.1, V30.2.1, V30.2.2.1, V30.2.2.2.1, V30.2.2.2.2.1, V30.2.2.2.2.2.1, V30.2.2.2.2.2.2.1, V30.2.2.2.2.2.2.2.1, V30.2.2.2.2.2.2.2.2.1, fun _ => rfl, fun _ => rfl, fun _ => rfl, V40.2.2.1, V40.2.2.2⟩, Lib.hid (HW.out.trans (S9.below _)), Lib.hid ⟨fun e => (x4 e).far (S9.below _), fun e => (x10 e).far (S9.below _), fun e => (x27 e).far (S9.below _), fun e => (x35 e).far (S9.below _), fun e => (x45 e).far (S9.below _), fun e => (x51 e).far (S9.below _), fun e => (x5 e).far (S9.below _), fun e => (x11 e).far (S9.below _), fun e => (x28 e).far (S9.below _), fun e => (x36 e).far (S9.below _), fun e => (x46 e).far (S9.below _)⟩⟩
      · rintro b a wy hb hd ⟨z, z154, z155, z160, z161, z177, z178, z185, z186, z195, z196, z201, rfl, HV, HW, HX⟩ K hK
        simp [Region.binds] at hd
        have e49 : (z 199) = .bool true := (HV.out.2.2.2.2.2.2.2.2.2.2.2.2.2.2.2.2.2.2.2.2.2.2.2.2.2.2.2.2.2.2.2.2.2.2.2.2.2.2.2.1) (by simp [hd])
        have e52 : (z 202) = .bool true := (HV.out.2.2.2.2.2.2.2.2.2.2.2.2.2.2.2.2.2.2.2.2.2.2.2.2.2.2.2.2.2.2.2.2.2.2.2.2.2.2.2.2.2.1) (by simp [hd])
        clear hd
        go_simp
        have V := HV.out
        have V10 := V.2.2.2.2.2.2.2.2.2.2
        have V20 := V10.2.2.2.2.2.2.2.2.2.2
        have V30 := V20.2.2.2.2.2.2.2.2.2.2
        have V40 := V30.2.2.2.2.2.2.2.2.2.2
        exact hK _ _ ⟨fun s => if s = 203 then .bool true else if s = 199 then .bool true else if s = 202 then .bool true else z s, _, _, _, _, _, _, _, _, _, _, _, rfl, Lib.hid ⟨V.1, V.2.1, V.2.2.1, V.2.2.2.1, V.2.2.2.2.1, V.2.2.2.2.2.1, V.2.2.2.2.2.2.1, V.2.2.2.2.2.2.2.1, V.2.2.2.2.2.2.2.2.1, V.2.2.2.2.2.2.2.2.2.1, V10.1, V10.2.1, V10.2.2.1, V10.2.2.2.1, V10.2.2.2.2.1, V10.2.2.2.2.2.1, V10.2.2.2.2.2.2.1, V10.2.2.2.2.2.2.2.1, V10.2.2.2.2.2.2.2.2.1, V10.2.2.2.2.2.2.2.2.2.1, V20.1, V20.2.1, V20.2.2.1, V20.2.2.2.1, V20.2.2.2.2.1, V20.2.2.2.2.2.1, V20.2.2.2.2.2.2.1, V20.2.2.2.2.2.2.2.1, V20.2.2.2.2.2.2.2.2.1, V20.2.2.2.2.2.2.2.2.2.1, V30.1, V30.2.1, V30.2.2.1, V30.2.2.2.1, V30.2.2.2.2.1, V30.2.2.2.2.2.1, V30.2.2.2.2.2.2.1, V30.2.2.2.2.2.2.2.1, V30.2.2.2.2.2.2.2.2.1, fun _ => rfl, V40.1, fun _ => rfl, fun _ => rfl, V40.2.2.2⟩, HW, HX⟩
      · rintro b a wy hb hd ⟨z, z154, z155, z160, z161, z177, z178, z185, z186, z195, z196, z201, rfl, HV, HW, HX⟩ K hK
        simp [Region.binds] at hd
        have e53 : (z 203) = .bool true := (HV.out.2.2.2.2.2.2.2.2.2.2.2.2.2.2.2.2.2.2.2.2.2.2.2.2.2.2.2.2.2.2.2.2.2.2.2.2.2.2.2.2.2.2.1) (by simp [hd])
        clear hd
        go_simp
        have V := HV.out
        have V10 := V.2.2.2.2.2.2.2.2.2.2
        have V20 := V10.2.2.2.2.2.2.2.2.2.2
        have V30 := V20.2.2.2.2.2.2.2.2.2.2
        have V40 := V30.2.2.2.2.2.2.2.2.2.2
        exact hK _ _ ⟨fun s => if s = 0 then .bool true else if s = 203 then .bool true else z s, _, _, _, _, _, _, _, _, _, _, _, rfl, Lib.hid ⟨V.1, V.2.1, V.2.2.1, V.2.2.2.1, V.2.2.2.2.1, V.2.2.2.2.2.1, V.2.2.2.2.2.2.1, V.2.2.2.2.2.2.2.1, V.2.2.2.2.2.2.2.2.1, V.2.2.2.2.2.2.2.2.2.1, V10.1, V10.2.1, V10.2.2.1, V10.2.2.2.1, V10.2.2.2.2.1, V10.2.2.2.2.2.1, V10.2.2.2.2.2.2.1, V10.2.2.2.2.2.2.2.1, V10.2.2.2.2.2.2.2.2.1, V10.2.2.2.2.2.2.2.2.2.1, V20.1, V20.2.1, V20.2.2.1, V20.2.2.2.1, V20.2.2.2.2.1, V20.2.2.2.2.2.1, V20.2.2.2.2.2.2.1, V20.2.2.2.2.2.2.2.1, V20.2.2.2.2.2.2.2.2.1, V20.2.2.2.2.2.2.2.2.2.1, V30.1, V30.2.1, V30.2.2.1, V30.2.2.2.1, V30.2.2.2.2.1, V30.2.2.2.2.2.1, V30.2.2.2.2.2.2.1, V30.2.2.2.2.2.2.2.1, V30.2.2.2.2.2.2.2.2.1, V30.2.2.2.2.2.2.2.2.2.1, V40.1, V40.2.1, fun _ => rfl, fun _ => rfl⟩, HW, HX⟩
    case doneE =>
      rintro b a wy hb ⟨z, z154, z155, z160, z161, z177, z178, z185, z186, z195, z196, z201, rfl, HV, HW, HX⟩
      have e0 := (HV.out.1) (hb 0)
      have e1 := (HV.out.2.1) (hb 1)
      have e2 := (HV.out.2.2.1) (hb 2)
      have e3 := (HV.out.2.2.2.1) (hb 3)
      have e6 := (HV.out.2.2.2.2.1) (hb 6)
      have e7 := (HV.out.2.2.2.2.2.1) (hb 7)
      have e8 := (HV.out.2.2.2.2.2.2.1) (hb 8)
      have e9 := (HV.out.2.2.2.2.2.2.2.1) (hb 9)
      have e12 := (HV.out.2.2.2.2.2.2.2.2.1) (hb 12)
      have e13 := (HV.out.2.2.2.2.2.2.2.2.2.1) (hb 13)
      have e14 := (HV.out.2.2.2.2.2.2.2.2.2.2.1) (hb 14)
      have e15 := (HV.out.2.2.2.2.2.2.2.2.2.2.2.1) (hb 15)
      have e16 := (HV.out.2.2.2.2.2.2.2.2.2.2.2.2.1) (hb 16)
      have e17 := (HV.out.2.2.2.2.2.2.2.2.2.2.2.2.2.1) (hb 17)
      have e18 := (HV.out.2.2.2.2.2.2.2.2.2.2.2.2.2.2.1) (hb 18)
      have e19 := (HV.out.2.2.2.2.2.2.2.2.2.2.2.2.2.2.2.1) (hb 19)
      have e20 := (HV.out.2.2.2.2.2.2.2.2.2.2.2.2.2.2.2.2.1) (hb 20)
      have e21 := (HV.out.2.2.2.2.2.2.2.2.2.2.2.2.2.2.2.2.2.1) (hb 21)
      have e22 := (HV.out.2.2.2.2.2.2.2.2.2.2.2.2.2.2.2.2.2.2.1) (hb 22)
      have e23 := (HV.out.2.2.2.2.2.2.2.2.2.2.2.2.2.2.2.2.2.2.2.1) (hb 23)
      have e24 := (HV.out.2.2.2.2.2.2.2.2.2.2.2.2.2.2.2.2.2.2.2.2.1) (hb 24)
      have e25 := (HV.out.2.2.2.2.2.2.2.2.2.2.2.2.2.2.2.2.2.2.2.2.2.1) (hb 25)
      have e26 := (HV.out.2.2.2.2.2.2.2.2.2.2.2.2.2.2.2.2.2.2.2.2.2.2.1) (hb 26)
      have e29 := (HV.out.2.2.2.2.2.2.2.2.2.2.2.2.2.2.2.2.2.2.2.2.2.2.2.1) (hb 29)
      have e30 := (HV.out.2.2.2.2.2.2.2.2.2.2.2.2.2.2.2.2.2.2.2.2.2.2.2.2.1) (hb 30)
      have e31 := (HV.out.2.2.2.2.2.2.2.2.2.2.2.2.2.2.2.2.2.2.2.2.2.2.2.2.2.1) (hb 31)
      have e32 := (HV.out.2.2.2.2.2.2.2.2.2.2.2.2.2.2.2.2.2.2.2.2.2.2.2.2.2.2.1) (hb 32)
      have e33 := (HV.out.2.2.2.2.2.2.2.2.2.2.2.2.2.2.2.2.2.2.2.2.2.2.2.2.2.2.2.1) (hb 33)
      have e34 := (HV.out.2.2.2.2.2.2.2.2.2.2.2.2.2.2.2.2.2.2.2.2.2.2.2.2.2.2.2.2.1) (hb 34)
      have e37 := (HV.out.2.2.2.2.2.2.2.2.2.2.2.2.2.2.2.2.2.2.2.2.2.2.2.2.2.2.2.2.2.1) (hb 37)
      have e38 := (HV.out.2.2.2.2.2.2.2.2.2.2.2.2.2.2.2.2.2.2.2.2.2.2.2.2.2.2.2.2.2.2.1) (hb 38)
      have e39 := (HV.out.2.2.2.2.2.2.2.2.2.2.2.2.2.2.2.2.2.2.2.2.2.2.2.2.2.2.2.2.2.2.2.1) (hb 39)
      have e40 := (HV.out.2.2.2.2.2.2.2.2.2.2.2.2.2.2.2.2.2.2.2.2.2.2.2.2.2.2.2.2.2.2.2.2.1) (hb 40)
      have e41 := (HV.out.2.2.2.2.2.2.2.2.2.2.2.2.2.2.2.2.2.2.2.2.2.2.2.2.2.2.2.2.2.2.2.2.2.1) (hb 41)
      have e42 := (HV.out.2.2.2.2.2.2.2.2.2.2.2.2.2.2.2.2.2.2.2.2.2.2.2.2.2.2.2.2.2.2.2.2.2.2.1) (hb 42)
      have e43 := (HV.out.2.2.2.2.2.2.2.2.2.2.2.2.2.2.2.2.2.2.2.2.2.2.2.2.2.2.2.2.2.2.2.2.2.2.2.1) (hb 43)
      have e44 := (HV.out.2.2.2.2.2.2.2.2.2.2.2.2.2.2.2.2.2.2.2.2.2.2.2.2.2.2.2.2.2.2.2.2.2.2.2.2.1) (hb 44)
      have e47 := (HV.out.2.2.2.2.2.2.2.2.2.2.2.2.2.2.2.2.2.2.2.2.2.2.2.2.2.2.2.2.2.2.2.2.2.2.2.2.2.1) (hb 47)
      have e48 := (HV.out.2.2.2.2.2.2.2.2.2.2.2.2.2.2.2.2.2.2.2.2.2.2.2.2.2.2.2.2.2.2.2.2.2.2.2.2.2.2.1) (hb 48)
      have e49 := (HV.out.2.2.2.2.2.2.2.2.2.2.2.2.2.2.2.2.2.2.2.2.2.2.2.2.2.2.2.2.2.2.2.2.2.2.2.2.2.2.2.1) (hb 49)
      have e50 := (HV.out.2.2.2.2.2.2.2.2.2.2.2.2.2.2.2.2.2.2.2.2.2.2.2.2.2.2.2.2.2.2.2.2.2.2.2.2.2.2.2.2.1) (hb 50)
      have e52 := (HV.out.2.2.2.2.2.2.2.2.2.2.2.2.2.2.2.2.2.2.2.2.2.2.2.2.2.2.2.2.2.2.2.2.2.2.2.2.2.2.2.2.2.1) (hb 52)
      have e53 := (HV.out.2.2.2.2.2.2.2.2.2.2.2.2.2.2.2.2.2.2.2.2.2.2.2.2.2.2.2.2.2.2.2.2.2.2.2.2.2.2.2.2.2.2.1) (hb 53)
      have e54 := (HV.out.2.2.2.2.2.2.2.2.2.2.2.2.2.2.2.2.2.2.2.2.2.2.2.2.2.2.2.2.2.2.2.2.2.2.2.2.2.2.2.2.2.2.2) (hb 54)
      simp only [e0, e1, e2, e3, e6, e7, e8, e9, e12, e13, e14, e15, e16, e17, e18, e19, e20, e21, e22, e23, e24, e25, e26, e29, e30, e31, e32, e33, e34, e37, e38, e39, e40, e41, e42, e43, e44, e47, e48, e49, e50, e52, e53, e54]
      clear HV e0 e1 e2 e3 e6 e7 e8 e9 e12 e13 e14 e15 e16 e17 e18 e19 e20 e21 e22 e23 e24 e25 e26 e29 e30 e31 e32 e33 e34 e37 e38 e39 e40 e41 e42 e43 e44 e47 e48 e49 e50 e52 e53 e54
      have kz := HW.out
      clear HX HW hb
      go_wp2_with fail
      go_ret
      exact ⟨rfl, HB.out.trans (kz.mono HB.out.size)⟩
end Go.Proofs.Ytllopocekegljaa.No
