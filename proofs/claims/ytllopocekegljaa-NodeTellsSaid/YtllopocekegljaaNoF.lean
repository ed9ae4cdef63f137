/- Layer 12: contracts of without, span, halves. (Written by bin/gen_nof.py.) -/
import Derived.Test.YtllopocekegljaaNoE
namespace Go.Proofs.Ytllopocekegljaa.No
open Go.RowKit Go.Proofs.Ytllopocekegljaa.Oct Go.Proofs.Ytllopocekegljaa.Lf Go.Proofs.Ytllopocekegljaa.Mv
set_option linter.unusedVariables false
set_option linter.unusedSimpArgs false

/-- v is a node of the call's own. -/
def OwnD (w : World) (base : Nat) (v : Value) (l : Bool) (ks vs : List UInt64) : Prop := ∃ vk vv, v = .agg #[.bool l, vk, vv] ∧ OwnN w base vk ks ∧ OwnN w base vv vs
theorem OwnD.mono {w : World} {base base' : Nat} {v : Value} {l : Bool} {ks vs : List UInt64} (h : OwnD w base v l ks vs) (hb : base' ≤ base) : OwnD w base' v l ks vs := by
  obtain ⟨vk, vv, e, h1, h2⟩ := h
  exact ⟨vk, vv, e, own_mono h1 hb, own_mono h2 hb⟩
theorem OwnD.at {w w' : World} {base : Nat} {v : Value} {l : Bool} {ks vs : List UInt64} (h : OwnD w base v l ks vs) (k : Below w.heap.size w w') : OwnD w' base v l ks vs := by
  obtain ⟨vk, vv, e, h1, h2⟩ := h
  exact ⟨vk, vv, e, own_at h1 k, own_at h2 k⟩
theorem OwnD.row {w : World} {base q : Nat} {v : Value} {l : Bool} {ks vs : List UInt64} (h : OwnD w base v l ks vs) (cs : Array Value) (hq : q < base) : OwnD (w.setRow q cs) base v l ks vs := by
  obtain ⟨vk, vv, e, h1, h2⟩ := h
  exact ⟨vk, vv, e, own_row h1 cs hq, own_row h2 cs hq⟩
theorem OwnD.nd {w : World} {base : Nat} {v : Value} {l : Bool} {ks vs : List UInt64} (h : OwnD w base v l ks vs) : ∃ A c B d, v = .agg #[.bool l, .slice A ks.length c, .slice B vs.length d] ∧ Nd w A ks.length c B vs.length d ks vs := by
  obtain ⟨vk, vv, rfl, h1, h2⟩ := h
  obtain ⟨A, c, B, d, rfl, rfl, h3⟩ := own_nd h1 h2
  exact ⟨A, c, B, d, rfl, h3⟩
/-- The node v stands in block r. -/
def BoxD (w : World) (r : Nat) (v : Value) : Prop := ∃ x y z, v = .agg #[x, y, z] ∧ RowV w r 24 [x, y, z]
theorem BoxD.below {w w' : World} {r B : Nat} {v : Value} (h : BoxD w r v) (hr : r < B) (k : Below B w w') : BoxD w' r v := by
  obtain ⟨x, y, z, e, h⟩ := h
  exact ⟨x, y, z, e, h.below hr k⟩
theorem BoxD.other {w : World} {r q : Nat} {v : Value} (h : BoxD w r v) (cs : Array Value) (hq : r ≠ q) : BoxD (w.setRow q cs) r v := by
  obtain ⟨x, y, z, e, h⟩ := h
  exact ⟨x, y, z, e, row_other h cs hq⟩
theorem BoxD.lt {w : World} {r : Nat} {v : Value} (h : BoxD w r v) : r < w.heap.size := by
  obtain ⟨x, y, z, e, h⟩ := h
  exact h.lt
/-- A store of a node into a block that holds one. -/
theorem wp_store_d {o : Oper} {a : Act} {w : World} {K : Act → World → Prop} {Q : Exit → Act → World → Prop} (x y : Operand) (ho : o.op = .store 24 x y)
    (r base : Nat) (v v0 : Value) (l : Bool) (ks vs : List UInt64) (hx : a.eval x = .pointer (some ⟨r, 0, none⟩)) (hy : a.eval y = v) (hr : BoxD w r v0) (hv : OwnD w base v l ks vs)
    (h : ∀ cs, BoxD (w.setRow r cs) r v → K (a.put o.dst undef) (w.setRow r cs)) : o.wp Try.prog a w K Q := by
  obtain ⟨x0, y0, z0, rfl, hr⟩ := hr
  obtain ⟨vk, vv, rfl, h1, h2⟩ := hv
  exact wp_store_row 24 x y ho r #[.bool l, vk, vv] hx hy _ _ hr node_size rfl (ones l (own_one h1) (own_one h2)) (h _ ⟨_, _, _, rfl, row_set hr⟩)
theorem wpList_store_d {ops : Array Oper} {rest : List Oper} {o : Oper} {a : Act} {w : World} {Q : Exit → Act → World → Prop} (hgd : o.guard = none) (x y : Operand) (ho : o.op = .store 24 x y)
    (r base : Nat) (v v0 : Value) (l : Bool) (ks vs : List UInt64) (hx : a.eval x = .pointer (some ⟨r, 0, none⟩)) (hy : a.eval y = v) (hr : BoxD w r v0) (hv : OwnD w base v l ks vs)
    (h : ∀ cs, BoxD (w.setRow r cs) r v → wpList Try.prog ops Q rest (a.put o.dst undef) (w.setRow r cs)) : wpList Try.prog ops Q (o :: rest) a w :=
  wpList_plain hgd fun _ hK => wp_store_d x y ho r base v v0 l ks vs hx hy hr hv fun cs hc => hK _ _ (h cs hc)
theorem run_load_d {w : World} {r : Nat} {v : Value} (h : BoxD w r v) : (loadVar 24 ⟨r, 0, none⟩).run Try.prog w = .ok v w := by
  obtain ⟨x, y, z, rfl, h⟩ := h
  exact run_loadVar_row w r 24 _ _ (0, 0) _ h Try.underlying24 rfl node_size
theorem wp_load_d {o : Oper} {a : Act} {w : World} {K : Act → World → Prop} {Q : Exit → Act → World → Prop} (x : Operand) (ho : o.op = .load 24 x)
    (r : Nat) (v : Value) (hx : a.eval x = .pointer (some ⟨r, 0, none⟩)) (hr : BoxD w r v) (h : K (a.put o.dst v) w) : o.wp Try.prog a w K Q := by
  obtain ⟨x0, y0, z0, rfl, hr⟩ := hr
  exact wp_load_row 24 x ho r hx _ _ (0, 0) _ hr Try.underlying24 rfl node_size h
theorem wpList_load_d {ops : Array Oper} {rest : List Oper} {o : Oper} {a : Act} {w : World} {Q : Exit → Act → World → Prop} (hgd : o.guard = none) (x : Operand) (ho : o.op = .load 24 x)
    (r : Nat) (v : Value) (hx : a.eval x = .pointer (some ⟨r, 0, none⟩)) (hr : BoxD w r v) (h : wpList Try.prog ops Q rest (a.put o.dst v) w) : wpList Try.prog ops Q (o :: rest) a w :=
  wpList_plain hgd fun _ hK => wp_load_d x ho r v hx hr (hK _ _ h)
theorem res_one {fn : Func} {p : Tmp} (h : fn.results = #[.cell p 24]) (tmps : Array Value) {w : World} {r : Nat} {v : Value} (hp : tmps.getD p undef = .pointer (some ⟨r, 0, none⟩)) (hr : BoxD w r v) : (results fn tmps).run Try.prog w = .ok v w := by
  obtain ⟨x, y, z, rfl, hr⟩ := hr
  exact results_cell_row h tmps w r 24 _ (0, 0) _ hp hr Try.underlying24 rfl node_size
theorem res_two {fn : Func} {p q : Tmp} (h : fn.results = #[.cell p 24, .cell q 24]) (tmps : Array Value) {w : World} {r s : Nat} {u v : Value} (hp : tmps.getD p undef = .pointer (some ⟨r, 0, none⟩)) (hq : tmps.getD q undef = .pointer (some ⟨s, 0, none⟩)) (hr : BoxD w r u) (hs : BoxD w s v) : (results fn tmps).run Try.prog w = .ok (.tuple #[u, v]) w := by
  have hp' : tmps[p]?.getD undef = .pointer (some ⟨r, 0, none⟩) := by simpa using hp
  have hq' : tmps[q]?.getD undef = .pointer (some ⟨s, 0, none⟩) := by simpa using hq
  simp [results, h, hp', hq', asAddr, Sem.run_bind, Result.andThen, run_load_d hr, run_load_d hs]
theorem res_three {fn : Func} {p q x : Tmp} (h : fn.results = #[.cell p 24, .cell q 24, .tmp x]) (tmps : Array Value) {w : World} {r s : Nat} {u v : Value} (hp : tmps.getD p undef = .pointer (some ⟨r, 0, none⟩)) (hq : tmps.getD q undef = .pointer (some ⟨s, 0, none⟩)) (hr : BoxD w r u) (hs : BoxD w s v) : (results fn tmps).run Try.prog w = .ok (.tuple #[u, v, tmps.getD x undef]) w := by
  have hp' : tmps[p]?.getD undef = .pointer (some ⟨r, 0, none⟩) := by simpa using hp
  have hq' : tmps[q]?.getD undef = .pointer (some ⟨s, 0, none⟩) := by simpa using hq
  simp [results, h, hp', hq', asAddr, Sem.run_bind, Result.andThen, run_load_d hr, run_load_d hs]
theorem res_node {fn : Func} {p q x : Tmp} (h : fn.results = #[.cell p 24, .tmp q, .tmp x]) (tmps : Array Value) {w : World} {r : Nat} {u : Value} (hp : tmps.getD p undef = .pointer (some ⟨r, 0, none⟩)) (hr : BoxD w r u) : (results fn tmps).run Try.prog w = .ok (.tuple #[u, tmps.getD q undef, tmps.getD x undef]) w := by
  have hp' : tmps[p]?.getD undef = .pointer (some ⟨r, 0, none⟩) := by simpa using hp
  simp [results, h, hp', asAddr, Sem.run_bind, Result.andThen, run_load_d hr]

theorem row_d {w : World} {r : Nat} {x y z : Value} (h : RowV w r 24 [x, y, z]) : BoxD w r (.agg #[x, y, z]) := ⟨x, y, z, rfl, h⟩
/-- A node that came in stands in its box. -/
theorem box_d (w : World) (x y z : Value) : BoxD (w.alloc (.cells #[x, y, z] 24)) w.heap.size (.agg #[x, y, z]) := row_d (alloc_rowV _ _ _)
theorem BoxD.new {w : World} {r : Nat} {v : Value} (h : BoxD w r v) (o : Obj) : BoxD (w.alloc o) r v := h.below h.lt ((Below.refl _ _).alloc (Nat.le_refl _) o)
abbrev zeroD : Value := .agg #[.bool false, .slice none 0 0, .slice none 0 0]
theorem own_zero (w : World) (base : Nat) : OwnD w base zeroD false [] [] := ⟨_, _, rfl, own_nil _ _, own_nil _ _⟩

set_option maxRecDepth 100000 in
set_option maxHeartbeats 1000000 in
theorem without_any (l : Bool) {w : World} {A B : Option Addr} {n c d : Nat} {ks vs : List UInt64} (h : Nd w A n c B n d ks vs) (i j : Nat) (hi : i ≤ n) (hj : j ≤ n) (hsz : n ≤ 400) :
    Calls Try.prog 37 #[.agg #[.bool l, .slice A n c, .slice B n d], .int .i64 (i : Int), .int .i64 (j : Int)] w fun e w' => ∃ v, e = .returned v ∧ OwnD w' w.heap.size v l (cutIn ks i j []) (cutIn vs i j []) ∧ Below w.heap.size w w' := by
  have b1 := (Below.refl w.heap.size w).alloc (Nat.le_refl _) (.cells #[.bool l, .slice A n c, .slice B n d] 24)
  have BB := Lib.hid (b1.alloc b1.size (.cells #[.bool false, .slice none 0 0, .slice none 0 0] 24))
  have HN := Lib.hid (h.below BB.out)
  have HR := Lib.hid (box_d (w.alloc (.cells #[.bool l, .slice A n c, .slice B n d] 24)) (.bool false) (.slice none 0 0) (.slice none 0 0))
  rw [show (w.alloc (.cells #[.bool l, .slice A n c, .slice B n d] 24)).heap.size = w.heap.size + 1 by simp] at HR
  have hz := node_zero
  clear h b1
  go_enter Try.func37, Try.ntmps37
  go_wp2_with fail
  refine (change_any l HN.out i j hi hj (p := 0) (q := 0) (d1 := 0) (d2 := 0) (os := []) (ps := []) rfl rfl (.inl rfl) (.inl rfl) (by omega) (by omega)).mono ?_
  rintro e w3 ⟨vk, vv, rfl, o1, o2, B3⟩
  have HO := Lib.hid (show OwnD w3 (w.heap.size + 2) (.agg #[.bool l, vk, vv]) l _ _ from ⟨vk, vv, rfl, own_mono o1 (by simp), own_mono o2 (by simp)⟩)
  have HR3 := Lib.hid (HR.out.below HR.out.lt B3)
  have BB3 := Lib.hid (BB.out.trans (B3.mono BB.out.size))
  clear o1 o2 B3
  go_wp2_with (first | (refine wpList_store_d rfl (.tmp 6) (.tmp 10) rfl (w.heap.size + 1) (w.heap.size + 2) _ _ l _ _ rfl rfl HR3.out HO.out ?_; intro cs HC))
  refine bodyPost_ret (v := .agg #[.bool l, vk, vv]) (res_one rfl _ rfl HC) rfl ⟨_, rfl, (HO.out.row cs (by omega)).mono (by omega), BB3.out.trans (row_below cs (by omega))⟩

def upto (ns : List UInt64) (k : UInt64) : Nat := low ns k + (if k ∈ ns then 1 else 0)
theorem low_lt {ns : List UInt64} {k : UInt64} (h : k ∈ ns) : low ns k < ns.length := by
  unfold low
  rcases Nat.lt_or_ge (ns.countP fun x => decide (x.toNat < k.toNat)) ns.length with c | c
  · exact c
  · have e : (ns.countP fun x => decide (x.toNat < k.toNat)) = ns.length := Nat.le_antisymm List.countP_le_length c
    have := (List.countP_eq_length.1 e) k h
    simp at this
theorem upto_le (ns : List UInt64) (k : UInt64) : upto ns k ≤ ns.length := by
  unfold upto
  by_cases h : k ∈ ns
  · rw [if_pos h]
    have := low_lt h
    omega
  · rw [if_neg h]
    have := low_le ns k
    omega
theorem res_iii {fn : Func} {p q x : Tmp} (h : fn.results = #[.tmp p, .tmp q, .tmp x]) (tmps : Array Value) {w : World} : (results fn tmps).run Try.prog w = .ok (.tuple #[tmps.getD p undef, tmps.getD q undef, tmps.getD x undef]) w := by
  simp [results, h, Sem.run_bind, Result.andThen]

set_option maxRecDepth 100000 in
set_option maxHeartbeats 1000000 in
theorem span_any (l : Bool) {w : World} {A B : Option Addr} {n c m d : Nat} {ks vs : List UInt64} (h : Nd w A n c B m d ks vs) (hr : Rises ks) (hsz : n ≤ 400) (x y : UInt64) :
    Calls Try.prog 32 #[.agg #[.bool l, .slice A n c, .slice B m d], .int .u64 (x.toNat : Int), .int .u64 (y.toNat : Int)] w fun e w' => e = .returned (.tuple #[.int .i64 (low ks x : Nat), .int .i64 (max (low ks x) (upto ks y) : Nat), .bool (decide (low ks x < upto ks y))]) ∧ Below w.heap.size w w' := by
  have BB := Lib.hid ((Below.refl w.heap.size w).alloc (Nat.le_refl _) (.cells #[.bool l, .slice A n c, .slice B m d] 24))
  have HN := Lib.hid (h.below BB.out)
  have l1 := low_le ks x
  have l2 := low_le ks y
  have l3 := upto_le ks y
  have lk := h.kl
  have HS := Lib.hid hr
  clear h hr
  go_enter Try.func32, Try.ntmps32
  go_wp2_with fail
  refine (search_any A n c ks x HN.out.kl (by omega) _ HN.out.ks HS.out).mono ?_
  rintro e w3 ⟨rfl, S3⟩
  have BB3 := Lib.hid (BB.out.trans (S3.below _))
  have c1 := (S3.cell ⟨w.heap.size, 1, none⟩).trans (show (w.alloc (.cells #[.bool l, .slice A n c, .slice B m d] 24)).cell? ⟨w.heap.size, 1, none⟩ = some (.slice A n c) by simp)
  have HN3 := Lib.hid (HN.out.still S3)
  clear S3
  go_wp2_with fail
  refine (search_any A n c ks y HN3.out.kl (by omega) _ HN3.out.ks HS.out).mono ?_
  rintro e w4 ⟨rfl, S4⟩
  have BB4 := Lib.hid (BB3.out.trans (S4.below _))
  clear S4
  have HU := Lib.hid (show upto ks y = low ks y + (if y ∈ ks then 1 else 0) from rfl)
  by_cases hlt : low ks x < upto ks y
  · have hmx : max (low ks x) (upto ks y) = upto ks y := by omega
    by_cases hy : y ∈ ks
    · rw [decide_eq_true hy]
      have U := HU.out
      rw [if_pos hy] at U
      have hi1 : ((low ks y : Nat) : Int) + 1 = ((upto ks y : Nat) : Int) := by omega
      have hle : ¬ ((upto ks y : Nat) : Int) ≤ ((low ks x : Nat) : Int) := by omega
      have hlt' : ((low ks x : Nat) : Int) < ((upto ks y : Nat) : Int) := by omega
      clear U
      go_wp2_with fail
      refine bodyPost_ret (v := _) (res_iii rfl _) rfl ⟨?_, BB4.out⟩
      rw [hmx, decide_eq_true hlt]
      rfl
    · rw [decide_eq_false hy]
      have U := HU.out
      rw [if_neg hy, Nat.add_zero] at U
      have hle : ¬ ((upto ks y : Nat) : Int) ≤ ((low ks x : Nat) : Int) := by omega
      have hlt' : ((low ks x : Nat) : Int) < ((upto ks y : Nat) : Int) := by omega
      rw [← U]
      clear U
      go_wp2_with fail
      refine bodyPost_ret (v := _) (res_iii rfl _) rfl ⟨?_, BB4.out⟩
      rw [hmx, decide_eq_true hlt]
      rfl
  · have hmx : max (low ks x) (upto ks y) = low ks x := by omega
    by_cases hy : y ∈ ks
    · rw [decide_eq_true hy]
      have U := HU.out
      rw [if_pos hy] at U
      have hi1 : ((low ks y : Nat) : Int) + 1 = ((upto ks y : Nat) : Int) := by omega
      have hle : ((upto ks y : Nat) : Int) ≤ ((low ks x : Nat) : Int) := by omega
      have hlt' : ¬ ((low ks x : Nat) : Int) < ((upto ks y : Nat) : Int) := by omega
      clear U
      go_wp2_with fail
      refine bodyPost_ret (v := _) (res_iii rfl _) rfl ⟨?_, BB4.out⟩
      rw [hmx, decide_eq_false hlt]
      rfl
    · rw [decide_eq_false hy]
      have U := HU.out
      rw [if_neg hy, Nat.add_zero] at U
      have hle : ((upto ks y : Nat) : Int) ≤ ((low ks x : Nat) : Int) := by omega
      have hlt' : ¬ ((low ks x : Nat) : Int) < ((upto ks y : Nat) : Int) := by omega
      rw [← U]
      clear U
      go_wp2_with fail
      refine bodyPost_ret (v := _) (res_iii rfl _) rfl ⟨?_, BB4.out⟩
      rw [hmx, decide_eq_false hlt]
      rfl
end Go.Proofs.Ytllopocekegljaa.No
