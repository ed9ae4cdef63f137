/- Layer 12: two lists that grow in a node's variable; the contract of leaf, catchmentlaw12's own. (Written by bin/gen_nol.py.) -/
import Derived.Test.YtllopocekegljaaNoK
import Derived.IntWalk
namespace Go.Proofs.Ytllopocekegljaa.No
open Go.RowKit Go.Proofs.Ytllopocekegljaa.Oct Go.Proofs.Ytllopocekegljaa.Lf Go.Proofs.Ytllopocekegljaa.Mv
set_option linter.unusedVariables false
set_option linter.unusedSimpArgs false

/-- A node's variable q with two lists; two rows of the call's own, apart. -/
structure Twin (w : World) (base q : Nat) (l : Bool) (a1 a2 cK cV : Value) (kn vn : List UInt64) : Prop where
  row : RowV w q 24 [.bool l, a1, a2]
  ok : OwnN w base cK kn
  ov : OwnN w base cV vn
  ne : ∀ k, cK.ownBlock = some k → cV.ownBlock ≠ some k
  qb : q < base
  bw : base ≤ w.heap.size
theorem Twin.far {w w' : World} {base q : Nat} {l : Bool} {a1 a2 cK cV : Value} {kn vn : List UInt64} (h : Twin w base q l a1 a2 cK cV kn vn) (k : Below w.heap.size w w') : Twin w' base q l a1 a2 cK cV kn vn :=
  ⟨h.row.below h.row.lt k, own_at h.ok k, own_at h.ov k, h.ne, h.qb, Nat.le_trans h.bw k.size⟩
theorem Twin.appK {w w' : World} {base q : Nat} {l : Bool} {a1 a2 cK cV v' : Value} {kn vn ns : List UInt64} (h : Twin w base q l a1 a2 cK cV kn vn) (ho : OwnN w' base v' ns) (hg : w.grownBy w' cK.ownBlock) (hl : v'.ownBlock = cK.ownBlock ∨ v'.ownBlock = some w.heap.size) : Twin w' base q l a1 a2 v' cV ns vn := by
  have hq := h.qb
  have hb := h.bw
  refine ⟨h.row.block (hg.block q (by omega) (fun e => ?_)), ho, h.ov.same (fun k e hk => hg.block k hk (fun e2 => h.ne k e2.symm e)), fun k e e2 => ?_, hq, Nat.le_trans hb hg.size⟩
  · have := (World.ownsRow.lt h.ok q e.symm).1
    omega
  · rcases hl with hl | hl
    · exact h.ne k (by rw [← hl]; exact e) e2
    · have h1 : k = w.heap.size := by rw [hl] at e; exact (Option.some.inj e).symm
      have h2 := (World.ownsRow.lt h.ov k e2).2
      omega
theorem Twin.appV {w w' : World} {base q : Nat} {l : Bool} {a1 a2 cK cV v' : Value} {kn vn ns : List UInt64} (h : Twin w base q l a1 a2 cK cV kn vn) (ho : OwnN w' base v' ns) (hg : w.grownBy w' cV.ownBlock) (hl : v'.ownBlock = cV.ownBlock ∨ v'.ownBlock = some w.heap.size) : Twin w' base q l a1 a2 cK v' kn ns := by
  have hq := h.qb
  have hb := h.bw
  refine ⟨h.row.block (hg.block q (by omega) (fun e => ?_)), h.ok.same (fun k e hk => hg.block k hk (fun e2 => h.ne k e e2.symm)), ho, fun k e e2 => ?_, hq, Nat.le_trans hb hg.size⟩
  · have := (World.ownsRow.lt h.ov q e.symm).1
    omega
  · rcases hl with hl | hl
    · exact h.ne k e (by rw [← hl]; exact e2)
    · have h1 : k = w.heap.size := by rw [hl] at e2; exact (Option.some.inj e2).symm
      have h2 := (World.ownsRow.lt h.ok k e).2
      omega
theorem Twin.set1 {w : World} {base q : Nat} {l : Bool} {a1 a2 cK cV : Value} {kn vn : List UInt64} (h : Twin w base q l a1 a2 cK cV kn vn) (x : Value) : Twin (w.setCell ⟨q, 1, none⟩ x) base q l x a2 cK cV kn vn :=
  ⟨h.row.set 1 x, h.ok.same (fun k e _ => heap_setCell_other _ _ _ _ (by have := (World.ownsRow.lt h.ok k e).1; have := h.qb; show k ≠ q; omega)), h.ov.same (fun k e _ => heap_setCell_other _ _ _ _ (by have := (World.ownsRow.lt h.ov k e).1; have := h.qb; show k ≠ q; omega)), h.ne, h.qb, by simpa using h.bw⟩
theorem Twin.set2 {w : World} {base q : Nat} {l : Bool} {a1 a2 cK cV : Value} {kn vn : List UInt64} (h : Twin w base q l a1 a2 cK cV kn vn) (x : Value) : Twin (w.setCell ⟨q, 2, none⟩ x) base q l a1 x cK cV kn vn :=
  ⟨h.row.set 2 x, h.ok.same (fun k e _ => heap_setCell_other _ _ _ _ (by have := (World.ownsRow.lt h.ok k e).1; have := h.qb; show k ≠ q; omega)), h.ov.same (fun k e _ => heap_setCell_other _ _ _ _ (by have := (World.ownsRow.lt h.ov k e).1; have := h.qb; show k ≠ q; omega)), h.ne, h.qb, by simpa using h.bw⟩
/-- A number in a row of its own, apart from two others. -/
def Lone (w : World) (v : Value) (x : UInt64) (cK cV : Value) (lo : Nat) : Prop := ∃ g, v = .slice (some ⟨g, 0, none⟩) 1 1 ∧ lo ≤ g ∧ g < w.heap.size ∧ cK.ownBlock ≠ some g ∧ cV.ownBlock ≠ some g ∧ w.cell? ⟨g, 0, none⟩ = some (.int .u64 (x.toNat : Int))
theorem Lone.far {w w' : World} {v : Value} {x : UInt64} {cK cV : Value} {lo : Nat} (h : Lone w v x cK cV lo) (k : Below w.heap.size w w') : Lone w' v x cK cV lo := by
  obtain ⟨g, e, h1, h2, h3, h4, h5⟩ := h
  exact ⟨g, e, h1, Nat.lt_of_lt_of_le h2 k.size, h3, h4, (k.cell (p := ⟨g, 0, none⟩) h2).trans h5⟩
theorem Lone.new {w : World} {base q : Nat} {l : Bool} {a1 a2 cK cV : Value} {kn vn : List UInt64} (h : Twin w base q l a1 a2 cK cV kn vn) (x : UInt64) {lo : Nat} (hlo : lo ≤ w.heap.size) : Lone (w.alloc (.cells #[.int .u64 (x.toNat : Int)] 25)) (.slice (some ⟨w.heap.size, 0, none⟩) 1 1) x cK cV lo :=
  ⟨_, rfl, hlo, by simp, fun e => by have := (World.ownsRow.lt h.ok _ e).2; omega, fun e => by have := (World.ownsRow.lt h.ov _ e).2; omega, by simp⟩
theorem Lone.appK {w w' : World} {v : Value} {x : UInt64} {cK cV v' : Value} {lo : Nat} (h : Lone w v x cK cV lo) (hg : w.grownBy w' cK.ownBlock) (hl : v'.ownBlock = cK.ownBlock ∨ v'.ownBlock = some w.heap.size) : Lone w' v x v' cV lo := by
  obtain ⟨g, e, h1, h2, h3, h4, h5⟩ := h
  refine ⟨g, e, h1, Nat.lt_of_lt_of_le h2 hg.size, fun e2 => ?_, h4, (World.cell?_of_block (hg.block g h2 (fun e2 => h3 e2.symm))).trans h5⟩
  rcases hl with hl | hl
  · exact h3 (by rw [← hl]; exact e2)
  · rw [hl] at e2
    have := Option.some.inj e2
    omega
theorem Lone.appV {w w' : World} {v : Value} {x : UInt64} {cK cV v' : Value} {lo : Nat} (h : Lone w v x cK cV lo) (hg : w.grownBy w' cV.ownBlock) (hl : v'.ownBlock = cV.ownBlock ∨ v'.ownBlock = some w.heap.size) : Lone w' v x cK v' lo := by
  obtain ⟨g, e, h1, h2, h3, h4, h5⟩ := h
  refine ⟨g, e, h1, Nat.lt_of_lt_of_le h2 hg.size, h3, fun e2 => ?_, (World.cell?_of_block (hg.block g h2 (fun e2 => h4 e2.symm))).trans h5⟩
  rcases hl with hl | hl
  · exact h4 (by rw [← hl]; exact e2)
  · rw [hl] at e2
    have := Option.some.inj e2
    omega
theorem Lone.set {w : World} {v : Value} {x : UInt64} {cK cV : Value} {lo q i : Nat} (h : Lone w v x cK cV lo) (hq : q < lo) (y : Value) : Lone (w.setCell ⟨q, i, none⟩ y) v x cK cV lo := by
  obtain ⟨g, e, h1, h2, h3, h4, h5⟩ := h
  exact ⟨g, e, h1, by simpa using h2, h3, h4, (World.cell?_setCell_other _ _ _ _ (fun e => by have := (Addr.mk.inj e).1; omega)).trans h5⟩

/-- An append of a lone number. -/
theorem run_append_lone (w : World) (base : Nat) (ty : TypeId) (v : Value) (xs : List UInt64) (hown : OwnN w base v xs) (g : Nat) (x : UInt64) (hc : w.cell? ⟨g, 0, none⟩ = some (.int .u64 (x.toNat : Int))) (hbase : base ≤ w.heap.size) (hsz : xs.length ≤ 1000) :
    ∃ v' w', (Builtin.append_ #[22, 22] ty #[v, .slice (some ⟨g, 0, none⟩) 1 1]).run Try.prog w = .ok v' w' ∧ OwnN w' base v' (xs ++ [x]) ∧ w.grownBy w' v.ownBlock ∧ (v'.ownBlock = v.ownBlock ∨ v'.ownBlock = some w.heap.size) :=
  run_append_any w base ty v xs hown (some ⟨g, 0, none⟩) 1 1 [x] rfl (.inr ⟨g, 0, rfl, fun i hi => by
    obtain rfl : i = 0 := by simpa using hi
    exact hc⟩) hbase (by omega)
def tens (ks : List UInt64) : List UInt64 := ks.map (10 * ·)
theorem leaf_size (w : World) : (zeroValue 24).run Try.prog w = .ok (.agg #[.bool false, .slice none 0 0, .slice none 0 0]) w := node_zero w
theorem node_start : Try.prog.built 24 [(0, .bool true)] = some #[.bool true, .slice none 0 0, .slice none 0 0] := by kernel_rfl
theorem ten_times (x : UInt64) (h : x.toNat ≤ 100) : (10 : Int) * (x.toNat : Int) = ((10 * x).toNat : Int) := by
  rw [UInt64.toNat_mul]
  have : (10 : UInt64).toNat = 10 := rfl
  rw [this, Nat.mod_eq_of_lt (by omega)]
  omega

set_option maxRecDepth 100000 in
set_option maxHeartbeats 4000000 in
theorem leaf_any {w : World} {gk n c : Nat} {ks : List UInt64} (hn : ks.length = n) (h : HasN w gk 0 ks) (hs : ∀ x ∈ ks, x.toNat ≤ 100) (h9 : n ≤ 100) :
    Calls Try.prog 29 #[.slice (some ⟨gk, 0, none⟩) n c] w fun e w' => ∃ v, e = .returned v ∧ OwnD w' w.heap.size v true ks (tens ks) ∧ Below w.heap.size w w' := by
  have HK := Lib.hid h
  have HS := Lib.hid hs
  have HL := Lib.hid hn
  have hz := node_zero
  have b1 := (Below.refl w.heap.size w).alloc (Nat.le_refl _) (.cells #[.bool false, .slice none 0 0, .slice none 0 0] 24)
  have BB := Lib.hid (b1.alloc b1.size (.cells #[.bool false, .slice none 0 0, .slice none 0 0] 24))
  have HR := Lib.hid ((box_d w (.bool false) (.slice none 0 0) (.slice none 0 0)).new (.cells #[.bool false, .slice none 0 0, .slice none 0 0] 24))
  have HQ := Lib.hid (box_d (w.alloc (.cells #[.bool false, .slice none 0 0, .slice none 0 0] 24)) (.bool false) (.slice none 0 0) (.slice none 0 0))
  rw [show (w.alloc (.cells #[.bool false, .slice none 0 0, .slice none 0 0] 24)).heap.size = w.heap.size + 1 by simp] at HQ
  have hs2 : ((w.alloc (.cells #[.bool false, .slice none 0 0, .slice none 0 0] 24)).alloc (.cells #[.bool false, .slice none 0 0, .slice none 0 0] 24)).heap.size = w.heap.size + 2 := by simp
  clear h hs hn b1
  go_enter Try.func29, Try.ntmps29
  go_wp2_with (first | (refine wpList_build_as rfl 24 #[(0, .const (.bool true))] rfl #[.bool true, .slice none 0 0, .slice none 0 0] (by simp [Act.eval]; exact node_start) ?_) | (refine wpList_store_d rfl (.tmp 3) (.tmp 6) rfl (w.heap.size + 1) 0 (.agg #[.bool true, .slice none 0 0, .slice none 0 0]) _ true [] [] rfl rfl HQ.out ⟨_, _, rfl, own_nil _ _, own_nil _ _⟩ ?_; intro cs HC))
  have HT := Lib.hid (show Twin (((w.alloc (.cells #[.bool false, .slice none 0 0, .slice none 0 0] 24)).alloc (.cells #[.bool false, .slice none 0 0, .slice none 0 0] 24)).setRow (w.heap.size + 1) cs) (w.heap.size + 2) (w.heap.size + 1) true (.slice none 0 0) (.slice none 0 0) (.slice none 0 0) (.slice none 0 0) [] (tens []) from ⟨HC.of, own_nil _ _, own_nil _ _, fun k e => (by cases e), by omega, by simp⟩)
  have HR2 := Lib.hid (HR.out.other cs (show w.heap.size ≠ w.heap.size + 1 by omega))
  have BB2 := Lib.hid (BB.out.trans (row_below cs (show w.heap.size ≤ w.heap.size + 1 by omega)))
  clear HC HQ HR BB
  generalize ((w.alloc (.cells #[.bool false, .slice none 0 0, .slice none 0 0] 24)).alloc (.cells #[.bool false, .slice none 0 0, .slice none 0 0] 24)).setRow (w.heap.size + 1) cs = w2 at *
  clear hs2
  go_loopw [9] (fun i wr => ∃ j : Nat, j ≤ n ∧ i = .int .i64 (j : Int) ∧ Hid (∃ vK vV, Twin wr (w.heap.size + 2) (w.heap.size + 1) true vK vV vK vV (ks.take j) (tens (ks.take j))) ∧ Hid (BoxD wr w.heap.size zeroD) ∧ Hid (Below w.heap.size w wr)) (fun i _ => n - (intOf i).toNat)
  case atStart => exact ⟨0, Nat.zero_le _, rfl, Lib.hid ⟨_, _, HT.out⟩, HR2, BB2⟩
  case round =>
    obtain ⟨j, hj, rfl, HT, HR, HB⟩ := hrel
    by_cases hlt : j < n
    · have hjl : j < ks.length := by rw [HL.out]; exact hlt
      have hgl := HK.out.lt (by omega)
      have ck := (HB.out.cell (p := ⟨gk, 0 + j, none⟩) hgl).trans (HK.out j hjl)
      rw [Nat.zero_add] at ck
      have hx9 := HS.out _ (List.getElem_mem hjl)
      have et : ks.take (j + 1) = ks.take j ++ [ks[j]] := List.take_succ_eq_append_getElem hjl
      have ev : tens (ks.take (j + 1)) = tens (ks.take j) ++ [10 * ks[j]] := by rw [et]; unfold tens; rw [List.map_append]; rfl
      have hl1 : (ks.take j).length ≤ 100 := by rw [List.length_take]; omega
      have hl2 : (tens (ks.take j)).length ≤ 100 := by unfold tens; rw [List.length_map]; exact hl1
      obtain ⟨x, hx⟩ : ∃ x, x = ks[j] := ⟨_, rfl⟩
      rw [← hx] at ck hx9 et ev
      have h10 := ten_times x hx9
      obtain ⟨y, hy⟩ : ∃ y, y = 10 * x := ⟨_, rfl⟩
      rw [← hy] at h10 ev
      have ET := Lib.hid et
      have EV := Lib.hid ev
      clear hy
      clear hx et ev
      generalize ks.take j = kn at *
      generalize hvn : tens kn = vn at *
      clear hvn
      obtain ⟨vK, vV, HT⟩ := HT.out
      have HTW := Lib.hid HT
      clear HT
      go_upto_region 5 with (fail)
      obtain ⟨w5, hw5⟩ : ∃ x, x = wr := ⟨_, rfl⟩
      subst hw5
      refine Inv2.wp_region_inv (fun b a wy => ∃ (z : Nat → Value) (z16 : Value) (z17 : Value) (z22 : Value) (z23 : Value), a = ⟨#[Value.slice (some ⟨gk, 0, none⟩) n c, undef, Value.pointer (some ⟨w.heap.size, 0, none⟩), Value.pointer (some ⟨w.heap.size + 1, 0, none⟩), undef, Value.int IntKind.u64 ↑x.toNat, Value.agg #[Value.bool true, Value.slice none 0 0, Value.slice none 0 0], Value.slice (some ⟨gk, 0, none⟩) n c, Value.int IntKind.i64 (n : Int), Value.int IntKind.i64 (j : Int), Value.bool true, Value.pointer (some ⟨gk, j, none⟩), Value.int IntKind.u64 ↑x.toNat, (z 13), (z 14), (z 15), z16, z17, (z 18), (z 19), (z 20), (z 21), z22, z23, (z 24), (z 25), u26, undef], []⟩ ∧ Hid ((b 0 = true → (z 13) = .pointer (some ⟨w.heap.size + 1, 1, none⟩)) ∧ (b 1 = true → (z 14) = vK) ∧ (b 2 = true → (z 15) = Value.int IntKind.u64 ↑x.toNat) ∧ (b 5 = true → (z 18) = .pointer (some ⟨w.heap.size + 1, 2, none⟩)) ∧ (b 6 = true → (z 19) = vV) ∧ (b 7 = true → (z 20) = Value.int IntKind.u64 ↑x.toNat) ∧ (b 8 = true → (z 21) = .int .u64 (y.toNat : Int)) ∧ (b 11 = true → (z 24) = .pointer (some ⟨w.heap.size + 1, 1, none⟩)) ∧ (b 13 = true → (z 25) = .pointer (some ⟨w.heap.size + 1, 2, none⟩))) ∧ Hid (Below (w.heap.size + 1) w5 wy) ∧ Hid (∃ a1 a2 cK cV kn' vn', Twin wy (w.heap.size + 2) (w.heap.size + 1) true a1 a2 cK cV kn' vn' ∧ BoxD wy w.heap.size zeroD ∧ (b 4 = false → cK = vK ∧ kn' = kn) ∧ (b 4 = true → b 1 = true ∧ b 3 = true ∧ cK = z17 ∧ kn' = kn ++ [x]) ∧ (b 10 = false → cV = vV ∧ vn' = vn) ∧ (b 10 = true → b 6 = true ∧ b 9 = true ∧ cV = z23 ∧ vn' = vn ++ [y]) ∧ (b 12 = false → a1 = vK) ∧ (b 12 = true → b 4 = true ∧ a1 = z17) ∧ (b 14 = false → a2 = vV) ∧ (b 14 = true → b 10 = true ∧ a2 = z23) ∧ (b 3 = true → b 4 = false → Lone wy z16 x cK cV (w.heap.size + 2)) ∧ (b 9 = true → b 10 = false → Lone wy z22 y cK cV (w.heap.size + 2)))) (by kernel_rfl) (by kernel_rfl) ?startD ?stepsD ?doneD
      case startD =>
        intro b hb
        refine ⟨fun s => if s = 13 then u13 else if s = 14 then u14 else if s = 15 then u15 else if s = 18 then u18 else if s = 19 then u19 else if s = 20 then u20 else if s = 21 then u21 else if s = 24 then u24 else if s = 25 then u25 else undef, u16, u17, u22, u23, rfl, Lib.hid ⟨?_, ?_, ?_, ?_, ?_, ?_, ?_, ?_, ?_⟩, Lib.hid ((show Still w5 w5.drew from ⟨rfl, rfl, rfl, rfl⟩).below _), Lib.hid (⟨vK, vV, vK, vV, kn, vn, HTW.out.far ((show Still w5 w5.drew from ⟨rfl, rfl, rfl, rfl⟩).below _), HR.out.below HR.out.lt ((show Still w5 w5.drew from ⟨rfl, rfl, rfl, rfl⟩).below _), fun _ => ⟨rfl, rfl⟩, (fun e => by rw [hb _ (by decide)] at e; cases e), fun _ => ⟨rfl, rfl⟩, (fun e => by rw [hb _ (by decide)] at e; cases e), fun _ => rfl, (fun e => by rw [hb _ (by decide)] at e; cases e), fun _ => rfl, (fun e => by rw [hb _ (by decide)] at e; cases e), (fun e => by rw [hb _ (by decide)] at e; cases e), (fun e => by rw [hb _ (by decide)] at e; cases e)⟩)⟩
        all_goals (intro e; first | rfl | (rw [hb _ (by decide)] at e; cases e))
      case stepsD =>
        refine ⟨?_, ?_, ?_, ?_, ?_, ?_, ?_, ?_, ?_, ?_, ?_, ?_, ?_, ?_, ?_, trivial⟩
        · rintro b a wy hb hd ⟨z, z16, z17, z22, z23, rfl, HV, HW, HX⟩ K hK
          clear hd
          go_simp
          have V := HV.out
          exact hK _ _ ⟨fun s => if s = 13 then .pointer (some ⟨w.heap.size + 1, 1, none⟩) else z s, _, _, _, _, rfl, Lib.hid ⟨fun _ => rfl, V.2.1, V.2.2.1, V.2.2.2.1, V.2.2.2.2.1, V.2.2.2.2.2.1, V.2.2.2.2.2.2.1, V.2.2.2.2.2.2.2.1, V.2.2.2.2.2.2.2.2⟩, HW, HX⟩
        · rintro b a wy hb hd ⟨z, z16, z17, z22, z23, rfl, HV, HW, HX⟩ K hK
          simp [Region.binds] at hd
          have e0 : (z 13) = .pointer (some ⟨w.heap.size + 1, 1, none⟩) := (HV.out.1) (by simp [hd])
          clear hd
          obtain ⟨a1, a2, cK, cV, kn', vn', xt, xb, x4f, x4, x10f, x10, x12f, x12, x14f, x14, xl3, xl9⟩ := HX.out
          have b4 : b 4 = false := by
              rcases Bool.eq_false_or_eq_true (b 4) with e | e
              · exact absurd (hb.symm.trans (x4 e).1) (by decide)
              · exact e
          have b12 : b 12 = false := by
              rcases Bool.eq_false_or_eq_true (b 12) with e | e
              · exact absurd (hb.symm.trans (x4 (x12 e).1).1) (by decide)
              · exact e
          have ea := x12f b12
          have c1 := xt.row.cellAt (i := 1) rfl
          replace c1 := c1.trans (congrArg some ea)
          clear ea
          go_simp
          have V := HV.out
          exact hK _ _ ⟨fun s => if s = 14 then vK else if s = 13 then .pointer (some ⟨w.heap.size + 1, 1, none⟩) else z s, _, _, _, _, rfl, Lib.hid ⟨fun _ => rfl, fun _ => rfl, V.2.2.1, V.2.2.2.1, V.2.2.2.2.1, V.2.2.2.2.2.1, V.2.2.2.2.2.2.1, V.2.2.2.2.2.2.2.1, V.2.2.2.2.2.2.2.2⟩, HW, Lib.hid ⟨a1, a2, cK, cV, kn', vn', xt, xb, x4f, fun e => absurd (b4.symm.trans e) (by decide), x10f, x10, x12f, x12, x14f, x14, xl3, xl9⟩⟩
        · rintro b a wy hb hd ⟨z, z16, z17, z22, z23, rfl, HV, HW, HX⟩ K hK
          clear hd
          go_simp
          have V := HV.out
          exact hK _ _ ⟨fun s => if s = 15 then Value.int IntKind.u64 ↑x.toNat else z s, _, _, _, _, rfl, Lib.hid ⟨V.1, V.2.1, fun _ => rfl, V.2.2.2.1, V.2.2.2.2.1, V.2.2.2.2.2.1, V.2.2.2.2.2.2.1, V.2.2.2.2.2.2.2.1, V.2.2.2.2.2.2.2.2⟩, HW, HX⟩
        · rintro b a wy hb hd ⟨z, z16, z17, z22, z23, rfl, HV, HW, HX⟩ K hK
          simp [Region.binds] at hd
          have e2 : (z 15) = Value.int IntKind.u64 ↑x.toNat := (HV.out.2.2.1) (by simp [hd])
          clear hd
          obtain ⟨a1, a2, cK, cV, kn', vn', xt, xb, x4f, x4, x10f, x10, x12f, x12, x14f, x14, xl3, xl9⟩ := HX.out
          have b4 : b 4 = false := by
              rcases Bool.eq_false_or_eq_true (b 4) with e | e
              · exact absurd (hb.symm.trans (x4 e).2.1) (by decide)
              · exact e
          have qa := Lib.hid ((Below.refl wy.heap.size wy).alloc (Nat.le_refl _) (.cells #[.int .u64 (x.toNat : Int)] 25))
          have LN := Lib.hid (Lone.new xt x (lo := (w.heap.size + 2)) xt.bw)
          go_simp
          have V := HV.out
          exact hK _ _ ⟨fun s => if s = 15 then Value.int IntKind.u64 ↑x.toNat else z s, _, _, _, _, rfl, Lib.hid ⟨V.1, V.2.1, fun _ => rfl, V.2.2.2.1, V.2.2.2.2.1, V.2.2.2.2.2.1, V.2.2.2.2.2.2.1, V.2.2.2.2.2.2.2.1, V.2.2.2.2.2.2.2.2⟩, Lib.hid (HW.out.trans (qa.out.mono (by have := xt.bw; omega))), Lib.hid ⟨a1, a2, cK, cV, kn', vn', xt.far qa.out, xb.new _, x4f, fun e => absurd (b4.symm.trans e) (by decide), x10f, x10, x12f, x12, x14f, x14, fun _ _ => LN.out, fun e e' => (xl9 e e').far qa.out⟩⟩
        · rintro b a wy hb hd ⟨z, z16, z17, z22, z23, rfl, HV, HW, HX⟩ K hK
          simp [Region.binds] at hd
          have e1 : (z 14) = vK := (HV.out.2.1) (by simp [hd])
          have dd3 : b 3 = true := by simp [hd]
          have dd1 : b 1 = true := by simp [hd]
          clear hd
          obtain ⟨a1, a2, cK, cV, kn', vn', xt, xb, x4f, x4, x10f, x10, x12f, x12, x14f, x14, xl3, xl9⟩ := HX.out
          have b12 : b 12 = false := by
              rcases Bool.eq_false_or_eq_true (b 12) with e | e
              · exact absurd (hb.symm.trans (x12 e).1) (by decide)
              · exact e
          obtain ⟨ec, ek⟩ := x4f hb
          subst cK
          subst kn'
          obtain ⟨g, zz, g1, g2, g3, g4, g5⟩ := xl3 dd3 hb
          subst zz
          obtain ⟨v', wn, hrun, on, gn, ln⟩ := run_append_lone wy (w.heap.size + 2) 22 vK kn xt.ok g x g5 xt.bw (by omega)
          have kz := own_below xt.ok xt.bw gn
          rw [e1]
          refine if_wanted (by rfl) (Lib.wp_append_run _ (.tmp 14) (.tmp 16) 22 22 rfl _ _ rfl rfl _ _ hrun ?_)
          have V := HV.out
          exact hK _ _ ⟨fun s => if s = 14 then vK else z s, _, _, _, _, rfl, Lib.hid ⟨V.1, fun _ => rfl, V.2.2.1, V.2.2.2.1, V.2.2.2.2.1, V.2.2.2.2.2.1, V.2.2.2.2.2.2.1, V.2.2.2.2.2.2.2.1, V.2.2.2.2.2.2.2.2⟩, Lib.hid (HW.out.trans (kz.mono (by omega))), Lib.hid ⟨a1, a2, _, cV, _, vn', xt.appK on gn ln, xb.below (by omega) kz, fun e => (by cases e), fun _ => ⟨dd1, dd3, rfl, rfl⟩, x10f, x10, x12f, fun e => absurd (b12.symm.trans e) (by decide), x14f, x14, fun _ e => (by cases e), fun e e' => (xl9 e e').appK gn ln⟩⟩
        · rintro b a wy hb hd ⟨z, z16, z17, z22, z23, rfl, HV, HW, HX⟩ K hK
          clear hd
          go_simp
          have V := HV.out
          exact hK _ _ ⟨fun s => if s = 18 then .pointer (some ⟨w.heap.size + 1, 2, none⟩) else z s, _, _, _, _, rfl, Lib.hid ⟨V.1, V.2.1, V.2.2.1, fun _ => rfl, V.2.2.2.2.1, V.2.2.2.2.2.1, V.2.2.2.2.2.2.1, V.2.2.2.2.2.2.2.1, V.2.2.2.2.2.2.2.2⟩, HW, HX⟩
        · rintro b a wy hb hd ⟨z, z16, z17, z22, z23, rfl, HV, HW, HX⟩ K hK
          simp [Region.binds] at hd
          have e5 : (z 18) = .pointer (some ⟨w.heap.size + 1, 2, none⟩) := (HV.out.2.2.2.1) (by simp [hd])
          clear hd
          obtain ⟨a1, a2, cK, cV, kn', vn', xt, xb, x4f, x4, x10f, x10, x12f, x12, x14f, x14, xl3, xl9⟩ := HX.out
          have b10 : b 10 = false := by
              rcases Bool.eq_false_or_eq_true (b 10) with e | e
              · exact absurd (hb.symm.trans (x10 e).1) (by decide)
              · exact e
          have b14 : b 14 = false := by
              rcases Bool.eq_false_or_eq_true (b 14) with e | e
              · exact absurd (hb.symm.trans (x10 (x14 e).1).1) (by decide)
              · exact e
          have ea := x14f b14
          have c2 := xt.row.cellAt (i := 2) rfl
          replace c2 := c2.trans (congrArg some ea)
          clear ea
          go_simp
          have V := HV.out
          exact hK _ _ ⟨fun s => if s = 19 then vV else if s = 18 then .pointer (some ⟨w.heap.size + 1, 2, none⟩) else z s, _, _, _, _, rfl, Lib.hid ⟨V.1, V.2.1, V.2.2.1, fun _ => rfl, fun _ => rfl, V.2.2.2.2.2.1, V.2.2.2.2.2.2.1, V.2.2.2.2.2.2.2.1, V.2.2.2.2.2.2.2.2⟩, HW, Lib.hid ⟨a1, a2, cK, cV, kn', vn', xt, xb, x4f, x4, x10f, fun e => absurd (b10.symm.trans e) (by decide), x12f, x12, x14f, x14, xl3, xl9⟩⟩
        · rintro b a wy hb hd ⟨z, z16, z17, z22, z23, rfl, HV, HW, HX⟩ K hK
          clear hd
          go_simp
          have V := HV.out
          exact hK _ _ ⟨fun s => if s = 20 then Value.int IntKind.u64 ↑x.toNat else z s, _, _, _, _, rfl, Lib.hid ⟨V.1, V.2.1, V.2.2.1, V.2.2.2.1, V.2.2.2.2.1, fun _ => rfl, V.2.2.2.2.2.2.1, V.2.2.2.2.2.2.2.1, V.2.2.2.2.2.2.2.2⟩, HW, HX⟩
        · rintro b a wy hb hd ⟨z, z16, z17, z22, z23, rfl, HV, HW, HX⟩ K hK
          simp [Region.binds] at hd
          have e7 : (z 20) = Value.int IntKind.u64 ↑x.toNat := (HV.out.2.2.2.2.2.1) (by simp [hd])
          clear hd
          have hmul := h10
          have hwr : IntKind.u64.wrap (y.toNat : Int) = (y.toNat : Int) := IntWalk.u64_in _ (by have := u64_lt y; omega)
          go_simp
          have V := HV.out
          exact hK _ _ ⟨fun s => if s = 21 then .int .u64 (y.toNat : Int) else if s = 20 then Value.int IntKind.u64 ↑x.toNat else z s, _, _, _, _, rfl, Lib.hid ⟨V.1, V.2.1, V.2.2.1, V.2.2.2.1, V.2.2.2.2.1, fun _ => rfl, fun _ => rfl, V.2.2.2.2.2.2.2.1, V.2.2.2.2.2.2.2.2⟩, HW, HX⟩
        · rintro b a wy hb hd ⟨z, z16, z17, z22, z23, rfl, HV, HW, HX⟩ K hK
          simp [Region.binds] at hd
          have e8 : (z 21) = .int .u64 (y.toNat : Int) := (HV.out.2.2.2.2.2.2.1) (by simp [hd])
          clear hd
          obtain ⟨a1, a2, cK, cV, kn', vn', xt, xb, x4f, x4, x10f, x10, x12f, x12, x14f, x14, xl3, xl9⟩ := HX.out
          have b10 : b 10 = false := by
              rcases Bool.eq_false_or_eq_true (b 10) with e | e
              · exact absurd (hb.symm.trans (x10 e).2.1) (by decide)
              · exact e
          have qa := Lib.hid ((Below.refl wy.heap.size wy).alloc (Nat.le_refl _) (.cells #[.int .u64 (y.toNat : Int)] 25))
          have LN := Lib.hid (Lone.new xt y (lo := (w.heap.size + 2)) xt.bw)
          go_simp
          have V := HV.out
          exact hK _ _ ⟨fun s => if s = 21 then .int .u64 (y.toNat : Int) else z s, _, _, _, _, rfl, Lib.hid ⟨V.1, V.2.1, V.2.2.1, V.2.2.2.1, V.2.2.2.2.1, V.2.2.2.2.2.1, fun _ => rfl, V.2.2.2.2.2.2.2.1, V.2.2.2.2.2.2.2.2⟩, Lib.hid (HW.out.trans (qa.out.mono (by have := xt.bw; omega))), Lib.hid ⟨a1, a2, cK, cV, kn', vn', xt.far qa.out, xb.new _, x4f, x4, x10f, fun e => absurd (b10.symm.trans e) (by decide), x12f, x12, x14f, x14, fun e e' => (xl3 e e').far qa.out, fun _ _ => LN.out⟩⟩
        · rintro b a wy hb hd ⟨z, z16, z17, z22, z23, rfl, HV, HW, HX⟩ K hK
          simp [Region.binds] at hd
          have e6 : (z 19) = vV := (HV.out.2.2.2.2.1) (by simp [hd])
          have dd9 : b 9 = true := by simp [hd]
          have dd6 : b 6 = true := by simp [hd]
          clear hd
          obtain ⟨a1, a2, cK, cV, kn', vn', xt, xb, x4f, x4, x10f, x10, x12f, x12, x14f, x14, xl3, xl9⟩ := HX.out
          have b14 : b 14 = false := by
              rcases Bool.eq_false_or_eq_true (b 14) with e | e
              · exact absurd (hb.symm.trans (x14 e).1) (by decide)
              · exact e
          obtain ⟨ec, ek⟩ := x10f hb
          subst cV
          subst vn'
          obtain ⟨g, zz, g1, g2, g3, g4, g5⟩ := xl9 dd9 hb
          subst zz
          obtain ⟨v', wn, hrun, on, gn, ln⟩ := run_append_lone wy (w.heap.size + 2) 22 vV vn xt.ov g y g5 xt.bw (by omega)
          have kz := own_below xt.ov xt.bw gn
          rw [e6]
          refine if_wanted (by rfl) (Lib.wp_append_run _ (.tmp 19) (.tmp 22) 22 22 rfl _ _ rfl rfl _ _ hrun ?_)
          have V := HV.out
          exact hK _ _ ⟨fun s => if s = 19 then vV else z s, _, _, _, _, rfl, Lib.hid ⟨V.1, V.2.1, V.2.2.1, V.2.2.2.1, fun _ => rfl, V.2.2.2.2.2.1, V.2.2.2.2.2.2.1, V.2.2.2.2.2.2.2.1, V.2.2.2.2.2.2.2.2⟩, Lib.hid (HW.out.trans (kz.mono (by omega))), Lib.hid ⟨a1, a2, cK, _, kn', _, xt.appV on gn ln, xb.below (by omega) kz, x4f, x4, fun e => (by cases e), fun _ => ⟨dd6, dd9, rfl, rfl⟩, x12f, x12, x14f, fun e => absurd (b14.symm.trans e) (by decide), fun e e' => (xl3 e e').appV gn ln, fun _ e => (by cases e)⟩⟩
        · rintro b a wy hb hd ⟨z, z16, z17, z22, z23, rfl, HV, HW, HX⟩ K hK
          clear hd
          go_simp
          have V := HV.out
          exact hK _ _ ⟨fun s => if s = 24 then .pointer (some ⟨w.heap.size + 1, 1, none⟩) else z s, _, _, _, _, rfl, Lib.hid ⟨V.1, V.2.1, V.2.2.1, V.2.2.2.1, V.2.2.2.2.1, V.2.2.2.2.2.1, V.2.2.2.2.2.2.1, fun _ => rfl, V.2.2.2.2.2.2.2.2⟩, HW, HX⟩
        · rintro b a wy hb hd ⟨z, z16, z17, z22, z23, rfl, HV, HW, HX⟩ K hK
          simp [Region.binds] at hd
          have e11 : (z 24) = .pointer (some ⟨w.heap.size + 1, 1, none⟩) := (HV.out.2.2.2.2.2.2.2.1) (by simp [hd])
          have dd4 : b 4 = true := by simp [hd]
          clear hd
          obtain ⟨a1, a2, cK, cV, kn', vn', xt, xb, x4f, x4, x10f, x10, x12f, x12, x14f, x14, xl3, xl9⟩ := HX.out
          obtain ⟨_, _, ec, _⟩ := x4 dd4
          obtain ⟨A9, k9, es, _⟩ := xt.ok.slice
          rw [ec] at es
          clear ec
          generalize kn'.length = m9 at es
          subst es
          have hcell := xt.row.cellAt (i := 1) rfl
          have hfree := xt.row.free 1
          go_simp
          have V := HV.out
          exact hK _ _ ⟨fun s => if s = 24 then .pointer (some ⟨w.heap.size + 1, 1, none⟩) else z s, _, _, _, _, rfl, Lib.hid ⟨V.1, V.2.1, V.2.2.1, V.2.2.2.1, V.2.2.2.2.1, V.2.2.2.2.2.1, V.2.2.2.2.2.2.1, fun _ => rfl, V.2.2.2.2.2.2.2.2⟩, Lib.hid (HW.out.setCell (p := ⟨w.heap.size + 1, 1, none⟩) (Nat.le_refl _) _), Lib.hid ⟨_, a2, cK, cV, kn', vn', xt.set1 _, xb.below (by omega) ((Below.refl (w.heap.size + 1) wy).setCell (p := ⟨w.heap.size + 1, 1, none⟩) (Nat.le_refl _) _), x4f, x4, x10f, x10, fun e => (by cases e), fun _ => ⟨dd4, rfl⟩, x14f, x14, fun e e' => (xl3 e e').set (by omega) _, fun e e' => (xl9 e e').set (by omega) _⟩⟩
        · rintro b a wy hb hd ⟨z, z16, z17, z22, z23, rfl, HV, HW, HX⟩ K hK
          clear hd
          go_simp
          have V := HV.out
          exact hK _ _ ⟨fun s => if s = 25 then .pointer (some ⟨w.heap.size + 1, 2, none⟩) else z s, _, _, _, _, rfl, Lib.hid ⟨V.1, V.2.1, V.2.2.1, V.2.2.2.1, V.2.2.2.2.1, V.2.2.2.2.2.1, V.2.2.2.2.2.2.1, V.2.2.2.2.2.2.2.1, fun _ => rfl⟩, HW, HX⟩
        · rintro b a wy hb hd ⟨z, z16, z17, z22, z23, rfl, HV, HW, HX⟩ K hK
          simp [Region.binds] at hd
          have e13 : (z 25) = .pointer (some ⟨w.heap.size + 1, 2, none⟩) := (HV.out.2.2.2.2.2.2.2.2) (by simp [hd])
          have dd10 : b 10 = true := by simp [hd]
          clear hd
          obtain ⟨a1, a2, cK, cV, kn', vn', xt, xb, x4f, x4, x10f, x10, x12f, x12, x14f, x14, xl3, xl9⟩ := HX.out
          obtain ⟨_, _, ec, _⟩ := x10 dd10
          obtain ⟨A9, k9, es, _⟩ := xt.ov.slice
          rw [ec] at es
          clear ec
          generalize vn'.length = m9 at es
          subst es
          have hcell := xt.row.cellAt (i := 2) rfl
          have hfree := xt.row.free 2
          go_simp
          have V := HV.out
          exact hK _ _ ⟨fun s => if s = 25 then .pointer (some ⟨w.heap.size + 1, 2, none⟩) else z s, _, _, _, _, rfl, Lib.hid ⟨V.1, V.2.1, V.2.2.1, V.2.2.2.1, V.2.2.2.2.1, V.2.2.2.2.2.1, V.2.2.2.2.2.2.1, V.2.2.2.2.2.2.2.1, fun _ => rfl⟩, Lib.hid (HW.out.setCell (p := ⟨w.heap.size + 1, 2, none⟩) (Nat.le_refl _) _), Lib.hid ⟨a1, _, cK, cV, kn', vn', xt.set2 _, xb.below (by omega) ((Below.refl (w.heap.size + 1) wy).setCell (p := ⟨w.heap.size + 1, 2, none⟩) (Nat.le_refl _) _), x4f, x4, x10f, x10, x12f, x12, fun e => (by cases e), fun _ => ⟨dd10, rfl⟩, fun e e' => (xl3 e e').set (by omega) _, fun e e' => (xl9 e e').set (by omega) _⟩⟩
      case doneD =>
        rintro b a w9 hb ⟨z, z16, z17, z22, z23, rfl, HV, HW, HX⟩
        have e0 := (HV.out.1) (hb 0)
        have e1 := (HV.out.2.1) (hb 1)
        have e2 := (HV.out.2.2.1) (hb 2)
        have e5 := (HV.out.2.2.2.1) (hb 5)
        have e6 := (HV.out.2.2.2.2.1) (hb 6)
        have e7 := (HV.out.2.2.2.2.2.1) (hb 7)
        have e8 := (HV.out.2.2.2.2.2.2.1) (hb 8)
        have e11 := (HV.out.2.2.2.2.2.2.2.1) (hb 11)
        have e13 := (HV.out.2.2.2.2.2.2.2.2) (hb 13)
        simp only [e0, e1, e2, e5, e6, e7, e8, e11, e13]
        clear HV e0 e1 e2 e5 e6 e7 e8 e11 e13
        obtain ⟨a1, a2, cK, cV, kn', vn', xt, xb, _, x4, _, x10, _, x12, _, x14, _, _⟩ := HX.out
        obtain ⟨_, _, rfl, rfl⟩ := x4 (hb 4)
        obtain ⟨_, _, rfl, rfl⟩ := x10 (hb 10)
        obtain ⟨_, rfl⟩ := x12 (hb 12)
        obtain ⟨_, rfl⟩ := x14 (hb 14)
        rw [← ET.out, ← EV.out] at xt
        have HT9 := Lib.hid xt
        have HR9 := Lib.hid xb
        have HB9 := Lib.hid (HB.out.trans (HW.out.mono (by omega)))
        clear x4 x10 x12 x14 xt xb HX HW hb
        go_wp2_with fail
        go_roundw
        case rel => exact ⟨j + 1, by omega, by go_num, Lib.hid ⟨_, _, HT9.out⟩, HR9, HB9⟩
        case measure => simp [intOf]; omega
    · obtain rfl : j = n := by omega
      have et : ks.take j = ks := List.take_of_length_le (by rw [HL.out]; exact Nat.le_refl _)
      obtain ⟨vK, vV, HT⟩ := HT.out
      rw [et] at HT
      have HO := Lib.hid (show OwnD wr (w.heap.size + 2) (.agg #[.bool true, vK, vV]) true ks (tens ks) from ⟨_, _, rfl, HT.ok, HT.ov⟩)
      have HX := Lib.hid (row_d HT.row)
      clear HT et
      go_wp2_with (first | (refine wpList_load_d rfl (.tmp 3) rfl (w.heap.size + 1) _ rfl HX.out ?_) | (refine wpList_store_d rfl (.tmp 2) (.tmp 27) rfl w.heap.size (w.heap.size + 2) _ _ _ _ _ rfl rfl HR.out HO.out ?_; intro cs HC))
      exact bodyPost_ret (v := _) (res_one rfl _ rfl HC) rfl ⟨_, rfl, (HO.out.row cs (by omega)).mono (by omega), HB.out.trans (row_below cs (Nat.le_refl _))⟩

end Go.Proofs.Ytllopocekegljaa.No
