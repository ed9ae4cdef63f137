/- Contract: whole, the verifier's two pages. -/
import Derived.Test.YtkhimoclikhlaaaSuP
import Derived.Test.YtkhimoclikhlaaaInv2
namespace Go.Proofs.Ytkhimoclikhlaaa.Su
open Go.RowKit Go.Shelf Go.Proofs.Ytkhimoclikhlaaa.Oct Go.Proofs.Ytkhimoclikhlaaa.Sf
set_option linter.unusedVariables false

/-- A page that one may write. -/
structure Pg (w : World) (g : Nat) (ps : List UInt8) : Prop where
  has : Has w g 0 ps
  free : Free w g 0 128
  len : ps.length = 128
theorem Pg.lt {w : World} {g : Nat} {ps : List UInt8} (h : Pg w g ps) : g < w.heap.size := has_lt' h.has (by rw [h.len]; decide)
theorem Pg.below {w w' : World} {g : Nat} {ps : List UInt8} (h : Pg w g ps) (k : Below w.heap.size w w') : Pg w' g ps :=
  ⟨h.has.below h.lt k, fun i hi => (k.frozen (p := ⟨g, 0 + i, none⟩) h.lt).trans (h.free i hi), h.len⟩
theorem Pg.bts {w : World} {g : Nat} {ps : List UInt8} (h : Pg w g ps) : Bts w (some ⟨g, 0, none⟩) 128 128 ps := Bts.page h.has h.len
theorem Pg.set {w : World} {g : Nat} {ps : List UInt8} (h : Pg w g ps) (i : Nat) (hi : i < 128) (c : UInt8) : Pg (w.setCell ⟨g, i, none⟩ (.int .u8 (c.toNat : Int))) g (ps.set i c) := by
  refine ⟨fun j hj => ?_, fun j hj => by simpa using h.free j hj, by rw [List.length_set]; exact h.len⟩
  rw [List.length_set] at hj
  have h1 := h.has j hj
  rw [Nat.zero_add] at h1 ⊢
  by_cases e : i = j
  · subst e
    rw [set_same h1]
    simp
  · rw [set_other e, h1]
    simp [e]
theorem Pg.other {w : World} {g q i : Nat} {ps : List UInt8} {v : Value} (h : Pg w g ps) (hq : g ≠ q) : Pg (w.setCell ⟨q, i, none⟩ v) g ps :=
  ⟨fun j hj => (World.cell?_of_block (heap_setCell_other _ _ _ _ hq)).trans (h.has j hj), fun j hj => by simpa using h.free j hj, h.len⟩
theorem pg_setRow {w : World} {g q : Nat} {ps : List UInt8} {cs : Array Value} (h : Pg w g ps) (hq : g ≠ q) : Pg (w.setRow q cs) g ps :=
  have hb : (w.setRow q cs).heap[g]? = w.heap[g]? := setRow_other _ _ _ _ hq
  ⟨fun j hj => (World.cell?_of_block hb).trans (h.has j hj), fun j hj => by have := h.free j hj; simp only [World.frozen?] at this ⊢; rw [hb]; exact this, h.len⟩
theorem pg_of {w : World} {g : Nat} {ps : List UInt8} (h : Bts w (some ⟨g, 0, none⟩) 128 128 ps) (f : Free w g 0 128) : Pg w g ps :=
  ⟨by rcases h.told with e | ⟨b, o, e, k⟩
      · have := h.len; rw [e] at this; cases this
      · cases e; exact k, f, h.len⟩
theorem nth_set (t : Sup) (n : Nat) (h : t.length = 18) (j : Nat) : nth (t.set 0 n) j = if j = 0 then n else nth t j := by
  unfold nth
  rw [List.getD_eq_getElem?_getD, List.getD_eq_getElem?_getD, List.getElem?_set]
  by_cases e : j = 0
  · subst e; simp [h]
  · rw [if_neg (fun q => e q.symm), if_neg e]
theorem Ok.set {t : Sup} (h : Ok t) (n : Nat) (hn : n < 18446744073709551616) : Ok (t.set 0 n) := by
  refine ⟨by rw [List.length_set]; exact h.len, fun j => ?_, fun j h1 h2 => ?_⟩
  · rw [nth_set t n h.len]; split
    · exact hn
    · exact h.lt j
  · rw [nth_set t n h.len, if_neg (by omega)]; exact h.small j h1 h2
theorem scells_put (t : Sup) (n : Nat) (h : t.length = 18) : (scells t).set 0 (.int .u64 (n : Int)) = scells (t.set 0 n) := by
  apply List.ext_getElem
  · simp [scells]
  · intro i h1 h2
    rw [List.getElem_set]
    simp only [scells, List.getElem_map, List.getElem_range, nth_set t n h]
    by_cases e : 0 = i
    · subst e; simp [scell]
    · rw [if_neg e, if_neg (fun q => e q.symm)]
/-- The second one, its generation being the next. -/
def after (s t : Sup) : Sup := t.set 0 ((nth s 0 + 1) % 18446744073709551616)
theorem ok_after {s t : Sup} (h : Ok t) : Ok (after s t) := h.set _ (Nat.mod_lt _ (by decide))
theorem nth_after {s t : Sup} (h : Ok t) : nth (after s t) 0 = (nth s 0 + 1) % 18446744073709551616 := by unfold after; rw [nth_set t _ h.len, if_pos rfl]
theorem results_pair {fn : Func} {p u : Tmp} (h : fn.results = #[.cell p 46, .tmp u]) (tmps : Array Value) (w : World) (g : Nat) (x y : Value)
    (hp : tmps.getD p undef = .pointer (some ⟨g, 0, none⟩)) (R : RowV w g 46 [x, y]) : (results fn tmps).run Try.prog w = .ok (.tuple #[.agg #[x, y], tmps.getD u undef]) w := by
  rw [results_cell_tmp h, hp]
  simp only [asAddr, Sem.run_pure, Result.andThen_ok]
  rw [run_loadVar_row w g _ _ _ _ _ R Try.underlying46 rfl (by kernel_rfl)]
  rfl
set_option maxRecDepth 100000 in
set_option maxHeartbeats 4000000 in
theorem whole_any (s t : Sup) (hs : Ok s) (ht : Ok t) (w : World) : Calls Try.prog 23 #[sval s, sval t] w fun e w' => Below w.heap.size w w' ∧
    ((¬ (Fit s ∧ Fit (after s t)) ∧ e = .returned (.tuple #[.agg #[.slice none 0 0, .slice none 0 0], .bool false])) ∨
     (Fit s ∧ Fit (after s t) ∧ ∃ g1 g2, g1 ≠ g2 ∧ w.heap.size ≤ g1 ∧ w.heap.size ≤ g2 ∧ Pg w' g1 (supPage s) ∧ Pg w' g2 (supPage (after s t)) ∧
       ((nth s 0 % 2 = 0 ∧ e = .returned (.tuple #[.agg #[.slice (some ⟨g1, 0, none⟩) 128 128, .slice (some ⟨g2, 0, none⟩) 128 128], .bool true])) ∨
        (nth s 0 % 2 = 1 ∧ e = .returned (.tuple #[.agg #[.slice (some ⟨g2, 0, none⟩) 128 128, .slice (some ⟨g1, 0, none⟩) 128 128], .bool true]))))) := by
  have r0 := alloc_rowV (w) 27 (scells s)
  have k0 := (Below.refl (w).heap.size (w)).alloc (Nat.le_refl _) (.cells (scells s).toArray 27)
  have s0 : ((w).alloc (.cells (scells s).toArray 27)).heap.size = (w).heap.size + 1 := by simp
  have r1 := alloc_rowV ((w).alloc (.cells (scells s).toArray 27)) 27 (scells t)
  have k1 := (Below.refl ((w).alloc (.cells (scells s).toArray 27)).heap.size ((w).alloc (.cells (scells s).toArray 27))).alloc (Nat.le_refl _) (.cells (scells t).toArray 27)
  have s1 : (((w).alloc (.cells (scells s).toArray 27)).alloc (.cells (scells t).toArray 27)).heap.size = ((w).alloc (.cells (scells s).toArray 27)).heap.size + 1 := by simp
  have r2 := alloc_rowV (((w).alloc (.cells (scells s).toArray 27)).alloc (.cells (scells t).toArray 27)) 46 ([(.slice none 0 0), (.slice none 0 0)])
  have k2 := (Below.refl (((w).alloc (.cells (scells s).toArray 27)).alloc (.cells (scells t).toArray 27)).heap.size (((w).alloc (.cells (scells s).toArray 27)).alloc (.cells (scells t).toArray 27))).alloc (Nat.le_refl _) (.cells #[(.slice none 0 0), (.slice none 0 0)] 46)
  have s2 : ((((w).alloc (.cells (scells s).toArray 27)).alloc (.cells (scells t).toArray 27)).alloc (.cells #[(.slice none 0 0), (.slice none 0 0)] 46)).heap.size = (((w).alloc (.cells (scells s).toArray 27)).alloc (.cells (scells t).toArray 27)).heap.size + 1 := by simp
  have r3 := alloc_rowV ((((w).alloc (.cells (scells s).toArray 27)).alloc (.cells (scells t).toArray 27)).alloc (.cells #[(.slice none 0 0), (.slice none 0 0)] 46)) 46 ([(.slice none 0 0), (.slice none 0 0)])
  have k3 := (Below.refl ((((w).alloc (.cells (scells s).toArray 27)).alloc (.cells (scells t).toArray 27)).alloc (.cells #[(.slice none 0 0), (.slice none 0 0)] 46)).heap.size ((((w).alloc (.cells (scells s).toArray 27)).alloc (.cells (scells t).toArray 27)).alloc (.cells #[(.slice none 0 0), (.slice none 0 0)] 46))).alloc (Nat.le_refl _) (.cells #[(.slice none 0 0), (.slice none 0 0)] 46)
  have s3 : (((((w).alloc (.cells (scells s).toArray 27)).alloc (.cells (scells t).toArray 27)).alloc (.cells #[(.slice none 0 0), (.slice none 0 0)] 46)).alloc (.cells #[(.slice none 0 0), (.slice none 0 0)] 46)).heap.size = ((((w).alloc (.cells (scells s).toArray 27)).alloc (.cells (scells t).toArray 27)).alloc (.cells #[(.slice none 0 0), (.slice none 0 0)] 46)).heap.size + 1 := by simp
  have B1 := k0
  have B2 := B1.trans (k1.mono B1.size)
  have B3 := B2.trans (k2.mono B2.size)
  have HB := Lib.hid (B3.trans (k3.mono B3.size))
  have HR1 := Lib.hid (((r0.below r0.lt k1).below (by rw [s1, s0]; omega) k2).below (by rw [s2, s1, s0]; omega) k3)
  have HR2 := Lib.hid ((r1.below r1.lt k2).below (by rw [s2, s1, s0]; omega) k3)
  have HO := Lib.hid (r2.below r2.lt k3)
  have HS := Lib.hid r3
  rw [s0] at HR2
  rw [s1, s0] at HO
  rw [s2, s1, s0] at HS
  clear B1 B2 B3 k0 k1 k2 k3 r0 r1 r2 r3 s0 s1 s2 s3
  unfold sval
  go_enter Try.func23, Try.ntmps23
  go_upto_region 2 with (fail)
  change Hid (RowV (((((w).alloc (.cells (scells s).toArray 27)).alloc (.cells (scells t).toArray 27)).alloc (.cells #[(.slice none 0 0), (.slice none 0 0)] 46)).alloc (.cells #[(.slice none 0 0), (.slice none 0 0)] 46)) _ _ _) at HO
  change Hid (RowV (((((w).alloc (.cells (scells s).toArray 27)).alloc (.cells (scells t).toArray 27)).alloc (.cells #[(.slice none 0 0), (.slice none 0 0)] 46)).alloc (.cells #[(.slice none 0 0), (.slice none 0 0)] 46)) _ _ _) at HS
  generalize ((((w).alloc (.cells (scells s).toArray 27)).alloc (.cells (scells t).toArray 27)).alloc (.cells #[(.slice none 0 0), (.slice none 0 0)] 46)).alloc (.cells #[(.slice none 0 0), (.slice none 0 0)] 46) = v0 at *
  have c2 := HR1.out.cellAt (scells_at s 0 (by decide))
  rw [scell_wide _ _ (.inl rfl)] at c2
  have c3 := HR2.out.cellAt (scells_at t 0 (by decide))
  rw [scell_wide _ _ (.inl rfl)] at c3
  have f3 := HR2.out.free 0
  have hgs := hs.lt 0
  go_upto_region 3 with (fail)
  clear c2 c3 f3
  have hwr : IntKind.u64.wrap ((nth s 0 : Int) + 1) = (((nth s 0 + 1) % 18446744073709551616 : Nat) : Int) := by go_num
  rw [hwr]
  have kk := HB.out.setCell (p := ⟨w.heap.size + 1, 0, none⟩) (Nat.le_succ _) (.int .u64 (((nth s 0 + 1) % 18446744073709551616 : Nat) : Int))
  replace HR1 := Lib.hid (HR1.out.other (q := w.heap.size + 1) (i := 0) (v := .int .u64 (((nth s 0 + 1) % 18446744073709551616 : Nat) : Int)) (by omega))
  have r2 := HR2.out.set 0 (.int .u64 (((nth s 0 + 1) % 18446744073709551616 : Nat) : Int))
  rw [scells_put t _ ht.len] at r2
  change RowV _ _ _ (scells (after s t)) at r2
  replace HR2 := Lib.hid r2
  replace HO := Lib.hid (HO.out.other (q := w.heap.size + 1) (i := 0) (v := .int .u64 (((nth s 0 + 1) % 18446744073709551616 : Nat) : Int)) (by omega))
  replace HS := Lib.hid (HS.out.other (q := w.heap.size + 1) (i := 0) (v := .int .u64 (((nth s 0 + 1) % 18446744073709551616 : Nat) : Int)) (by omega))
  replace HB := Lib.hid kk
  clear r2 kk
  have HT := Lib.hid (ok_after (s := s) ht)
  have HNA := Lib.hid (nth_after (s := s) ht)
  generalize v0.setCell ⟨w.heap.size + 1, 0, none⟩ (.int .u64 (((nth s 0 + 1) % 18446744073709551616 : Nat) : Int)) = v1 at *
  clear hwr

  by_cases fs : Fit s
  · skip
    go_wp2_with (first | (refine wpList_load_row rfl 27 (.tmp 2) rfl w.heap.size rfl _ (scells s).toArray _ _ HR1.out Try.underlying27 rfl (size_scells _) ?_) | (refine wpList_load_row rfl 27 (.tmp 3) rfl (w.heap.size + 1) rfl _ (scells (after s t)).toArray _ _ HR2.out Try.underlying27 rfl (size_scells _) ?_))
    have h3 := HS.out.lt
    refine (encode_bts s hs v1 fs).mono ?_
    rintro e v2 ⟨g1, rfl, P1, F1, G1, kk⟩
    replace HR1 := Lib.hid (HR1.out.below HR1.out.lt kk)
    replace HR2 := Lib.hid (HR2.out.below HR2.out.lt kk)
    replace HO := Lib.hid (HO.out.below HO.out.lt kk)
    replace HS := Lib.hid (HS.out.below HS.out.lt kk)
    replace HB := Lib.hid (HB.out.trans (kk.mono HB.out.size))
    have HG1 := Lib.hid (show Pg v2 g1 (supPage s) from pg_of P1 F1)
    have z1 : w.heap.size + 1 + 1 + 1 < g1 := by omega
    have h4 := HS.out.lt
    clear P1 F1 h3 G1
    clear kk
    go_wp2_with (first | (refine wpList_load_row rfl 27 (.tmp 2) rfl w.heap.size rfl _ (scells s).toArray _ _ HR1.out Try.underlying27 rfl (size_scells _) ?_) | (refine wpList_load_row rfl 27 (.tmp 3) rfl (w.heap.size + 1) rfl _ (scells (after s t)).toArray _ _ HR2.out Try.underlying27 rfl (size_scells _) ?_))
    by_cases ft : Fit (after s t)
    · skip
      refine (encode_bts (after s t) HT.out v2 ft).mono ?_
      rintro e v3 ⟨g2, rfl, P2, F2, G2, kk⟩
      replace HR1 := Lib.hid (HR1.out.below HR1.out.lt kk)
      replace HR2 := Lib.hid (HR2.out.below HR2.out.lt kk)
      replace HO := Lib.hid (HO.out.below HO.out.lt kk)
      replace HS := Lib.hid (HS.out.below HS.out.lt kk)
      replace HB := Lib.hid (HB.out.trans (kk.mono HB.out.size))
      have HG2 := Lib.hid (show Pg v3 g2 (supPage (after s t)) from pg_of P2 F2)
      have gne : g1 ≠ g2 := by have := HG1.out.lt; omega
      have z2 : w.heap.size + 1 + 1 + 1 < g2 := by omega
      replace HG1 := Lib.hid (HG1.out.below kk)
      clear P2 F2 G2 h4
      clear kk
      go_upto_region 7 with (fail)
      have n5 : w.heap.size ≤ w.heap.size + 1 + 1 + 1 := by omega
      have n0 : w.heap.size ≠ w.heap.size + 1 + 1 + 1 := by omega
      have n1 : w.heap.size + 1 ≠ w.heap.size + 1 + 1 + 1 := by omega
      have n2 : w.heap.size + 1 + 1 ≠ w.heap.size + 1 + 1 + 1 := by omega
      have n3 : g1 ≠ w.heap.size + 1 + 1 + 1 := by omega
      have n4 : g2 ≠ w.heap.size + 1 + 1 + 1 := by omega
      rcases Nat.mod_two_eq_zero_or_one (nth s 0) with hp | hp
      · skip
        have HS0 := Lib.hid (fun wx : World => show Calls Try.prog 21 #[.int .u64 (nth s 0 : Int)] wx (fun e w' => e = .returned (.int .i64 0) ∧ wx = w') from (slot_any _ (hs.lt 0) wx).mono fun e w' ⟨h1, h2⟩ => ⟨by rw [h1, hp]; rfl, h2⟩)
        have HS1 := Lib.hid (fun wx : World => show Calls Try.prog 21 #[.int .u64 (nth (after s t) 0 : Int)] wx (fun e w' => e = .returned (.int .i64 1) ∧ wx = w') from (slot_any _ (HT.out.lt 0) wx).mono fun e w' ⟨h1, h2⟩ => ⟨by rw [h1, show nth (after s t) 0 % 2 = 1 by rw [HNA.out]; omega]; rfl, h2⟩)
        refine Inv2.wp_region_inv (fun b a wy => ∃ z32 z33 z34 z35 z36 z37 z38 z39 z40 z41, a = ⟨#[Value.agg (scells s).toArray, Value.agg (scells t).toArray, Value.pointer (some { block := w.heap.size, off := 0 }), Value.pointer (some { block := w.heap.size + 1, off := 0 }), Value.pointer (some { block := w.heap.size + 1 + 1, off := 0 }), Value.bool false, Value.pointer (some { block := w.heap.size + 1 + 1 + 1, off := 0 }), Value.slice (some { block := g1, off := 0 }) 128 128, Value.int IntKind.i64 0, Value.slice (some { block := g2, off := 0 }) 128 128, Value.int IntKind.i64 0, Value.pointer (some { block := w.heap.size, off := 0 }), Value.int IntKind.u64 ↑(nth s 0), Value.int IntKind.u64 ((↑(nth s 0) + 1) % 18446744073709551616), Value.pointer (some { block := w.heap.size + 1, off := 0 }), Value.tuple #[Value.slice (some { block := g1, off := 0 }) 128 128, Value.int IntKind.i64 0], Value.agg (scells s).toArray, Value.tuple #[Value.slice (some { block := g1, off := 0 }) 128 128, Value.int IntKind.i64 0], Value.slice (some { block := g1, off := 0 }) 128 128, Value.int IntKind.i64 0, Value.tuple #[Value.slice (some { block := g2, off := 0 }) 128 128, Value.int IntKind.i64 0], Value.agg (scells (after s t)).toArray, Value.tuple #[Value.slice (some { block := g2, off := 0 }) 128 128, Value.int IntKind.i64 0], Value.slice (some { block := g2, off := 0 }) 128 128, Value.int IntKind.i64 0, Value.int IntKind.i64 0, Value.bool false, Value.bool false, Value.int IntKind.i64 0, Value.bool false, Value.bool false, undef, z32, z33, z34, z35, z36, z37, z38, z39, z40, z41, undef], []⟩ ∧ Hid ((b 0 = true → z32 = .pointer (some ⟨w.heap.size, 0, none⟩)) ∧ (b 1 = true → z33 = .int .u64 (nth s 0 : Int)) ∧ (b 2 = true → z34 = .int .i64 0) ∧ (b 3 = true → z35 = .pointer (some ⟨w.heap.size + 1, 0, none⟩)) ∧ (b 4 = true → z36 = .int .u64 (nth (after s t) 0 : Int)) ∧ (b 5 = true → z37 = .int .i64 1) ∧ (b 6 = true → z38 = Value.slice (some { block := g1, off := 0 }) 128 128) ∧ (b 7 = true → z39 = Value.slice (some { block := g2, off := 0 }) 128 128) ∧ (b 8 = true → z40 = .pointer (some ⟨w.heap.size + 1 + 1 + 1, 0, none⟩)) ∧ (b 10 = true → z41 = .pointer (some ⟨w.heap.size + 1 + 1 + 1, 1, none⟩))) ∧ Hid (Below w.heap.size w wy) ∧ Hid (RowV wy w.heap.size 27 (scells s) ∧ RowV wy (w.heap.size + 1) 27 (scells (after s t)) ∧ RowV wy (w.heap.size + 1 + 1) 46 [(.slice none 0 0), (.slice none 0 0)] ∧ Pg wy g1 (supPage s) ∧ Pg wy g2 (supPage (after s t)) ∧ ∃ x y, RowV wy (w.heap.size + 1 + 1 + 1) 46 [x, y] ∧ (b 9 = true → x = .slice (some ⟨g1, 0, none⟩) 128 128) ∧ (b 11 = true → y = .slice (some ⟨g2, 0, none⟩) 128 128))) (by kernel_rfl) (by kernel_rfl) ?startW0 ?stepsW0 ?doneW0
        case startW0 =>
          intro b hb
          refine ⟨undef, undef, undef, undef, undef, undef, undef, undef, undef, undef, rfl, Lib.hid ⟨?_, ?_, ?_, ?_, ?_, ?_, ?_, ?_, ?_, ?_⟩, Lib.hid (HB.out.trans <| (show Still v3 v3.drew from ⟨rfl, rfl, rfl, rfl⟩).below _), Lib.hid (⟨HR1.out.below HR1.out.lt ((show Still v3 v3.drew from ⟨rfl, rfl, rfl, rfl⟩).below _), HR2.out.below HR2.out.lt ((show Still v3 v3.drew from ⟨rfl, rfl, rfl, rfl⟩).below _), HO.out.below HO.out.lt ((show Still v3 v3.drew from ⟨rfl, rfl, rfl, rfl⟩).below _), HG1.out.below ((show Still v3 v3.drew from ⟨rfl, rfl, rfl, rfl⟩).below _), HG2.out.below ((show Still v3 v3.drew from ⟨rfl, rfl, rfl, rfl⟩).below _), _, _, HS.out.below HS.out.lt ((show Still v3 v3.drew from ⟨rfl, rfl, rfl, rfl⟩).below _), fun e => (by rw [hb _ (by decide)] at e; cases e), fun e => (by rw [hb _ (by decide)] at e; cases e)⟩)⟩
          all_goals (intro e; first | rfl | (rw [hb _ (by decide)] at e; cases e))
        case stepsW0 =>
          refine ⟨?_, ?_, ?_, ?_, ?_, ?_, ?_, ?_, ?_, ?_, ?_, ?_, trivial⟩
          · rintro b a wy hb hd ⟨z32, z33, z34, z35, z36, z37, z38, z39, z40, z41, rfl, HV, HW, HX⟩ K hK
            obtain ⟨h0, h1, h2, h3, h4, h5, h6, h7, h8, h10⟩ := HV.out
            clear hd
            go_simp
            exact hK _ _ ⟨_, _, _, _, _, _, _, _, _, _, rfl, Lib.hid ⟨fun _ => rfl, h1, h2, h3, h4, h5, h6, h7, h8, h10⟩, HW, HX⟩
          · rintro b a wy hb hd ⟨z32, z33, z34, z35, z36, z37, z38, z39, z40, z41, rfl, HV, HW, HX⟩ K hK
            obtain ⟨h0, h1, h2, h3, h4, h5, h6, h7, h8, h10⟩ := HV.out
            simp [Region.binds] at hd
            obtain rfl := h0 (by simp [hd])
            clear hd
            obtain ⟨r1, r2, ro, p1, p2, x, y, rr, q9, q11⟩ := HX.out
            have hc := r1.cellAt (scells_at s 0 (by decide))
            rw [scell_wide _ _ (.inl rfl)] at hc
            go_simp
            exact hK _ _ ⟨_, _, _, _, _, _, _, _, _, _, rfl, Lib.hid ⟨h0, fun _ => rfl, h2, h3, h4, h5, h6, h7, h8, h10⟩, HW, HX⟩
          · rintro b a wy hb hd ⟨z32, z33, z34, z35, z36, z37, z38, z39, z40, z41, rfl, HV, HW, HX⟩ K hK
            obtain ⟨h0, h1, h2, h3, h4, h5, h6, h7, h8, h10⟩ := HV.out
            simp [Region.binds] at hd
            obtain rfl := h1 (by simp [hd])
            clear hd
            go_simp
            go_at_call 21
            refine (HS0.out _).mono ?_
            rintro e wz ⟨rfl, rfl⟩
            try go_simp
            exact hK _ _ ⟨_, _, _, _, _, _, _, _, _, _, rfl, Lib.hid ⟨h0, h1, fun _ => rfl, h3, h4, h5, h6, h7, h8, h10⟩, HW, HX⟩
          · rintro b a wy hb hd ⟨z32, z33, z34, z35, z36, z37, z38, z39, z40, z41, rfl, HV, HW, HX⟩ K hK
            obtain ⟨h0, h1, h2, h3, h4, h5, h6, h7, h8, h10⟩ := HV.out
            clear hd
            go_simp
            exact hK _ _ ⟨_, _, _, _, _, _, _, _, _, _, rfl, Lib.hid ⟨h0, h1, h2, fun _ => rfl, h4, h5, h6, h7, h8, h10⟩, HW, HX⟩
          · rintro b a wy hb hd ⟨z32, z33, z34, z35, z36, z37, z38, z39, z40, z41, rfl, HV, HW, HX⟩ K hK
            obtain ⟨h0, h1, h2, h3, h4, h5, h6, h7, h8, h10⟩ := HV.out
            simp [Region.binds] at hd
            obtain rfl := h3 (by simp [hd])
            clear hd
            obtain ⟨r1, r2, ro, p1, p2, x, y, rr, q9, q11⟩ := HX.out
            have hc := r2.cellAt (scells_at (after s t) 0 (by decide))
            rw [scell_wide _ _ (.inl rfl)] at hc
            go_simp
            exact hK _ _ ⟨_, _, _, _, _, _, _, _, _, _, rfl, Lib.hid ⟨h0, h1, h2, h3, fun _ => rfl, h5, h6, h7, h8, h10⟩, HW, HX⟩
          · rintro b a wy hb hd ⟨z32, z33, z34, z35, z36, z37, z38, z39, z40, z41, rfl, HV, HW, HX⟩ K hK
            obtain ⟨h0, h1, h2, h3, h4, h5, h6, h7, h8, h10⟩ := HV.out
            simp [Region.binds] at hd
            obtain rfl := h4 (by simp [hd])
            clear hd
            go_simp
            go_at_call 21
            refine (HS1.out _).mono ?_
            rintro e wz ⟨rfl, rfl⟩
            try go_simp
            exact hK _ _ ⟨_, _, _, _, _, _, _, _, _, _, rfl, Lib.hid ⟨h0, h1, h2, h3, h4, fun _ => rfl, h6, h7, h8, h10⟩, HW, HX⟩
          · rintro b a wy hb hd ⟨z32, z33, z34, z35, z36, z37, z38, z39, z40, z41, rfl, HV, HW, HX⟩ K hK
            obtain ⟨h0, h1, h2, h3, h4, h5, h6, h7, h8, h10⟩ := HV.out
            clear hd
            go_simp
            exact hK _ _ ⟨_, _, _, _, _, _, _, _, _, _, rfl, Lib.hid ⟨h0, h1, h2, h3, h4, h5, fun _ => rfl, h7, h8, h10⟩, HW, HX⟩
          · rintro b a wy hb hd ⟨z32, z33, z34, z35, z36, z37, z38, z39, z40, z41, rfl, HV, HW, HX⟩ K hK
            obtain ⟨h0, h1, h2, h3, h4, h5, h6, h7, h8, h10⟩ := HV.out
            clear hd
            go_simp
            exact hK _ _ ⟨_, _, _, _, _, _, _, _, _, _, rfl, Lib.hid ⟨h0, h1, h2, h3, h4, h5, h6, fun _ => rfl, h8, h10⟩, HW, HX⟩
          · rintro b a wy hb hd ⟨z32, z33, z34, z35, z36, z37, z38, z39, z40, z41, rfl, HV, HW, HX⟩ K hK
            obtain ⟨h0, h1, h2, h3, h4, h5, h6, h7, h8, h10⟩ := HV.out
            simp [Region.binds] at hd
            obtain rfl := h2 (by simp [hd])
            clear hd
            go_simp
            exact hK _ _ ⟨_, _, _, _, _, _, _, _, _, _, rfl, Lib.hid ⟨h0, h1, h2, h3, h4, h5, h6, h7, fun _ => rfl, h10⟩, HW, HX⟩
          · rintro b a wy hb hd ⟨z32, z33, z34, z35, z36, z37, z38, z39, z40, z41, rfl, HV, HW, HX⟩ K hK
            obtain ⟨h0, h1, h2, h3, h4, h5, h6, h7, h8, h10⟩ := HV.out
            simp [Region.binds] at hd
            obtain rfl := h8 (by simp [hd])
            obtain rfl := h6 (by simp [hd])
            clear hd
            obtain ⟨r1, r2, ro, p1, p2, x, y, rr, q9, q11⟩ := HX.out
            have hc := rr.cellAt (i := 0) rfl
            have hfz := rr.free 0
            go_simp
            exact hK _ _ ⟨_, _, _, _, _, _, _, _, _, _, rfl, Lib.hid ⟨h0, h1, h2, h3, h4, h5, h6, h7, h8, h10⟩, Lib.hid (HW.out.setCell (p := ⟨w.heap.size + 1 + 1 + 1, 0, none⟩) n5 _), Lib.hid ⟨r1.other n0, r2.other n1, ro.other n2, p1.other n3, p2.other n4, _, _, rr.set 0 (.slice (some ⟨g1, 0, none⟩) 128 128), fun _ => rfl, q11⟩⟩
          · rintro b a wy hb hd ⟨z32, z33, z34, z35, z36, z37, z38, z39, z40, z41, rfl, HV, HW, HX⟩ K hK
            obtain ⟨h0, h1, h2, h3, h4, h5, h6, h7, h8, h10⟩ := HV.out
            simp [Region.binds] at hd
            obtain rfl := h5 (by simp [hd])
            clear hd
            go_simp
            exact hK _ _ ⟨_, _, _, _, _, _, _, _, _, _, rfl, Lib.hid ⟨h0, h1, h2, h3, h4, h5, h6, h7, h8, fun _ => rfl⟩, HW, HX⟩
          · rintro b a wy hb hd ⟨z32, z33, z34, z35, z36, z37, z38, z39, z40, z41, rfl, HV, HW, HX⟩ K hK
            obtain ⟨h0, h1, h2, h3, h4, h5, h6, h7, h8, h10⟩ := HV.out
            simp [Region.binds] at hd
            obtain rfl := h10 (by simp [hd])
            obtain rfl := h7 (by simp [hd])
            clear hd
            obtain ⟨r1, r2, ro, p1, p2, x, y, rr, q9, q11⟩ := HX.out
            have hc := rr.cellAt (i := 1) rfl
            have hfz := rr.free 1
            go_simp
            exact hK _ _ ⟨_, _, _, _, _, _, _, _, _, _, rfl, Lib.hid ⟨h0, h1, h2, h3, h4, h5, h6, h7, h8, h10⟩, Lib.hid (HW.out.setCell (p := ⟨w.heap.size + 1 + 1 + 1, 1, none⟩) n5 _), Lib.hid ⟨r1.other n0, r2.other n1, ro.other n2, p1.other n3, p2.other n4, _, _, rr.set 1 (.slice (some ⟨g2, 0, none⟩) 128 128), q9, fun _ => rfl⟩⟩
        case doneW0 =>
          rintro b a wy hb ⟨z32, z33, z34, z35, z36, z37, z38, z39, z40, z41, rfl, HV, HW, HX⟩
          obtain ⟨h0, h1, h2, h3, h4, h5, h6, h7, h8, h10⟩ := HV.out
          obtain rfl := h0 (hb 0)
          obtain rfl := h1 (hb 1)
          obtain rfl := h2 (hb 2)
          obtain rfl := h3 (hb 3)
          obtain rfl := h4 (hb 4)
          obtain rfl := h5 (hb 5)
          obtain rfl := h6 (hb 6)
          obtain rfl := h7 (hb 7)
          obtain rfl := h8 (hb 8)
          obtain rfl := h10 (hb 10)
          clear HV h0 h1 h2 h3 h4 h5 h6 h7 h8 h10
          obtain ⟨r1, r2, ro, p1, p2, x, y, rr, q9, q11⟩ := HX.out
          obtain rfl := q9 (hb 9)
          obtain rfl := q11 (hb 11)
          clear hb q9 q11 HX HR1 HR2 HO HS HG1 HG2 HB HS0 HS1 r1 r2
          have HB := HW
          have HO := Lib.hid ro
          have HS := Lib.hid rr
          have HG1 := Lib.hid p1
          have HG2 := Lib.hid p2
          clear HW ro rr p1 p2
          go_wp2_with (first | (refine wpList_load_row rfl 46 (.tmp 6) rfl (w.heap.size + 1 + 1 + 1) rfl _ #[.slice (some ⟨g1, 0, none⟩) 128 128, .slice (some ⟨g2, 0, none⟩) 128 128] _ _ HS.out Try.underlying46 rfl (by kernel_rfl) ?_) | (refine wpList_store_row rfl 46 (.tmp 4) (.tmp 42) rfl (w.heap.size + 1 + 1) #[.slice (some ⟨g1, 0, none⟩) 128 128, .slice (some ⟨g2, 0, none⟩) 128 128] rfl rfl _ _ HO.out (by kernel_rfl) (by simp) (by first | kernel_rfl | decide | simp [Value.oneCell']) ?_))
          refine bodyPost_ret (results_pair rfl _ _ (w.heap.size + 1 + 1) (.slice (some ⟨g1, 0, none⟩) 128 128) (.slice (some ⟨g2, 0, none⟩) 128 128) rfl (row_setRow_same HO.out)) rfl ⟨HB.out.trans (setRow_below _ (by omega)), .inr ⟨fs, ft, g1, g2, gne, by omega, by omega, pg_setRow HG1.out (by omega), pg_setRow HG2.out (by omega), .inl ⟨hp, rfl⟩⟩⟩
      · skip
        have HS0 := Lib.hid (fun wx : World => show Calls Try.prog 21 #[.int .u64 (nth s 0 : Int)] wx (fun e w' => e = .returned (.int .i64 1) ∧ wx = w') from (slot_any _ (hs.lt 0) wx).mono fun e w' ⟨h1, h2⟩ => ⟨by rw [h1, hp]; rfl, h2⟩)
        have HS1 := Lib.hid (fun wx : World => show Calls Try.prog 21 #[.int .u64 (nth (after s t) 0 : Int)] wx (fun e w' => e = .returned (.int .i64 0) ∧ wx = w') from (slot_any _ (HT.out.lt 0) wx).mono fun e w' ⟨h1, h2⟩ => ⟨by rw [h1, show nth (after s t) 0 % 2 = 0 by rw [HNA.out]; omega]; rfl, h2⟩)
        refine Inv2.wp_region_inv (fun b a wy => ∃ z32 z33 z34 z35 z36 z37 z38 z39 z40 z41, a = ⟨#[Value.agg (scells s).toArray, Value.agg (scells t).toArray, Value.pointer (some { block := w.heap.size, off := 0 }), Value.pointer (some { block := w.heap.size + 1, off := 0 }), Value.pointer (some { block := w.heap.size + 1 + 1, off := 0 }), Value.bool false, Value.pointer (some { block := w.heap.size + 1 + 1 + 1, off := 0 }), Value.slice (some { block := g1, off := 0 }) 128 128, Value.int IntKind.i64 0, Value.slice (some { block := g2, off := 0 }) 128 128, Value.int IntKind.i64 0, Value.pointer (some { block := w.heap.size, off := 0 }), Value.int IntKind.u64 ↑(nth s 0), Value.int IntKind.u64 ((↑(nth s 0) + 1) % 18446744073709551616), Value.pointer (some { block := w.heap.size + 1, off := 0 }), Value.tuple #[Value.slice (some { block := g1, off := 0 }) 128 128, Value.int IntKind.i64 0], Value.agg (scells s).toArray, Value.tuple #[Value.slice (some { block := g1, off := 0 }) 128 128, Value.int IntKind.i64 0], Value.slice (some { block := g1, off := 0 }) 128 128, Value.int IntKind.i64 0, Value.tuple #[Value.slice (some { block := g2, off := 0 }) 128 128, Value.int IntKind.i64 0], Value.agg (scells (after s t)).toArray, Value.tuple #[Value.slice (some { block := g2, off := 0 }) 128 128, Value.int IntKind.i64 0], Value.slice (some { block := g2, off := 0 }) 128 128, Value.int IntKind.i64 0, Value.int IntKind.i64 0, Value.bool false, Value.bool false, Value.int IntKind.i64 0, Value.bool false, Value.bool false, undef, z32, z33, z34, z35, z36, z37, z38, z39, z40, z41, undef], []⟩ ∧ Hid ((b 0 = true → z32 = .pointer (some ⟨w.heap.size, 0, none⟩)) ∧ (b 1 = true → z33 = .int .u64 (nth s 0 : Int)) ∧ (b 2 = true → z34 = .int .i64 1) ∧ (b 3 = true → z35 = .pointer (some ⟨w.heap.size + 1, 0, none⟩)) ∧ (b 4 = true → z36 = .int .u64 (nth (after s t) 0 : Int)) ∧ (b 5 = true → z37 = .int .i64 0) ∧ (b 6 = true → z38 = Value.slice (some { block := g1, off := 0 }) 128 128) ∧ (b 7 = true → z39 = Value.slice (some { block := g2, off := 0 }) 128 128) ∧ (b 8 = true → z40 = .pointer (some ⟨w.heap.size + 1 + 1 + 1, 1, none⟩)) ∧ (b 10 = true → z41 = .pointer (some ⟨w.heap.size + 1 + 1 + 1, 0, none⟩))) ∧ Hid (Below w.heap.size w wy) ∧ Hid (RowV wy w.heap.size 27 (scells s) ∧ RowV wy (w.heap.size + 1) 27 (scells (after s t)) ∧ RowV wy (w.heap.size + 1 + 1) 46 [(.slice none 0 0), (.slice none 0 0)] ∧ Pg wy g1 (supPage s) ∧ Pg wy g2 (supPage (after s t)) ∧ ∃ x y, RowV wy (w.heap.size + 1 + 1 + 1) 46 [x, y] ∧ (b 9 = true → y = .slice (some ⟨g1, 0, none⟩) 128 128) ∧ (b 11 = true → x = .slice (some ⟨g2, 0, none⟩) 128 128))) (by kernel_rfl) (by kernel_rfl) ?startW1 ?stepsW1 ?doneW1
        case startW1 =>
          intro b hb
          refine ⟨undef, undef, undef, undef, undef, undef, undef, undef, undef, undef, rfl, Lib.hid ⟨?_, ?_, ?_, ?_, ?_, ?_, ?_, ?_, ?_, ?_⟩, Lib.hid (HB.out.trans <| (show Still v3 v3.drew from ⟨rfl, rfl, rfl, rfl⟩).below _), Lib.hid (⟨HR1.out.below HR1.out.lt ((show Still v3 v3.drew from ⟨rfl, rfl, rfl, rfl⟩).below _), HR2.out.below HR2.out.lt ((show Still v3 v3.drew from ⟨rfl, rfl, rfl, rfl⟩).below _), HO.out.below HO.out.lt ((show Still v3 v3.drew from ⟨rfl, rfl, rfl, rfl⟩).below _), HG1.out.below ((show Still v3 v3.drew from ⟨rfl, rfl, rfl, rfl⟩).below _), HG2.out.below ((show Still v3 v3.drew from ⟨rfl, rfl, rfl, rfl⟩).below _), _, _, HS.out.below HS.out.lt ((show Still v3 v3.drew from ⟨rfl, rfl, rfl, rfl⟩).below _), fun e => (by rw [hb _ (by decide)] at e; cases e), fun e => (by rw [hb _ (by decide)] at e; cases e)⟩)⟩
          all_goals (intro e; first | rfl | (rw [hb _ (by decide)] at e; cases e))
        case stepsW1 =>
          refine ⟨?_, ?_, ?_, ?_, ?_, ?_, ?_, ?_, ?_, ?_, ?_, ?_, trivial⟩
          · rintro b a wy hb hd ⟨z32, z33, z34, z35, z36, z37, z38, z39, z40, z41, rfl, HV, HW, HX⟩ K hK
            obtain ⟨h0, h1, h2, h3, h4, h5, h6, h7, h8, h10⟩ := HV.out
            clear hd
            go_simp
            exact hK _ _ ⟨_, _, _, _, _, _, _, _, _, _, rfl, Lib.hid ⟨fun _ => rfl, h1, h2, h3, h4, h5, h6, h7, h8, h10⟩, HW, HX⟩
          · rintro b a wy hb hd ⟨z32, z33, z34, z35, z36, z37, z38, z39, z40, z41, rfl, HV, HW, HX⟩ K hK
            obtain ⟨h0, h1, h2, h3, h4, h5, h6, h7, h8, h10⟩ := HV.out
            simp [Region.binds] at hd
            obtain rfl := h0 (by simp [hd])
            clear hd
            obtain ⟨r1, r2, ro, p1, p2, x, y, rr, q9, q11⟩ := HX.out
            have hc := r1.cellAt (scells_at s 0 (by decide))
            rw [scell_wide _ _ (.inl rfl)] at hc
            go_simp
            exact hK _ _ ⟨_, _, _, _, _, _, _, _, _, _, rfl, Lib.hid ⟨h0, fun _ => rfl, h2, h3, h4, h5, h6, h7, h8, h10⟩, HW, HX⟩
          · rintro b a wy hb hd ⟨z32, z33, z34, z35, z36, z37, z38, z39, z40, z41, rfl, HV, HW, HX⟩ K hK
            obtain ⟨h0, h1, h2, h3, h4, h5, h6, h7, h8, h10⟩ := HV.out
            simp [Region.binds] at hd
            obtain rfl := h1 (by simp [hd])
            clear hd
            go_simp
            go_at_call 21
            refine (HS0.out _).mono ?_
            rintro e wz ⟨rfl, rfl⟩
            try go_simp
            exact hK _ _ ⟨_, _, _, _, _, _, _, _, _, _, rfl, Lib.hid ⟨h0, h1, fun _ => rfl, h3, h4, h5, h6, h7, h8, h10⟩, HW, HX⟩
          · rintro b a wy hb hd ⟨z32, z33, z34, z35, z36, z37, z38, z39, z40, z41, rfl, HV, HW, HX⟩ K hK
            obtain ⟨h0, h1, h2, h3, h4, h5, h6, h7, h8, h10⟩ := HV.out
            clear hd
            go_simp
            exact hK _ _ ⟨_, _, _, _, _, _, _, _, _, _, rfl, Lib.hid ⟨h0, h1, h2, fun _ => rfl, h4, h5, h6, h7, h8, h10⟩, HW, HX⟩
          · rintro b a wy hb hd ⟨z32, z33, z34, z35, z36, z37, z38, z39, z40, z41, rfl, HV, HW, HX⟩ K hK
            obtain ⟨h0, h1, h2, h3, h4, h5, h6, h7, h8, h10⟩ := HV.out
            simp [Region.binds] at hd
            obtain rfl := h3 (by simp [hd])
            clear hd
            obtain ⟨r1, r2, ro, p1, p2, x, y, rr, q9, q11⟩ := HX.out
            have hc := r2.cellAt (scells_at (after s t) 0 (by decide))
            rw [scell_wide _ _ (.inl rfl)] at hc
            go_simp
            exact hK _ _ ⟨_, _, _, _, _, _, _, _, _, _, rfl, Lib.hid ⟨h0, h1, h2, h3, fun _ => rfl, h5, h6, h7, h8, h10⟩, HW, HX⟩
          · rintro b a wy hb hd ⟨z32, z33, z34, z35, z36, z37, z38, z39, z40, z41, rfl, HV, HW, HX⟩ K hK
            obtain ⟨h0, h1, h2, h3, h4, h5, h6, h7, h8, h10⟩ := HV.out
            simp [Region.binds] at hd
            obtain rfl := h4 (by simp [hd])
            clear hd
            go_simp
            go_at_call 21
            refine (HS1.out _).mono ?_
            rintro e wz ⟨rfl, rfl⟩
            try go_simp
            exact hK _ _ ⟨_, _, _, _, _, _, _, _, _, _, rfl, Lib.hid ⟨h0, h1, h2, h3, h4, fun _ => rfl, h6, h7, h8, h10⟩, HW, HX⟩
          · rintro b a wy hb hd ⟨z32, z33, z34, z35, z36, z37, z38, z39, z40, z41, rfl, HV, HW, HX⟩ K hK
            obtain ⟨h0, h1, h2, h3, h4, h5, h6, h7, h8, h10⟩ := HV.out
            clear hd
            go_simp
            exact hK _ _ ⟨_, _, _, _, _, _, _, _, _, _, rfl, Lib.hid ⟨h0, h1, h2, h3, h4, h5, fun _ => rfl, h7, h8, h10⟩, HW, HX⟩
          · rintro b a wy hb hd ⟨z32, z33, z34, z35, z36, z37, z38, z39, z40, z41, rfl, HV, HW, HX⟩ K hK
            obtain ⟨h0, h1, h2, h3, h4, h5, h6, h7, h8, h10⟩ := HV.out
            clear hd
            go_simp
            exact hK _ _ ⟨_, _, _, _, _, _, _, _, _, _, rfl, Lib.hid ⟨h0, h1, h2, h3, h4, h5, h6, fun _ => rfl, h8, h10⟩, HW, HX⟩
          · rintro b a wy hb hd ⟨z32, z33, z34, z35, z36, z37, z38, z39, z40, z41, rfl, HV, HW, HX⟩ K hK
            obtain ⟨h0, h1, h2, h3, h4, h5, h6, h7, h8, h10⟩ := HV.out
            simp [Region.binds] at hd
            obtain rfl := h2 (by simp [hd])
            clear hd
            go_simp
            exact hK _ _ ⟨_, _, _, _, _, _, _, _, _, _, rfl, Lib.hid ⟨h0, h1, h2, h3, h4, h5, h6, h7, fun _ => rfl, h10⟩, HW, HX⟩
          · rintro b a wy hb hd ⟨z32, z33, z34, z35, z36, z37, z38, z39, z40, z41, rfl, HV, HW, HX⟩ K hK
            obtain ⟨h0, h1, h2, h3, h4, h5, h6, h7, h8, h10⟩ := HV.out
            simp [Region.binds] at hd
            obtain rfl := h8 (by simp [hd])
            obtain rfl := h6 (by simp [hd])
            clear hd
            obtain ⟨r1, r2, ro, p1, p2, x, y, rr, q9, q11⟩ := HX.out
            have hc := rr.cellAt (i := 1) rfl
            have hfz := rr.free 1
            go_simp
            exact hK _ _ ⟨_, _, _, _, _, _, _, _, _, _, rfl, Lib.hid ⟨h0, h1, h2, h3, h4, h5, h6, h7, h8, h10⟩, Lib.hid (HW.out.setCell (p := ⟨w.heap.size + 1 + 1 + 1, 1, none⟩) n5 _), Lib.hid ⟨r1.other n0, r2.other n1, ro.other n2, p1.other n3, p2.other n4, _, _, rr.set 1 (.slice (some ⟨g1, 0, none⟩) 128 128), fun _ => rfl, q11⟩⟩
          · rintro b a wy hb hd ⟨z32, z33, z34, z35, z36, z37, z38, z39, z40, z41, rfl, HV, HW, HX⟩ K hK
            obtain ⟨h0, h1, h2, h3, h4, h5, h6, h7, h8, h10⟩ := HV.out
            simp [Region.binds] at hd
            obtain rfl := h5 (by simp [hd])
            clear hd
            go_simp
            exact hK _ _ ⟨_, _, _, _, _, _, _, _, _, _, rfl, Lib.hid ⟨h0, h1, h2, h3, h4, h5, h6, h7, h8, fun _ => rfl⟩, HW, HX⟩
          · rintro b a wy hb hd ⟨z32, z33, z34, z35, z36, z37, z38, z39, z40, z41, rfl, HV, HW, HX⟩ K hK
            obtain ⟨h0, h1, h2, h3, h4, h5, h6, h7, h8, h10⟩ := HV.out
            simp [Region.binds] at hd
            obtain rfl := h10 (by simp [hd])
            obtain rfl := h7 (by simp [hd])
            clear hd
            obtain ⟨r1, r2, ro, p1, p2, x, y, rr, q9, q11⟩ := HX.out
            have hc := rr.cellAt (i := 0) rfl
            have hfz := rr.free 0
            go_simp
            exact hK _ _ ⟨_, _, _, _, _, _, _, _, _, _, rfl, Lib.hid ⟨h0, h1, h2, h3, h4, h5, h6, h7, h8, h10⟩, Lib.hid (HW.out.setCell (p := ⟨w.heap.size + 1 + 1 + 1, 0, none⟩) n5 _), Lib.hid ⟨r1.other n0, r2.other n1, ro.other n2, p1.other n3, p2.other n4, _, _, rr.set 0 (.slice (some ⟨g2, 0, none⟩) 128 128), q9, fun _ => rfl⟩⟩
        case doneW1 =>
          rintro b a wy hb ⟨z32, z33, z34, z35, z36, z37, z38, z39, z40, z41, rfl, HV, HW, HX⟩
          obtain ⟨h0, h1, h2, h3, h4, h5, h6, h7, h8, h10⟩ := HV.out
          obtain rfl := h0 (hb 0)
          obtain rfl := h1 (hb 1)
          obtain rfl := h2 (hb 2)
          obtain rfl := h3 (hb 3)
          obtain rfl := h4 (hb 4)
          obtain rfl := h5 (hb 5)
          obtain rfl := h6 (hb 6)
          obtain rfl := h7 (hb 7)
          obtain rfl := h8 (hb 8)
          obtain rfl := h10 (hb 10)
          clear HV h0 h1 h2 h3 h4 h5 h6 h7 h8 h10
          obtain ⟨r1, r2, ro, p1, p2, x, y, rr, q9, q11⟩ := HX.out
          obtain rfl := q9 (hb 9)
          obtain rfl := q11 (hb 11)
          clear hb q9 q11 HX HR1 HR2 HO HS HG1 HG2 HB HS0 HS1 r1 r2
          have HB := HW
          have HO := Lib.hid ro
          have HS := Lib.hid rr
          have HG1 := Lib.hid p1
          have HG2 := Lib.hid p2
          clear HW ro rr p1 p2
          go_wp2_with (first | (refine wpList_load_row rfl 46 (.tmp 6) rfl (w.heap.size + 1 + 1 + 1) rfl _ #[.slice (some ⟨g2, 0, none⟩) 128 128, .slice (some ⟨g1, 0, none⟩) 128 128] _ _ HS.out Try.underlying46 rfl (by kernel_rfl) ?_) | (refine wpList_store_row rfl 46 (.tmp 4) (.tmp 42) rfl (w.heap.size + 1 + 1) #[.slice (some ⟨g2, 0, none⟩) 128 128, .slice (some ⟨g1, 0, none⟩) 128 128] rfl rfl _ _ HO.out (by kernel_rfl) (by simp) (by first | kernel_rfl | decide | simp [Value.oneCell']) ?_))
          refine bodyPost_ret (results_pair rfl _ _ (w.heap.size + 1 + 1) (.slice (some ⟨g2, 0, none⟩) 128 128) (.slice (some ⟨g1, 0, none⟩) 128 128) rfl (row_setRow_same HO.out)) rfl ⟨HB.out.trans (setRow_below _ (by omega)), .inr ⟨fs, ft, g1, g2, gne, by omega, by omega, pg_setRow HG1.out (by omega), pg_setRow HG2.out (by omega), .inr ⟨hp, rfl⟩⟩⟩
    · skip
      refine (encode_none (after s t) HT.out v2 ft).mono ?_
      rintro e v3 ⟨rfl, kk⟩
      replace HR1 := Lib.hid (HR1.out.below HR1.out.lt kk)
      replace HR2 := Lib.hid (HR2.out.below HR2.out.lt kk)
      replace HO := Lib.hid (HO.out.below HO.out.lt kk)
      replace HS := Lib.hid (HS.out.below HS.out.lt kk)
      replace HB := Lib.hid (HB.out.trans (kk.mono HB.out.size))
      clear kk
      go_wp2_with (first | (refine wpList_load_row rfl 46 (.tmp 6) rfl (w.heap.size + 1 + 1 + 1) rfl _ #[(.slice none 0 0), (.slice none 0 0)] _ _ HS.out Try.underlying46 rfl (by kernel_rfl) ?_) | (refine wpList_store_row rfl 46 (.tmp 4) (.tmp 31) rfl (w.heap.size + 1 + 1) #[(.slice none 0 0), (.slice none 0 0)] rfl rfl _ _ HO.out (by kernel_rfl) (by simp) (by first | kernel_rfl | decide | simp [Value.oneCell']) ?_))
      refine bodyPost_ret (results_pair rfl _ _ (w.heap.size + 1 + 1) (.slice none 0 0) (.slice none 0 0) rfl (row_setRow_same HO.out)) rfl ⟨HB.out.trans (setRow_below _ (by omega)), .inl ⟨?_, rfl⟩⟩
      exact fun q => ft q.2
  · skip
    go_wp2_with (first | (refine wpList_load_row rfl 27 (.tmp 2) rfl w.heap.size rfl _ (scells s).toArray _ _ HR1.out Try.underlying27 rfl (size_scells _) ?_) | (refine wpList_load_row rfl 27 (.tmp 3) rfl (w.heap.size + 1) rfl _ (scells (after s t)).toArray _ _ HR2.out Try.underlying27 rfl (size_scells _) ?_))
    refine (encode_none s hs v1 fs).mono ?_
    rintro e v2 ⟨rfl, kk⟩
    replace HR1 := Lib.hid (HR1.out.below HR1.out.lt kk)
    replace HR2 := Lib.hid (HR2.out.below HR2.out.lt kk)
    replace HO := Lib.hid (HO.out.below HO.out.lt kk)
    replace HS := Lib.hid (HS.out.below HS.out.lt kk)
    replace HB := Lib.hid (HB.out.trans (kk.mono HB.out.size))
    clear kk
    go_wp2_with (first | (refine wpList_load_row rfl 27 (.tmp 2) rfl w.heap.size rfl _ (scells s).toArray _ _ HR1.out Try.underlying27 rfl (size_scells _) ?_) | (refine wpList_load_row rfl 27 (.tmp 3) rfl (w.heap.size + 1) rfl _ (scells (after s t)).toArray _ _ HR2.out Try.underlying27 rfl (size_scells _) ?_))
    by_cases ft : Fit (after s t)
    · skip
      refine (encode_bts (after s t) HT.out v2 ft).mono ?_
      rintro e v3 ⟨g2, rfl, P2, F2, G2, kk⟩
      replace HR1 := Lib.hid (HR1.out.below HR1.out.lt kk)
      replace HR2 := Lib.hid (HR2.out.below HR2.out.lt kk)
      replace HO := Lib.hid (HO.out.below HO.out.lt kk)
      replace HS := Lib.hid (HS.out.below HS.out.lt kk)
      replace HB := Lib.hid (HB.out.trans (kk.mono HB.out.size))
      clear P2 F2
      clear kk
      go_wp2_with (first | (refine wpList_load_row rfl 46 (.tmp 6) rfl (w.heap.size + 1 + 1 + 1) rfl _ #[(.slice none 0 0), (.slice none 0 0)] _ _ HS.out Try.underlying46 rfl (by kernel_rfl) ?_) | (refine wpList_store_row rfl 46 (.tmp 4) (.tmp 31) rfl (w.heap.size + 1 + 1) #[(.slice none 0 0), (.slice none 0 0)] rfl rfl _ _ HO.out (by kernel_rfl) (by simp) (by first | kernel_rfl | decide | simp [Value.oneCell']) ?_))
      refine bodyPost_ret (results_pair rfl _ _ (w.heap.size + 1 + 1) (.slice none 0 0) (.slice none 0 0) rfl (row_setRow_same HO.out)) rfl ⟨HB.out.trans (setRow_below _ (by omega)), .inl ⟨?_, rfl⟩⟩
      exact fun q => fs q.1
    · skip
      refine (encode_none (after s t) HT.out v2 ft).mono ?_
      rintro e v3 ⟨rfl, kk⟩
      replace HR1 := Lib.hid (HR1.out.below HR1.out.lt kk)
      replace HR2 := Lib.hid (HR2.out.below HR2.out.lt kk)
      replace HO := Lib.hid (HO.out.below HO.out.lt kk)
      replace HS := Lib.hid (HS.out.below HS.out.lt kk)
      replace HB := Lib.hid (HB.out.trans (kk.mono HB.out.size))
      clear kk
      go_wp2_with (first | (refine wpList_load_row rfl 46 (.tmp 6) rfl (w.heap.size + 1 + 1 + 1) rfl _ #[(.slice none 0 0), (.slice none 0 0)] _ _ HS.out Try.underlying46 rfl (by kernel_rfl) ?_) | (refine wpList_store_row rfl 46 (.tmp 4) (.tmp 31) rfl (w.heap.size + 1 + 1) #[(.slice none 0 0), (.slice none 0 0)] rfl rfl _ _ HO.out (by kernel_rfl) (by simp) (by first | kernel_rfl | decide | simp [Value.oneCell']) ?_))
      refine bodyPost_ret (results_pair rfl _ _ (w.heap.size + 1 + 1) (.slice none 0 0) (.slice none 0 0) rfl (row_setRow_same HO.out)) rfl ⟨HB.out.trans (setRow_below _ (by omega)), .inl ⟨?_, rfl⟩⟩
      exact fun q => fs q.1
end Go.Proofs.Ytkhimoclikhlaaa.Su
