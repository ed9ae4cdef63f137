/- Contract: shelf.Decode of a page whose sum is right. -/
import Derived.Test.YtamibckpkhpmfaaSfK
import Derived.Deep.RegionWith
import Derived.Deep.RegionHeld3
import Derived.Deep.DeepCutAuto
namespace Go.Proofs.Ytamibckpkhpmfaa.Sf
open Go.RowKit Go.Proofs.Ytamibckpkhpmfaa.Oct
set_option linter.unusedVariables false

theorem num_u8 (bs : List UInt8) (h : bs.length = 1) : (UInt8.ofNat (num bs)).toNat = num bs := by
  have := num_lt bs; rw [h] at this; simp; omega
theorem num_u32 (bs : List UInt8) (h : bs.length = 4) : (UInt32.ofNat (num bs)).toNat = num bs := by
  have := num_lt bs; rw [h] at this; simp; omega
theorem num_u64 (bs : List UInt8) (h : bs.length = 8) : (UInt64.ofNat (num bs)).toNat = num bs := by
  have := num_lt bs; rw [h] at this; simp; omega

/-- What Decode has laid: its result's cells, the body, the layout. -/
structure Dcd (w0 w : World) (g q : Nat) (bs : List UInt8) : Prop where
  below : Below w0.heap.size w0 w
  res : RowV w w0.heap.size 25 res0
  o1 : w0.heap.size < g
  o2 : g < q
  has : Has w g 0 bs
  len : bs.length = 123
  lay : RowV w q 49 (laid g 9)
theorem Dcd.grow {w0 w w' : World} {g q : Nat} {bs : List UInt8} (h : Dcd w0 w g q bs) (k : Below w.heap.size w w') : Dcd w0 w' g q bs :=
  ⟨h.below.trans (k.mono h.below.size), h.res.below h.res.lt k, h.o1, h.o2, h.has.below (by have := h.lay.lt; have := h.o2; omega) k, h.len, h.lay.below h.lay.lt k⟩
theorem Dcd.above {w0 w w' : World} {g q B : Nat} {bs : List UInt8} (h : Dcd w0 w g q bs) (k : Below B w w') (hB : q < B) : Dcd w0 w' g q bs :=
  ⟨h.below.trans (k.mono (by have := h.o1; have := h.o2; omega)), h.res.below (by have := h.o1; have := h.o2; omega) k, h.o1, h.o2, h.has.below (by have := h.o2; omega) k, h.len, h.lay.below hB k⟩
theorem Dcd.still {w0 w w' : World} {g q : Nat} {bs : List UInt8} (h : Dcd w0 w g q bs) (k : Still w w') : Dcd w0 w' g q bs := h.grow (k.below _)
theorem Dcd.get {w0 w : World} {g q : Nat} {bs : List UInt8} (h : Dcd w0 w g q bs) (o s : Nat) (hs : o + s ≤ 123) : Has w g o ((bs.drop o).take s) ∧ ((bs.drop o).take s).length = s := by
  have := h.has.cut o s
  rw [Nat.zero_add] at this
  exact ⟨this, by have := h.len; simp; omega⟩

theorem get_d {w0 w : World} {g q : Nat} {bs : List UInt8} (h : Dcd w0 w g q bs) : Calls Try.prog 26 #[.slice (some ⟨g, 0, none⟩) 1 1] w fun e w' => e = .returned (.int .u64 ((dAt bs).toNat : Int)) ∧ w = w' := by
  have H := h.get 0 1 (by decide)
  refine (get_any g 0 1 _ H.2 w H.1 (by decide) (by decide)).mono fun e w' ⟨he, hw⟩ => ⟨?_, hw⟩
  have := num_u8 _ H.2
  rw [he]
  unfold dAt
  rw [List.drop_zero] at this ⊢
  rw [this]
theorem get_c {w0 w : World} {g q : Nat} {bs : List UInt8} (h : Dcd w0 w g q bs) : Calls Try.prog 26 #[.slice (some ⟨g, 1, none⟩) 1 1] w fun e w' => e = .returned (.int .u64 (cAt bs : Int)) ∧ w = w' := by
  have H := h.get 1 1 (by decide)
  exact (get_any g 1 1 _ H.2 w H.1 (by decide) (by decide)).mono fun e w' ⟨he, hw⟩ => ⟨he, hw⟩
theorem get_n {w0 w : World} {g q : Nat} {bs : List UInt8} (h : Dcd w0 w g q bs) : Calls Try.prog 26 #[.slice (some ⟨g, 2, none⟩) 4 4] w fun e w' => e = .returned (.int .u64 ((nAt bs).toNat : Int)) ∧ w = w' := by
  have H := h.get 2 4 (by decide)
  refine (get_any g 2 4 _ H.2 w H.1 (by decide) (by decide)).mono fun e w' ⟨he, hw⟩ => ⟨?_, hw⟩
  have := num_u32 _ H.2
  rw [he]
  unfold nAt
  rw [this]
theorem get_p {w0 w : World} {g q : Nat} {bs : List UInt8} (h : Dcd w0 w g q bs) (k : Nat) (hk : k < 9) : Calls Try.prog 26 #[.slice (some ⟨g, 6 + 12 * k, none⟩) 8 8] w fun e w' => e = .returned (.int .u64 ((eAt bs k).1.toNat : Int)) ∧ w' = w := by
  have H := h.get (6 + 12 * k) 8 (by omega)
  refine (get_any g (6 + 12 * k) 8 _ H.2 w H.1 (by decide) (by decide)).mono fun e w' ⟨he, hw⟩ => ⟨?_, hw.symm⟩
  have := num_u64 _ H.2
  rw [he]
  unfold eAt
  rw [this]
theorem get_b {w0 w : World} {g q : Nat} {bs : List UInt8} (h : Dcd w0 w g q bs) (k : Nat) (hk : k < 9) : Calls Try.prog 26 #[.slice (some ⟨g, 14 + 12 * k, none⟩) 4 4] w fun e w' => e = .returned (.int .u64 ((eAt bs k).2.toNat : Int)) ∧ w' = w := by
  have H := h.get (14 + 12 * k) 4 (by omega)
  refine (get_any g (14 + 12 * k) 4 _ H.2 w H.1 (by decide) (by decide)).mono fun e w' ⟨he, hw⟩ => ⟨?_, hw.symm⟩
  have := num_u32 _ H.2
  rw [he]
  unfold eAt
  rw [this]

/-! ### Entries that are made -/
theorem made_ents (n : Nat) : madeCells (Value.agg #[.int .u64 0, .int .u32 0]).cells (n * 2) = (evals (List.replicate n (0, 0))).toArray := by
  induction n with
  | zero => simp [madeCells, evals]
  | succ n ih =>
    apply Array.ext
    · simp [madeCells, length_evals]; omega
    · intro i h1 h2
      have hi : i < (n + 1) * 2 := by simpa [madeCells] using h1
      have e : ((evals (List.replicate (n + 1) (0, 0))).toArray)[i]? = some (if i % 2 = 0 then .int .u64 0 else .int .u32 0) := by
        rcases Nat.mod_two_eq_zero_or_one i with h0 | h0
        · have := evals_print (List.replicate (n + 1) ((0, 0) : Ent)) (i / 2) (by simp; omega)
          rw [show 2 * (i / 2) = i by omega] at this
          rw [if_pos h0]
          simpa using this
        · have := evals_block (List.replicate (n + 1) ((0, 0) : Ent)) (i / 2) (by simp; omega)
          rw [show 2 * (i / 2) + 1 = i by omega] at this
          rw [if_neg (by omega)]
          simpa using this
      rw [Array.getElem?_eq_getElem h2] at e
      rw [Option.some.inj e]
      rcases Nat.mod_two_eq_zero_or_one i with h0 | h0 <;> simp [madeCells, Value.cells, h0]
theorem run_make_ents (w : World) (n : Nat) (hn : n ≤ 1000) :
    (Instr.makeSlice 23 (.int .u64 (n : Int)) (.int .u64 (n : Int))).run Try.prog w = .ok (.slice (some ⟨w.heap.size, 0, none⟩) n n) (w.alloc (.cells (evals (List.replicate n (0, 0))).toArray 40)) := by
  have i0 : (Try.prog.info? 40).map (fun i => (i.zero, i.size, i.bytes)) = some (some (.agg #[.int .u64 0, .int .u32 0]), 2, 16) := by kernel_rfl
  obtain ⟨i0, hi, hz0, hz1, hz2⟩ := info_parts i0
  have h := run_make (P := Try.prog) w 23 40 i0 (.agg #[.int .u64 0, .int .u32 0]) Try.underlying23 hi hz0 .u64 .u64 n n (by omega) (by omega) (by rw [hz2]; omega) (by omega)
  rw [hz1, Int.toNat_natCast, made_ents] at h
  exact h
/-- So many entries of which the first k are told. -/
def entsTo (f : Nat → Ent) (n k : Nat) : List Ent := (List.range n).map fun j => if j < k then f j else (0, 0)
theorem length_entsTo (f : Nat → Ent) (n k : Nat) : (entsTo f n k).length = n := by simp [entsTo]
theorem entsTo_zero (f : Nat → Ent) (n : Nat) : entsTo f n 0 = List.replicate n (0, 0) := by
  apply List.ext_getElem
  · simp [entsTo]
  · intro i h1 h2; simp [entsTo]
theorem entsTo_set (f : Nat → Ent) (n k : Nat) (hk : k < n) : (entsTo f n k).set k (f k) = entsTo f n (k + 1) := by
  apply List.ext_getElem
  · simp [entsTo]
  · intro i h1 h2
    rw [List.getElem_set]
    by_cases h : k = i
    · subst h
      simp [entsTo]
    · simp only [h, if_false, entsTo, List.getElem_map, List.getElem_range]
      by_cases h3 : i < k
      · rw [if_pos h3, if_pos (by omega)]
      · rw [if_neg h3, if_neg (by omega)]
theorem entsTo_all (f : Nat → Ent) (n : Nat) : entsTo f n n = (List.range n).map f := by
  apply List.ext_getElem
  · simp [entsTo]
  · intro i h1 h2
    simp [entsTo] at h1 h2 ⊢
    omega

/-- A shelf whose entries are still noughts, made in two blocks of its own. -/
structure Mk (w0 w : World) (sb eb : Nat) (d : UInt8) (nx : UInt32) (n : Nat) : Prop where
  below : Below w0.heap.size w0 w
  s1 : w0.heap.size ≤ sb
  e1 : w0.heap.size ≤ eb
  ne : sb ≠ eb
  box : RowV w sb 25 [.int .u8 (d.toNat : Int), .int .u32 (nx.toNat : Int), .slice (some ⟨eb, 0, none⟩) n n]
  ents : RowV w eb 40 (evals (List.replicate n (0, 0)))
theorem wrap8 (d : UInt8) : IntKind.u8.wrap (d.toNat : Int) = (d.toNat : Int) := by have := u8_le d; simp [IntKind.wrap_u8]; omega
theorem wrap32 (d : UInt32) : IntKind.u32.wrap (d.toNat : Int) = (d.toNat : Int) := by have := u32_lt d; simp [IntKind.wrap_u32]; omega
theorem mk_a (w : World) (d : UInt8) (nx : UInt32) (n : Nat) :
    Mk w (((w.alloc (.cells (evals (List.replicate n (0, 0))).toArray 40)).alloc (.cells #[.int .u8 (IntKind.u8.wrap (d.toNat : Int)), .int .u32 (IntKind.u32.wrap (nx.toNat : Int)), .slice (some ⟨w.heap.size, 0, none⟩) n n] 25)).drew) (w.heap.size + 1) w.heap.size d nx n := by
  rw [wrap8, wrap32]
  have R1 := alloc_rowV w 40 (evals (List.replicate n (0, 0)))
  have b1 := (Below.refl w.heap.size w).alloc (Nat.le_refl _) (.cells (evals (List.replicate n (0, 0))).toArray 40)
  have hs : (w.alloc (.cells (evals (List.replicate n (0, 0))).toArray 40)).heap.size = w.heap.size + 1 := by simp
  generalize w.alloc (.cells (evals (List.replicate n (0, 0))).toArray 40) = w1 at *
  have R2 := alloc_rowV w1 25 [.int .u8 (d.toNat : Int), .int .u32 (nx.toNat : Int), .slice (some ⟨w.heap.size, 0, none⟩) n n]
  change RowV (w1.alloc (.cells #[.int .u8 (d.toNat : Int), .int .u32 (nx.toNat : Int), .slice (some ⟨w.heap.size, 0, none⟩) n n] 25)) _ _ _ at R2
  have b2 := (Below.refl w1.heap.size w1).alloc (Nat.le_refl _) (.cells #[.int .u8 (d.toNat : Int), .int .u32 (nx.toNat : Int), .slice (some ⟨w.heap.size, 0, none⟩) n n] 25)
  generalize w1.alloc (.cells #[.int .u8 (d.toNat : Int), .int .u32 (nx.toNat : Int), .slice (some ⟨w.heap.size, 0, none⟩) n n] 25) = w2 at *
  rw [hs] at R2
  exact ⟨b1.trans ((b2.mono (by omega)).trans ((Still.drew w2).below _)), by omega, Nat.le_refl _, by omega, R2.still (Still.drew w2), (R1.below R1.lt b2).still (Still.drew w2)⟩
theorem mk_b (w : World) (d : UInt8) (nx : UInt32) (n : Nat) :
    Mk w (((w.alloc (.cells #[.int .u8 (IntKind.u8.wrap (d.toNat : Int)), .int .u32 (IntKind.u32.wrap (nx.toNat : Int)), .slice (some ⟨w.heap.size + 1, 0, none⟩) n n] 25)).alloc (.cells (evals (List.replicate n (0, 0))).toArray 40)).drew) w.heap.size (w.heap.size + 1) d nx n := by
  rw [wrap8, wrap32]
  have R1 := alloc_rowV w 25 [.int .u8 (d.toNat : Int), .int .u32 (nx.toNat : Int), .slice (some ⟨w.heap.size + 1, 0, none⟩) n n]
  change RowV (w.alloc (.cells #[.int .u8 (d.toNat : Int), .int .u32 (nx.toNat : Int), .slice (some ⟨w.heap.size + 1, 0, none⟩) n n] 25)) _ _ _ at R1
  have b1 := (Below.refl w.heap.size w).alloc (Nat.le_refl _) (.cells #[.int .u8 (d.toNat : Int), .int .u32 (nx.toNat : Int), .slice (some ⟨w.heap.size + 1, 0, none⟩) n n] 25)
  have hs : (w.alloc (.cells #[.int .u8 (d.toNat : Int), .int .u32 (nx.toNat : Int), .slice (some ⟨w.heap.size + 1, 0, none⟩) n n] 25)).heap.size = w.heap.size + 1 := by simp
  generalize w.alloc (.cells #[.int .u8 (d.toNat : Int), .int .u32 (nx.toNat : Int), .slice (some ⟨w.heap.size + 1, 0, none⟩) n n] 25) = w1 at *
  have R2 := alloc_rowV w1 40 (evals (List.replicate n (0, 0)))
  have b2 := (Below.refl w1.heap.size w1).alloc (Nat.le_refl _) (.cells (evals (List.replicate n (0, 0))).toArray 40)
  generalize w1.alloc (.cells (evals (List.replicate n (0, 0))).toArray 40) = w2 at *
  rw [hs] at R2
  exact ⟨b1.trans ((b2.mono (by omega)).trans ((Still.drew w2).below _)), Nat.le_refl _, by omega, by omega, (R1.below R1.lt b2).still (Still.drew w2), R2.still (Still.drew w2)⟩

/-- The same with the shelf that is read, of whose entries those of E are told. -/
structure Dk (w0 w : World) (g q sb eb : Nat) (bs : List UInt8) (d : UInt8) (nx : UInt32) (E : List Ent) (n : Nat) : Prop where
  dcd : Dcd w0 w g q bs
  s1 : q < sb
  e1 : q < eb
  ne : sb ≠ eb
  box : RowV w sb 25 [.int .u8 (d.toNat : Int), .int .u32 (nx.toNat : Int), .slice (some ⟨eb, 0, none⟩) n n]
  ents : RowV w eb 40 (evals E)
theorem Dk.grow {w0 w w' : World} {g q sb eb n : Nat} {bs : List UInt8} {d : UInt8} {nx : UInt32} {E : List Ent} (h : Dk w0 w g q sb eb bs d nx E n) (k : Below w.heap.size w w') : Dk w0 w' g q sb eb bs d nx E n :=
  ⟨h.dcd.grow k, h.s1, h.e1, h.ne, h.box.below h.box.lt k, h.ents.below h.ents.lt k⟩
theorem Dk.still {w0 w w' : World} {g q sb eb n : Nat} {bs : List UInt8} {d : UInt8} {nx : UInt32} {E : List Ent} (h : Dk w0 w g q sb eb bs d nx E n) (k : Still w w') : Dk w0 w' g q sb eb bs d nx E n := h.grow (k.below _)
theorem Dk.set {w0 w : World} {g q sb eb n : Nat} {bs : List UInt8} {d : UInt8} {nx : UInt32} {E : List Ent} (h : Dk w0 w g q sb eb bs d nx E n) (k : Nat) (x : Ent) (v : Int) (hv : v = (x.2.toNat : Int)) :
    Dk w0 ((w.setCell ⟨eb, k * 2, none⟩ (.int .u64 (x.1.toNat : Int))).setCell ⟨eb, k * 2 + 1, none⟩ (.int .u32 v)) g q sb eb bs d nx (E.set k x) n := by
  subst hv
  have b : Below eb w ((w.setCell ⟨eb, k * 2, none⟩ (.int .u64 (x.1.toNat : Int))).setCell ⟨eb, k * 2 + 1, none⟩ (.int .u32 (x.2.toNat : Int))) := ((Below.refl _ _).setCell (p := ⟨eb, k * 2, none⟩) (Nat.le_refl _) _).setCell (p := ⟨eb, k * 2 + 1, none⟩) (Nat.le_refl _) _
  refine ⟨h.dcd.above b h.e1, h.s1, h.e1, h.ne, (h.box.other h.ne).other h.ne, ?_⟩
  have := (h.ents.set (k * 2) (.int .u64 (x.1.toNat : Int))).set (k * 2 + 1) (.int .u32 (x.2.toNat : Int))
  have e := evals_set E k x
  rw [Nat.mul_comm 2 k] at e
  rwa [e] at this

set_option maxRecDepth 100000 in
set_option maxHeartbeats 1000000 in
theorem decode_good (b o cap : Nat) (ps : List UInt8) (w : World) (hb : Has w b o ps) (hlen : ps.length = 128) (hc : 128 ≤ cap) (hm : cap ≤ maxLen) (hs : Oct.Good ps) :
    Calls Try.prog 12 #[.slice (some ⟨b, o, none⟩) 128 cap] w (fun e w' => (Holds ps ∧ ∃ g, DecYes w ps e w' g) ∨ (¬ Holds ps ∧ DecNo w e w')) := by
  have b1 := (Below.refl w.heap.size w).alloc (Nat.le_refl _) (.cells #[.int .u8 0, .int .u32 0, .slice none 0 0] 25)
  have hbw := has_lt hb (by omega)
  have HB := Lib.hid (hb.below hbw b1)
  have HB0 := Lib.hid hb
  have BB := Lib.hid b1
  have RS := Lib.hid (res_new w)
  have HL := Lib.hid hlen
  have HS := Lib.hid hs
  have HM := Lib.hid hm
  clear hb hlen b1 hs hm
  go_enter Try.func12, Try.ntmps12
  go_wp2_with fail
  generalize w.alloc (.cells #[.int .u8 0, .int .u32 0, .slice none 0 0] 25) = w1 at *
  refine (open_good b o cap ps _ HB.out HL.out hc HM.out HS.out).mono ?_
  rintro e w2 ⟨g, rfl, F⟩
  have R2 := RS.out.below RS.out.lt F.below
  have Y2 := BB.out.trans (F.below.mono BB.out.size)
  have hbl : ((ps.drop 1).take 123).length = 123 := by have := HL.out; simp; omega
  have hH2 := F.has
  have hg : w.heap.size < g := Nat.lt_of_lt_of_le RS.out.lt F.lo
  have hgl := F.hi
  change Has w2 g 0 (bodyIn ps) at hH2
  change (bodyIn ps).length = 123 at hbl
  have HBL := Lib.hid hbl
  generalize (ps[0]'(by have := HL.out; omega)).toNat = kd
  clear F HB BB RS hbl
  -- the places
  have R3 := alloc_rowV w2 44 [.slice (some ⟨g, 0, none⟩) 123 123, .int .i64 0]
  change RowV (w2.alloc (.cells #[.slice (some ⟨g, 0, none⟩) 123 123, .int .i64 0] 44)) _ _ _ at R3
  have b3 := (Below.refl w2.heap.size w2).alloc (Nat.le_refl _) (.cells #[.slice (some ⟨g, 0, none⟩) 123 123, .int .i64 0] 44)
  have hs3 : (w2.alloc (.cells #[.slice (some ⟨g, 0, none⟩) 123 123, .int .i64 0] 44)).heap.size = w2.heap.size + 1 := by simp
  go_wp2_with fail
  generalize w2.alloc (.cells #[.slice (some ⟨g, 0, none⟩) 123 123, .int .i64 0] 44) = w3 at *
  obtain ⟨p, hp⟩ : ∃ p, p = w2.heap.size := ⟨_, rfl⟩
  rw [← hp] at R3 b3 hs3 hgl ⊢
  have PL3 : Places w3 p g 0 := ⟨R3, by decide⟩
  have R3' := R2.below (by omega) b3
  have Y3 := Y2.trans (b3.mono (by omega))
  have hH3 := hH2.below hgl b3
  refine (layout_any PL3).mono ?_
  rintro e w4 ⟨rfl, G4, P4⟩
  have b4 := G4.below (B := p) (Nat.le_refl _) (by omega)
  have R4 := R3'.below (by omega) b4
  have Y4 := Y3.trans (b4.mono (by omega))
  have hH4 := hH3.below hgl b4
  have hst := run_storeCells_new (P := Try.prog) w4 49 #[.slice none 0 0, .slice none 0 0, .slice none 0 0, .slice none 0 0, .slice none 0 0, .slice none 0 0, .slice none 0 0, .slice none 0 0, .slice none 0 0, .slice none 0 0, .slice none 0 0, .slice none 0 0, .slice none 0 0, .slice none 0 0, .slice none 0 0, .slice none 0 0, .slice none 0 0, .slice none 0 0, .slice none 0 0, .slice none 0 0, .slice none 0 0] (laid g 9).toArray (size_laid g 9) (by simp [length_laid]) (one_laid g 9)
  have R5 := alloc_rowV w4 49 (laid g 9)
  have b5 := (Below.refl w4.heap.size w4).alloc (Nat.le_refl _) (.cells (laid g 9).toArray 49)
  generalize w4.alloc (.cells (laid g 9).toArray 49) = w5 at *
  have D5 := Lib.hid (show Dcd w w5 g w4.heap.size (bodyIn ps) from
    ⟨Y4.trans (b5.mono (by have := Y4.size; omega)), R4.below R4.lt b5, hg, by have := P4.row.lt; omega, hH4.below (by have := P4.row.lt; omega) b5, HBL.out, R5⟩)
  have l1 : w5.cell? ⟨w4.heap.size, 1, none⟩ = some (.slice (some ⟨g, 1, none⟩) 1 1) := D5.out.lay.cellAt (i := 1) (by rw [laid_at g 9 1 (by omega)]; rfl)
  clear R2 Y2 hH2 R3 b3 hs3 PL3 R3' Y3 hH3 G4 P4 b4 R4 Y4 hH4 R5 b5 hp hgl
  go_wp2_with fail
  clear hst
  generalize w4.heap.size = q at *
  refine (get_c D5.out).mono ?_
  rintro e w' ⟨rfl, rfl⟩
  have HC := Lib.hid (show cIn ps = cAt (bodyIn ps) from rfl)
  have hcl : cAt (bodyIn ps) < 256 := by
    have := num_lt (((bodyIn ps).drop 1).take 1)
    rw [show (((bodyIn ps).drop 1).take 1).length = 1 by simp [HBL.out]] at this
    exact this
  generalize cAt (bodyIn ps) = cn at *
  by_cases hn : cn ≤ 9
  · have l0 : w5.cell? ⟨q, 0, none⟩ = some (.slice (some ⟨g, 0, none⟩) 1 1) := D5.out.lay.cellAt (i := 0) (by rw [laid_at g 9 0 (by omega)]; rfl)
    have l2 : w5.cell? ⟨q, 2, none⟩ = some (.slice (some ⟨g, 2, none⟩) 4 4) := D5.out.lay.cellAt (i := 2) (by rw [laid_at g 9 2 (by omega)]; rfl)
    have hd := u8_le (dAt (bodyIn ps))
    have hx := u32_lt (nAt (bodyIn ps))
    have HD := Lib.hid (show ∀ w', Below w5.heap.size w5 w' → Dcd w w' g q (bodyIn ps) from fun w' k => D5.out.grow k)
    have hmk := fun w' => run_make_ents w' cn (by omega)
    have KS := Lib.hid (show ∀ w', Below w5.heap.size w5 w' → (w'.cell? ⟨q, 0, none⟩ = some (.slice (some ⟨g, 0, none⟩) 1 1) ∧ w'.cell? ⟨q, 2, none⟩ = some (.slice (some ⟨g, 2, none⟩) 4 4)) from fun w' k => ⟨(k.cell (p := ⟨q, 0, none⟩) D5.out.lay.lt).trans l0, (k.cell (p := ⟨q, 2, none⟩) D5.out.lay.lt).trans l2⟩)
    go_wp2_with fail
    go_cut [10] (fun s10 wx => ∃ sb eb : Nat, s10 = .pointer (some ⟨sb, 0, none⟩) ∧ Hid (Mk w5 wx sb eb (dIn ps) (nIn ps) cn))
    case first =>
      go_region_held3 (fun w' => w'.cell? ⟨q, 0, none⟩ = some (.slice (some ⟨g, 0, none⟩) 1 1) ∧ w'.cell? ⟨q, 2, none⟩ = some (.slice (some ⟨g, 2, none⟩) 4 4)) ((refine KS.out _ ?_; (repeat' (first | with_reducible exact Below.refl _ _ | with_reducible refine Below.drew ?_ | with_reducible refine Below.setCell ?_ (by first | exact Nat.le_refl _ | (simp; done)) _ | with_reducible refine Below.alloc ?_ (by first | exact Nat.le_refl _ | (simp; done)) _)))) (first | (go_at_call 26; with_reducible refine (get_n (HD.out _ (by (repeat' (first | with_reducible exact Below.refl _ _ | with_reducible refine Below.drew ?_ | with_reducible refine Below.setCell ?_ (by first | exact Nat.le_refl _ | (simp; done)) _ | with_reducible refine Below.alloc ?_ (by first | exact Nat.le_refl _ | (simp; done)) _))))).mono ?_; rintro e wr ⟨rfl, rfl⟩) | (go_at_call 26; with_reducible refine (get_d (HD.out _ (by (repeat' (first | with_reducible exact Below.refl _ _ | with_reducible refine Below.drew ?_ | with_reducible refine Below.setCell ?_ (by first | exact Nat.le_refl _ | (simp; done)) _ | with_reducible refine Below.alloc ?_ (by first | exact Nat.le_refl _ | (simp; done)) _))))).mono ?_; rintro e wr ⟨rfl, rfl⟩) | fail)
      all_goals
        go_wp2_with fail
        go_meet
        first
          | exact ⟨_, _, rfl, Lib.hid (mk_a w5 (dIn ps) (nIn ps) cn)⟩
          | exact ⟨_, _, rfl, Lib.hid (mk_b w5 (dIn ps) (nIn ps) cn)⟩
    case rest =>
      obtain ⟨sb, eb, rfl, HMK⟩ := hcut
      have K0 := Lib.hid (show Dk w wc g q sb eb (bodyIn ps) (dIn ps) (nIn ps) (entsTo (eAt (bodyIn ps)) cn 0) cn from
        ⟨D5.out.grow HMK.out.below, Nat.lt_of_lt_of_le D5.out.lay.lt HMK.out.s1, Nat.lt_of_lt_of_le D5.out.lay.lt HMK.out.e1, HMK.out.ne, HMK.out.box, by rw [entsTo_zero]; exact HMK.out.ents⟩)
      have c2 := K0.out.box.cellAt (i := 2) rfl
      clear HMK KS HD l0 l1 l2 hmk D5
      go_wp2_with fail
      go_loopw [47] (fun i wr => ∃ k : Nat, k ≤ cn ∧ i = .int .i64 (k : Int) ∧ Hid (Dk w wr g q sb eb (bodyIn ps) (dIn ps) (nIn ps) (entsTo (eAt (bodyIn ps)) cn k) cn)) (fun i _ => cn - (intOf i).toNat)
      case atStart => exact ⟨0, Nat.zero_le _, rfl, K0⟩
      case round =>
        obtain ⟨k, hk, rfl, HK⟩ := hrel
        clear K0 c2
        by_cases hlt : k < cn
        · have c2 := HK.out.box.cellAt (i := 2) rfl
          have l1 := HK.out.dcd.lay.cellAt (place_print g k (by omega))
          have l2 := HK.out.dcd.lay.cellAt (place_block g k (by omega))
          have e1 := HK.out.ents.cellAt (i := k * 2) (by rw [Nat.mul_comm]; exact evals_print _ k (by rw [length_entsTo]; exact hlt))
          have e2 := HK.out.ents.cellAt (i := k * 2 + 1) (by rw [Nat.mul_comm]; exact evals_block _ k (by rw [length_entsTo]; exact hlt))
          have f1 := HK.out.ents.free (k * 2)
          have f2 := HK.out.ents.free (k * 2 + 1)
          have HK2 := Lib.hid (HK.out.still (Still.drew wr))
          have hk9 : (k : Int) < 9 := by omega
          have hk0 : (0 : Int) ≤ (k : Int) := by omega
          have hkc : (k : Int) < (cn : Int) := by omega
          go_wp2_with fail
          go_still_tail 18, (by kernel_rfl)
          still_call (get_p HK2.out.dcd k (by omega))
          repeat still_step
          still_call (get_b HK2.out.dcd k (by omega))
          repeat still_step
          refine wpStill_nil ?_
          change wpList _ _ _ _ _ wr.drew
          have HKN := Lib.hid (fun v hv => HK2.out.set k (eAt (bodyIn ps) k) v hv)
          have HSE := Lib.hid (entsTo_set (eAt (bodyIn ps)) cn k hlt)
          have HW := Lib.hid (wrap32 (eAt (bodyIn ps) k).2)
          have E1 := HK2.out.ents.cellAt (i := k * 2) (by rw [Nat.mul_comm]; exact evals_print _ k (by rw [length_entsTo]; exact hlt))
          have E2 := HK2.out.ents.cellAt (i := k * 2 + 1) (by rw [Nat.mul_comm]; exact evals_block _ k (by rw [length_entsTo]; exact hlt))
          have F1 := HK2.out.ents.free (k * 2)
          have F2 := HK2.out.ents.free (k * 2 + 1)
          clear HK HK2 l1 l2 c2 e1 e2 f1 f2
          generalize wr.drew = wq at *
          go_wp2_with fail
          go_roundw
          case rel => exact ⟨k + 1, by omega, by go_num, Lib.hid (by rw [← HSE.out]; exact HKN.out _ (by first | rfl | exact HW.out))⟩
          case measure => simp [intOf]; omega
        · obtain rfl : k = cn := by omega
          have HE := Lib.hid (show entsTo (eAt (bodyIn ps)) k k = eIn ps by rw [entsTo_all, ← HC.out]; rfl)
          have HK3 := HK.out
          rw [HE.out] at HK3
          have HK4 := Lib.hid HK3
          clear HK3 HK
          have c0 := HK4.out.box.cellAt (i := 0) rfl
          have c1 := HK4.out.box.cellAt (i := 1) rfl
          have c2 := HK4.out.box.cellAt (i := 2) rfl
          have HB4 := Lib.hid (show Has wr b o ps from HB0.out.below hbw HK4.out.dcd.below)
          by_cases hfit : Fit (dIn ps) (nIn ps) (eIn ps)
          · have HFT := Lib.hid hfit
            have HPL := Lib.hid (show (shelfPage (dIn ps) (nIn ps) (eIn ps)).length = 128 from length_page _ _ (by rw [length_body]; have := hfit.2.2.1; omega))
            have HSH := Lib.hid (show Sh wr (some ⟨eb, 0, none⟩) k k (eIn ps) from ⟨by rw [length_eIn]; exact HC.out, Nat.le_refl _, by unfold maxLen; omega, HK4.out.ents.has.told⟩)
            clear hfit
            go_wp2_with fail
            refine (encode_yes (dIn ps) (nIn ps) HSH.out HFT.out).mono ?_
            rintro e w6 ⟨g2, rfl, F6⟩
            have HK6 := Lib.hid (HK4.out.grow F6.below)
            have HF6 := Lib.hid F6
            have HB6 := Lib.hid (HB4.out.below (has_lt HB4.out (by rw [HL.out]; decide)) F6.below)
            clear F6 HB4 HK4 c0 c1 c2
            have c0 := HK6.out.box.cellAt (i := 0) rfl
            have c1 := HK6.out.box.cellAt (i := 1) rfl
            have c2 := HK6.out.box.cellAt (i := 2) rfl
            have r0 := HK6.out.dcd.res.cellAt (i := 0) rfl
            have r1 := HK6.out.dcd.res.cellAt (i := 1) rfl
            have r2 := HK6.out.dcd.res.cellAt (i := 2) rfl
            have f0 := HK6.out.dcd.res.free 0
            have f1 := HK6.out.dcd.res.free 1
            have f2 := HK6.out.dcd.res.free 2
            go_wp2_with fail
            refine (bytes_equal _ _ 128 128 128 cap (shelfPage (dIn ps) (nIn ps) (eIn ps)) ps HPL.out HL.out _ HF6.out.has.told HB6.out.told).mono ?_
            rintro e w7 ⟨rfl, rfl⟩
            by_cases heq : shelfPage (dIn ps) (nIn ps) (eIn ps) = ps
            · rw [show (shelfPage (dIn ps) (nIn ps) (eIn ps) == ps) = true from by rw [beq_iff_eq]; exact heq]
              have HHD := Lib.hid (show Holds ps from ⟨HL.out, HS.out, by rw [HC.out]; exact hn, HFT.out, heq⟩)
              clear heq
              have hrs : ¬ w.heap.size = sb := by have := HK6.out.dcd.o1; have := HK6.out.dcd.o2; have := HK6.out.s1; omega
              have hre : ¬ eb = w.heap.size := by have := HK6.out.dcd.o1; have := HK6.out.dcd.o2; have := HK6.out.e1; omega
              go_wp2_with fail
              refine bodyPost_ret (v := .tuple #[.agg #[.int .u8 ((dIn ps).toNat : Int), .int .u32 ((nIn ps).toNat : Int), .slice (some ⟨eb, 0, none⟩) k k], .int .i64 0]) ?_ rfl (Or.inl ⟨HHD.out, eb, by rw [HC.out], ((HK6.out.ents.other hre).other hre).other hre, by have := HK6.out.dcd.o1; have := HK6.out.dcd.o2; have := HK6.out.e1; omega, ?_⟩)
              · rw [results_cell_tmp rfl]
                go_simp
              · exact ((HK6.out.dcd.below.setCell (p := ⟨w.heap.size, 0, none⟩) (Nat.le_refl _) _).setCell (p := ⟨w.heap.size, 1, none⟩) (Nat.le_refl _) _).setCell (p := ⟨w.heap.size, 2, none⟩) (Nat.le_refl _) _
            · rw [show (shelfPage (dIn ps) (nIn ps) (eIn ps) == ps) = false from by rw [beq_eq_false_iff_ne]; exact heq]
              have HHD := Lib.hid (show ¬ Holds ps from fun h => heq h.2.2.2.2)
              clear heq
              go_wp2_with fail
              refine bodyPost_ret (v := .tuple #[.agg #[.int .u8 0, .int .u32 0, .slice none 0 0], .int .i64 40]) ?_ rfl (Or.inr ⟨HHD.out, rfl, dec_no HK6.out.dcd.below⟩)
              rw [results_cell_tmp rfl]
              go_simp
          · have HHD := Lib.hid (show ¬ Holds ps from fun h => hfit h.2.2.2.1)
            have HSH := Lib.hid (show Sh wr (some ⟨eb, 0, none⟩) k k (eIn ps) from ⟨by rw [length_eIn]; exact HC.out, Nat.le_refl _, by unfold maxLen; omega, HK4.out.ents.has.told⟩)
            have HNF := Lib.hid hfit
            clear hfit
            go_wp2_with fail
            refine (encode_no (dIn ps) (nIn ps) HSH.out HNF.out).mono ?_
            rintro e w6 ⟨rfl, B6⟩
            have HK6 := Lib.hid (HK4.out.grow B6)
            clear B6 HB4 HK4 c0 c1 c2
            have r0 := HK6.out.dcd.res.cellAt (i := 0) rfl
            have r1 := HK6.out.dcd.res.cellAt (i := 1) rfl
            have r2 := HK6.out.dcd.res.cellAt (i := 2) rfl
            have f0 := HK6.out.dcd.res.free 0
            have f1 := HK6.out.dcd.res.free 1
            have f2 := HK6.out.dcd.res.free 2
            go_wp2_with fail
            refine bodyPost_ret (v := .tuple #[.agg #[.int .u8 0, .int .u32 0, .slice none 0 0], .int .i64 40]) ?_ rfl (Or.inr ⟨HHD.out, rfl, dec_no HK6.out.dcd.below⟩)
            rw [results_cell_tmp rfl]
            go_simp
  · have f0 := D5.out.res.free 0
    have f1 := D5.out.res.free 1
    have f2 := D5.out.res.free 2
    have c0 := D5.out.res.cellAt (i := 0) rfl
    have c1 := D5.out.res.cellAt (i := 1) rfl
    have c2 := D5.out.res.cellAt (i := 2) rfl
    go_wp2_with fail
    refine bodyPost_ret (v := .tuple #[.agg #[.int .u8 0, .int .u32 0, .slice none 0 0], .int .i64 40]) ?_ rfl (Or.inr ⟨fun h => hn (by rw [← HC.out]; exact h.2.2.1), rfl, dec_no D5.out.below⟩)
    rw [results_cell_tmp rfl]
    go_simp
end Go.Proofs.Ytamibckpkhpmfaa.Sf
