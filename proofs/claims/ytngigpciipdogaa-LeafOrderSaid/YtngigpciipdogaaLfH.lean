/- Contract: leaf.Decode. -/
import Derived.Test.YtngigpciipdogaaLfG
import Derived.Deep.RegionHeld3
import Derived.Laws.ResultCell
namespace Go.Proofs.Ytngigpciipdogaa.Lf
open Go.RowKit Go.Proofs.Ytngigpciipdogaa.Oct
set_option linter.unusedVariables false

def bodyIn (ps : List UInt8) : List UInt8 := (ps.drop 1).take 123
def headIn (ps : List UInt8) : UInt8 := ps.getD 0 0
/-- The node that stands in a page, if it is one. -/
def leafIn (ps : List UInt8) : Bool := headIn ps == 1
def keysIn (ps : List UInt8) : List UInt64 := (upTo (kAt (bodyIn ps)) 7).take (cAt (bodyIn ps)).toNat
def valsIn (ps : List UInt8) : List UInt64 := (upTo (vAt (bodyIn ps)) 7).take (cAt (bodyIn ps)).toNat
def Holds (ps : List UInt8) : Prop := ps.length = 128 ∧ Oct.Good ps ∧ (cAt (bodyIn ps)).toNat ≤ 7 ∧ Fit (leafIn ps) (keysIn ps) (valsIn ps) ∧ nodePage (leafIn ps) (keysIn ps) (valsIn ps) = ps

def zeroNode : Value := .agg #[.bool false, .slice none 0 0, .slice none 0 0]

structure DecYes (w : World) (ps : List UInt8) (e : Ending) (w' : World) (g g' : Nat) : Prop where
  e : e = .returned (.tuple #[.agg #[.bool (leafIn ps), .slice (some ⟨g, 0, none⟩) (keysIn ps).length (keysIn ps).length, .slice (some ⟨g', 0, none⟩) (keysIn ps).length (keysIn ps).length], .int .i64 0])
  ks : RowN w' g 28 (keysIn ps)
  vs : RowN w' g' 28 (valsIn ps)
  lo : w.heap.size ≤ g
  lo' : w.heap.size ≤ g'
  ne : g ≠ g'
  below : Below w.heap.size w w'

def DecNo (w : World) (e : Ending) (w' : World) : Prop := e = .returned (.tuple #[.agg #[.bool false, .slice none 0 0, .slice none 0 0], .int .i64 30]) ∧ Below w.heap.size w w'

theorem book_start (w : World) (g : Nat) (bs : List UInt8) (f f' : Nat → UInt64) (H : Has w g 0 bs) (hl : bs.length = 123) :
    Book (((w.alloc (.cells #[.slice (some ⟨g, 0, none⟩) 123 123] 31)).alloc (.cells #[.int .u64 0, .int .u64 0, .int .u64 0, .int .u64 0, .int .u64 0, .int .u64 0, .int .u64 0, .int .u64 0, .int .u64 0, .int .u64 0, .int .u64 0, .int .u64 0, .int .u64 0, .int .u64 0, .int .u64 0] 42)).alloc (.cells #[.int .i64 0] 3)) w.heap.size (w.heap.size + 1 + 1) g 0 bs ∧
    RowN (((w.alloc (.cells #[.slice (some ⟨g, 0, none⟩) 123 123] 31)).alloc (.cells #[.int .u64 0, .int .u64 0, .int .u64 0, .int .u64 0, .int .u64 0, .int .u64 0, .int .u64 0, .int .u64 0, .int .u64 0, .int .u64 0, .int .u64 0, .int .u64 0, .int .u64 0, .int .u64 0, .int .u64 0] 42)).alloc (.cells #[.int .i64 0] 3)) (w.heap.size + 1) 42 (content 0 (upTo f 0) (upTo f' 0)) := by
  have hlt : g < w.heap.size := has_lt H (by omega)
  have b1 := (Below.refl w.heap.size w).alloc (Nat.le_refl _) (.cells #[.slice (some ⟨g, 0, none⟩) 123 123] 31)
  have c1 := box_cell w #[.slice (some ⟨g, 0, none⟩) 123 123] 31 0 _ rfl
  have hs : (w.alloc (.cells #[.slice (some ⟨g, 0, none⟩) 123 123] 31)).heap.size = w.heap.size + 1 := by simp
  generalize w.alloc (.cells #[.slice (some ⟨g, 0, none⟩) 123 123] 31) = w1 at *
  have R2 := content_row w1 0 0 rfl
  have b2 := (Below.refl w1.heap.size w1).alloc (Nat.le_refl _) (.cells #[.int .u64 0, .int .u64 0, .int .u64 0, .int .u64 0, .int .u64 0, .int .u64 0, .int .u64 0, .int .u64 0, .int .u64 0, .int .u64 0, .int .u64 0, .int .u64 0, .int .u64 0, .int .u64 0, .int .u64 0] 42)
  have hs2 : (w1.alloc (.cells #[.int .u64 0, .int .u64 0, .int .u64 0, .int .u64 0, .int .u64 0, .int .u64 0, .int .u64 0, .int .u64 0, .int .u64 0, .int .u64 0, .int .u64 0, .int .u64 0, .int .u64 0, .int .u64 0, .int .u64 0] 42)).heap.size = w1.heap.size + 1 := by simp
  change RowN (w1.alloc (.cells #[.int .u64 0, .int .u64 0, .int .u64 0, .int .u64 0, .int .u64 0, .int .u64 0, .int .u64 0, .int .u64 0, .int .u64 0, .int .u64 0, .int .u64 0, .int .u64 0, .int .u64 0, .int .u64 0, .int .u64 0] 42)) _ _ _ at R2
  generalize w1.alloc (.cells #[.int .u64 0, .int .u64 0, .int .u64 0, .int .u64 0, .int .u64 0, .int .u64 0, .int .u64 0, .int .u64 0, .int .u64 0, .int .u64 0, .int .u64 0, .int .u64 0, .int .u64 0, .int .u64 0, .int .u64 0] 42) = w2 at *
  have b3 := (Below.refl w2.heap.size w2).alloc (Nat.le_refl _) (.cells #[.int .i64 0] 3)
  have c3 := box_cell w2 #[.int .i64 0] 3 0 _ rfl
  have f3 : (w2.alloc (.cells #[.int .i64 0] 3)).frozen? ⟨w2.heap.size, 0, none⟩ = false := by
    have := heap_alloc_new w2 (.cells #[.int .i64 0] 3)
    generalize w2.alloc (.cells #[.int .i64 0] 3) = w3 at *
    simp [World.frozen?, this]
  generalize w2.alloc (.cells #[.int .i64 0] 3) = w3 at *
  have R3 := R2.below R2.lt b3
  rw [hs2, hs] at c3 f3
  rw [hs] at R3 b2
  rw [hs2, hs] at b3
  refine ⟨⟨(b3.cell (show w.heap.size < w.heap.size + 1 + 1 by omega)).trans ((b2.cell (show w.heap.size < w.heap.size + 1 by omega)).trans c1), c3, f3, fun i hi => (b3.cell (show g < w.heap.size + 1 + 1 by omega)).trans ((b2.cell (show g < w.heap.size + 1 by omega)).trans ((b1.cell hlt).trans (H i hi))), hl, by omega, by omega⟩, ?_⟩
  rw [upTo_zero, upTo_zero]
  exact R3

theorem box_free (w : World) (xs : Array Value) (T : TypeId) (i : Nat) : (w.alloc (.cells xs T)).frozen? ⟨w.heap.size, i, none⟩ = false := by
  have := heap_alloc_new w (.cells xs T)
  generalize w.alloc (.cells xs T) = w' at this
  simp [World.frozen?, this]
/-- The result's own variable, that no one else writes. -/
structure Res (w' : World) (r : Nat) : Prop where
  c0 : w'.cell? ⟨r, 0, none⟩ = some (.bool false)
  c1 : w'.cell? ⟨r, 1, none⟩ = some (.slice none 0 0)
  c2 : w'.cell? ⟨r, 2, none⟩ = some (.slice none 0 0)
  f : ∀ i, w'.frozen? ⟨r, i, none⟩ = false
  lt : r < w'.heap.size
theorem res_new (w : World) : Res (w.alloc (.cells #[.bool false, .slice none 0 0, .slice none 0 0] 24)) w.heap.size :=
  ⟨box_cell w _ _ 0 _ rfl, box_cell w _ _ 1 _ rfl, box_cell w _ _ 2 _ rfl, fun i => box_free w _ _ i, by simp⟩
theorem Res.still {w w' : World} {r : Nat} (h : Res w r) (S : Still w w') : Res w' r :=
  ⟨(S.cell _).trans h.c0, (S.cell _).trans h.c1, (S.cell _).trans h.c2, fun i => (S.frozen _).trans (h.f i), by rw [S.heap]; exact h.lt⟩
theorem Res.below {w w' : World} {r B : Nat} (h : Res w r) (k : Below B w w') (hr : r < B) : Res w' r :=
  ⟨(k.cell (p := ⟨r, 0, none⟩) hr).trans h.c0, (k.cell (p := ⟨r, 1, none⟩) hr).trans h.c1, (k.cell (p := ⟨r, 2, none⟩) hr).trans h.c2, fun i => (k.frozen (p := ⟨r, i, none⟩) hr).trans (h.f i), Nat.lt_of_lt_of_le h.lt k.size⟩

set_option maxRecDepth 100000 in
set_option maxHeartbeats 1000000 in
theorem decode_len (a : Option Addr) (len cap : Nat) (w : World) (h : len ≠ 128) (hm : len ≤ maxLen) :
    Calls Try.prog 10 #[.slice a len cap] w (DecNo w) := by
  have b1 := (Below.refl w.heap.size w).alloc (Nat.le_refl _) (.cells #[.bool false, .slice none 0 0, .slice none 0 0] 24)
  have BB := Lib.hid (b1.alloc b1.size (.cells #[.slice none 0 0] 31))
  clear b1
  go_enter Try.func10, Try.ntmps10
  go_wp2_with fail
  refine (open_len a len cap _ h hm).mono ?_
  rintro e w2 ⟨rfl, rfl⟩
  go_wp2_with fail
  refine bodyPost_ret (v := .tuple #[.agg #[.bool false, .slice none 0 0, .slice none 0 0], .int .i64 30]) ?_ rfl ⟨rfl, BB.out⟩
  rw [results_cell_tmp rfl]
  go_simp

set_option maxRecDepth 100000 in
set_option maxHeartbeats 1000000 in
theorem decode_sum (b o cap : Nat) (ps : List UInt8) (w : World) (hb : Has w b o ps) (hlen : ps.length = 128) (hc : 128 ≤ cap) (hm : cap ≤ maxLen) (hs : ¬ Oct.Good ps) :
    Calls Try.prog 10 #[.slice (some ⟨b, o, none⟩) 128 cap] w (DecNo w) := by
  have b1 := (Below.refl w.heap.size w).alloc (Nat.le_refl _) (.cells #[.bool false, .slice none 0 0, .slice none 0 0] 24)
  have HB := Lib.hid (hb.below (has_lt hb (by omega)) b1)
  have BB := Lib.hid b1
  have RS := Lib.hid (res_new w)
  have HL := Lib.hid hlen
  have HS := Lib.hid hs
  have HM := Lib.hid hm
  clear hb hlen b1 hs hm
  go_enter Try.func10, Try.ntmps10
  go_wp2_with fail
  refine (open_bad b o cap ps _ HB.out HL.out hc HM.out HS.out).mono ?_
  rintro e w2 ⟨rfl, S2⟩
  have R2 := RS.out.below (S2.below _) RS.out.lt
  have y0 := R2.c0
  have y1 := R2.c1
  have y2 := R2.c2
  have f0 := R2.f 0
  have f1 := R2.f 1
  have f2 := R2.f 2
  have hlt := R2.lt
  have hle := Nat.le_of_lt hlt
  have B2 := Lib.hid (((((BB.out.trans (S2.below _)).setCell (p := ⟨w.heap.size, 0, none⟩) (Nat.le_refl _) (.bool false)).setCell (p := ⟨w.heap.size, 1, none⟩) (Nat.le_refl _) (.slice none 0 0)).setCell (p := ⟨w.heap.size, 2, none⟩) (Nat.le_refl _) (.slice none 0 0)).alloc (by simpa using hle) (.cells #[.slice none 0 0] 31))
  clear S2 R2
  go_wp2_with fail
  refine bodyPost_ret (v := .tuple #[.agg #[.bool false, .slice none 0 0, .slice none 0 0], .int .i64 30]) ?_ rfl ⟨rfl, ?_⟩
  · rw [results_cell_tmp rfl]
    go_simp
  · exact B2.out

/-- The node that Decode has made, in its variable. -/
structure Made (w4 W : World) (a gk gv : Nat) (l : Bool) (n : Nat) (ks vs : List UInt64) : Prop where
  n0 : W.cell? ⟨a, 0, none⟩ = some (.bool l)
  n1 : W.cell? ⟨a, 1, none⟩ = some (.slice (some ⟨gk, 0, none⟩) n n)
  n2 : W.cell? ⟨a, 2, none⟩ = some (.slice (some ⟨gv, 0, none⟩) n n)
  below : Below w4.heap.size w4 W
  rk : RowN W gk 28 ks
  rv : RowN W gv 28 vs
  ne : gk ≠ gv
  lk : w4.heap.size ≤ gk
  lv : w4.heap.size ≤ gv
theorem made_alloc {w4 wk wv : World} {gk gv n : Nat} {ks vs : List UInt64} (l : Bool) (FK : FreshN w4.drew wk gk ks) (FV : FreshN wk wv gv vs) (BV : Below w4.heap.size w4 wv) :
    Made w4 (wv.alloc (.cells #[.bool l, .slice (some ⟨gk, 0, none⟩) n n, .slice (some ⟨gv, 0, none⟩) n n] 24)) wv.heap.size gk gv l n ks vs := by
  have b := (Below.refl wv.heap.size wv).alloc (Nat.le_refl _) (.cells #[.bool l, .slice (some ⟨gk, 0, none⟩) n n, .slice (some ⟨gv, 0, none⟩) n n] 24)
  have rk := FK.row.below FK.hi FV.below
  have l1 : w4.heap.size ≤ gk := FK.lo
  have l2 := FK.hi
  have l3 := FV.lo
  exact ⟨box_cell wv _ _ 0 _ rfl, box_cell wv _ _ 1 _ rfl, box_cell wv _ _ 2 _ rfl, BV.trans (b.mono BV.size), rk.below rk.lt b, FV.row.below FV.hi b, by omega, l1, by omega⟩
theorem made_set {w4 W1 W2 wk wv : World} {a gk gv n : Nat} {ks vs : List UInt64} (l : Bool) (FK : FreshN W1 wk gk ks) (FV : FreshN W2 wv gv vs) (h1 : w4.heap.size ≤ W1.heap.size) (h2 : Below wk.heap.size wk W2) (BV : Below w4.heap.size w4 wv) (Z : Res wv a) (ha : w4.heap.size ≤ a) (hk : a ≠ gk) (hv : a ≠ gv) :
    Made w4 (((wv.setCell ⟨a, 0, none⟩ (.bool l)).setCell ⟨a, 1, none⟩ (.slice (some ⟨gk, 0, none⟩) n n)).setCell ⟨a, 2, none⟩ (.slice (some ⟨gv, 0, none⟩) n n)) a gk gv l n ks vs := by
  have rk := (FK.row.below FK.hi h2).below (Nat.lt_of_lt_of_le FK.hi h2.size) FV.below
  have l1 := FK.lo
  have l2 := FK.hi
  have l3 := FV.lo
  have l4 := h2.size
  refine ⟨?_, ?_, ?_, ((BV.setCell (p := ⟨a, 0, none⟩) ha _).setCell (p := ⟨a, 1, none⟩) ha _).setCell (p := ⟨a, 2, none⟩) ha _, ((rk.other (fun e => hk e.symm)).other (fun e => hk e.symm)).other (fun e => hk e.symm), ((FV.row.other (fun e => hv e.symm)).other (fun e => hv e.symm)).other (fun e => hv e.symm), by omega, by omega, by omega⟩
  · rw [set_other (by omega), set_other (by omega), set_same Z.c0]
  · rw [set_other (by omega)]
    exact set_same ((set_other (by omega)).trans Z.c1)
  · exact set_same (((set_other (by omega)).trans (set_other (by omega))).trans Z.c2)

theorem made_nd {w4 W : World} {a gk gv n : Nat} {l : Bool} {ks vs : List UInt64} (h : Made w4 W a gk gv l n ks vs) (hk : ks.length = n) (hv : vs.length = n) (hn : n ≤ 7) : Nd W (some ⟨gk, 0, none⟩) n n (some ⟨gv, 0, none⟩) n n ks vs :=
  ⟨hk, hv, Nat.le_refl _, by unfold maxLen; omega, Nat.le_refl _, by unfold maxLen; omega, h.rk.has.told, h.rv.has.told⟩
theorem made_keep {w4 W w6 : World} {a gk gv n : Nat} {l : Bool} {ks vs : List UInt64} (h : Made w4 W a gk gv l n ks vs) (B : Below W.heap.size W w6) : Made w4 w6 a gk gv l n ks vs :=
  ⟨(B.cell (World.block_lt_of_cell? _ _ h.n0)).trans h.n0, (B.cell (World.block_lt_of_cell? _ _ h.n1)).trans h.n1, (B.cell (World.block_lt_of_cell? _ _ h.n2)).trans h.n2, h.below.trans (B.mono h.below.size), h.rk.below h.rk.lt B, h.rv.below h.rv.lt B, h.ne, h.lk, h.lv⟩

theorem bytes_equal (a c : Option Addr) (len len' cap cap' : Nat) (xs ys : List UInt8) (hx' : xs.length = len) (hy' : ys.length = len') (w : World) (hx : Oct.Told w a xs) (hy : Oct.Told w c ys) :
    Calls Try.prog 23 #[.slice a len cap, .slice c len' cap'] w fun e w' => e = .returned (.bool (xs == ys)) ∧ w = w' := by
  subst hx' hy'
  have k1 := conv_told (P := Try.prog) hx cap 31 9 5 Try.underlying31 Try.underlying5 Try.underlying9
  have k2 := conv_told (P := Try.prog) hy cap' 31 9 5 Try.underlying31 Try.underlying5 Try.underlying9
  clear hx hy
  go_enter Try.func23, Try.ntmps23
  go_wp2
  go_ret
  exact ⟨rfl, rfl⟩

set_option maxRecDepth 100000 in
set_option maxHeartbeats 1000000 in
theorem decode_good (b o cap : Nat) (ps : List UInt8) (w : World) (hb : Has w b o ps) (hlen : ps.length = 128) (hc : 128 ≤ cap) (hm : cap ≤ maxLen) (hs : Oct.Good ps) :
    Calls Try.prog 10 #[.slice (some ⟨b, o, none⟩) 128 cap] w (fun e w' => (Holds ps ∧ ∃ g g', DecYes w ps e w' g g') ∨ (¬ Holds ps ∧ DecNo w e w')) := by
  have b1 := (Below.refl w.heap.size w).alloc (Nat.le_refl _) (.cells #[.bool false, .slice none 0 0, .slice none 0 0] 24)
  have hbw := has_lt hb (by omega)
  have HB := Lib.hid (hb.below hbw b1)
  have BB := Lib.hid b1
  have RS := Lib.hid (res_new w)
  have HL := Lib.hid hlen
  have HS := Lib.hid hs
  have HM := Lib.hid hm
  have HK : ps[0]'(by omega) = headIn ps := by unfold headIn; rw [List.getD, List.getElem?_eq_getElem (by omega)]; rfl
  have hO := open_good b o cap ps _ HB.out hlen hc hm hs
  rw [HK] at hO
  have HO := Lib.hid hO
  clear hb hlen b1 hs hm HK hO
  go_enter Try.func10, Try.ntmps10
  go_wp2_with fail
  refine HO.out.mono ?_
  rintro e w2 ⟨g, rfl, F2⟩
  have R2 := RS.out.below F2.below RS.out.lt
  have HP2 := Lib.hid (HB.out.below (Nat.lt_of_lt_of_le hbw BB.out.size) F2.below)
  have B2 := Lib.hid (BB.out.trans (F2.below.mono BB.out.size))
  have hbl : (bodyIn ps).length = 123 := by have := HL.out; unfold bodyIn; simp; omega
  have hrg : w.heap.size < g := Nat.lt_of_lt_of_le (by simp) F2.lo
  have hg2 := F2.hi
  obtain ⟨BK, RQ⟩ := book_start w2 g (bodyIn ps) (kAt (bodyIn ps)) (vAt (bodyIn ps)) F2.has hbl
  have HBK := Lib.hid BK
  have HRQ := Lib.hid RQ
  have b3 := ((((Below.refl w2.heap.size w2).alloc (Nat.le_refl _) (.cells #[.slice (some ⟨g, 0, none⟩) 123 123] 31)).alloc (by simp) (.cells #[.int .u64 0, .int .u64 0, .int .u64 0, .int .u64 0, .int .u64 0, .int .u64 0, .int .u64 0, .int .u64 0, .int .u64 0, .int .u64 0, .int .u64 0, .int .u64 0, .int .u64 0, .int .u64 0, .int .u64 0] 42)).alloc (by simp; omega) (.cells #[.int .i64 0] 3))
  have R3 := Lib.hid (R2.below b3 R2.lt)
  have B3 := Lib.hid (B2.out.trans (b3.mono (Nat.le_of_lt R2.lt)))
  have HP3 := Lib.hid (HP2.out.below (Nat.lt_of_lt_of_le hbw B2.out.size) b3)
  have hr2 := R2.lt
  clear F2 R2 BK RQ b3 HO
  go_wp2_with fail
  generalize ((w2.alloc (.cells #[.slice (some ⟨g, 0, none⟩) 123 123] 31)).alloc (.cells #[.int .u64 0, .int .u64 0, .int .u64 0, .int .u64 0, .int .u64 0, .int .u64 0, .int .u64 0, .int .u64 0, .int .u64 0, .int .u64 0, .int .u64 0, .int .u64 0, .int .u64 0, .int .u64 0, .int .u64 0] 42)).alloc (.cells #[.int .i64 0] 3) = w3 at *
  refine (each_dec HBK.out HRQ.out (by omega) (by omega) (by omega)).mono ?_
  rintro e w4 ⟨rfl, R4, A4⟩
  dsimp only
  obtain ⟨x0, x1, x2, x3, x4, x5, x6, hx⟩ : ∃ x0 x1 x2 x3 x4 x5 x6, upTo (kAt (bodyIn ps)) 7 = [x0, x1, x2, x3, x4, x5, x6] := ⟨_, _, _, _, _, _, _, rfl⟩
  obtain ⟨y0, y1, y2, y3, y4, y5, y6, hy⟩ : ∃ x0 x1 x2 x3 x4 x5 x6, upTo (vAt (bodyIn ps)) 7 = [x0, x1, x2, x3, x4, x5, x6] := ⟨_, _, _, _, _, _, _, rfl⟩
  have HKI := Lib.hid (show keysIn ps = [x0, x1, x2, x3, x4, x5, x6].take (cAt (bodyIn ps)).toNat by unfold keysIn; rw [hx])
  have HVI := Lib.hid (show valsIn ps = [y0, y1, y2, y3, y4, y5, y6].take (cAt (bodyIn ps)).toNat by unfold valsIn; rw [hy])
  have HHO := Lib.hid (show Holds ps → (cAt (bodyIn ps)).toNat ≤ 7 from fun h => h.2.2.1)
  have HHI := Lib.hid (show (cAt (bodyIn ps)).toNat ≤ 7 → Fit (leafIn ps) (keysIn ps) (valsIn ps) → nodePage (leafIn ps) (keysIn ps) (valsIn ps) = ps → Holds ps from fun a b c => ⟨HL.out, HS.out, a, b, c⟩)
  rw [hx, hy] at R4
  generalize cAt (bodyIn ps) = cn at *
  clear hx hy
  have R5 : Res w4 w.heap.size := R3.out.below (A4.below (B := w.heap.size + 1) (by omega) (by omega)) (by omega)
  have B4 := B3.out.trans (A4.below (B := w.heap.size) (by omega) (by omega))
  have HP4 := Lib.hid (show Has w4 b o ps from fun i hi => (World.cell?_of_block (A4.block b (by omega) (by omega))).trans (HP3.out i hi))
  have hq4 : w2.heap.size + 1 < w4.heap.size := R4.lt
  have KS := Lib.hid (show ∀ w', Below w4.heap.size w4 w' → (w'.cell? ⟨w2.heap.size + 1, 0, none⟩ = some (.int .u64 (cn.toNat : Int)) ∧ w'.cell? ⟨w2.heap.size + 1, 1, none⟩ = some (.int .u64 (x0.toNat : Int)) ∧ w'.cell? ⟨w2.heap.size + 1, 2, none⟩ = some (.int .u64 (x1.toNat : Int)) ∧ w'.cell? ⟨w2.heap.size + 1, 3, none⟩ = some (.int .u64 (x2.toNat : Int)) ∧ w'.cell? ⟨w2.heap.size + 1, 4, none⟩ = some (.int .u64 (x3.toNat : Int)) ∧ w'.cell? ⟨w2.heap.size + 1, 5, none⟩ = some (.int .u64 (x4.toNat : Int)) ∧ w'.cell? ⟨w2.heap.size + 1, 6, none⟩ = some (.int .u64 (x5.toNat : Int)) ∧ w'.cell? ⟨w2.heap.size + 1, 7, none⟩ = some (.int .u64 (x6.toNat : Int)) ∧ w'.cell? ⟨w2.heap.size + 1, 8, none⟩ = some (.int .u64 (y0.toNat : Int)) ∧ w'.cell? ⟨w2.heap.size + 1, 9, none⟩ = some (.int .u64 (y1.toNat : Int)) ∧ w'.cell? ⟨w2.heap.size + 1, 10, none⟩ = some (.int .u64 (y2.toNat : Int)) ∧ w'.cell? ⟨w2.heap.size + 1, 11, none⟩ = some (.int .u64 (y3.toNat : Int)) ∧ w'.cell? ⟨w2.heap.size + 1, 12, none⟩ = some (.int .u64 (y4.toNat : Int)) ∧ w'.cell? ⟨w2.heap.size + 1, 13, none⟩ = some (.int .u64 (y5.toNat : Int)) ∧ w'.cell? ⟨w2.heap.size + 1, 14, none⟩ = some (.int .u64 (y6.toNat : Int))) from fun w' k => ⟨(k.cell (p := ⟨w2.heap.size + 1, 0, none⟩) hq4).trans (R4.cellAt (i := 0) rfl), (k.cell (p := ⟨w2.heap.size + 1, 1, none⟩) hq4).trans (R4.cellAt (i := 1) rfl), (k.cell (p := ⟨w2.heap.size + 1, 2, none⟩) hq4).trans (R4.cellAt (i := 2) rfl), (k.cell (p := ⟨w2.heap.size + 1, 3, none⟩) hq4).trans (R4.cellAt (i := 3) rfl), (k.cell (p := ⟨w2.heap.size + 1, 4, none⟩) hq4).trans (R4.cellAt (i := 4) rfl), (k.cell (p := ⟨w2.heap.size + 1, 5, none⟩) hq4).trans (R4.cellAt (i := 5) rfl), (k.cell (p := ⟨w2.heap.size + 1, 6, none⟩) hq4).trans (R4.cellAt (i := 6) rfl), (k.cell (p := ⟨w2.heap.size + 1, 7, none⟩) hq4).trans (R4.cellAt (i := 7) rfl), (k.cell (p := ⟨w2.heap.size + 1, 8, none⟩) hq4).trans (R4.cellAt (i := 8) rfl), (k.cell (p := ⟨w2.heap.size + 1, 9, none⟩) hq4).trans (R4.cellAt (i := 9) rfl), (k.cell (p := ⟨w2.heap.size + 1, 10, none⟩) hq4).trans (R4.cellAt (i := 10) rfl), (k.cell (p := ⟨w2.heap.size + 1, 11, none⟩) hq4).trans (R4.cellAt (i := 11) rfl), (k.cell (p := ⟨w2.heap.size + 1, 12, none⟩) hq4).trans (R4.cellAt (i := 12) rfl), (k.cell (p := ⟨w2.heap.size + 1, 13, none⟩) hq4).trans (R4.cellAt (i := 13) rfl), (k.cell (p := ⟨w2.heap.size + 1, 14, none⟩) hq4).trans (R4.cellAt (i := 14) rfl)⟩)
  have HB4 := Lib.hid B4
  have HR5 := Lib.hid R5
  obtain ⟨c0, k0, k1, k2, k3, k4, k5, k6, v0, v1, v2, v3, v4, v5, v6⟩ := KS.out _ (Below.refl _ _)
  clear R4 A4 B4 R3 HBK HRQ B3 HP3 HP2 B2 BB RS R5 HB
  by_cases hn : cn.toNat ≤ 7
  · have hkd : (((headIn ps).toNat : Int) == 1) = leafIn ps := by
      unfold leafIn
      rw [Bool.eq_iff_iff, beq_iff_eq, beq_iff_eq, ← UInt8.toNat_inj]
      show _ ↔ (headIn ps).toNat = 1
      omega
    go_wp2_with fail
    go_region_held3 (fun w' => w'.cell? ⟨w2.heap.size + 1, 0, none⟩ = some (.int .u64 (cn.toNat : Int)) ∧ w'.cell? ⟨w2.heap.size + 1, 1, none⟩ = some (.int .u64 (x0.toNat : Int)) ∧ w'.cell? ⟨w2.heap.size + 1, 2, none⟩ = some (.int .u64 (x1.toNat : Int)) ∧ w'.cell? ⟨w2.heap.size + 1, 3, none⟩ = some (.int .u64 (x2.toNat : Int)) ∧ w'.cell? ⟨w2.heap.size + 1, 4, none⟩ = some (.int .u64 (x3.toNat : Int)) ∧ w'.cell? ⟨w2.heap.size + 1, 5, none⟩ = some (.int .u64 (x4.toNat : Int)) ∧ w'.cell? ⟨w2.heap.size + 1, 6, none⟩ = some (.int .u64 (x5.toNat : Int)) ∧ w'.cell? ⟨w2.heap.size + 1, 7, none⟩ = some (.int .u64 (x6.toNat : Int)) ∧ w'.cell? ⟨w2.heap.size + 1, 8, none⟩ = some (.int .u64 (y0.toNat : Int)) ∧ w'.cell? ⟨w2.heap.size + 1, 9, none⟩ = some (.int .u64 (y1.toNat : Int)) ∧ w'.cell? ⟨w2.heap.size + 1, 10, none⟩ = some (.int .u64 (y2.toNat : Int)) ∧ w'.cell? ⟨w2.heap.size + 1, 11, none⟩ = some (.int .u64 (y3.toNat : Int)) ∧ w'.cell? ⟨w2.heap.size + 1, 12, none⟩ = some (.int .u64 (y4.toNat : Int)) ∧ w'.cell? ⟨w2.heap.size + 1, 13, none⟩ = some (.int .u64 (y5.toNat : Int)) ∧ w'.cell? ⟨w2.heap.size + 1, 14, none⟩ = some (.int .u64 (y6.toNat : Int))) ((refine KS.out _ ?_; (repeat' (first | with_reducible exact Below.refl _ _ | with_reducible exact HBK.out | with_reducible exact HBV.out | with_reducible refine Below.drew ?_ | with_reducible refine Below.setCell ?_ (by first | exact HBV.out.size | exact HBK.out.size | exact Nat.le_refl _) _ | with_reducible refine Below.alloc ?_ (by first | exact HBV.out.size | exact HBK.out.size | exact Nat.le_refl _) _)))) (first | (go_at_call 22; with_reducible refine (list_any x0 x1 x2 x3 x4 x5 x6 _ hn _).mono ?_; rintro e wk ⟨gk, rfl, Fk⟩; have HBK := Lib.hid (show Below w4.heap.size w4 wk from Below.trans (by (repeat' (first | with_reducible exact Below.refl _ _ | with_reducible exact HBK.out | with_reducible exact HBV.out | with_reducible refine Below.drew ?_ | with_reducible refine Below.setCell ?_ (by first | exact HBV.out.size | exact HBK.out.size | exact Nat.le_refl _) _ | with_reducible refine Below.alloc ?_ (by first | exact HBV.out.size | exact HBK.out.size | exact Nat.le_refl _) _))) (Fk.below.mono (Below.size (B := w4.heap.size) (by (repeat' (first | with_reducible exact Below.refl w4.heap.size w4 | with_reducible exact HBK.out | with_reducible exact HBV.out | with_reducible refine Below.drew ?_ | with_reducible refine Below.setCell ?_ (by first | exact HBV.out.size | exact HBK.out.size | exact Nat.le_refl _) _ | with_reducible refine Below.alloc ?_ (by first | exact HBV.out.size | exact HBK.out.size | exact Nat.le_refl _) _)))))); have HZK := Lib.hid (fun a (h : Res _ a) => h.below Fk.below h.lt); have HFK := Lib.hid Fk; clear Fk; (try (first | (with_reducible have ZZ := HZK.out _ ZZ) | (with_reducible have ZZ := HZK.out _ (res_new wv)) | (with_reducible have ZZ := HZK.out _ ((res_new w4).still (Still.drew _)))); (try (have z0 := ZZ.c0; have z1 := ZZ.c1; have z2 := ZZ.c2; have zf0 := ZZ.f 0; have zf1 := ZZ.f 1; have zf2 := ZZ.f 2; have zlt := ZZ.lt)))) | (go_at_call 22; with_reducible refine (list_any y0 y1 y2 y3 y4 y5 y6 _ hn _).mono ?_; rintro e wv ⟨gv, rfl, Fv⟩; have HBV := Lib.hid (show Below w4.heap.size w4 wv from Below.trans (by (repeat' (first | with_reducible exact Below.refl _ _ | with_reducible exact HBK.out | with_reducible exact HBV.out | with_reducible refine Below.drew ?_ | with_reducible refine Below.setCell ?_ (by first | exact HBV.out.size | exact HBK.out.size | exact Nat.le_refl _) _ | with_reducible refine Below.alloc ?_ (by first | exact HBV.out.size | exact HBK.out.size | exact Nat.le_refl _) _))) (Fv.below.mono (Below.size (B := w4.heap.size) (by (repeat' (first | with_reducible exact Below.refl w4.heap.size w4 | with_reducible exact HBK.out | with_reducible exact HBV.out | with_reducible refine Below.drew ?_ | with_reducible refine Below.setCell ?_ (by first | exact HBV.out.size | exact HBK.out.size | exact Nat.le_refl _) _ | with_reducible refine Below.alloc ?_ (by first | exact HBV.out.size | exact HBK.out.size | exact Nat.le_refl _) _)))))); have HZV := Lib.hid (fun a (h : Res _ a) => h.below Fv.below h.lt); have HFV := Lib.hid Fv; clear Fv; (try (first | (with_reducible have ZZ := HZV.out _ ZZ) | (with_reducible have ZZ := HZV.out _ (res_new wk)) | (with_reducible have ZZ := HZV.out _ ((res_new w4).still (Still.drew _)))); (try (have z0 := ZZ.c0; have z1 := ZZ.c1; have z2 := ZZ.c2; have zf0 := ZZ.f 0; have zf1 := ZZ.f 1; have zf2 := ZZ.f 2; have zlt := ZZ.lt)))))
    all_goals
      first
        | (have HMD := Lib.hid (made_alloc (w4 := w4) (n := cn.toNat) (leafIn ps) HFK.out HFV.out HBV.out))
        | (have HMD := Lib.hid (made_set (w4 := w4) (n := cn.toNat) (leafIn ps) HFK.out HFV.out (by simp) (Below.refl wk.heap.size wk) HBV.out ZZ (Nat.le_refl _) (by have := HFK.out.lo; simp at this; omega) (by have := HFV.out.lo; have := HBK.out.size; have := HFK.out.hi; have := HFK.out.lo; simp at *; omega)))
        | (have HMD := Lib.hid (made_set (w4 := w4) (n := cn.toNat) (leafIn ps) HFK.out HFV.out (Nat.le_refl _) ((Below.refl wk.heap.size wk).alloc (Nat.le_refl _) _) HBV.out ZZ HBK.out.size (by have := HFK.out.hi; omega) (by have := HFV.out.lo; simp at this; omega)))
      have HMD2 := HMD.out
      rw [← HKI.out, ← HVI.out] at HMD2
      have hkl : (keysIn ps).length = cn.toNat := by rw [HKI.out]; simp; omega
      have hvl : (valsIn ps).length = cn.toNat := by rw [HVI.out]; simp; omega
      have ND := Lib.hid (made_nd HMD2 hkl hvl hn)
      have HMD3 := Lib.hid HMD2
      have HKL := Lib.hid hkl
      have HPW := Lib.hid (show Has w4 b o ps from HP4.out)
      clear HMD HMD2 hkl hvl HFK HFV HZK HZV
      by_cases hfit : Fit (leafIn ps) (keysIn ps) (valsIn ps)
      · have HFT := Lib.hid hfit
        have hpl := length_nodeBody (keysIn ps) (valsIn ps) hfit.2.1
        have HPL := Lib.hid (show (nodePage (leafIn ps) (keysIn ps) (valsIn ps)).length = 128 from length_page _ _ (by have := hfit.1; omega))
        clear hfit hpl
        go_wp2_with fail
        refine (encode_yes (leafIn ps) ND.out HFT.out).mono ?_
        rintro e w6 ⟨g2, rfl, F6⟩
        have HM6 := Lib.hid (made_keep HMD3.out F6.below)
        have HF6 := Lib.hid F6
        have R6 := HR5.out.below HM6.out.below HR5.out.lt
        have HP6 := Lib.hid (HPW.out.below (has_lt HPW.out (by rw [HL.out]; decide)) HM6.out.below)
        have m0 := HM6.out.n0
        have m1 := HM6.out.n1
        have m2 := HM6.out.n2
        have r0 := R6.c0
        have r1 := R6.c1
        have r2 := R6.c2
        have f0 := R6.f 0
        have f1 := R6.f 1
        have f2 := R6.f 2
        clear F6 R6 HMD3
        go_wp2_with fail
        refine (bytes_equal _ _ 128 128 128 cap (nodePage (leafIn ps) (keysIn ps) (valsIn ps)) ps HPL.out HL.out _ HF6.out.has.told HP6.out.told).mono ?_
        rintro e w7 ⟨rfl, rfl⟩
        by_cases heq : nodePage (leafIn ps) (keysIn ps) (valsIn ps) = ps
        · rw [show (nodePage (leafIn ps) (keysIn ps) (valsIn ps) == ps) = true from by rw [beq_iff_eq]; exact heq]
          have HHD := Lib.hid (HHI.out hn HFT.out heq)
          clear heq
          go_wp2_with fail
          have hrk : w.heap.size < w4.heap.size := HR5.out.lt
          have RK := (((HM6.out.rk.other (q := w.heap.size) (i := 0) (v := .bool (leafIn ps)) (by have := HM6.out.lk; omega)).other (q := w.heap.size) (i := 1) (v := .slice (some ⟨gk, 0, none⟩) cn.toNat cn.toNat) (by have := HM6.out.lk; omega)).other (q := w.heap.size) (i := 2) (v := .slice (some ⟨gv, 0, none⟩) cn.toNat cn.toNat) (by have := HM6.out.lk; omega))
          have RV := (((HM6.out.rv.other (q := w.heap.size) (i := 0) (v := .bool (leafIn ps)) (by have := HM6.out.lv; omega)).other (q := w.heap.size) (i := 1) (v := .slice (some ⟨gk, 0, none⟩) cn.toNat cn.toNat) (by have := HM6.out.lv; omega)).other (q := w.heap.size) (i := 2) (v := .slice (some ⟨gv, 0, none⟩) cn.toNat cn.toNat) (by have := HM6.out.lv; omega))
          refine bodyPost_ret (v := .tuple #[.agg #[.bool (leafIn ps), .slice (some ⟨gk, 0, none⟩) cn.toNat cn.toNat, .slice (some ⟨gv, 0, none⟩) cn.toNat cn.toNat], .int .i64 0]) ?_ rfl (Or.inl ⟨HHD.out, gk, gv, by rw [HKL.out], RK, RV, by have := HM6.out.lk; have := HB4.out.size; omega, by have := HM6.out.lv; have := HB4.out.size; omega, HM6.out.ne, ?_⟩)
          · rw [results_cell_tmp rfl]
            go_simp
          · exact (((HB4.out.trans (HM6.out.below.mono HB4.out.size)).setCell (p := ⟨w.heap.size, 0, none⟩) (Nat.le_refl _) (.bool (leafIn ps))).setCell (p := ⟨w.heap.size, 1, none⟩) (Nat.le_refl _) (.slice (some ⟨gk, 0, none⟩) cn.toNat cn.toNat)).setCell (p := ⟨w.heap.size, 2, none⟩) (Nat.le_refl _) (.slice (some ⟨gv, 0, none⟩) cn.toNat cn.toNat)
        · rw [show (nodePage (leafIn ps) (keysIn ps) (valsIn ps) == ps) = false from by rw [beq_eq_false_iff_ne]; exact heq]
          have HHD := Lib.hid (show ¬ Holds ps from fun h => heq h.2.2.2.2)
          clear heq
          go_wp2_with fail
          refine bodyPost_ret (v := .tuple #[.agg #[.bool false, .slice none 0 0, .slice none 0 0], .int .i64 30]) ?_ rfl (Or.inr ⟨HHD.out, rfl, ?_⟩)
          · rw [results_cell_tmp rfl]
            go_simp
          · exact (((HB4.out.trans (HM6.out.below.mono HB4.out.size)).setCell (p := ⟨w.heap.size, 0, none⟩) (Nat.le_refl _) (.bool false)).setCell (p := ⟨w.heap.size, 1, none⟩) (Nat.le_refl _) (.slice none 0 0)).setCell (p := ⟨w.heap.size, 2, none⟩) (Nat.le_refl _) (.slice none 0 0)
      · have HHD := Lib.hid (show ¬ Holds ps from fun h => hfit h.2.2.2.1)
        go_wp2_with fail
        refine (encode_no (leafIn ps) ND.out (by omega) (by omega) hfit).mono ?_
        rintro e w6 ⟨rfl, B6⟩
        have HM6 := Lib.hid (made_keep HMD3.out B6)
        have R6 := HR5.out.below HM6.out.below HR5.out.lt
        have r0 := R6.c0
        have r1 := R6.c1
        have r2 := R6.c2
        have f0 := R6.f 0
        have f1 := R6.f 1
        have f2 := R6.f 2
        clear hfit B6 R6 HMD3
        go_wp2_with fail
        refine bodyPost_ret (v := .tuple #[.agg #[.bool false, .slice none 0 0, .slice none 0 0], .int .i64 30]) ?_ rfl (Or.inr ⟨HHD.out, rfl, ?_⟩)
        · rw [results_cell_tmp rfl]
          go_simp
        · exact (((HB4.out.trans (HM6.out.below.mono HB4.out.size)).setCell (p := ⟨w.heap.size, 0, none⟩) (Nat.le_refl _) (.bool false)).setCell (p := ⟨w.heap.size, 1, none⟩) (Nat.le_refl _) (.slice none 0 0)).setCell (p := ⟨w.heap.size, 2, none⟩) (Nat.le_refl _) (.slice none 0 0)
  · have r0 := HR5.out.c0
    have r1 := HR5.out.c1
    have r2 := HR5.out.c2
    have f0 := HR5.out.f 0
    have f1 := HR5.out.f 1
    have f2 := HR5.out.f 2
    go_wp2_with fail
    refine bodyPost_ret (v := .tuple #[.agg #[.bool false, .slice none 0 0, .slice none 0 0], .int .i64 30]) ?_ rfl (Or.inr ⟨fun h => hn (HHO.out h), rfl, ?_⟩)
    · rw [results_cell_tmp rfl]
      go_simp
    · exact ((HB4.out.setCell (p := ⟨w.heap.size, 0, none⟩) (Nat.le_refl _) (.bool false)).setCell (p := ⟨w.heap.size, 1, none⟩) (Nat.le_refl _) (.slice none 0 0)).setCell (p := ⟨w.heap.size, 2, none⟩) (Nat.le_refl _) (.slice none 0 0)
end Go.Proofs.Ytngigpciipdogaa.Lf
