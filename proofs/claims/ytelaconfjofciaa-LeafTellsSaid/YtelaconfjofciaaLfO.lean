/- The walk of the statement LeafOwn. -/
import Derived.Test.YtelaconfjofciaaLfK
import Derived.Deep.DeepCutAuto
import Derived.BigRegion
namespace Go.Proofs.Ytelaconfjofciaa.Lf
open Go.RowKit Go.Proofs.Ytelaconfjofciaa.Oct
set_option linter.unusedVariables false

/-- A node in a variable of its own. -/
structure Var (w : World) (p : Nat) (l : Bool) (A : Option Addr) (n c : Nat) (B : Option Addr) (m d : Nat) : Prop where
  a0 : w.cell? ⟨p, 0, none⟩ = some (.bool l)
  a1 : w.cell? ⟨p, 1, none⟩ = some (.slice A n c)
  a2 : w.cell? ⟨p, 2, none⟩ = some (.slice B m d)
  lt : p < w.heap.size
theorem var_new (w : World) (l : Bool) (A : Option Addr) (n c : Nat) (B : Option Addr) (m d : Nat) : Var (w.alloc (.cells #[.bool l, .slice A n c, .slice B m d] 24)) w.heap.size l A n c B m d := ⟨by simp, by simp, by simp, by simp⟩
theorem Var.below {w w' : World} {p B0 : Nat} {l : Bool} {A : Option Addr} {n c : Nat} {B : Option Addr} {m d : Nat} (h : Var w p l A n c B m d) (k : Below B0 w w') (hp : p < B0) : Var w' p l A n c B m d :=
  ⟨(k.cell (p := ⟨p, 0, none⟩) hp).trans h.a0, (k.cell (p := ⟨p, 1, none⟩) hp).trans h.a1, (k.cell (p := ⟨p, 2, none⟩) hp).trans h.a2, Nat.lt_of_lt_of_le h.lt k.size⟩
theorem Var.apart {w w' : World} {p x y : Nat} {l : Bool} {A : Option Addr} {n c : Nat} {B : Option Addr} {m d : Nat} (h : Var w p l A n c B m d) (k : Apart w w' x y) (hx : p ≠ x) (hy : p ≠ y) : Var w' p l A n c B m d :=
  ⟨(World.cell?_of_block (k.block p hx hy)).trans h.a0, (World.cell?_of_block (k.block p hx hy)).trans h.a1, (World.cell?_of_block (k.block p hx hy)).trans h.a2, by rw [k.size]; exact h.lt⟩

/-- All that lies about when LeafOwn writes over what was decoded. -/
structure Laid (w : World) (p g k q h1 h2 r j1 j2 : Nat) (l : Bool) (A : Option Addr) (n c : Nat) (B : Option Addr) (m d : Nat) (ks vs : List UInt64) : Prop where
  box : Var w p l A n c B m d
  x : Var w q l (some ⟨h1, 0, none⟩) n n (some ⟨h2, 0, none⟩) n n
  y : Var w r l (some ⟨j1, 0, none⟩) n n (some ⟨j2, 0, none⟩) n n
  nd : Nd w A n c B m d ks vs
  xk : RowN w h1 43 ks
  xv : RowN w h2 43 vs
  yk : RowN w j1 43 ks
  yv : RowN w j2 43 vs
  pg : Has w g 0 (nodePage l ks vs)
  pk : Has w k 0 (nodePage l ks vs)
  fz : ∀ i, i < 128 → w.frozen? ⟨g, i, none⟩ = false
  ndlt : ∀ b o, A = some ⟨b, o, none⟩ → 0 < n → b < p
  ndlt' : ∀ b o, B = some ⟨b, o, none⟩ → 0 < m → b < p
  o1 : p < g
  o2 : g < k
  o3 : k < h1
  o4 : k < h2
  o5 : h1 < q
  o6 : h2 < q
  o7 : q < j1
  o8 : q < j2
  o9 : j1 < r
  o10 : j2 < r
  ne : h1 ≠ h2

theorem told_apart {w w' : World} {x y : Nat} {A : Option Addr} {ns : List UInt64} (k : Apart w w' x y) (h : ToldN w A ns) (hA : ∀ b o, A = some ⟨b, o, none⟩ → 0 < ns.length → b ≠ x ∧ b ≠ y) : ToldN w' A ns := by
  rcases h with h | ⟨b, o, rfl, h⟩
  · exact .inl h
  · by_cases h0 : 0 < ns.length
    · obtain ⟨h1, h2⟩ := hA b o rfl h0
      exact .inr ⟨b, o, rfl, fun i hi => (World.cell?_of_block (k.block b h1 h2)).trans (h i hi)⟩
    · exact .inl (List.eq_nil_of_length_eq_zero (by omega))
/-- What is left to be looked at. -/
structure Rest (w : World) (p g r j1 j2 : Nat) (l : Bool) (A : Option Addr) (n c : Nat) (B : Option Addr) (m d : Nat) (ks vs : List UInt64) : Prop where
  box : Var w p l A n c B m d
  y : Var w r l (some ⟨j1, 0, none⟩) n n (some ⟨j2, 0, none⟩) n n
  nd : Nd w A n c B m d ks vs
  yk : RowN w j1 43 ks
  yv : RowN w j2 43 vs
  ndlt : ∀ b o, A = some ⟨b, o, none⟩ → 0 < n → b < p
  ndlt' : ∀ b o, B = some ⟨b, o, none⟩ → 0 < m → b < p
  o1 : p < g
  o2 : g < j1
  o3 : g < j2
  o4 : g < r
theorem Rest.below {w w' : World} {p g r j1 j2 : Nat} {l : Bool} {A : Option Addr} {n c : Nat} {B : Option Addr} {m d : Nat} {ks vs : List UInt64} (h : Rest w p g r j1 j2 l A n c B m d ks vs) (k : Below w.heap.size w w') : Rest w' p g r j1 j2 l A n c B m d ks vs :=
  ⟨h.box.below k h.box.lt, h.y.below k h.y.lt, h.nd.below k, h.yk.below h.yk.lt k, h.yv.below h.yv.lt k, h.ndlt, h.ndlt', h.o1, h.o2, h.o3, h.o4⟩
theorem Rest.apart {w w' : World} {p g r j1 j2 x y : Nat} {l : Bool} {A : Option Addr} {n c : Nat} {B : Option Addr} {m d : Nat} {ks vs : List UInt64} (h : Rest w p g r j1 j2 l A n c B m d ks vs) (k : Apart w w' x y) (hx : p < x ∧ x ≠ r ∧ x ≠ j1 ∧ x ≠ j2) (hy : p < y ∧ y ≠ r ∧ y ≠ j1 ∧ y ≠ j2) : Rest w' p g r j1 j2 l A n c B m d ks vs :=
  ⟨h.box.apart k (by omega) (by omega), h.y.apart k (fun e => hx.2.1 e.symm) (fun e => hy.2.1 e.symm),
   ⟨h.nd.kl, h.nd.vl, h.nd.kc, h.nd.km, h.nd.vc, h.nd.vm, told_apart k h.nd.ks (fun b o e h0 => by have := h.ndlt b o e (by rw [← h.nd.kl]; exact h0); omega), told_apart k h.nd.vs (fun b o e h0 => by have := h.ndlt' b o e (by rw [← h.nd.vl]; exact h0); omega)⟩,
   k.rowN h.yk (fun e => hx.2.2.1 e.symm) (fun e => hy.2.2.1 e.symm), k.rowN h.yv (fun e => hx.2.2.2 e.symm) (fun e => hy.2.2.2 e.symm), h.ndlt, h.ndlt', h.o1, h.o2, h.o3, h.o4⟩
theorem Rest.ndy {w : World} {p g r j1 j2 : Nat} {l : Bool} {A : Option Addr} {n c : Nat} {B : Option Addr} {d : Nat} {ks vs : List UInt64} (h : Rest w p g r j1 j2 l A n c B n d ks vs) (hn : n ≤ 20) : Nd w (some ⟨j1, 0, none⟩) n n (some ⟨j2, 0, none⟩) n n ks vs :=
  ⟨h.nd.kl, h.nd.vl, Nat.le_refl _, by unfold maxLen; omega, Nat.le_refl _, by unfold maxLen; omega, h.yk.has.told, h.yv.has.told⟩

set_option maxRecDepth 100000 in
set_option maxHeartbeats 2000000 in
theorem own_walk (l : Bool) (A : Option Addr) (n c : Nat) (B : Option Addr) (m d : Nat) (ks vs : List UInt64) (w : World) (h : Nd w A n c B m d ks vs) :
    Calls Try.prog 8 #[.agg #[.bool l, .slice A n c, .slice B m d]] w fun e w' => e = .returned (.bool true) ∧ Below w.heap.size w w' := by
  have hlA : ∀ b o, A = some ⟨b, o, none⟩ → 0 < n → b < w.heap.size := fun b o e h0 => by
    obtain ⟨b', o', e', hh⟩ := h.ks.has (by rw [h.kl]; exact h0)
    rw [e] at e'; cases e'
    exact hh.lt (by rw [h.kl]; exact h0)
  have hlB : ∀ b o, B = some ⟨b, o, none⟩ → 0 < m → b < w.heap.size := fun b o e h0 => by
    obtain ⟨b', o', e', hh⟩ := h.vs.has (by rw [h.vl]; exact h0)
    rw [e] at e'; cases e'
    exact hh.lt (by rw [h.vl]; exact h0)
  have HLA := Lib.hid (And.intro hlA hlB)
  have HD := Lib.hid (h.boxed (.cells #[.bool l, .slice A n c, .slice B m d] 24))
  have BB := Lib.hid ((Below.refl w.heap.size w).alloc (Nat.le_refl _) (.cells #[.bool l, .slice A n c, .slice B m d] 24))
  have BX := Lib.hid (var_new w l A n c B m d)
  clear h hlA hlB
  by_cases hn : n ≤ 20
  · by_cases hm : m ≤ 20
    · go_enter Try.func8, Try.ntmps8
      go_wp2_with fail
      generalize w.alloc (.cells #[.bool l, .slice A n c, .slice B m d] 24) = w1 at *
      refine (right_any l HD.out (by omega) (by omega)).mono ?_
      rintro e w2 ⟨rfl, B2⟩
      have X2 := Lib.hid (BX.out.below B2 BX.out.lt)
      have D2 := Lib.hid (HD.out.below B2)
      have Y2 := Lib.hid (BB.out.trans (B2.mono BB.out.size))
      clear B2 BX HD BB
      by_cases hf : Fit l ks vs
      · rw [decide_eq_true hf]
        have HF := Lib.hid hf
        obtain rfl : n = m := by have := hf.2.1; have := D2.out.kl; have := D2.out.vl; omega
        have a0 := X2.out.a0
        have a1 := X2.out.a1
        have a2 := X2.out.a2
        clear hf
        go_wp2_with fail
        refine (encode_yes l D2.out HF.out).mono ?_
        rintro e w3 ⟨g, rfl, F3⟩
        have hgc := F3.has
        have X3 := Lib.hid (X2.out.below F3.below X2.out.lt)
        have D3 := Lib.hid (D2.out.below F3.below)
        have Y3 := Lib.hid (Y2.out.trans (F3.below.mono Y2.out.size))
        have hpg : w.heap.size < g := Nat.lt_of_lt_of_le X2.out.lt F3.lo
        have HF3 := Lib.hid F3
        have HL := Lib.hid (length_nodePage l ks vs HF.out.2.1 HF.out.1)
        clear F3 hgc a0 a1 a2 X2 D2 Y2
        go_wp2_with fail
        refine (again_len _ 128 128 (nodePage l ks vs) HL.out _ (by decide) HF3.out.has.told).mono ?_
        rintro e w4 ⟨k, c4, rfl, F4⟩
        have P4 := Lib.hid (show Has w4 g 0 (nodePage l ks vs) from HF3.out.has.below HF3.out.hi F4.below)
        have hgk : g < k := Nat.lt_of_lt_of_le HF3.out.hi F4.lo
        have X4 := Lib.hid (X3.out.below F4.below X3.out.lt)
        have D4 := Lib.hid (D3.out.below F4.below)
        have Y4 := Lib.hid (Y3.out.trans (F4.below.mono Y3.out.size))
        have HF4 := Lib.hid F4
        clear F4 X3 D3 Y3
        go_wp2_with fail
        refine (decode_page l ks vs HF.out n D4.out.kl g 0 128 _ P4.out (by decide) (by decide)).mono ?_
        rintro e w5 ⟨h1, h2, D⟩
        obtain rfl := D.e
        have HD5 := Lib.hid D
        have V5 := Lib.hid (var_new w5 l (some ⟨h1, 0, none⟩) n n (some ⟨h2, 0, none⟩) n n)
        have k5 := (Below.refl w5.heap.size w5).alloc (Nat.le_refl _) (.cells #[.bool l, .slice (some ⟨h1, 0, none⟩) n n, .slice (some ⟨h2, 0, none⟩) n n] 24)
        have hs5 : (w5.alloc (.cells #[.bool l, .slice (some ⟨h1, 0, none⟩) n n, .slice (some ⟨h2, 0, none⟩) n n] 24)).heap.size = w5.heap.size + 1 := by simp
        have K5 := Lib.hid (And.intro k5 hs5)
        have P6 := Lib.hid ((P4.out.below (has_lt P4.out (by rw [HL.out]; decide)) D.below).below (Nat.lt_of_lt_of_le (has_lt P4.out (by rw [HL.out]; decide)) D.below.size) k5)
        clear D k5 hs5
        go_wp2_with fail
        refine (decode_page l ks vs HF.out n D4.out.kl g 0 128 _ P6.out (by decide) (by decide)).mono ?_
        rintro e w7 ⟨j1, j2, D⟩
        obtain rfl := D.e
        have V7 := Lib.hid (var_new w7 l (some ⟨j1, 0, none⟩) n n (some ⟨j2, 0, none⟩) n n)
        have k7 := (Below.refl w7.heap.size w7).alloc (Nat.le_refl _) (.cells #[.bool l, .slice (some ⟨j1, 0, none⟩) n n, .slice (some ⟨j2, 0, none⟩) n n] 24)
        have b1 : Below w4.heap.size w4 (w7.alloc (.cells #[.bool l, .slice (some ⟨j1, 0, none⟩) n n, .slice (some ⟨j2, 0, none⟩) n n] 24)) :=
          HD5.out.below.trans ((K5.out.1.mono HD5.out.below.size).trans ((D.below.mono (Nat.le_trans HD5.out.below.size K5.out.1.size)).trans (k7.mono (Nat.le_trans (Nat.le_trans HD5.out.below.size K5.out.1.size) D.below.size))))
        have b2 : Below w5.heap.size w5 (w7.alloc (.cells #[.bool l, .slice (some ⟨j1, 0, none⟩) n n, .slice (some ⟨j2, 0, none⟩) n n] 24)) :=
          K5.out.1.trans ((D.below.mono K5.out.1.size).trans (k7.mono (Nat.le_trans K5.out.1.size D.below.size)))
        have b3 : Below (w5.heap.size + 1) (w5.alloc (.cells #[.bool l, .slice (some ⟨h1, 0, none⟩) n n, .slice (some ⟨h2, 0, none⟩) n n] 24)) (w7.alloc (.cells #[.bool l, .slice (some ⟨j1, 0, none⟩) n n, .slice (some ⟨j2, 0, none⟩) n n] 24)) :=
          (D.below.mono (by rw [K5.out.2]; exact Nat.le_refl _)).trans (k7.mono (by rw [← K5.out.2]; exact D.below.size))
        have lo1 := D.lo
        have lo2 := D.lo'
        rw [K5.out.2] at lo1 lo2
        have LD := Lib.hid (show Laid (w7.alloc (.cells #[.bool l, .slice (some ⟨j1, 0, none⟩) n n, .slice (some ⟨j2, 0, none⟩) n n] 24)) w.heap.size g k w5.heap.size h1 h2 w7.heap.size j1 j2 l A n c B n d ks vs from
          { box := X4.out.below b1 X4.out.lt, x := V5.out.below b3 (by omega), y := V7.out, nd := D4.out.below b1, xk := HD5.out.ks.below HD5.out.ks.lt b2, xv := HD5.out.vs.below HD5.out.vs.lt b2, yk := D.ks.below D.ks.lt k7, yv := D.vs.below D.vs.lt k7,
            pg := P4.out.below (has_lt P4.out (by rw [HL.out]; decide)) b1, pk := HF4.out.has.below HF4.out.hi b1,
            fz := fun i hi => (b1.frozen (p := ⟨g, i, none⟩) (has_lt P4.out (by rw [HL.out]; decide))).trans ((HF4.out.below.frozen (p := ⟨g, i, none⟩) HF3.out.hi).trans (by have := HF3.out.free i (by have := HL.out; unfold nodePage at this; rw [this]; exact hi); rwa [Nat.zero_add] at this)),
            ndlt := HLA.out.1, ndlt' := HLA.out.2, o1 := hpg, o2 := hgk, o3 := Nat.lt_of_lt_of_le HF4.out.hi HD5.out.lo, o4 := Nat.lt_of_lt_of_le HF4.out.hi HD5.out.lo', o5 := HD5.out.ks.lt, o6 := HD5.out.vs.lt, o7 := by omega, o8 := by omega, o9 := D.ks.lt, o10 := D.vs.lt, ne := HD5.out.ne })
        have Y8 := Lib.hid (Y4.out.trans (b1.mono Y4.out.size))
        go_upto_region 7 with (fail)
        generalize w7.alloc (.cells #[.bool l, .slice (some ⟨j1, 0, none⟩) n n, .slice (some ⟨j2, 0, none⟩) n n] 24) = w8 at *
        generalize w7.heap.size = r at *
        clear b1 b2 b3 k7 D lo1 lo2 V7 HD5 V5 K5 P6 P4 HF3 HF4 X4 D4 Y4
        obtain ⟨x0, x1, x2, xlt⟩ := LD.out.x
        have HQ := Lib.hid (show w5.heap.size = w5.heap.size from rfl)
        generalize w5.heap.size = q at *
        go_wp2_with fail
        go_loopw [48] (fun i wr => ∃ z : Nat, z ≤ n ∧ i = .int .i64 (z : Int) ∧ Hid ((∃ xs : List UInt64, xs.length = n ∧ RowN wr h1 43 xs) ∧ (∃ ys : List UInt64, ys.length = n ∧ RowN wr h2 43 ys)) ∧ Hid (Apart w8 wr h1 h2)) (fun i _ => n - (intOf i).toNat)
        case atStart => exact ⟨0, Nat.zero_le _, rfl, Lib.hid ⟨⟨ks, LD.out.nd.kl, LD.out.xk⟩, ⟨vs, LD.out.nd.vl, LD.out.xv⟩⟩, Lib.hid (Apart.refl _ _ _)⟩
        case round =>
          obtain ⟨z, hz, rfl, HR, HA⟩ := hrel
          obtain ⟨y0, y1, y2, ylt⟩ := LD.out.x.apart HA.out (by have := LD.out.o5; omega) (by have := LD.out.o6; omega)
          by_cases hlt : z < n
          · obtain ⟨⟨xs, hxl, RX⟩, ⟨ys, hyl, RY⟩⟩ := HR.out
            have hzi : (z : Int) < (n : Int) := by omega
            have hz0 : (0 : Int) ≤ (z : Int) := by omega
            have k1 := RX.cellAt (i := z) (List.getElem?_eq_getElem (by omega))
            have k2 := RY.cellAt (i := z) (List.getElem?_eq_getElem (by omega))
            generalize xs[z]'(by omega) = xv at k1
            generalize ys[z]'(by omega) = yv at k2
            have f1 := RX.free z
            have f2 := RY.free z
            have hne : ¬ h1 = h2 := LD.out.ne
            have hne' : ¬ h2 = h1 := fun e => hne e.symm
            have hq1 : ¬ h1 = q := by have := LD.out.o5; omega
            have hq2 : ¬ h2 = q := by have := LD.out.o6; omega
            have HRN := Lib.hid (show ((∃ xs : List UInt64, xs.length = n ∧ RowN ((wr.setCell ⟨h1, z, none⟩ (.int .u64 7)).setCell ⟨h2, z, none⟩ (.int .u64 8)) h1 43 xs) ∧ (∃ ys : List UInt64, ys.length = n ∧ RowN ((wr.setCell ⟨h1, z, none⟩ (.int .u64 7)).setCell ⟨h2, z, none⟩ (.int .u64 8)) h2 43 ys)) from
              ⟨⟨xs.set z 7, by rw [List.length_set]; exact hxl, (RX.set z 7).other hne⟩, ⟨ys.set z 8, by rw [List.length_set]; exact hyl, (RY.other (i := z) (v := .int .u64 7) hne').set z 8⟩⟩)
            have HAN := Lib.hid (show Apart w8 ((wr.setCell ⟨h1, z, none⟩ (.int .u64 7)).setCell ⟨h2, z, none⟩ (.int .u64 8)) h1 h2 from
              ⟨HA.out.os, HA.out.tape, HA.out.output, by simp [HA.out.size], fun i i1 i2 => (heap_setCell_other _ _ _ _ i2).trans ((heap_setCell_other _ _ _ _ i1).trans (HA.out.block i i1 i2))⟩)
            clear RX RY HR HA
            go_wp2_with fail
            go_region
            all_goals
              go_wp2_with fail
              go_roundw
              case rel => exact ⟨z + 1, by omega, by go_num, Lib.hid HRN.out, Lib.hid (HAN.out.still (Still.drew _))⟩
              case measure => simp [intOf]; omega
          · have RS := Lib.hid (show Rest wr w.heap.size g r j1 j2 l A n c B n d ks vs from
              (show Rest w8 w.heap.size g r j1 j2 l A n c B n d ks vs from ⟨LD.out.box, LD.out.y, LD.out.nd, LD.out.yk, LD.out.yv, LD.out.ndlt, LD.out.ndlt', LD.out.o1, by have := LD.out.o2; have := LD.out.o3; have := LD.out.o5; have := LD.out.o7; omega, by have := LD.out.o2; have := LD.out.o3; have := LD.out.o5; have := LD.out.o8; omega, by have := LD.out.o2; have := LD.out.o3; have := LD.out.o5; have := LD.out.o7; have := LD.out.o9; omega⟩).apart HA.out
                (by have := LD.out.o1; have := LD.out.o2; have := LD.out.o3; have := LD.out.o5; have := LD.out.o7; have := LD.out.o8; have := LD.out.o9; omega) (by have := LD.out.o1; have := LD.out.o2; have := LD.out.o4; have := LD.out.o6; have := LD.out.o7; have := LD.out.o8; have := LD.out.o9; omega))
            have PG := Lib.hid (show Has wr g 0 (nodePage l ks vs) from fun i hi => (World.cell?_of_block (HA.out.block g (by have := LD.out.o2; have := LD.out.o3; omega) (by have := LD.out.o2; have := LD.out.o4; omega))).trans (LD.out.pg i hi))
            have PK := Lib.hid (show Has wr k 0 (nodePage l ks vs) from fun i hi => (World.cell?_of_block (HA.out.block k (by have := LD.out.o3; omega) (by have := LD.out.o4; omega))).trans (LD.out.pk i hi))
            have FZ := Lib.hid (show ∀ i, i < 128 → wr.frozen? ⟨g, i, none⟩ = false from fun i hi => (World.frozen?_of_block (a := ⟨g, i, none⟩) (HA.out.block g (by have := LD.out.o2; have := LD.out.o3; omega) (by have := LD.out.o2; have := LD.out.o4; omega))).trans (LD.out.fz i hi))
            have YR := Lib.hid (Y8.out.trans (HA.out.below (B := w.heap.size) (by have := LD.out.o1; have := LD.out.o2; have := LD.out.o3; omega) (by have := LD.out.o1; have := LD.out.o2; have := LD.out.o4; omega)))
            obtain ⟨b0, b1, b2, blt⟩ := RS.out.box
            obtain ⟨z0, z1, z2, zlt⟩ := RS.out.y
            clear HR HA y0 y1 y2 ylt x0 x1 x2 xlt
            go_wp2_with fail
            refine (equal_yes _ _ 128 128 128 c4 (nodePage l ks vs) (nodePage l ks vs) rfl HL.out HL.out _ PG.out.told PK.out.told).mono ?_
            rintro e w9' ⟨rfl, rfl⟩
            go_wp2_with fail
            refine (eqnodes_any l l (RS.out.ndy hn) RS.out.nd (by omega) (by omega)).mono ?_
            rintro e w9 ⟨rfl, B9⟩
            rw [decide_eq_true (show l = l ∧ ks = ks ∧ vs = vs from ⟨rfl, rfl, rfl⟩)]
            have R9 := Lib.hid (RS.out.below B9)
            have P9 := Lib.hid (PG.out.below (has_lt PG.out (by rw [HL.out]; decide)) B9)
            have F9 := Lib.hid (show ∀ i, i < 128 → w9.frozen? ⟨g, i, none⟩ = false from fun i hi => (B9.frozen (p := ⟨g, i, none⟩) (has_lt PG.out (by rw [HL.out]; decide))).trans (FZ.out i hi))
            have Y9 := Lib.hid (YR.out.trans (B9.mono YR.out.size))
            have O9 := Over.start P9.out HL.out
            clear B9 RS PG PK FZ YR b0 b1 b2 blt z0 z1 z2 zlt
            go_wp2_with fail
            go_loopw [84] (fun i wv => ∃ z : Nat, z ≤ 128 ∧ i = .int .i64 (z : Int) ∧ Hid (Over w9 wv g 128)) (fun i _ => 128 - (intOf i).toNat)
            case atStart => exact ⟨0, Nat.zero_le _, rfl, Lib.hid O9⟩
            case round =>
              obtain ⟨z', hz', rfl, HO⟩ := hrel
              by_cases hlt' : z' < 128
              · obtain ⟨cc, hcell⟩ := HO.out.at hlt'
                have hfz := (HO.out.wrote.frz ⟨g, z', none⟩).trans (F9.out z' hlt')
                have HON := Lib.hid (HO.out.next hlt' 0 0 rfl)
                clear O9
                go_wp2_with fail
                go_roundw
                case rel => exact ⟨z' + 1, by omega, by go_num, Lib.hid HON.out⟩
                case measure => simp [intOf]; omega
              · have AP : Apart w9 wr g g := ⟨HO.out.wrote.os, HO.out.wrote.tape, HO.out.wrote.output, HO.out.wrote.size, fun i hi _ => HO.out.wrote.block i hi⟩
                have RV := Lib.hid (R9.out.apart AP (by have := R9.out.o1; have := R9.out.o2; have := R9.out.o3; have := R9.out.o4; omega) (by have := R9.out.o1; have := R9.out.o2; have := R9.out.o3; have := R9.out.o4; omega))
                have YV := Lib.hid (Y9.out.trans (AP.below (B := w.heap.size) (by have := R9.out.o1; omega) (by have := R9.out.o1; omega)))
                obtain ⟨b0, b1, b2, blt⟩ := RV.out.box
                obtain ⟨z0, z1, z2, zlt⟩ := RV.out.y
                clear AP O9 HO
                go_wp2_with fail
                refine (eqnodes_any l l (RV.out.ndy hn) RV.out.nd (by omega) (by omega)).mono ?_
                rintro e u1 ⟨rfl, B10⟩
                rw [decide_eq_true (show l = l ∧ ks = ks ∧ vs = vs from ⟨rfl, rfl, rfl⟩)]
                have Y10 := Lib.hid (YV.out.trans (B10.mono YV.out.size))
                clear B10 b0 b1 b2 blt z0 z1 z2 zlt
                go_wp2_with fail
                refine (awake_any _).mono ?_
                rintro e u2 ⟨rfl, B11⟩
                have Y11 := Lib.hid (Y10.out.trans (B11.mono Y10.out.size))
                clear B11
                go_wp2_with fail
                go_ret
                exact ⟨rfl, Y11.out⟩
      · rw [decide_eq_false hf]
        clear hf
        go_wp2_with fail
        refine (awake_any _).mono ?_
        rintro e w3 ⟨rfl, B3⟩
        have Y3 := Lib.hid (Y2.out.trans (B3.mono Y2.out.size))
        clear B3
        go_wp2_with fail
        go_ret
        exact ⟨rfl, Y3.out⟩
    · go_enter Try.func8, Try.ntmps8
      go_wp2_with fail
      refine (awake_any _).mono ?_
      rintro e w2 ⟨rfl, B2⟩
      go_wp2_with fail
      go_ret
      exact ⟨rfl, BB.out.trans (B2.mono BB.out.size)⟩
  · go_enter Try.func8, Try.ntmps8
    go_wp2_with fail
    refine (awake_any _).mono ?_
    rintro e w2 ⟨rfl, B2⟩
    go_wp2_with fail
    go_ret
    exact ⟨rfl, BB.out.trans (B2.mono BB.out.size)⟩
end Go.Proofs.Ytelaconfjofciaa.Lf
