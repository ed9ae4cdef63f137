/- The walk of the statement LeafTells. -/
import Derived.Test.YtelaconfjofciaaLrF
import Derived.Test.YtelaconfjofciaaLfP
import Derived.Deep.RegionHeld3
namespace Go.Proofs.Ytelaconfjofciaa.Lf
open Go.RowKit Go.Proofs.Ytelaconfjofciaa.Oct
set_option linter.unusedVariables false

/-- What came in, and its copies. -/
structure Ctx (w : World) (p a gk gv : Nat) (l : Bool) (A : Option Addr) (n c : Nat) (B : Option Addr) (m d : Nat) (ks vs : List UInt64) (a1 : Option Addr) (len1 cap1 : Nat) (bs : List UInt8) : Prop where
  vb : Var w p l A n c B m d
  vi : Var w a l (some ⟨gk, 0, none⟩) n n (some ⟨gv, 0, none⟩) m m
  nb : Nd w A n c B m d ks vs
  ni : Nd w (some ⟨gk, 0, none⟩) n n (some ⟨gv, 0, none⟩) m m ks vs
  pg : Bits w a1 len1 cap1 bs
theorem Ctx.below {w w' : World} {p a gk gv : Nat} {l : Bool} {A : Option Addr} {n c : Nat} {B : Option Addr} {m d : Nat} {ks vs : List UInt64} {a1 : Option Addr} {len1 cap1 : Nat} {bs : List UInt8} (h : Ctx w p a gk gv l A n c B m d ks vs a1 len1 cap1 bs) (k : Below w.heap.size w w') : Ctx w' p a gk gv l A n c B m d ks vs a1 len1 cap1 bs :=
  ⟨h.vb.below k h.vb.lt, h.vi.below k h.vi.lt, h.nb.below k, h.ni.below k, h.pg.below k⟩
theorem ctx_of {w1 W : World} {p a gk gv : Nat} {l : Bool} {A : Option Addr} {n c : Nat} {B : Option Addr} {m d : Nat} {ks vs : List UInt64} {a1 : Option Addr} {len1 cap1 : Nat} {bs : List UInt8} (hm : Made2 w1 W a gk gv l n m ks vs) (hn20 : n ≤ 20) (hm20 : m ≤ 20) (vb : Var w1 p l A n c B m d) (nb : Nd w1 A n c B m d ks vs) (pg : Bits w1 a1 len1 cap1 bs) : Ctx W p a gk gv l A n c B m d ks vs a1 len1 cap1 bs :=
  ⟨vb.below hm.below vb.lt, ⟨hm.n0, hm.n1, hm.n2, World.block_lt_of_cell? _ _ hm.n0⟩, nb.below hm.below, ⟨nb.kl, nb.vl, Nat.le_refl _, by unfold maxLen; omega, Nat.le_refl _, by unfold maxLen; omega, hm.rk.has.told, hm.rv.has.told⟩, pg.below hm.below⟩

set_option maxRecDepth 100000 in
set_option maxHeartbeats 4000000 in
theorem tells_walk (l : Bool) (A : Option Addr) (n c : Nat) (B : Option Addr) (m d : Nat) (ks vs : List UInt64) (a1 : Option Addr) (len1 cap1 : Nat) (z1 : List Int) (w : World) (h : Nd w A n c B m d ks vs) (hz1 : IsRow .u8 w a1 len1 cap1 z1) :
    Calls Try.prog 3 #[.agg #[.bool l, .slice A n c, .slice B m d], .slice a1 len1 cap1] w fun e w' => e = .returned (.bool true) ∧ Below w.heap.size w w' := by
  obtain ⟨bs, hcm⟩ := came hz1
  have HD := Lib.hid h
  have PG := Lib.hid (show Bits w a1 len1 cap1 bs from ⟨hcm.hlen, hcm.le, hcm.hcap, hcm.told⟩)
  have BB := Lib.hid ((Below.refl w.heap.size w).alloc (Nat.le_refl _) (.cells #[.bool l, .slice A n c, .slice B m d] 24))
  have hlc := hcm.le
  have hcx := hcm.hcap
  unfold maxLen at hcx
  clear h hz1 hcm
  have ha : ∀ w2 : World, Below w.heap.size w w2 → Calls Try.prog 9 #[] w2 fun e w' => e = .returned (.bool true) ∧ Below w.heap.size w w' := fun w2 k => (awake_any w2).mono fun e w' ⟨h1, h2⟩ => ⟨h1, k.trans (h2.mono k.size)⟩
  have HA := Lib.hid ha
  clear ha
  by_cases hn : n ≤ 20
  · by_cases hm : m ≤ 20
    · by_cases hp : len1 ≤ 200
      · go_enter Try.func3, Try.ntmps3
        go_upto_region 3 with (fail)
        have BX := Lib.hid (var_new w l A n c B m d)
        have HD1 := Lib.hid (HD.out.boxed (.cells #[.bool l, .slice A n c, .slice B m d] 24))
        have PG1 := Lib.hid (PG.out.below BB.out)
        generalize w.alloc (.cells #[.bool l, .slice A n c, .slice B m d] 24) = w1 at *
        obtain ⟨c0, c1, c2, hlt⟩ := BX.out
        have KS := Lib.hid (show ∀ w', Below w1.heap.size w1 w' → (w'.cell? ⟨w.heap.size, 0, none⟩ = some (.bool l) ∧ w'.cell? ⟨w.heap.size, 1, none⟩ = some (.slice A n c) ∧ w'.cell? ⟨w.heap.size, 2, none⟩ = some (.slice B m d)) from fun w' k => let x := BX.out.below k hlt; ⟨x.a0, x.a1, x.a2⟩)
        have HTK := Lib.hid (show ∀ w', Below w1.heap.size w1 w' → ToldN w' A ks from fun w' k => HD1.out.ks.below k)
        have HTV := Lib.hid (show ∀ w', Below w1.heap.size w1 w' → ToldN w' B vs from fun w' k => HD1.out.vs.below k)
        go_region_held3 (fun w' => w'.cell? ⟨w.heap.size, 0, none⟩ = some (.bool l) ∧ w'.cell? ⟨w.heap.size, 1, none⟩ = some (.slice A n c) ∧ w'.cell? ⟨w.heap.size, 2, none⟩ = some (.slice B m d)) ((refine KS.out _ ?_; (repeat' (first | with_reducible exact Below.refl _ _ | with_reducible exact HBK.out | with_reducible exact HBV.out | with_reducible refine Below.drew ?_ | with_reducible refine Below.setCell ?_ (by first | exact HBV.out.size | exact HBK.out.size | exact Nat.le_refl _) _ | with_reducible refine Below.alloc ?_ (by first | exact HBV.out.size | exact HBK.out.size | exact Nat.le_refl _) _)))) (first | (go_at_call 10; with_reducible refine (againn_any A n c ks HD1.out.kl _ (by omega) ?_).mono ?_; exact HTK.out _ (by (repeat' (first | with_reducible exact Below.refl _ _ | with_reducible exact HBK.out | with_reducible exact HBV.out | with_reducible refine Below.drew ?_ | with_reducible refine Below.setCell ?_ (by first | exact HBV.out.size | exact HBK.out.size | exact Nat.le_refl _) _ | with_reducible refine Below.alloc ?_ (by first | exact HBV.out.size | exact HBK.out.size | exact Nat.le_refl _) _))); rintro e wk ⟨gk, rfl, Fk⟩; have HBK := Lib.hid (show Below w1.heap.size w1 wk from Below.trans (by (repeat' (first | with_reducible exact Below.refl _ _ | with_reducible exact HBK.out | with_reducible exact HBV.out | with_reducible refine Below.drew ?_ | with_reducible refine Below.setCell ?_ (by first | exact HBV.out.size | exact HBK.out.size | exact Nat.le_refl _) _ | with_reducible refine Below.alloc ?_ (by first | exact HBV.out.size | exact HBK.out.size | exact Nat.le_refl _) _))) (Fk.below.mono (Below.size (B := w1.heap.size) (by (repeat' (first | with_reducible exact Below.refl w1.heap.size w1 | with_reducible exact HBK.out | with_reducible exact HBV.out | with_reducible refine Below.drew ?_ | with_reducible refine Below.setCell ?_ (by first | exact HBV.out.size | exact HBK.out.size | exact Nat.le_refl _) _ | with_reducible refine Below.alloc ?_ (by first | exact HBV.out.size | exact HBK.out.size | exact Nat.le_refl _) _)))))); have HZK := Lib.hid (fun a (h : Res _ a) => h.below Fk.below h.lt); have HFK := Lib.hid Fk; clear Fk; (try (first | (with_reducible have ZZ := HZK.out _ ZZ) | (with_reducible have ZZ := HZK.out _ (res_new wv)) | (with_reducible have ZZ := HZK.out _ ((res_new w1).still (Still.drew _)))); (try (have z0 := ZZ.c0; have z1 := ZZ.c1; have z2 := ZZ.c2; have zf0 := ZZ.f 0; have zf1 := ZZ.f 1; have zf2 := ZZ.f 2; have zlt := ZZ.lt)))) | (go_at_call 10; with_reducible refine (againn_any B m d vs HD1.out.vl _ (by omega) ?_).mono ?_; exact HTV.out _ (by (repeat' (first | with_reducible exact Below.refl _ _ | with_reducible exact HBK.out | with_reducible exact HBV.out | with_reducible refine Below.drew ?_ | with_reducible refine Below.setCell ?_ (by first | exact HBV.out.size | exact HBK.out.size | exact Nat.le_refl _) _ | with_reducible refine Below.alloc ?_ (by first | exact HBV.out.size | exact HBK.out.size | exact Nat.le_refl _) _))); rintro e wv ⟨gv, rfl, Fv⟩; have HBV := Lib.hid (show Below w1.heap.size w1 wv from Below.trans (by (repeat' (first | with_reducible exact Below.refl _ _ | with_reducible exact HBK.out | with_reducible exact HBV.out | with_reducible refine Below.drew ?_ | with_reducible refine Below.setCell ?_ (by first | exact HBV.out.size | exact HBK.out.size | exact Nat.le_refl _) _ | with_reducible refine Below.alloc ?_ (by first | exact HBV.out.size | exact HBK.out.size | exact Nat.le_refl _) _))) (Fv.below.mono (Below.size (B := w1.heap.size) (by (repeat' (first | with_reducible exact Below.refl w1.heap.size w1 | with_reducible exact HBK.out | with_reducible exact HBV.out | with_reducible refine Below.drew ?_ | with_reducible refine Below.setCell ?_ (by first | exact HBV.out.size | exact HBK.out.size | exact Nat.le_refl _) _ | with_reducible refine Below.alloc ?_ (by first | exact HBV.out.size | exact HBK.out.size | exact Nat.le_refl _) _)))))); have HZV := Lib.hid (fun a (h : Res _ a) => h.below Fv.below h.lt); have HFV := Lib.hid Fv; clear Fv; (try (first | (with_reducible have ZZ := HZV.out _ ZZ) | (with_reducible have ZZ := HZV.out _ (res_new wk)) | (with_reducible have ZZ := HZV.out _ ((res_new w1).still (Still.drew _)))); (try (have z0 := ZZ.c0; have z1 := ZZ.c1; have z2 := ZZ.c2; have zf0 := ZZ.f 0; have zf1 := ZZ.f 1; have zf2 := ZZ.f 2; have zlt := ZZ.lt)))))
        all_goals
          first
            | (have HMD := Lib.hid (made2_alloc (w4 := w1) (n := n) (m := m) l HFK.out HFV.out HBV.out))
            | (have HMD := Lib.hid (made2_set (w4 := w1) (n := n) (m := m) l HFK.out HFV.out ((Below.refl wk.heap.size wk).alloc (Nat.le_refl _) _) HBV.out ZZ HBK.out.size (by have := HFK.out.hi; omega) (by have := HFV.out.lo; simp at this; omega)))
            | (have HMD := Lib.hid (made2_set (w4 := w1) (n := n) (m := m) l HFK.out HFV.out (Below.refl wk.heap.size wk) HBV.out ZZ (Nat.le_refl _) (by have := HFK.out.lo; simp at this; omega) (by have := HFV.out.lo; have := HBK.out.size; have := HFK.out.hi; have := HFK.out.lo; simp at *; omega)))
          have CX := Lib.hid (ctx_of HMD.out hn hm BX.out HD1.out PG1.out)
          have Y2 := Lib.hid (BB.out.trans (HMD.out.below.mono BB.out.size))
          first
            | generalize wv.alloc (.cells #[.bool l, .slice (some ⟨gk, 0, none⟩) n n, .slice (some ⟨gv, 0, none⟩) m m] 24) = W at *
            | generalize ((wv.setCell ⟨wk.heap.size, 0, none⟩ (.bool l)).setCell ⟨wk.heap.size, 1, none⟩ (.slice (some ⟨gk, 0, none⟩) n n)).setCell ⟨wk.heap.size, 2, none⟩ (.slice (some ⟨gv, 0, none⟩) m m) = W at *
            | generalize ((wv.setCell ⟨w1.heap.size, 0, none⟩ (.bool l)).setCell ⟨w1.heap.size, 1, none⟩ (.slice (some ⟨gk, 0, none⟩) n n)).setCell ⟨w1.heap.size, 2, none⟩ (.slice (some ⟨gv, 0, none⟩) m m) = W at *
          clear HMD HFK HFV HZK HZV HBK HBV BX HD1 PG1 c0 c1 c2 KS
          go_wp2_with fail
          obtain ⟨cd1, xs1, he1, he2, he3⟩ := enc_kind l ks vs
          obtain ⟨cd2, dl, dk, dv, hd1, hd2⟩ := dec_kind bs
          have HE := Lib.hid (And.intro he1 he2)
          have HDK := Lib.hid (And.intro hd1 hd2)
          have hcd1 : (cd1 != cd1) = false := by simp
          have hcd2 : (cd2 != cd2) = false := by simp
          clear he1 he2 he3 hd1 hd2
          refine (again_len a1 len1 cap1 bs CX.out.pg.hl _ (by unfold maxLen; omega) CX.out.pg.t).mono ?_
          rintro e w2 ⟨k, c3, rfl, F2⟩
          have ON2 := Lib.hid (show Bits w2 (some ⟨k, 0, none⟩) len1 c3 bs from ⟨CX.out.pg.hl, by rw [← CX.out.pg.hl]; exact F2.len, F2.cap, F2.has.told⟩)
          have CX2 := Lib.hid (CX.out.below F2.below)
          have Y3 := Lib.hid (Y2.out.trans (F2.below.mono Y2.out.size))
          obtain ⟨i0, i1, i2, ilt⟩ := CX2.out.vi
          obtain ⟨b0, b1, b2, blt⟩ := CX2.out.vb
          clear F2 CX Y2
          go_wp2_with fail
          refine (encode_out l CX2.out.ni (by omega) (by omega) HE.out.1 HE.out.2).mono ?_
          rintro e w3 ⟨A3, l3, p3, rfl, hx3, T3, B3⟩
          have CX3 := Lib.hid (CX2.out.below B3)
          have ON3 := Lib.hid (ON2.out.below B3)
          have Y4 := Lib.hid (Y3.out.trans (B3.mono Y3.out.size))
          have HX3 := Lib.hid hx3
          have HT3 := Lib.hid T3
          clear i0 i1 i2 ilt b0 b1 b2 blt B3 T3 hx3 CX2 ON2 Y3
          obtain ⟨b0, b1, b2, blt⟩ := CX3.out.vb
          go_wp2_with fail
          refine (rencode_out l CX3.out.nb (by omega) (by omega) HE.out.1 HE.out.2).mono ?_
          rintro e w4 ⟨A3', l3', p3', rfl, hx4, T4, B4'⟩
          have CX4 := Lib.hid (CX3.out.below B4')
          have ON4 := Lib.hid (ON3.out.below B4')
          have Y5 := Lib.hid (Y4.out.trans (B4'.mono Y4.out.size))
          have HX4 := Lib.hid hx4
          have HT4 := Lib.hid (And.intro (told_below HT3.out B4') T4)
          clear b0 b1 b2 blt B4' T4 hx4 CX3 ON3 Y4 HT3
          go_wp2_with fail
          refine (decode_out (some ⟨k, 0, none⟩) len1 c3 bs ON4.out.hl ON4.out.le ON4.out.hm _ ON4.out.t HDK.out.1 HDK.out.2).mono ?_
          rintro e w5 ⟨A4, n4, c4, B4, m4, d4, rfl, N4, h4n, h4m, B5'⟩
          have k5 := B5'.trans (((Below.refl w5.heap.size w5).alloc (Nat.le_refl _) (.cells #[.bool dl, .slice A4 n4 c4, .slice B4 m4 d4] 24)).mono B5'.size)
          have V11 := Lib.hid (var_new w5 dl A4 n4 c4 B4 m4 d4)
          have N11 := Lib.hid (N4.boxed (.cells #[.bool dl, .slice A4 n4 c4, .slice B4 m4 d4] 24))
          have CX5 := Lib.hid (CX4.out.below k5)
          have ON5 := Lib.hid (ON4.out.below k5)
          have Y6 := Lib.hid (Y5.out.trans (k5.mono Y5.out.size))
          have HT5 := Lib.hid (And.intro (told_below HT4.out.1 k5) (told_below HT4.out.2 k5))
          clear B5' N4 k5 CX4 ON4 Y5 HT4
          go_upto_region 8 with (fail)
          generalize w5.alloc (.cells #[.bool dl, .slice A4 n4 c4, .slice B4 m4 d4] 24) = w6 at *
          generalize w5.heap.size = t11 at *
          go_wp2_with fail
          refine (rdecode_out a1 len1 cap1 bs CX5.out.pg.hl CX5.out.pg.le CX5.out.pg.hm _ CX5.out.pg.t HDK.out.1 HDK.out.2).mono ?_
          rintro e w7 ⟨A5, n5, c5, B5, m5, d5, rfl, N5, h5n, h5m, B7'⟩
          have k7 := B7'.trans (((Below.refl w7.heap.size w7).alloc (Nat.le_refl _) (.cells #[.bool dl, .slice A5 n5 c5, .slice B5 m5 d5] 24)).mono B7'.size)
          have V13 := Lib.hid (var_new w7 dl A5 n5 c5 B5 m5 d5)
          have N13 := Lib.hid (N5.boxed (.cells #[.bool dl, .slice A5 n5 c5, .slice B5 m5 d5] 24))
          have V12 := Lib.hid (V11.out.below k7 V11.out.lt)
          have N12 := Lib.hid (N11.out.below k7)
          have CX7 := Lib.hid (CX5.out.below k7)
          have ON7 := Lib.hid (ON5.out.below k7)
          have Y8 := Lib.hid (Y6.out.trans (k7.mono Y6.out.size))
          have HT7 := Lib.hid (And.intro (told_below HT5.out.1 k7) (told_below HT5.out.2 k7))
          clear B7' N5 k7 CX5 ON5 Y6 HT5 V11 N11
          go_upto_region 9 with (fail)
          generalize w7.alloc (.cells #[.bool dl, .slice A5 n5 c5, .slice B5 m5 d5] 24) = w8 at *
          generalize w7.heap.size = t13 at *
          first
            | (have CXN := Lib.hid (show Ctx w8 w.heap.size wv.heap.size gk gv l A n c B m d ks vs a1 len1 cap1 bs from CX7.out); generalize wv.heap.size = ta at *)
            | (have CXN := Lib.hid (show Ctx w8 w.heap.size wk.heap.size gk gv l A n c B m d ks vs a1 len1 cap1 bs from CX7.out); generalize wk.heap.size = ta at *)
            | (have CXN := Lib.hid (show Ctx w8 w.heap.size w1.heap.size gk gv l A n c B m d ks vs a1 len1 cap1 bs from CX7.out); generalize w1.heap.size = ta at *)
          clear CXN
          have KS := Lib.hid (show ∀ w', Below w8.heap.size w8 w' → (w'.cell? ⟨ta, 0, none⟩ = some (.bool l) ∧ w'.cell? ⟨ta, 1, none⟩ = some (.slice (some ⟨gk, 0, none⟩) n n) ∧ w'.cell? ⟨ta, 2, none⟩ = some (.slice (some ⟨gv, 0, none⟩) m m) ∧ w'.cell? ⟨w.heap.size, 0, none⟩ = some (.bool l) ∧ w'.cell? ⟨w.heap.size, 1, none⟩ = some (.slice A n c) ∧ w'.cell? ⟨w.heap.size, 2, none⟩ = some (.slice B m d) ∧ w'.cell? ⟨t11, 0, none⟩ = some (.bool dl) ∧ w'.cell? ⟨t11, 1, none⟩ = some (.slice A4 n4 c4) ∧ w'.cell? ⟨t11, 2, none⟩ = some (.slice B4 m4 d4) ∧ w'.cell? ⟨t13, 0, none⟩ = some (.bool dl) ∧ w'.cell? ⟨t13, 1, none⟩ = some (.slice A5 n5 c5) ∧ w'.cell? ⟨t13, 2, none⟩ = some (.slice B5 m5 d5)) from fun w' k => let x := CX7.out.below k; let y := V12.out.below k V12.out.lt; let z := V13.out.below k V13.out.lt; ⟨x.vi.a0, x.vi.a1, x.vi.a2, x.vb.a0, x.vb.a1, x.vb.a2, y.a0, y.a1, y.a2, z.a0, z.a1, z.a2⟩)
          obtain ⟨i0, i1, i2, b0, b1, b2, u0, u1, u2, v0, v1, v2⟩ := KS.out _ (Below.refl _ _)
          have SD := Still.drew w8
          have HT8 := Lib.hid (And.intro (told_below HT7.out.1 (SD.below _)) (told_below HT7.out.2 (SD.below _)))
          have N12' := Lib.hid (N12.out.still SD)
          have N13' := Lib.hid (N13.out.still SD)
          have CX8 := Lib.hid (CX7.out.below (SD.below _))
          obtain ⟨fv, hfv⟩ : ∃ fv, decide (Fit l ks vs) = fv := ⟨_, rfl⟩
          have HFV' := Lib.hid hfv
          have hff : (fv != fv) = false := by simp
          clear SD hfv
          go_wp2_with fail
          go_region_held3 (fun w' => w'.cell? ⟨ta, 0, none⟩ = some (.bool l) ∧ w'.cell? ⟨ta, 1, none⟩ = some (.slice (some ⟨gk, 0, none⟩) n n) ∧ w'.cell? ⟨ta, 2, none⟩ = some (.slice (some ⟨gv, 0, none⟩) m m) ∧ w'.cell? ⟨w.heap.size, 0, none⟩ = some (.bool l) ∧ w'.cell? ⟨w.heap.size, 1, none⟩ = some (.slice A n c) ∧ w'.cell? ⟨w.heap.size, 2, none⟩ = some (.slice B m d) ∧ w'.cell? ⟨t11, 0, none⟩ = some (.bool dl) ∧ w'.cell? ⟨t11, 1, none⟩ = some (.slice A4 n4 c4) ∧ w'.cell? ⟨t11, 2, none⟩ = some (.slice B4 m4 d4) ∧ w'.cell? ⟨t13, 0, none⟩ = some (.bool dl) ∧ w'.cell? ⟨t13, 1, none⟩ = some (.slice A5 n5 c5) ∧ w'.cell? ⟨t13, 2, none⟩ = some (.slice B5 m5 d5)) ((refine KS.out _ ?_; (repeat' (first | with_reducible exact Below.refl _ _ | with_reducible exact HBQ.out | with_reducible exact HBR.out | with_reducible exact HBT.out | with_reducible refine Below.drew ?_)))) (first | (go_at_call 16; with_reducible refine (equal_yes _ _ l3 l3' p3 p3' xs1 xs1 rfl HX3.out HX4.out _ HT8.out.1 HT8.out.2).mono ?_; rintro e wq' ⟨rfl, rfl⟩) | (go_at_call 17; with_reducible refine (eqnodes_any dl dl N12'.out N13'.out (by omega) (by omega)).mono ?_; rintro e wq ⟨rfl, Bq⟩; rw [decide_eq_true (show dl = dl ∧ dk = dk ∧ dv = dv from ⟨rfl, rfl, rfl⟩)]; have HBQ := Lib.hid (show Below w8.heap.size w8 wq from ((Still.drew w8).below _).trans (Bq.mono (Nat.le_refl _))); have CXQ := Lib.hid (CX8.out.below Bq); clear Bq) | (go_at_call 18; with_reducible refine (right_any l CXQ.out.ni (by omega) (by omega)).mono ?_; rintro e wr ⟨rfl, Br⟩; rw [HFV'.out]; have HBR := Lib.hid (HBQ.out.trans (Br.mono HBQ.out.size)); have CXR := Lib.hid (CXQ.out.below Br); clear Br) | (go_at_call 19; with_reducible refine (rright_any l CXR.out.nb (by omega) (by omega)).mono ?_; rintro e wt ⟨rfl, Bt⟩; rw [HFV'.out]; have HBT := Lib.hid (HBR.out.trans (Bt.mono HBR.out.size)); have CXT := Lib.hid (CXR.out.below Bt); clear Bt))
          all_goals
            have ON9 := Lib.hid (ON7.out.below HBT.out)
            have Y9 := Lib.hid (Y8.out.trans (HBT.out.mono Y8.out.size))
            clear i0 i1 i2 b0 b1 b2 u0 u1 u2 v0 v1 v2 KS HT8 N12' N13' CX8 HBQ HBR CXQ CXR
            obtain ⟨i0, i1, i2, ilt⟩ := CXT.out.vi
            obtain ⟨b0, b1, b2, blt⟩ := CXT.out.vb
            go_wp2_with fail
            refine (eqnodes_any l l CXT.out.ni CXT.out.nb (by omega) (by omega)).mono ?_
            rintro e x1 ⟨rfl, C1⟩
            rw [decide_eq_true (show l = l ∧ ks = ks ∧ vs = vs from ⟨rfl, rfl, rfl⟩)]
            have ONX := Lib.hid (ON9.out.below C1)
            have PGX := Lib.hid (CXT.out.pg.below C1)
            have YX := Lib.hid (Y9.out.trans (C1.mono Y9.out.size))
            clear C1 i0 i1 i2 ilt b0 b1 b2 blt
            go_wp2_with fail
            refine (equal_yes _ _ len1 len1 c3 cap1 bs bs rfl ONX.out.hl PGX.out.hl _ ONX.out.t PGX.out.t).mono ?_
            rintro e x1' ⟨rfl, rfl⟩
            go_wp2_with fail
            refine (HA.out _ YX.out).mono ?_
            rintro e x2 ⟨rfl, C2⟩
            go_wp2_with fail
            go_ret
            exact ⟨rfl, C2⟩
      · go_enter Try.func3, Try.ntmps3
        go_wp2_with fail
        refine (HA.out _ BB.out).mono ?_
        rintro e w2 ⟨rfl, B2⟩
        go_wp2_with fail
        go_ret
        exact ⟨rfl, B2⟩
    · go_enter Try.func3, Try.ntmps3
      go_wp2_with fail
      refine (HA.out _ BB.out).mono ?_
      rintro e w2 ⟨rfl, B2⟩
      go_wp2_with fail
      go_ret
      exact ⟨rfl, B2⟩
  · go_enter Try.func3, Try.ntmps3
    go_wp2_with fail
    refine (HA.out _ BB.out).mono ?_
    rintro e w2 ⟨rfl, B2⟩
    go_wp2_with fail
    go_ret
    exact ⟨rfl, B2⟩
end Go.Proofs.Ytelaconfjofciaa.Lf
