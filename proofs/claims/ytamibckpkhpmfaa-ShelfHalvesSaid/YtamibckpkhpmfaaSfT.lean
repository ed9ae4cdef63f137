/- The walk of ShelfHalves. -/
import Derived.Test.YtamibckpkhpmfaaSfS
import Derived.Deep.RegionHeld3
namespace Go.Proofs.Ytamibckpkhpmfaa.Sf
open Go.RowKit Go.Proofs.Ytamibckpkhpmfaa.Oct
set_option linter.unusedVariables false

def shv (d : UInt8) (nx : UInt32) (A : Option Addr) (n c : Nat) : List Value := [.int .u8 (d.toNat : Int), .int .u32 (nx.toNat : Int), .slice A n c]
/-- Three copies of a shelf in blocks of their own. -/
structure Tri (w0 w : World) (pa pb pc : Nat) (d : UInt8) (nx : UInt32) (A : Option Addr) (n c : Nat) (B : Option Addr) (m e : Nat) (C : Option Addr) (k f : Nat) : Prop where
  below : Below w0.heap.size w0 w
  la : w0.heap.size ≤ pa
  lb : w0.heap.size ≤ pb
  lc : w0.heap.size ≤ pc
  ab : pa ≠ pb
  ac : pa ≠ pc
  bc : pb ≠ pc
  ra : RowV w pa 25 (shv d nx A n c)
  rb : RowV w pb 25 (shv d nx B m e)
  rc : RowV w pc 25 (shv d nx C k f)
theorem tri_new (w : World) (d : UInt8) (nx : UInt32) (A : Option Addr) (n c : Nat) (pa pb pc : Nat) (h : (pa = w.heap.size ∧ pb = w.heap.size + 1 ∧ pc = w.heap.size + 2) ∨ (pa = w.heap.size ∧ pc = w.heap.size + 1 ∧ pb = w.heap.size + 2) ∨ (pb = w.heap.size ∧ pa = w.heap.size + 1 ∧ pc = w.heap.size + 2) ∨ (pb = w.heap.size ∧ pc = w.heap.size + 1 ∧ pa = w.heap.size + 2) ∨ (pc = w.heap.size ∧ pa = w.heap.size + 1 ∧ pb = w.heap.size + 2) ∨ (pc = w.heap.size ∧ pb = w.heap.size + 1 ∧ pa = w.heap.size + 2)) :
    Tri w ((((w.alloc (.cells #[.int .u8 (d.toNat : Int), .int .u32 (nx.toNat : Int), .slice A n c] 25)).alloc (.cells #[.int .u8 (d.toNat : Int), .int .u32 (nx.toNat : Int), .slice A n c] 25)).alloc (.cells #[.int .u8 (d.toNat : Int), .int .u32 (nx.toNat : Int), .slice A n c] 25)).drew) pa pb pc d nx A n c A n c A n c := by
  have R1 := alloc_rowV w 25 (shv d nx A n c)
  change RowV (w.alloc (.cells #[.int .u8 (d.toNat : Int), .int .u32 (nx.toNat : Int), .slice A n c] 25)) _ _ _ at R1
  have b1 := (Below.refl w.heap.size w).alloc (Nat.le_refl _) (.cells #[.int .u8 (d.toNat : Int), .int .u32 (nx.toNat : Int), .slice A n c] 25)
  have s1 : (w.alloc (.cells #[.int .u8 (d.toNat : Int), .int .u32 (nx.toNat : Int), .slice A n c] 25)).heap.size = w.heap.size + 1 := by simp
  generalize w.alloc (.cells #[.int .u8 (d.toNat : Int), .int .u32 (nx.toNat : Int), .slice A n c] 25) = w1 at *
  have R2 := alloc_rowV w1 25 (shv d nx A n c)
  change RowV (w1.alloc (.cells #[.int .u8 (d.toNat : Int), .int .u32 (nx.toNat : Int), .slice A n c] 25)) _ _ _ at R2
  have b2 := (Below.refl w1.heap.size w1).alloc (Nat.le_refl _) (.cells #[.int .u8 (d.toNat : Int), .int .u32 (nx.toNat : Int), .slice A n c] 25)
  have s2 : (w1.alloc (.cells #[.int .u8 (d.toNat : Int), .int .u32 (nx.toNat : Int), .slice A n c] 25)).heap.size = w.heap.size + 2 := by simp [s1]
  generalize w1.alloc (.cells #[.int .u8 (d.toNat : Int), .int .u32 (nx.toNat : Int), .slice A n c] 25) = w2 at *
  have R3 := alloc_rowV w2 25 (shv d nx A n c)
  change RowV (w2.alloc (.cells #[.int .u8 (d.toNat : Int), .int .u32 (nx.toNat : Int), .slice A n c] 25)) _ _ _ at R3
  have b3 := (Below.refl w2.heap.size w2).alloc (Nat.le_refl _) (.cells #[.int .u8 (d.toNat : Int), .int .u32 (nx.toNat : Int), .slice A n c] 25)
  generalize w2.alloc (.cells #[.int .u8 (d.toNat : Int), .int .u32 (nx.toNat : Int), .slice A n c] 25) = w3 at *
  have Q1 := (((R1.below R1.lt b2).below (R1.below R1.lt b2).lt b3).still (Still.drew w3))
  have Q2 := (R2.below R2.lt b3).still (Still.drew w3)
  have Q3 := R3.still (Still.drew w3)
  rw [s1] at Q2
  rw [s2] at Q3
  have B : Below w.heap.size w w3.drew := b1.trans ((b2.mono b1.size).trans ((b3.mono (by omega)).trans ((Still.drew w3).below _)))
  rcases h with ⟨rfl, rfl, rfl⟩ | ⟨rfl, rfl, rfl⟩ | ⟨rfl, rfl, rfl⟩ | ⟨rfl, rfl, rfl⟩ | ⟨rfl, rfl, rfl⟩ | ⟨rfl, rfl, rfl⟩
  · exact ⟨B, by omega, by omega, by omega, by omega, by omega, by omega, Q1, Q2, Q3⟩
  · exact ⟨B, by omega, by omega, by omega, by omega, by omega, by omega, Q1, Q3, Q2⟩
  · exact ⟨B, by omega, by omega, by omega, by omega, by omega, by omega, Q2, Q1, Q3⟩
  · exact ⟨B, by omega, by omega, by omega, by omega, by omega, by omega, Q3, Q1, Q2⟩
  · exact ⟨B, by omega, by omega, by omega, by omega, by omega, by omega, Q2, Q3, Q1⟩
  · exact ⟨B, by omega, by omega, by omega, by omega, by omega, by omega, Q3, Q2, Q1⟩

theorem Tri.rowA {w0 w : World} {pa pb pc n c m e k f : Nat} {d : UInt8} {nx : UInt32} {A B C : Option Addr} (h : Tri w0 w pa pb pc d nx A n c B m e C k f) : w.cell? ⟨pa, 0, none⟩ = some (.int .u8 (d.toNat : Int)) ∧ w.cell? ⟨pa, 1, none⟩ = some (.int .u32 (nx.toNat : Int)) ∧ w.cell? ⟨pa, 2, none⟩ = some (.slice A n c) := ⟨h.ra.cellAt (i := 0) rfl, h.ra.cellAt (i := 1) rfl, h.ra.cellAt (i := 2) rfl⟩
theorem Tri.rowB {w0 w : World} {pa pb pc n c m e k f : Nat} {d : UInt8} {nx : UInt32} {A B C : Option Addr} (h : Tri w0 w pa pb pc d nx A n c B m e C k f) : w.cell? ⟨pb, 0, none⟩ = some (.int .u8 (d.toNat : Int)) ∧ w.cell? ⟨pb, 1, none⟩ = some (.int .u32 (nx.toNat : Int)) ∧ w.cell? ⟨pb, 2, none⟩ = some (.slice B m e) := ⟨h.rb.cellAt (i := 0) rfl, h.rb.cellAt (i := 1) rfl, h.rb.cellAt (i := 2) rfl⟩
theorem Tri.rowC {w0 w : World} {pa pb pc n c m e k f : Nat} {d : UInt8} {nx : UInt32} {A B C : Option Addr} (h : Tri w0 w pa pb pc d nx A n c B m e C k f) : w.cell? ⟨pc, 0, none⟩ = some (.int .u8 (d.toNat : Int)) ∧ w.cell? ⟨pc, 1, none⟩ = some (.int .u32 (nx.toNat : Int)) ∧ w.cell? ⟨pc, 2, none⟩ = some (.slice C k f) := ⟨h.rc.cellAt (i := 0) rfl, h.rc.cellAt (i := 1) rfl, h.rc.cellAt (i := 2) rfl⟩
theorem Tri.last {w0 w w' : World} {pa pb pc n c m e k f : Nat} {d : UInt8} {nx : UInt32} {A B C : Option Addr} (h : Tri w0 w pa pb pc d nx A n c B m e C k f) (q : Below w.heap.size w w') (D : Option Addr) (j l : Nat) :
    Tri w0 (w'.setCell ⟨pc, 2, none⟩ (.slice D j l)) pa pb pc d nx A n c B m e D j l :=
  ⟨(h.below.trans (q.mono h.below.size)).setCell (p := ⟨pc, 2, none⟩) h.lc _, h.la, h.lb, h.lc, h.ab, h.ac, h.bc, (h.ra.below h.ra.lt q).other h.ac, (h.rb.below h.rb.lt q).other h.bc, (h.rc.below h.rc.lt q).set 2 (.slice D j l)⟩
theorem Tri.grow {w0 w w' : World} {pa pb pc n c m e k f : Nat} {d : UInt8} {nx : UInt32} {A B C : Option Addr} (h : Tri w0 w pa pb pc d nx A n c B m e C k f) (q : Below w.heap.size w w') : Tri w0 w' pa pb pc d nx A n c B m e C k f :=
  ⟨h.below.trans (q.mono h.below.size), h.la, h.lb, h.lc, h.ab, h.ac, h.bc, h.ra.below h.ra.lt q, h.rb.below h.rb.lt q, h.rc.below h.rc.lt q⟩
theorem Tri.cut {w0 w : World} {pa pb pc n c : Nat} {d : UInt8} {nx : UInt32} {A : Option Addr} (h : Tri w0 w pa pb pc d nx A n c A n c A n c) (B : Option Addr) (m e : Nat) (C : Option Addr) (k f : Nat) :
    Tri w0 (((w.setCell ⟨pa, 2, none⟩ (.slice B m e)).setCell ⟨pb, 2, none⟩ (.slice C k f)).drew) pa pb pc d nx B m e C k f A n c :=
  ⟨(((h.below.setCell (p := ⟨pa, 2, none⟩) h.la _).setCell (p := ⟨pb, 2, none⟩) h.lb _).trans ((Still.drew _).below _)), h.la, h.lb, h.lc, h.ab, h.ac, h.bc,
   ((h.ra.set 2 (.slice B m e)).other h.ab).still (Still.drew _), ((h.rb.other (fun e => h.ab e.symm)).set 2 (.slice C k f)).still (Still.drew _), ((h.rc.other (fun e => h.ac e.symm)).other (fun e => h.bc e.symm)).still (Still.drew _)⟩

set_option maxRecDepth 100000 in
set_option maxHeartbeats 2000000 in
theorem halves_walk (d : UInt8) (nx : UInt32) (A : Option Addr) (n c : Nat) (es : List Ent) (cut : Int) (w : World) (h : Sh w A n c es) (hnil : A = none → c = 0) (hcut : (Lit.int .u8 cut).wf = true) :
    Calls Try.prog 6 #[.agg #[.int .u8 (d.toNat : Int), .int .u32 (nx.toNat : Int), .slice A n c], .int .u8 cut] w fun e w' => e = .returned (.bool true) ∧ Below w.heap.size w w' := by
  obtain ⟨d', rfl⟩ := u8_of hcut
  clear hcut
  have HD0 := Lib.hid h
  have hcm := h.km
  have hnc := h.kc
  have HNIL := Lib.hid hnil
  have HD := Lib.hid (h.boxed (.cells #[.int .u8 (d.toNat : Int), .int .u32 (nx.toNat : Int), .slice A n c] 25))
  have BB := Lib.hid ((Below.refl w.heap.size w).alloc (Nat.le_refl _) (.cells #[.int .u8 (d.toNat : Int), .int .u32 (nx.toNat : Int), .slice A n c] 25))
  have BX := Lib.hid (box_new (T := 25) w d nx A n c)
  have hd8' := u8_le d'
  unfold maxLen at hcm
  clear h hnil
  by_cases hn : n ≤ 20
  · go_enter Try.func6, Try.ntmps6
    go_wp2_with fail
    generalize w.alloc (.cells #[.int .u8 (d.toNat : Int), .int .u32 (nx.toNat : Int), .slice A n c] 25) = w1 at *
    refine (right_any d nx HD.out).mono ?_
    rintro e w2 ⟨rfl, B2⟩
    have X2 := Lib.hid (BX.out.below B2 BX.out.lt)
    have Y2 := Lib.hid (BB.out.trans (B2.mono BB.out.size))
    clear B2 BX HD BB
    by_cases hf : Fit d nx es
    · rw [decide_eq_true hf]
      have HF := Lib.hid hf
      have HL := Lib.hid HD0.out.el
      obtain ⟨a0, a1, a2, _⟩ := X2.out
      clear hf
      go_wp2_with fail
      obtain ⟨k, hk⟩ : ∃ k : Nat, k = d'.toNat % (n + 1) := ⟨_, rfl⟩
      have hki : (d'.toNat : Int) % ((n : Int) + 1) = (k : Int) := by rw [hk]; simp
      have hkn : k ≤ n := by have := Nat.mod_lt d'.toNat (show 0 < n + 1 by omega); omega
      rw [hki]
      clear hk hki
      go_cut [6, 7, 8] (fun s6 s7 s8 wx => ∃ pa pb pc : Nat, s6 = .pointer (some ⟨pa, 0, none⟩) ∧ s7 = .pointer (some ⟨pb, 0, none⟩) ∧ s8 = .pointer (some ⟨pc, 0, none⟩) ∧ Hid (Tri w2 wx pa pb pc d nx A n c A n c A n c))
      case first =>
        have KS := Lib.hid (show ∀ w', Below w2.heap.size w2 w' → (w'.cell? ⟨w.heap.size, 0, none⟩ = some (.int .u8 (d.toNat : Int)) ∧ w'.cell? ⟨w.heap.size, 1, none⟩ = some (.int .u32 (nx.toNat : Int)) ∧ w'.cell? ⟨w.heap.size, 2, none⟩ = some (.slice A n c)) from fun w' k => let x := X2.out.below k X2.out.lt; ⟨x.c0, x.c1, x.c2⟩)
        go_region_held3 (fun w' => w'.cell? ⟨w.heap.size, 0, none⟩ = some (.int .u8 (d.toNat : Int)) ∧ w'.cell? ⟨w.heap.size, 1, none⟩ = some (.int .u32 (nx.toNat : Int)) ∧ w'.cell? ⟨w.heap.size, 2, none⟩ = some (.slice A n c)) ((refine KS.out _ ?_; (repeat' (first | with_reducible exact Below.refl _ _ | with_reducible refine Below.drew ?_ | with_reducible refine Below.setCell ?_ (by first | exact Nat.le_refl _ | (simp <;> omega)) _ | with_reducible refine Below.alloc ?_ (by first | exact Nat.le_refl _ | (simp <;> omega)) _)))) (fail)
        all_goals
          go_wp2_with fail
          go_meet
          exact ⟨_, _, _, rfl, rfl, rfl, Lib.hid (tri_new w2 d nx A n c _ _ _ (by omega))⟩
      case rest =>
        obtain ⟨pa, pb, pc, rfl, rfl, rfl, HT⟩ := hcut
        have X3 := Lib.hid (X2.out.below HT.out.below X2.out.lt)
        have Y3 := Lib.hid (Y2.out.trans (HT.out.below.mono Y2.out.size))
        have XL := Lib.hid X2.out.lt
        have HY2 := Lib.hid Y2.out
        have HX2 := Lib.hid X2.out
        clear X2 Y2 a0 a1 a2
        obtain ⟨a0, a1, a2, _⟩ := X3.out
        have r0 := HT.out.ra.cellAt (i := 2) rfl
        have r1 := HT.out.rb.cellAt (i := 2) rfl
        have f0 := HT.out.ra.free 2
        have f1 := HT.out.rb.free 2
        obtain ⟨A', hsl, hsh, hA0⟩ := run_tail HD0.out HNIL.out k hkn
        have hhd := run_head HD0.out k hkn
        have HSH := Lib.hid hsh
        have HNB := Lib.hid (show A' = none → c - k = 0 from hA0)
        have hab := HT.out.ab
        have hab' : ¬ pb = pa := fun e => hab e.symm
        have hxa : ¬ w.heap.size = pa := by have := HT.out.la; have := XL.out; omega
        have hxb : ¬ w.heap.size = pb := by have := HT.out.lb; have := XL.out; omega
        clear hsh hA0
        go_wp2_with fail
        go_cut [] (fun wx => Hid (Tri w2 wx pa pb pc d nx A k c A' (n - k) (c - k) A n c))
        case first =>
          go_region
          all_goals
            go_wp2_with fail
            go_meet
            exact Lib.hid (HT.out.cut A k c A' (n - k) (c - k))
        case rest =>
          have HT2 := Lib.hid hcut.out
          clear HT hcut r0 r1 f0 f1 hsl hhd a0 a1 a2 X3
          have Y4 := Lib.hid (Y3.out)
          have HW := Lib.hid (HT2.out.below)
          have HS0 := Lib.hid (HD0.out.below (HY2.out.trans (HW.out.mono HY2.out.size)))
          have HSA := Lib.hid (HS0.out.pre k hkn)
          have HSB := Lib.hid (HSH.out wc (HS0.out))
          have KS := Lib.hid (show ∀ w', Below wc.heap.size wc w' → (w'.cell? ⟨pa, 2, none⟩ = some (.slice A k c) ∧ w'.cell? ⟨pb, 2, none⟩ = some (.slice A' (n - k) (c - k)) ∧ w'.cell? ⟨pc, 2, none⟩ = some (.slice A n c) ∧ w'.frozen? ⟨pc, 2, none⟩ = false) from fun w' q => ⟨(HT2.out.ra.below HT2.out.ra.lt q).cellAt (i := 2) rfl, (HT2.out.rb.below HT2.out.rb.lt q).cellAt (i := 2) rfl, (HT2.out.rc.below HT2.out.rc.lt q).cellAt (i := 2) rfl, (HT2.out.rc.below HT2.out.rc.lt q).free 2⟩)
          have HO0 := Lib.hid (own_bare wc)
          have l1 : (es.drop k).length = n - k := by rw [List.length_drop, HL.out]
          have HLD := Lib.hid l1
          have HLN := Lib.hid (show (es.drop k ++ es.take k).length = n by rw [List.length_append, l1, List.length_take, HL.out]; omega)
          clear l1
          obtain ⟨k0, k1, k2, k3⟩ := KS.out _ (Below.refl _ _)
          obtain ⟨z0, z1, z2, z3⟩ := KS.out _ ((Below.refl wc.heap.size wc).alloc (Nat.le_refl _) (.cells #[] 40))
          go_wp2_with fail
          go_cut [] (fun wx => Hid (∃ C f, Tri w2 wx pa pb pc d nx A k c A' (n - k) (c - k) C n f ∧ Sh wx C n f (es.drop k ++ es.take k)))
          case first =>
            go_region_law (first | (refine step_ents rfl (.tmp 42) (.tmp 44) rfl rfl rfl n (es.drop k ++ es.take k) rfl HLN.out HO1.out (HSA.out.below (by (repeat' (first | with_reducible exact Below.refl _ _ | with_reducible exact HQ2.out | with_reducible exact HQ1.out | with_reducible refine Below.drew ?_ | with_reducible refine Below.alloc ?_ (by first | exact Nat.le_refl _ | (simp <;> omega)) _)))) HNIL.out (by have := HLD.out; omega) (by exact HQ1.out.size) ?_; intro C2 f2 w2' O2 G2; have HQ2 := Lib.hid (show Below wc.heap.size wc w2' from HQ1.out.trans G2); have HO2 := Lib.hid O2; obtain ⟨y0, y1, y2, y3⟩ := KS.out _ HQ2.out; clear O2 G2) | (refine step_ents rfl (.tmp 39) (.tmp 41) rfl rfl rfl (n - k) (es.drop k) (List.nil_append _) HLD.out HO0.out (HSB.out.below (by (repeat' (first | with_reducible exact Below.refl _ _ | with_reducible exact HQ2.out | with_reducible exact HQ1.out | with_reducible refine Below.drew ?_ | with_reducible refine Below.alloc ?_ (by first | exact Nat.le_refl _ | (simp <;> omega)) _)))) HNB.out (by have := HLD.out; simp; omega) (by simp) ?_; intro C1 f1 w1' O1 G1; have HQ1 := Lib.hid (show Below wc.heap.size wc w1' from Below.trans (by (repeat' (first | with_reducible exact Below.refl _ _ | with_reducible exact HQ2.out | with_reducible exact HQ1.out | with_reducible refine Below.drew ?_ | with_reducible refine Below.alloc ?_ (by first | exact Nat.le_refl _ | (simp <;> omega)) _))) G1); have HO1 := Lib.hid O1; obtain ⟨x0, x1, x2, x3⟩ := KS.out _ HQ1.out; clear O1 G1))
            all_goals
              go_wp2_with fail
              go_meet
              exact Lib.hid ⟨C2, f2, HT2.out.last HQ2.out C2 n f2, HO2.out.beside HLN.out HT2.out.rc.lt⟩
          case rest =>
            obtain ⟨C, f, HT3, HS3⟩ := hcut.out
            have T3 := Lib.hid HT3
            have S3 := Lib.hid HS3
            have Y5 := Lib.hid (HY2.out.trans (HT3.below.mono HY2.out.size))
            have X5 := Lib.hid (HX2.out.below HT3.below HX2.out.lt)
            have HSC := Lib.hid (HD0.out.below Y5.out)
            clear HT3 HS3 hcut HS0 HSA HSB KS k0 k1 k2 k3 z0 z1 z2 z3 HT2 HW Y4 Y3 HO0
            obtain ⟨t0, t1, t2⟩ := T3.out.rowA
            go_wp2_with fail
            refine (right_any d nx (HSC.out.pre k hkn)).mono ?_
            rintro e w6 ⟨rfl, B6⟩
            rw [decide_eq_true (fit_take HF.out k)]
            have T6 := Lib.hid (T3.out.grow B6)
            have S6 := Lib.hid (S3.out.below B6)
            have X6 := Lib.hid (X5.out.below B6 X5.out.lt)
            have Q6 := Lib.hid ((HSH.out wc HSC.out).below B6)
            have Y6 := Lib.hid (Y5.out.trans (B6.mono Y5.out.size))
            clear B6 t0 t1 t2
            obtain ⟨t0, t1, t2⟩ := T6.out.rowB
            go_wp2_with fail
            refine (right_any d nx Q6.out).mono ?_
            rintro e w7 ⟨rfl, B7⟩
            rw [decide_eq_true (fit_drop HF.out k)]
            have T7 := Lib.hid (T6.out.grow B7)
            have S7 := Lib.hid (S6.out.below B7)
            have X7 := Lib.hid (X6.out.below B7 X6.out.lt)
            have Y7 := Lib.hid (Y6.out.trans (B7.mono Y6.out.size))
            clear B7 t0 t1 t2
            obtain ⟨t0, t1, t2⟩ := T7.out.rowC
            go_wp2_with fail
            refine (right_any d nx S7.out).mono ?_
            rintro e w8 ⟨rfl, B8⟩
            have X8 := Lib.hid (X7.out.below B8 X7.out.lt)
            have Y8 := Lib.hid (Y7.out.trans (B8.mono Y7.out.size))
            clear B8 t0 t1 t2
            obtain ⟨a0, a1, a2, _⟩ := X8.out
            by_cases hk0 : k = 0
            · rw [decide_eq_true (swap_yes HF.out k (.inl hk0))]
              have hb : ((k : Int) == 0) = true := by simp; omega
              clear hk0
              go_wp2_with fail
              refine (awake_any _).mono ?_
              rintro e w9 ⟨rfl, B9⟩
              have Y9 := Lib.hid (Y8.out.trans (B9.mono Y8.out.size))
              clear B9
              go_wp2_with fail
              go_ret
              exact ⟨rfl, Y9.out⟩
            · have hb : ((k : Int) == 0) = false := by simp; omega
              by_cases hke : k = n
              · rw [decide_eq_true (swap_yes HF.out k (.inr (by rw [HL.out]; exact hke)))]
                have hc : ((k : Int) == (n : Int)) = true := by rw [hke]; simp
                clear hke
                go_wp2_with fail
                refine (awake_any _).mono ?_
                rintro e w9 ⟨rfl, B9⟩
                have Y9 := Lib.hid (Y8.out.trans (B9.mono Y8.out.size))
                clear B9
                go_wp2_with fail
                go_ret
                exact ⟨rfl, Y9.out⟩
              · rw [decide_eq_false (swap_no HF.out k (by omega) (by rw [HL.out]; omega))]
                have hc : ((k : Int) == (n : Int)) = false := by rw [beq_eq_false_iff_ne]; omega
                go_wp2_with fail
                refine (awake_any _).mono ?_
                rintro e w9 ⟨rfl, B9⟩
                have Y9 := Lib.hid (Y8.out.trans (B9.mono Y8.out.size))
                clear B9
                go_wp2_with fail
                go_ret
                exact ⟨rfl, Y9.out⟩
    · rw [decide_eq_false hf]
      clear hf
      go_wp2_with fail
      refine (awake_any _).mono ?_
      rintro e w3 ⟨rfl, B3⟩
      have Y3 := Lib.hid (Y2.out.trans (B3.mono Y2.out.size))
      clear B3
      go_wp2_with fail
      go_ret
      exact ⟨rfl, Y3.out⟩
  · go_enter Try.func6, Try.ntmps6
    go_wp2_with fail
    refine (awake_any _).mono ?_
    rintro e w2 ⟨rfl, B2⟩
    go_wp2_with fail
    go_ret
    exact ⟨rfl, BB.out.trans (B2.mono BB.out.size)⟩
end Go.Proofs.Ytamibckpkhpmfaa.Sf
