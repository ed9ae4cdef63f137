/- The reference of shelf: Decode of a page whose sum is right. -/
import Derived.Test.YtamibckpkhpmfaaSrD
import Derived.IntWalk
namespace Go.Proofs.Ytamibckpkhpmfaa.Sf
open Go.RowKit Go.Proofs.Ytamibckpkhpmfaa.Oct
set_option linter.unusedVariables false

theorem OwnE.same {w w' : World} {base : Nat} {v : Value} {es : List Ent} (h : OwnE w base v es) (k : ∀ i, base ≤ i → w'.heap[i]? = w.heap[i]?) : OwnE w' base v es := by
  refine ⟨h.1, ?_⟩
  rcases h.2 with hn | ⟨g, cap, cur, rfl, hb, hgg, rest⟩
  · exact .inl hn
  · exact .inr ⟨g, cap, cur, rfl, hb, (k g hb).trans hgg, rest⟩
theorem OwnE.beside3 {w : World} {base n c r : Nat} {A : Option Addr} {es : List Ent} (h : OwnE w base (.slice A n c) es) (hl : es.length = n) (hr : r < base) (x y z : Value) :
    Sh (((w.setCell ⟨r, 0, none⟩ x).setCell ⟨r, 1, none⟩ y).setCell ⟨r, 2, none⟩ z) A n c es := by
  have h2 : OwnE ((w.setCell ⟨r, 0, none⟩ x).setCell ⟨r, 1, none⟩ y) base (.slice A n c) es := h.same fun i hi => (heap_setCell_other _ _ _ _ (show i ≠ r by omega)).trans (heap_setCell_other _ _ _ _ (show i ≠ r by omega))
  exact h2.beside hl hr
theorem lit_sh' (w : World) (y : Ent) : Sh (w.alloc (.cells #[.int .u64 (y.1.toNat : Int), .int .u32 (y.2.toNat : Int)] 40)) (some ⟨w.heap.size, 0, none⟩) 1 1 [y] :=
  ⟨rfl, Nat.le_refl _, by decide, (alloc_rowV w _ (evals [y])).has.told⟩
theorem run_window (w : World) (g n cp lo hi d : Nat) (li hi' : Int) (h1 : li = (lo : Int)) (h2 : hi' = (hi : Int)) (h3 : lo + d = hi) (h4 : hi ≤ n) (h5 : n ≤ cp) (h6 : lo < cp) :
    (Instr.slice 26 (.slice (some ⟨g, 0, none⟩) n cp) (some (.int .i64 li)) (some (.int .i64 hi')) none).run Try.prog w = .ok (.slice (some ⟨g, lo, none⟩) d (cp - lo)) w := by
  have ht : Try.prog.underlying 26 = some (.slice (Try.prog.elem 26)) := by simp [Program.elem, Try.underlying26]
  have he : Try.prog.elem 26 = 5 := by simp [Program.elem, Try.underlying26]
  have hz1 : ∀ w, (Go.sizeOf 5).run Try.prog w = .ok 1 w := fun _ => by kernel_rfl
  subst h1 h2
  rw [run_slice_lh w 26 _ n cp ht .i64 .i64 (lo : Int) (hi : Int) (by omega) (by omega) (by omega), he, hz1]
  have h7 : ¬ cp = lo := by omega
  have h8 : hi - lo = d := by omega
  simp [Result.andThen, sliced, h7, h8, add_plain]
theorem ent_made (w : World) (bs : List UInt8) (k : Nat) (hl : bs.length = 123) (hk : 18 + 12 * k ≤ 123) :
    Sh (w.alloc (.cells #[.int .u64 (num (List.take 8 (List.drop (6 + 12 * k) bs)) : Int), .int .u32 (IntKind.u32.wrap (num (List.take 4 (List.drop (14 + 12 * k) bs)) : Int))] 40)) (some ⟨w.heap.size, 0, none⟩) 1 1 [eAt bs k] := by
  have h8 : ((bs.drop (6 + 12 * k)).take 8).length = 8 := by simp; omega
  have h4 : ((bs.drop (14 + 12 * k)).take 4).length = 4 := by simp; omega
  have e1 : (eAt bs k).1.toNat = num ((bs.drop (6 + 12 * k)).take 8) := num_u64 _ h8
  have e2 : (eAt bs k).2.toNat = num ((bs.drop (14 + 12 * k)).take 4) := num_u32 _ h4
  rw [← e1, ← e2, wrap32]
  exact lit_sh' w (eAt bs k)
theorem re_box (w : World) (x0 : UInt8) (bs : List UInt8) (hl : bs.length = 123) :
    Below w.heap.size w ((w.alloc (.cells #[.int .u8 (x0.toNat : Int), .int .u32 (IntKind.u32.wrap (num (List.take 4 (List.drop 2 bs)) : Int)), .slice none 0 0] 25)).drew) ∧
    RowV ((w.alloc (.cells #[.int .u8 (x0.toNat : Int), .int .u32 (IntKind.u32.wrap (num (List.take 4 (List.drop 2 bs)) : Int)), .slice none 0 0] 25)).drew) w.heap.size 25 [.int .u8 (x0.toNat : Int), .int .u32 ((nAt bs).toNat : Int), .slice none 0 0] := by
  have h4 : ((bs.drop 2).take 4).length = 4 := by simp; omega
  have hn : (nAt bs).toNat = num ((bs.drop 2).take 4) := num_u32 _ h4
  have hw : IntKind.u32.wrap (num (List.take 4 (List.drop 2 bs)) : Int) = ((nAt bs).toNat : Int) := by rw [← hn]; exact wrap32 _
  rw [hw]
  have R := alloc_rowV w 25 [.int .u8 (x0.toNat : Int), .int .u32 ((nAt bs).toNat : Int), .slice none 0 0]
  exact ⟨((Below.refl _ _).alloc (Nat.le_refl _) _).trans ((Still.drew _).below _), R.still (Still.drew _)⟩

set_option maxRecDepth 100000 in
set_option maxHeartbeats 40000000 in
theorem rdecode_good (b o cap : Nat) (ps : List UInt8) (w : World) (hb : Has w b o ps) (hlen : ps.length = 128) (hc : 128 ≤ cap) (hm : cap ≤ maxLen) (hs : Oct.Good ps) :
    Calls Try.prog 13 #[.slice (some ⟨b, o, none⟩) 128 cap] w (fun e w' => (Holds ps ∧ ∃ A n c, RYes w ps e w' A n c) ∨ (¬ Holds ps ∧ DecNo w e w')) := by
  have b1 := (Below.refl w.heap.size w).alloc (Nat.le_refl _) (.cells #[.int .u8 0, .int .u32 0, .slice none 0 0] 25)
  have hbw := has_lt hb (by omega)
  have HB := Lib.hid (hb.below hbw b1)
  have HB0 := Lib.hid hb
  have BB := Lib.hid b1
  have RS := Lib.hid (res_new w)
  have HL := Lib.hid hlen
  have HS := Lib.hid hs
  have HM := Lib.hid hm
  clear hb hlen b1 hs hm
  go_enter Try.func13, Try.ntmps13
  go_wp2_with fail
  generalize w.alloc (.cells #[.int .u8 0, .int .u32 0, .slice none 0 0] 25) = w1 at *
  refine (ropen_good b o cap ps _ HB.out HL.out hc HM.out HS.out).mono ?_
  rintro e w2 ⟨v, rfl, O2, B2⟩
  have R2 := Lib.hid (RS.out.below RS.out.lt B2)
  have Y2 := Lib.hid (BB.out.trans (B2.mono BB.out.size))
  have hbl : (bodyIn ps).length = 123 := by have := HL.out; simp [bodyIn]; omega
  obtain ⟨a, cp, rfl, _, hcp, hcm, hne⟩ := O2.slice
  obtain ⟨g, rfl, hg1, hg2, hH⟩ := hne (by show bodyIn ps ≠ []; intro e; rw [e] at hbl; simp at hbl)
  have HH := Lib.hid (show Has w2 g 0 (bodyIn ps) from hH)
  have hgw : w.heap.size < g := Nat.lt_of_lt_of_le RS.out.lt hg1
  change (bodyIn ps).length ≤ cp at hcp
  rw [show ((ps.drop 1).take 123).length = 123 from hbl]
  rw [hbl] at hcp
  have HBL := Lib.hid hbl
  have HH3 := Lib.hid (fun h : Holds ps => head_holds h (by rw [HL.out]; decide))
  obtain ⟨kd, hkd⟩ : ∃ kd, kd = ps[0]'(by have := HL.out; omega) := ⟨_, rfl⟩
  rw [← hkd] at HH3 ⊢
  have hku := u8_le kd
  unfold maxLen at hcm
  clear O2 B2 HB RS BB hH hne hbl hkd hg1
  obtain ⟨x0, hx0, hdv⟩ := dAt_get (bodyIn ps) HBL.out
  obtain ⟨x1, hx1, hcv⟩ := cAt_get (bodyIn ps) HBL.out
  have g0 := has_at' HH.out hx0
  have g1 := has_at' HH.out hx1
  have hx1u := u8_le x1
  have HDV := Lib.hid (show dIn ps = x0 from hdv)
  have HCV := Lib.hid (show cIn ps = x1.toNat from hcv)
  have HX1 := Lib.hid hx1
  clear hx0 hdv hcv hx1
  have r0 := R2.out.cellAt (i := 0) rfl
  have r1 := R2.out.cellAt (i := 1) rfl
  have r2 := R2.out.cellAt (i := 2) rfl
  have f0 := R2.out.free 0
  have f1 := R2.out.free 1
  have f2 := R2.out.free 2
  by_cases hk3 : kd = 3
  · have hq3 : ((kd.toNat : Int) != 3) = false := by rw [hk3]; rfl
    clear hk3 HH3
    by_cases hn : x1.toNat ≤ 9
    · go_wp2_with fail
      have HD2 := Lib.hid (show ∀ w', Below w2.heap.size w2 w' → Has w' g 0 (bodyIn ps) from fun w' k => HH.out.below hg2 k)
      have KS := Lib.hid (show ∀ w', Below w2.heap.size w2 w' → (w'.cell? ⟨g, 0, none⟩ = some (.int .u8 (x0.toNat : Int))) from fun w' k => (k.cell (p := ⟨g, 0, none⟩) hg2).trans g0)
      have hc2 : ¬ cp = 2 := by omega
      have h6c : (6 : Int) ≤ (cp : Int) := by omega
      go_cut [7] (fun s7 wx => ∃ sb : Nat, s7 = .pointer (some ⟨sb, 0, none⟩) ∧ w2.heap.size ≤ sb ∧ Hid (Below w2.heap.size w2 wx ∧ RowV wx sb 25 [.int .u8 (x0.toNat : Int), .int .u32 ((nIn ps).toNat : Int), .slice none 0 0]))
      case first =>
        go_region_held3 (fun w' => w'.cell? ⟨g, 0, none⟩ = some (.int .u8 (x0.toNat : Int))) ((refine KS.out _ ?_; (repeat' (first | with_reducible exact Below.refl _ _ | with_reducible refine Below.drew ?_ | with_reducible refine Below.setCell ?_ (by first | exact Nat.le_refl _ | (simp <;> omega)) _ | with_reducible refine Below.alloc ?_ (by first | exact Nat.le_refl _ | (simp <;> omega)) _)))) (first | (go_at_call 29; refine (number_o (HD2.out _ (by (repeat' (first | with_reducible exact Below.refl _ _ | with_reducible refine Below.drew ?_ | with_reducible refine Below.setCell ?_ (by first | exact Nat.le_refl _ | (simp <;> omega)) _ | with_reducible refine Below.alloc ?_ (by first | exact Nat.le_refl _ | (simp <;> omega)) _)))) HBL.out 2 4 _ (by decide) (by decide)).mono ?_; rintro e wr ⟨rfl, rfl⟩) | fail)
        all_goals
          go_wp2_with fail
          go_meet
          exact ⟨w2.heap.size, rfl, Nat.le_refl _, Lib.hid (re_box w2 x0 (bodyIn ps) HBL.out)⟩
      case rest =>
        obtain ⟨sb, rfl, hsb, HC⟩ := hcut
        have E0 := Lib.hid (show Re w wc g sb wc.heap.size (bodyIn ps) x0 (nIn ps) none 0 0 [] from
          ⟨Y2.out.trans (HC.out.1.mono Y2.out.size), R2.out.below R2.out.lt HC.out.1, HD2.out _ HC.out.1, HBL.out, hgw, by omega, HC.out.2.lt, Nat.le_refl _, HC.out.2, OwnE.nil _ _, rfl⟩)
        clear HC KS HD2 r0 r1 r2 f0 f1 f2 g0 g1 R2 Y2 HH hc2 h6c
        generalize wc.heap.size = base at *
        go_wp2_with fail
        go_loopw [8] (fun i wr => ∃ k : Nat, k ≤ x1.toNat ∧ i = .int .i64 (k : Int) ∧ Hid (∃ A c, Re w wr g sb base (bodyIn ps) x0 (nIn ps) A k c ((List.range k).map (eAt (bodyIn ps))))) (fun i _ => x1.toNat - (intOf i).toNat)
        case atStart => exact ⟨0, Nat.zero_le _, rfl, Lib.hid ⟨none, 0, E0.out⟩⟩
        case round =>
          obtain ⟨k, hk, rfl, HE⟩ := hrel
          obtain ⟨A, c, E1⟩ := HE.out
          have HR := Lib.hid E1
          clear HE E1 E0
          have g1 := has_at' HR.out.has HX1.out
          by_cases hlt : k < x1.toNat
          · have hkx : (k : Int) < (x1.toNat : Int) := by omega
            go_wp2_with fail
            have c2 := HR.out.box.cellAt (i := 2) rfl
            have hw1 : IntKind.i64.wrap (6 + 12 * (k : Int) + 8) = 6 + 12 * (k : Int) + 8 := IntWalk.i64_in _ (by omega)
            have hw2 : IntKind.i64.wrap (6 + 12 * (k : Int) + 12) = 6 + 12 * (k : Int) + 12 := IntWalk.i64_in _ (by omega)
            have ht1 : (6 + 12 * (k : Int)).toNat = 6 + 12 * k := by omega
            have ht2 : (6 + 12 * (k : Int) + 8).toNat = 14 + 12 * k := by omega
            have ht3 : (6 + 12 * (k : Int) + 12).toNat = 18 + 12 * k := by omega
            have hl8 : 18 + 12 * k ≤ 123 := by omega
            have s1 := fun w' => run_window w' g 123 cp (6 + 12 * k) (14 + 12 * k) 8 (6 + 12 * (k : Int)) (6 + 12 * (k : Int) + 8) (by omega) (by omega) (by omega) (by omega) (by omega) (by omega)
            have s2 := fun w' => run_window w' g 123 cp (14 + 12 * k) (18 + 12 * k) 4 (6 + 12 * (k : Int) + 8) (6 + 12 * (k : Int) + 12) (by omega) (by omega) (by omega) (by omega) (by omega) (by omega)
            have hb4 : base ≤ wr.heap.size := HR.out.o4
            have c2a : ∀ o, (wr.alloc o).cell? ⟨sb, 2, none⟩ = some (.slice A k c) := fun o => (World.cell?_alloc_lt wr o ⟨sb, 2, none⟩ HR.out.box.lt).trans c2
            have HBD := Lib.hid (show ∀ w', Below wr.heap.size wr w' → Has w' g 0 (bodyIn ps) from fun w' q => (HR.out.grow q).has)
            have HSY := Lib.hid (ent_made wr (bodyIn ps) k HBL.out hl8)
            obtain ⟨en', hen⟩ : ∃ z, z = (List.range (k + 1)).map (eAt (bodyIn ps)) := ⟨_, rfl⟩
            have HEQ := Lib.hid hen
            have HZ := Lib.hid (show (List.range k).map (eAt (bodyIn ps)) ++ [eAt (bodyIn ps) k] = en' by rw [hen, List.range_succ, List.map_append]; rfl)
            have HN := Lib.hid (show en'.length = k + 1 by rw [hen]; simp)
            clear hen
            have HN0 := Lib.hid (show ((List.range k).map (eAt (bodyIn ps))).length + 1 ≤ 1000000 by simp; omega)
            generalize (List.range k).map (eAt (bodyIn ps)) = en at *
            clear ht1 ht2 ht3 g1
            go_region_law (first | (go_simp; go_at_call 29; refine (number_o (HBD.out _ (by (repeat' (first | with_reducible exact Below.refl _ _ | with_reducible refine Below.drew ?_ | with_reducible refine Below.alloc ?_ (by first | exact Nat.le_refl _ | exact hb4 | (simp <;> omega)) _)))) HBL.out _ _ _ (by omega) (by omega)).mono ?_; rintro e w4 ⟨rfl, rfl⟩) | (refine step_ents rfl (.tmp 51) (.tmp 67) rfl rfl rfl (k + 1) en' HZ.out HN.out (HR.out.own.kept (B := wr.heap.size) (by (repeat' (first | with_reducible exact Below.refl _ _ | with_reducible refine Below.drew ?_ | with_reducible refine Below.alloc ?_ (by first | exact Nat.le_refl _ | exact hb4 | (simp <;> omega)) _))) (Nat.le_refl _)) (HSY.out.below (by (repeat' (first | with_reducible exact Below.refl _ _ | with_reducible refine Below.drew ?_ | with_reducible refine Below.alloc ?_ (by first | exact Nat.le_refl _ | exact hb4 | (simp <;> omega)) _)))) (fun h => by cases h) HN0.out (Nat.le_trans hb4 (Below.size (B := wr.heap.size) (w := wr) (by (repeat' (first | with_reducible exact Below.refl _ _ | with_reducible refine Below.drew ?_ | with_reducible refine Below.alloc ?_ (by first | exact Nat.le_refl _ | exact hb4 | (simp <;> omega)) _))))) ?_; intro A2 f2 w5 O5 B5; have HB5 := Lib.hid (show Below base wr w5 from Below.trans (by (repeat' (first | with_reducible exact Below.refl _ _ | with_reducible refine Below.drew ?_ | with_reducible refine Below.alloc ?_ (by first | exact Nat.le_refl _ | exact hb4 | (simp <;> omega)) _))) B5); have HO5 := Lib.hid O5; have d2 := (HR.out.box.below HR.out.o3 HB5.out).cellAt (i := 2) rfl; have df := (HR.out.box.below HR.out.o3 HB5.out).free 2; clear O5 B5))
            all_goals
              have HEN := Lib.hid (HR.out.above HB5.out HO5.out HN.out)
              have hen2 := HEN.out
              rw [HEQ.out] at hen2
              have HEN2 := Lib.hid hen2
              clear hen2
              go_wp2_with fail
              go_roundw
              case rel => exact ⟨k + 1, by omega, by go_num, Lib.hid ⟨A2, f2, HEN2.out⟩⟩
              case measure => simp [intOf]; omega
          · obtain rfl : k = x1.toNat := by omega
            have HEI := Lib.hid (show (List.range x1.toNat).map (eAt (bodyIn ps)) = eIn ps by unfold eIn; rw [HCV.out])
            have HR2 := HR.out
            rw [HEI.out] at HR2
            have HQ := Lib.hid HR2
            clear HR HR2
            have HB4 := Lib.hid (show Has wr b o ps from HB0.out.below hbw HQ.out.below)
            have c0 := HQ.out.box.cellAt (i := 0) rfl
            have c1 := HQ.out.box.cellAt (i := 1) rfl
            have c2 := HQ.out.box.cellAt (i := 2) rfl
            by_cases hfit : Fit x0 (nIn ps) (eIn ps)
            · have HFT := Lib.hid hfit
              have HPL := Lib.hid (show (shelfPage x0 (nIn ps) (eIn ps)).length = 128 from length_shelfPage _ _ _ (fit_len hfit))
              clear hfit
              go_wp2_with fail
              refine (rencode_yes x0 (nIn ps) HQ.out.sh HFT.out).mono ?_
              rintro e w6 ⟨ra, rc, rfl, HT6, B6⟩
              have HQ6 := Lib.hid (HQ.out.grow B6)
              have HB6 := Lib.hid (HB4.out.below (has_lt HB4.out (by rw [HL.out]; decide)) B6)
              have k1 := conv_told (P := Try.prog) HT6 rc 26 9 5 Try.underlying26 Try.underlying5 Try.underlying9
              have k2 := conv_told (P := Try.prog) HB6.out.told cap 26 9 5 Try.underlying26 Try.underlying5 Try.underlying9
              rw [HPL.out] at k1
              rw [HL.out] at k2
              clear B6 HT6 HB4 HQ c0 c1 c2
              have c0 := HQ6.out.box.cellAt (i := 0) rfl
              have c1 := HQ6.out.box.cellAt (i := 1) rfl
              have c2 := HQ6.out.box.cellAt (i := 2) rfl
              have r0 := HQ6.out.res.cellAt (i := 0) rfl
              have r1 := HQ6.out.res.cellAt (i := 1) rfl
              have r2 := HQ6.out.res.cellAt (i := 2) rfl
              have f0 := HQ6.out.res.free 0
              have f1 := HQ6.out.res.free 1
              have f2 := HQ6.out.res.free 2
              by_cases heq : shelfPage x0 (nIn ps) (eIn ps) = ps
              · have HHD := Lib.hid (show Holds ps from ⟨HL.out, HS.out, by rw [HCV.out]; exact hn, by rw [HDV.out]; exact HFT.out, by rw [HDV.out]; exact heq⟩)
                have hse : (!(shelfPage x0 (nIn ps) (eIn ps) == ps)) = false := by rw [heq]; simp
                have hrs : ¬ w.heap.size = sb := by have := HQ6.out.o1; have := HQ6.out.o2; omega
                have hrs' : ¬ sb = w.heap.size := fun e => hrs e.symm
                clear heq
                go_wp2_with fail
                refine bodyPost_ret (v := .tuple #[.agg #[.int .u8 (x0.toNat : Int), .int .u32 ((nIn ps).toNat : Int), .slice A x1.toNat c], .int .i64 0]) ?_ rfl (Or.inl ⟨HHD.out, A, x1.toNat, c, by rw [HDV.out], ?_, ?_⟩)
                · rw [results_cell_tmp rfl]
                  go_simp
                · have hw : w.heap.size < base := by have := HQ6.out.o1; have := HQ6.out.o2; have := HQ6.out.o3; omega
                  exact HQ6.out.own.beside3 HQ6.out.el hw _ _ _
                · exact ((HQ6.out.below.setCell (p := ⟨w.heap.size, 0, none⟩) (Nat.le_refl _) _).setCell (p := ⟨w.heap.size, 1, none⟩) (Nat.le_refl _) _).setCell (p := ⟨w.heap.size, 2, none⟩) (Nat.le_refl _) _
              · have HHD := Lib.hid (show ¬ Holds ps from fun h => heq (by have := h.2.2.2.2; rw [HDV.out] at this; exact this))
                have hse : (!(shelfPage x0 (nIn ps) (eIn ps) == ps)) = true := by rw [Bool.not_eq_true', beq_eq_false_iff_ne]; exact heq
                clear heq
                go_wp2_with fail
                refine bodyPost_ret (v := .tuple #[.agg #[.int .u8 0, .int .u32 0, .slice none 0 0], .int .i64 40]) ?_ rfl (Or.inr ⟨HHD.out, rfl, dec_no HQ6.out.below⟩)
                rw [results_cell_tmp rfl]
                go_simp
            · have HHD := Lib.hid (show ¬ Holds ps from fun h => hfit (by have := h.2.2.2.1; rw [HDV.out] at this; exact this))
              have HNF := Lib.hid hfit
              clear hfit
              go_wp2_with fail
              refine (rencode_no x0 (nIn ps) HQ.out.sh HNF.out).mono ?_
              rintro e w6 ⟨rfl, B6⟩
              have HQ6 := Lib.hid (HQ.out.grow B6)
              clear B6 HB4 HQ c0 c1 c2
              have r0 := HQ6.out.res.cellAt (i := 0) rfl
              have r1 := HQ6.out.res.cellAt (i := 1) rfl
              have r2 := HQ6.out.res.cellAt (i := 2) rfl
              have f0 := HQ6.out.res.free 0
              have f1 := HQ6.out.res.free 1
              have f2 := HQ6.out.res.free 2
              go_wp2_with fail
              refine bodyPost_ret (v := .tuple #[.agg #[.int .u8 0, .int .u32 0, .slice none 0 0], .int .i64 40]) ?_ rfl (Or.inr ⟨HHD.out, rfl, dec_no HQ6.out.below⟩)
              rw [results_cell_tmp rfl]
              go_simp
    · have HNH := Lib.hid (fun h : Holds ps => hn (by rw [← HCV.out]; exact h.2.2.1))
      go_wp2_with fail
      refine bodyPost_ret (v := .tuple #[.agg #[.int .u8 0, .int .u32 0, .slice none 0 0], .int .i64 40]) ?_ rfl (Or.inr ⟨HNH.out, rfl, dec_no Y2.out⟩)
      rw [results_cell_tmp rfl]
      go_simp
  · have hq3 : ((kd.toNat : Int) != 3) = true := by rw [bne_iff_ne]; intro e; exact hk3 (UInt8.toNat_inj.1 (by show kd.toNat = 3; omega))
    have HNH := Lib.hid (fun h : Holds ps => hk3 (HH3.out h))
    clear hk3 HH3
    go_wp2_with fail
    refine bodyPost_ret (v := .tuple #[.agg #[.int .u8 0, .int .u32 0, .slice none 0 0], .int .i64 40]) ?_ rfl (Or.inr ⟨HNH.out, rfl, dec_no Y2.out⟩)
    rw [results_cell_tmp rfl]
    go_simp
end Go.Proofs.Ytamibckpkhpmfaa.Sf
