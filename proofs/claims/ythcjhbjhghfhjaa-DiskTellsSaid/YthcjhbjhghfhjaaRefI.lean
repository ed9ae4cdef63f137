/- EqualDisks of two disks that are tied. -/
import Derived.Test.YthcjhbjhghfhjaaRefH
import Derived.Deep.DeepCutAuto
import Derived.Deep.RegionHeld3
namespace Go.Proofs.Ythcjhbjhghfhjaa.Dsk
open Go.RowKit Go.Proofs.Ythcjhbjhghfhjaa.Oct
set_option linter.unusedVariables false

theorem told_any {w w' : World} {A : Option Addr} {bs : List UInt8} (h : Oct.Told w A bs) (k : Below w.heap.size w w') : Oct.Told w' A bs := by
  rcases h with h | ⟨b, o, rfl, h⟩
  · exact .inl h
  · by_cases h0 : 0 < bs.length
    · exact .inr ⟨b, o, rfl, h.below (World.block_lt_of_cell? w _ (h 0 h0)) k⟩
    · exact .inl (List.eq_nil_of_length_eq_zero (by omega))
/-- A copy of the reference's disk, in a variable of its own. -/
theorem RAt.boxed {w : World} {base rb : Nat} {cv wv : Value} {r : Rf} (h : RAt w base rb cv wv r) : RAt (w.alloc (.cells #[.int .i64 r.N, cv, wv, .int .i64 r.left, .bool r.down] 30)) base w.heap.size cv wv r := by
  have b := (Below.refl w.heap.size w).alloc (Nat.le_refl _) (.cells #[.int .i64 r.N, cv, wv, .int .i64 r.left, .bool r.down] 30)
  have k := h.below b
  exact ⟨Nat.le_of_lt (Nat.lt_of_le_of_lt h.lo h.lt), heap_alloc_new w _, k.came, k.waits, h.few, h.left⟩

set_option maxRecDepth 100000 in
set_option maxHeartbeats 2000000 in
theorem eqdisks_any {w : World} {base base' a rb : Nat} {cv wv : Value} {s : St} {r : Rf} (hI : Is w base a s) (hR : RAt w base' rb cv wv r) (T : Tie s r) :
    Calls Try.prog 15 #[.pointer (some ⟨a, 0, none⟩), .agg #[.int .i64 r.N, cv, wv, .int .i64 r.left, .bool r.down]] w fun e w' => e = .returned (.bool true) ∧ Below w.heap.size w w' := by
  have b1 := (Below.refl w.heap.size w).alloc (Nat.le_refl _) (.cells #[.int .i64 r.N, cv, wv, .int .i64 r.left, .bool r.down] 30)
  have HI := Lib.hid (hI.below b1)
  have HR := Lib.hid hR.boxed
  have BB := Lib.hid b1
  have HT := Lib.hid T
  obtain ⟨A1, k1, rfl, _, _, _⟩ := own_form hR.came
  obtain ⟨A2, k2, rfl, _, _, _⟩ := own_form hR.waits
  clear hI hR b1 T
  go_enter Try.func15, Try.ntmps15
  go_upto_region 1 with (fail)
  generalize hw1 : w.alloc (.cells #[.int .i64 r.N, .slice A1 r.came.length k1, .slice A2 r.waits.length k2, .int .i64 r.left, .bool r.down] 30) = w1 at *
  have c0 := HR.out.c0
  have c4 := HR.out.c4
  have hlt : w.heap.size < w1.heap.size := World.block_lt_of_cell? _ _ c0
  have KS := Lib.hid (show ∀ w', Below w1.heap.size w1 w' → (w'.cell? ⟨w.heap.size, 0, none⟩ = some (.int .i64 r.N) ∧ w'.cell? ⟨w.heap.size, 4, none⟩ = some (.bool r.down)) from fun w' k => ⟨(k.cell (p := ⟨w.heap.size, 0, none⟩) hlt).trans c0, (k.cell (p := ⟨w.heap.size, 4, none⟩) hlt).trans c4⟩)
  have SD : Still w1 w1.drew := ⟨rfl, rfl, rfl, rfl⟩
  have HId := Lib.hid (HI.out.below (SD.below _))
  have HRd := Lib.hid (HR.out.below (SD.below _))
  have HBd := Lib.hid (SD.below w1.heap.size)
  have hdd : (r.down != r.down) = false := by simp
  have hnn : (r.N != r.N) = false := by simp
  have HPL := Lib.hid (show s.places.length = s.W.length by simp [St.places])
  have HEQ := Lib.hid (show decide (s.places = r.places) = true from decide_eq_true HT.out.places)
  have HFW := Lib.hid (show s.W.length ≤ 1000000 by rw [HT.out.waits]; exact HR.out.few.2)
  clear SD hw1
  go_wp2_with fail
  go_region_held3 (fun w' => w'.cell? ⟨w.heap.size, 0, none⟩ = some (.int .i64 r.N) ∧ w'.cell? ⟨w.heap.size, 4, none⟩ = some (.bool r.down)) ((refine KS.out _ ?_; (repeat' (first | with_reducible exact Below.refl _ _ | with_reducible exact HBC.out | with_reducible exact HBR.out | with_reducible exact HBE.out | with_reducible refine Below.drew ?_)))) (first | (go_at_call 20; (with_reducible refine (down_is HId.out).mono ?_); rintro e wd ⟨rfl, rfl⟩; rw [HT.out.down]) | (go_at_call 29; (with_reducible refine (len_is HId.out).mono ?_); rintro e wd ⟨rfl, rfl⟩; rw [← HT.out.n]) | (go_at_call 19; (with_reducible refine (cached_is HId.out).mono ?_); rintro e wc ⟨g, rfl, _, IR, Bc⟩; have HIR := Lib.hid IR; have HBC := Lib.hid (HBd.out.trans (Bc.mono (Nat.le_refl _))); have HRc := Lib.hid (HRd.out.below Bc); have HIc := Lib.hid (HId.out.below Bc); clear Bc IR) | (go_at_call 36; (with_reducible refine (rcached_at HRc.out).mono ?_); rintro e wr ⟨A, cap, rfl, IA, Br⟩; have HIA := Lib.hid IA; have HIG := Lib.hid (show IRow wr g s.places from (Below.block Br g (Array.getElem?_eq_some_iff.1 HIR.out).1).trans HIR.out); have HBR := Lib.hid (HBC.out.trans (Br.mono HBC.out.size)); have HRr := Lib.hid (HRc.out.below Br); have HIr := Lib.hid (HIc.out.below Br); clear Br IA) | (go_at_call 28; (with_reducible refine (eqplaces_any _ _ _ _ _ _ s.places r.places HPL.out rfl _ (IRow.ints HIG.out) HIA.out HFW.out).mono ?_); rintro e we ⟨rfl, Se⟩; rw [HEQ.out]; have HBE := Lib.hid (HBR.out.trans (Se.below _)); have HRe := Lib.hid (HRr.out.below (Se.below _)); have HIe := Lib.hid (HIr.out.below (Se.below _)); clear Se))
  all_goals
    have hlo := HIe.out.ok.lo
    have hhi := HIe.out.ok.hi
    have hNn := HT.out.n
    have HNN := Lib.hid hNn
    have hN1 : r.N ≤ 4096 := by omega
    have hN0 : 16 ≤ r.N := by omega
    clear HIR HBC HRc HIc HIA HIG HBR HRr HIr HId HRd HBd KS hNn hlo hhi c0 c4
    go_wp2_with fail
    go_loopw [5] (fun i wr => ∃ z : Int, -1 ≤ z ∧ z ≤ r.N + 1 ∧ i = .int .i64 z ∧ Hid (Below we.heap.size we wr)) (fun i _ => (r.N + 1 - intOf i).toNat)
    case atStart => exact ⟨-1, by omega, by omega, rfl, Lib.hid (Below.refl _ _)⟩
    case round =>
      obtain ⟨z, hz0, hz1, rfl, HW⟩ := hrel
      have HIw := Lib.hid (HIe.out.below HW.out)
      have HRw := Lib.hid (HRe.out.below HW.out)
      have d0 := HRw.out.c0
      by_cases hzn : z ≤ r.N
      · go_wp2_with fail
        refine (read_is HIw.out z).mono ?_
        intro e w3 h3
        obtain ⟨A3, c3, rfl, hl3, hc3, hr3, B3⟩ := h3
        have HT3 := Lib.hid (show Oct.Told w3 A3 (s.doRead z).2 from by
          by_cases h0 : (s.doRead z).2 = []
          · exact .inl h0
          · obtain ⟨g3, rfl, _, R3⟩ := hr3 h0
            exact R3.has.told)
        have HR3 := Lib.hid (HRw.out.below B3)
        have HB3 := Lib.hid (HW.out.trans (B3.mono HW.out.size))
        rw [HT.out.read z] at HT3 ⊢
        clear hr3 B3 hl3 hc3
        go_wp2_with fail
        refine (rread_at HR3.out z).mono ?_
        intro e w4 h4
        obtain ⟨rfl, B4⟩ := h4
        have HT4 := Lib.hid (told_any HT3.out B4)
        have HB4 := Lib.hid (HB3.out.trans (B4.mono HB3.out.size))
        clear B4
        generalize (r.doRead z).1 = x1 at *
        generalize (r.doRead z).2 = x2 at *
        have hxx : (x1 != x1) = false := by simp
        have k1 := conv_told (P := Try.prog) HT4.out c3 33 9 5 Try.underlying33 Try.underlying5 Try.underlying9
        have hbb : ((⟨x2.toArray⟩ : ByteArray) != ⟨x2.toArray⟩) = false := by
          show (!(x2.toArray == x2.toArray)) = false
          rw [beq_self_eq_true]
          rfl
        unfold txt
        go_wp2_with fail
        go_roundw
        case rel => exact ⟨z + 1, by omega, by omega, by go_num, HB4⟩
        case measure => simp [intOf]; omega
      · go_wp2_with fail
        go_ret
        exact ⟨rfl, BB.out.trans ((HBE.out.trans (HW.out.mono HBE.out.size)).mono BB.out.size)⟩
end Go.Proofs.Ythcjhbjhghfhjaa.Dsk
