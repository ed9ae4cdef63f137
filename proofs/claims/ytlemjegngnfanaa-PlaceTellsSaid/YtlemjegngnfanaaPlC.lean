/- Which sheets are right. (Written by bin/gen_plright.py.) -/
import Derived.Test.YtlemjegngnfanaaPlB
namespace Go.Proofs.Ytlemjegngnfanaa.Pl
open Go.RowKit Go.Proofs.Ytlemjegngnfanaa.Oct Go.Proofs.Ytlemjegngnfanaa.Mv Go.Proofs.Ytlemjegngnfanaa.Tl Go.Proofs.Ytlemjegngnfanaa.Pk Go.Maps
set_option linter.unusedVariables false

def zs (l : List Int) : List Value := l.map (Value.int .i64)
theorem length_zs (l : List Int) : (zs l).length = l.length := by simp [zs]
theorem zs_at (l : List Int) {i : Nat} (h : i < l.length) : (zs l)[i]? = some (.int .i64 (l.getD i 0)) := by simp [zs, h]
theorem zs_toI (l : List Nat) : zs (toI l) = ints l := by simp [zs, toI, ints]
/-- Numbers of 64 bits. -/
def R64 (l : List Int) : Prop := ∀ z ∈ l, -9223372036854775808 ≤ z ∧ z ≤ 9223372036854775807
theorem R64.at' {l : List Int} (h : R64 l) {i : Nat} (hi : i < l.length) : -9223372036854775808 ≤ l.getD i 0 ∧ l.getD i 0 ≤ 9223372036854775807 := by
  have e : l.getD i 0 = l[i] := by simp [hi]
  rw [e]
  exact h _ (List.getElem_mem hi)
theorem R64.toI {l : List Nat} (h : ∀ m ∈ l, m ≤ 9223372036854775807) : R64 (toI l) := by
  intro z hz
  simp only [Tl.toI, List.mem_map] at hz
  obtain ⟨m, hm, rfl⟩ := hz
  have := h m hm
  omega
/-- A page may stand there, behind those ahead of it. -/
def okAt (s : St) (L : List Int) (i : Nat) : Prop := L.getD i 0 = 0 ∨ ((∀ k, k < i → L.getD k 0 ≠ L.getD i 0) ∧ getZ s (L.getD i 0) ≠ 0)
def RightS (s : St) (l1 l2 : List Int) : Prop := l1.length = pg s.n ∧ l2.length = pg (pg s.n) ∧ ∀ i, i < (l1 ++ l2).length → okAt s (l1 ++ l2) i
/-- The first j blocks but 0. -/
def seenP (L : List Int) (j : Nat) (z : Int) : Prop := z ≠ 0 ∧ ∃ k, k < j ∧ L.getD k 0 = z
theorem seen_zero (L : List Int) (z : Int) : False ↔ seenP L 0 z := ⟨False.elim, fun ⟨_, k, hk, _⟩ => by omega⟩
theorem seen_succ (L : List Int) (j : Nat) {b : Int} (hb : L.getD j 0 = b) (z : Int) : (seenP L j z ∨ (z = b ∧ b ≠ 0)) ↔ seenP L (j + 1) z := by
  constructor
  · rintro (⟨h, k, hk, e⟩ | ⟨rfl, h⟩)
    · exact ⟨h, k, by omega, e⟩
    · exact ⟨h, j, by omega, hb⟩
  · rintro ⟨h, k, hk, e⟩
    by_cases hj : k = j
    · subst hj
      exact .inr ⟨(hb.symm.trans e).symm, by rw [← hb, e]; exact h⟩
    · exact .inl ⟨h, k, by omega, e⟩
theorem ok_iff {s : St} {L : List Int} {j : Nat} {b : Int} (hb : L.getD j 0 = b) : (b = 0 ∨ (¬ seenP L j b ∧ getZ s b ≠ 0)) ↔ okAt s L j := by
  unfold okAt
  rw [hb]
  constructor
  · rintro (h | ⟨h, k⟩)
    · exact .inl h
    · by_cases h0 : b = 0
      · exact .inl h0
      · exact .inr ⟨fun i hi e => h ⟨h0, i, hi, e⟩, k⟩
  · rintro (h | ⟨h, k⟩)
    · exact .inl h
    · exact .inr ⟨fun ⟨_, i, hi, e⟩ => h i hi e, k⟩
theorem pg_pos {n : Nat} (h : 1 ≤ n) : pg n ≠ 0 := by unfold pg; omega
theorem pg_le {n : Nat} (h : n ≤ 4096) : pg n ≤ 68 := by unfold pg; omega
theorem told_at {w : World} {A : Option Addr} {l : List Int} (h : ToldV w A (zs l)) {j : Nat} (hj : j < l.length) : ∃ b o, A = some ⟨b, o, none⟩ ∧ b < w.heap.size ∧ w.cell? ⟨b, o + j, none⟩ = some (.int .i64 (l.getD j 0)) := by
  obtain ⟨b, o, h1, h2⟩ := h.has (by rw [length_zs]; omega)
  exact ⟨b, o, h1, h2.lt (by rw [length_zs]; omega), h2.cellAt (zs_at l hj)⟩

theorem ix0 (w : World) (A1 A2 : Option Addr) (n1 n2 c1 c2 : Nat) : (Instr.index 103 (.agg #[.slice A1 n1 c1, .slice A2 n2 c2]) (.int .i64 0)).run Try.prog w = .ok (.slice A1 n1 c1) w := by kernel_rfl
theorem ix1 (w : World) (A1 A2 : Option Addr) (n1 n2 c1 c2 : Nat) : (Instr.index 103 (.agg #[.slice A1 n1 c1, .slice A2 n2 c2]) (.int .i64 1)).run Try.prog w = .ok (.slice A2 n2 c2) w := by kernel_rfl
def shv (A1 A2 : Option Addr) (n1 n2 c1 c2 : Nat) : Value := .agg #[.slice A1 n1 c1, .slice A2 n2 c2]
set_option maxRecDepth 100000 in
theorem right_nay (v : Value) (A1 A2 : Option Addr) (n1 n2 c1 c2 : Nat) (w : World) (h : Nay w v) :
    Calls Try.prog 33 #[v, shv A1 A2 n1 n2 c1 c2] w fun e w' => e = .returned (.bool false) ∧ Below w.heap.size w w' := by
  have B1 := (Below.refl w.heap.size w).alloc (Nat.le_refl _) (.cells #[.slice A1 n1 c1, .slice A2 n2 c2] 42)
  have HN := Lib.hid (h.below B1)
  have HB := Lib.hid B1
  have e0 : pagesOf 0 = 0 := by decide
  clear h B1
  unfold shv
  go_enter Try.func33, Try.ntmps33
  go_wp2_with fail
  refine (blocks_nay v _ HN.out).mono ?_
  rintro e w' ⟨rfl, rfl⟩
  go_wp2_with fail
  refine (pages_any 0 (by omega) (by omega) _).mono ?_
  rintro e w' ⟨rfl, rfl⟩
  rw [e0]
  generalize w.alloc (.cells #[.slice A1 n1 c1, .slice A2 n2 c2] 42) = w1 at *
  go_upto_region 2 with (fail)
  go_quiet (fail)
  have HB2 := Lib.hid (HB.out.trans (((show Still w1 (w1.drewN nq) from ⟨rfl, rfl, rfl, rfl⟩)).below _))
  generalize w1.drewN nq = w2 at *
  go_wp2_with fail
  go_ret
  exact ⟨rfl, HB2.out⟩

set_option maxRecDepth 100000 in
set_option maxHeartbeats 4000000 in
theorem right_any {w : World} {a cb mb c : Nat} {s : St} (h : At w a cb mb c s) {A1 A2 : Option Addr} {c1 c2 : Nat} {l1 l2 : List Int} (h1 : ToldV w A1 (zs l1)) (h2 : ToldV w A2 (zs l2)) (r1 : R64 l1) (r2 : R64 l2) :
    Calls Try.prog 33 #[.pointer (some ⟨a, 0, none⟩), shv A1 A2 l1.length l2.length c1 c2] w fun e w' => ∃ r : Bool, e = .returned (.bool r) ∧ (r = true ↔ RightS s l1 l2) ∧ Below w.heap.size w w' := by
  have B1 := (Below.refl w.heap.size w).alloc (Nat.le_refl _) (.cells #[.slice A1 l1.length c1, .slice A2 l2.length c2] 42)
  have R1 := alloc_rowV w 42 [.slice A1 l1.length c1, .slice A2 l2.length c2]
  have H := Lib.hid h
  have HA := Lib.hid (h.kept B1)
  have HB := Lib.hid B1
  have HR := Lib.hid R1
  have hn : s.n ≤ 4096 := h.ok.hi
  have hn1 : 1 ≤ s.n := h.ok.lo
  have hp := pg_le hn
  have hpp := pg_le (n := pg s.n) (by omega)
  have hp0 : ¬ ((pg s.n : Int) = 0) := by have := pg_pos hn1; omega
  have hp0b : ((pg s.n : Int) == 0) = false := by simpa using hp0
  have H1 := Lib.hid h1
  have H2 := Lib.hid h2
  have HX1 := Lib.hid r1
  have HX2 := Lib.hid r2
  clear h B1 R1 h1 h2 r1 r2 hn1
  unfold shv
  go_enter Try.func33, Try.ntmps33
  go_wp2_with fail
  refine (blocks_at HA.out).mono ?_
  rintro e w' ⟨rfl, rfl⟩
  go_wp2_with fail
  refine (pages_eq s.n (by omega) _).mono ?_
  rintro e w' ⟨rfl, rfl⟩
  generalize w.alloc (.cells #[.slice A1 l1.length c1, .slice A2 l2.length c2] 42) = w1 at *
  obtain ⟨g, hg⟩ : ∃ g, g = w.heap.size := ⟨_, rfl⟩
  rw [← hg] at HR ⊢
  clear hg
  have d0 := HR.out.cellAt (i := 0) rfl
  have d1 := HR.out.cellAt (i := 1) rfl
  by_cases hl1 : l1.length = pg s.n
  · have hl1i : (l1.length : Int) = (pg s.n : Int) := by omega
    by_cases hl2 : l2.length = pg (pg s.n)
    · have hl2i : (l2.length : Int) = (pg (pg s.n) : Int) := by omega
      go_upto_region 2 with (fail)
      go_quiet ((go_at_call 37; exact Calls.quiet_of_same (calls_flip (pages_eq (pg s.n) (by omega) _))))
      have HB2 := Lib.hid (HB.out.trans (((show Still w1 (w1.drewN nq) from ⟨rfl, rfl, rfl, rfl⟩)).below _))
      have HR2 := Lib.hid (HR.out.still (show Still w1 (w1.drewN nq) from ⟨rfl, rfl, rfl, rfl⟩))
      clear d0 d1 HA HB HR
      generalize w1.drewN nq = w2 at *
      have d0 := HR2.out.cellAt (i := 0) rfl
      have d1 := HR2.out.cellAt (i := 1) rfl
      have HE := Lib.hid (And.intro hl1 hl2)
      have hlen : l1.length + l2.length ≤ 200 := by omega
      clear hl1 hl1i hl2 hl2i
      have hmm := @run_makeMap Try.prog
      have HB3 := Lib.hid (HB2.out.trans (((Below.refl w2.heap.size w2).alloc (Nat.le_refl _) (.map #[] 0)).mono HB2.out.size))
      have HS3 := Lib.hid (SetAt.made w2)
      have HR3 := Lib.hid (HR2.out.below HR2.out.lt ((Below.refl w2.heap.size w2).alloc (Nat.le_refl _) (.map #[] 0)))
      have hsb := HB2.out.size
      go_upto_region 5 with (fail)
      clear d0 d1
      generalize w2.alloc (.map #[] 0) = w3 at *
      have d0 := HR3.out.cellAt (i := 0) rfl
      have d1 := HR3.out.cellAt (i := 1) rfl
      obtain ⟨sb, hsbe⟩ : ∃ sb, sb = w2.heap.size := ⟨_, rfl⟩
      rw [← hsbe] at HS3 hsb ⊢
      clear hsbe HR2 HB2
      have hL := Lib.hid (show (l1 ++ l2).length = l1.length + l2.length from List.length_append)
      have HG1 := Lib.hid (fun j (hj : j < l1.length) => show (l1 ++ l2).getD j 0 = l1.getD j 0 by simp only [List.getD_eq_getElem?_getD]; rw [List.getElem?_append_left hj])
      have HG2 := Lib.hid (fun j (hj : j < l2.length) => show (l1 ++ l2).getD (l1.length + j) 0 = l2.getD j 0 by simp only [List.getD_eq_getElem?_getD]; rw [List.getElem?_append_right (by omega)]; congr 2; omega)
      obtain ⟨L, hLe⟩ : ∃ L, L = l1 ++ l2 := ⟨_, rfl⟩
      rw [← hLe] at HG1 HG2 hL
      have HLE := Lib.hid hLe
      clear hLe
      go_wp2_with fail
      clear d0 d1
      have hix0 := ix0
      have hix1 := ix1
      go_loopw [37] (fun i wr => ∃ o : Nat, ((i = .int .i64 0 ∧ o = 0) ∨ (i = .int .i64 1 ∧ o = l1.length) ∨ (i = .int .i64 2 ∧ o = l1.length + l2.length)) ∧ Hid (SetAt wr sb o (seenP L o)) ∧ Hid (Below w.heap.size w wr) ∧ Hid (∀ i, i < o → okAt s L i)) (fun i _ => 2 - (Go.RowKit.intOf i).toNat)
      case atStart => exact ⟨0, .inl ⟨rfl, rfl⟩, Lib.hid (HS3.out.iff (seen_zero L)), HB3, Lib.hid (fun i hi => by omega)⟩
      case round =>
        obtain ⟨o, hko, HS, HBr, HO⟩ := hrel
        obtain ⟨wm, hwm⟩ : ∃ x, x = wr := ⟨_, rfl⟩
        subst hwm
        rcases hko with ⟨rfl, rfl⟩ | ⟨rfl, rfl⟩ | ⟨rfl, rfl⟩
        · go_wp2_with fail
          go_loopw [42] (fun i wr => ∃ j : Nat, j ≤ l1.length ∧ i = .int .i64 (j : Int) ∧ Hid (SetAt wr sb (0 + j) (seenP L (0 + j))) ∧ Hid (Below w.heap.size w wr) ∧ Hid (∀ i, i < 0 + j → okAt s L i)) (fun i _ => l1.length - (Go.RowKit.intOf i).toNat)
          case atStart => exact ⟨0, Nat.zero_le _, rfl, HS, HBr, HO⟩
          case round =>
            obtain ⟨j, hj, rfl, HS4, HB4, HO4⟩ := hrel
            by_cases hlt : j < l1.length
            · have hji : (j : Int) < (l1.length : Int) := by omega
              obtain ⟨bb, oo, rfl, hbb, hc0⟩ := told_at H1.out hlt
              have hc : wr.cell? ⟨bb, oo + j, none⟩ = some (.int .i64 (l1.getD j 0)) := (HB4.out.cell (p := ⟨bb, oo + j, none⟩) hbb).trans hc0
              obtain ⟨hy1, hy2⟩ := HX1.out.at' hlt
              have HY := Lib.hid ((show L.getD (0 + j) 0 = l1.getD j 0 by rw [Nat.zero_add]; exact HG1.out j hlt))
              clear hc0
              generalize l1.getD j 0 = y at *
              have hos : 0 + j < 8192 := by omega
              go_wp2_with fail
              refine (may_any (H.out.kept HB4.out) HS4.out hos (Nat.lt_of_lt_of_le H.out.row.lt hsb) (Nat.lt_of_lt_of_le H.out.cb_lt hsb) (Nat.lt_of_lt_of_le H.out.mp.lt hsb) y hy1 hy2).mono ?_
              rintro e w5 ⟨r, rfl, hr1, hr2, hr3⟩
              have HI := Lib.hid (hr1.trans (ok_iff HY.out))
              have HS5 := Lib.hid hr2
              have HB5 := Lib.hid (HB4.out.trans (hr3.below (B := w.heap.size) (by simp; exact hsb) HB4.out.size))
              clear hr1 hr2 hr3
              cases r
              · go_wp2_with fail
                go_ret
                refine ⟨false, rfl, ⟨fun e => absurd e (by decide), fun e => ?_⟩, HB5.out⟩
                have := HI.out.2 (HLE.out ▸ e.2.2 (0 + j) (by rw [← HLE.out, hL.out]; omega))
                cases this
              · go_wp2_with fail
                go_roundw
                case rel =>
                  have hS6 := (HS5.out (by simp)).iff (seen_succ L (0 + j) HY.out)
                  have hO6 : ∀ i, i < 0 + (j + 1) → okAt s L i := fun i hi => (Nat.lt_or_ge i (0 + j)).elim (fun h => HO4.out i h) (fun h => by rw [show i = 0 + j by omega]; exact HI.out.1 (by simp))
                  exact ⟨j + 1, by omega, by go_num, Lib.hid hS6, HB5, Lib.hid hO6⟩
                case measure => simp [Go.RowKit.intOf]; omega
            · have hji : ¬ (j : Int) < (l1.length : Int) := by omega
              obtain rfl : j = l1.length := by omega
              go_wp2_with fail
              go_roundw
              case rel => exact ⟨0 + l1.length, .inr (.inl ⟨rfl, by omega⟩), HS4, HB4, HO4⟩
              case measure => simp [Go.RowKit.intOf]
        · go_wp2_with fail
          go_loopw [42] (fun i wr => ∃ j : Nat, j ≤ l2.length ∧ i = .int .i64 (j : Int) ∧ Hid (SetAt wr sb (l1.length + j) (seenP L (l1.length + j))) ∧ Hid (Below w.heap.size w wr) ∧ Hid (∀ i, i < l1.length + j → okAt s L i)) (fun i _ => l2.length - (Go.RowKit.intOf i).toNat)
          case atStart => exact ⟨0, Nat.zero_le _, rfl, HS, HBr, HO⟩
          case round =>
            obtain ⟨j, hj, rfl, HS4, HB4, HO4⟩ := hrel
            by_cases hlt : j < l2.length
            · have hji : (j : Int) < (l2.length : Int) := by omega
              obtain ⟨bb, oo, rfl, hbb, hc0⟩ := told_at H2.out hlt
              have hc : wr.cell? ⟨bb, oo + j, none⟩ = some (.int .i64 (l2.getD j 0)) := (HB4.out.cell (p := ⟨bb, oo + j, none⟩) hbb).trans hc0
              obtain ⟨hy1, hy2⟩ := HX2.out.at' hlt
              have HY := Lib.hid (HG2.out j hlt)
              clear hc0
              generalize l2.getD j 0 = y at *
              have hos : l1.length + j < 8192 := by omega
              go_wp2_with fail
              refine (may_any (H.out.kept HB4.out) HS4.out hos (Nat.lt_of_lt_of_le H.out.row.lt hsb) (Nat.lt_of_lt_of_le H.out.cb_lt hsb) (Nat.lt_of_lt_of_le H.out.mp.lt hsb) y hy1 hy2).mono ?_
              rintro e w5 ⟨r, rfl, hr1, hr2, hr3⟩
              have HI := Lib.hid (hr1.trans (ok_iff HY.out))
              have HS5 := Lib.hid hr2
              have HB5 := Lib.hid (HB4.out.trans (hr3.below (B := w.heap.size) (by simp; exact hsb) HB4.out.size))
              clear hr1 hr2 hr3
              cases r
              · go_wp2_with fail
                go_ret
                refine ⟨false, rfl, ⟨fun e => absurd e (by decide), fun e => ?_⟩, HB5.out⟩
                have := HI.out.2 (HLE.out ▸ e.2.2 (l1.length + j) (by rw [← HLE.out, hL.out]; omega))
                cases this
              · go_wp2_with fail
                go_roundw
                case rel =>
                  have hS6 := (HS5.out (by simp)).iff (seen_succ L (l1.length + j) HY.out)
                  have hO6 : ∀ i, i < l1.length + (j + 1) → okAt s L i := fun i hi => (Nat.lt_or_ge i (l1.length + j)).elim (fun h => HO4.out i h) (fun h => by rw [show i = l1.length + j by omega]; exact HI.out.1 (by simp))
                  exact ⟨j + 1, by omega, by go_num, Lib.hid hS6, HB5, Lib.hid hO6⟩
                case measure => simp [Go.RowKit.intOf]; omega
            · have hji : ¬ (j : Int) < (l2.length : Int) := by omega
              obtain rfl : j = l2.length := by omega
              go_wp2_with fail
              go_roundw
              case rel => exact ⟨l1.length + l2.length, .inr (.inr ⟨rfl, rfl⟩), HS4, HB4, HO4⟩
              case measure => simp [Go.RowKit.intOf]
        · go_wp2_with fail
          go_ret
          refine ⟨true, rfl, ⟨fun _ => ⟨HE.out.1, HE.out.2, ?_⟩, fun _ => rfl⟩, HBr.out⟩
          rw [← HLE.out]
          intro i hi
          exact HO.out i (by rw [hL.out] at hi; exact hi)
    · have hl2i : ¬ ((l2.length : Int) = (pg (pg s.n) : Int)) := by omega
      have hl2b : ((l2.length : Int) == (pg (pg s.n) : Int)) = false := by simpa using hl2i
      go_upto_region 2 with (fail)
      go_quiet ((go_at_call 37; exact Calls.quiet_of_same (calls_flip (pages_eq (pg s.n) (by omega) _))))
      have HB2 := Lib.hid (HB.out.trans (((show Still w1 (w1.drewN nq) from ⟨rfl, rfl, rfl, rfl⟩)).below _))
      clear d0 d1
      generalize w1.drewN nq = w2 at *
      go_wp2_with fail
      go_ret
      exact ⟨false, rfl, ⟨fun e => absurd e (by decide), fun e => absurd e.2.1 hl2⟩, HB2.out⟩
  · have hl1i : ¬ ((l1.length : Int) = (pg s.n : Int)) := by omega
    have hl1b : ((l1.length : Int) == (pg s.n : Int)) = false := by simpa using hl1i
    go_upto_region 2 with (fail)
    go_quiet (fail)
    have HB2 := Lib.hid (HB.out.trans (((show Still w1 (w1.drewN nq) from ⟨rfl, rfl, rfl, rfl⟩)).below _))
    clear d0 d1
    generalize w1.drewN nq = w2 at *
    go_wp2_with fail
    go_ret
    exact ⟨false, rfl, ⟨fun e => absurd e (by decide), fun e => absurd e.1 hl1⟩, HB2.out⟩
end Go.Proofs.Ytlemjegngnfanaa.Pl
