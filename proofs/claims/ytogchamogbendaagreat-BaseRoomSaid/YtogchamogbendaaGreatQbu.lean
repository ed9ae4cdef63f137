/- Several texts in one: BtA BtB BtC BtD BtE. (Written by bin/prune.py.) -/
import Derived.Test.YtogchamogbendaaGreatQbt
/- Layer 11: settle: pages are placed where a count has changed. (Written by bin/gen_bta.py.) -/
namespace Go.Proofs.YtogchamogbendaaGreat.Bs
set_option maxRecDepth 100000
open Go.RowKit Go.Proofs.YtogchamogbendaaGreat.Oct Go.Proofs.YtogchamogbendaaGreat.Mv Go.Proofs.YtogchamogbendaaGreat.Tl Go.Proofs.YtogchamogbendaaGreat.Pk Go.Proofs.YtogchamogbendaaGreat.Pl Go.Maps Go.ChangeMaps
open Go.Proofs.YtogchamogbendaaGreat.Dsk (dT)
open Go.Proofs.YtogchamogbendaaGreat.Su (Sup nth scells scell)
set_option linter.unusedVariables false
set_option linter.unusedSimpArgs false
set_option pp.deepTerms true

/-- What settle answers: where pages stand, and which were placed. -/
def SettleOut (Pr : Nat → Prop) (w : World) (A : Adr) (x : BS) (e : Ending) (w' : World) : Prop :=
  ∃ (y : Wk) (g1 d1 g3 d3 c1 c2 : Nat) (A1 A2 : Option Addr), e = .returned (.tuple #[.agg (lval g1 x.l1.length d1 g3 x.l2.length d3 A1 c1 (doneL y.f1).length A2 c2 (doneL y.f2).length).toArray, .int .i64 0]) ∧ (Pl.begin x.q x.l1 x.l2).Runs y ∧ BAt Pr w' A (x.setQ y.q) ∧ Src w' A.ta A.cb A.mb A.c y.q.s g1 d1 g3 d3 c1 c2 A1 A2 y.l1 y.l2 (doneL y.f1) (doneL y.f2) ∧ ButL w w' [A.cb, A.mb, A.p]
theorem Com.src {x : BS} {y : Wk} (h : Good x) (hr : (Pl.begin x.q x.l1 x.l2).Runs y) {v : World} {ta cb mb c g1 d1 g3 d3 c1 c2 : Nat} {A1 A2 : Option Addr} (ht : Tl.At v ta cb mb c y.q.s) (r1 : ∃ sp, RowV v g1 3 (ints y.l1 ++ sp)) (r3 : ∃ sp, RowV v g3 3 (ints y.l2 ++ sp)) (t1 : ToldV v A1 (ints (doneL y.f1))) (t2 : ToldV v A2 (ints (doneL y.f2))) (hd : doneL y.f2 ≠ [] → y.l1.length ≤ d1) (hd' : doneL y.f2 ≠ [] → d1 ≤ maxLen) : Src v ta cb mb c y.q.s g1 d1 g3 d3 c1 c2 A1 A2 y.l1 y.l2 (doneL y.f1) (doneL y.f2) := by
  have ha := h.sd.anew h.room hr
  have hhi := h.hi
  have hlo := h.lo
  have hyn : y.q.s.n = x.n := ha.n
  have e1 : y.l1.length = pg x.n := by rw [ha.good.len1, hyn]
  have e2 : y.l2.length = pg (pg x.n) := by rw [ha.good.len2, hyn]
  have b1 : pg x.n ≤ 68 := pg_le hhi
  have b2 : pg (pg x.n) ≤ 2 := by unfold pg at b1 ⊢; omega
  have hs := ha.sound h.sd.first
  have f1 := ha.good.fl1
  have f2 := ha.good.fl2
  refine ⟨ht, r1, r3, t1, t2, by omega, hd, hd', fun a hm => ?_, fun i hi => ?_, fun i hi => ?_, done_few' (by omega), done_few' (by omega), by omega⟩
  · obtain ⟨i, hi, rfl⟩ := List.mem_iff_getElem.1 hm
    have := (hs.one i (by rw [List.length_append]; omega)).2.1
    rw [getD_app1 _ _ _ hi, List.getD_eq_getElem?_getD, List.getElem?_eq_getElem hi] at this
    have e : (Q.keep y.q).s.n = x.n := hyn
    have : y.l1[i] < x.n := by rw [← e]; exact this
    omega
  · have := ha.in1 hi
    rw [hyn]
    omega
  · have := ha.in2 hi
    refine ⟨this, ?_⟩
    rw [e2] at this
    rw [e1]
    generalize pg x.n = p at *
    unfold pg at this
    omega
/-- What lies apart has turned. -/
theorem BAt.apart {Pr : Nat → Prop} {w w' : World} {A : Adr} {x : BS} (h : BAt Pr w A x) {X : Nat} {T : TypeId} {vs : List Value} (hr : RowV w X T vs) (k : ButL w w' [X]) (hT : T ≠ 72 ∧ T ≠ 34 ∧ T ≠ 235 ∧ T ≠ 3 ∧ T ≠ 5 ∧ T ≠ 246 ∧ dT T = false) : BAt Pr w' A x := by
  obtain ⟨t1, t2, t3, t4, t5, t6, t7⟩ := hT
  have hrr : w.heap[X]? = some (.cells vs.toArray T (0, 0)) := hr
  obtain ⟨s1, e1, s2, e2, h1, _⟩ := h.row
  obtain ⟨es, cl, hm⟩ := h.fm.map
  obtain ⟨spc, hcb⟩ := h.pat.tally.nums
  obtain ⟨nn, D, ⟨es2, cl2, ho, _⟩, _⟩ := h.pat.tally.mp
  refine h.keep k.size (fun j hj => k.block j (h.list_lt j hj) ?_) (fun j cs t fr e ht => k.block j (lt_of_heap e) ?_)
  · simp only [List.mem_singleton]
    rintro rfl
    simp only [Adr.list, List.mem_cons, List.not_mem_nil, or_false] at hj
    rcases hj with e | e | e | e | e
    · exact row_ne hr h1 t1 e
    · exact row_ne hr hcb t2 e
    · exact map_ne hr ho e
    · exact row_ne hr h.pat.row t3 e
    · exact map_ne hr hm e
  · simp only [List.mem_singleton]
    rintro rfl
    rw [hrr] at e
    cases e
    rcases ht with e | e | e | e
    · exact t4 e
    · exact t5 e
    · exact t6 e
    · rw [t7] at e; cases e
theorem Src.apart {v v' : World} {ta cb mb c : Nat} {s : Tl.St} {g1 d1 g3 d3 c1 c2 : Nat} {A1 A2 : Option Addr} {m1 m2 k1 k2 : List Nat} (h : Src v ta cb mb c s g1 d1 g3 d3 c1 c2 A1 A2 m1 m2 k1 k2) {X : Nat} {T : TypeId} {vs : List Value} (hr : RowV v X T vs) (hv : ∀ u ∈ vs, ∀ z, u ≠ .int .i64 z) (k : ButL v v' [X]) (hT : T ≠ 34 ∧ T ≠ 3 ∧ T ≠ 246) : Src v' ta cb mb c s g1 d1 g3 d3 c1 c2 A1 A2 m1 m2 k1 k2 := by
  obtain ⟨t1, t2, t3⟩ := hT
  obtain ⟨spc, hcb⟩ := h.ht.nums
  obtain ⟨nn, D, ⟨es2, cl2, ho, _⟩, _⟩ := h.ht.mp
  have row : ∀ {g : Nat} {U : TypeId} {us : List Value}, RowV v g U us → T ≠ U → v'.heap[g]? = v.heap[g]? := fun {g U us} hg ht => k.block g hg.lt (by simpa using fun e => row_ne hr hg ht e.symm)
  exact ⟨h.ht.blocks (row h.ht.row t3) (row hcb t1) (k.block _ (lt_of_heap ho) (by simpa using fun e => map_ne hr ho e.symm)), h.r1.imp fun _ r => r.block (row r t2), h.r3.imp fun _ r => r.block (row r t2), told_rows h.t1 hr hv k, told_rows h.t2 hr hv k, h.hm, h.hd1, h.hd1m, h.hm64, h.hk1, h.hk2, h.hl1, h.hl2, h.hm2⟩
theorem below_zero {w w' : World} {L : List Nat} (h : ButL w w' L) : Below 0 w w' := ⟨h.os, h.tape, h.output, h.size, fun k hk => absurd hk (Nat.not_lt_zero k)⟩
set_option maxHeartbeats 2000000 in
theorem settle_base {Pr : Nat → Prop} {w : World} {A : Adr} {x : BS} (h : BAt Pr w A x) (hg : Good x) :
    Calls Tryz.prog 85 #[.pointer (some ⟨A.b, 0, none⟩)] w (SettleOut Pr w A x) := by
  have HG := Lib.hid hg
  have hz := layout_zero
  have r0 := alloc_rowV w 160 [.slice none 0 0, .slice none 0 0, .slice none 0 0, .slice none 0 0]
  have b0 := (Below.refl w.heap.size w).alloc (Nat.le_refl _) (.cells #[.slice none 0 0, .slice none 0 0, .slice none 0 0, .slice none 0 0] 160)
  have H1 := Lib.hid (h.below b0)
  have HLT := Lib.hid h.list_lt
  go_enter Tryz.func85, Tryz.ntmps85
  go_upto_region 1 with (fail)
  obtain ⟨X, hX⟩ : ∃ X, X = w.heap.size := ⟨_, rfl⟩
  have R0 := Lib.hid r0
  have HB0 := Lib.hid b0
  rw [← hX] at R0 ⊢
  have HX1 := Lib.hid hX
  clear hz r0 b0 hX h hg
  simp only [List.toArray] at *
  generalize w.alloc (.cells #[.slice none 0 0, .slice none 0 0, .slice none 0 0, .slice none 0 0] 160) = w1 at *
  have c1 := H1.out.c1
  go_wp2_with fail
  refine (Tl.list_at H1.out.pat.tally).mono ?_
  rintro e w2 ⟨v, rfl, ⟨AL, cl, rfl, _⟩, kz⟩
  have H2 := Lib.hid (H1.out.below kz)
  have HB2 := Lib.hid (HB0.out.trans (kz.mono HB0.out.size))
  have R2 := Lib.hid (R0.out.below R0.out.lt kz)
  obtain ⟨s1, d1, s2, d2, hrow, hr1, hr2⟩ := H2.out.row
  have HR := Lib.hid (And.intro hrow (And.intro hr1 hr2))
  clear c1 kz R0 H1 HB0 hrow hr1 hr2
  obtain ⟨m, hm⟩ : ∃ m, m = x.q.s.changed.length := ⟨_, rfl⟩
  have HM := Lib.hid hm
  rw [← hm]
  clear hm
  by_cases h0 : m = 0
  · subst h0
    have f0 := R2.out.free 0
    have f1 := R2.out.free 1
    have f2 := R2.out.free 2
    have f3 := R2.out.free 3
    have p0 := R2.out.cellAt (i := 0) rfl
    have hrw := HR.out.1
    have q3 := hrw.cellAt (bc3 ..)
    have q4 := hrw.cellAt (bc4 ..)
    have p1 := R2.out.cellAt (i := 1) rfl
    have p2 := R2.out.cellAt (i := 2) rfl
    have p3 := R2.out.cellAt (i := 3) rfl
    clear hrw
    go_wp2_with fail
    have HA4 := Lib.hid ((((R2.out.set 0 (.slice (some ⟨s1, 0, none⟩) x.l1.length d1)).set 1 (.slice (some ⟨s2, 0, none⟩) x.l2.length d2)).set 2 (.slice none 0 0)).set 3 (.slice none 0 0))
    have HU := Lib.hid ((((ButL.set w2 X 0 (.slice (some ⟨s1, 0, none⟩) x.l1.length d1)).trans (ButL.set _ X 1 (.slice (some ⟨s2, 0, none⟩) x.l2.length d2))).trans (ButL.set _ X 2 (.slice none 0 0))).trans (ButL.set _ X 3 (.slice none 0 0)))
    generalize (((w2.setCell ⟨X, 0, none⟩ (.slice (some ⟨s1, 0, none⟩) x.l1.length d1)).setCell ⟨X, 1, none⟩ (.slice (some ⟨s2, 0, none⟩) x.l2.length d2)).setCell ⟨X, 2, none⟩ (.slice none 0 0)).setCell ⟨X, 3, none⟩ (.slice none 0 0) = w3 at *
    have z0 := HA4.out.cellAt (i := 0) rfl
    have z1 := HA4.out.cellAt (i := 1) rfl
    have z2 := HA4.out.cellAt (i := 2) rfl
    have z3 := HA4.out.cellAt (i := 3) rfl
    have HCN := Lib.hid (show x.q.s.changed = [] from List.eq_nil_of_length_eq_zero HM.out.symm)
    have hd : doneL (Pl.begin x.q x.l1 x.l2).f1 = [] ∧ doneL (Pl.begin x.q x.l1 x.l2).f2 = [] := cbegin_done
    have HD := Lib.hid hd
    clear hd q3 q4 p0 p1 p2 p3 f0 f1 f2 f3
    refine bodyPost_ret (v := .tuple #[.agg (lval s1 x.l1.length d1 s2 x.l2.length d2 none 0 (doneL (Pl.begin x.q x.l1 x.l2).f1).length none 0 (doneL (Pl.begin x.q x.l1 x.l2).f2).length).toArray, .int .i64 0]) ?_ rfl ?_
    · rw [results_cell_tmp rfl, HD.out.1, HD.out.2]
      unfold lval
      go_simp
    · have hruns : (Pl.begin x.q x.l1 x.l2).Runs (Pl.begin x.q x.l1 x.l2) := .done (HG.out.sd.cend HCN.out)
      have HAT := H2.out.apart R2.out HU.out (by decide)
      have hsrc : Src w2 A.ta A.cb A.mb A.c x.q.s s1 d1 s2 d2 0 0 none none x.l1 x.l2 (doneL (Pl.begin x.q x.l1 x.l2).f1) (doneL (Pl.begin x.q x.l1 x.l2).f2) := Com.src HG.out hruns H2.out.pat.tally HR.out.2.1 HR.out.2.2 (by rw [HD.out.1]; exact .inl rfl) (by rw [HD.out.2]; exact .inl rfl) (fun e => absurd HD.out.2 e) (fun e => absurd HD.out.2 e)
      refine ⟨Pl.begin x.q x.l1 x.l2, s1, d1, s2, d2, 0, 0, none, none, rfl, hruns, HAT, hsrc.apart R2.out (by simp) HU.out (by decide), ?_⟩
      refine ((ButL.of_below [A.cb, A.mb, A.p] HB2.out (Nat.le_refl _)).join HU.out fun z hz => ?_)
      simp only [List.mem_cons, List.not_mem_nil, or_false] at hz
      have := HX1.out
      exact .inr (by omega)
  · have h0i : ¬ ((m : Int) = 0) := by omega
    have h0b : ((m : Int) == 0) = false := by simpa using h0
    go_upto_region 3 with (fail)
    refine Inv2.wp_region_inv (fun b a wy => ∃ (z : Nat → Value) (z28 : Value) (z29 : Value), a = ⟨(List.toArray (Value.pointer (some ⟨A.b, 0, none⟩) :: undef :: Value.pointer (some ⟨X, 0, none⟩) :: (z 3) :: Value.pointer (some ⟨A.b, 0, none⟩) :: Value.pointer (some ⟨A.b, 0, none⟩) :: Value.pointer (some ⟨A.b, 1, none⟩) :: Value.pointer (some ⟨A.ta, 0, none⟩) :: Value.slice AL m cl :: Value.int IntKind.i64 ↑m :: Value.bool false :: undef :: undef :: undef :: undef :: undef :: (z 16) :: (z 17) :: (z 18) :: (z 19) :: (z 20) :: (z 21) :: (z 22) :: (z 23) :: (z 24) :: (z 25) :: (z 26) :: (z 27) :: z28 :: z29 :: (z 30) :: [])), []⟩ ∧ Hid ((b 0 = true → (z 16) = Value.pointer (some ⟨A.b, 0, none⟩)) ∧ (b 1 = true → (z 17) = .pointer (some ⟨A.b, 0, none⟩)) ∧ (b 2 = true → (z 18) = .pointer (some ⟨A.b, 1, none⟩)) ∧ (b 3 = true → (z 19) = .pointer (some ⟨A.ta, 0, none⟩)) ∧ (b 4 = true → (z 20) = Value.pointer (some ⟨A.b, 0, none⟩)) ∧ (b 5 = true → (z 21) = .pointer (some ⟨A.b, 0, none⟩)) ∧ (b 6 = true → (z 22) = .pointer (some ⟨A.b, 2, none⟩)) ∧ (b 7 = true → (z 23) = .pointer (some ⟨A.p, 0, none⟩)) ∧ (b 8 = true → (z 24) = Value.pointer (some ⟨A.b, 0, none⟩)) ∧ (b 9 = true → (z 25) = .pointer (some ⟨A.b, 0, none⟩)) ∧ (b 10 = true → (z 26) = .pointer (some ⟨A.b, 3, none⟩)) ∧ (b 11 = true → (z 27) = .agg #[.slice (some ⟨s1, 0, none⟩) x.l1.length d1, .slice (some ⟨s2, 0, none⟩) x.l2.length d2]) ∧ (b 14 = true → (z 30) = .int .i64 0) ∧ (b 16 = true → (z 3) = .int .i64 0)) ∧ Hid (Below 0 w2 wy) ∧ Hid ((b 12 = true → b 3 = true ∧ b 7 = true ∧ b 11 = true) ∧ (b 12 = false → BAt Pr wy A x ∧ Below w2.heap.size w2 wy ∧ RowV wy X 160 [.slice none 0 0, .slice none 0 0, .slice none 0 0, .slice none 0 0]) ∧ (b 15 = true → b 13 = true) ∧ (b 13 = true → b 12 = true) ∧ (b 12 = true → ∃ (y : Wk) (g1 e1 g3 e3 c1 c2 : Nat) (A1 A2 : Option Addr), z28 = .tuple #[.agg #[.slice (some ⟨g1, 0, none⟩) x.l1.length e1, .slice (some ⟨g3, 0, none⟩) x.l2.length e3, .slice A1 (doneL y.f1).length c1, .slice A2 (doneL y.f2).length c2], .int .i64 0] ∧ (b 13 = true → z29 = .agg #[.slice (some ⟨g1, 0, none⟩) x.l1.length e1, .slice (some ⟨g3, 0, none⟩) x.l2.length e3, .slice A1 (doneL y.f1).length c1, .slice A2 (doneL y.f2).length c2]) ∧ (Pl.begin x.q x.l1 x.l2).Runs y ∧ BAt Pr wy A (x.setQ y.q) ∧ Src wy A.ta A.cb A.mb A.c y.q.s g1 e1 g3 e3 c1 c2 A1 A2 y.l1 y.l2 (doneL y.f1) (doneL y.f2) ∧ ButL w2 wy [A.cb, A.mb, A.p, X] ∧ (b 15 = false → RowV wy X 160 [.slice none 0 0, .slice none 0 0, .slice none 0 0, .slice none 0 0]) ∧ (b 15 = true → RowV wy X 160 [.slice (some ⟨g1, 0, none⟩) x.l1.length e1, .slice (some ⟨g3, 0, none⟩) x.l2.length e3, .slice A1 (doneL y.f1).length c1, .slice A2 (doneL y.f2).length c2])))) (by kernel_rfl) (by kernel_rfl) ?startN ?stepsN ?doneN
    case startN =>
      intro b hb
      refine ⟨fun s => if s = 3 then Value.int IntKind.i64 0 else undef, undef, undef, rfl, Lib.hid ⟨?_, ?_, ?_, ?_, ?_, ?_, ?_, ?_, ?_, ?_, ?_, ?_, ?_, ?_⟩, Lib.hid ((show Still w2 w2.drew from ⟨rfl, rfl, rfl, rfl⟩).below _), Lib.hid (⟨(fun e => absurd (e.symm.trans (hb 12 (by decide))) (by decide)), fun _ => ⟨H2.out.still ⟨rfl, rfl, rfl, rfl⟩, ((show Still w2 w2.drew from ⟨rfl, rfl, rfl, rfl⟩).below _), R2.out.below R2.out.lt ((show Still w2 w2.drew from ⟨rfl, rfl, rfl, rfl⟩).below _)⟩, (fun e => absurd (e.symm.trans (hb 15 (by decide))) (by decide)), (fun e => absurd (e.symm.trans (hb 13 (by decide))) (by decide)), (fun e => absurd (e.symm.trans (hb 12 (by decide))) (by decide))⟩)⟩
      all_goals (intro e; first | rfl | (rw [hb _ (by decide)] at e; cases e))
    case stepsN =>
      refine ⟨?_, ?_, ?_, ?_, ?_, ?_, ?_, ?_, ?_, ?_, ?_, ?_, ?_, ?_, ?_, ?_, ?_, trivial⟩
      · rintro b a wy hb hd ⟨z, z28, z29, rfl, HV, HW, HX⟩ K hK
        clear hd
        go_simp
        have V := HV.out
        exact hK _ _ ⟨fun s => if s = 16 then Value.pointer (some ⟨A.b, 0, none⟩) else z s, _, _, rfl, Lib.hid ⟨fun _ => rfl, V.2.1, V.2.2.1, V.2.2.2.1, V.2.2.2.2.1, V.2.2.2.2.2.1, V.2.2.2.2.2.2.1, V.2.2.2.2.2.2.2.1, V.2.2.2.2.2.2.2.2.1, V.2.2.2.2.2.2.2.2.2.1, V.2.2.2.2.2.2.2.2.2.2.1, V.2.2.2.2.2.2.2.2.2.2.2.1, V.2.2.2.2.2.2.2.2.2.2.2.2.1, V.2.2.2.2.2.2.2.2.2.2.2.2.2⟩, HW, HX⟩
      · rintro b a wy hb hd ⟨z, z28, z29, rfl, HV, HW, HX⟩ K hK
        simp [Region.binds] at hd
        have e0 : (z 16) = Value.pointer (some ⟨A.b, 0, none⟩) := (HV.out.1) (by simp [hd])
        clear hd
        go_simp
        have V := HV.out
        exact hK _ _ ⟨fun s => if s = 17 then .pointer (some ⟨A.b, 0, none⟩) else if s = 16 then Value.pointer (some ⟨A.b, 0, none⟩) else z s, _, _, rfl, Lib.hid ⟨fun _ => rfl, fun _ => rfl, V.2.2.1, V.2.2.2.1, V.2.2.2.2.1, V.2.2.2.2.2.1, V.2.2.2.2.2.2.1, V.2.2.2.2.2.2.2.1, V.2.2.2.2.2.2.2.2.1, V.2.2.2.2.2.2.2.2.2.1, V.2.2.2.2.2.2.2.2.2.2.1, V.2.2.2.2.2.2.2.2.2.2.2.1, V.2.2.2.2.2.2.2.2.2.2.2.2.1, V.2.2.2.2.2.2.2.2.2.2.2.2.2⟩, HW, HX⟩
      · rintro b a wy hb hd ⟨z, z28, z29, rfl, HV, HW, HX⟩ K hK
        simp [Region.binds] at hd
        have e1 : (z 17) = .pointer (some ⟨A.b, 0, none⟩) := (HV.out.2.1) (by simp [hd])
        clear hd
        go_simp
        have V := HV.out
        exact hK _ _ ⟨fun s => if s = 18 then .pointer (some ⟨A.b, 1, none⟩) else if s = 17 then .pointer (some ⟨A.b, 0, none⟩) else z s, _, _, rfl, Lib.hid ⟨V.1, fun _ => rfl, fun _ => rfl, V.2.2.2.1, V.2.2.2.2.1, V.2.2.2.2.2.1, V.2.2.2.2.2.2.1, V.2.2.2.2.2.2.2.1, V.2.2.2.2.2.2.2.2.1, V.2.2.2.2.2.2.2.2.2.1, V.2.2.2.2.2.2.2.2.2.2.1, V.2.2.2.2.2.2.2.2.2.2.2.1, V.2.2.2.2.2.2.2.2.2.2.2.2.1, V.2.2.2.2.2.2.2.2.2.2.2.2.2⟩, HW, HX⟩
      · rintro b a wy hb hd ⟨z, z28, z29, rfl, HV, HW, HX⟩ K hK
        simp [Region.binds] at hd
        have e2 : (z 18) = .pointer (some ⟨A.b, 1, none⟩) := (HV.out.2.2.1) (by simp [hd])
        clear hd
        have n12 : b 12 = false := by rcases hB : b 12 with _ | _; (· rfl); (· exact absurd (HX.out.1 hB).1 (by rw [hb]; decide))
        have q1 := (HX.out.2.1 n12).1.c1
        go_simp
        have V := HV.out
        exact hK _ _ ⟨fun s => if s = 19 then .pointer (some ⟨A.ta, 0, none⟩) else if s = 18 then .pointer (some ⟨A.b, 1, none⟩) else z s, _, _, rfl, Lib.hid ⟨V.1, V.2.1, fun _ => rfl, fun _ => rfl, V.2.2.2.2.1, V.2.2.2.2.2.1, V.2.2.2.2.2.2.1, V.2.2.2.2.2.2.2.1, V.2.2.2.2.2.2.2.2.1, V.2.2.2.2.2.2.2.2.2.1, V.2.2.2.2.2.2.2.2.2.2.1, V.2.2.2.2.2.2.2.2.2.2.2.1, V.2.2.2.2.2.2.2.2.2.2.2.2.1, V.2.2.2.2.2.2.2.2.2.2.2.2.2⟩, HW, Lib.hid ⟨fun e => absurd (n12.symm.trans (show b 12 = true from e)) (by decide), HX.out.2⟩⟩
      · rintro b a wy hb hd ⟨z, z28, z29, rfl, HV, HW, HX⟩ K hK
        clear hd
        go_simp
        have V := HV.out
        exact hK _ _ ⟨fun s => if s = 20 then Value.pointer (some ⟨A.b, 0, none⟩) else z s, _, _, rfl, Lib.hid ⟨V.1, V.2.1, V.2.2.1, V.2.2.2.1, fun _ => rfl, V.2.2.2.2.2.1, V.2.2.2.2.2.2.1, V.2.2.2.2.2.2.2.1, V.2.2.2.2.2.2.2.2.1, V.2.2.2.2.2.2.2.2.2.1, V.2.2.2.2.2.2.2.2.2.2.1, V.2.2.2.2.2.2.2.2.2.2.2.1, V.2.2.2.2.2.2.2.2.2.2.2.2.1, V.2.2.2.2.2.2.2.2.2.2.2.2.2⟩, HW, HX⟩
      · rintro b a wy hb hd ⟨z, z28, z29, rfl, HV, HW, HX⟩ K hK
        simp [Region.binds] at hd
        have e4 : (z 20) = Value.pointer (some ⟨A.b, 0, none⟩) := (HV.out.2.2.2.2.1) (by simp [hd])
        clear hd
        go_simp
        have V := HV.out
        exact hK _ _ ⟨fun s => if s = 21 then .pointer (some ⟨A.b, 0, none⟩) else if s = 20 then Value.pointer (some ⟨A.b, 0, none⟩) else z s, _, _, rfl, Lib.hid ⟨V.1, V.2.1, V.2.2.1, V.2.2.2.1, fun _ => rfl, fun _ => rfl, V.2.2.2.2.2.2.1, V.2.2.2.2.2.2.2.1, V.2.2.2.2.2.2.2.2.1, V.2.2.2.2.2.2.2.2.2.1, V.2.2.2.2.2.2.2.2.2.2.1, V.2.2.2.2.2.2.2.2.2.2.2.1, V.2.2.2.2.2.2.2.2.2.2.2.2.1, V.2.2.2.2.2.2.2.2.2.2.2.2.2⟩, HW, HX⟩
      · rintro b a wy hb hd ⟨z, z28, z29, rfl, HV, HW, HX⟩ K hK
        simp [Region.binds] at hd
        have e5 : (z 21) = .pointer (some ⟨A.b, 0, none⟩) := (HV.out.2.2.2.2.2.1) (by simp [hd])
        clear hd
        go_simp
        have V := HV.out
        exact hK _ _ ⟨fun s => if s = 22 then .pointer (some ⟨A.b, 2, none⟩) else if s = 21 then .pointer (some ⟨A.b, 0, none⟩) else z s, _, _, rfl, Lib.hid ⟨V.1, V.2.1, V.2.2.1, V.2.2.2.1, V.2.2.2.2.1, fun _ => rfl, fun _ => rfl, V.2.2.2.2.2.2.2.1, V.2.2.2.2.2.2.2.2.1, V.2.2.2.2.2.2.2.2.2.1, V.2.2.2.2.2.2.2.2.2.2.1, V.2.2.2.2.2.2.2.2.2.2.2.1, V.2.2.2.2.2.2.2.2.2.2.2.2.1, V.2.2.2.2.2.2.2.2.2.2.2.2.2⟩, HW, HX⟩
      · rintro b a wy hb hd ⟨z, z28, z29, rfl, HV, HW, HX⟩ K hK
        simp [Region.binds] at hd
        have e6 : (z 22) = .pointer (some ⟨A.b, 2, none⟩) := (HV.out.2.2.2.2.2.2.1) (by simp [hd])
        clear hd
        have n12 : b 12 = false := by rcases hB : b 12 with _ | _; (· rfl); (· exact absurd (HX.out.1 hB).2.1 (by rw [hb]; decide))
        have q1 := (HX.out.2.1 n12).1.c2
        go_simp
        have V := HV.out
        exact hK _ _ ⟨fun s => if s = 23 then .pointer (some ⟨A.p, 0, none⟩) else if s = 22 then .pointer (some ⟨A.b, 2, none⟩) else z s, _, _, rfl, Lib.hid ⟨V.1, V.2.1, V.2.2.1, V.2.2.2.1, V.2.2.2.2.1, V.2.2.2.2.2.1, fun _ => rfl, fun _ => rfl, V.2.2.2.2.2.2.2.2.1, V.2.2.2.2.2.2.2.2.2.1, V.2.2.2.2.2.2.2.2.2.2.1, V.2.2.2.2.2.2.2.2.2.2.2.1, V.2.2.2.2.2.2.2.2.2.2.2.2.1, V.2.2.2.2.2.2.2.2.2.2.2.2.2⟩, HW, Lib.hid ⟨fun e => absurd (n12.symm.trans (show b 12 = true from e)) (by decide), HX.out.2⟩⟩
      · rintro b a wy hb hd ⟨z, z28, z29, rfl, HV, HW, HX⟩ K hK
        clear hd
        go_simp
        have V := HV.out
        exact hK _ _ ⟨fun s => if s = 24 then Value.pointer (some ⟨A.b, 0, none⟩) else z s, _, _, rfl, Lib.hid ⟨V.1, V.2.1, V.2.2.1, V.2.2.2.1, V.2.2.2.2.1, V.2.2.2.2.2.1, V.2.2.2.2.2.2.1, V.2.2.2.2.2.2.2.1, fun _ => rfl, V.2.2.2.2.2.2.2.2.2.1, V.2.2.2.2.2.2.2.2.2.2.1, V.2.2.2.2.2.2.2.2.2.2.2.1, V.2.2.2.2.2.2.2.2.2.2.2.2.1, V.2.2.2.2.2.2.2.2.2.2.2.2.2⟩, HW, HX⟩
      · rintro b a wy hb hd ⟨z, z28, z29, rfl, HV, HW, HX⟩ K hK
        simp [Region.binds] at hd
        have e8 : (z 24) = Value.pointer (some ⟨A.b, 0, none⟩) := (HV.out.2.2.2.2.2.2.2.2.1) (by simp [hd])
        clear hd
        go_simp
        have V := HV.out
        exact hK _ _ ⟨fun s => if s = 25 then .pointer (some ⟨A.b, 0, none⟩) else if s = 24 then Value.pointer (some ⟨A.b, 0, none⟩) else z s, _, _, rfl, Lib.hid ⟨V.1, V.2.1, V.2.2.1, V.2.2.2.1, V.2.2.2.2.1, V.2.2.2.2.2.1, V.2.2.2.2.2.2.1, V.2.2.2.2.2.2.2.1, fun _ => rfl, fun _ => rfl, V.2.2.2.2.2.2.2.2.2.2.1, V.2.2.2.2.2.2.2.2.2.2.2.1, V.2.2.2.2.2.2.2.2.2.2.2.2.1, V.2.2.2.2.2.2.2.2.2.2.2.2.2⟩, HW, HX⟩
      · rintro b a wy hb hd ⟨z, z28, z29, rfl, HV, HW, HX⟩ K hK
        simp [Region.binds] at hd
        have e9 : (z 25) = .pointer (some ⟨A.b, 0, none⟩) := (HV.out.2.2.2.2.2.2.2.2.2.1) (by simp [hd])
        clear hd
        go_simp
        have V := HV.out
        exact hK _ _ ⟨fun s => if s = 26 then .pointer (some ⟨A.b, 3, none⟩) else if s = 25 then .pointer (some ⟨A.b, 0, none⟩) else z s, _, _, rfl, Lib.hid ⟨V.1, V.2.1, V.2.2.1, V.2.2.2.1, V.2.2.2.2.1, V.2.2.2.2.2.1, V.2.2.2.2.2.2.1, V.2.2.2.2.2.2.2.1, V.2.2.2.2.2.2.2.2.1, fun _ => rfl, fun _ => rfl, V.2.2.2.2.2.2.2.2.2.2.2.1, V.2.2.2.2.2.2.2.2.2.2.2.2.1, V.2.2.2.2.2.2.2.2.2.2.2.2.2⟩, HW, HX⟩
      · rintro b a wy hb hd ⟨z, z28, z29, rfl, HV, HW, HX⟩ K hK
        simp [Region.binds] at hd
        have e10 : (z 26) = .pointer (some ⟨A.b, 3, none⟩) := (HV.out.2.2.2.2.2.2.2.2.2.2.1) (by simp [hd])
        clear hd
        have n12 : b 12 = false := by rcases hB : b 12 with _ | _; (· rfl); (· exact absurd (HX.out.1 hB).2.2 (by rw [hb]; decide))
        have hrw := HR.out.1.below HR.out.1.lt (HX.out.2.1 n12).2.1
        have q1 := hrw.cellAt (bc3 ..)
        have q2 := hrw.cellAt (bc4 ..)
        clear hrw
        go_simp
        have V := HV.out
        exact hK _ _ ⟨fun s => if s = 27 then .agg #[.slice (some ⟨s1, 0, none⟩) x.l1.length d1, .slice (some ⟨s2, 0, none⟩) x.l2.length d2] else if s = 26 then .pointer (some ⟨A.b, 3, none⟩) else z s, _, _, rfl, Lib.hid ⟨V.1, V.2.1, V.2.2.1, V.2.2.2.1, V.2.2.2.2.1, V.2.2.2.2.2.1, V.2.2.2.2.2.2.1, V.2.2.2.2.2.2.2.1, V.2.2.2.2.2.2.2.2.1, V.2.2.2.2.2.2.2.2.2.1, fun _ => rfl, fun _ => rfl, V.2.2.2.2.2.2.2.2.2.2.2.2.1, V.2.2.2.2.2.2.2.2.2.2.2.2.2⟩, HW, Lib.hid ⟨fun e => absurd (n12.symm.trans (show b 12 = true from e)) (by decide), HX.out.2⟩⟩
      · rintro b a wy hb hd ⟨z, z28, z29, rfl, HV, HW, HX⟩ K hK
        simp [Region.binds] at hd
        have e3 : (z 19) = .pointer (some ⟨A.ta, 0, none⟩) := (HV.out.2.2.2.1) (by simp [hd])
        have e7 : (z 23) = .pointer (some ⟨A.p, 0, none⟩) := (HV.out.2.2.2.2.2.2.2.1) (by simp [hd])
        have e11 : (z 27) = .agg #[.slice (some ⟨s1, 0, none⟩) x.l1.length d1, .slice (some ⟨s2, 0, none⟩) x.l2.length d2] := (HV.out.2.2.2.2.2.2.2.2.2.2.2.1) (by simp [hd])
        have k3 : b 3 = true := by simp [hd]
        have k7 : b 7 = true := by simp [hd]
        have k11 : b 11 = true := by simp [hd]
        have HKK := Lib.hid (And.intro k3 (And.intro k7 k11))
        clear k3 k7 k11
        clear hd
        go_simp
        go_at_call 109
        refine (settle_yes (HX.out.2.1 hb).1.pat (has_told (HR.out.2.1.imp fun _ r => r.below r.lt (HX.out.2.1 hb).2.1)) (has_told (HR.out.2.2.imp fun _ r => r.below r.lt (HX.out.2.1 hb).2.1)) HG.out.sd.right HG.out.room).mono ?_
        rintro e wz ⟨y, g1, e1, g3, e3, c1, c2, A1, A2, rfl, hruns, hp, hr1, hr3, t1, t2, hlo, hlo3, hbb⟩
        try go_simp
        have fx := PAt.off (HX.out.2.1 hb).1.pat (HX.out.2.1 hb).2.2 (by decide) (by decide) (by decide)
        have hX4 := (HX.out.2.1 hb).2.2.block (hbb.block X (HX.out.2.1 hb).2.2.lt (by simp; exact ⟨fx.2.2.1, fx.2.2.2, fx.1⟩))
        have hlen := (HG.out.sd.anew HG.out.room hruns).len1
        have V := HV.out
        exact hK _ _ ⟨fun s => if s = 19 then .pointer (some ⟨A.ta, 0, none⟩) else if s = 23 then .pointer (some ⟨A.p, 0, none⟩) else if s = 27 then .agg #[.slice (some ⟨s1, 0, none⟩) x.l1.length d1, .slice (some ⟨s2, 0, none⟩) x.l2.length d2] else z s, _, _, rfl, Lib.hid ⟨V.1, V.2.1, V.2.2.1, fun _ => rfl, V.2.2.2.2.1, V.2.2.2.2.2.1, V.2.2.2.2.2.2.1, fun _ => rfl, V.2.2.2.2.2.2.2.2.1, V.2.2.2.2.2.2.2.2.2.1, V.2.2.2.2.2.2.2.2.2.2.1, fun _ => rfl, V.2.2.2.2.2.2.2.2.2.2.2.2.1, V.2.2.2.2.2.2.2.2.2.2.2.2.2⟩, Lib.hid (HW.out.trans (below_zero hbb)), Lib.hid ⟨fun _ => HKK.out, fun e => (by cases e), HX.out.2.2.1, fun _ => rfl, fun _ => ⟨y, g1, e1, g3, e3, c1, c2, A1, A2, rfl, fun e => absurd (HX.out.2.2.2.1 e) (by rw [hb]; decide), hruns, (HX.out.2.1 hb).1.turnL hp hbb, Com.src HG.out hruns hp.tally hr1 hr3 t1 t2 (fun _ => by rw [hlen]; exact hlo.2.1) (fun _ => hlo.2.2), (ButL.of_below _ (HX.out.2.1 hb).2.1 (Nat.le_refl _)).trans (hbb.mono (M := [A.cb, A.mb, A.p, X]) (by simp)), fun _ => hX4, fun e => absurd (HX.out.2.2.2.1 (HX.out.2.2.1 e)) (by rw [hb]; decide)⟩⟩⟩
      · rintro b a wy hb hd ⟨z, z28, z29, rfl, HV, HW, HX⟩ K hK
        simp [Region.binds] at hd
        have dd12 : b 12 = true := by simp [hd]
        clear hd
        obtain ⟨y, g1, e1, g3, e3, c1, c2, A1, A2, rfl, kk⟩ := HX.out.2.2.2.2 dd12
        have HK := Lib.hid kk
        clear kk
        go_simp
        have V := HV.out
        exact hK _ _ ⟨fun s => z s, _, _, rfl, Lib.hid ⟨V.1, V.2.1, V.2.2.1, V.2.2.2.1, V.2.2.2.2.1, V.2.2.2.2.2.1, V.2.2.2.2.2.2.1, V.2.2.2.2.2.2.2.1, V.2.2.2.2.2.2.2.2.1, V.2.2.2.2.2.2.2.2.2.1, V.2.2.2.2.2.2.2.2.2.2.1, V.2.2.2.2.2.2.2.2.2.2.2.1, V.2.2.2.2.2.2.2.2.2.2.2.2.1, V.2.2.2.2.2.2.2.2.2.2.2.2.2⟩, HW, Lib.hid ⟨HX.out.1, HX.out.2.1, fun _ => rfl, fun _ => dd12, fun _ => ⟨y, g1, e1, g3, e3, c1, c2, A1, A2, rfl, fun _ => rfl, HK.out.2⟩⟩⟩
      · rintro b a wy hb hd ⟨z, z28, z29, rfl, HV, HW, HX⟩ K hK
        simp [Region.binds] at hd
        have dd12 : b 12 = true := by simp [hd]
        clear hd
        obtain ⟨y, g1, e1, g3, e3, c1, c2, A1, A2, rfl, kk⟩ := HX.out.2.2.2.2 dd12
        clear kk
        go_simp
        have V := HV.out
        exact hK _ _ ⟨fun s => if s = 30 then .int .i64 0 else z s, _, _, rfl, Lib.hid ⟨V.1, V.2.1, V.2.2.1, V.2.2.2.1, V.2.2.2.2.1, V.2.2.2.2.2.1, V.2.2.2.2.2.2.1, V.2.2.2.2.2.2.2.1, V.2.2.2.2.2.2.2.2.1, V.2.2.2.2.2.2.2.2.2.1, V.2.2.2.2.2.2.2.2.2.2.1, V.2.2.2.2.2.2.2.2.2.2.2.1, fun _ => rfl, V.2.2.2.2.2.2.2.2.2.2.2.2.2⟩, HW, HX⟩
      · rintro b a wy hb hd ⟨z, z28, z29, rfl, HV, HW, HX⟩ K hK
        simp [Region.binds] at hd
        have dd13 : b 13 = true := by simp [hd]
        clear hd
        have HDD := Lib.hid dd13
        obtain ⟨y, g1, e1, g3, e3, c1, c2, A1, A2, rfl, kk⟩ := HX.out.2.2.2.2 (HX.out.2.2.2.1 dd13)
        have HK := Lib.hid kk
        clear kk
        obtain rfl := HK.out.1 dd13
        have hr := HK.out.2.2.2.2.2.1 hb
        have q0 := hr.cellAt (i := 0) rfl
        have q1 := hr.cellAt (i := 1) rfl
        have q2 := hr.cellAt (i := 2) rfl
        have q3 := hr.cellAt (i := 3) rfl
        have f0 := hr.free 0
        have f1 := hr.free 1
        have f2 := hr.free 2
        have f3 := hr.free 3
        have HA4 := Lib.hid ((((hr.set 0 (.slice (some ⟨g1, 0, none⟩) x.l1.length e1)).set 1 (.slice (some ⟨g3, 0, none⟩) x.l2.length e3)).set 2 (.slice A1 (doneL y.f1).length c1)).set 3 (.slice A2 (doneL y.f2).length c2))
        have HU := Lib.hid ((((ButL.set wy X 0 (.slice (some ⟨g1, 0, none⟩) x.l1.length e1)).trans (ButL.set _ X 1 (.slice (some ⟨g3, 0, none⟩) x.l2.length e3))).trans (ButL.set _ X 2 (.slice A1 (doneL y.f1).length c1))).trans (ButL.set _ X 3 (.slice A2 (doneL y.f2).length c2)))
        have HRX := Lib.hid hr
        clear hr
        go_simp
        have V := HV.out
        exact hK _ _ ⟨fun s => z s, _, _, rfl, Lib.hid ⟨V.1, V.2.1, V.2.2.1, V.2.2.2.1, V.2.2.2.2.1, V.2.2.2.2.2.1, V.2.2.2.2.2.2.1, V.2.2.2.2.2.2.2.1, V.2.2.2.2.2.2.2.2.1, V.2.2.2.2.2.2.2.2.2.1, V.2.2.2.2.2.2.2.2.2.2.1, V.2.2.2.2.2.2.2.2.2.2.2.1, V.2.2.2.2.2.2.2.2.2.2.2.2.1, V.2.2.2.2.2.2.2.2.2.2.2.2.2⟩, Lib.hid (HW.out.trans (below_zero HU.out)), Lib.hid ⟨HX.out.1, fun e => absurd ((HX.out.2.2.2.1 HDD.out).symm.trans e) (by decide), fun _ => HDD.out, HX.out.2.2.2.1, fun _ => ⟨y, g1, e1, g3, e3, c1, c2, A1, A2, rfl, fun _ => rfl, HK.out.2.1, HK.out.2.2.1.apart HRX.out HU.out (by decide), HK.out.2.2.2.1.apart HRX.out (by simp) HU.out (by decide), HK.out.2.2.2.2.1.trans (HU.out.mono (by simp)), fun e => (by cases e), fun _ => HA4.out⟩⟩⟩
      · rintro b a wy hb hd ⟨z, z28, z29, rfl, HV, HW, HX⟩ K hK
        simp [Region.binds] at hd
        have e14 : (z 30) = .int .i64 0 := (HV.out.2.2.2.2.2.2.2.2.2.2.2.2.1) (by simp [hd])
        clear hd
        go_simp
        have V := HV.out
        exact hK _ _ ⟨fun s => if s = 3 then .int .i64 0 else if s = 30 then .int .i64 0 else z s, _, _, rfl, Lib.hid ⟨V.1, V.2.1, V.2.2.1, V.2.2.2.1, V.2.2.2.2.1, V.2.2.2.2.2.1, V.2.2.2.2.2.2.1, V.2.2.2.2.2.2.2.1, V.2.2.2.2.2.2.2.2.1, V.2.2.2.2.2.2.2.2.2.1, V.2.2.2.2.2.2.2.2.2.2.1, V.2.2.2.2.2.2.2.2.2.2.2.1, fun _ => rfl, fun _ => rfl⟩, HW, HX⟩
    case doneN =>
      rintro b a wy hb ⟨z, z28, z29, rfl, HV, HW, HX⟩
      have e0 := (HV.out.1) (hb 0)
      have e1 := (HV.out.2.1) (hb 1)
      have e2 := (HV.out.2.2.1) (hb 2)
      have e3 := (HV.out.2.2.2.1) (hb 3)
      have e4 := (HV.out.2.2.2.2.1) (hb 4)
      have e5 := (HV.out.2.2.2.2.2.1) (hb 5)
      have e6 := (HV.out.2.2.2.2.2.2.1) (hb 6)
      have e7 := (HV.out.2.2.2.2.2.2.2.1) (hb 7)
      have e8 := (HV.out.2.2.2.2.2.2.2.2.1) (hb 8)
      have e9 := (HV.out.2.2.2.2.2.2.2.2.2.1) (hb 9)
      have e10 := (HV.out.2.2.2.2.2.2.2.2.2.2.1) (hb 10)
      have e11 := (HV.out.2.2.2.2.2.2.2.2.2.2.2.1) (hb 11)
      have e14 := (HV.out.2.2.2.2.2.2.2.2.2.2.2.2.1) (hb 14)
      have e16 := (HV.out.2.2.2.2.2.2.2.2.2.2.2.2.2) (hb 16)
      simp only [e0, e1, e2, e3, e4, e5, e6, e7, e8, e9, e10, e11, e14, e16]
      clear HV e0 e1 e2 e3 e4 e5 e6 e7 e8 e9 e10 e11 e14 e16
      obtain ⟨y, g1, e1, g3, e3, c1, c2, A1, A2, zz, zw, hruns, hat, hsrc, hbb, _, hrow⟩ := HX.out.2.2.2.2 (hb 12)
      replace hrow := hrow (hb 15)
      have HF := Lib.hid (And.intro hruns (And.intro hat (And.intro hsrc (And.intro hbb hrow))))
      have q0 := hrow.cellAt (i := 0) rfl
      have q1 := hrow.cellAt (i := 1) rfl
      have q2 := hrow.cellAt (i := 2) rfl
      have q3 := hrow.cellAt (i := 3) rfl
      clear zz zw hruns hat hsrc hbb hrow hb HX
      go_wp2_with fail
      refine bodyPost_ret (v := .tuple #[.agg (lval g1 x.l1.length e1 g3 x.l2.length e3 A1 c1 (doneL y.f1).length A2 c2 (doneL y.f2).length).toArray, .int .i64 0]) ?_ rfl ?_
      · rw [results_cell_tmp rfl]
        unfold lval
        go_simp
      · refine ⟨y, g1, e1, g3, e3, c1, c2, A1, A2, rfl, HF.out.1, HF.out.2.1, HF.out.2.2.1, ?_⟩
        refine ((ButL.of_below [A.cb, A.mb, A.p] HB2.out (Nat.le_refl _)).join HF.out.2.2.2.1 fun z hz => ?_)
        simp only [List.mem_cons, List.not_mem_nil, or_false] at hz ⊢
        have := HX1.out
        rcases hz with h | h | h | h
        · exact .inl (.inl h)
        · exact .inl (.inr (.inl h))
        · exact .inl (.inr (.inr h))
        · exact .inr (by omega)
end Go.Proofs.YtogchamogbendaaGreat.Bs
/- Layer 11: a base's disk, and its struct, have turned; a super's first number is one more. -/
namespace Go.Proofs.YtogchamogbendaaGreat.Bs
set_option maxRecDepth 100000
open Go.RowKit Go.Proofs.YtogchamogbendaaGreat.Oct Go.Proofs.YtogchamogbendaaGreat.Mv Go.Proofs.YtogchamogbendaaGreat.Tl Go.Proofs.YtogchamogbendaaGreat.Pk Go.Proofs.YtogchamogbendaaGreat.Pl Go.Maps Go.ChangeMaps
open Go.Proofs.YtogchamogbendaaGreat.Dsk (dT)
open Go.Proofs.YtogchamogbendaaGreat.Su (Sup nth scells scell)
set_option linter.unusedVariables false
set_option linter.unusedSimpArgs false

def BS.setD (x : BS) (D : Dsk.St) : BS := ⟨x.q, x.l1, x.l2, x.kept, x.now, x.fr, D⟩
section
variable {Pr : Nat → Prop} {w w' : World} {A : Adr} {x : BS}
/-- Its disk has turned. -/
theorem BAt.turnD (h : BAt Pr w A x) {D : Dsk.St} (hd : DIs Pr w' A.d D) (k : Off dT Pr [] w w') : BAt Pr w' A (x.setD D) := by
  obtain ⟨s1, d1, s2, d2, h1, h2, h3⟩ := h.row
  obtain ⟨es, cl, hm⟩ := h.fm.map
  obtain ⟨spc, hcb⟩ := h.pat.tally.nums
  have row : ∀ {g : Nat} {T : TypeId} {vs : List Value}, RowV w g T vs → dT T = false → w'.heap[g]? = w.heap[g]? := fun {g T vs} hr ht => k.block g hr.lt (by simp) (.inr fun cs t fr e => by rw [show w.heap[g]? = some (.cells vs.toArray T (0, 0)) from hr] at e; cases e; exact ht)
  have map : ∀ {g : Nat} {es : Array MapEntry} {cl : Nat}, w.heap[g]? = some (.map es cl) → w'.heap[g]? = w.heap[g]? := fun {g es cl} hg => k.block g (lt_of_heap hg) (by simp) (.inr fun cs t fr e => by rw [hg] at e; cases e)
  refine ⟨⟨s1, d1, s2, d2, h1.block (row h1 rfl), h2.imp fun _ r => r.block (row r rfl), h3.imp fun _ r => r.block (row r rfl)⟩, h.pat.blocks (row h.pat.row rfl) (row h.pat.tally.row rfl) (row hcb rfl) ?_, h.fm.keep (map hm) fun g bs hb => hb.off k (by simp) rfl, hd, h.ne, h.np, fun j hj => Nat.lt_of_lt_of_le (h.lt j hj) k.size⟩
  obtain ⟨nn, D, ⟨es, cl, ho, _⟩, _⟩ := h.pat.tally.mp
  exact map ho
/-- Its struct was written anew. -/
theorem BAt.turnB (h : BAt Pr w A x) (k : ButL w w' [A.b]) {m1 m2 : List Nat} {kept now : Sup} {g1 d1 g3 d3 : Nat} (hr : RowV w' A.b 72 (bcells A m1.length m2.length g1 d1 g3 d3 kept now)) (r1 : ∃ sp, RowV w' g1 3 (ints m1 ++ sp)) (r3 : ∃ sp, RowV w' g3 3 (ints m2 ++ sp)) : BAt Pr w' A ⟨x.q, m1, m2, kept, now, x.fr, x.D⟩ := by
  obtain ⟨s1, e1, s2, e2, h1, h2, h3⟩ := h.row
  obtain ⟨es, cl, hm⟩ := h.fm.map
  obtain ⟨spc, hcb⟩ := h.pat.tally.nums
  have row : ∀ {g : Nat} {T : TypeId} {vs : List Value}, RowV w g T vs → T ≠ 72 → w'.heap[g]? = w.heap[g]? := fun {g T vs} hr ht => k.block g hr.lt (by simpa using row_ne hr h1 ht)
  have map : ∀ {g : Nat} {es : Array MapEntry} {cl : Nat}, w.heap[g]? = some (.map es cl) → w'.heap[g]? = w.heap[g]? := fun {g es cl} hg => k.block g (lt_of_heap hg) (by simpa using fun e => map_ne h1 hg e.symm)
  refine ⟨⟨g1, d1, g3, d3, hr, r1, r3⟩, h.pat.blocks (row h.pat.row (by decide)) (row h.pat.tally.row (by decide)) (row hcb (by decide)) ?_, h.fm.keep (map hm) fun g bs hb => hb.block fun cs fr e => k.block g (lt_of_heap e) (by simp; rintro rfl; rw [show w.heap[A.b]? = _ from h1] at e; cases e), h.dk.keep fun j cs t fr e ht => k.block j (lt_of_heap e) (by simp; rintro rfl; rw [show w.heap[A.b]? = _ from h1] at e; cases e; cases ht), h.ne, h.np, fun j hj => Nat.lt_of_lt_of_le (h.lt j hj) k.size⟩
  obtain ⟨nn, D, ⟨es, cl, ho, _⟩, _⟩ := h.pat.tally.mp
  exact map ho
/-- The struct when a Commit has written it. -/
theorem row_committed {g1 d1 g3 d3 n1 n2 s1 e1 s2 e2 : Nat} {kept now next : Sup} {m1 m2 : Nat} (h : RowV w A.b 72 (bcells A n1 n2 s1 e1 s2 e2 kept now)) :
    RowV ((((w.setCell ⟨A.b, 3, none⟩ (.slice (some ⟨g1, 0, none⟩) m1 d1)).setCell ⟨A.b, 4, none⟩ (.slice (some ⟨g3, 0, none⟩) m2 d3)).setCells A.b 5 (scells next)).setCells A.b 23 (scells next)) A.b 72 (bcells A m1 m2 g1 d1 g3 d3 next next) := by
  have a := (h.set 3 (.slice (some ⟨g1, 0, none⟩) m1 d1)).set 4 (.slice (some ⟨g3, 0, none⟩) m2 d3)
  have b := row_setCells (scells next) _ 5 _ a
  have e := fold_set [] (scells now ++ [.map (some A.fm), .bool false, .pointer (some ⟨A.b, 0, none⟩)]) (scells next) (scells kept) [.pointer (some ⟨A.d, 0, none⟩), .pointer (some ⟨A.ta, 0, none⟩), .pointer (some ⟨A.p, 0, none⟩), .slice (some ⟨g1, 0, none⟩) m1 d1, .slice (some ⟨g3, 0, none⟩) m2 d3] (by rw [Su.length_scells, Su.length_scells])
  have b' : RowV ((((w.setCell ⟨A.b, 3, none⟩ (.slice (some ⟨g1, 0, none⟩) m1 d1)).setCell ⟨A.b, 4, none⟩ (.slice (some ⟨g3, 0, none⟩) m2 d3)).setCells A.b 5 (scells next))) A.b 72 (bcells A m1 m2 g1 d1 g3 d3 next now) := by
    rw [show ((scells next).foldl (fun (p : Nat × List Value) v => (p.1 + 1, p.2.set p.1 v)) (5, ((bcells A n1 n2 s1 e1 s2 e2 kept now).set 3 (.slice (some ⟨g1, 0, none⟩) m1 d1)).set 4 (.slice (some ⟨g3, 0, none⟩) m2 d3))).2 = bcells A m1 m2 g1 d1 g3 d3 next now from e] at b
    exact b
  have c := row_setCells (scells next) _ 23 _ b'
  have e2 : ((scells next).foldl (fun (p : Nat × List Value) v => (p.1 + 1, p.2.set p.1 v)) (23, bcells A m1 m2 g1 d1 g3 d3 next now)).2 = bcells A m1 m2 g1 d1 g3 d3 next next := by
    unfold bcells
    rw [← List.append_assoc, ← List.append_assoc]
    have := fold_set [] [.map (some A.fm), .bool false, .pointer (some ⟨A.b, 0, none⟩)] (scells next) (scells now) ([.pointer (some ⟨A.d, 0, none⟩), .pointer (some ⟨A.ta, 0, none⟩), .pointer (some ⟨A.p, 0, none⟩), .slice (some ⟨g1, 0, none⟩) m1 d1, .slice (some ⟨g3, 0, none⟩) m2 d3] ++ scells next) (by rw [Su.length_scells, Su.length_scells])
    rw [show ([Value.pointer (some ⟨A.d, 0, none⟩), .pointer (some ⟨A.ta, 0, none⟩), .pointer (some ⟨A.p, 0, none⟩), .slice (some ⟨g1, 0, none⟩) m1 d1, .slice (some ⟨g3, 0, none⟩) m2 d3] ++ scells next).length = 23 by rw [List.length_append, Su.length_scells]; rfl] at this
    exact this
  rw [e2] at c
  exact c
theorem scells_set {s : Sup} (hs : s.length = 18) (j v : Nat) (hj : j < 18) : (scells s).set j (scell j v) = scells (s.set j v) := by
  refine List.ext_getElem? fun i => ?_
  rw [List.getElem?_set]
  by_cases hi : i < 18
  · rw [Su.scells_at _ _ hi, Su.scells_at _ _ hi, set_nth hs j v i hj, Su.length_scells]
    by_cases e : j = i
    · subst e; rw [if_pos rfl, if_pos hj, if_pos rfl]
    · rw [if_neg e, if_neg (Ne.symm e)]
  · rw [List.getElem?_eq_none (by rw [Su.length_scells]; omega), List.getElem?_eq_none (by rw [Su.length_scells]; omega), Su.length_scells]
    split
    · exact absurd hj (by omega)
    · rfl
theorem changed_yes (h : BAt Pr w A x) (hg : Good x) (hc : x.now ≠ x.kept ∨ 0 < x.q.s.changed.length) :
    Calls Tryz.prog 84 #[.pointer (some ⟨A.b, 0, none⟩)] w fun e w' => e = .returned (.bool true) ∧ Below w.heap.size w w' := by
  by_cases he : x.now = x.kept
  · exact changed_c h hg.nok hg.kok he (hc.resolve_left (fun k => k he))
  · exact changed_a h hg.nok hg.kok he
/-- Nothing to commit. -/
theorem commit_same (h : BAt Pr w A x) (hg : Good x) (he : x.now = x.kept) (hc : x.q.s.changed.length = 0) :
    Calls Tryz.prog 19 #[.pointer (some ⟨A.b, 0, none⟩)] w fun e w' => e = .returned (.int .i64 0) ∧ Below w.heap.size w w' := by
  have H := Lib.hid h
  have HB := Lib.hid (changed_b h hg.nok hg.kok he hc)
  clear h hg he hc
  go_enter Tryz.func19, Tryz.ntmps19
  go_wp2_with fail
  refine (stop_at H.out).mono ?_
  rintro e w' ⟨rfl, rfl⟩
  go_wp2_with fail
  refine HB.out.mono ?_
  rintro e w1 ⟨rfl, B1⟩
  go_wp2_with fail
  go_ret
  exact ⟨rfl, B1⟩
end
end Go.Proofs.YtogchamogbendaaGreat.Bs
/- Layer 11: Commit. -/
namespace Go.Proofs.YtogchamogbendaaGreat.Bs
set_option maxRecDepth 100000
open Go.RowKit Go.Proofs.YtogchamogbendaaGreat.Oct Go.Proofs.YtogchamogbendaaGreat.Mv Go.Proofs.YtogchamogbendaaGreat.Tl Go.Proofs.YtogchamogbendaaGreat.Pk Go.Proofs.YtogchamogbendaaGreat.Pl Go.Maps Go.ChangeMaps
open Go.Proofs.YtogchamogbendaaGreat.Dsk (dT)
open Go.Proofs.YtogchamogbendaaGreat.Su (Sup nth scells scell)
set_option linter.unusedVariables false
set_option linter.unusedSimpArgs false
set_option pp.deepTerms true

theorem _root_.Go.Proofs.YtogchamogbendaaGreat.Su.scells_no64 (s : Sup) : ∀ v ∈ Su.scells s, ∀ z, v ≠ .int .i64 z := by
  intro v hv z e
  unfold Su.scells at hv
  obtain ⟨j, _, rfl⟩ := List.mem_map.1 hv
  unfold scell at e
  split at e <;> cases e
theorem length_foldset : ∀ (cs vs : List Value) (o : Nat), (cs.foldl (fun (p : Nat × List Value) v => (p.1 + 1, p.2.set p.1 v)) (o, vs)).2.length = vs.length
  | [], _, _ => rfl
  | v :: r, vs, o => by rw [List.foldl_cons, length_foldset r _ _, List.length_set]
theorem there_row {w : World} {b : Nat} {T : TypeId} {vs : List Value} (h : RowV w b T vs) (o n : Nat) (ho : o + n ≤ vs.length) : w.there b o n := by
  intro j hj
  refine ⟨?_, h.free _⟩
  rw [h.cellAt (List.getElem?_eq_getElem (show o + j < vs.length by omega))]
  rfl
theorem stp_fit_ok {n : Nat} {t : Stp} (h : Stp.fit n t) : Stp.ok n t := by
  cases t with
  | w p bs => exact h.1
  | f => trivial
theorem Com.few {x : BS} {y : Wk} (h : Com x y) : (comS x y).length ≤ 5000 := by
  have h1 := few_frL x.fr
  have e1 := h.len1
  have e2 := h.len2
  have f1 := h.anew.good.fl1
  have f2 := h.anew.good.fl2
  have k1 : (doneL y.f1).length ≤ y.f1.length := done_le y.f1 y.f1.length
  have k2 : (doneL y.f2).length ≤ y.f2.length := done_le y.f2 y.f2.length
  have l1 : x.l1.length ≤ 68 := by rw [h.g.sd.len1]; exact pg_le h.g.hi
  have l2 := h.g.len2
  unfold comS comSteps
  rw [List.length_append, List.length_append, List.length_append, length_putSteps, length_cntSteps, length_dirSteps]
  unfold finSteps
  simp only [List.length_cons, List.length_nil]
  omega
section
variable {Pr : Nat → Prop} {w w' : World} {A : Adr} {x : BS}
set_option maxHeartbeats 4000000 in
theorem commit_did (h : BAt Pr w A x) (hg : Good x) (hc : x.now ≠ x.kept ∨ 0 < x.q.s.changed.length) (hgen : nth x.now 0 + 1 < 18446744073709551616) :
    Calls Tryz.prog 19 #[.pointer (some ⟨A.b, 0, none⟩)] w fun e w' => e = .returned (.int .i64 0) ∧ ∃ y, Com x y ∧ BAt Pr w' A (x.com y) ∧ Off dT Pr A.list w w' := by
  have HG := Lib.hid hg
  have H := Lib.hid h
  have HC := Lib.hid hc
  have HGEN := Lib.hid hgen
  have hgi : ¬ ((nth x.now 0 : Int) = 18446744073709551615) := by omega
  clear h hg hc hgen
  go_enter Tryz.func19, Tryz.ntmps19
  go_wp2_with fail
  refine (stop_at H.out).mono ?_
  rintro e w' ⟨rfl, rfl⟩
  go_wp2_with fail
  refine (changed_yes H.out HG.out HC.out).mono ?_
  rintro e w1 ⟨rfl, B1⟩
  have H1 := Lib.hid (H.out.below B1)
  have HB1 := Lib.hid B1
  have g0 := H1.out.gen
  clear B1 HC
  go_wp2_with fail
  refine (settle_base H1.out HG.out).mono ?_
  rintro e w2 ⟨y, g1, d1, g3, d3, c1, c2, A1, A2, rfl, hr, hat, hsrc, hb⟩
  have HY := Lib.hid (show Com x y from ⟨HG.out, hr, HGEN.out⟩)
  have H2 := Lib.hid hat
  have HS2 := Lib.hid hsrc
  have HU2 := Lib.hid (((ButL.of_below A.list HB1.out (Nat.le_refl _)).trans (hb.mono (M := A.list) (by simp [Adr.list]))))
  have HE := Lib.hid (And.intro HY.out.len1 HY.out.len2)
  rw [← HE.out.1, ← HE.out.2]
  clear hr hat hsrc hb g0 HB1 H1
  unfold lval
  have r4 := alloc_rowV w2 160 (lval g1 y.l1.length d1 g3 y.l2.length d3 A1 c1 (doneL y.f1).length A2 c2 (doneL y.f2).length)
  have b4 := (Below.refl w2.heap.size w2).alloc (Nat.le_refl _) (.cells (lval g1 y.l1.length d1 g3 y.l2.length d3 A1 c1 (doneL y.f1).length A2 c2 (doneL y.f2).length).toArray 160)
  unfold lval at r4 b4
  go_upto_region 9 with (fail)
  obtain ⟨X4, hX4⟩ : ∃ X, X = w2.heap.size := ⟨_, rfl⟩
  have R4 := Lib.hid r4
  have HB4 := Lib.hid b4
  rw [← hX4] at R4 ⊢
  have HX4 := Lib.hid hX4
  clear r4 b4 hX4
  simp only [List.toArray] at *
  generalize w2.alloc (.cells #[.slice (some ⟨g1, 0, none⟩) y.l1.length d1, .slice (some ⟨g3, 0, none⟩) y.l2.length d3, .slice A1 (doneL y.f1).length c1, .slice A2 (doneL y.f2).length c2] 160) = w3 at *
  have H3 := Lib.hid (H2.out.below HB4.out)
  have HS3 := Lib.hid (HS2.out.kept HB4.out)
  have HRN := Lib.hid (show w3.rangeAt A.b 23 (scells x.now) from H3.out.rn)
  have hst := run_storeCells_new (P := Tryz.prog) w3 69 #[(.int .u64 0), (.int .u32 0), (.int .u32 0), (.int .u32 0), (.int .u32 0), (.int .u32 0), (.int .u32 0), (.int .u32 0), (.int .u32 0), (.int .u32 0), (.int .u64 0), (.int .u64 0), (.int .u64 0), (.int .u64 0), (.int .u64 0), (.int .u64 0), (.int .u64 0), (.int .u64 0)] (scells x.now).toArray (Su.size_scells _) (by simp [Su.length_scells]) (Su.one_scells _)
  have r6 := alloc_rowV w3 69 (scells x.now)
  have b6 := (Below.refl w3.heap.size w3).alloc (Nat.le_refl _) (.cells (scells x.now).toArray 69)
  go_upto_region 12 with (refine wpList_load_mid rfl 69 (.tmp 34) rfl A.b 23 rfl (scells x.now) _ HRN.out Tryz.underlying69 rfl (by rw [sup_size, Su.length_scells]) ?_)
  obtain ⟨X6, hX6⟩ : ∃ X, X = w3.heap.size := ⟨_, rfl⟩
  have R6 := Lib.hid r6
  have HB6 := Lib.hid b6
  rw [← hX6] at R6 ⊢
  have HX6 := Lib.hid hX6
  clear r6 b6 hX6 hst
  generalize w3.alloc (.cells (scells x.now).toArray 69) = w4 at *
  have q0 : w4.cell? ⟨X6, 0, none⟩ = some (.int .u64 (nth x.now 0 : Int)) := by rw [← Su.scell_wide 0 _ (.inl rfl)]; exact R6.out.cellAt (Su.scells_at x.now 0 (by omega))
  have f0 := R6.out.free 0
  have hg1 : (nth x.now 0 : Int) + 1 < 18446744073709551616 := by have := HGEN.out; omega
  have hg0 : (0 : Int) ≤ (nth x.now 0 : Int) + 1 := by omega
  have R7 := Lib.hid (show RowV (w4.setCell ⟨X6, 0, none⟩ (.int .u64 ((nth x.now 0 : Int) + 1))) X6 69 (scells (x.now.set 0 (nth x.now 0 + 1))) by
    rw [← scells_set HG.out.nok.len 0 (nth x.now 0 + 1) (by omega), Su.scell_wide 0 _ (.inl rfl)]
    exact R6.out.set 0 _)
  have HU7 := Lib.hid (ButL.set w4 X6 0 (.int .u64 ((nth x.now 0 : Int) + 1)))
  go_upto_region 13 with (fail)
  generalize w4.setCell ⟨X6, 0, none⟩ (.int .u64 ((nth x.now 0 : Int) + 1)) = w5 at *
  clear q0 f0 hg1 hg0
  have H4 := Lib.hid (H3.out.below HB6.out)
  have HS4 := Lib.hid (HS3.out.kept HB6.out)
  have R4b := Lib.hid (R4.out.below R4.out.lt HB6.out)
  have hsm : ∀ v ∈ scells x.now, ∀ z, v ≠ .int .i64 z := Su.scells_no64 x.now
  have H5 := Lib.hid (H4.out.apart R6.out HU7.out (by decide))
  have HS5 := Lib.hid (HS4.out.apart R6.out hsm HU7.out (by decide))
  have n46 : X4 ≠ X6 := by have := HX4.out; have := HX6.out; have := R4.out.lt; omega
  have R4c := Lib.hid (R4b.out.block (HU7.out.block X4 R4b.out.lt (by simpa using n46)))
  clear R4 R4b R6 H3 HS3 hsm H2 HS2 HRN
  have z1 := R4c.out.cellAt (i := 1) rfl
  go_wp2_with fail
  refine (lead_any R7.out (by rw [List.length_set]; exact HG.out.nok.len) (has_told HS5.out.r3) HY.out.len22 (fun b hb => by have := HY.out.lt2 b hb; have := HG.out.hi; omega)).mono ?_
  rintro e w6 ⟨rfl, r8, k8⟩
  have R8 := Lib.hid (show RowV w6 X6 69 (scells (nextS x y)) from r8)
  have hsm7 : ∀ v ∈ scells (x.now.set 0 (nth x.now 0 + 1)), ∀ z, v ≠ .int .i64 z := Su.scells_no64 _
  have H6 := Lib.hid (H5.out.apart R7.out k8 (by decide))
  have HS6 := Lib.hid (HS5.out.apart R7.out hsm7 k8 (by decide))
  have R4d := Lib.hid (R4c.out.block (k8.block X4 R4c.out.lt (by simpa using n46)))
  have HK8 := Lib.hid k8
  have HN46 := Lib.hid n46
  clear r8 k8 hsm7 z1 R4c R7 H5 HS5 n46 H4 HS4
  have z0 := R4d.out.cellAt (i := 0) rfl
  have z1 := R4d.out.cellAt (i := 1) rfl
  have z2 := R4d.out.cellAt (i := 2) rfl
  have z3 := R4d.out.cellAt (i := 3) rfl
  dsimp only
  go_wp2_with (refine wpList_load_row rfl 69 (.tmp 6) rfl X6 rfl _ (scells (nextS x y)).toArray _ _ R8.out Tryz.underlying69 rfl (Su.size_scells _) ?_)
  refine (plan_any H6.out HY.out.sok HY.out.sfit HS6.out).mono ?_
  rintro e w7 ⟨P, B, rfl, hp7, hB7, b7⟩
  have HP7 := Lib.hid (show Pln w7 B P A.d (comS x y) from hp7)
  have HB7 := Lib.hid b7
  have H7 := Lib.hid (H6.out.below b7)
  clear hp7 b7 hB7 z0 z1 z2 z3
  go_wp2_with fail
  refine (prun HP7.out H7.out.dk HG.out.calm H7.out.lt (by rw [show (x.setQ y.q).D.W = [] from HG.out.still]; have := HY.out.few; show 0 + (comS x y).length < 900000; omega) (fun t ht => stp_fit_ok (HY.out.steps t ht))).mono ?_
  rintro e w8 ⟨rfl, hd8, o8⟩
  have HO8 := Lib.hid o8
  have H8 := Lib.hid (H7.out.turnD hd8 o8)
  clear hd8 o8 HP7
  have c1' := H8.out.c1
  go_wp2_with fail
  refine (Tl.keep_at H8.out.pat.tally).mono ?_
  rintro e w9 ⟨rfl, az, bz⟩
  have HK9 := Lib.hid bz
  have H9 := Lib.hid (H8.out.turn2 az bz rfl)
  obtain ⟨w10, hrun, hf, hk⟩ := fm_clear H9.out.fm
  have c41 := H9.out.c41
  have H10 := Lib.hid (H9.out.turnF hf hk)
  have HK10 := Lib.hid hk
  obtain ⟨es, cl, hmap⟩ := H9.out.fm.map
  have HM := Lib.hid hmap
  clear az bz hf hk c1' hmap
  -- what lies apart
  have hB7 := HB7.out
  have E6 := HS6.out
  have X6a := Lib.hid (R8.out.below R8.out.lt hB7)
  have X4a := Lib.hid (R4d.out.below R4d.out.lt hB7)
  have X6b := Lib.hid (HO8.out.rowV X6a.out (by simp) rfl)
  have X4b := Lib.hid (HO8.out.rowV X4a.out (by simp) rfl)
  have X6c := Lib.hid (turn_row H8.out.pat (butL_of2 HK9.out) X6b.out (by decide))
  have X4c := Lib.hid (turn_row H8.out.pat (butL_of2 HK9.out) X4b.out (by decide))
  have X6d := Lib.hid (X6c.out.block (HK10.out.block _ X6c.out.lt (by simpa using map_ne X6c.out HM.out)))
  have X4d := Lib.hid (X4c.out.block (HK10.out.block _ X4c.out.lt (by simpa using map_ne X4c.out HM.out)))
  have g1d : ∃ sp, RowV w10 g1 3 (ints y.l1 ++ sp) := by
    have a := HO8.out.rowEx (E6.r1.imp fun _ r => r.below r.lt hB7) (by simp) rfl
    have b := turn_ex H8.out.pat (butL_of2 HK9.out) a (by decide)
    exact b.imp fun _ r => r.block (HK10.out.block _ r.lt (by simpa using map_ne r HM.out))
  have g3d : ∃ sp, RowV w10 g3 3 (ints y.l2 ++ sp) := by
    have a := HO8.out.rowEx (E6.r3.imp fun _ r => r.below r.lt hB7) (by simp) rfl
    have b := turn_ex H8.out.pat (butL_of2 HK9.out) a (by decide)
    exact b.imp fun _ r => r.block (HK10.out.block _ r.lt (by simpa using map_ne r HM.out))
  have HG1 := Lib.hid (And.intro g1d g3d)
  clear hB7 E6 X6a X4a X6b X4b X6c X4c g1d g3d
  have z0 := X4d.out.cellAt (i := 0) rfl
  have z1 := X4d.out.cellAt (i := 1) rfl
  obtain ⟨s1, e1, s2, e2, hrow, _, _⟩ := H10.out.row
  have q3 := hrow.cellAt (bc3 ..)
  have q4 := hrow.cellAt (bc4 ..)
  have f3 := hrow.free 3
  have f4 := hrow.free 4
  have ra := (hrow.set 3 (.slice (some ⟨g1, 0, none⟩) y.l1.length d1)).set 4 (.slice (some ⟨g3, 0, none⟩) y.l2.length d3)
  have TH5 := Lib.hid (there_row ra 5 18 (by rw [List.length_set, List.length_set, length_bcells]; omega))
  have HFIN := Lib.hid (row_committed (g1 := g1) (d1 := d1) (g3 := g3) (d3 := d3) (next := nextS x y) (m1 := y.l1.length) (m2 := y.l2.length) hrow)
  have rb := row_setCells (scells (nextS x y)) _ 5 _ ra
  have TH23 := Lib.hid (show World.there _ A.b 23 18 from there_row rb 23 18 (by rw [length_foldset, List.length_set, List.length_set, length_bcells]; omega))
  have HUF := Lib.hid ((((ButL.set w10 A.b 3 (.slice (some ⟨g1, 0, none⟩) y.l1.length d1)).trans (ButL.set _ A.b 4 (.slice (some ⟨g3, 0, none⟩) y.l2.length d3))).trans (setCells_but (scells (nextS x y)) _ A.b 5)).trans (setCells_but (scells (nextS x y)) _ A.b 23))
  clear ra rb hrow
  dsimp only
  go_upto_region 21 with (fail)
  clear hrun c41
  iterate 33 (first | (refine wpList_load_row rfl 69 (.tmp 6) rfl X6 rfl _ (scells (nextS x y)).toArray _ _ X6d.out Tryz.underlying69 rfl (Su.size_scells _) ?_) | go_values | go_skip | go_guarded | go_step)
  refine wpList_store_mid rfl 69 (.tmp 78) (.tmp 73) rfl A.b 5 (scells (nextS x y)).toArray rfl rfl (by rw [List.size_toArray, Su.length_scells]; exact TH5.out) (by rw [sup_size, List.size_toArray, Su.length_scells]) (Su.one_scells _) ?_
  rw [List.toList_toArray]
  iterate 6 (first | go_values | go_skip | go_guarded | go_step)
  refine wpList_store_mid rfl 69 (.tmp 80) (.tmp 74) rfl A.b 23 (scells (nextS x y)).toArray rfl rfl (by rw [List.size_toArray, Su.length_scells]; exact TH23.out) (by rw [sup_size, List.size_toArray, Su.length_scells]) (Su.one_scells _) ?_
  rw [List.toList_toArray]
  generalize (((w10.setCell ⟨A.b, 3, none⟩ (.slice (some ⟨g1, 0, none⟩) y.l1.length d1)).setCell ⟨A.b, 4, none⟩ (.slice (some ⟨g3, 0, none⟩) y.l2.length d3)).setCells A.b 5 (scells (nextS x y))).setCells A.b 23 (scells (nextS x y)) = w13 at *
  clear z0 z1 q3 q4 f3 f4 TH5 TH23 X6d X4d
  go_wp2_with fail
  go_ret
  have hat := H10.out.turnB HUF.out HFIN.out (HG1.out.1.imp fun _ r => r.block (HUF.out.block _ r.lt (by simpa using row_ne r H10.out.cells.choose_spec.choose_spec.choose_spec.choose_spec (by decide)))) (HG1.out.2.imp fun _ r => r.block (HUF.out.block _ r.lt (by simpa using row_ne r H10.out.cells.choose_spec.choose_spec.choose_spec.choose_spec (by decide))))
  refine ⟨rfl, y, HY.out, hat, ?_⟩
  have s2 := HX4.out
  have s3 := HX6.out
  have l3 := HB4.out.size
  have l4 := HB6.out.size
  have hB : Below w2.heap.size w2 w7 := (((HB4.out.trans (HB6.out.mono l3)).trans (HU7.out.below (by simp; omega) (by omega))).trans (HK8.out.below (by simp; omega) (by have := HU7.out.size; omega))).trans (HB7.out.mono (by have := HU7.out.size; have := HK8.out.size; omega))
  have o1 : Off dT Pr A.list w w2 := Off.of_butL _ _ HU2.out
  have o2 : Off dT Pr A.list w2 w7 := Off.of_below _ _ _ hB (Nat.le_refl _)
  have o3 : Off dT Pr A.list w7 w8 := HO8.out.mono (by simp)
  have o4 : Off dT Pr A.list w8 w9 := Off.of_butL _ _ ((butL_of2 (p := A.p) HK9.out).mono (by simp [Adr.list]))
  have o5 : Off dT Pr A.list w9 w10 := Off.of_butL _ _ (HK10.out.mono (by simp [Adr.list]))
  have o6 : Off dT Pr A.list w10 w13 := Off.of_butL _ _ (HUF.out.mono (by simp [Adr.list]))
  exact ((((o1.trans o2).trans o3).trans o4).trans o5).trans o6
/-- Whether there is anything to commit, or not. -/
def Commits (x x' : BS) : Prop := (x' = x ∧ x.now = x.kept ∧ x.q.s.changed = []) ∨ ∃ y, Com x y ∧ x' = x.com y
theorem commit_any (h : BAt Pr w A x) (hg : Good x) (hgen : nth x.now 0 + 1 < 18446744073709551616) :
    Calls Tryz.prog 19 #[.pointer (some ⟨A.b, 0, none⟩)] w fun e w' => e = .returned (.int .i64 0) ∧ ∃ x', Commits x x' ∧ Good x' ∧ BAt Pr w' A x' ∧ Off dT Pr A.list w w' := by
  by_cases hc : x.now ≠ x.kept ∨ 0 < x.q.s.changed.length
  · exact (commit_did h hg hc hgen).mono fun e w' ⟨he, y, hy, hat, ho⟩ => ⟨he, x.com y, .inr ⟨y, hy, rfl⟩, hy.good, hat, ho⟩
  · have h1 : x.now = x.kept := Classical.byContradiction fun k => hc (.inl k)
    have h2 : x.q.s.changed.length = 0 := by
      rcases Nat.eq_zero_or_pos x.q.s.changed.length with k | k
      · exact k
      · exact absurd (.inr k) hc
    exact (commit_same h hg h1 h2).mono fun e w' ⟨he, hb⟩ => ⟨he, x, .inl ⟨rfl, h1, List.eq_nil_of_length_eq_zero h2⟩, hg, h.below hb, Off.of_below _ _ _ hb (Nat.le_refl _)⟩
end
end Go.Proofs.YtogchamogbendaaGreat.Bs
/- Layer 11: the law's own Block and formatted. -/
namespace Go.Proofs.YtogchamogbendaaGreat.Bs
set_option maxRecDepth 100000
open Go.RowKit Go.Proofs.YtogchamogbendaaGreat.Oct Go.Proofs.YtogchamogbendaaGreat.Mv Go.Proofs.YtogchamogbendaaGreat.Tl Go.Proofs.YtogchamogbendaaGreat.Pk Go.Proofs.YtogchamogbendaaGreat.Pl Go.Maps Go.ChangeMaps
open Go.Proofs.YtogchamogbendaaGreat.Dsk (dT)
open Go.Proofs.YtogchamogbendaaGreat.Su (Sup nth scells scell)
set_option linter.unusedVariables false
set_option linter.unusedSimpArgs false

def blkB (n i : Nat) : UInt8 := UInt8.ofNat (n * 31 + i * (n % 7))
/-- What Block answers. -/
def blk (n : Nat) : List UInt8 := (List.range 128).map (blkB n)
theorem length_blk (n : Nat) : (blk n).length = 128 := by simp [blk]
def blkTo (n k : Nat) : List UInt8 := (List.range 128).map fun i => if i < k then blkB n i else 0
theorem length_blkTo (n k : Nat) : (blkTo n k).length = 128 := by simp [blkTo]
theorem blkTo_zero (n : Nat) : blkTo n 0 = List.replicate 128 0 := by
  unfold blkTo
  apply List.ext_getElem
  · simp
  · intro i h1 h2
    simp only [List.getElem_map, List.getElem_range, List.getElem_replicate]
    rw [if_neg (by omega)]
theorem blkTo_set (n k : Nat) (h : k < 128) : (blkTo n k).set k (blkB n k) = blkTo n (k + 1) := by
  unfold blkTo
  apply List.ext_getElem
  · simp
  · intro i h1 h2
    rw [List.getElem_set]
    simp only [List.getElem_map, List.getElem_range]
    by_cases e : k = i
    · subst e
      rw [if_pos rfl, if_pos (by omega)]
    · rw [if_neg e]
      by_cases g : i < k
      · rw [if_pos g, if_pos (by omega)]
      · rw [if_neg g, if_neg (by omega)]
theorem blkTo_end (n : Nat) : blkTo n 128 = blk n := by
  unfold blkTo blk
  apply List.map_congr_left
  intro i hi
  rw [if_pos (by simpa using hi)]
theorem wrap_blk (n i : Nat) : IntKind.u8.wrap ((n : Int) * 31 + (i : Int) * ((n : Int) % 7)) = ((blkB n i).toNat : Int) := by
  have e : (n : Int) * 31 + (i : Int) * ((n : Int) % 7) = ((n * 31 + i * (n % 7) : Nat) : Int) := by
    rw [Int.natCast_add, Int.natCast_mul, Int.natCast_mul, Int.natCast_emod]
    rfl
  rw [e]
  unfold blkB
  rw [UInt8.toNat_ofNat', IntKind.wrap_u8]
  omega
set_option maxHeartbeats 1000000 in
theorem block_any (n : Nat) (hn : n < 65536) (w : World) : Calls Tryz.prog 26 #[.int .u16 (n : Int)] w fun e w' => ∃ g, e = .returned (.slice (some ⟨g, 0, none⟩) 128 128) ∧ w.heap.size ≤ g ∧ Row w' g (blk n) ∧ Below w.heap.size w w' := by
  have hmk : (Instr.makeSlice 45 (.int .i64 128) (.int .i64 128)).run Tryz.prog w = .ok (.slice (some ⟨w.heap.size, 0, none⟩) 128 128) (w.alloc (.cells (vals (List.replicate 128 0)).toArray 5)) := run_make_bytes w 128 (by omega)
  have R1 : Row (w.alloc (.cells (vals (List.replicate 128 0)).toArray 5)) w.heap.size (blkTo n 0) := by rw [blkTo_zero]; exact alloc_row w (List.replicate 128 0)
  have B1 := (Below.refl w.heap.size w).alloc (Nat.le_refl _) (.cells (vals (List.replicate 128 0)).toArray 5)
  generalize w.alloc (.cells (vals (List.replicate 128 0)).toArray 5) = w1 at hmk R1 B1
  obtain ⟨g, hg⟩ : ∃ g, g = w.heap.size := ⟨_, rfl⟩
  rw [← hg] at hmk R1
  have HG := Lib.hid hg
  have HR := Lib.hid R1
  have HB := Lib.hid B1
  have g31 : (n : Int) * 31 < 9223372036854775808 := by omega
  obtain ⟨m, hm⟩ : ∃ m, m = n % 7 := ⟨_, rfl⟩
  have hm7 : m < 7 := by omega
  have HM := Lib.hid hm
  have hmi : (n : Int).tmod 7 = (m : Int) := by rw [hm, Int.tmod_eq_emod_of_nonneg (by omega)]; omega
  have hmi2 : (n : Int) % 7 = (m : Int) := by rw [hm]; omega
  clear hg R1 B1 hm
  go_enter Tryz.func26, Tryz.ntmps26
  go_wp2_with fail
  clear hmk
  go_loopw [8] (fun i wr => ∃ k : Nat, k ≤ 128 ∧ i = .int .i64 (k : Int) ∧ Hid (Row wr g (blkTo n k)) ∧ Below w.heap.size w wr) (fun i _ => 128 - (intOf i).toNat)
  case atStart => exact ⟨0, Nat.zero_le _, rfl, HR, HB.out⟩
  case round =>
    obtain ⟨k, hk, rfl, hR, hB⟩ := hrel
    have HB3 := Lib.hid hB
    clear hB
    by_cases hlt : k < 128
    · have hki : (k : Int) < 128 := by omega
      have hc := hR.out.has k (by rw [length_blkTo]; exact hlt)
      rw [Nat.zero_add] at hc
      have hf : wr.frozen? ⟨g, k, none⟩ = false := frozen_of_row wr g k _ _ hR.out
      have hs := hR.out.set k (blkB n k)
      rw [blkTo_set n k hlt] at hs
      have HS := Lib.hid hs
      have HB2 := Lib.hid (HB3.out.setCell (p := ⟨g, k, none⟩) (by rw [HG.out]; exact Nat.le_refl _) (.int .u8 ((blkB n k).toNat : Int)))
      generalize (blkTo n k)[k]'(by rw [length_blkTo]; exact hlt) = old at hc
      have hwr : IntKind.u8.wrap ((n : Int) * 31 + (k : Int) * (m : Int)) = ((blkB n k).toNat : Int) := by rw [← hmi2]; exact wrap_blk n k
      have hkm : k * m ≤ 128 * 7 := Nat.mul_le_mul (by omega) (by omega)
      have hkm1 : (k : Int) * (m : Int) ≤ 896 := by rw [← Int.natCast_mul]; omega
      have hkm0 : 0 ≤ (k : Int) * (m : Int) := by rw [← Int.natCast_mul]; omega
      clear hs hkm hmi2
      go_wp2_with fail
      go_roundw
      case rel => exact ⟨k + 1, by omega, by go_num, HS, HB2.out⟩
      case measure => simp [intOf]; omega
    · obtain rfl : k = 128 := by omega
      go_wp2_with fail
      go_ret
      have hr := hR.out
      rw [blkTo_end] at hr
      exact ⟨g, rfl, by rw [HG.out]; exact Nat.le_refl _, hr, HB3.out⟩
theorem res_three {fn : Func} {p q x : Tmp} (h : fn.results = #[.tmp p, .tmp q, .tmp x]) (tmps : Array Value) {w : World} : (results fn tmps).run Tryz.prog w = .ok (.tuple #[tmps.getD p undef, tmps.getD q undef, tmps.getD x undef]) w := by
  simp [results, h, Sem.run_bind, Result.andThen]
def size8 (b : UInt8) : Nat := 16 + b.toNat % 200
theorem size8_ok (b : UInt8) : 16 ≤ size8 b ∧ size8 b ≤ 215 := by unfold size8; omega
set_option maxHeartbeats 2000000 in
/-- A disk, and a base of it. -/
theorem formatted_any (b : UInt8) (w : World) :
    Calls Tryz.prog 15 #[.int .u8 (b.toNat : Int)] w fun e w' => ∃ (A : Adr) (y : Wk), e = .returned (.tuple #[.pointer (some ⟨A.d, 0, none⟩), .pointer (some ⟨A.b, 0, none⟩), .bool true]) ∧ Begun0 (size8 b) y ∧ (∀ k ∈ A.list, w.heap.size ≤ k) ∧ BAt (fun k => k < w.heap.size) w' A (made0 (size8 b) y) ∧ Below w.heap.size w w' := by
  obtain ⟨h1, h2⟩ := size8_ok b
  obtain ⟨n, hn⟩ : ∃ n, n = size8 b := ⟨_, rfl⟩
  have e1 : (b.toNat : Int).tmod 200 = ((b.toNat % 200 : Nat) : Int) := by rw [Int.tmod_eq_emod_of_nonneg (by omega)]; omega
  have e2 : (16 : Int) + ((b.toNat % 200 : Nat) : Int) = (n : Int) := by rw [hn]; unfold size8; omega
  have e3 : b.toNat % 200 < 200 := Nat.mod_lt _ (by omega)
  rw [← hn] at h1 h2 ⊢
  generalize b.toNat % 200 = m at *
  clear hn
  go_enter Tryz.func15, Tryz.ntmps15
  go_wp2_with fail
  refine (dnew n h1 (by omega) w).mono ?_
  rintro e w1 ⟨a, rfl, hd, B1⟩
  have HB1 := Lib.hid B1
  have HD1 := Lib.hid hd
  clear B1 hd
  go_wp2_with fail
  refine (format_any (n := n) HD1.out (calm_fresh n) (fun k hk => Nat.lt_of_lt_of_le hk HB1.out.size) rfl h1 (show n ≤ 400 by omega) (by show (0 : Nat) < 100000; omega)).mono ?_
  rintro e w2 ⟨rfl, y, hr, hd, O2⟩
  have HR := Lib.hid hr
  have HD2 := Lib.hid hd
  have HB2 := Lib.hid (HB1.out.trans (O2.below (fun k hk => hk) (by simp) HB1.out.size))
  clear hr hd O2
  go_wp2_with fail
  have hc := doSteps_all (fmtSteps n y) (Dsk.fresh n) (calm_fresh n)
  refine (open_yes HD2.out hc.2.1.gone (fun k hk => Nat.lt_of_lt_of_le hk HB2.out.size) (format_opens (n := n) h1 (show n ≤ 400 by omega) HR.out (calm_fresh n) (lok_fresh n) rfl)).mono ?_
  rintro e w3 ⟨A, rfl, hda, hA, hb, B3⟩
  have HB3 := Lib.hid (HB2.out.trans (B3.mono HB2.out.size))
  have HAT := Lib.hid (show BAt (fun k => k < w.heap.size) w3 A (made0 n y) from hb)
  have HAL := Lib.hid hA
  have hf0 := made_fed (n := n) h1 (show n ≤ 400 by omega) HR.out
  have hn1 : nth (made0 n y).now 1 = n := hf0.blk
  have HDA := Lib.hid hda
  clear B3 hb hA hc hf0 hda
  go_wp2_with fail
  refine (blocks_at HAT.out (by rw [hn1]; omega)).mono ?_
  rintro e w' ⟨rfl, rfl⟩
  rw [hn1]
  go_wp2_with fail
  refine bodyPost_ret (v := _) (res_three rfl _) rfl ⟨A, y, ?_, HR.out, fun k hk => Nat.le_trans HB2.out.size (HAL.out k hk), HAT.out, HB3.out⟩
  rw [HDA.out]
  rfl
end Go.Proofs.YtogchamogbendaaGreat.Bs
/- Layer 11: mathematics of the chapter's examples; how many blocks wait. -/
namespace Go.Proofs.YtogchamogbendaaGreat.Bs
set_option maxRecDepth 100000
open Go.RowKit Go.Proofs.YtogchamogbendaaGreat.Oct Go.Proofs.YtogchamogbendaaGreat.Mv Go.Proofs.YtogchamogbendaaGreat.Tl Go.Proofs.YtogchamogbendaaGreat.Pk Go.Proofs.YtogchamogbendaaGreat.Pl Go.Maps Go.ChangeMaps
open Go.Proofs.YtogchamogbendaaGreat.Dsk (dT)
open Go.Proofs.YtogchamogbendaaGreat.Su (Sup nth)
set_option linter.unusedVariables false
set_option linter.unusedSimpArgs false

theorem idle_none {s : Tl.St} (h : ∀ j, j < s.n → s.waits j = false) : s.idle = 0 := by
  unfold Tl.St.idle
  rw [List.countP_eq_zero]
  intro j hj
  rw [h j (List.mem_range.1 hj)]
  decide
theorem idle_keep (s : Tl.St) : s.keep.idle = 0 := idle_none fun j _ => by
  unfold Tl.St.waits
  show (s.cnt j == 0 && s.cnt j != 0) = false
  cases e : (s.cnt j == 0)
  · rfl
  · have : s.cnt j = 0 := by simpa using e
    rw [this]; rfl
theorem idle_still {s : Tl.St} (h : s.changed = []) : s.idle = 0 := idle_none fun j hj => by
  cases e : s.waits j with
  | false => rfl
  | true =>
    have : j ∈ s.changed := mem_changed.2 ⟨hj, by
      unfold Tl.St.waits at e
      unfold Tl.St.moved
      have h1 := (Bool.and_eq_true _ _ ▸ e).1
      have h2 := (Bool.and_eq_true _ _ ▸ e).2
      have h3 : s.cnt j = 0 := by simpa using h1
      rw [h3]
      simpa using fun k : (0 : UInt16) = s.was j => absurd k.symm (by simpa using h2)⟩
    rw [h] at this
    cases this
theorem idle_put {s : Tl.St} {i : Nat} (hi : i < s.n) (hc : s.cnt i ≠ 0) (hw : s.was i ≠ 0) : (s.put i 0).idle = s.idle + 1 := by
  unfold Tl.St.idle
  rw [n_put, List.range_eq_range']
  have := countP_one (p := (s.put i 0).waits) (r := s.waits) (b := i) (by unfold Tl.St.waits; rw [cnt_put hi, if_pos rfl, was_put]; simp [hw]) (by unfold Tl.St.waits; simp [hc]) (fun j hj => by unfold Tl.St.waits; rw [cnt_put hi, if_neg hj, was_put]) 0 s.n (Nat.zero_le _)
  rw [if_pos (by omega)] at this
  exact this
theorem zero_put {q : Q} {i : Nat} (hi : i < q.s.n) (hf : q.first ≤ i) (hc : q.s.cnt i ≠ 0) : zeroQ ⟨q.s.put i 0, q.first, q.next, q.asked⟩ = zeroQ q + 1 := by
  unfold zeroQ
  show (List.range' q.first ((q.s.put i 0).n - q.first)).countP _ = _
  rw [n_put]
  have := countP_one (p := Pl.St.zero (q.s.put i 0)) (r := Pl.St.zero q.s) (b := i) (by unfold Pl.St.zero; rw [cnt_put hi, if_pos rfl]; rfl) (by unfold Pl.St.zero; simpa using hc) (fun j hj => by unfold Pl.St.zero; rw [cnt_put hi, if_neg hj]) q.first (q.s.n - q.first) hf
  rw [if_pos (by omega)] at this
  exact this
theorem zero_kept {q : Q} (h : ∀ j, q.s.was j = q.s.cnt j) : zeroQ q = q.room := by
  unfold Q.room St.count zeroQ
  congr 1
  funext j
  unfold Tl.St.free Pl.St.zero
  rw [h]
  cases (q.s.cnt j == 0) <;> rfl

/-! ### The examples -/
def aY : Wk := ⟨aq2, [2], [true], [3], [true]⟩
theorem aw_y {y : Wk} (h : Begun0 16 y) : y = aY := Wk.Runs.uniq h arun1
theorem aw_found {b : Nat} (h : (made0 16 aY).q.Found b) : b = 4 := by
  have hok : (made0 16 aY).q.Ok := ⟨⟨rfl, by decide, by decide⟩, by decide, by decide, by decide, by decide⟩
  exact found_one h (found_seek hok (by decide))
theorem aw_room : (made0 16 aY).q.room = 12 ∧ (made0 16 aY).n = 16 ∧ need 16 = 2 := by decide
theorem aw_sup : nth (made0 16 aY).now 0 = 1 ∧ nth (made0 16 aY).now 1 = 16 ∧ nth (made0 16 aY).now 4 = 0 := ⟨rfl, rfl, rfl⟩
theorem aw_len : (made0 16 aY).l2.length = 1 ∧ 4 ∉ (made0 16 aY).l1 ++ (made0 16 aY).l2 := by decide
theorem aw_cnt : (made0 16 aY).q.s.cnt 4 = 0 ∧ (made0 16 aY).q.s.was 4 = 0 := by decide
/-- A block is put. -/
structure Aw1 (x : BS) (bs : List UInt8) : Prop where
  g : Good x
  n : x.n = 16
  now0 : nth x.now 0 = 1
  now4 : nth x.now 4 = 0
  l2 : x.l2.length = 1
  no : 4 ∉ x.l1 ++ x.l2
  cnt : x.q.s.cnt 4 = 1
  was : x.q.s.was 4 = 0
  has : x.fr 4 = some bs
theorem aw1 {bs : List UInt8} (hr : Begun0 16 aY) (hf : (made0 16 aY).q.Found 4) (hl : bs.length = 128) : Aw1 ((made0 16 aY).put 4 bs) bs := by
  have hg := made_good (by omega) (by omega) hr
  obtain ⟨r1, r2, r3⟩ := aw_room
  refine ⟨hg.put hf (by rw [r2, r3, r1]; omega) hl, ?_, aw_sup.1, aw_sup.2.2, aw_len.1, aw_len.2, cnt_took hf, aw_cnt.2, ?_⟩
  · show ((made0 16 aY).q.took 4).s.n = 16
    rw [n_took]
    exact r2
  · show (if (4 : Nat) = 4 then some bs else (made0 16 aY).fr 4) = some bs
    rw [if_pos rfl]
theorem Aw1.changed {x : BS} {bs : List UInt8} (h : Aw1 x bs) : 0 < x.q.s.changed.length := by
  have : 4 ∈ x.q.s.changed := mem_changed.2 ⟨by have := h.n; unfold BS.n at this; omega, by unfold Tl.St.moved; rw [h.cnt, h.was]; decide⟩
  rcases hq : x.q.s.changed with _ | ⟨a, l⟩
  · rw [hq] at this; cases this
  · simp
/-- It is committed. -/
structure Aw2 (x : BS) (bs : List UInt8) (g : Nat) (r : Nat) : Prop where
  gd : Good x
  n : x.n = 16
  now0 : nth x.now 0 = g
  now4 : nth x.now 4 = r
  l2 : x.l2.length = 1
  no : 4 ∉ x.l1 ++ x.l2
  cnt : x.q.s.cnt 4 = 1
  was : x.q.s.was 4 = 1
  fr : x.fr 4 = none
  has : x.D.says 4 = bs
  idle : x.q.s.idle = 0
  same : x.now = x.kept
theorem aw2 {x : BS} {bs : List UInt8} {y : Wk} (h : Aw1 x bs) (hy : Com x y) : Aw2 (x.com y) bs 2 0 := by
  have hnp := hy.page h.no (by rw [h.cnt]; decide)
  have hc : y.q.s.cnt 4 = 1 := (hy.cnt h.no hnp).trans h.cnt
  have hh := hy.has (p := 4) (by rw [h.n]; omega) (by omega) (by rw [h.cnt]; decide)
  have hl := hy.len2
  refine ⟨hy.good, hy.yn.trans h.n, ?_, ?_, hl.trans h.l2, hnp, hc, hc, rfl, ?_, idle_keep _, rfl⟩
  · show nth (nextS x y) 0 = 2
    rw [hy.next0, h.now0]
  · show nth (nextS x y) 4 = 0
    rw [hy.nth, if_neg (by omega), if_neg (by rw [hl, h.l2]; omega), h.now4]
  · have e : x.has 4 = bs := by unfold BS.has; rw [h.has]; rfl
    rw [e] at hh
    exact hh
theorem Aw2.may {x : BS} {bs : List UInt8} {g r : Nat} (h : Aw2 x bs g r) : x.May 4 := h.gd.may (by omega) (by rw [h.n]; omega) h.no (by rw [h.cnt]; decide)
theorem Aw2.down {x : BS} {bs : List UInt8} {g r : Nat} (h : Aw2 x bs g r) : (x.down 4).q.s.idle = 1 ∧ Good (x.down 4) := by
  refine ⟨?_, h.gd.down h.may⟩
  unfold BS.down
  rw [if_pos h.cnt]
  show (x.q.s.put 4 0).idle = 1
  rw [idle_put (by have := h.n; unfold BS.n at this; omega) (by rw [h.cnt]; decide) (by rw [h.was]; decide), h.idle]
/-- Let go, and taken back. -/
theorem Aw2.back {x : BS} {bs : List UInt8} {g r : Nat} (h : Aw2 x bs g r) : Aw2 (x.down 4).back bs g r := by
  have hg := (h.down.2).back
  have e1 : (x.down 4).D = x.D := by unfold BS.down; split <;> rfl
  have e2 : (x.down 4).kept = x.kept := by unfold BS.down; split <;> rfl
  have e3 : (x.down 4).l1 = x.l1 ∧ (x.down 4).l2 = x.l2 := by unfold BS.down; split <;> exact ⟨rfl, rfl⟩
  have e4 : (x.down 4).q.s.kept = x.q.s.kept := by unfold BS.down; split <;> rfl
  have hw : (x.down 4).q.s.kept.getD 4 0 = 1 := by rw [e4]; exact h.was
  refine ⟨hg, ?_, ?_, ?_, by show (x.down 4).l2.length = 1; rw [e3.2]; exact h.l2, by show 4 ∉ (x.down 4).l1 ++ (x.down 4).l2; rw [e3.1, e3.2]; exact h.no, hw, hw, rfl, by show (x.down 4).D.says 4 = bs; rw [e1]; exact h.has, ?_, rfl⟩
  · show (x.down 4).q.s.kept.length = 16
    rw [e4, h.gd.nw, h.n]
  · show nth (x.down 4).kept 0 = g
    rw [e2, ← h.same]; exact h.now0
  · show nth (x.down 4).kept 4 = r
    rw [e2, ← h.same]; exact h.now4
  · refine idle_none fun j _ => ?_
    unfold Tl.St.waits
    show ((x.down 4).q.s.kept.getD j 0 == 0 && (x.down 4).q.s.kept.getD j 0 != 0) = false
    cases e : ((x.down 4).q.s.kept.getD j 0 == 0)
    · rfl
    · have : (x.down 4).q.s.kept.getD j 0 = 0 := by simpa using e
      rw [this]; rfl
/-- A root is set, and committed. -/
theorem aw3 {x : BS} {bs : List UInt8} {g r : Nat} (h : Aw2 x bs g r) (hr : r ≠ 4) (hg : g < 1000) : Good (x.root 2 4) ∧ (x.root 2 4).now ≠ (x.root 2 4).kept ∧ nth (x.root 2 4).now 0 + 1 < 18446744073709551616 ∧
    ∀ y, Com (x.root 2 4) y → Aw2 ((x.root 2 4).com y) bs (g + 1) 4 := by
  have e : ∀ j, nth (x.root 2 4).now j = if j = 4 then 4 else nth x.now j := fun j => set_nth h.gd.nok.len 4 4 j (by omega)
  have e0 : nth (x.root 2 4).now 0 = g := by rw [e, if_neg (by omega)]; exact h.now0
  have e4 : nth (x.root 2 4).now 4 = 4 := by rw [e, if_pos rfl]
  refine ⟨h.gd.setroot (by omega) (by omega) (by rw [h.n]; omega), fun k => ?_, by rw [e0]; omega, fun y hy => ?_⟩
  · rw [k] at e4
    have : nth x.kept 4 = 4 := e4
    rw [← h.same, h.now4] at this
    exact hr this
  · have hnp := hy.page h.no (by show x.q.s.cnt 4 ≠ 0; rw [h.cnt]; decide)
    have hc : y.q.s.cnt 4 = 1 := (hy.cnt h.no hnp).trans h.cnt
    have hh := hy.has (p := 4) (by show 4 < x.n; rw [h.n]; omega) (by omega) (by show x.q.s.cnt 4 ≠ 0; rw [h.cnt]; decide)
    have hl := hy.len2
    refine ⟨hy.good, hy.yn.trans h.n, ?_, ?_, hl.trans h.l2, hnp, hc, hc, rfl, ?_, idle_keep _, rfl⟩
    · show nth (nextS _ y) 0 = g + 1
      rw [hy.next0, e0]
    · show nth (nextS _ y) 4 = 4
      rw [hy.nth, if_neg (by omega), if_neg (by rw [hl, show (x.root 2 4).l2 = x.l2 from rfl, h.l2]; omega), e4]
    · have e : (x.root 2 4).has 4 = bs := by unfold BS.has; rw [show (x.root 2 4).fr 4 = none from h.fr]; exact h.has
      rw [e] at hh
      exact hh
end Go.Proofs.YtogchamogbendaaGreat.Bs
