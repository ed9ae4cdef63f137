/- A block is handed out: Take. -/
import Derived.Test.YtlemjegngnfanaaPkC
namespace Go.Proofs.Ytlemjegngnfanaa.Pk
open Go.RowKit Go.Proofs.Ytlemjegngnfanaa.Oct Go.Proofs.Ytlemjegngnfanaa.Mv Go.Proofs.Ytlemjegngnfanaa.Tl Go.Maps
set_option linter.unusedVariables false

/-- Block b was handed out. -/
def Q.took (q : Q) (b : Nat) : Q := ⟨q.s.put b (q.s.cnt b + 1), q.first, if b + 1 = q.s.n then q.first else b + 1, q.asked⟩
theorem Q.Found.lo {q : Q} {b : Nat} (h : q.Found b) (hok : q.Ok) : q.first ≤ b := by
  have := hok.le
  rcases h.2.2 with ⟨h1, _⟩ | ⟨_, h1, _⟩ <;> omega
theorem Q.Ok.took {q : Q} (h : q.Ok) {b : Nat} (hb : q.Found b) : (q.took b).Ok := by
  have h1 := hb.lo h
  have h2 := hb.1
  have hf := h.first
  refine ⟨h.s.put _ _, ?_, ?_, ?_, ?_⟩
  · show q.first ≤ (q.s.put b _).n
    rw [n_put]
    exact hf
  · show q.first ≤ if b + 1 = q.s.n then q.first else b + 1
    split <;> omega
  · show (if b + 1 = q.s.n then q.first else b + 1) < (q.s.put b _).n ∨ (if b + 1 = q.s.n then q.first else b + 1) = q.first
    rw [n_put]
    split <;> omega
  · show q.asked ≤ (q.s.put b _).n
    rw [n_put]
    exact h.asked
theorem cnt_free {s : St} {j : Nat} (h : s.free j = true) : s.cnt j = 0 := by
  unfold St.free at h
  have := (Bool.and_eq_true _ _ ▸ h).1
  simpa using this
theorem up_free {s : St} {b : Nat} (hb : b < s.n) (hf : s.free b = true) : s.up (b : Int) = (0, s.put b (s.cnt b + 1)) := by
  unfold St.up
  rw [if_pos ⟨by omega, by omega⟩, Int.toNat_natCast, if_neg (by rw [cnt_free hf]; decide)]
theorem take_nay (v : Value) (w : World) (h : PNay w v) :
    Calls Try.prog 15 #[v] w fun e w' => e = .returned (.tuple #[.int .i64 0, .int .i64 1]) ∧ w = w' := by
  go_enter Try.func15, Try.ntmps15
  go_wp2_with fail
  refine (pmade_nay v _ h).mono ?_
  rintro e w' ⟨rfl, rfl⟩
  go_wp2_with fail
  go_ret2
  exact ⟨rfl, rfl⟩
/-- What Take answers, and what comes of it. -/
def Took (w : World) (p a cb mb c : Nat) (q : Q) (e : Ending) (w' : World) : Prop :=
  ∃ b ok, e = .returned (.tuple #[.int .i64 ((b : Nat) : Int), .int .i64 (if ok then 0 else 90)]) ∧ q.Look b ok ∧ PAt w' p a cb mb c (if ok then q.took b else q) ∧ But3 w w' cb mb p
set_option maxRecDepth 100000 in
set_option maxHeartbeats 1000000 in
theorem take_at {w : World} {p a cb mb c : Nat} {q : Q} (h : PAt w p a cb mb c q) :
    Calls Try.prog 15 #[.pointer (some ⟨p, 0, none⟩)] w (Took w p a cb mb c q) := by
  have H := Lib.hid h
  have c4 := h.c4
  have hn : q.s.n ≤ 4096 := h.ok.s.hi
  clear h
  go_enter Try.func15, Try.ntmps15
  go_wp2_with fail
  refine (pmade_self p _ c4).mono ?_
  rintro e w' ⟨rfl, rfl⟩
  go_wp2_with fail
  refine (look_at H.out).mono ?_
  rintro e w1 ⟨b, ok, rfl, hL, B1⟩
  have HB1 := Lib.hid (But3.of_below cb mb p B1 (Nat.le_refl _))
  have H1 := Lib.hid (H.out.kept B1)
  have HL := Lib.hid hL
  clear hL B1 c4 H
  cases ok
  · go_wp2_with fail
    go_ret2
    obtain ⟨rfl, hN⟩ := HL.out
    exact ⟨0, false, rfl, ⟨rfl, hN⟩, H1.out, HB1.out⟩
  · have HF := Lib.hid (show q.Found b from HL.out)
    have hbn := HF.out.1
    have HU := Lib.hid (up_free HF.out.1 HF.out.2.1)
    have HO := Lib.hid (H1.out.ok.took HF.out)
    have c0 := H1.out.c0
    clear HL
    go_upto_region 6 with (fail)
    go_wp2_with fail
    refine (up_at H1.out.tally _).mono ?_
    rintro e w2 ⟨rfl, az, bz⟩
    rw [HU.out] at az ⊢
    have HA := Lib.hid (show At w2 a cb mb c (q.s.put b (q.s.cnt b + 1)) from az)
    have HR2 := Lib.hid (H1.out.row.block (bz.block p H1.out.row.lt H1.out.p_cb H1.out.p_mb))
    have HB2 := Lib.hid (HB1.out.trans (But3.of_but p bz))
    have HP := Lib.hid (And.intro H1.out.p_a (And.intro H1.out.p_cb H1.out.p_mb))
    clear c0 az bz HB1 H1
    dsimp only
    have c2 := HR2.out.cellAt (i := 2) rfl
    have f2 := HR2.out.free 2
    go_upto_region 8 with (fail)
    have HR3 := Lib.hid (show RowV (w2.setCell ⟨p, 2, none⟩ (.int .i64 ((b + 1 : Nat) : Int))) p 85 (pcells p a ⟨q.s, q.first, b + 1, q.asked⟩) from HR2.out.set 2 _)
    have HA3 := Lib.hid (HA.out.blocks (w' := w2.setCell ⟨p, 2, none⟩ (.int .i64 ((b + 1 : Nat) : Int))) (heap_setCell_other _ _ _ _ (fun e => HP.out.1 e.symm)) (heap_setCell_other _ _ _ _ (fun e => HP.out.2.1 e.symm)) (heap_setCell_other _ _ _ _ (fun e => HP.out.2.2 e.symm)))
    have HB3 := Lib.hid (HB2.out.trans (But3.set w2 cb mb p 2 (.int .i64 ((b + 1 : Nat) : Int))))
    have e1 : ((b : Int) + 1) = ((b + 1 : Nat) : Int) := by omega
    rw [e1]
    clear e1 c2 f2 HR2 HB2 HA
    generalize w2.setCell ⟨p, 2, none⟩ (.int .i64 ((b + 1 : Nat) : Int)) = w3 at *
    have c0 := HR3.out.cellAt (i := 0) rfl
    have c2 := HR3.out.cellAt (i := 2) rfl
    go_quiet ((go_at_call 32; exact Calls.quiet_of_same (calls_flip (blocks_at (HA3.out.drewN _)))))
    have HAN := Lib.hid (HA3.out.drewN nq)
    have HRN := Lib.hid (show RowV (w3.drewN nq) p 85 (pcells p a ⟨q.s, q.first, b + 1, q.asked⟩) from HR3.out)
    have HBN := Lib.hid (HB3.out.trans (But3.still (p := cb) (q := mb) (r := p) (show Still w3 (w3.drewN nq) from ⟨rfl, rfl, rfl, rfl⟩)))
    clear c0 c2 HA3 HR3 HB3
    generalize w3.drewN nq = w4 at *
    have hnn : (q.s.put b (q.s.cnt b + 1)).n = q.s.n := n_put _ _ _
    rw [hnn]
    clear hnn
    by_cases he : b + 1 = q.s.n
    · have hei : ((b + 1 : Nat) : Int) = (q.s.n : Int) := by omega
      have HT := Lib.hid (show q.took b = ⟨q.s.put b (q.s.cnt b + 1), q.first, q.first, q.asked⟩ by unfold Q.took; rw [if_pos he])
      have c1 := HRN.out.cellAt (i := 1) rfl
      have c2 := HRN.out.cellAt (i := 2) rfl
      have f2 := HRN.out.free 2
      go_wp2_with fail
      go_ret2
      have HO2 := HO.out
      refine ⟨b, true, rfl, HF.out, ?_, HBN.out.trans (But3.set _ _ _ _ _ _)⟩
      rw [if_pos rfl]
      rw [HT.out] at HO2 ⊢
      exact ⟨HRN.out.set 2 _, HAN.out.blocks (heap_setCell_other _ _ _ _ (fun e => HP.out.1 e.symm)) (heap_setCell_other _ _ _ _ (fun e => HP.out.2.1 e.symm)) (heap_setCell_other _ _ _ _ (fun e => HP.out.2.2 e.symm)), HO2⟩
    · have hei : ¬ ((b + 1 : Nat) : Int) = (q.s.n : Int) := by omega
      have HT := Lib.hid (show q.took b = ⟨q.s.put b (q.s.cnt b + 1), q.first, b + 1, q.asked⟩ by unfold Q.took; rw [if_neg he])
      go_wp2_with fail
      go_ret2
      have HO2 := HO.out
      refine ⟨b, true, rfl, HF.out, ?_, HBN.out⟩
      rw [if_pos rfl]
      rw [HT.out] at HO2 ⊢
      exact ⟨HRN.out, HAN.out, HO2⟩
end Go.Proofs.Ytlemjegngnfanaa.Pk

