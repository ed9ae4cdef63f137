/- Operations that come in; a pick and the reference's side by side. -/
import Derived.Test.YtlemjegngnfanaaPrC
namespace Go.Proofs.Ytlemjegngnfanaa.Tl
open Go.RowKit Go.Proofs.Ytlemjegngnfanaa.Oct Go.Proofs.Ytlemjegngnfanaa.Mv Go.Maps Go.ChangeShapes Go.WideShapes Go.ChangeAt
set_option linter.unusedVariables false
section
variable {H : Type} {enc : TypeId × Value → H} {W : World}
end
end Go.Proofs.Ytlemjegngnfanaa.Tl
namespace Go.Proofs.Ytlemjegngnfanaa.Pk
open Go.RowKit Go.Proofs.Ytlemjegngnfanaa.Oct Go.Proofs.Ytlemjegngnfanaa.Mv Go.Proofs.Ytlemjegngnfanaa.Tl Go.Maps
set_option linter.unusedVariables false

/-- The reference's pick in the variable x: its five cells. -/
def rrow (n : Nat) (q : Q) (b1 c1 b2 c2 : Nat) : List Value := [.slice (some ⟨b1, 0, none⟩) n c1, .slice (some ⟨b2, 0, none⟩) n c2, .int .i64 (q.first : Int), .int .i64 (q.next : Int), .int .i64 (q.asked : Int)]
/-- A pick and the reference's: both have the same state. -/
structure PBoth (w : World) (p ta cb mb c n x : Nat) (q : Q) (b1 c1 b2 c2 : Nat) : Prop where
  pat : PAt w p ta cb mb c q
  rat : RAt w b1 c1 b2 c2 q.s
  row : RowV w x 37 (rrow n q b1 c1 b2 c2)
  hn : q.s.n = n
theorem PAt.ne_rrow {w : World} {p ta cb mb c x : Nat} {q : Q} {vs : List Value} (h : PAt w p ta cb mb c q) (k : RowV w x 37 vs) : x ≠ p ∧ x ≠ ta ∧ x ≠ cb ∧ x ≠ mb := by
  obtain ⟨sp, k2⟩ := h.tally.nums
  obtain ⟨_, _, h1, _⟩ := h.tally.mp
  exact ⟨row_ne k h.row (by decide), row_ne k h.tally.row (by decide), row_ne k k2 (by decide), own_row h1 k⟩
theorem PAt.setOther {w : World} {p a cb mb c g : Nat} {q : Q} (h : PAt w p a cb mb c q) (hg : g ≠ p ∧ g ≠ a ∧ g ≠ cb ∧ g ≠ mb) (i : Nat) (v : Value) : PAt (w.setCell ⟨g, i, none⟩ v) p a cb mb c q :=
  h.blocks (heap_setCell_other _ _ _ _ (fun e => hg.1 e.symm)) (heap_setCell_other _ _ _ _ (fun e => hg.2.1 e.symm)) (heap_setCell_other _ _ _ _ (fun e => hg.2.2.1 e.symm)) (heap_setCell_other _ _ _ _ (fun e => hg.2.2.2 e.symm))
theorem RAt.ne_rrow {w : World} {b1 c1 b2 c2 x n d1 e1 d2 e2 : Nat} {s : St} {q : Q} (h : RAt w b1 c1 b2 c2 s) (k : RowV w x 37 (rrow n q d1 e1 d2 e2)) : b1 ≠ x ∧ b2 ≠ x := by
  have h0 : 0 < s.n := h.ok.lo
  have q1 := h.cnt h0
  have q2 := h.was h0
  have q3 := k.cellAt (i := 0) rfl
  constructor
  · rintro rfl; rw [q1] at q3; cases q3
  · rintro rfl; rw [q2] at q3; cases q3
section
variable {w w' : World} {p ta cb mb c n x b1 c1 b2 c2 : Nat} {q : Q}
theorem PBoth.below (h : PBoth w p ta cb mb c n x q b1 c1 b2 c2) (k : Below w.heap.size w w') : PBoth w' p ta cb mb c n x q b1 c1 b2 c2 := ⟨h.pat.kept k, h.rat.below k, h.row.below h.row.lt k, h.hn⟩
theorem PBoth.still (h : PBoth w p ta cb mb c n x q b1 c1 b2 c2) (k : Still w w') : PBoth w' p ta cb mb c n x q b1 c1 b2 c2 := h.below (k.below _)
/-- The pick has turned, the reference's not yet. -/
theorem PBoth.turn (h : PBoth w p ta cb mb c n x q b1 c1 b2 c2) (k : But3 w w' cb mb p) : RAt w' b1 c1 b2 c2 q.s ∧ RowV w' x 37 (rrow n q b1 c1 b2 c2) := by
  have a1 := h.rat.apart h.pat.tally
  have a2 := h.pat.ne_rrow h.row
  have h0 : 0 < q.s.n := h.rat.ok.lo
  have q1 := h.rat.cnt h0
  have q2 := h.rat.was h0
  have q3 := h.pat.c0
  have n1 : b1 ≠ p := by rintro rfl; rw [q1] at q3; cases q3
  have n2 : b2 ≠ p := by rintro rfl; rw [q2] at q3; cases q3
  exact ⟨⟨h.rat.now.block (k.block _ h.rat.lt1 a1.1 a1.2.1 n1), h.rat.kept.block (k.block _ h.rat.lt2 a1.2.2.1 a1.2.2.2 n2), h.rat.ok⟩, h.row.block (k.block _ h.row.lt a2.2.2.1 a2.2.2.2 a2.1)⟩
theorem PBoth.turn2 (h : PBoth w p ta cb mb c n x q b1 c1 b2 c2) (k : But w w' cb mb) : RAt w' b1 c1 b2 c2 q.s ∧ RowV w' x 37 (rrow n q b1 c1 b2 c2) := h.turn (But3.of_but p k)
/-- The reference's is written into its variable. -/
theorem PBoth.next5 {q' : Q} {d1 e1 d2 e2 : Nat} (h1 : PAt w p ta cb mb c q') (h2 : RAt w d1 e1 d2 e2 q'.s) (h3 : RowV w x 37 (rrow n q b1 c1 b2 c2)) (h4 : q'.s.n = n) :
    PBoth (((((w.setCell ⟨x, 0, none⟩ (.slice (some ⟨d1, 0, none⟩) n e1)).setCell ⟨x, 1, none⟩ (.slice (some ⟨d2, 0, none⟩) n e2)).setCell ⟨x, 2, none⟩ (.int .i64 (q'.first : Int))).setCell ⟨x, 3, none⟩ (.int .i64 (q'.next : Int))).setCell ⟨x, 4, none⟩ (.int .i64 (q'.asked : Int))) p ta cb mb c n x q' d1 e1 d2 e2 := by
  have a := h1.ne_rrow h3
  have r := RAt.ne_rrow h2 h3
  exact ⟨((((h1.setOther a _ _).setOther a _ _).setOther a _ _).setOther a _ _).setOther a _ _, RAt.off (RAt.off (RAt.off (RAt.off (RAt.off h2 r.1 r.2 _ _) r.1 r.2 _ _) r.1 r.2 _ _) r.1 r.2 _ _) r.1 r.2 _ _, ((((h3.set 0 _).set 1 _).set 2 _).set 3 _).set 4 _, h4⟩
theorem PBoth.next2 {s' : St} {d1 e1 d2 e2 : Nat} (h1 : PAt w p ta cb mb c ⟨s', q.first, q.next, q.asked⟩) (h2 : RAt w d1 e1 d2 e2 s') (h3 : RowV w x 37 (rrow n q b1 c1 b2 c2)) (h4 : s'.n = n) :
    PBoth ((w.setCell ⟨x, 0, none⟩ (.slice (some ⟨d1, 0, none⟩) n e1)).setCell ⟨x, 1, none⟩ (.slice (some ⟨d2, 0, none⟩) n e2)) p ta cb mb c n x ⟨s', q.first, q.next, q.asked⟩ d1 e1 d2 e2 := by
  have a := h1.ne_rrow h3
  have r := RAt.ne_rrow h2 h3
  exact ⟨(h1.setOther a _ _).setOther a _ _, RAt.off (RAt.off h2 r.1 r.2 _ _) r.1 r.2 _ _, (h3.set 0 _).set 1 _, h4⟩
/-- Both take. -/
theorem take_both (h : PBoth w p ta cb mb c n x q b1 c1 b2 c2) :
    Calls Try.prog 15 #[.pointer (some ⟨p, 0, none⟩)] w fun e w' => ∃ b r, ∃ q' : Q, e = .returned (.tuple #[.int .i64 ((b : Nat) : Int), .int .i64 r]) ∧ PAt w' p ta cb mb c q' ∧ q'.s.n = n ∧ But3 w w' cb mb p ∧
      ∀ v, RAt v b1 c1 b2 c2 q.s → Calls Try.prog 16 #[.agg #[.slice (some ⟨b1, 0, none⟩) n c1, .slice (some ⟨b2, 0, none⟩) n c2, .int .i64 (q.first : Int), .int .i64 (q.next : Int), .int .i64 (q.asked : Int)]] v fun e v' => ∃ k1 l1, e = .returned (.tuple #[.agg #[.slice (some ⟨k1, 0, none⟩) n l1, .slice (some ⟨b2, 0, none⟩) n c2, .int .i64 (q'.first : Int), .int .i64 (q'.next : Int), .int .i64 (q'.asked : Int)], .int .i64 ((b : Nat) : Int), .int .i64 r]) ∧ RAt v' k1 l1 b2 c2 q'.s ∧ Below v.heap.size v v' := by
  have hn := h.hn
  refine (take_at h.pat).mono fun e w' ⟨b, ok, h1, h2, h3, h4⟩ => ?_
  cases ok
  · refine ⟨b, 90, q, h1, h3, hn, h4, fun v hv => ?_⟩
    have e0 : q.room = 0 := (room_zero h.pat.ok).2 h2.2
    have := rtake_no hv h.pat.ok e0
    unfold rpv at this
    rw [hn] at this
    refine this.mono fun e v' ⟨k1, k2⟩ => ⟨b1, c1, ?_, hv.below k2, k2⟩
    rw [k1, h2.1]
    rfl
  · refine ⟨b, 0, q.took b, h1, h3, by rw [n_took]; exact hn, h4, fun v hv => ?_⟩
    have hp : 0 < q.room := by
      have := look_room h.pat.ok h2
      exact of_decide_eq_true this.symm
    have := rtake_yes hv h.pat.ok hp
    unfold rpv at this
    rw [hn] at this
    refine this.mono fun e v' ⟨d, k1, l1, m1, m2, m3, m4⟩ => ?_
    obtain rfl := found_one m2 h2
    refine ⟨k1, l1, ?_, m3, m4⟩
    rw [m1, n_took, hn]
theorem s_ask (q : Q) (m : Int) : (q.ask m).2.s = q.s := by
  unfold Q.ask
  split
  · rfl
  · split <;> rfl
theorem s_done (q : Q) (m : Int) : (q.done m).2.s = q.s := by
  unfold Q.done
  split
  · rfl
  · split <;> rfl
theorem rroom' (h : RAt w b1 c1 b2 c2 q.s) (hok : q.Ok) (hn : q.s.n = n) :
    Calls Try.prog 41 #[.agg #[.slice (some ⟨b1, 0, none⟩) n c1, .slice (some ⟨b2, 0, none⟩) n c2, .int .i64 (q.first : Int), .int .i64 (q.next : Int), .int .i64 (q.asked : Int)]] w fun e w' => e = .returned (.int .i64 (q.room : Int)) ∧ Below w.heap.size w w' := by
  have := rroom_at h hok
  unfold rpv at this
  rw [hn] at this
  exact this
end
section
variable {w : World} {n b1 c1 b2 c2 : Nat} {s : St}
theorem radd_up' (h : RAt w b1 c1 b2 c2 s) (hn : s.n = n) (b : Int) :
    Calls Try.prog 18 #[.agg #[.slice (some ⟨b1, 0, none⟩) n c1, .slice (some ⟨b2, 0, none⟩) n c2], .int .i64 b, .int .i64 1] w fun e w' => ∃ d1 e1, e = .returned (.tuple #[.agg #[.slice (some ⟨d1, 0, none⟩) n e1, .slice (some ⟨b2, 0, none⟩) n c2], .int .i64 (s.up b).1]) ∧ RAt w' d1 e1 b2 c2 (s.up b).2 ∧ Below w.heap.size w w' := by
  have := radd_up h b
  rw [hn] at this
  exact this
theorem radd_down' (h : RAt w b1 c1 b2 c2 s) (hn : s.n = n) (b : Int) :
    Calls Try.prog 18 #[.agg #[.slice (some ⟨b1, 0, none⟩) n c1, .slice (some ⟨b2, 0, none⟩) n c2], .int .i64 b, .int .i64 (-1)] w fun e w' => ∃ d1 e1, e = .returned (.tuple #[.agg #[.slice (some ⟨d1, 0, none⟩) n e1, .slice (some ⟨b2, 0, none⟩) n c2], .int .i64 (s.down b).1]) ∧ RAt w' d1 e1 b2 c2 (s.down b).2 ∧ Below w.heap.size w w' := by
  have := radd_down h b
  rw [hn] at this
  exact this
theorem rkeep' (h : RAt w b1 c1 b2 c2 s) (hn : s.n = n) :
    Calls Try.prog 21 #[.agg #[.slice (some ⟨b1, 0, none⟩) n c1, .slice (some ⟨b2, 0, none⟩) n c2]] w fun e w' => e = .returned (.agg #[.slice (some ⟨b1, 0, none⟩) n c1, .slice (some ⟨b1, 0, none⟩) n c1]) ∧ RAt w' b1 c1 b1 c1 s.keep ∧ Below w.heap.size w w' := by
  have := rkeep_any h
  rw [hn] at this
  exact this
end
end Go.Proofs.Ytlemjegngnfanaa.Pk

