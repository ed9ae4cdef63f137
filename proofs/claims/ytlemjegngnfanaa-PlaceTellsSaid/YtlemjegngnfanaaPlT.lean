/- The chapter's examples: mathematics. -/
import Derived.Test.YtlemjegngnfanaaPlQ
namespace Go.Proofs.Ytlemjegngnfanaa.Pl
open Go.RowKit Go.Proofs.Ytlemjegngnfanaa.Oct Go.Proofs.Ytlemjegngnfanaa.Mv Go.Proofs.Ytlemjegngnfanaa.Tl Go.Proofs.Ytlemjegngnfanaa.Pk Go.Maps
set_option linter.unusedVariables false

theorem place_run {w : World} {p ta cb mb c : Nat} {q : Q} (hq : PAt w p ta cb mb c q) {A1 A2 : Option Addr} {c1 c2 : Nat} {l1 l2 : List Nat} (h1 : ToldV w A1 (ints l1)) (h2 : ToldV w A2 (ints l2)) (hyes : RightS q.s (toI l1) (toI l2)) (hroom : need q.s.n ≤ q.room) {y : Wk} (hy : (begin q l1 l2).Runs y) :
    Calls Try.prog 22 #[.pointer (some ⟨ta, 0, none⟩), .pointer (some ⟨p, 0, none⟩), shv A1 A2 l1.length l2.length c1 c2] w fun e w' => ∃ (g1 d1 g3 d3 : Nat) (v1 v2 : Value), e = .returned (.tuple #[.agg #[.slice (some ⟨g1, 0, none⟩) l1.length d1, .slice (some ⟨g3, 0, none⟩) l2.length d3], v1, v2, .int .i64 0]) ∧ PAt w' p ta cb mb c y.q ∧ (∃ sp, RowV w' g1 3 (ints y.l1 ++ sp)) ∧ (∃ sp, RowV w' g3 3 (ints y.l2 ++ sp)) ∧ List64 w' v1 (doneL y.f1) ∧ List64 w' v2 (doneL y.f2) ∧ w.heap.size ≤ g1 ∧ w.heap.size ≤ g3 ∧ ButL w w' [cb, mb, p] := by
  refine (place_yes hq h1 h2 hyes hroom).mono ?_
  rintro e w' ⟨z, g1, d1, g3, d3, v1, v2, h, hr, k1, k2, k3, k4, k5, k6, k7, k8⟩
  obtain rfl := hy.uniq hr
  exact ⟨g1, d1, g3, d3, v1, v2, h, k1, k2, k3, k4, k5, k6, k7, k8⟩
theorem place_eq {w : World} {p ta cb mb c : Nat} {q : Q} (hq : PAt w p ta cb mb c q) {A1 A2 : Option Addr} {c1 c2 n m : Nat} {l1 l2 : List Nat} (h1 : ToldV w A1 (ints l1)) (h2 : ToldV w A2 (ints l2)) (hyes : RightS q.s (toI l1) (toI l2)) (hroom : need q.s.n ≤ q.room) {y : Wk} (hn : l1.length = n) (hm : l2.length = m) (hy : (begin q l1 l2).Runs y) :
    Calls Try.prog 22 #[.pointer (some ⟨ta, 0, none⟩), .pointer (some ⟨p, 0, none⟩), shv A1 A2 n m c1 c2] w fun e w' => ∃ (g1 d1 g3 d3 : Nat) (v1 v2 : Value), e = .returned (.tuple #[.agg #[.slice (some ⟨g1, 0, none⟩) n d1, .slice (some ⟨g3, 0, none⟩) m d3], v1, v2, .int .i64 0]) ∧ PAt w' p ta cb mb c y.q ∧ (∃ sp, RowV w' g1 3 (ints y.l1 ++ sp)) ∧ (∃ sp, RowV w' g3 3 (ints y.l2 ++ sp)) ∧ List64 w' v1 (doneL y.f1) ∧ List64 w' v2 (doneL y.f2) ∧ w.heap.size ≤ g1 ∧ w.heap.size ≤ g3 ∧ ButL w w' [cb, mb, p] := by
  subst hn hm
  exact place_run hq h1 h2 hyes hroom hy
theorem runs_both {q q1 q2 : Q} {l d b1 b2 : Nat} (h : l = 0 ∨ onP q.s.changed 0) (m1 : Moved q l q1 b1) (m2 : Moved q1 d q2 b2) : (begin q [l] [d]).Runs ⟨q2, [b1], [true], [b2], [true]⟩ := by
  have no : ∀ (a : Nat) (S : Int → Prop), noP [a] [true] S := fun a S j hj => by
    obtain ⟨h1, h2, _⟩ := hj
    obtain rfl : j = 0 := by simpa using h1
    simp at h2
  refine .step (y := ⟨q1, [b1], [true], [d], [false]⟩) (.one 0 b1 q1 ?_ m1) (.step (y := ⟨q2, [b1], [true], [b2], [true]⟩) (.two 0 b2 q2 (no _ _) ?_ m2) (.done ⟨no _ _, no _ _⟩))
  · exact ⟨⟨by show 0 < 1; omega, rfl, h⟩, fun j hj => by omega⟩
  · exact ⟨⟨by show 0 < 1; omega, rfl, .inr ⟨0, by show 0 ∈ doneL [true]; decide, by decide⟩⟩, fun j hj => by omega⟩
theorem runs_none {q : Q} {l d : Nat} (hl : l ≠ 0) (hd : d ≠ 0) (hc : q.s.changed = []) : (begin q [l] [d]).Runs (begin q [l] [d]) := by
  refine .done ⟨fun j hj => ?_, fun j hj => ?_⟩
  · obtain ⟨h1, _, h2⟩ := hj
    obtain rfl : j = 0 := by simpa [begin] using h1
    rcases h2 with h | ⟨m, hm, _⟩
    · exact hl (by simpa [begin] using h)
    · rw [show (begin q [l] [d]).q = q from rfl, hc] at hm
      cases hm
  · obtain ⟨h1, _, h2⟩ := hj
    obtain rfl : j = 0 := by simpa [begin] using h1
    rcases h2 with h | ⟨m, hm, _⟩
    · exact hd (by simpa [begin] using h)
    · have := mem_done.1 hm
      rcases m with _ | m <;> simp [begin] at this

def aq1 : Q := (q0 16).took 2
def aq2 : Q := aq1.took 3
def ak : Q := Q.keep aq2
def au : Q := ⟨ak.s.put 9 (ak.s.cnt 9 + 1), ak.first, ak.next, ak.asked⟩
def av1 : Q := (down1 au 2).took 4
def av2 : Q := (down1 av1 3).took 5
theorem found_seek {q : Q} (hok : q.Ok) {b : Nat} (h : q.seek = some b) : q.Found b := seek_found hok h
theorem q0_ok : (q0 16).Ok := ⟨.new (by omega) (by omega), by show 2 ≤ (St.new 16).n; rw [n_new]; omega, Nat.le_refl _, .inr rfl, Nat.zero_le _⟩
theorem am1 : Moved (q0 16) 0 aq1 2 := ⟨by rw [down1_zero]; exact found_seek q0_ok (by decide), by rw [down1_zero]; rfl⟩
theorem aq1_ok : aq1.Ok := q0_ok.took (by have := am1.1; rwa [down1_zero] at this)
theorem am2 : Moved aq1 0 aq2 3 := ⟨by rw [down1_zero]; exact found_seek aq1_ok (by decide), by rw [down1_zero]; rfl⟩
theorem aq2_ok : aq2.Ok := aq1_ok.took (by have := am2.1; rwa [down1_zero] at this)
theorem arun1 : (begin (q0 16) [0] [0]).Runs ⟨aq2, [2], [true], [3], [true]⟩ := runs_both (.inl rfl) am1 am2
theorem ak_ok : ak.Ok := Q.Ok.keep aq2_ok
theorem arun2 : (begin ak [2] [3]).Runs (begin ak [2] [3]) := runs_none (by omega) (by omega) (changed_keep _)
theorem au_ok : au.Ok := ⟨ak_ok.s.put _ _, by show ak.first ≤ (ak.s.put _ _).n; rw [n_put]; exact ak_ok.first, ak_ok.le, by show ak.next < (ak.s.put _ _).n ∨ _; rw [n_put]; exact ak_ok.next, by show ak.asked ≤ (ak.s.put _ _).n; rw [n_put]; exact ak_ok.asked⟩
theorem amay1 : May1 au 2 := fun _ => by decide
theorem am3 : Moved au 2 av1 4 := ⟨found_seek (down1_ok au_ok amay1) (by decide), rfl⟩
theorem av1_ok : av1.Ok := (down1_ok au_ok amay1).took am3.1
theorem amay2 : May1 av1 3 := fun _ => by decide
theorem am4 : Moved av1 3 av2 5 := ⟨found_seek (down1_ok av1_ok amay2) (by decide), rfl⟩
theorem arun3 : (begin au [2] [3]).Runs ⟨av2, [4], [true], [5], [true]⟩ := runs_both (.inr ⟨9, by decide, by decide⟩) am3 am4
theorem aright1 : RightS (q0 16).s (toI [0]) (toI [0]) := right_zeros 16
theorem aroom : need 16 ≤ (q0 16).room ∧ need 16 ≤ ak.room ∧ need 16 ≤ au.room := by decide
theorem aright {s : St} (hn : s.n = 16) (h2 : s.cnt 2 = 1) (h3 : s.cnt 3 = 1) : RightS s (toI [2]) (toI [3]) :=
  right_of (by rw [hn]; rfl) (by rw [hn]; rfl) (fun i hi => by
    rw [hn]
    rcases i with _ | _ | i
    · exact ⟨by decide, h2⟩
    · exact ⟨by decide, h3⟩
    · simp at hi <;> omega) (fun i j hi hj hne => by
    rcases i with _ | _ | i
    · rcases j with _ | _ | j
      · exact absurd rfl hne
      · decide
      · simp at hj <;> omega
    · rcases j with _ | _ | j
      · decide
      · exact absurd rfl hne
      · simp at hj <;> omega
    · simp at hi <;> omega)
theorem aright2 : RightS ak.s (toI [2]) (toI [3]) := aright (by decide) (by decide) (by decide)
theorem aright3 : RightS au.s (toI [2]) (toI [3]) := aright (by decide) (by decide) (by decide)
theorem acnt : aq2.s.n = 16 ∧ aq2.s.cnt 1 = 0 ∧ aq2.s.cnt 2 = 1 ∧ aq2.s.cnt 3 = 1 ∧ av2.s.n = 16 ∧ av2.s.cnt 2 = 0 ∧ av2.s.cnt 3 = 0 ∧ ak.s.n = 16 ∧ (ak.s.cnt 9).toNat < 65535 ∧ au.s.n = 16 := by decide
theorem part_at {s : St} {p j : Nat} (h : j < many s p) : (part s p).getD j 0 = s.cnt (p * 61 + j) := by
  simp [part, h]
end Go.Proofs.Ytlemjegngnfanaa.Pl
