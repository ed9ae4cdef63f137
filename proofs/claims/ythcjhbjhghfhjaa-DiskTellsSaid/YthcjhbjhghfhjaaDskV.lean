/- Plain mathematics of a disk: what stands behind writes, flushes and crashes. -/
import Derived.Test.YthcjhbjhghfhjaaDskS
namespace Go.Proofs.Ythcjhbjhghfhjaa.Dsk
open Go.RowKit Go.Proofs.Ythcjhbjhghfhjaa.Oct
set_option linter.unusedVariables false

theorem length_stand {s : St} (h : s.B.length = s.n * 128) (p : Nat) (hp : p < s.n) : (s.stand p).length = 128 := by
  simp [St.stand]
  omega
theorem lay_len (s : St) (p : Nat) (cs : List UInt8) (h : s.B.length = s.n * 128) (hp : p < s.n) (hc : cs.length ≤ 128) : (s.lay p cs).B.length = (s.lay p cs).n * 128 := by
  show (splice s.B (p * 128) cs).length = s.n * 128
  rw [length_splice _ _ _ (by omega), h]
theorem stand_lay_same (s : St) (p : Nat) (cs : List UInt8) (h : s.B.length = s.n * 128) (hp : p < s.n) (hc : cs.length ≤ 128) : (s.lay p cs).stand p = cs ++ (s.stand p).drop cs.length := by
  show ((splice s.B (p * 128) cs).drop (p * 128)).take 128 = cs ++ ((s.B.drop (p * 128)).take 128).drop cs.length
  unfold splice
  have h1 : (s.B.take (p * 128)).length = p * 128 := by simp; omega
  rw [List.drop_append_of_le_length (by omega), List.drop_of_length_le (by omega), List.nil_append, List.take_append, List.take_of_length_le hc, List.drop_take, List.drop_drop]
theorem stand_lay_other (s : St) (p q : Nat) (cs : List UInt8) (h : s.B.length = s.n * 128) (hp : p < s.n) (hc : cs.length ≤ 128) (hne : p ≠ q) (hq : q < s.n) : (s.lay p cs).stand q = s.stand q := by
  show ((splice s.B (p * 128) cs).drop (q * 128)).take 128 = (s.B.drop (q * 128)).take 128
  unfold splice
  have h1 : (s.B.take (p * 128)).length = p * 128 := by simp; omega
  rcases Nat.lt_or_ge q p with hlt | hge
  · rw [List.drop_append_of_le_length (by omega), List.take_append_of_le_length (by simp; omega), List.drop_take, List.take_take]
    congr 1
    omega
  · rw [List.drop_append, List.drop_of_length_le (by omega), List.nil_append, List.drop_append, List.drop_of_length_le (by omega), List.nil_append, List.drop_drop]
    congr 2
    omega
theorem laid_len (s : St) (f : Nat → Nat) (k : Nat) (h : s.B.length = s.n * 128) (hw : ∀ x, x ∈ s.W → x.1 < s.n ∧ x.2.length = 128) : (laid s f k).B.length = s.n * 128 := by
  induction k with
  | zero => exact h
  | succ k ih =>
    unfold laid
    split
    · rename_i x hx
      have hm := hw x (List.mem_of_getElem? hx)
      have hn := (laid_frame s f k).1
      have := lay_len (laid s f k) x.1 (x.2.take (f k)) (by rw [hn]; exact ih) (by rw [hn]; exact hm.1) (by rw [List.length_take]; omega)
      rw [this]
      show (laid s f k).n * 128 = _
      rw [hn]
    · exact ih
/-- Laid as a whole, a block has what the last write of it had. -/
theorem stand_whole (s : St) (f : Nat → Nat) (k : Nat) (h : s.B.length = s.n * 128) (hw : ∀ x, x ∈ s.W → x.1 < s.n ∧ x.2.length = 128) (hf : ∀ i, i < k → 128 ≤ f i) (q : Nat) (hq : q < s.n) (hk : k ≤ s.W.length) :
    (laid s f k).stand q = (last? (s.W.take k) q).getD (s.stand q) := by
  induction k with
  | zero => simp [laid, last?_nil]
  | succ k ih =>
    have hlt : k < s.W.length := by omega
    have hm := hw s.W[k] (List.getElem_mem hlt)
    have hn := (laid_frame s f k).1
    have hl := laid_len s f k h hw
    rw [laid_succ s f k hlt, take_snoc s.W k hlt, last?_snoc, List.take_of_length_le (by rw [hm.2]; exact hf k (by omega))]
    by_cases hp : s.W[k].1 = q
    · rw [if_pos hp, hp, stand_lay_same _ _ _ (by rw [hn]; exact hl) (by rw [hn]; omega) (by omega), List.drop_of_length_le (by rw [length_stand (by rw [hn]; exact hl) _ (by rw [hn]; omega)]; omega), List.append_nil]
      rfl
    · rw [if_neg hp, stand_lay_other _ _ _ _ (by rw [hn]; exact hl) (by rw [hn]; omega) (by omega) hp (by rw [hn]; omega)]
      exact ih (fun i hi => hf i (by omega)) (by omega)
/-- Nothing laid, all stands. -/
theorem stand_none (s : St) (f : Nat → Nat) (k : Nat) (h : s.B.length = s.n * 128) (hw : ∀ x, x ∈ s.W → x.1 < s.n ∧ x.2.length = 128) (hf : ∀ i, i < k → f i = 0) (q : Nat) (hq : q < s.n) :
    (laid s f k).stand q = s.stand q := by
  induction k with
  | zero => rfl
  | succ k ih =>
    have ih' := ih (fun i hi => hf i (by omega))
    unfold laid
    split
    · rename_i x hx
      have hm := hw x (List.mem_of_getElem? hx)
      have hn := (laid_frame s f k).1
      have hl := laid_len s f k h hw
      rw [hf k (by omega), List.take_zero]
      by_cases hp : x.1 = q
      · rw [hp, stand_lay_same _ _ _ (by rw [hn]; exact hl) (by rw [hn]; omega) (by simp)]
        simpa using ih'
      · rw [stand_lay_other _ _ _ _ (by rw [hn]; exact hl) (by rw [hn]; omega) (by simp) hp (by rw [hn]; omega)]
        exact ih'
    · exact ih'
/-- Whatever is laid, each byte is one that stood, or one of a write of that block. -/
theorem stand_any (s : St) (f : Nat → Nat) (k : Nat) (h : s.B.length = s.n * 128) (hw : ∀ x, x ∈ s.W → x.1 < s.n ∧ x.2.length = 128) (q : Nat) (hq : q < s.n) (x : UInt8) (hx : x ∈ (laid s f k).stand q) :
    x ∈ s.stand q ∨ ∃ y, y ∈ s.W ∧ y.1 = q ∧ x ∈ y.2 := by
  induction k with
  | zero => exact .inl hx
  | succ k ih =>
    unfold laid at hx
    split at hx
    · rename_i y hy
      have hmem := List.mem_of_getElem? hy
      have hm := hw y hmem
      have hn := (laid_frame s f k).1
      have hl := laid_len s f k h hw
      have hcl : (y.2.take (f k)).length ≤ 128 := by rw [List.length_take]; omega
      by_cases hp : y.1 = q
      · rw [hp, stand_lay_same _ _ _ (by rw [hn]; exact hl) (by rw [hn]; omega) hcl] at hx
        rcases List.mem_append.1 hx with hx | hx
        · exact .inr ⟨y, hmem, hp, List.mem_of_mem_take hx⟩
        · exact ih (List.mem_of_mem_drop hx)
      · rw [stand_lay_other _ _ _ _ (by rw [hn]; exact hl) (by rw [hn]; omega) hcl hp (by rw [hn]; omega)] at hx
        exact ih hx
    · exact ih hx

/-! ### The disk of the statements -/
def lastB (l : List (UInt8 × UInt8)) (q : Nat) : UInt8 := l.foldl (fun b p => if p.1.toNat % 16 = q then p.2 else b) 0
theorem lastB_snoc (l : List (UInt8 × UInt8)) (p : UInt8 × UInt8) (q : Nat) : lastB (l ++ [p]) q = if p.1.toNat % 16 = q then p.2 else lastB l q := by simp [lastB, List.foldl_append]
def wr1 (p : UInt8 × UInt8) : Nat × List UInt8 := (p.1.toNat % 16, fill1 p.2)
theorem wr1_ok (l : List (UInt8 × UInt8)) : ∀ x, x ∈ l.map wr1 → x.1 < 16 ∧ x.2.length = 128 := fun x hx => by
  obtain ⟨p, _, rfl⟩ := List.mem_map.1 hx
  exact ⟨lt16 p.1, length_fill1 _⟩
theorem last_wr (l : List (UInt8 × UInt8)) (q : Nat) (b : UInt8) : (last? (l.map wr1) q).getD (fill1 b) = fill1 (l.foldl (fun b p => if p.1.toNat % 16 = q then p.2 else b) b) := by
  induction l using snoc_ind with
  | h0 => rfl
  | h1 l p ih =>
    rw [List.map_append, List.map_singleton, last?_snoc, List.foldl_append]
    by_cases h : p.1.toNat % 16 = q
    · rw [if_pos (show (wr1 p).1 = q from h)]
      simp [wr1, h]
    · rw [if_neg (show ¬ (wr1 p).1 = q from h), ih]
      simp [h]
structure Stood (s : St) (W : List (UInt8 × UInt8)) (f : List (UInt8 × UInt8)) : Prop where
  n : s.n = 16
  len : s.B.length = s.n * 128
  W : s.W = W.map wr1
  stand : ∀ q, q < 16 → s.stand q = fill1 (lastB f q)
theorem Stood.ok {s : St} {W f : List (UInt8 × UInt8)} (h : Stood s W f) : ∀ x, x ∈ s.W → x.1 < s.n ∧ x.2.length = 128 := fun x hx => by
  rw [h.W] at hx
  rw [h.n]
  exact wr1_ok W x hx
theorem Stood.says {s : St} {W f : List (UInt8 × UInt8)} (h : Stood s W f) (q : Nat) (hq : q < 16) : s.says q = fill1 (lastB (f ++ W) q) := by
  unfold St.says
  rw [h.W, h.stand q hq, last_wr]
  simp [lastB, List.foldl_append]
theorem stood_fresh : Stood (fresh 16) [] [] := by
  refine ⟨rfl, ?_, rfl, fun q hq => ?_⟩
  · show (List.replicate (16 * 128) (0 : UInt8)).length = 16 * 128
    exact List.length_replicate
  · show ((List.replicate (16 * 128) (0 : UInt8)).drop (q * 128)).take 128 = List.replicate 128 0
    rw [List.drop_replicate, List.take_replicate]
    congr 1
    omega
theorem Stood.wrote {s : St} {W f : List (UInt8 × UInt8)} (h : Stood s W f) (p : UInt8 × UInt8) : Stood (s.wrote (p.1.toNat % 16) (fill1 p.2)) (W ++ [p]) f :=
  ⟨h.n, h.len, by simp [St.wrote, h.W, wr1], h.stand⟩
theorem Stood.flushed {s : St} {W f : List (UInt8 × UInt8)} (h : Stood s W f) {k : Nat} (hc : Calm s k) : Stood s.flushed [] (f ++ W) := by
  have hsp := hc.spent
  refine ⟨?_, ?_, rfl, fun q hq => ?_⟩
  · show (laid s.spent (fun _ => 128) s.W.length).n = 16
    rw [hsp, (laid_frame _ _ _).1, h.n]
  · show (laid s.spent (fun _ => 128) s.W.length).B.length = (laid s.spent (fun _ => 128) s.W.length).n * 128
    rw [hsp, laid_len _ _ _ h.len h.ok, (laid_frame _ _ _).1]
  · show (laid s.spent (fun _ => 128) s.W.length).stand q = _
    rw [hsp, stand_whole s _ _ h.len h.ok (fun _ _ => Nat.le_refl _) q (by rw [h.n]; exact hq) (Nat.le_refl _), List.take_length]
    exact h.says q hq
theorem stood_after (ps : List (UInt8 × UInt8)) (f k : Nat) (hk : k ≤ ps.length) : Stood (afterTo ps f k) (if f ≤ k then (ps.take k).drop f else ps.take k) (if f ≤ k then ps.take f else []) := by
  induction k with
  | zero =>
    by_cases h : f ≤ 0
    · obtain rfl : f = 0 := by omega
      exact stood_fresh
    · rw [if_neg h, if_neg h]
      exact stood_fresh
  | succ k ih =>
    have hlt : k < ps.length := by omega
    have ih := ih (by omega)
    rw [afterTo_succ ps f k hlt, take_snoc ps k hlt]
    have hw := ih.wrote ps[k]
    by_cases hf : k + 1 = f
    · rw [if_pos hf, if_pos (by omega), if_pos (by omega)]
      rw [if_neg (by omega), if_neg (by omega)] at hw
      have := hw.flushed ((afterTo_calm ps f k).wrote _ _)
      rw [List.nil_append] at this
      rw [show (ps.take k ++ [ps[k]]).drop f = [] from List.drop_of_length_le (by simp; omega), show ps.take f = ps.take k ++ [ps[k]] by rw [← take_snoc ps k hlt, hf]]
      exact this
    · rw [if_neg hf]
      by_cases hfk : f ≤ k
      · rw [if_pos hfk, if_pos hfk] at hw
        rw [if_pos (by omega), if_pos (by omega), List.drop_append_of_le_length (by simp; omega)]
        exact hw
      · rw [if_neg hfk, if_neg hfk] at hw
        rw [if_neg (by omega), if_neg (by omega)]
        exact hw
/-- Behind all writes, flushed behind f of them. -/
theorem stood_all (ps : List (UInt8 × UInt8)) (f : Nat) (hf : f ≤ ps.length) : Stood (afterTo ps f ps.length) (ps.drop f) (ps.take f) := by
  have := stood_after ps f ps.length (Nat.le_refl _)
  rwa [if_pos hf, if_pos hf, List.take_length] at this

/-! ### Crashes -/
theorem crashed_says (s : St) (ks : List Bool) (torn : Int) (cut q : Nat) : (s.crashed ks torn cut).says q = (laid s (thr ks torn cut) s.W.length).stand q := rfl
theorem crash_all {s : St} {W f : List (UInt8 × UInt8)} (h : Stood s W f) (n : Nat) (hn : s.W.length ≤ n) (q : Nat) (hq : q < 16) : (s.crashed (List.replicate n true) (-1) 0).says q = s.says q := by
  rw [crashed_says, stand_whole s _ _ h.len h.ok (fun i hi => ?_) q (by rw [h.n]; exact hq) (Nat.le_refl _), List.take_length]
  · rfl
  · have hks : (List.replicate n true)[i]? = some true := by rw [List.getElem?_replicate, if_pos (by omega)]
    unfold thr
    rw [if_neg (by omega), if_pos hks]
    exact Nat.le_refl _
theorem crash_none {s : St} {W f : List (UInt8 × UInt8)} (h : Stood s W f) (n : Nat) (hn : s.W.length ≤ n) (q : Nat) (hq : q < 16) : (s.crashed [] (n : Int) 0).says q = fill1 (lastB f q) := by
  rw [crashed_says, stand_none s _ _ h.len h.ok (fun i hi => ?_) q (by rw [h.n]; exact hq)]
  · exact h.stand q hq
  · unfold thr
    rw [if_neg (by omega), if_neg (show ¬ ([] : List Bool)[i]? = some true by simp)]
theorem crash_any {s : St} {W f : List (UInt8 × UInt8)} (h : Stood s W f) (ks : List Bool) (torn : Int) (cut q : Nat) (hq : q < 16) (x : UInt8) (hx : x ∈ (s.crashed ks torn cut).says q) :
    x = lastB f q ∨ ∃ p, p ∈ W ∧ p.1.toNat % 16 = q ∧ x = p.2 := by
  rw [crashed_says] at hx
  rcases stand_any s _ _ h.len h.ok q (by rw [h.n]; exact hq) x hx with h1 | ⟨y, hy, h2, h3⟩
  · rw [h.stand q hq] at h1
    exact .inl (List.eq_of_mem_replicate h1)
  · rw [h.W] at hy
    obtain ⟨p, hp, rfl⟩ := List.mem_map.1 hy
    exact .inr ⟨p, hp, h2, List.eq_of_mem_replicate h3⟩
end Go.Proofs.Ythcjhbjhghfhjaa.Dsk
