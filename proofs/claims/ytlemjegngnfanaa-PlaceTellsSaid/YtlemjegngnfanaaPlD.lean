/- The first page that is still to be placed; which ones were. -/
import Derived.Test.YtlemjegngnfanaaPlC
namespace Go.Proofs.Ytlemjegngnfanaa.Pl
open Go.RowKit Go.Proofs.Ytlemjegngnfanaa.Oct Go.Proofs.Ytlemjegngnfanaa.Mv Go.Proofs.Ytlemjegngnfanaa.Tl Go.Proofs.Ytlemjegngnfanaa.Pk Go.Maps
set_option linter.unusedVariables false

/-- A page that is still to be placed. -/
def askP (l : List Nat) (f : List Bool) (S : Int → Prop) (i : Nat) : Prop := i < l.length ∧ f.getD i false = false ∧ (l.getD i 0 = 0 ∨ S (i : Int))
theorem bools_at (f : List Bool) {i : Nat} (h : i < f.length) : (bools f)[i]? = some (.bool (f.getD i false)) := by simp [bools, h]
theorem length_bools (f : List Bool) : (bools f).length = f.length := by simp [bools]
theorem row_int {w : World} {g i : Nat} {T : TypeId} {l : List Nat} {sp : List Value} (h : RowV w g T (ints l ++ sp)) (hi : i < l.length) : w.cell? ⟨g, i, none⟩ = some (.int .i64 ((l.getD i 0 : Nat) : Int)) := by
  refine h.cellAt ?_
  rw [List.getElem?_append_left (by rw [length_ints]; exact hi), Tl.ints_at l i hi]
  simp [hi]
theorem row_bool {w : World} {g i : Nat} {T : TypeId} {f : List Bool} {sp : List Value} (h : RowV w g T (bools f ++ sp)) (hi : i < f.length) : w.cell? ⟨g, i, none⟩ = some (.bool (f.getD i false)) := by
  refine h.cellAt ?_
  rw [List.getElem?_append_left (by rw [length_bools]; exact hi), bools_at f hi]
def pgv (g1 g2 n c1 c2 : Nat) : Value := .agg #[.slice (some ⟨g1, 0, none⟩) n c1, .slice (some ⟨g2, 0, none⟩) n c2]
def FirstP (l : List Nat) (f : List Bool) (S : Int → Prop) (i : Nat) (ok : Bool) : Prop := if ok then askP l f S i ∧ ∀ j, j < i → ¬ askP l f S j else i = 0 ∧ ∀ j, ¬ askP l f S j
theorem FirstP.yes {l : List Nat} {f : List Bool} {S : Int → Prop} {i : Nat} (h : askP l f S i) (k : ∀ j, j < i → ¬ askP l f S j) : FirstP l f S i true := ⟨h, k⟩
theorem FirstP.no {l : List Nat} {f : List Bool} {S : Int → Prop} (k : ∀ j, ¬ askP l f S j) : FirstP l f S 0 false := ⟨rfl, k⟩

def FirstOut (w : World) (l : List Nat) (f : List Bool) (S : Int → Prop) (e : Ending) (w' : World) : Prop := ∃ i ok, e = .returned (.tuple #[.int .i64 ((i : Nat) : Int), .bool ok]) ∧ FirstP l f S i ok ∧ Below w.heap.size w w'
set_option maxRecDepth 100000 in
set_option maxHeartbeats 2000000 in
theorem first_any {w : World} {g1 g2 c1 c2 B : Nat} {l : List Nat} {f : List Bool} {sp1 sp2 : List Value} {v : Value} {S : Int → Prop} (h1 : RowV w g1 3 (ints l ++ sp1)) (h2 : RowV w g2 4 (bools f ++ sp2)) (hf : f.length = l.length) (hl : l.length ≤ 4096) (hT : Tells w v B S) :
    Calls Try.prog 58 #[pgv g1 g2 l.length c1 c2, v] w (FirstOut w l f S) := by
  have B1 := (Below.refl w.heap.size w).alloc (Nat.le_refl _) (.cells #[.slice (some ⟨g1, 0, none⟩) l.length c1, .slice (some ⟨g2, 0, none⟩) l.length c2] 90)
  have HR := Lib.hid (alloc_rowV w 90 [.slice (some ⟨g1, 0, none⟩) l.length c1, .slice (some ⟨g2, 0, none⟩) l.length c2])
  have H1 := Lib.hid (h1.below h1.lt B1)
  have H2 := Lib.hid (h2.below h2.lt B1)
  have HT := Lib.hid (hT.below B1)
  have HB := Lib.hid B1
  clear h1 h2 hT B1
  unfold pgv
  go_enter Try.func58, Try.ntmps58
  go_upto_region 1 with (fail)
  generalize w.alloc (.cells #[.slice (some ⟨g1, 0, none⟩) l.length c1, .slice (some ⟨g2, 0, none⟩) l.length c2] 90) = w1 at *
  obtain ⟨r, hr⟩ : ∃ r, r = w.heap.size := ⟨_, rfl⟩
  rw [← hr] at HR ⊢
  clear hr
  have d0 := HR.out.cellAt (i := 0) rfl
  go_wp2_with fail
  clear d0
  go_loopw [11] (fun i wr => ∃ k : Nat, k ≤ l.length ∧ i = .int .i64 (k : Int) ∧ Hid (∀ j, j < k → ¬ askP l f S j) ∧ Hid (Below w1.heap.size w1 wr)) (fun i _ => l.length - (Go.RowKit.intOf i).toNat)
  case atStart => exact ⟨0, Nat.zero_le _, rfl, Lib.hid (fun j hj => by omega), Lib.hid (Below.refl _ _)⟩
  case round =>
    obtain ⟨k, hk, rfl, HN, HBr⟩ := hrel
    by_cases hlt : k < l.length
    · have hki : (k : Int) < (l.length : Int) := by omega
      have hge : (0 : Int) ≤ (k : Int) := by omega
      have R := HR.out.below HR.out.lt HBr.out
      have d0 := R.cellAt (i := 0) rfl
      have d1 := R.cellAt (i := 1) rfl
      have e1 := row_int (H1.out.below H1.out.lt HBr.out) hlt
      have e2 := row_bool (H2.out.below H2.out.lt HBr.out) (i := k) (by omega)
      have HT2 := Lib.hid (HT.out.below HBr.out)
      have HA := Lib.hid (show askP l f S k ↔ (f.getD k false = false ∧ (l.getD k 0 = 0 ∨ S (k : Int))) from ⟨fun h => h.2, fun h => ⟨hlt, h⟩⟩)
      clear R
      have hnext : ¬ askP l f S k → ∀ j, j < k + 1 → ¬ askP l f S j := fun h j hj => (Nat.lt_or_ge j k).elim (HN.out j) (fun h2 => by rw [show j = k by omega]; exact h)
      have HNX := Lib.hid hnext
      clear hnext
      cases hfk : f.getD k false
      · rw [hfk] at e2 HA
        by_cases h0 : l.getD k 0 = 0
        · rw [h0] at e1 HA
          go_wp2_with fail
          go_ret2
          exact ⟨k, true, rfl, FirstP.yes (HA.out.2 ⟨by simp, .inl (by simp)⟩) HN.out, HB.out.trans (HBr.out.mono HB.out.size)⟩
        · have h0i : ¬ (((l.getD k 0 : Nat) : Int) = 0) := by omega
          have h0b : (((l.getD k 0 : Nat) : Int) == 0) = false := by simpa using h0i
          obtain ⟨x, sb, n, rfl, hx1, hx2, hx3, hx4, hx5⟩ := HT2.out.out
          generalize l.getD k 0 = y at *
          clear h0i
          go_wp2_with fail
          refine (still_any hx4 hx5 (k : Int) (by omega) (by omega)).mono ?_
          rintro e w4 ⟨q, rfl, hq, bz⟩
          have HB4 := Lib.hid (HBr.out.trans (bz.mono HBr.out.size))
          have HQ := Lib.hid hq
          clear bz hq hx1 hx2 hx3 hx4 hx5
          cases q
          · go_wp2_with fail
            go_roundw
            case rel => exact ⟨k + 1, by omega, by go_num, Lib.hid (HNX.out (fun h => (HA.out.1 h).2.elim h0 (fun h => by have := HQ.out.2 h; simp at this))), HB4⟩
            case measure => simp [Go.RowKit.intOf]; omega
          · go_wp2_with fail
            go_ret2
            exact ⟨k, true, rfl, FirstP.yes (HA.out.2 ⟨by simp, .inr (HQ.out.1 (by simp))⟩) HN.out, HB.out.trans (HB4.out.mono HB.out.size)⟩
      · rw [hfk] at e2 HA
        go_wp2_with fail
        go_roundw
        case rel => exact ⟨k + 1, by omega, by go_num, Lib.hid (HNX.out (fun h => by have := (HA.out.1 h).1; simp at this)), HBr⟩
        case measure => simp [Go.RowKit.intOf]; omega
    · have hki : ¬ (k : Int) < (l.length : Int) := by omega
      obtain rfl : k = l.length := by omega
      go_wp2_with fail
      go_ret2
      exact ⟨0, false, rfl, FirstP.no (fun j hj => (Nat.lt_or_ge j l.length).elim (fun h => HN.out j h hj) (fun h => by have := hj.1; omega)), HB.out.trans (HBr.out.mono HB.out.size)⟩

/-- The first k pages that were placed. -/
def doneK (f : List Bool) (k : Nat) : List Nat := (List.range k).filter fun i => f.getD i false
def doneL (f : List Bool) : List Nat := doneK f f.length
theorem done_yes {f : List Bool} {k : Nat} (h : f.getD k false = true) : doneK f (k + 1) = doneK f k ++ [k] := by
  unfold doneK
  rw [List.range_succ, List.filter_append]
  congr 1
  simp only [List.filter_cons, List.filter_nil]
  rw [if_pos h]
theorem done_no {f : List Bool} {k : Nat} (h : f.getD k false = false) : doneK f (k + 1) = doneK f k := by
  unfold doneK
  rw [List.range_succ, List.filter_append]
  simp only [List.filter_cons, List.filter_nil]
  rw [if_neg (by rw [h]; decide), List.append_nil]
theorem done_le (f : List Bool) (k : Nat) : (doneK f k).length ≤ k := by
  have := List.length_filter_le (fun i => f.getD i false) (List.range k)
  rwa [List.length_range] at this
theorem mem_done {f : List Bool} {i : Nat} : i ∈ doneL f ↔ f.getD i false = true := by
  unfold doneL doneK
  rw [List.mem_filter, List.mem_range]
  constructor
  · exact fun h => h.2
  · intro h
    refine ⟨?_, h⟩
    rcases Nat.lt_or_ge i f.length with h1 | h1
    · exact h1
    · rw [List.getD_eq_getElem?_getD, List.getElem?_eq_none h1] at h
      cases h
set_option maxRecDepth 100000 in
set_option maxHeartbeats 2000000 in
theorem done_any {w : World} {g2 n c2 : Nat} {f : List Bool} {sp2 : List Value} {c1 : Nat} {g1 : Option Addr} (h2 : RowV w g2 4 (bools f ++ sp2)) (hf : f.length ≤ 4096) :
    Calls Try.prog 48 #[.agg #[.slice g1 n c1, .slice (some ⟨g2, 0, none⟩) f.length c2]] w fun e w' => ∃ v, e = .returned v ∧ List64 w' v (doneL f) ∧ Below w.heap.size w w' := by
  have B1 := (Below.refl w.heap.size w).alloc (Nat.le_refl _) (.cells #[.slice g1 n c1, .slice (some ⟨g2, 0, none⟩) f.length c2] 90)
  have HR := Lib.hid (alloc_rowV w 90 [.slice g1 n c1, .slice (some ⟨g2, 0, none⟩) f.length c2])
  have H2 := Lib.hid (h2.below h2.lt B1)
  have HB := Lib.hid B1
  clear h2 B1
  go_enter Try.func48, Try.ntmps48
  go_upto_region 2 with (fail)
  generalize w.alloc (.cells #[.slice g1 n c1, .slice (some ⟨g2, 0, none⟩) f.length c2] 90) = w1 at *
  obtain ⟨r, hr⟩ : ∃ r, r = w.heap.size := ⟨_, rfl⟩
  rw [← hr] at HR ⊢
  clear hr
  have d1 := HR.out.cellAt (i := 1) rfl
  obtain ⟨B, hB⟩ : ∃ B, B = w1.heap.size := ⟨_, rfl⟩
  have HBW := Lib.hid (show w.heap.size ≤ B by rw [hB]; exact HB.out.size)
  have HBE := Lib.hid hB
  clear hB
  go_wp2_with fail
  clear d1
  go_loopw [9, 3] (fun i v wr => ∃ k : Nat, k ≤ f.length ∧ i = .int .i64 (k : Int) ∧ Hid (OwnI wr B v (toI (doneK f k))) ∧ Hid (Below w1.heap.size w1 wr)) (fun i _ _ => f.length - (Go.RowKit.intOf i).toNat)
  case atStart => exact ⟨0, Nat.zero_le _, rfl, Lib.hid (own_nil _ _), Lib.hid (Below.refl _ _)⟩
  case round =>
    obtain ⟨k, hk, rfl, HI, HBr⟩ := hrel
    by_cases hlt : k < f.length
    · have hki : (k : Int) < (f.length : Int) := by omega
      have hge : (0 : Int) ≤ (k : Int) := by omega
      have e2 := row_bool (H2.out.below H2.out.lt HBr.out) hlt
      cases hfk : f.getD k false
      · rw [hfk] at e2
        have HD := Lib.hid (done_no hfk)
        clear hfk
        go_wp2_with fail
        go_roundw
        case rel => exact ⟨k + 1, by omega, by go_num, Lib.hid (by rw [HD.out]; exact HI.out), HBr⟩
        case measure => simp [Go.RowKit.intOf]; omega
      · rw [hfk] at e2
        have HD := Lib.hid (done_yes hfk)
        clear hfk
        have B2 := (Below.refl wr.heap.size wr).alloc (Nat.le_refl _) (.cells #[.int .i64 (k : Int)] 3)
        have R2 := (alloc_rowV wr 3 [.int .i64 (k : Int)]).cellAt (i := 0) rfl
        have hw2 : B ≤ (wr.alloc (.cells #[.int .i64 (k : Int)] 3)).heap.size := by rw [HBE.out]; exact Nat.le_trans HBr.out.size B2.size
        obtain ⟨v2, w3, hrun, hown, hbel⟩ := push_int (HI.out.below B2) R2 31 (by have := done_le f k; simp [toI]; omega) hw2
        have HI3 := Lib.hid (show OwnI w3 B v2 (toI (doneK f (k + 1))) by rw [HD.out]; simpa [toI] using hown)
        have HB3 := Lib.hid ((HBr.out.trans (B2.mono HBr.out.size)).trans (hbel.mono (by rw [HBE.out]; exact Nat.le_refl _)))
        clear B2 R2 hw2 hown hbel
        go_wp2_with (at_builtin; refine wpList_append_run rfl (.tmp 15) (.tmp 17) 31 rfl _ _ rfl rfl _ w3 hrun ?_)
        clear hrun
        go_roundw
        case rel => exact ⟨k + 1, by omega, by go_num, HI3, HB3⟩
        case measure => simp [Go.RowKit.intOf]; omega
    · have hki : ¬ (k : Int) < (f.length : Int) := by omega
      obtain rfl : k = f.length := by omega
      go_wp2_with fail
      go_ret
      exact ⟨_, rfl, HI.out.list, HB.out.trans (HBr.out.mono HB.out.size)⟩
end Go.Proofs.Ytlemjegngnfanaa.Pl
