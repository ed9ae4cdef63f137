/- Layer 12, the reference: the contract of Cut. (Written by bin/gen_nrj.py.) -/
import Derived.Test.YtllopocekegljaaNrI
import Derived.Test.YtllopocekegljaaNoK
import Derived.Test.YtllopocekegljaaNoY
namespace Go.Proofs.Ytllopocekegljaa.No
open Go.RowKit Go.Proofs.Ytllopocekegljaa.Oct Go.Proofs.Ytllopocekegljaa.Lf Go.Proofs.Ytllopocekegljaa.Mv
set_option linter.unusedVariables false
set_option linter.unusedSimpArgs false

/-- Of keys in order those less than t come first. -/
theorem count_iff {ks : List UInt64} (h : Rises ks) (t : Nat) {j : Nat} (hj : j < ks.length) : (ks[j]).toNat < t ↔ j < ks.countP (fun x => decide (x.toNat < t)) := by
  obtain ⟨P, S, PV, SV, rfl, _, _, _, hP, hS⟩ := split_at t ks ks rfl h
  have e : (P ++ S).countP (fun x => decide (x.toNat < t)) = P.length := by
    rw [List.countP_append, List.countP_eq_length.2 (fun x hx => decide_eq_true (hP x hx)), List.countP_eq_zero.2 (fun x hx => by simp; exact hS x hx), Nat.add_zero]
  rw [e]
  rcases Nat.lt_or_ge j P.length with c | c
  · have := hP _ (List.getElem_mem c)
    rw [List.getElem_append_left c]
    exact ⟨fun _ => c, fun _ => this⟩
  · have hs : j - P.length < S.length := by rw [List.length_append] at hj; omega
    have := hS _ (List.getElem_mem hs)
    rw [List.getElem_append_right c]
    exact ⟨fun h => by omega, fun h => by omega⟩
theorem low_iff {ks : List UInt64} (h : Rises ks) (x : UInt64) {j : Nat} (hj : j < ks.length) : x.toNat ≤ (ks[j]).toNat ↔ low ks x ≤ j := by
  have := count_iff h x.toNat hj
  have e : low ks x = ks.countP (fun y => decide (y.toNat < x.toNat)) := rfl
  rw [e]
  omega
theorem upto_iff {ks : List UInt64} (h : Rises ks) (y : UInt64) {j : Nat} (hj : j < ks.length) : (ks[j]).toNat ≤ y.toNat ↔ j < upto ks y := by
  have := count_iff h (y.toNat + 1) hj
  have e : upto ks y = ks.countP (fun x => decide (x.toNat < y.toNat + 1)) := by
    rw [upto_count h]
    congr 1
    funext x
    exact decide_eq_decide.2 (by omega)
  rw [e]
  omega
theorem mids_nil {ns : List UInt64} {i j : Nat} (h : j ≤ i) : mids ns i j = [] := by
  unfold mids
  rw [List.drop_eq_nil_of_le]
  rw [List.length_take]
  omega
/-- What a Cut has left, and taken, of the first j. -/
def cutK (ks : List UInt64) (a b j : Nat) : List UInt64 := mids ks 0 (min j a) ++ mids ks b j
def cutG (vs : List UInt64) (a b j : Nat) : List UInt64 := mids vs a (min j b)
theorem cutK_zero (ks : List UInt64) (a b : Nat) : cutK ks a b 0 = [] := by unfold cutK; rw [mids_nil (by omega), mids_nil (by omega)]; rfl
theorem cutG_zero (ks : List UInt64) (a b : Nat) : cutG ks a b 0 = [] := by unfold cutG; rw [mids_nil (by omega)]
theorem cutK_out {ks : List UInt64} {a b j : Nat} (hab : a ≤ b) (hj : j < ks.length) (h : j < a ∨ b ≤ j) : cutK ks a b (j + 1) = cutK ks a b j ++ [ks[j]] := by
  unfold cutK
  rcases h with h | h
  · rw [Nat.min_eq_left (by omega), Nat.min_eq_left (by omega), mids_next (Nat.zero_le _) hj, mids_nil (show j + 1 ≤ b by omega), mids_nil (show j ≤ b by omega), List.append_nil, List.append_nil]
  · rw [Nat.min_eq_right (by omega), Nat.min_eq_right (by omega), mids_next h hj, List.append_assoc]
theorem cutK_in {ks : List UInt64} {a b j : Nat} (h1 : a ≤ j) (h2 : j < b) : cutK ks a b (j + 1) = cutK ks a b j := by
  unfold cutK
  rw [Nat.min_eq_right (by omega), Nat.min_eq_right (by omega), mids_nil (show j + 1 ≤ b by omega), mids_nil (show j ≤ b by omega)]
theorem cutG_out {vs : List UInt64} {a b j : Nat} (hab : a ≤ b) (h : j < a ∨ b ≤ j) : cutG vs a b (j + 1) = cutG vs a b j := by
  unfold cutG
  rcases h with h | h
  · rw [mids_nil (by omega), mids_nil (by omega)]
  · rw [Nat.min_eq_right (by omega), Nat.min_eq_right (by omega)]
theorem cutG_in {vs : List UInt64} {a b j : Nat} (hj : j < vs.length) (h1 : a ≤ j) (h2 : j < b) : cutG vs a b (j + 1) = cutG vs a b j ++ [vs[j]] := by
  unfold cutG
  rw [Nat.min_eq_left (by omega), Nat.min_eq_left (by omega), mids_next h1 hj]
theorem cutK_len {ks : List UInt64} {n a b j : Nat} (h : ks.length = n) (hj : j ≤ n) : (cutK ks a b j).length = min j a + (j - b) := by
  unfold cutK
  rw [List.length_append, mids_length h (by omega), mids_length h hj, Nat.sub_zero]
theorem cutG_len {ks : List UInt64} {n a b j : Nat} (h : ks.length = n) (hj : j ≤ n) : (cutG ks a b j).length ≤ n := by
  unfold cutG
  rw [mids_length h (by omega)]
  omega
theorem cutR_end {ks vs : List UInt64} {n : Nat} (h : Ok true ks vs) (hn : ks.length = n) (x y : UInt64) {a b : Nat} (ha : low ks x = a) (hb : max (low ks x) (upto ks y) = b) : cutR true ks vs x y = ((true, cutK ks a b n, cutK vs a b n), cutG vs a b n, 0) := by
  have h1 := low_le ks x
  have h2 := upto_le ks y
  have hv : vs.length = n := by rw [h.2.1, hn]
  unfold cutR cutK cutG
  rw [if_pos ⟨h, rfl⟩, hb, ha, cut_mids hn, cut_mids hv, List.append_nil, List.append_nil, Nat.min_eq_right (show a ≤ n by omega), Nat.min_eq_right (show b ≤ n by omega)]
  have e : mids vs a b = (vs.drop a).take (b - a) := by unfold mids; exact List.drop_take
  rw [← e]
/-- A node that grows in a box, and a list that grows beside it. -/
structure CutS (w : World) (r : Nat) (vG xL yL : Value) (gs K V : List UInt64) : Prop where
  box : RowV w r 24 [.bool true, xL, yL]
  og : OwnN w (r + 1) vG gs
  ok : OwnN w (r + 1) xL K
  ov : OwnN w (r + 1) yL V
  ne : ∀ k, vG.ownBlock = some k → xL.ownBlock ≠ some k ∧ yL.ownBlock ≠ some k
theorem CutS.far {w w' : World} {r : Nat} {vG xL yL : Value} {gs K V : List UInt64} (h : CutS w r vG xL yL gs K V) (k : Below w.heap.size w w') : CutS w' r vG xL yL gs K V :=
  ⟨h.box.below h.box.lt k, own_at h.og k, own_at h.ok k, own_at h.ov k, h.ne⟩
theorem CutS.app {w w' : World} {r : Nat} {vG v' xL yL : Value} {gs ns K V : List UInt64} (h : CutS w r vG xL yL gs K V) (on : OwnN w' (r + 1) v' ns) (gn : w.grownBy w' vG.ownBlock) (ln : v'.ownBlock = vG.ownBlock ∨ v'.ownBlock = some w.heap.size) : CutS w' r v' xL yL ns K V := by
  refine ⟨h.box.block (gn.block r h.box.lt (fun e => by have := (World.ownsRow.lt h.og r e.symm).1; omega)), on, h.ok.same (fun k e hk => gn.block k hk (fun e2 => (h.ne k e2.symm).1 e)), h.ov.same (fun k e hk => gn.block k hk (fun e2 => (h.ne k e2.symm).2 e)), fun k e => ?_⟩
  rcases ln with ln | ln
  · exact h.ne k (by rw [← ln]; exact e)
  · have h1 : k = w.heap.size := by rw [ln] at e; exact (Option.some.inj e).symm
    exact ⟨fun e2 => by have := (World.ownsRow.lt h.ok k e2).2; omega, fun e2 => by have := (World.ownsRow.lt h.ov k e2).2; omega⟩
theorem CutS.turn {w w' : World} {r : Nat} {vG xL yL v : Value} {gs K V K' V' : List UInt64} (h : CutS w r vG xL yL gs K V) (hb : BoxD w' r v) (og : OwnN w' (r + 1) vG gs) (ow : OwnD w' w.heap.size v true K' V') : ∃ x y, CutS w' r vG x y gs K' V' := by
  obtain ⟨x, y, rfl, o1, o2⟩ := ow
  have hr := h.box.lt
  exact ⟨x, y, hb.of, og, own_mono o1 (by omega), own_mono o2 (by omega), fun k e => ⟨fun e2 => by have := (World.ownsRow.lt h.og k e).2; have := (World.ownsRow.lt o1 k e2).1; omega, fun e2 => by have := (World.ownsRow.lt h.og k e).2; have := (World.ownsRow.lt o2 k e2).1; omega⟩⟩

set_option maxRecDepth 100000 in
set_option maxHeartbeats 4000000 in
theorem rcut_any (l : Bool) {w : World} {A B : Option Addr} {n c m d : Nat} {ks vs : List UInt64} (h : Nd w A n c B m d ks vs) (x y : UInt64) (t : PN × List UInt64 × Nat) (ht : t = cutR l ks vs x y) :
    Calls Try.prog 24 #[.agg #[.bool l, .slice A n c, .slice B m d], .int .u64 (x.toNat : Int), .int .u64 (y.toNat : Int)] w fun e w' => ∃ v g, e = .returned (.tuple #[v, g, .int .i64 (t.2.2 : Nat)]) ∧ OwnD w' w.heap.size v t.1.1 t.1.2.1 t.1.2.2 ∧ OwnN w' w.heap.size g t.2.1 ∧ Below w.heap.size w w' := by
  have b1 := (Below.refl w.heap.size w).alloc (Nat.le_refl _) (.cells #[.bool l, .slice A n c, .slice B m d] 24)
  have BB := Lib.hid (b1.alloc b1.size (.cells #[.bool false, .slice none 0 0, .slice none 0 0] 24))
  have HBX := Lib.hid ((box_row w l A n c B m d).below (by simp) ((Below.refl _ _).alloc (Nat.le_refl _) (.cells #[.bool false, .slice none 0 0, .slice none 0 0] 24)))
  have HR := Lib.hid (box_d (w.alloc (.cells #[.bool l, .slice A n c, .slice B m d] 24)) (.bool false) (.slice none 0 0) (.slice none 0 0))
  rw [show (w.alloc (.cells #[.bool l, .slice A n c, .slice B m d] 24)).heap.size = w.heap.size + 1 by simp] at HR
  have HN := Lib.hid (h.below BB.out)
  have kl := h.kl
  have HT := Lib.hid ht
  have hz := node_zero
  have hs2 : ((w.alloc (.cells #[.bool l, .slice A n c, .slice B m d] 24)).alloc (.cells #[.bool false, .slice none 0 0, .slice none 0 0] 24)).heap.size = w.heap.size + 2 := by simp
  have HN0 := Lib.hid h
  clear h ht b1
  go_enter Try.func24, Try.ntmps24
  go_wp2_with fail
  generalize (w.alloc (.cells #[.bool l, .slice A n c, .slice B m d] 24)).alloc (.cells #[.bool false, .slice none 0 0, .slice none 0 0] 24) = w1 at *
  refine (rright_any l HN.out).mono ?_
  rintro e w2 ⟨rfl, B2⟩
  have BB2 := Lib.hid (BB.out.trans (B2.mono BB.out.size))
  have HBX2 := Lib.hid (HBX.out.below HBX.out.lt B2)
  have HR2 := Lib.hid (HR.out.below HR.out.lt B2)
  have HN2 := Lib.hid (HN.out.below B2)
  have hw2 : w.heap.size + 2 ≤ w2.heap.size := by have := B2.size; omega
  clear B2
  have p0 := HBX2.out.cellAt (i := 0) rfl
  by_cases hok : Ok l ks vs
  · rw [decide_eq_true hok]
    cases l
    · obtain rfl : t = (zn, [], 30) := by rw [HT.out]; unfold cutR; rw [if_neg (fun h => by cases h.2)]
      go_wp2_with (first | (refine wpList_build_as rfl 24 #[] rfl #[.bool false, .slice none 0 0, .slice none 0 0] (by simp [Act.eval]; exact node_bare) ?_) | (refine wpList_store_d rfl (.tmp 6) (.tmp 20) rfl (w.heap.size + 1) 0 zeroD _ false [] [] rfl rfl HR2.out (own_zero _ _) ?_; intro cs HC))
      exact bodyPost_ret (v := _) (res_node rfl _ rfl HC) rfl ⟨_, _, rfl, own_zero _ _, own_nil _ _, BB2.out.trans (row_below cs (by omega))⟩
    · obtain rfl : m = n := by rw [← HN.out.vl, ← kl]; exact hok.2.1
      have h7 := hok.1
      have HK := Lib.hid hok
      obtain ⟨a9, ha⟩ : ∃ q, low ks x = q := ⟨_, rfl⟩
      obtain ⟨b9, hb9⟩ : ∃ q, max (low ks x) (upto ks y) = q := ⟨_, rfl⟩
      obtain rfl : t = ((true, cutK ks a9 b9 m, cutK vs a9 b9 m), cutG vs a9 b9 m, 0) := by rw [HT.out]; exact cutR_end hok kl x y ha hb9
      have hab : a9 ≤ b9 := by omega
      have HA := Lib.hid ha
      have HB9 := Lib.hid hb9
      have HL := Lib.hid kl
      clear hok ha hb9
      go_wp2_with fail
      have HC0 := Lib.hid (show CutS (w2.alloc (.cells #[.bool true, .slice none 0 0, .slice none 0 0] 24)) w2.heap.size (.slice none 0 0) (.slice none 0 0) (.slice none 0 0) (cutG vs a9 b9 0) (cutK ks a9 b9 0) (cutK vs a9 b9 0) from ⟨alloc_rowV w2 _ _, by rw [cutG_zero]; exact own_nil _ _, by rw [cutK_zero]; exact own_nil _ _, by rw [cutK_zero]; exact own_nil _ _, fun k e => by cases e⟩)
      have B3 := (Below.refl w2.heap.size w2).alloc (Nat.le_refl _) (.cells #[.bool true, .slice none 0 0, .slice none 0 0] 24)
      generalize w2.alloc (.cells #[.bool true, .slice none 0 0, .slice none 0 0] 24) = w3 at *
      have BB3 := Lib.hid (BB2.out.trans (B3.mono BB2.out.size))
      have HBX3 := Lib.hid (HBX2.out.below HBX2.out.lt B3)
      have HR3 := Lib.hid (HR2.out.below HR2.out.lt B3)
      have HN3 := Lib.hid (HN2.out.below B3)
      have hw3 : w.heap.size + 2 ≤ w3.heap.size := by have := B3.size; omega
      clear B3
      obtain ⟨r9, hr9⟩ : ∃ q, w2.heap.size = q := ⟨_, rfl⟩
      have hr9w : w.heap.size + 2 ≤ r9 := by omega
      rw [hr9] at HC0 ⊢
      clear hr9 p0
      go_loopw [10, 11] (fun s10 i wr => ∃ (j : Nat) (xL yL : Value), j ≤ m ∧ i = .int .i64 (j : Int) ∧ Hid (CutS wr r9 s10 xL yL (cutG vs a9 b9 j) (cutK ks a9 b9 j) (cutK vs a9 b9 j)) ∧ Hid (RowV wr w.heap.size 24 [.bool true, .slice A m c, .slice B m d]) ∧ Hid (BoxD wr (w.heap.size + 1) zeroD) ∧ Hid (Below w.heap.size w wr)) (fun _ i _ => m - (Go.RowKit.intOf i).toNat)
      case atStart => exact ⟨0, _, _, Nat.zero_le _, rfl, HC0, HBX3, HR3, BB3⟩
      case round =>
        obtain ⟨j, xL, yL, hj, rfl, HS, HX, HR, HB⟩ := hrel
        have c1 := HX.out.cellAt (i := 1) rfl
        obtain ⟨vG, hvG⟩ : ∃ q, u10 = q := ⟨_, rfl⟩
        subst hvG
        by_cases hlt : j < m
        · have hjl : j < ks.length := by rw [HL.out]; exact hlt
          have hjv : j < vs.length := by rw [HN0.out.vl]; exact hlt
          have hlti : (j : Int) < (m : Int) := by omega
          obtain ⟨bk, ok, rfl, hHk⟩ := HN0.out.ks.has (by omega)
          obtain ⟨bv, ov, rfl, hHv⟩ := HN0.out.vs.has (by omega)
          have hcw := hHk j hjl
          have hvw := hHv j hjv
          have hck := (HB.out.cell (p := ⟨bk, ok + j, none⟩) (World.block_lt_of_cell? w _ hcw)).trans hcw
          have hcv := (HB.out.cell (p := ⟨bv, ov + j, none⟩) (World.block_lt_of_cell? w _ hvw)).trans hvw
          have LO := Lib.hid (low_iff HK.out.2.2.1 x hjl)
          have UP := Lib.hid (upto_iff HK.out.2.2.1 y hjl)
          have EKo := Lib.hid (fun h => cutK_out (ks := ks) hab hjl h)
          have EVo := Lib.hid (fun h => cutK_out (ks := vs) hab hjv h)
          have EGi := Lib.hid (fun h1 h2 => cutG_in (vs := vs) (a := a9) (b := b9) hjv h1 h2)
          have M1 := Lib.hid (show mids ks j (j + 1) = [ks[j]] by rw [mids_next (Nat.le_refl _) hjl, mids_none]; rfl)
          have M2 := Lib.hid (show mids vs j (j + 1) = [vs[j]] by rw [mids_next (Nat.le_refl _) hjv, mids_none]; rfl)
          generalize ks[j] = kj at *
          generalize vs[j] = vj at *
          have c2 := HX.out.cellAt (i := 2) rfl
          clear hcw hvw hHk hHv
          by_cases hin : a9 ≤ j ∧ j < b9
          · have hx1 : (x.toNat : Int) ≤ (kj.toNat : Int) := by have := LO.out.2 (by rw [HA.out]; exact hin.1); omega
            have hx2 : (kj.toNat : Int) ≤ (y.toNat : Int) := by
              have h1 := HB9.out
              have h2 := HA.out
              have := UP.out.2 (by omega)
              omega
            obtain ⟨A9, k9, hv9, hT9⟩ := HS.out.og.slice
            have HLG := Lib.hid (cutG_len (ks := vs) (a := a9) (b := b9) HN0.out.vl (Nat.le_of_lt hlt))
            have kz := (Below.refl wr.heap.size wr).alloc (Nat.le_refl _) (.cells #[.int .u64 (vj.toNat : Int)] 25)
            have hS1 := HS.out.far kz
            obtain ⟨v', w5, hrun, on, gn, ln⟩ := run_append_lone (wr.alloc (.cells #[.int .u64 (vj.toNat : Int)] 25)) (r9 + 1) 22 u10 _ hS1.og wr.heap.size vj (by simp) (by have := HS.out.box.lt; simp; omega) (by have := HLG.out; omega)
            have kb := own_below hS1.og (by have := HS.out.box.lt; simp; omega) gn
            have HS9 := Lib.hid (hS1.app on gn ln)
            have KB := Lib.hid ((kz.mono (show r9 ≤ wr.heap.size by have := HS.out.box.lt; omega)).trans (kb.mono (by omega)))
            have HR9 := Lib.hid (HR.out.below (by omega) KB.out)
            have HX9 := Lib.hid (HX.out.below (by omega) KB.out)
            have HB9' := Lib.hid (HB.out.trans (KB.out.mono (by omega)))
            have EK := Lib.hid (cutK_in (ks := ks) hin.1 hin.2)
            have EV := Lib.hid (cutK_in (ks := vs) hin.1 hin.2)
            have EG := Lib.hid (EGi.out hin.1 hin.2)
            clear kz hS1 on gn ln kb hv9 hT9 hin
            go_wp2_with (first | (at_builtin; refine wpList_append_run rfl (.tmp 45) (.tmp 51) 22 rfl _ _ rfl rfl _ w5 hrun ?_))
            go_roundw
            case rel => exact ⟨j + 1, xL, yL, by omega, by go_num, Lib.hid (by rw [EG.out, EK.out, EV.out]; exact HS9.out), HX9, HR9, HB9'⟩
            case measure => simp [Go.RowKit.intOf]; omega
          · have hout : j < a9 ∨ b9 ≤ j := by omega
            have EK := Lib.hid (EKo.out hout)
            have EV := Lib.hid (EVo.out hout)
            have EG := Lib.hid (cutG_out (vs := vs) hab hout)
            have HLK := Lib.hid (cutK_len (a := a9) (b := b9) HL.out (Nat.le_of_lt hlt))
            have HLV := Lib.hid (cutK_len (a := a9) (b := b9) HN0.out.vl (Nat.le_of_lt hlt))
            have HNIN := Lib.hid hin
            by_cases hx1 : (x.toNat : Int) ≤ (kj.toNat : Int)
            · have hx2 : ¬ (kj.toNat : Int) ≤ (y.toNat : Int) := fun h => HNIN.out (by
                have h1 := LO.out.1 (by omega)
                have h2 := UP.out.1 (by omega)
                have h3 := HA.out
                have h4 := HB9.out
                omega)
              clear hin hout
              go_upto_region 10 with (fail)
              obtain ⟨w5, hw5⟩ : ∃ x, x = wr := ⟨_, rfl⟩
              subst hw5
              refine Inv2.wp_region_inv (fun b a wy => ∃ (z : Nat → Value) (z58 : Value) (z59 : Value), a = ⟨(List.toArray (Value.agg #[Value.bool true, Value.slice (some ⟨bk, ok, none⟩) m c, Value.slice (some ⟨bv, ov, none⟩) m d] :: Value.int IntKind.u64 ↑x.toNat :: Value.int IntKind.u64 ↑y.toNat :: Value.pointer (some ⟨w.heap.size, 0, none⟩) :: undef :: undef :: Value.pointer (some ⟨w.heap.size + 1, 0, none⟩) :: Value.slice none 0 0 :: Value.int IntKind.i64 0 :: Value.pointer (some ⟨r9, 0, none⟩) :: u10 :: Value.int IntKind.i64 (j : Int) :: Value.agg #[Value.bool true, Value.slice (some ⟨bk, ok, none⟩) m c, Value.slice (some ⟨bv, ov, none⟩) m d] :: Value.bool true :: Value.bool false :: Value.bool false :: Value.pointer (some ⟨w.heap.size, 0, none⟩) :: Value.bool true :: Value.bool false :: Value.bool false :: undef :: Value.agg #[Value.bool true, Value.slice none 0 0, Value.slice none 0 0] :: Value.int IntKind.i64 (j : Int) :: Value.pointer (some ⟨w.heap.size, 1, none⟩) :: Value.slice (some ⟨bk, ok, none⟩) m c :: Value.int IntKind.i64 (m : Int) :: Value.bool true :: u27 :: u28 :: Value.pointer (some ⟨w.heap.size, 1, none⟩) :: Value.slice (some ⟨bk, ok, none⟩) m c :: Value.int IntKind.i64 (j : Int) :: Value.pointer (some ⟨bk, ok + j, none⟩) :: Value.int IntKind.u64 ↑kj.toNat :: Value.int IntKind.u64 ↑x.toNat :: Value.bool true :: Value.bool true :: Value.pointer (some ⟨w.heap.size, 1, none⟩) :: Value.slice (some ⟨bk, ok, none⟩) m c :: Value.int IntKind.i64 (j : Int) :: Value.pointer (some ⟨bk, ok + j, none⟩) :: Value.int IntKind.u64 ↑kj.toNat :: Value.int IntKind.u64 ↑y.toNat :: Value.bool false :: Value.bool false :: u45 :: u46 :: u47 :: u48 :: u49 :: u50 :: u51 :: u52 :: (z 53) :: (z 54) :: (z 55) :: (z 56) :: (z 57) :: z58 :: z59 :: undef :: undef :: [])), []⟩ ∧ Hid ((b 0 = true → (z 53) = .agg #[.bool true, xL, yL]) ∧ (b 1 = true → (z 54) = .agg #[.bool true, .slice (some ⟨bk, ok, none⟩) m c, .slice (some ⟨bv, ov, none⟩) m d]) ∧ (b 2 = true → (z 55) = Value.int IntKind.i64 (j : Int)) ∧ (b 3 = true → (z 56) = Value.int IntKind.i64 (j : Int)) ∧ (b 4 = true → (z 57) = .int .i64 ((j : Int) + 1))) ∧ Hid (Below r9 w5 wy) ∧ Hid ((b 5 = true → OwnD wy (r9 + 1) z58 true [kj] [vj]) ∧ (b 6 = true → b 0 = true ∧ OwnD wy w5.heap.size z59 true (cutK ks a9 b9 j ++ [kj]) (cutK vs a9 b9 j ++ [vj])) ∧ (b 7 = false → CutS wy r9 u10 xL yL (cutG vs a9 b9 j) (cutK ks a9 b9 j) (cutK vs a9 b9 j)) ∧ (b 7 = true → b 6 = true ∧ BoxD wy r9 z59) ∧ OwnN wy (r9 + 1) u10 (cutG vs a9 b9 j) ∧ RowV wy w.heap.size 24 [.bool true, .slice (some ⟨bk, ok, none⟩) m c, .slice (some ⟨bv, ov, none⟩) m d] ∧ BoxD wy (w.heap.size + 1) zeroD)) (by kernel_rfl) (by kernel_rfl) ?startD ?stepsD ?doneD
              case startD =>
                intro b hb
                refine ⟨fun s => if s = 53 then u53 else if s = 54 then u54 else if s = 55 then u55 else if s = 56 then u56 else if s = 57 then u57 else undef, u58, u59, rfl, Lib.hid ⟨?_, ?_, ?_, ?_, ?_⟩, Lib.hid ((show Still w5 w5.drew from ⟨rfl, rfl, rfl, rfl⟩).below _), Lib.hid (⟨(fun e => by rw [hb _ (by decide)] at e; cases e), (fun e => by rw [hb _ (by decide)] at e; cases e), fun _ => HS.out.far ((show Still w5 w5.drew from ⟨rfl, rfl, rfl, rfl⟩).below _), (fun e => by rw [hb _ (by decide)] at e; cases e), own_at HS.out.og ((show Still w5 w5.drew from ⟨rfl, rfl, rfl, rfl⟩).below _), HX.out.below HX.out.lt ((show Still w5 w5.drew from ⟨rfl, rfl, rfl, rfl⟩).below _), HR.out.below HR.out.lt ((show Still w5 w5.drew from ⟨rfl, rfl, rfl, rfl⟩).below _)⟩)⟩
                all_goals (intro e; first | rfl | (rw [hb _ (by decide)] at e; cases e))
              case stepsD =>
                refine ⟨?_, ?_, ?_, ?_, ?_, ?_, ?_, ?_, trivial⟩
                · rintro b a wy hb hd ⟨z, z58, z59, rfl, HV, HW, HX⟩ K hK
                  clear hd
                  obtain ⟨x1, x2, x3, x4, x5, x6, x7⟩ := HX.out
                  have b6 : b 6 = false := by
                      rcases Bool.eq_false_or_eq_true (b 6) with e | e
                      · exact absurd (hb.symm.trans (x2 e).1) (by decide)
                      · exact e
                  have b7 : b 7 = false := by
                      rcases Bool.eq_false_or_eq_true (b 7) with e | e
                      · exact absurd (hb.symm.trans (x2 (x4 e).1).1) (by decide)
                      · exact e
                  have hbx := row_d (x3 b7).box
                  refine if_wanted (by rfl) (wp_load_d (.tmp 9) rfl r9 _ rfl hbx ?_)
                  have V := HV.out
                  exact hK _ _ ⟨fun s => if s = 53 then .agg #[.bool true, xL, yL] else z s, _, _, rfl, Lib.hid ⟨fun _ => rfl, V.2.1, V.2.2.1, V.2.2.2.1, V.2.2.2.2⟩, HW, Lib.hid ⟨x1, fun e => absurd (b6.symm.trans e) (by decide), x3, x4, x5, x6, x7⟩⟩
                · rintro b a wy hb hd ⟨z, z58, z59, rfl, HV, HW, HX⟩ K hK
                  clear hd
                  obtain ⟨x1, x2, x3, x4, x5, x6, x7⟩ := HX.out
                  refine if_wanted (by rfl) (wp_load_d (.tmp 3) rfl w.heap.size _ rfl (row_d x6) ?_)
                  have V := HV.out
                  exact hK _ _ ⟨fun s => if s = 54 then .agg #[.bool true, .slice (some ⟨bk, ok, none⟩) m c, .slice (some ⟨bv, ov, none⟩) m d] else z s, _, _, rfl, Lib.hid ⟨V.1, fun _ => rfl, V.2.2.1, V.2.2.2.1, V.2.2.2.2⟩, HW, HX⟩
                · rintro b a wy hb hd ⟨z, z58, z59, rfl, HV, HW, HX⟩ K hK
                  clear hd
                  go_simp
                  have V := HV.out
                  exact hK _ _ ⟨fun s => if s = 55 then Value.int IntKind.i64 (j : Int) else z s, _, _, rfl, Lib.hid ⟨V.1, V.2.1, fun _ => rfl, V.2.2.2.1, V.2.2.2.2⟩, HW, HX⟩
                · rintro b a wy hb hd ⟨z, z58, z59, rfl, HV, HW, HX⟩ K hK
                  clear hd
                  go_simp
                  have V := HV.out
                  exact hK _ _ ⟨fun s => if s = 56 then Value.int IntKind.i64 (j : Int) else z s, _, _, rfl, Lib.hid ⟨V.1, V.2.1, V.2.2.1, fun _ => rfl, V.2.2.2.2⟩, HW, HX⟩
                · rintro b a wy hb hd ⟨z, z58, z59, rfl, HV, HW, HX⟩ K hK
                  simp [Region.binds] at hd
                  have e3 : (z 56) = Value.int IntKind.i64 (j : Int) := (HV.out.2.2.2.1) (by simp [hd])
                  clear hd
                  have hwj : IntKind.i64.wrap ((j : Int) + 1) = (j : Int) + 1 := IntWalk.i64_in _ (by omega)
                  go_simp
                  have V := HV.out
                  exact hK _ _ ⟨fun s => if s = 57 then .int .i64 ((j : Int) + 1) else if s = 56 then Value.int IntKind.i64 (j : Int) else z s, _, _, rfl, Lib.hid ⟨V.1, V.2.1, V.2.2.1, fun _ => rfl, fun _ => rfl⟩, HW, HX⟩
                · rintro b a wy hb hd ⟨z, z58, z59, rfl, HV, HW, HX⟩ K hK
                  simp [Region.binds] at hd
                  have e1 : (z 54) = .agg #[.bool true, .slice (some ⟨bk, ok, none⟩) m c, .slice (some ⟨bv, ov, none⟩) m d] := (HV.out.2.1) (by simp [hd])
                  have e2 : (z 55) = Value.int IntKind.i64 (j : Int) := (HV.out.2.2.1) (by simp [hd])
                  have e4 : (z 57) = .int .i64 ((j : Int) + 1) := (HV.out.2.2.2.2) (by simp [hd])
                  clear hd
                  obtain ⟨x1, x2, x3, x4, x5, x6, x7⟩ := HX.out
                  have hsz9 : w5.heap.size ≤ wy.heap.size := HW.out.size
                  have hr9l : r9 < w5.heap.size := HS.out.box.lt
                  have HNy := Lib.hid (HN0.out.below (HB.out.trans (HW.out.mono (by omega))))
                  have C1 := part_any true HNy.out j (j + 1) (by omega) (by omega) (by omega)
                  rw [M1.out, M2.out, show (((j + 1 : Nat)) : Int) = (j : Int) + 1 by omega] at C1
                  go_simp
                  go_at_call 36
                  refine (C1).mono ?_
                  rintro e wz ⟨v, rfl, ow, kz⟩
                  try go_simp
                  have V := HV.out
                  exact hK _ _ ⟨fun s => if s = 54 then .agg #[.bool true, .slice (some ⟨bk, ok, none⟩) m c, .slice (some ⟨bv, ov, none⟩) m d] else if s = 55 then Value.int IntKind.i64 (j : Int) else if s = 57 then .int .i64 ((j : Int) + 1) else z s, _, _, rfl, Lib.hid ⟨V.1, fun _ => rfl, fun _ => rfl, V.2.2.2.1, fun _ => rfl⟩, Lib.hid (HW.out.trans (kz.mono (by omega))), Lib.hid ⟨fun _ => ow.d.mono (by omega), fun e => ⟨(x2 e).1, (x2 e).2.at kz⟩, fun e => (x3 e).far kz, fun e => ⟨(x4 e).1, (x4 e).2.below (by omega) kz⟩, own_at x5 kz, x6.below x6.lt kz, x7.below x7.lt kz⟩⟩
                · rintro b a wy hb hd ⟨z, z58, z59, rfl, HV, HW, HX⟩ K hK
                  simp [Region.binds] at hd
                  have e0 : (z 53) = .agg #[.bool true, xL, yL] := (HV.out.1) (by simp [hd])
                  have dd5 : b 5 = true := by simp [hd]
                  have dd0 : b 0 = true := by simp [hd]
                  clear hd
                  obtain ⟨x1, x2, x3, x4, x5, x6, x7⟩ := HX.out
                  have hsz9 : w5.heap.size ≤ wy.heap.size := HW.out.size
                  have hr9l : r9 < w5.heap.size := HS.out.box.lt
                  have b7 : b 7 = false := by
                      rcases Bool.eq_false_or_eq_true (b 7) with e | e
                      · exact absurd (hb.symm.trans (x4 e).1) (by decide)
                      · exact e
                  obtain ⟨A1, k1, B1, d1, e91, e92, n1⟩ := own_nd (x3 b7).ok (x3 b7).ov
                  rw [HLK.out] at e91 n1
                  rw [HLV.out] at e92 n1
                  obtain ⟨A2, k2, B2, d2, e93, n2⟩ := (x1 dd5).ex (n := 1) (m := 1) rfl rfl
                  subst e93
                  have C1 := both_any true true n1 n2 (by omega) (by omega) (by omega)
                  rw [← e91, ← e92] at C1
                  clear e91 e92 n1 n2
                  go_simp
                  go_at_call 35
                  refine (C1).mono ?_
                  rintro e wz ⟨v, rfl, ow, kz⟩
                  try go_simp
                  have V := HV.out
                  exact hK _ _ ⟨fun s => if s = 53 then .agg #[.bool true, xL, yL] else z s, _, _, rfl, Lib.hid ⟨fun _ => rfl, V.2.1, V.2.2.1, V.2.2.2.1, V.2.2.2.2⟩, Lib.hid (HW.out.trans (kz.mono (by omega))), Lib.hid ⟨fun e => (x1 e).at kz, fun _ => ⟨dd0, ow.d.mono (by omega)⟩, fun e => (x3 e).far kz, fun e => absurd (b7.symm.trans e) (by decide), own_at x5 kz, x6.below x6.lt kz, x7.below x7.lt kz⟩⟩
                · rintro b a wy hb hd ⟨z, z58, z59, rfl, HV, HW, HX⟩ K hK
                  simp [Region.binds] at hd
                  have dd6 : b 6 = true := by simp [hd]
                  clear hd
                  obtain ⟨x1, x2, x3, x4, x5, x6, x7⟩ := HX.out
                  have hr9l : r9 < w5.heap.size := HS.out.box.lt
                  have hr := x3 hb
                  refine if_wanted (by rfl) (wp_store_d (.tmp 9) (.tmp 59) rfl r9 w5.heap.size z59 _ true _ _ rfl rfl (row_d hr.box) (x2 dd6).2 (fun cs HC => ?_))
                  have V := HV.out
                  exact hK _ _ ⟨fun s => z s, _, _, rfl, Lib.hid ⟨V.1, V.2.1, V.2.2.1, V.2.2.2.1, V.2.2.2.2⟩, Lib.hid (HW.out.trans (row_below _ (by omega))), Lib.hid ⟨fun e => (x1 e).row _ (by omega), fun e => ⟨(x2 e).1, (x2 e).2.row _ (by omega)⟩, fun e => (by cases e), fun _ => ⟨dd6, HC⟩, own_row x5 _ (by omega), row_other x6 _ (by omega), x7.other _ (by omega)⟩⟩
              case doneD =>
                rintro b a w9 hb ⟨z, z58, z59, rfl, HV, HW, HX⟩
                have e0 := (HV.out.1) (hb 0)
                have e1 := (HV.out.2.1) (hb 1)
                have e2 := (HV.out.2.2.1) (hb 2)
                have e3 := (HV.out.2.2.2.1) (hb 3)
                have e4 := (HV.out.2.2.2.2) (hb 4)
                simp only [e0, e1, e2, e3, e4]
                clear HV e0 e1 e2 e3 e4
                obtain ⟨_, x2, _, x4, x5, x6, x7⟩ := HX.out
                obtain ⟨xN, yN, hN⟩ := HS.out.turn (x4 (hb 7)).2 x5 (x2 (hb 6)).2
                rw [← EK.out, ← EV.out, ← EG.out] at hN
                have H9 := Lib.hid hN
                have HX9 := Lib.hid x6
                have HR9 := Lib.hid x7
                have HBQ := Lib.hid (HB.out.trans (HW.out.mono (by omega)))
                clear x2 x4 x5 x6 x7 hN HX HW hb
                go_wp2_with fail
                go_roundw
                case rel => exact ⟨j + 1, xN, yN, by omega, by go_num, H9, HX9, HR9, HBQ⟩
                case measure => simp [Go.RowKit.intOf]; omega
            · clear hin hout
              go_upto_region 10 with (fail)
              obtain ⟨w5, hw5⟩ : ∃ x, x = wr := ⟨_, rfl⟩
              subst hw5
              refine Inv2.wp_region_inv (fun b a wy => ∃ (z : Nat → Value) (z58 : Value) (z59 : Value), a = ⟨(List.toArray (Value.agg #[Value.bool true, Value.slice (some ⟨bk, ok, none⟩) m c, Value.slice (some ⟨bv, ov, none⟩) m d] :: Value.int IntKind.u64 ↑x.toNat :: Value.int IntKind.u64 ↑y.toNat :: Value.pointer (some ⟨w.heap.size, 0, none⟩) :: undef :: undef :: Value.pointer (some ⟨w.heap.size + 1, 0, none⟩) :: Value.slice none 0 0 :: Value.int IntKind.i64 0 :: Value.pointer (some ⟨r9, 0, none⟩) :: u10 :: Value.int IntKind.i64 (j : Int) :: Value.agg #[Value.bool true, Value.slice (some ⟨bk, ok, none⟩) m c, Value.slice (some ⟨bv, ov, none⟩) m d] :: Value.bool true :: Value.bool false :: Value.bool false :: Value.pointer (some ⟨w.heap.size, 0, none⟩) :: Value.bool true :: Value.bool false :: Value.bool false :: undef :: Value.agg #[Value.bool true, Value.slice none 0 0, Value.slice none 0 0] :: Value.int IntKind.i64 (j : Int) :: Value.pointer (some ⟨w.heap.size, 1, none⟩) :: Value.slice (some ⟨bk, ok, none⟩) m c :: Value.int IntKind.i64 (m : Int) :: Value.bool true :: u27 :: u28 :: Value.pointer (some ⟨w.heap.size, 1, none⟩) :: Value.slice (some ⟨bk, ok, none⟩) m c :: Value.int IntKind.i64 (j : Int) :: Value.pointer (some ⟨bk, ok + j, none⟩) :: Value.int IntKind.u64 ↑kj.toNat :: Value.int IntKind.u64 ↑x.toNat :: Value.bool false :: Value.bool false :: undef :: undef :: undef :: undef :: undef :: undef :: undef :: Value.bool false :: u45 :: u46 :: u47 :: u48 :: u49 :: u50 :: u51 :: u52 :: (z 53) :: (z 54) :: (z 55) :: (z 56) :: (z 57) :: z58 :: z59 :: undef :: undef :: [])), []⟩ ∧ Hid ((b 0 = true → (z 53) = .agg #[.bool true, xL, yL]) ∧ (b 1 = true → (z 54) = .agg #[.bool true, .slice (some ⟨bk, ok, none⟩) m c, .slice (some ⟨bv, ov, none⟩) m d]) ∧ (b 2 = true → (z 55) = Value.int IntKind.i64 (j : Int)) ∧ (b 3 = true → (z 56) = Value.int IntKind.i64 (j : Int)) ∧ (b 4 = true → (z 57) = .int .i64 ((j : Int) + 1))) ∧ Hid (Below r9 w5 wy) ∧ Hid ((b 5 = true → OwnD wy (r9 + 1) z58 true [kj] [vj]) ∧ (b 6 = true → b 0 = true ∧ OwnD wy w5.heap.size z59 true (cutK ks a9 b9 j ++ [kj]) (cutK vs a9 b9 j ++ [vj])) ∧ (b 7 = false → CutS wy r9 u10 xL yL (cutG vs a9 b9 j) (cutK ks a9 b9 j) (cutK vs a9 b9 j)) ∧ (b 7 = true → b 6 = true ∧ BoxD wy r9 z59) ∧ OwnN wy (r9 + 1) u10 (cutG vs a9 b9 j) ∧ RowV wy w.heap.size 24 [.bool true, .slice (some ⟨bk, ok, none⟩) m c, .slice (some ⟨bv, ov, none⟩) m d] ∧ BoxD wy (w.heap.size + 1) zeroD)) (by kernel_rfl) (by kernel_rfl) ?startE ?stepsE ?doneE
              case startE =>
                intro b hb
                refine ⟨fun s => if s = 53 then u53 else if s = 54 then u54 else if s = 55 then u55 else if s = 56 then u56 else if s = 57 then u57 else undef, u58, u59, rfl, Lib.hid ⟨?_, ?_, ?_, ?_, ?_⟩, Lib.hid ((show Still w5 w5.drew from ⟨rfl, rfl, rfl, rfl⟩).below _), Lib.hid (⟨(fun e => by rw [hb _ (by decide)] at e; cases e), (fun e => by rw [hb _ (by decide)] at e; cases e), fun _ => HS.out.far ((show Still w5 w5.drew from ⟨rfl, rfl, rfl, rfl⟩).below _), (fun e => by rw [hb _ (by decide)] at e; cases e), own_at HS.out.og ((show Still w5 w5.drew from ⟨rfl, rfl, rfl, rfl⟩).below _), HX.out.below HX.out.lt ((show Still w5 w5.drew from ⟨rfl, rfl, rfl, rfl⟩).below _), HR.out.below HR.out.lt ((show Still w5 w5.drew from ⟨rfl, rfl, rfl, rfl⟩).below _)⟩)⟩
                all_goals (intro e; first | rfl | (rw [hb _ (by decide)] at e; cases e))
              case stepsE =>
                refine ⟨?_, ?_, ?_, ?_, ?_, ?_, ?_, ?_, trivial⟩
                · rintro b a wy hb hd ⟨z, z58, z59, rfl, HV, HW, HX⟩ K hK
                  clear hd
                  obtain ⟨x1, x2, x3, x4, x5, x6, x7⟩ := HX.out
                  have b6 : b 6 = false := by
                      rcases Bool.eq_false_or_eq_true (b 6) with e | e
                      · exact absurd (hb.symm.trans (x2 e).1) (by decide)
                      · exact e
                  have b7 : b 7 = false := by
                      rcases Bool.eq_false_or_eq_true (b 7) with e | e
                      · exact absurd (hb.symm.trans (x2 (x4 e).1).1) (by decide)
                      · exact e
                  have hbx := row_d (x3 b7).box
                  refine if_wanted (by rfl) (wp_load_d (.tmp 9) rfl r9 _ rfl hbx ?_)
                  have V := HV.out
                  exact hK _ _ ⟨fun s => if s = 53 then .agg #[.bool true, xL, yL] else z s, _, _, rfl, Lib.hid ⟨fun _ => rfl, V.2.1, V.2.2.1, V.2.2.2.1, V.2.2.2.2⟩, HW, Lib.hid ⟨x1, fun e => absurd (b6.symm.trans e) (by decide), x3, x4, x5, x6, x7⟩⟩
                · rintro b a wy hb hd ⟨z, z58, z59, rfl, HV, HW, HX⟩ K hK
                  clear hd
                  obtain ⟨x1, x2, x3, x4, x5, x6, x7⟩ := HX.out
                  refine if_wanted (by rfl) (wp_load_d (.tmp 3) rfl w.heap.size _ rfl (row_d x6) ?_)
                  have V := HV.out
                  exact hK _ _ ⟨fun s => if s = 54 then .agg #[.bool true, .slice (some ⟨bk, ok, none⟩) m c, .slice (some ⟨bv, ov, none⟩) m d] else z s, _, _, rfl, Lib.hid ⟨V.1, fun _ => rfl, V.2.2.1, V.2.2.2.1, V.2.2.2.2⟩, HW, HX⟩
                · rintro b a wy hb hd ⟨z, z58, z59, rfl, HV, HW, HX⟩ K hK
                  clear hd
                  go_simp
                  have V := HV.out
                  exact hK _ _ ⟨fun s => if s = 55 then Value.int IntKind.i64 (j : Int) else z s, _, _, rfl, Lib.hid ⟨V.1, V.2.1, fun _ => rfl, V.2.2.2.1, V.2.2.2.2⟩, HW, HX⟩
                · rintro b a wy hb hd ⟨z, z58, z59, rfl, HV, HW, HX⟩ K hK
                  clear hd
                  go_simp
                  have V := HV.out
                  exact hK _ _ ⟨fun s => if s = 56 then Value.int IntKind.i64 (j : Int) else z s, _, _, rfl, Lib.hid ⟨V.1, V.2.1, V.2.2.1, fun _ => rfl, V.2.2.2.2⟩, HW, HX⟩
                · rintro b a wy hb hd ⟨z, z58, z59, rfl, HV, HW, HX⟩ K hK
                  simp [Region.binds] at hd
                  have e3 : (z 56) = Value.int IntKind.i64 (j : Int) := (HV.out.2.2.2.1) (by simp [hd])
                  clear hd
                  have hwj : IntKind.i64.wrap ((j : Int) + 1) = (j : Int) + 1 := IntWalk.i64_in _ (by omega)
                  go_simp
                  have V := HV.out
                  exact hK _ _ ⟨fun s => if s = 57 then .int .i64 ((j : Int) + 1) else if s = 56 then Value.int IntKind.i64 (j : Int) else z s, _, _, rfl, Lib.hid ⟨V.1, V.2.1, V.2.2.1, fun _ => rfl, fun _ => rfl⟩, HW, HX⟩
                · rintro b a wy hb hd ⟨z, z58, z59, rfl, HV, HW, HX⟩ K hK
                  simp [Region.binds] at hd
                  have e1 : (z 54) = .agg #[.bool true, .slice (some ⟨bk, ok, none⟩) m c, .slice (some ⟨bv, ov, none⟩) m d] := (HV.out.2.1) (by simp [hd])
                  have e2 : (z 55) = Value.int IntKind.i64 (j : Int) := (HV.out.2.2.1) (by simp [hd])
                  have e4 : (z 57) = .int .i64 ((j : Int) + 1) := (HV.out.2.2.2.2) (by simp [hd])
                  clear hd
                  obtain ⟨x1, x2, x3, x4, x5, x6, x7⟩ := HX.out
                  have hsz9 : w5.heap.size ≤ wy.heap.size := HW.out.size
                  have hr9l : r9 < w5.heap.size := HS.out.box.lt
                  have HNy := Lib.hid (HN0.out.below (HB.out.trans (HW.out.mono (by omega))))
                  have C1 := part_any true HNy.out j (j + 1) (by omega) (by omega) (by omega)
                  rw [M1.out, M2.out, show (((j + 1 : Nat)) : Int) = (j : Int) + 1 by omega] at C1
                  go_simp
                  go_at_call 36
                  refine (C1).mono ?_
                  rintro e wz ⟨v, rfl, ow, kz⟩
                  try go_simp
                  have V := HV.out
                  exact hK _ _ ⟨fun s => if s = 54 then .agg #[.bool true, .slice (some ⟨bk, ok, none⟩) m c, .slice (some ⟨bv, ov, none⟩) m d] else if s = 55 then Value.int IntKind.i64 (j : Int) else if s = 57 then .int .i64 ((j : Int) + 1) else z s, _, _, rfl, Lib.hid ⟨V.1, fun _ => rfl, fun _ => rfl, V.2.2.2.1, fun _ => rfl⟩, Lib.hid (HW.out.trans (kz.mono (by omega))), Lib.hid ⟨fun _ => ow.d.mono (by omega), fun e => ⟨(x2 e).1, (x2 e).2.at kz⟩, fun e => (x3 e).far kz, fun e => ⟨(x4 e).1, (x4 e).2.below (by omega) kz⟩, own_at x5 kz, x6.below x6.lt kz, x7.below x7.lt kz⟩⟩
                · rintro b a wy hb hd ⟨z, z58, z59, rfl, HV, HW, HX⟩ K hK
                  simp [Region.binds] at hd
                  have e0 : (z 53) = .agg #[.bool true, xL, yL] := (HV.out.1) (by simp [hd])
                  have dd5 : b 5 = true := by simp [hd]
                  have dd0 : b 0 = true := by simp [hd]
                  clear hd
                  obtain ⟨x1, x2, x3, x4, x5, x6, x7⟩ := HX.out
                  have hsz9 : w5.heap.size ≤ wy.heap.size := HW.out.size
                  have hr9l : r9 < w5.heap.size := HS.out.box.lt
                  have b7 : b 7 = false := by
                      rcases Bool.eq_false_or_eq_true (b 7) with e | e
                      · exact absurd (hb.symm.trans (x4 e).1) (by decide)
                      · exact e
                  obtain ⟨A1, k1, B1, d1, e91, e92, n1⟩ := own_nd (x3 b7).ok (x3 b7).ov
                  rw [HLK.out] at e91 n1
                  rw [HLV.out] at e92 n1
                  obtain ⟨A2, k2, B2, d2, e93, n2⟩ := (x1 dd5).ex (n := 1) (m := 1) rfl rfl
                  subst e93
                  have C1 := both_any true true n1 n2 (by omega) (by omega) (by omega)
                  rw [← e91, ← e92] at C1
                  clear e91 e92 n1 n2
                  go_simp
                  go_at_call 35
                  refine (C1).mono ?_
                  rintro e wz ⟨v, rfl, ow, kz⟩
                  try go_simp
                  have V := HV.out
                  exact hK _ _ ⟨fun s => if s = 53 then .agg #[.bool true, xL, yL] else z s, _, _, rfl, Lib.hid ⟨fun _ => rfl, V.2.1, V.2.2.1, V.2.2.2.1, V.2.2.2.2⟩, Lib.hid (HW.out.trans (kz.mono (by omega))), Lib.hid ⟨fun e => (x1 e).at kz, fun _ => ⟨dd0, ow.d.mono (by omega)⟩, fun e => (x3 e).far kz, fun e => absurd (b7.symm.trans e) (by decide), own_at x5 kz, x6.below x6.lt kz, x7.below x7.lt kz⟩⟩
                · rintro b a wy hb hd ⟨z, z58, z59, rfl, HV, HW, HX⟩ K hK
                  simp [Region.binds] at hd
                  have dd6 : b 6 = true := by simp [hd]
                  clear hd
                  obtain ⟨x1, x2, x3, x4, x5, x6, x7⟩ := HX.out
                  have hr9l : r9 < w5.heap.size := HS.out.box.lt
                  have hr := x3 hb
                  refine if_wanted (by rfl) (wp_store_d (.tmp 9) (.tmp 59) rfl r9 w5.heap.size z59 _ true _ _ rfl rfl (row_d hr.box) (x2 dd6).2 (fun cs HC => ?_))
                  have V := HV.out
                  exact hK _ _ ⟨fun s => z s, _, _, rfl, Lib.hid ⟨V.1, V.2.1, V.2.2.1, V.2.2.2.1, V.2.2.2.2⟩, Lib.hid (HW.out.trans (row_below _ (by omega))), Lib.hid ⟨fun e => (x1 e).row _ (by omega), fun e => ⟨(x2 e).1, (x2 e).2.row _ (by omega)⟩, fun e => (by cases e), fun _ => ⟨dd6, HC⟩, own_row x5 _ (by omega), row_other x6 _ (by omega), x7.other _ (by omega)⟩⟩
              case doneE =>
                rintro b a w9 hb ⟨z, z58, z59, rfl, HV, HW, HX⟩
                have e0 := (HV.out.1) (hb 0)
                have e1 := (HV.out.2.1) (hb 1)
                have e2 := (HV.out.2.2.1) (hb 2)
                have e3 := (HV.out.2.2.2.1) (hb 3)
                have e4 := (HV.out.2.2.2.2) (hb 4)
                simp only [e0, e1, e2, e3, e4]
                clear HV e0 e1 e2 e3 e4
                obtain ⟨_, x2, _, x4, x5, x6, x7⟩ := HX.out
                obtain ⟨xN, yN, hN⟩ := HS.out.turn (x4 (hb 7)).2 x5 (x2 (hb 6)).2
                rw [← EK.out, ← EV.out, ← EG.out] at hN
                have H9 := Lib.hid hN
                have HX9 := Lib.hid x6
                have HR9 := Lib.hid x7
                have HBQ := Lib.hid (HB.out.trans (HW.out.mono (by omega)))
                clear x2 x4 x5 x6 x7 hN HX HW hb
                go_wp2_with fail
                go_roundw
                case rel => exact ⟨j + 1, xN, yN, by omega, by go_num, H9, HX9, HR9, HBQ⟩
                case measure => simp [Go.RowKit.intOf]; omega
        · obtain rfl : j = m := by omega
          have hlti : ¬ (j : Int) < (j : Int) := by omega
          have HO := Lib.hid (show OwnD wr (r9 + 1) (.agg #[.bool true, xL, yL]) true (cutK ks a9 b9 j) (cutK vs a9 b9 j) from ⟨_, _, rfl, HS.out.ok, HS.out.ov⟩)
          have HXB := Lib.hid (row_d HS.out.box)
          have HOG := Lib.hid HS.out.og
          go_wp2_with (first | (refine wpList_load_d rfl (.tmp 9) rfl r9 _ rfl HXB.out ?_) | (refine wpList_store_d rfl (.tmp 6) (.tmp 60) rfl (w.heap.size + 1) (r9 + 1) _ _ _ _ _ rfl rfl HR.out HO.out ?_; intro cs HC))
          exact bodyPost_ret (v := _) (res_node rfl _ rfl HC) rfl ⟨_, _, rfl, (HO.out.row cs (by omega)).mono (by omega), own_mono (own_row HOG.out cs (by omega)) (by omega), HB.out.trans (row_below cs (by omega))⟩
  · rw [decide_eq_false hok]
    obtain rfl : t = (zn, [], 30) := by rw [HT.out]; unfold cutR; rw [if_neg (fun h => hok h.1)]
    go_wp2_with (first | (refine wpList_build_as rfl 24 #[] rfl #[.bool false, .slice none 0 0, .slice none 0 0] (by simp [Act.eval]; exact node_bare) ?_) | (refine wpList_store_d rfl (.tmp 6) (.tmp 20) rfl (w.heap.size + 1) 0 zeroD _ false [] [] rfl rfl HR2.out (own_zero _ _) ?_; intro cs HC))
    exact bodyPost_ret (v := _) (res_node rfl _ rfl HC) rfl ⟨_, _, rfl, own_zero _ _, own_nil _ _, BB2.out.trans (row_below cs (by omega))⟩
end Go.Proofs.Ytllopocekegljaa.No
