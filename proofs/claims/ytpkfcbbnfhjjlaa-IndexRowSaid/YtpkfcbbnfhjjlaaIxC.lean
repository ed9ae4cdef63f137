/- Contract: index.numbers, an iterator over a body's numbers. -/
import Derived.Test.YtpkfcbbnfhjjlaaIxB
import Derived.RangeFuncBox
import Derived.RangeFuncLeaves
import Derived.RangeFuncCalls
import Derived.Shelf.Abstract
import Derived.Shelf.RegionOpen
import Derived.OwnWalkIn
import Derived.TacticsInMore
import Derived.LoopNIn
import Derived.LoopIn
import Derived.Maps.AppendAt
namespace Go.Proofs.Ytpkfcbbnfhjjlaa.Ix
open Go.RowKit Go.Shelf Go.Proofs.Ytpkfcbbnfhjjlaa.Oct Go.Proofs.Ytpkfcbbnfhjjlaa.Sf
set_option linter.unusedVariables false
attribute [local go_sem] Oper.semAt_some

def upto (bs : List UInt8) (k : Nat) : List UInt16 := (List.range k).map (wAt bs)
theorem upto_succ (bs : List UInt8) (k : Nat) : upto bs (k + 1) = upto bs k ++ [wAt bs k] := by simp [upto, List.range_succ]
theorem upto_length (bs : List UInt8) (k : Nat) : (upto bs k).length = k := by simp [upto]
theorem upto_zero (bs : List UInt8) : upto bs 0 = [] := rfl
theorem upto_prefix (bs : List UInt8) {j k : Nat} (h : j ≤ k) : upto bs j <+: upto bs k := by
  refine ⟨(upto bs k).drop j, ?_⟩
  have : upto bs j = (upto bs k).take j := by
    apply List.ext_getElem
    · simp [upto]; omega
    · intro i h1 h2; simp [upto]
  rw [this, List.take_append_drop]

/-- What a round keeps: all below n₀, and block c. -/
def Keep (n₀ c : Nat) (A B : World) : Prop := Below n₀ A B ∧ B.heap[c]? = A.heap[c]?
theorem Keep.refl (n₀ c : Nat) (A : World) : Keep n₀ c A A := ⟨Below.refl _ _, rfl⟩
theorem keep_t {n₀ c : Nat} {A B C : World} (h : Keep n₀ c A B) (k : Keep n₀ c B C) : Keep n₀ c A C := ⟨h.1.trans k.1, k.2.trans h.2⟩
theorem keep_b {n₀ c : Nat} {w : World} (hn : n₀ ≤ w.heap.size) (hc : c < w.heap.size) (W : World) (l : Nat) (o o' : Obj) (hl : w.heap.size ≤ l) (h : W.heap[l]? = some o) (h1 : o.isCells = false) (h2 : o.isWalk = false) : Keep n₀ c W (W.putObj l o') :=
  ⟨belowK_b hn W l o o' hl h h1 h2, World.putObj_heap_other (by omega)⟩
theorem Keep.drew (n₀ c : Nat) (A : World) : Keep n₀ c A A.drew := ⟨(sdrew A).below _, rfl⟩
theorem at_same (k : Nat) (hk : k ≤ 100000) (w : World) :
    Calls Try.prog 24 #[.int .i64 (k : Int)] w fun e w' => e = .returned (.int .i64 (1 + 2 * (k : Int))) ∧ w = w' := (at_any k hk w).mono fun e w' ⟨he, hw⟩ => ⟨by rw [he]; simp, hw.symm⟩
theorem get_count {w : World} {g : Nat} {bs : List UInt8} (hlen : bs.length = 123) (hb : Has w g 0 bs) :
    Calls Try.prog 35 #[.slice (some ⟨g, 0, none⟩) 123 123, .int .i64 0, .int .i64 1] w fun e w' => e = .returned (.tuple #[.int .u64 (cAt bs : Int), .bool true]) ∧ w = w' := by
  have h := get_yes g 0 123 bs 0 1 w (by rw [hlen]; decide) hb (by decide) (by decide) (by omega)
  rw [hlen, List.drop_zero] at h
  exact h.mono fun e w' ⟨he, hw⟩ => ⟨he, hw⟩
theorem get_number {w : World} {g : Nat} {bs : List UInt8} (hlen : bs.length = 123) (hb : Has w g 0 bs) (k : Nat) (hk : k < 61) :
    Calls Try.prog 35 #[.slice (some ⟨g, 0, none⟩) 123 123, .int .i64 (1 + 2 * (k : Int)), .int .i64 2] w fun e w' => e = .returned (.tuple #[.int .u64 ((wAt bs k).toNat : Int), .bool true]) ∧ w = w' := by
  have h := get_yes g 0 123 bs (1 + 2 * k) 2 w (by rw [hlen]; decide) hb (by decide) (by decide) (by omega)
  rw [hlen] at h
  rw [show ((1 + 2 * k : Nat) : Int) = 1 + 2 * (k : Int) by omega] at h
  refine h.mono fun e w' ⟨he, hw⟩ => ⟨?_, hw⟩
  rw [he]
  have := num_u16 ((bs.drop (1 + 2 * k)).take 2) (by simp; omega)
  unfold wAt
  rw [this]
theorem get_beyond {w : World} {g : Nat} (k : Nat) (hk : ¬ k < 61) :
    Calls Try.prog 35 #[.slice (some ⟨g, 0, none⟩) 123 123, .int .i64 (1 + 2 * (k : Int)), .int .i64 2] w fun e w' => e = .returned (.tuple #[.int .u64 0, .bool false]) ∧ w = w' :=
  (get_no (some ⟨g, 0, none⟩) 123 123 (1 + 2 * (k : Int)) 2 w (by decide) (by omega)).mono fun e w' ⟨he, hw⟩ => ⟨he, hw⟩

set_option maxRecDepth 100000 in
set_option maxHeartbeats 2000000 in
theorem numbers1 (n : Nat) (hn : 1 ≤ n) (l Bn n₀ g : Nat) (bs : List UInt8) (hlen : bs.length = 123) (hg : g < n₀) (hcl : cAt bs < 256) (J Jx : List UInt16 → World → Prop)
    (hY : ∀ pre x W, J pre W → pre.length < min (cAt bs) 61 → YieldAt Fence.wide (n - 1) Try.prog l #[.int .u16 (x.toNat : Int)] W fun e W' =>
      (e = .returned (.bool true) ∧ J (pre ++ [x]) W' ∧ Keep n₀ Bn W W') ∨ (e = .returned (.bool false) ∧ Jx (pre ++ [x]) W'))
    (W : World) (hBn : W.cell? ⟨Bn, 0, none⟩ = some (.slice (some ⟨g, 0, none⟩) 123 123)) (hh : Has W g 0 bs) (h0 : J [] W) (hdr : ∀ pre w, J pre w → J pre w.drew) (hdx : ∀ pre w, Jx pre w → Jx pre w.drew) :
    CallsIn Fence.wide n Try.prog 36 #[.func (.yield l) #[] #[], .pointer (some ⟨Bn, 0, none⟩)] W fun e W' => (∃ v, e = .returned v) ∧
      ((∃ ys, ys = upto bs (min (cAt bs) 61) ∧ J ys W') ∨ (∃ pre, pre <+: upto bs (min (cAt bs) 61) ∧ Jx pre W')) := by
  refine callsIn_of_wp Try.func36 rfl trivial ?_ rfl
  simp only [Try.ntmps36, List.size_toArray, List.length_cons, List.length_nil, Nat.reduceAdd, Nat.reduceSub, Array.replicate_succ, Array.replicate_zero, List.push_toArray, List.append_toArray, List.nil_append, List.cons_append]
  gi_wp2_with (refine ⟨trivial, ?_⟩; gi_at_call 35; refine (callsIn_wide.2 (get_count hlen hh)).mono ?_; rintro e w' ⟨rfl, rfl⟩)
  gi_loopw [15] (fun i wr => ∃ k : Nat, k ≤ min (cAt bs) 61 ∧ i = .int .i64 (k : Int) ∧ J (upto bs k) wr ∧ Keep n₀ Bn W wr) (fun i _ => cAt bs - (intOf i).toNat)
  case atStart => exact ⟨0, Nat.zero_le _, rfl, h0, Keep.refl _ _ _⟩
  case round =>
    obtain ⟨k, hk, rfl, hJs, hnx⟩ := hrel
    have hc := (World.cell?_of_block (a := ⟨Bn, 0, none⟩) hnx.2).trans hBn
    have hH := Lib.hid (hh.below hg hnx.1)
    by_cases hlt : k < cAt bs
    · by_cases h61 : k < 61
      · have HD := hdr _ _ hJs
        obtain ⟨fn, tmps, assign, body, hy, hR⟩ := hY _ (wAt bs k) wr.drew HD (by rw [upto_length]; omega)
        have hx := u16_lt (wAt bs k)
        have hus := Lib.hid (upto_succ bs k)
        have hGN := Lib.hid (get_number hlen (hH.out.still (sdrew wr)) k h61)
        generalize wAt bs k = x at hy hR hx hus hGN
        have hmx : Try.prog.follows .mixedOrders = true := by kernel_rfl
        gi_wp2
        gi_region_with_o (first | (refine ⟨trivial, ?_⟩; gi_at_call 24; refine (callsIn_wide.2 (at_same k (by omega) _)).mono ?_; rintro e w' ⟨rfl, rfl⟩) | (refine ⟨trivial, ?_⟩; gi_at_call 35; refine (callsIn_wide.2 hGN.out).mono ?_; rintro e w' ⟨rfl, rfl⟩))
        all_goals
          gi_wp2
          refine hR.mono ?_
          rintro e W3 (⟨rfl, hJ3, hk3⟩ | ⟨rfl, hJx3⟩)
          · rw [← hus.out] at hJ3
            gi_wp2
            go_roundw
            case rel => exact ⟨k + 1, by omega, by go_num, hJ3, keep_t hnx (keep_t (Keep.drew _ _ wr) hk3)⟩
            case measure => simp [intOf]; omega
          · rw [← hus.out] at hJx3
            gi_wp2
            refine bodyPost_ret (results_none rfl _ _ _) rfl ?_
            exact ⟨⟨_, rfl⟩, .inr ⟨_, upto_prefix bs (by omega), hJx3⟩⟩
      · have hk61 := Lib.hid (show k = min (cAt bs) 61 by omega)
        have hmx : Try.prog.follows .mixedOrders = true := by kernel_rfl
        have HD := hdr _ _ hJs
        have hGN := Lib.hid (get_beyond (w := wr.drew) (g := g) k h61)
        gi_wp2
        gi_region_with_o (first | (refine ⟨trivial, ?_⟩; gi_at_call 24; refine (callsIn_wide.2 (at_same k (by omega) _)).mono ?_; rintro e w' ⟨rfl, rfl⟩) | (refine ⟨trivial, ?_⟩; gi_at_call 35; refine (callsIn_wide.2 hGN.out).mono ?_; rintro e w' ⟨rfl, rfl⟩))
        all_goals
          gi_wp2
          refine ⟨fun _ h => (by cases h), ?_⟩
          gi_wp2
          refine bodyPost_ret (results_none rfl _ _ _) rfl ?_
          exact ⟨⟨_, rfl⟩, .inl ⟨_, rfl, by rw [← hk61.out]; exact HD⟩⟩
    · have hk61 := Lib.hid (show k = min (cAt bs) 61 by omega)
      gi_wp2
      go_end0
      exact ⟨⟨_, rfl⟩, .inl ⟨_, rfl, by rw [← hk61.out]; exact hJs⟩⟩

/-- numbers hands back an iterator of the body's numbers. -/
theorem numbers_any (n : Nat) (g : Nat) (w : World) :
    CallsIn Fence.wide n Try.prog 27 #[.slice (some ⟨g, 0, none⟩) 123 123] w fun e w' => e = .returned (.func (.func 36) #[] #[.pointer (some ⟨w.heap.size, 0, none⟩)]) ∧ w' = w.alloc (.cells #[.slice (some ⟨g, 0, none⟩) 123 123] 23) := by
  refine callsIn_of_wp Try.func27 rfl trivial ?_ rfl
  simp only [Try.ntmps27, List.size_toArray, List.length_cons, List.length_nil, Nat.reduceAdd, Nat.reduceSub, Array.replicate_succ, Array.replicate_zero, List.push_toArray, List.append_toArray, List.nil_append, List.cons_append]
  gi_wp2
  go_ret
  exact ⟨rfl, rfl⟩
theorem drew_grown (w : World) : w.grownBy w.drew none := ⟨rfl, rfl, rfl, Nat.le_refl _, fun _ _ _ => rfl⟩
theorem abides_drew {β : Type} {B : Nat} {J : β → World → Prop} (h : AbidesFrom B J) (s : β) (w : World) (hs : J s w) : J s w.drew := h s w _ none hs (drew_grown w) (fun r e => by cases e)
theorem numbers_stops (n : Nat) (hn : 1 ≤ n) (Bn n₀ g : Nat) (bs : List UInt8) (hlen : bs.length = 123) (hcl : cAt bs < 256) (w : World) (hg : g < n₀) (hB : Bn < w.heap.size) (hn₀ : n₀ ≤ w.heap.size)
    (hBn : w.cell? ⟨Bn, 0, none⟩ = some (.slice (some ⟨g, 0, none⟩) 123 123)) (hh : Has w g 0 bs) :
    SeqStopsK Fence.wide n Try.prog 36 #[.pointer (some ⟨Bn, 0, none⟩)] (fun x : UInt16 => #[Value.int .u16 (x.toNat : Int)]) (Keep n₀ Bn) (fun ys => ys = upto bs (min (cAt bs) 61)) (fun pre => pre <+: upto bs (min (cAt bs) 61)) (min (cAt bs) 61) w := fun l J Jx W hW hJ hJx hY h0 =>
  numbers1 n hn l Bn n₀ g bs hlen hg hcl J Jx hY W ((hW.cell (p := ⟨Bn, 0, none⟩) hB).trans hBn) (hh.below (by omega) hW) h0 (fun s w' hs => abides_drew hJ s w' hs) (fun s w' hs => abides_drew hJx s w' hs)
end Go.Proofs.Ytpkfcbbnfhjjlaa.Ix
