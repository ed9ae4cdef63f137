/- A tally asked: made, Blocks, has, Get, changed, Free. -/
import Derived.Test.YtlemjegngnfanaaTlA
import Derived.Laws.ResultCell
import Derived.Deep.WholeRow
import Derived.Deep.DeepCutAuto
import Derived.LaidEqlPtr
namespace Go.Proofs.Ytlemjegngnfanaa.Tl
open Go.RowKit Go.Proofs.Ytlemjegngnfanaa.Oct Go.Proofs.Ytlemjegngnfanaa.Mv Go.Maps
set_option linter.unusedVariables false

/-! ### made -/
theorem tally_info : (Try.prog.info? 80).isSome = true := by kernel_rfl
theorem eql_self (a : Nat) (w : World) : (binOp .eql 24 (.pointer (some ⟨a, 0, none⟩)) (.pointer (some ⟨a, 0, none⟩))).run Try.prog w = .ok (.bool true) w := by
  obtain ⟨j, hj⟩ := Option.isSome_iff_exists.1 tally_info
  exact run_eql_ptr_same (P := Try.prog) w ⟨a, 0, none⟩ Try.underlying24 hj
theorem eql_nil (a : Addr) (w : World) : (binOp .eql 24 (.pointer none) (.pointer (some a))).run Try.prog w = .ok (.bool false) w := by
  have h : ∀ d : Nat, (Op.equalIn (d + 1) 24 (.pointer none) (.pointer (some a))).run Try.prog w = .ok false w := fun d => by
    simp [Op.equalIn, run_underlying Try.underlying24]
  simp only [binOp]
  simp [Op.equal, Op.maxDepth, h 9999]
set_option maxRecDepth 100000 in
theorem made_self (a : Nat) (w : World) (h : w.cell? ⟨a, 2, none⟩ = some (.pointer (some ⟨a, 0, none⟩))) :
    Calls Try.prog 43 #[.pointer (some ⟨a, 0, none⟩)] w fun e w' => e = .returned (.bool true) ∧ w = w' := by
  have k := eql_self a w
  go_enter Try.func43, Try.ntmps43
  go_wp2
  go_ret
  exact ⟨rfl, rfl⟩
/-- What is no tally: nil, or one that was made by nobody. -/
def Nay (w : World) (v : Value) : Prop := v = .pointer none ∨ ∃ a, v = .pointer (some ⟨a, 0, none⟩) ∧ w.cell? ⟨a, 2, none⟩ = some (.pointer none)
theorem Nay.below {w w' : World} {v : Value} (h : Nay w v) (k : Below w.heap.size w w') : Nay w' v := by
  rcases h with h | ⟨a, h, h2⟩
  · exact .inl h
  · exact .inr ⟨a, h, (k.cell (World.block_lt_of_cell? w _ h2)).trans h2⟩
set_option maxRecDepth 100000 in
theorem made_nay (v : Value) (w : World) (h : Nay w v) :
    Calls Try.prog 43 #[v] w fun e w' => e = .returned (.bool false) ∧ w = w' := by
  rcases h with rfl | ⟨a, rfl, h⟩
  · go_enter Try.func43, Try.ntmps43
    go_wp2
    go_ret
    exact ⟨rfl, rfl⟩
  · have k := eql_nil ⟨a, 0, none⟩ w
    go_enter Try.func43, Try.ntmps43
    go_wp2
    go_ret
    exact ⟨rfl, rfl⟩

/-! ### Blocks -/
set_option maxRecDepth 100000 in
theorem blocks_at {w : World} {a cb mb c : Nat} {s : St} (h : At w a cb mb c s) :
    Calls Try.prog 32 #[.pointer (some ⟨a, 0, none⟩)] w fun e w' => e = .returned (.int .i64 (s.n : Int)) ∧ w = w' := by
  have c0 := h.c0
  have c2 := h.c2
  clear h
  go_enter Try.func32, Try.ntmps32
  go_wp2_with fail
  refine (made_self a _ c2).mono ?_
  rintro e w' ⟨rfl, rfl⟩
  go_wp2_with fail
  go_ret
  exact ⟨rfl, rfl⟩
theorem blocks_nay (v : Value) (w : World) (h : Nay w v) :
    Calls Try.prog 32 #[v] w fun e w' => e = .returned (.int .i64 0) ∧ w = w' := by
  go_enter Try.func32, Try.ntmps32
  go_wp2_with fail
  refine (made_nay v _ h).mono ?_
  rintro e w' ⟨rfl, rfl⟩
  go_wp2_with fail
  go_ret
  exact ⟨rfl, rfl⟩

/-! ### has -/
set_option maxRecDepth 100000 in
theorem has_yes {w : World} {a cb mb c : Nat} {s : St} (h : At w a cb mb c s) (i : Nat) (hi : i < s.n) :
    Calls Try.prog 44 #[.pointer (some ⟨a, 0, none⟩), .int .i64 (i : Int)] w fun e w' => e = .returned (.bool true) ∧ w = w' := by
  have H := Lib.hid h
  have hlt : (i : Int) < (s.n : Int) := by omega
  have hge : (0 : Int) ≤ (i : Int) := by omega
  clear h hi
  go_enter Try.func44, Try.ntmps44
  go_wp2_with fail
  refine (blocks_at H.out).mono ?_
  rintro e w' ⟨rfl, rfl⟩
  go_wp2_with fail
  go_ret
  exact ⟨rfl, rfl⟩
set_option maxRecDepth 100000 in
theorem has_no {w : World} {a cb mb c : Nat} {s : St} (h : At w a cb mb c s) (b : Int) (hb : b < 0 ∨ (s.n : Int) ≤ b) :
    Calls Try.prog 44 #[.pointer (some ⟨a, 0, none⟩), .int .i64 b] w fun e w' => e = .returned (.bool false) ∧ w = w' := by
  have H := Lib.hid h
  clear h
  by_cases h0 : 0 ≤ b
  · have h1 : ¬ (b < (s.n : Int)) := by omega
    clear hb
    go_enter Try.func44, Try.ntmps44
    go_wp2_with fail
    refine (blocks_at H.out).mono ?_
    rintro e w' ⟨rfl, rfl⟩
    go_wp2_with fail
    go_ret
    refine ⟨?_, rfl⟩
    show Ending.returned (.bool (decide _)) = _
    rw [decide_eq_false (by omega)]
  · clear hb
    go_enter Try.func44, Try.ntmps44
    go_wp2_with fail
    go_ret
    exact ⟨rfl, rfl⟩
set_option maxRecDepth 100000 in
theorem has_nay (v : Value) (b : Int) (w : World) (h : Nay w v) :
    Calls Try.prog 44 #[v, .int .i64 b] w fun e w' => e = .returned (.bool false) ∧ w = w' := by
  by_cases h0 : 0 ≤ b
  · have h1 : ¬ (b < 0) := by omega
    go_enter Try.func44, Try.ntmps44
    go_wp2_with fail
    refine (blocks_nay v _ h).mono ?_
    rintro e w' ⟨rfl, rfl⟩
    go_wp2_with fail
    go_ret
    refine ⟨?_, rfl⟩
    show Ending.returned (.bool (decide _)) = _
    rw [decide_eq_false (by omega)]
  · go_enter Try.func44, Try.ntmps44
    go_wp2_with fail
    go_ret
    exact ⟨rfl, rfl⟩

/-! ### Get -/
set_option maxRecDepth 100000 in
theorem get_yes {w : World} {a cb mb c : Nat} {s : St} (h : At w a cb mb c s) (i : Nat) (hi : i < s.n) :
    Calls Try.prog 26 #[.pointer (some ⟨a, 0, none⟩), .int .i64 (i : Int)] w fun e w' => e = .returned (.int .i64 ((s.cnt i).toNat : Int)) ∧ w = w' := by
  have c0 := h.c0
  have cc := h.count hi
  have H := Lib.hid h
  have hlt : (i : Int) < (s.n : Int) := by omega
  have hge : (0 : Int) ≤ (i : Int) := by omega
  have hu := u16_lt (s.cnt i)
  clear h
  go_enter Try.func26, Try.ntmps26
  go_wp2_with fail
  refine (has_yes H.out i hi).mono ?_
  rintro e w' ⟨rfl, rfl⟩
  go_wp2_with fail
  go_ret
  exact ⟨rfl, rfl⟩
theorem get_no {w : World} {a cb mb c : Nat} {s : St} (h : At w a cb mb c s) (b : Int) (hb : b < 0 ∨ (s.n : Int) ≤ b) :
    Calls Try.prog 26 #[.pointer (some ⟨a, 0, none⟩), .int .i64 b] w fun e w' => e = .returned (.int .i64 0) ∧ w = w' := by
  go_enter Try.func26, Try.ntmps26
  go_wp2_with fail
  refine (has_no h b hb).mono ?_
  rintro e w' ⟨rfl, rfl⟩
  go_wp2_with fail
  go_ret
  exact ⟨rfl, rfl⟩
theorem get_nay (v : Value) (b : Int) (w : World) (h : Nay w v) :
    Calls Try.prog 26 #[v, .int .i64 b] w fun e w' => e = .returned (.int .i64 0) ∧ w = w' := by
  go_enter Try.func26, Try.ntmps26
  go_wp2_with fail
  refine (has_nay v b _ h).mono ?_
  rintro e w' ⟨rfl, rfl⟩
  go_wp2_with fail
  go_ret
  exact ⟨rfl, rfl⟩

/-! ### changed -/
theorem own_look {w : World} {mb nn : Nat} {D : DataW Unit} (h : w.ownsMap Try.prog 3 (plainElem Try.prog 22) mb nn D) (i : Nat) (hi : i ≤ 4096) :
    ∃ c : Int, (Instr.lookup 78 (.map (some mb)) (.int .i64 (i : Int)) true).run Try.prog w = .ok (.tuple #[.int .u16 c, .bool (Maps.has D (key i))]) w ∧
      (Instr.lookup 78 (.map (some mb)) (.int .i64 (i : Int)) false).run Try.prog w = .ok (.int .u16 c) w ∧ ∀ x, (∀ z, D.atKey (key i) z = dat x) → c = (x.toNat : Int) := by
  obtain ⟨v, p, hrun, hv⟩ := h.look_ok law Try.underlying78 (zero_num w) (zd := dat 0) (zp := []) (plainElem_int Try.underlying22 (by decide)) (key_of i hi)
  obtain ⟨c, rfl, hc, _⟩ := plainElem_int_inv Try.underlying22 hv
  obtain ⟨c', hrun', hat', _⟩ := h.lookup_int law Try.underlying78 Try.underlying22 (zero_num w) (key_of i hi)
  have e1 : D.atKey (key i) (dat 0) = .lit (.int .u16 c) := congrArg Prod.fst hc
  have e2 : (DataW.lit (.int .u16 c) : DataW Unit) = .lit (.int .u16 c') := e1.symm.trans hat'
  simp only [DataW.lit.injEq, Lit.int.injEq, true_and] at e2
  subst e2
  refine ⟨c, hrun, hrun', fun x hx => ?_⟩
  have := e1.symm.trans (hx _)
  simp only [dat, DataW.lit.injEq, Lit.int.injEq, true_and] at this
  exact this
set_option maxRecDepth 100000 in
theorem changed_at {w : World} {a cb mb c : Nat} {s : St} (h : At w a cb mb c s) (i : Nat) (hi : i < s.n) :
    Calls Try.prog 56 #[.pointer (some ⟨a, 0, none⟩), .int .i64 (i : Int)] w fun e w' => e = .returned (.bool (s.moved i)) ∧ w = w' := by
  obtain ⟨D, ho, hs⟩ := h.mp.own h.ok
  obtain ⟨z, hl, _, _⟩ := own_look ho i (by have := h.ok.hi; unfold St.n at hi; omega)
  rw [hs.hasKey] at hl
  have c1 := h.c1
  clear h ho hs hi
  go_enter Try.func56, Try.ntmps56
  go_wp2_with fail
  go_ret
  exact ⟨rfl, rfl⟩

/-! ### Free -/
theorem cnt_zero {s : St} {i : Nat} (h : (s.cnt i == 0) = true) : (s.cnt i).toNat = 0 := by
  have : s.cnt i = 0 := by simpa using h
  rw [this]; rfl
theorem cnt_some {s : St} {i : Nat} (h : (s.cnt i == 0) = false) : ¬ ((s.cnt i).toNat = 0) := fun e => by
  have : s.cnt i = 0 := UInt16.toNat_inj.1 (by rw [e]; rfl)
  rw [this] at h
  cases h
theorem free_moved {s : St} {i : Nat} (h : (s.cnt i == 0) = true) : s.free i = !s.moved i := by
  have h0 : s.cnt i = 0 := by simpa using h
  unfold St.free St.moved
  rw [h0]
  have e : ((0 : UInt16) == s.was i) = (s.was i == 0) := BEq.comm
  simp [bne, e]
theorem waits_moved {s : St} {i : Nat} (h : (s.cnt i == 0) = true) : s.waits i = s.moved i := by
  have h0 : s.cnt i = 0 := by simpa using h
  unfold St.waits St.moved
  rw [h0]
  have e : ((0 : UInt16) == s.was i) = (s.was i == 0) := BEq.comm
  simp [bne, e]
set_option maxRecDepth 100000 in
theorem free_yes {w : World} {a cb mb c : Nat} {s : St} (h : At w a cb mb c s) (i : Nat) (hi : i < s.n) :
    Calls Try.prog 54 #[.pointer (some ⟨a, 0, none⟩), .int .i64 (i : Int)] w fun e w' => e = .returned (.bool (s.free i)) ∧ w = w' := by
  have c0 := h.c0
  have cc := h.count hi
  have H := Lib.hid h
  have hlt : (i : Int) < (s.n : Int) := by omega
  have hge : (0 : Int) ≤ (i : Int) := by omega
  clear h
  cases h0 : (s.cnt i == 0)
  · have hz := cnt_some h0
    have hz' : ¬ (((s.cnt i).toNat : Int) = 0) := by omega
    have hf : s.free i = false := by unfold St.free; rw [h0]; rfl
    rw [hf]
    clear hf h0 hz
    go_enter Try.func54, Try.ntmps54
    go_wp2_with fail
    refine (has_yes H.out i hi).mono ?_
    rintro e w' ⟨rfl, rfl⟩
    go_wp2_with fail
    go_ret
    exact ⟨rfl, rfl⟩
  · have hz := cnt_zero h0
    rw [hz] at cc
    rw [free_moved h0]
    clear h0 hz
    cases hm : s.moved i
    all_goals
      go_enter Try.func54, Try.ntmps54
      go_wp2_with fail
      refine (has_yes H.out i hi).mono ?_
      rintro e w' ⟨rfl, rfl⟩
      go_wp2_with fail
      refine (changed_at H.out i hi).mono ?_
      rintro e w' ⟨rfl, rfl⟩
      rw [hm]
      go_wp2_with fail
      go_ret
      exact ⟨rfl, rfl⟩
theorem free_no {w : World} {a cb mb c : Nat} {s : St} (h : At w a cb mb c s) (b : Int) (hb : b < 0 ∨ (s.n : Int) ≤ b) :
    Calls Try.prog 54 #[.pointer (some ⟨a, 0, none⟩), .int .i64 b] w fun e w' => e = .returned (.bool false) ∧ w = w' := by
  go_enter Try.func54, Try.ntmps54
  go_wp2_with fail
  refine (has_no h b hb).mono ?_
  rintro e w' ⟨rfl, rfl⟩
  go_wp2_with fail
  go_ret
  exact ⟨rfl, rfl⟩
theorem free_nay (v : Value) (b : Int) (w : World) (h : Nay w v) :
    Calls Try.prog 54 #[v, .int .i64 b] w fun e w' => e = .returned (.bool false) ∧ w = w' := by
  go_enter Try.func54, Try.ntmps54
  go_wp2_with fail
  refine (has_nay v b _ h).mono ?_
  rintro e w' ⟨rfl, rfl⟩
  go_wp2_with fail
  go_ret
  exact ⟨rfl, rfl⟩
end Go.Proofs.Ytlemjegngnfanaa.Tl

