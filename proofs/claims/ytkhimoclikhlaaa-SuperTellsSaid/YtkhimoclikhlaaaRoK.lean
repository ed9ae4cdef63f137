/- What the reference's Open answers, with its bytes in memory as told. -/
import Derived.Test.YtkhimoclikhlaaaRoU
import Derived.Deep.RegionLaw
namespace Go.Proofs.Ytkhimoclikhlaaa.Oct
open Go.RowKit
set_option linter.unusedVariables false

theorem number_q (b o len cap : Nat) (bs : List UInt8) (hlen : bs.length = len) (w : World) (hl : len ≤ 8) (hb : Has w b o bs) :
    Calls Try.prog 35 #[.slice (some ⟨b, o, none⟩) len cap] w fun e w' => e = .returned (.int .u64 (num bs)) ∧ w' = w :=
  (number_any b o len cap bs hlen w hl hb).mono fun _ _ ⟨h, k⟩ => ⟨h, k.symm⟩
theorem rsum_q (b o len cap : Nat) (bs : List UInt8) (hlen : bs.length = len) (w : World) (hl : len ≤ maxLen) (hb : Has w b o bs) :
    Calls Try.prog 40 #[.slice (some ⟨b, o, none⟩) len cap] w fun e w' => e = .returned (.int .u32 (sum bs)) ∧ w' = w :=
  (rsum_any b o len cap bs hlen w hl hb).mono fun _ _ ⟨h, k⟩ => ⟨h, k.symm⟩

theorem ropen_len (a : Option Addr) (len cap : Nat) (w : World) (h : len ≠ 128) (hm : len ≤ maxLen) :
    Calls Try.prog 34 #[.slice a len cap] w fun e w' => e = .returned (.tuple #[.int .u8 0, .slice none 0 0, .int .i64 10]) ∧ Still w w' := by
  unfold maxLen at hm
  have ht : (((len : Nat) : Int) != 128) = true := by rw [bne_iff_ne]; omega
  clear h
  go_enter Try.func34, Try.ntmps34
  go_wp2_with fail
  go_quiet (fail)
  go_wp2_with fail
  go_ret3
  exact ⟨rfl, Still.drewN _ _⟩

set_option maxHeartbeats 800000 in
theorem ropen_bad (b o cap : Nat) (ps : List UInt8) (w : World) (hb : Has w b o ps) (hlen : ps.length = 128) (hc : 128 ≤ cap) (hm : cap ≤ maxLen) (hs : ¬ Good ps) :
    Calls Try.prog 34 #[.slice (some ⟨b, o, none⟩) 128 cap] w fun e w' => e = .returned (.tuple #[.int .u8 0, .slice none 0 0, .int .i64 10]) ∧ Still w w' := by
  have I := open_in hb hlen
  have hsl := sum_lt (ps.take 124)
  have hnl := num_lt8 (ps.drop 124) (by rw [I.l2]; omega)
  have ht : ((num (ps.drop 124) : Int) != (sum (ps.take 124) : Int)) = true := by
    unfold Good at hs
    rw [bne_iff_ne]; omega
  have hne : ¬ cap = 124 := by omega
  have h124 : 124 ≤ cap := by omega
  clear hlen hb hs
  unfold maxLen at hm
  go_enter Try.func34, Try.ntmps34
  go_wp2_with fail
  go_quiet ((first | (go_at_call 35; exact Calls.quiet_of_same (number_q b (o + 124) 4 (cap - 124) _ I.l2 _ (by omega) (I.h2.still (Still.drewN _ _)))) | (go_at_call 40; exact Calls.quiet_of_same (rsum_q b o 124 cap _ I.l1 _ (by decide) (I.h1.still (Still.drewN _ _))))))
  go_wp2_with fail
  go_ret3
  exact ⟨rfl, Still.drewN _ _⟩

theorem step_append_bytes {ops : Array Oper} {o : Oper} {a : Act} {w : World} {K : Act → World → Prop} {Q : Exit → Act → World → Prop} {E : Prop} (hgd : o.guard = none) (s x : Operand)
    (ho : o.op = .call { callee := .builtin .append, args := #[s, x], argTypes := #[28, 28] }) (base : Nat) (v : Value) (xs ys : List UInt8) (hs : a.eval s = v) (hown : Own w base v xs)
    (ad : Option Addr) (len cap : Nat) (hx : a.eval x = .slice ad len cap) (hlen : ys.length = len) (hT : Told w ad ys) (hnil : ad = none → cap = 0) (hsz : xs.length + len ≤ 140737488355328) (hbase : base ≤ w.heap.size)
    (h : ∀ v' w', Own w' base v' (xs ++ ys) → Below base w w' → K (a.put o.dst v') w') : if Region.wanted o (yielded ops a.tmps) = true then Oper.wp Try.prog o a w K Q else E := by
  have hw : Region.wanted o (yielded ops a.tmps) = true := by simp [Region.wanted, hgd]
  rw [if_pos hw]
  obtain ⟨v', w', hrun, h2, h3⟩ := run_append_bytes w o.type base v xs ys hown ad len cap hlen hT hnil hsz hbase
  unfold Oper.wp
  simp [execOp, ho, resolve, invoke, builtin, hs, hx, hrun, Result.andThen]
  exact h _ _ h2 h3

def ROpenPost (w : World) (kind : UInt8) (bs : List UInt8) (e : Ending) (w' : World) : Prop :=
  ∃ v, e = .returned (.tuple #[.int .u8 (kind.toNat : Int), v, .int .i64 0]) ∧ Own w' w.heap.size v bs ∧ Below w.heap.size w w'

set_option maxHeartbeats 800000 in
theorem ropen_good (b o cap : Nat) (ps : List UInt8) (w : World) (hb : Has w b o ps) (hlen : ps.length = 128) (hc : 128 ≤ cap) (hm : cap ≤ maxLen) (hs : Good ps) :
    Calls Try.prog 34 #[.slice (some ⟨b, o, none⟩) 128 cap] w (ROpenPost w (ps[0]'(by omega)) ((ps.drop 1).take 123)) := by
  have I := open_in hb hlen
  have hsl := sum_lt (ps.take 124)
  have hnl := num_lt8 (ps.drop 124) (by rw [I.l2]; omega)
  have ht : ((num (ps.drop 124) : Int) != (sum (ps.take 124) : Int)) = false := by
    unfold Good at hs
    rw [hs]; simp
  have hne : ¬ cap = 124 := by omega
  have hne1 : ¬ cap = 1 := by omega
  have h124 : 124 ≤ cap := by omega
  have h124i : (124 : Int) ≤ (cap : Int) := by omega
  have c0 := hb 0 (by omega)
  rw [Nat.add_zero] at c0
  have hbw := World.block_lt_of_cell? w _ c0
  have HC := Lib.hid c0
  generalize ps[0]'(by omega) = kind at HC
  have IM := I.hm
  have LM := I.lm
  generalize (ps.drop 1).take 123 = mid at *
  clear hlen hb hs c0
  unfold maxLen at hm
  go_enter Try.func34, Try.ntmps34
  go_wp2_with fail
  go_quiet ((first | (go_at_call 35; exact Calls.quiet_of_same (number_q b (o + 124) 4 (cap - 124) _ I.l2 _ (by omega) (I.h2.still (Still.drewN _ _)))) | (go_at_call 40; exact Calls.quiet_of_same (rsum_q b o 124 cap _ I.l1 _ (by decide) (I.h1.still (Still.drewN _ _))))))
  have S2 := Still.drewN w nq
  generalize w.drewN nq = w2 at *
  have hb2 : b < w2.heap.size := by rw [S2.heap]; exact hbw
  have e2 : w2.cell? ⟨b, o, none⟩ = some (.int .u8 (kind.toNat : Int)) := (S2.cell _).trans HC.out
  have A2 : Below w2.heap.size w2 (w2.alloc (.cells #[] 5)).drew := ((Below.refl w2.heap.size w2).alloc (Nat.le_refl _) _).drew
  have OD := Lib.hid (show Own (w2.alloc (.cells #[] 5)).drew w2.heap.size (.slice (some ⟨w2.heap.size, 0, none⟩) 0 0) [] from own_none w2)
  have TD := Lib.hid (((IM.still S2).below hb2 A2).told)
  have HA := Lib.hid A2
  have HS := Lib.hid (show ([] : List UInt8).length + 123 ≤ 140737488355328 by decide)
  have HLM := Lib.hid LM
  have HA2 := Lib.hid A2.size
  clear A2
  go_wp2_with fail
  go_region_law (refine step_append_bytes rfl (.tmp 21) (.tmp 23) rfl w2.heap.size _ [] _ rfl OD.out _ 123 _ rfl HLM.out TD.out (fun h => nomatch h) HS.out HA2.out ?_; intro v3 w3 O3 B3; have e3 : w3.cell? ⟨b, o, none⟩ = some (.int .u8 (kind.toNat : Int)) := (B3.cell (p := ⟨b, o, none⟩) hb2).trans ((HA.out.cell (p := ⟨b, o, none⟩) hb2).trans e2))
  all_goals
    rw [List.nil_append] at O3
    have hsz : w2.heap.size = w.heap.size := by rw [S2.heap]
    have B5 : Below w.heap.size w w3 := (S2.below _).trans ((HA.out.mono (by rw [hsz]; exact Nat.le_refl _)).trans (B3.mono (by rw [hsz]; exact Nat.le_refl _)))
    rw [hsz] at O3
    clear hsz e3 B3
    go_wp2
    go_ret3
    exact ⟨v3, rfl, O3, B5⟩
end Go.Proofs.Ytkhimoclikhlaaa.Oct
