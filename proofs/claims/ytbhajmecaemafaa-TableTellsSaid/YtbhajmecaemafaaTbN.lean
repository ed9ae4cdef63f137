/- The reference's answers of tables: New, Print, Unlike. -/
import Derived.Test.YtbhajmecaemafaaTbJ
namespace Go.Proofs.Ytbhajmecaemafaa.Tb
open Go.RowKit Go.Proofs.Ytbhajmecaemafaa.Oct
set_option linter.unusedVariables false

theorem tell_at {l : List Pair} {k : Nat} (h : k < l.length) : (tells l)[k]'(by rw [length_tells]; exact h) = (l[k].bs, l[k].pr) := by simp [tells, Pair.tell]
theorem take_at {l : List Pair} {k : Nat} (h : k < l.length) : (tells l).take (k + 1) = (tells l).take k ++ [(l[k].bs, l[k].pr)] := by
  rw [List.take_add_one, List.getElem?_eq_getElem (by rw [length_tells]; exact h), tell_at h]
  rfl
theorem isIn_next {l : List Pair} {k : Nat} (h : k < l.length) (x : List UInt8) (h0 : isIn ((tells l).take k) x = false) (hx : l[k].bs ≠ x) : isIn ((tells l).take (k + 1)) x = false := by
  rw [take_at h]
  unfold isIn at h0 ⊢
  rw [List.any_append, h0]
  simp [hx]
theorem isIn_hit {l : List Pair} {j k : Nat} (h : k < l.length) (hj : j < k) (e : l[j].bs = l[k].bs) : isIn ((tells l).take k) l[k].bs = true := by
  rw [isIn_iff, ← e]
  refine List.mem_map.2 ⟨(tells l)[j]'(by rw [length_tells]; omega), ?_, by rw [tell_at (by omega)]⟩
  rw [List.mem_take_iff_getElem]
  exact ⟨j, by rw [length_tells]; omega, rfl⟩
theorem good_next {l : List Pair} {k : Nat} (h : k < l.length) (hg : Good ((tells l).take k)) (hx : l[k].bs.length = 128) (hi : isIn ((tells l).take k) l[k].bs = false) : Good ((tells l).take (k + 1)) := by
  rw [take_at h]
  exact good_snoc.2 ⟨hg, hx, hi⟩
theorem bad_len {l : List Pair} {k : Nat} (h : k < l.length) (hn : l.length ≤ 1000) (hx : l[k].bs.length ≠ 128) : newErr (tells l) = 70 :=
  bad_step (k := k) (by rw [length_tells]; exact h) (by rw [length_tells]; exact hn) (by rw [tell_at h]; exact fun q => hx q.1)
theorem bad_twice {l : List Pair} {j k : Nat} (h : k < l.length) (hj : j < k) (hn : l.length ≤ 1000) (e : l[j].bs = l[k].bs) : newErr (tells l) = 70 :=
  bad_step (k := k) (by rw [length_tells]; exact h) (by rw [length_tells]; exact hn) (by rw [tell_at h]; exact fun q => by have := isIn_hit h hj e; rw [q.2] at this; cases this)
theorem conv_str {w : World} {A : Option Addr} {n : Nat} {bs : List UInt8} (hl : bs.length = n) (h : Oct.Told w A bs) (c : Nat) : ∀ k, (convert 26 9 (.slice A n c)).run Try.prog (w.drewN k) = .ok (.string ⟨bs.toArray⟩) (w.drewN k) := by
  intro k
  subst hl
  refine conv_told (P := Try.prog) ?_ c 26 9 5 Try.underlying26 Try.underlying5 Try.underlying9
  rcases h with h | ⟨b, o, h1, h2⟩
  · exact .inl h
  · exact .inr ⟨b, o, h1, h2.still (Still.drewN w k)⟩
theorem pin_still {w w' : World} {A : Option Addr} {n c : Nat} {l : List Pair} (h : PIn w A n c l) (s : Still w w') : PIn w' A n c l := h.kept (s.below _)

set_option maxRecDepth 100000 in
set_option maxHeartbeats 1000000 in
theorem rnew_any {w : World} {A : Option Addr} {n c : Nat} {l : List Pair} (h : PIn w A n c l) :
    Calls Try.prog 11 #[.slice A n c] w fun e w' => e = .returned (.int .i64 (newErr (tells l))) ∧ Still w w' := by
  have HP := Lib.hid h
  have HL := Lib.hid h.el
  clear h
  go_enter Try.func11, Try.ntmps11
  by_cases hn : 1000 < n
  · have hni : (1000 : Int) < (n : Int) := by omega
    have HE := Lib.hid (show newErr (tells l) = 3 by unfold newErr; rw [if_pos (by rw [length_tells, HL.out]; exact hn)])
    go_wp2_with fail
    go_ret
    exact ⟨by rw [HE.out]; first | rfl | trivial, ⟨rfl, rfl, rfl, rfl⟩⟩
  have hni : ¬ ((1000 : Int) < (n : Int)) := by omega
  go_wp2_with fail
  go_loopw [3] (fun i wr => ∃ k : Nat, k ≤ n ∧ i = .int .i64 (k : Int) ∧ Hid (Good ((tells l).take k)) ∧ Still w wr) (fun i _ => n - (intOf i).toNat)
  case atStart => exact ⟨0, Nat.zero_le _, rfl, Lib.hid (by rw [List.take_zero]; exact good_nil), ⟨rfl, rfl, rfl, rfl⟩⟩
  case round =>
    obtain ⟨k, hk, rfl, HG, HS⟩ := hrel
    have HSt := Lib.hid HS
    clear HS
    by_cases hlt : k < n
    case neg =>
      obtain rfl : k = n := by omega
      have HE := Lib.hid (show newErr (tells l) = 0 by
        have := HG.out
        rw [List.take_of_length_le (by rw [length_tells, HL.out]; exact Nat.le_refl _)] at this
        unfold newErr
        rw [if_neg (by rw [length_tells, HL.out]; exact hn), if_pos this])
      go_wp2_with fail
      go_ret
      exact ⟨by rw [HE.out]; first | rfl | trivial, HSt.out⟩
    have hki : (k : Int) < (n : Int) := by omega
    have hkl : k < l.length := by rw [HL.out]; exact hlt
    have HPr := Lib.hid (pin_still HP.out HSt.out)
    obtain ⟨pb, po, hA, hpb, c1, c2'⟩ := HPr.out.at hlt
    have HOK := Lib.hid (HPr.out.ok l[k] (List.getElem_mem hkl))
    by_cases h128 : l[k].n = 128
    case neg =>
      have hnb : ((l[k].n : Int) != 128) = true := by rw [bne_iff_ne]; omega
      have HE := Lib.hid (bad_len hkl (by rw [HL.out]; omega) (by rw [HOK.out.len]; exact h128))
      subst hA
      generalize l[k] = p at c1 c2' hnb
      go_wp2_with fail
      go_ret
      exact ⟨by rw [HE.out]; first | rfl | trivial, HSt.out⟩
    have hnb : ((l[k].n : Int) != 128) = false := by rw [bne_eq_false_iff_eq]; omega
    have HX := Lib.hid (show l[k].bs.length = 128 by rw [HOK.out.len]; exact h128)
    obtain ⟨p, hp⟩ : ∃ p, p = l[k] := ⟨_, rfl⟩
    have HPE := Lib.hid hp
    rw [← hp] at c1 c2' hnb HOK HX
    clear hp h128
    obtain ⟨wm, hwm⟩ : ∃ x, x = wr := ⟨_, rfl⟩
    subst hwm
    have HA := Lib.hid hA
    clear hpb HPr
    subst hA
    go_wp2_with fail
    go_loopw [4] (fun i wr => ∃ j : Nat, j ≤ k ∧ i = .int .i64 (j : Int) ∧ Hid (isIn ((tells l).take j) p.bs = false) ∧ Still w wr) (fun i _ => k - (intOf i).toNat)
    case atStart => exact ⟨0, Nat.zero_le _, rfl, Lib.hid rfl, HSt.out⟩
    case round =>
      obtain ⟨j, hj, rfl, HN, HS⟩ := hrel
      have HSr := Lib.hid HS
      clear HS c1 c2'
      by_cases hlj : j < k
      case neg =>
        obtain rfl : j = k := by omega
        have HG2 := Lib.hid (good_next hkl HG.out (by rw [← HPE.out]; exact HX.out) (by rw [← HPE.out]; exact HN.out))
        go_wp2_with fail
        go_roundw
        case rel => exact ⟨j + 1, by omega, by go_num, HG2, HSr.out⟩
        case measure => simp [intOf]; omega
      have hji : (j : Int) < (k : Int) := by omega
      have hjl : j < l.length := by omega
      have HPr := Lib.hid (pin_still HP.out HSr.out)
      obtain ⟨b1, o1, hA1, hpb1, d1, -⟩ := HPr.out.at hlt
      obtain ⟨b2, o2, hA2, hpb2, d2, -⟩ := HPr.out.at (k := j) (by omega)
      obtain ⟨rfl, rfl⟩ : pb = b1 ∧ po = o1 := by
        simp only [Option.some.injEq, Addr.mk.injEq, and_true] at hA1
        exact hA1
      obtain ⟨rfl, rfl⟩ : pb = b2 ∧ po = o2 := by
        simp only [Option.some.injEq, Addr.mk.injEq, and_true] at hA2
        exact hA2
      have ok1 := HPr.out.ok l[k] (List.getElem_mem hkl)
      have ok2 := HPr.out.ok l[j] (List.getElem_mem hjl)
      have k1 := conv_str ok1.len ok1.told l[k].c
      have k2 := conv_str ok2.len ok2.told l[j].c
      have HEQ := Lib.hid (show l[j].bs = p.bs → newErr (tells l) = 70 from fun e => bad_twice hkl hlj (by rw [HL.out]; omega) (by rw [← HPE.out]; exact e))
      have HNX := Lib.hid (isIn_next (l := l) hjl p.bs HN.out)
      rw [← HPE.out] at d1 k1
      generalize l[j] = q at d2 k2 HEQ HNX
      clear hA1 hA2 hpb1 hpb2 ok1 ok2 HPr HN
      by_cases hxy : q.bs = p.bs
      case pos =>
        have HE := Lib.hid (HEQ.out hxy)
        rw [hxy] at k2
        clear HEQ HNX hxy
        go_wp2_with fail
        go_quiet (fail)
        go_wp2_with fail
        go_ret
        exact ⟨by rw [HE.out]; first | rfl | trivial, ⟨HSr.out.os, HSr.out.tape, HSr.out.output, HSr.out.heap⟩⟩
      have hs : (q.bs == p.bs) = false := beq_eq_false_iff_ne.2 hxy
      have HNX2 := Lib.hid (HNX.out hxy)
      clear HEQ HNX hxy
      go_wp2_with fail
      go_quiet (fail)
      go_wp2_with fail
      go_roundw
      case rel => exact ⟨j + 1, by omega, by go_num, HNX2, ⟨HSr.out.os, HSr.out.tape, HSr.out.output, HSr.out.heap⟩⟩
      case measure => simp [intOf]; omega
end Go.Proofs.Ytbhajmecaemafaa.Tb
