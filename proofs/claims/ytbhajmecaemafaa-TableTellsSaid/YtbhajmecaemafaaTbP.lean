/- The reference's answers of tables: Print, Unlike. -/
import Derived.Test.YtbhajmecaemafaaTbN
namespace Go.Proofs.Ytbhajmecaemafaa.Tb
open Go.RowKit Go.Proofs.Ytbhajmecaemafaa.Oct
set_option linter.unusedVariables false

theorem seek_hit {l : List Pair} {k : Nat} (h : k < l.length) (h0 : isIn ((tells l).take k) l[k].bs = false) : seek (tells l) l[k].bs = some l[k].pr := by
  have e : tells l = (tells l).take k ++ ((l[k].bs, l[k].pr) :: (tells l).drop (k + 1)) := by
    have h' : k < (tells l).length := by rw [length_tells]; exact h
    have := List.drop_eq_getElem_cons h'
    rw [tell_at h] at this
    rw [← this, List.take_append_drop]
  unfold seek
  rw [e, List.find?_append, List.find?_eq_none.2 (fun p hp => by simpa using List.any_eq_false.1 h0 p hp)]
  simp
theorem seek_out {ps : List Pr} {x : List UInt8} (h : isIn ps x = false) : seek ps x = none := by
  rw [← Option.not_isSome_iff_eq_none, seek_some, h]
  exact Bool.false_ne_true
set_option maxRecDepth 100000 in
set_option maxHeartbeats 1000000 in
theorem rprint_any {w : World} {A : Option Addr} {n c : Nat} {l : List Pair} (h : PIn w A n c l) (hn60 : n ≤ 1000) (rest : UInt64) (z : Int) (hz : z = (rest.toNat : Int)) (A2 : Option Addr) (n2 c2 : Nat) (bs : List UInt8) (hl : bs.length = n2) (hT : Oct.Told w A2 bs) :
    Calls Try.prog 14 #[.slice A n c, .int .u64 z, .slice A2 n2 c2] w fun e w' => e = .returned (.tuple #[.int .u64 ((pout (tells l) rest bs).1.toNat : Int), .int .i64 (pout (tells l) rest bs).2]) ∧ Still w w' := by
  subst hz
  have HP := Lib.hid h
  have HL := Lib.hid h.el
  have HT := Lib.hid hT
  have HN2 := Lib.hid hl
  clear h hT
  go_enter Try.func14, Try.ntmps14
  by_cases hn : n2 = 128
  case neg =>
    have hni : ((n2 : Int) != 128) = true := by rw [bne_iff_ne]; omega
    have HE := Lib.hid (show pout (tells l) rest bs = (0, 2) by unfold pout; rw [if_neg (by rw [hl]; exact hn)])
    go_wp2_with fail
    go_ret2
    exact ⟨by rw [HE.out]; first | rfl | trivial, ⟨rfl, rfl, rfl, rfl⟩⟩
  subst hn
  have HX := Lib.hid (show bs.length = 128 from hl)
  clear hl
  go_wp2_with fail
  go_loopw [8] (fun i wr => ∃ k : Nat, k ≤ n ∧ i = .int .i64 (k : Int) ∧ Hid (isIn ((tells l).take k) bs = false) ∧ Still w wr) (fun i _ => n - (intOf i).toNat)
  case atStart => exact ⟨0, Nat.zero_le _, rfl, Lib.hid rfl, ⟨rfl, rfl, rfl, rfl⟩⟩
  case round =>
    obtain ⟨k, hk, rfl, HN, HS⟩ := hrel
    have HSt := Lib.hid HS
    clear HS
    by_cases hlt : k < n
    case neg =>
      obtain rfl : k = n := by omega
      have HE := Lib.hid (show pout (tells l) rest bs = (rest, 0) by
        have := HN.out
        rw [List.take_of_length_le (by rw [length_tells, HL.out]; exact Nat.le_refl _)] at this
        unfold pout printOf
        rw [if_pos HX.out, seek_out this]
        rfl)
      go_wp2_with fail
      go_ret2
      exact ⟨by rw [HE.out]; first | rfl | trivial, HSt.out⟩
    have hki : (k : Int) < (n : Int) := by omega
    have hkl : k < l.length := by rw [HL.out]; exact hlt
    have HPr := Lib.hid (pin_still HP.out HSt.out)
    obtain ⟨pb, po, hA, hpb, c1, c2'⟩ := HPr.out.at hlt
    have ok1 := HPr.out.ok l[k] (List.getElem_mem hkl)
    have k1 := conv_str ok1.len ok1.told l[k].c
    have k2 := conv_str HN2.out (told_below HT.out (HSt.out.below _)) c2
    have HHIT := Lib.hid (show l[k].bs = bs → pout (tells l) rest bs = (l[k].pr, 0) from fun e => by
      unfold pout printOf
      rw [if_pos HX.out, ← e, seek_hit hkl (by rw [e]; exact HN.out)]
      rfl)
    have HNX := Lib.hid (isIn_next (l := l) hkl bs HN.out)
    generalize l[k] = q at c1 c2' k1 HHIT HNX
    subst hA
    clear ok1 HPr HN hpb
    by_cases hxy : q.bs = bs
    case pos =>
      have HE := Lib.hid (HHIT.out hxy)
      rw [hxy] at k1
      clear HHIT HNX hxy
      go_wp2_with fail
      go_quiet (fail)
      go_wp2_with fail
      go_ret2
      exact ⟨by rw [HE.out]; first | rfl | trivial, ⟨HSt.out.os, HSt.out.tape, HSt.out.output, HSt.out.heap⟩⟩
    have hs : (q.bs == bs) = false := beq_eq_false_iff_ne.2 hxy
    have HNX2 := Lib.hid (HNX.out hxy)
    clear HHIT HNX hxy
    go_wp2_with fail
    go_quiet (fail)
    go_wp2_with fail
    go_roundw
    case rel => exact ⟨k + 1, by omega, by go_num, HNX2, ⟨HSt.out.os, HSt.out.tape, HSt.out.output, HSt.out.heap⟩⟩
    case measure => simp [intOf]; omega

/-! ### Unlike -/
def prints (l : List Pair) : List UInt64 := (tells l).map (·.2)
theorem prints_take {l : List Pair} {k : Nat} (h : k < l.length) : (prints l).take (k + 1) = (prints l).take k ++ [l[k].pr] := by
  unfold prints
  rw [← List.map_take, take_at h, List.map_append, List.map_take]
  rfl
theorem unlike_no {l : List Pair} {rest : UInt64} {k : Nat} (h : k < l.length) (hx : l[k].pr ∈ rest :: (prints l).take k) : unlike (tells l) rest = false := by
  unfold unlike
  rw [decide_eq_false_iff_not]
  intro hd
  have h1 : (rest :: (prints l).take (k + 1)).Nodup := hd.sublist (.cons_cons _ (List.take_sublist _ _))
  rw [prints_take h, ← List.cons_append, List.nodup_append] at h1
  exact h1.2.2 _ hx _ (by simp) rfl
theorem unlike_next {l : List Pair} {rest : UInt64} {k : Nat} (h : k < l.length) (h0 : (rest :: (prints l).take k).Nodup) (h1 : l[k].pr ≠ rest) (h2 : l[k].pr ∉ (prints l).take k) : (rest :: (prints l).take (k + 1)).Nodup := by
  rw [prints_take h, ← List.cons_append, List.nodup_append]
  refine ⟨h0, by simp, fun a ha b hb e => ?_⟩
  obtain rfl : b = l[k].pr := by simpa using hb
  subst e
  rcases List.mem_cons.1 ha with e | hm
  · exact h1 e
  · exact h2 hm
theorem unlike_yes {l : List Pair} {rest : UInt64} {n : Nat} (hl : l.length = n) (h0 : (rest :: (prints l).take n).Nodup) : unlike (tells l) rest = true := by
  unfold unlike
  rw [decide_eq_true_eq]
  have : (prints l).take n = prints l := List.take_of_length_le (by simp [prints, tells, hl])
  rwa [this] at h0
set_option maxRecDepth 100000 in
set_option maxHeartbeats 1000000 in
theorem runlike_any {w : World} {A : Option Addr} {n c : Nat} {l : List Pair} (h : PIn w A n c l) (hn60 : n ≤ 1000) (rest : UInt64) (z : Int) (hz : z = (rest.toNat : Int)) :
    Calls Try.prog 17 #[.slice A n c, .int .u64 z] w fun e w' => e = .returned (.bool (unlike (tells l) rest)) ∧ Still w w' := by
  subst hz
  have HP := Lib.hid h
  have HL := Lib.hid h.el
  clear h
  go_enter Try.func17, Try.ntmps17
  go_wp2_with fail
  go_loopw [5] (fun i wr => ∃ k : Nat, k ≤ n ∧ i = .int .i64 (k : Int) ∧ Hid ((rest :: (prints l).take k).Nodup) ∧ Still w wr) (fun i _ => n - (intOf i).toNat)
  case atStart => exact ⟨0, Nat.zero_le _, rfl, Lib.hid (by simp), ⟨rfl, rfl, rfl, rfl⟩⟩
  case round =>
    obtain ⟨k, hk, rfl, HG, HS⟩ := hrel
    have HSt := Lib.hid HS
    clear HS
    by_cases hlt : k < n
    case neg =>
      obtain rfl : k = n := by omega
      have HE := Lib.hid (unlike_yes HL.out HG.out)
      go_wp2_with fail
      go_ret
      exact ⟨by rw [HE.out]; first | rfl | trivial, HSt.out⟩
    have hki : (k : Int) < (n : Int) := by omega
    have hkl : k < l.length := by rw [HL.out]; exact hlt
    have HPr := Lib.hid (pin_still HP.out HSt.out)
    obtain ⟨pb, po, hA, hpb, c1, c2'⟩ := HPr.out.at hlt
    obtain ⟨p, hp⟩ : ∃ p, p = l[k] := ⟨_, rfl⟩
    have HPE := Lib.hid hp
    rw [← hp] at c1 c2'
    have HNO := Lib.hid (unlike_no (rest := rest) hkl)
    have HNX := Lib.hid (unlike_next hkl HG.out)
    rw [← hp] at HNO HNX
    clear hp
    by_cases hr : p.pr = rest
    case pos =>
      have HE := Lib.hid (HNO.out (by rw [hr]; simp))
      have hrb : ((p.pr.toNat : Int) == (rest.toNat : Int)) = true := by rw [hr]; exact beq_self_eq_true _
      subst hA
      clear HNO HNX hr
      go_wp2_with fail
      go_ret
      exact ⟨by rw [HE.out]; first | rfl | trivial, HSt.out⟩
    have hrb : ((p.pr.toNat : Int) == (rest.toNat : Int)) = false := by
      rw [beq_eq_false_iff_ne]
      exact fun e => hr (UInt64.toNat_inj.1 (by omega))
    have HR := Lib.hid hr
    clear hr hpb HPr
    subst hA
    obtain ⟨wm, hwm⟩ : ∃ x, x = wr := ⟨_, rfl⟩
    subst hwm
    go_wp2_with fail
    go_loopw [6] (fun i wr => ∃ j : Nat, j ≤ k ∧ i = .int .i64 (j : Int) ∧ Hid (p.pr ∉ (prints l).take j) ∧ Still w wr) (fun i _ => k - (intOf i).toNat)
    case atStart => exact ⟨0, Nat.zero_le _, rfl, Lib.hid (by simp), HSt.out⟩
    case round =>
      obtain ⟨j, hj, rfl, HN, HS⟩ := hrel
      have HSr := Lib.hid HS
      clear HS c1 c2'
      by_cases hlj : j < k
      case neg =>
        obtain rfl : j = k := by omega
        have HG2 := Lib.hid (HNX.out HR.out HN.out)
        go_wp2_with fail
        go_roundw
        case rel => exact ⟨j + 1, by omega, by go_num, HG2, HSr.out⟩
        case measure => simp [intOf]; omega
      have hji : (j : Int) < (k : Int) := by omega
      have hjl : j < l.length := by omega
      have HPr := Lib.hid (pin_still HP.out HSr.out)
      obtain ⟨b1, o1, hA1, hpb1, -, d1⟩ := HPr.out.at hlt
      obtain ⟨b2, o2, hA2, hpb2, -, d2⟩ := HPr.out.at (k := j) (by omega)
      obtain ⟨rfl, rfl⟩ : pb = b1 ∧ po = o1 := by
        simp only [Option.some.injEq, Addr.mk.injEq, and_true] at hA1
        exact hA1
      obtain ⟨rfl, rfl⟩ : pb = b2 ∧ po = o2 := by
        simp only [Option.some.injEq, Addr.mk.injEq, and_true] at hA2
        exact hA2
      have htk := prints_take hjl
      have hin : l[j].pr ∈ (prints l).take k := by
        have : (prints l).take (j + 1) = ((prints l).take k).take (j + 1) := by rw [List.take_take, Nat.min_eq_left (by omega)]
        refine List.mem_of_mem_take (i := j + 1) ?_
        rw [← this, htk]
        simp
      have HIN := Lib.hid hin
      have HTK := Lib.hid htk
      rw [← HPE.out] at d1
      generalize l[j] = q at d2 HIN HTK
      clear hA1 hA2 hpb1 hpb2 HPr hin htk
      by_cases hxy : q.pr = p.pr
      case pos =>
        have HE := Lib.hid (HNO.out (by rw [← hxy]; exact List.mem_cons_of_mem _ HIN.out))
        have hqb : ((q.pr.toNat : Int) == (p.pr.toNat : Int)) = true := by rw [hxy]; exact beq_self_eq_true _
        clear HNO HNX hxy
        go_wp2_with fail
        go_quiet (fail)
        go_wp2_with fail
        go_ret
        exact ⟨by rw [HE.out]; first | rfl | trivial, ⟨HSr.out.os, HSr.out.tape, HSr.out.output, HSr.out.heap⟩⟩
      have hqb : ((q.pr.toNat : Int) == (p.pr.toNat : Int)) = false := by
        rw [beq_eq_false_iff_ne]
        exact fun e => hxy (UInt64.toNat_inj.1 (by omega))
      have HNX2 := Lib.hid (show p.pr ∉ (prints l).take (j + 1) by
        rw [HTK.out]
        intro hm
        rcases List.mem_append.1 hm with hm | hm
        · exact HN.out hm
        · exact hxy (List.mem_singleton.1 hm).symm)
      clear HNX hxy HNO
      go_wp2_with fail
      go_quiet (fail)
      go_wp2_with fail
      go_roundw
      case rel => exact ⟨j + 1, by omega, by go_num, HNX2, ⟨HSr.out.os, HSr.out.tape, HSr.out.output, HSr.out.heap⟩⟩
      case measure => simp [intOf]; omega
end Go.Proofs.Ytbhajmecaemafaa.Tb
