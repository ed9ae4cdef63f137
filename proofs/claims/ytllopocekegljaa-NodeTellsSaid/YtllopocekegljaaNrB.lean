/- Layer 12, the reference: contracts of At, place. -/
import Derived.Test.YtllopocekegljaaNrA
namespace Go.Proofs.Ytllopocekegljaa.No
open Go.RowKit Go.Proofs.Ytllopocekegljaa.Oct Go.Proofs.Ytllopocekegljaa.Lf Go.Proofs.Ytllopocekegljaa.Mv
set_option linter.unusedVariables false
set_option linter.unusedSimpArgs false

theorem low_take {ks : List UInt64} {j : Nat} (hj : j < ks.length) (k : UInt64) : low (ks.take (j + 1)) k = low (ks.take j) k + (if (ks[j]).toNat < k.toNat then 1 else 0) := by
  unfold low
  rw [List.take_succ_eq_append_getElem hj, List.countP_append]
  simp [List.countP_cons]
theorem mem_take_s {ks : List UInt64} {j : Nat} (hj : j < ks.length) (k : UInt64) : k ∈ ks.take (j + 1) ↔ k ∈ ks.take j ∨ ks[j] = k := by
  rw [List.take_succ_eq_append_getElem hj, List.mem_append, List.mem_singleton]
  constructor
  · rintro (h | h)
    · exact .inl h
    · exact .inr h.symm
  · rintro (h | h)
    · exact .inl h
    · exact .inr h.symm

set_option maxRecDepth 100000 in
set_option maxHeartbeats 2000000 in
theorem rat_any (l : Bool) {w : World} {A B : Option Addr} {n c m d : Nat} {ks vs : List UInt64} (h : Nd w A n c B m d ks vs) (k : UInt64) (t : Nat × Bool × Nat) (ht : t = atR l ks vs k) :
    Calls Try.prog 11 #[.agg #[.bool l, .slice A n c, .slice B m d], .int .u64 (k.toNat : Int)] w fun e w' => e = .returned (.tuple #[.int .i64 (t.1 : Nat), .bool t.2.1, .int .i64 (t.2.2 : Nat)]) ∧ Below w.heap.size w w' := by
  have BB := Lib.hid ((Below.refl w.heap.size w).alloc (Nat.le_refl _) (.cells #[.bool l, .slice A n c, .slice B m d] 24))
  have HBX := Lib.hid (box_row w l A n c B m d)
  have HN := Lib.hid (h.below BB.out)
  have kl := h.kl
  have HT := Lib.hid ht
  clear h ht
  go_enter Try.func11, Try.ntmps11
  go_wp2_with fail
  refine (rright_any l HN.out).mono ?_
  rintro e w2 ⟨rfl, B2⟩
  have BB2 := Lib.hid (BB.out.trans (B2.mono BB.out.size))
  have HBX2 := Lib.hid (HBX.out.below HBX.out.lt B2)
  have HN2 := Lib.hid (HN.out.below B2)
  clear B2
  by_cases hok : Ok l ks vs
  · rw [decide_eq_true hok]
    have E := Lib.hid (show t = (if l = false ∧ k ∉ ks then low ks k - 1 else low ks k, decide (k ∈ ks), 0) by rw [HT.out]; unfold atR; rw [if_pos hok])
    have h7 := hok.1
    have HK := Lib.hid hok
    have HL := Lib.hid kl
    clear hok
    go_wp2_with fail
    go_loopw [7, 8, 9] (fun s7 s8 i wr => ∃ j : Nat, j ≤ n ∧ i = .int .i64 (j : Int) ∧ s7 = .int .i64 (low (ks.take j) k : Nat) ∧ s8 = .bool (decide (k ∈ ks.take j)) ∧ w2 = wr) (fun _ _ i _ => n - (Go.RowKit.intOf i).toNat)
    case atStart => exact ⟨0, Nat.zero_le _, rfl, rfl, rfl, rfl⟩
    case round =>
      obtain ⟨j, hj, rfl, rfl, rfl, rfl⟩ := hrel
      have c0 := HBX2.out.cellAt (i := 0) rfl
      have c1 := HBX2.out.cellAt (i := 1) rfl
      have hlb := low_le (ks.take j) k
      rw [List.length_take] at hlb
      by_cases hlt : j < n
      · have hjl : j < ks.length := by rw [HL.out]; exact hlt
        obtain ⟨b, o, rfl, hH⟩ := HN2.out.ks.has (by omega)
        have hc := hH j hjl
        have L1 := Lib.hid (low_take hjl k)
        have M1 := Lib.hid (mem_take_s hjl k)
        generalize ks[j] = x at hc L1 M1
        obtain ⟨q, hq⟩ : ∃ q, low (ks.take j) k = q := ⟨_, rfl⟩
        rw [hq] at L1 hlb ⊢
        have hlt1 : (j : Int) < (n : Int) := by omega
        clear hH hq kl
        have hwa : IntKind.i64.wrap ((q : Int) + 1) = ((q + 1 : Nat) : Int) := by rw [show (q : Int) + 1 = ((q + 1 : Nat) : Int) by omega]; exact IntWalk.i64_in _ (by omega)
        by_cases hx : x.toNat < k.toNat
        · have hxi : (x.toNat : Int) < (k.toNat : Int) := by omega
          have hne := int_ne_of (show ¬ x = k from fun e => by subst e; omega)
          have hl9 := L1.out
          rw [if_pos hx] at hl9
          by_cases hm : k ∈ ks.take j
          · rw [decide_eq_true hm]
            have hm9 := decide_eq_true (M1.out.2 (.inl hm))
            have HL9 := Lib.hid hl9
            have HM9 := Lib.hid hm9
            clear hl9 hm9 hm
            go_wp2_with fail
            go_roundw
            case rel => exact ⟨j + 1, by omega, by go_num, by rw [HL9.out]; go_num, by rw [HM9.out], by first | rfl | trivial⟩
            case measure => simp [Go.RowKit.intOf]; omega
          · rw [decide_eq_false hm]
            have hm9 := decide_eq_false (fun h => by rcases M1.out.1 h with h | h; exact hm h; subst h; omega)
            have HL9 := Lib.hid hl9
            have HM9 := Lib.hid hm9
            clear hl9 hm9 hm
            go_wp2_with fail
            go_roundw
            case rel => exact ⟨j + 1, by omega, by go_num, by rw [HL9.out]; go_num, by rw [HM9.out], by first | rfl | trivial⟩
            case measure => simp [Go.RowKit.intOf]; omega
        · have hxi : ¬ (x.toNat : Int) < (k.toNat : Int) := by omega
          have hl9 := L1.out
          rw [if_neg hx, Nat.add_zero] at hl9
          by_cases hm : k ∈ ks.take j
          · rw [decide_eq_true hm]
            have hm9 := decide_eq_true (M1.out.2 (.inl hm))
            have HL9 := Lib.hid hl9
            have HM9 := Lib.hid hm9
            clear hl9 hm9 hm
            go_wp2_with fail
            go_roundw
            case rel => exact ⟨j + 1, by omega, by go_num, by rw [HL9.out]; go_num, by rw [HM9.out], by first | rfl | trivial⟩
            case measure => simp [Go.RowKit.intOf]; omega
          · rw [decide_eq_false hm]
            by_cases he : x = k
            · have hee : ((x.toNat : Int) == (k.toNat : Int)) = true := by rw [he]; simp
              have hm9 := decide_eq_true (M1.out.2 (.inr he))
              have HL9 := Lib.hid hl9
              have HM9 := Lib.hid hm9
              clear hl9 hm9 hm he
              go_wp2_with fail
              go_roundw
              case rel => exact ⟨j + 1, by omega, by go_num, by rw [HL9.out]; go_num, by rw [HM9.out], by first | rfl | trivial⟩
              case measure => simp [Go.RowKit.intOf]; omega
            · have hne := int_ne_of he
              have hm9 := decide_eq_false (fun h => by rcases M1.out.1 h with h | h; exact hm h; exact he h)
              have HL9 := Lib.hid hl9
              have HM9 := Lib.hid hm9
              clear hl9 hm9 hm he
              go_wp2_with fail
              go_roundw
              case rel => exact ⟨j + 1, by omega, by go_num, by rw [HL9.out]; go_num, by rw [HM9.out], by first | rfl | trivial⟩
              case measure => simp [Go.RowKit.intOf]; omega
      · have hlt1 : ¬ (j : Int) < (n : Int) := by omega
        have et : ks.take j = ks := List.take_of_length_le (by omega)
        rw [et]
        clear et hlb kl
        by_cases hk : k ∈ ks
        · rw [decide_eq_true hk]
          have E2 := E.out
          rw [if_neg (fun h => h.2 hk), decide_eq_true hk] at E2
          subst E2
          cases l
          all_goals
            go_wp2_with fail
            refine bodyPost_ret (v := _) (res_iii rfl _) rfl ⟨rfl, BB2.out⟩
        · rw [decide_eq_false hk]
          cases l
          · have E2 := E.out
            rw [if_pos ⟨rfl, hk⟩, decide_eq_false hk] at E2
            subst E2
            have l1 := low_le ks k
            by_cases h0 : 0 < low ks k
            · have e1 : ((low ks k : Nat) : Int) - 1 = ((low ks k - 1 : Nat) : Int) := by omega
              have e2 : (0 : Int) < ((low ks k : Nat) : Int) := by omega
              have hwr : IntKind.i64.wrap (((low ks k : Nat) : Int) - 1) = ((low ks k - 1 : Nat) : Int) := by rw [e1]; exact IntWalk.i64_in _ (by omega)
              go_wp2_with fail
              refine bodyPost_ret (v := _) (res_iii rfl _) rfl ⟨?_, BB2.out⟩
              rfl
            · have e0 : low ks k = 0 := by omega
              rw [e0]
              go_wp2_with fail
              refine bodyPost_ret (v := _) (res_iii rfl _) rfl ⟨?_, BB2.out⟩
              first
              | rfl
              | (rw [e0]; rfl)
          · have E2 := E.out
            rw [if_neg (fun h => by cases h.1), decide_eq_false hk] at E2
            subst E2
            go_wp2_with fail
            refine bodyPost_ret (v := _) (res_iii rfl _) rfl ⟨rfl, BB2.out⟩
  · rw [decide_eq_false hok]
    obtain rfl : t = (0, false, 30) := by rw [HT.out]; unfold atR; rw [if_neg hok]
    go_wp2_with fail
    refine bodyPost_ret (v := _) (res_iii rfl _) rfl ⟨rfl, BB2.out⟩

/-- Where a key stands; -1: nowhere. -/
def plR (ks : List UInt64) (k : UInt64) : Int := if k ∈ ks then (low ks k : Nat) else -1
set_option maxRecDepth 100000 in
set_option maxHeartbeats 2000000 in
theorem rplace_any (l : Bool) {w : World} {A B : Option Addr} {n c m d : Nat} {ks vs : List UInt64} (h : Nd w A n c B m d ks vs) (hr : Rises ks) (hsz : n ≤ 400) (k : UInt64) :
    Calls Try.prog 34 #[.agg #[.bool l, .slice A n c, .slice B m d], .int .u64 (k.toNat : Int)] w fun e w' => e = .returned (.int .i64 (plR ks k)) ∧ Below w.heap.size w w' := by
  have BB := Lib.hid ((Below.refl w.heap.size w).alloc (Nat.le_refl _) (.cells #[.bool l, .slice A n c, .slice B m d] 24))
  have HBX := Lib.hid (box_row w l A n c B m d)
  have HN := Lib.hid (h.below BB.out)
  have HL := Lib.hid h.kl
  have HR := Lib.hid hr
  clear h hr
  go_enter Try.func34, Try.ntmps34
  go_wp2_with fail
  go_loopw [5] (fun i wr => ∃ j : Nat, j ≤ n ∧ i = .int .i64 (j : Int) ∧ Hid (k ∉ ks.take j) ∧ (w.alloc (.cells #[.bool l, .slice A n c, .slice B m d] 24)) = wr) (fun i _ => n - (Go.RowKit.intOf i).toNat)
  case atStart => exact ⟨0, Nat.zero_le _, rfl, Lib.hid (by simp), rfl⟩
  case round =>
    obtain ⟨j, hj, rfl, HNO, rfl⟩ := hrel
    have c1 := HBX.out.cellAt (i := 1) rfl
    by_cases hlt : j < n
    · have hjl : j < ks.length := by rw [HL.out]; exact hlt
      obtain ⟨b, o, rfl, hH⟩ := HN.out.ks.has (by omega)
      have hc := hH j hjl
      have M1 := Lib.hid (mem_take_s hjl k)
      have X := Lib.hid (show ks[j] = ks[j] from rfl)
      obtain ⟨x, hx⟩ : ∃ x, ks[j] = x := ⟨_, rfl⟩
      rw [hx] at hc M1
      have HX := Lib.hid hx
      have hlt1 : (j : Int) < (n : Int) := by omega
      clear hH X hx
      by_cases heq : x = k
      · subst heq
        have hee : ((x.toNat : Int) == (x.toNat : Int)) = true := by simp
        have hres : plR ks x = (j : Int) := by
          unfold plR
          have hm : x ∈ ks := by rw [← HX.out]; exact List.getElem_mem hjl
          rw [if_pos hm]
          congr 1
          apply low_at ks x j (by omega)
          · intro t ht
            rw [List.getD_eq_getElem?_getD, List.getElem?_eq_getElem (by omega), ← HX.out]
            exact List.pairwise_iff_getElem.1 HR.out t j (by omega) hjl ht
          · intro t h1 h2
            rw [List.getD_eq_getElem?_getD, List.getElem?_eq_getElem h2, ← HX.out]
            rcases Nat.eq_or_lt_of_le h1 with h3 | h3
            · subst h3
              exact Nat.le_refl _
            · exact Nat.le_of_lt (List.pairwise_iff_getElem.1 HR.out j t hjl h2 h3)
        have HRES := Lib.hid hres
        clear hres
        go_wp2_with fail
        go_ret
        exact ⟨by rw [HRES.out]; rfl, BB.out⟩
      · have hne := int_ne_of heq
        go_wp2_with fail
        go_roundw
        case rel => exact ⟨j + 1, by omega, by go_num, Lib.hid (fun hm => by rcases M1.out.1 hm with h | h; exact HNO.out h; exact heq h), by first | rfl | trivial⟩
        case measure => simp [Go.RowKit.intOf]; omega
    · have hlt1 : ¬ (j : Int) < (n : Int) := by omega
      have hres : plR ks k = -1 := by
        unfold plR
        rw [if_neg (fun hm => HNO.out (by rw [List.take_of_length_le (by rw [HL.out]; omega)]; exact hm))]
      have HRES := Lib.hid hres
      clear hres
      go_wp2_with fail
      go_ret
      exact ⟨by rw [HRES.out]; rfl, BB.out⟩
end Go.Proofs.Ytllopocekegljaa.No
