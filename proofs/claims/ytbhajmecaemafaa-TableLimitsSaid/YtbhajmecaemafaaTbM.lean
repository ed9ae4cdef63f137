/- TableLimits: its walk. (Written by bin/gen_tblimits.py.) -/
import Derived.Test.YtbhajmecaemafaaTbL
namespace Go.Proofs.Ytbhajmecaemafaa.Tb
open Go.RowKit Go.Proofs.Ytbhajmecaemafaa.Oct
set_option linter.unusedVariables false

set_option maxRecDepth 100000 in
set_option maxHeartbeats 4000000 in
theorem limits_walk (a1 : Int) (A2 : Option Addr) (n2 c2 : Nat) (z2 : List Int) (w : World) (w1 : (Lit.int .u64 a1).wf = true) (w2 : IsRow .u8 w A2 n2 c2 z2) :
    Calls Try.prog 7 #[.int .u64 a1, .slice A2 n2 c2] w fun e w' => e = .returned (.bool true) ∧ Below w.heap.size w w' := by
  obtain ⟨rest, rfl⟩ := u64_of w1
  have HB := Lib.hid (Below.refl w.heap.size w)
  have HA := Lib.hid (show ∀ w2 : World, Below w.heap.size w w2 → Calls Try.prog 8 #[] w2 fun e w' => e = .returned (.bool true) ∧ Below w.heap.size w w' from fun w2 k => (awake_any w2).mono fun e w' ⟨h1, h2⟩ => ⟨h1, k.trans (h2.mono k.size)⟩)
  clear w1 w2
  go_enter Try.func7, Try.ntmps7
  go_wp2_with fail
  go_loopw [5, 17] (fun v i wr => ∃ k : Nat, k ≤ 1001 ∧ i = .int .i64 (k : Int) ∧ Hid (∃ l, LimL wr w.heap.size v l k) ∧ Hid (Below w.heap.size w wr)) (fun _ i _ => 1001 - (intOf i).toNat)
  case atStart => exact ⟨0, Nat.zero_le _, rfl, Lib.hid ⟨[], LimL.zero _ _⟩, HB⟩
  case round =>
    obtain ⟨k, hk, rfl, HLL, HBq⟩ := hrel
    clear HB
    have HB := HBq
    clear HBq
    rename_i v i
    obtain ⟨l, LL⟩ := HLL.out
    have HLL := Lib.hid LL
    clear LL
    by_cases hlt : k < 1001
    case pos =>
      have hki : (k : Int) < 1001 := by omega
      go_wp2_with fail
      refine (filled_blk _ (UInt8.ofNat k) (by simp) _).mono ?_
      rintro e w1 ⟨g, rfl, hbk, hg, kk⟩
      have hr0 := hbk.row
      have c0 := hr0.has 0 (by simp)
      have c1 := hr0.has 1 (by simp)
      have f0 : w1.frozen? ⟨g, 0, none⟩ = false := frozen_of_row w1 g 0 _ _ hr0
      have f1 : w1.frozen? ⟨g, 1, none⟩ = false := frozen_of_row w1 g 1 _ _ hr0
      go_upto_region 7 with (fail)
      have e1 : ((k : Int) / 256) = ((UInt8.ofNat (k / 256)).toNat : Int) := by simp; omega
      have r2 : Row ((w1.setCell ⟨g, 0, none⟩ (.int .u8 ((k : Int) / 256))).setCell ⟨g, 1, none⟩ (.int .u8 77)) g (limB k) := by
        rw [← limB_set (UInt8.ofNat k) (UInt8.ofNat (k / 256)) k rfl rfl, e1]
        exact (hr0.set 0 (UInt8.ofNat (k / 256))).set 1 77
      have kk2 := (kk.setCell (p := ⟨g, 0, none⟩) hg (.int .u8 ((k : Int) / 256))).setCell (p := ⟨g, 1, none⟩) hg (.int .u8 77)
      clear hr0 c0 c1 f0 f1 hbk e1 kk
      generalize (w1.setCell ⟨g, 0, none⟩ (.int .u8 ((k : Int) / 256))).setCell ⟨g, 1, none⟩ (.int .u8 77) = w2 at *
      obtain ⟨v3, w3, hr3, L3, kk3⟩ := HLL.out.step (c := 128) kk2 ⟨r2, limB_len k⟩ hlt HB.out.size
      have HLL3 := Lib.hid (show ∃ l, LimL w3 w.heap.size v3 l (k + 1) from ⟨_, L3⟩)
      replace HB := Lib.hid (HB.out.trans kk3)
      clear r2 kk2 kk3 L3 HLL
      go_wp2_with (at_builtin; refine wpList_append_run rfl (.tmp 30) (.tmp 35) 22 rfl _ _ rfl rfl _ w3 hr3 ?_)
      go_roundw
      case rel => exact ⟨k + 1, by omega, by go_num, HLL3, HB⟩
      case measure => simp [intOf]; omega
    case neg =>
      obtain rfl : k = 1001 := by omega
      obtain ⟨g, cc, rfl, P1, P2⟩ := HLL.out.pin
      have HE1 := Lib.hid HLL.out.long
      have HE2 := Lib.hid HLL.out.err
      have HE3 := Lib.hid (HLL.out.unl rest)
      have HE4 := Lib.hid HLL.out.many
      generalize l.drop 1 = l1 at *
      have hcc := P1.kc
      have hcc1 : ¬ (1 = cc) := by omega
      have hcc2 : ¬ (cc = 1) := by omega
      have HPA := Lib.hid P1
      have HPB := Lib.hid P2
      clear P1 P2 HLL
      go_wp2_with fail
      refine (new_yes HPB.out rest _ rfl HE2.out).mono ?_
      rintro e v1 ⟨a, b, rfl, T1, -, kk⟩
      replace HPA := Lib.hid (HPA.out.kept kk)
      replace HPB := Lib.hid (HPB.out.kept kk)
      replace HB := Lib.hid (HB.out.trans (kk.mono HB.out.size))
      have HT' := Lib.hid T1
      clear T1
      clear kk
      go_wp2_with fail
      refine (new_no HPA.out rest _ rfl 3 HE1.out (by decide)).mono ?_
      rintro e v2 ⟨rfl, kk⟩
      replace HPA := Lib.hid (HPA.out.kept kk)
      replace HPB := Lib.hid (HPB.out.kept kk)
      replace HT' := Lib.hid (HT'.out.kept kk)
      replace HB := Lib.hid (HB.out.trans (kk.mono HB.out.size))
      clear kk
      go_wp2_with fail
      refine (len_is HT'.out 1000 HE4.out).mono ?_
      rintro e wq ⟨rfl, rfl⟩
      go_wp2_with fail
      refine (unlike_is HT'.out _ HE3.out).mono ?_
      rintro e v3 ⟨rfl, kk⟩
      replace HPA := Lib.hid (HPA.out.kept kk)
      replace HPB := Lib.hid (HPB.out.kept kk)
      replace HT' := Lib.hid (HT'.out.kept kk)
      replace HB := Lib.hid (HB.out.trans (kk.mono HB.out.size))
      clear kk
      by_cases hz0 : (rest.toNat : Int) = 0
      case pos =>
        have hzb : ((rest.toNat : Int) == 0) = true := by rw [beq_iff_eq]; exact hz0
        rw [show decide ((rest.toNat : Int) = 0 ∨ (1000 : Int) < (rest.toNat : Int)) = true from decide_eq_true (.inl hz0)]
        clear HE1 HE2 HE3 HE4 HPA HPB HT'
        go_wp2_with fail
        have R1 := alloc_rowV v3 47 [.map none, .int .u64 0, .pointer none]
        have R2 := alloc_rowV (v3.alloc (.cells [.map none, .int .u64 0, .pointer none].toArray 47)) 30 [.pointer none, .pointer (some ⟨v3.heap.size, 0, none⟩)]
        have e1 : (v3.alloc (.cells [.map none, .int .u64 0, .pointer none].toArray 47)).heap.size = v3.heap.size + 1 := by simp
        have k1 := (Below.refl v3.heap.size v3).alloc (Nat.le_refl _) (.cells [.map none, .int .u64 0, .pointer none].toArray 47)
        have k2 := (Below.refl (v3.heap.size + 1) (v3.alloc (.cells [.map none, .int .u64 0, .pointer none].toArray 47))).alloc (by rw [e1]; exact Nat.le_refl _) (.cells [.pointer none, .pointer (some ⟨v3.heap.size, 0, none⟩)].toArray 30)
        have R1' := R1.below (by omega) k2
        rw [e1] at R2
        have HB4 := Lib.hid (HB.out.trans ((k1.trans (k2.mono (by omega))).mono HB.out.size))
        clear HB R1 e1 k1 k2
        change RowV ((v3.alloc (.cells #[.map none, .int .u64 0, .pointer none] 47)).alloc (.cells #[.pointer none, .pointer (some ⟨v3.heap.size, 0, none⟩)] 30)) _ _ _ at R1'
        change RowV ((v3.alloc (.cells #[.map none, .int .u64 0, .pointer none] 47)).alloc (.cells #[.pointer none, .pointer (some ⟨v3.heap.size, 0, none⟩)] 30)) _ _ _ at R2
        have HB := Lib.hid (show Below w.heap.size w ((v3.alloc (.cells #[.map none, .int .u64 0, .pointer none] 47)).alloc (.cells #[.pointer none, .pointer (some ⟨v3.heap.size, 0, none⟩)] 30)) from HB4.out)
        clear HB4
        generalize (v3.alloc (.cells #[.map none, .int .u64 0, .pointer none] 47)).alloc (.cells #[.pointer none, .pointer (some ⟨v3.heap.size, 0, none⟩)] 30) = v4 at *
        have d0 := R2.cellAt (i := 0) rfl
        have d1 := R2.cellAt (i := 1) rfl
        have d2 := R1'.cellAt (i := 2) rfl
        clear R1' R2
        generalize v3.heap.size = pt at *
        go_loopw [78] (fun i wr => ∃ k : Nat, k ≤ 2 ∧ i = .int .i64 (k : Int) ∧ wr = v4) (fun i _ => 2 - (intOf i).toNat)
        case atStart => exact ⟨0, Nat.zero_le _, rfl, rfl⟩
        case round =>
          obtain ⟨k, hk, rfl, rfl⟩ := hrel
          rcases k with _ | _ | _ | k
          case zero =>
            go_wp2_with fail
            refine (print_none _ _).mono ?_
            rintro e wq ⟨rfl, rfl⟩
            go_wp2_with fail
            refine (len_none _).mono ?_
            rintro e wq ⟨rfl, rfl⟩
            go_wp2_with fail
            refine (unlike_none _).mono ?_
            rintro e wq ⟨rfl, rfl⟩
            go_wp2_with fail
            go_roundw
            case rel => exact ⟨1, by omega, by go_num, by first | trivial | rfl⟩
            case measure => simp [intOf]
          case succ.zero =>
            go_wp2_with fail
            refine (print_bare _ _ _ d2).mono ?_
            rintro e wq ⟨rfl, rfl⟩
            go_wp2_with fail
            refine (len_bare _ _ d2).mono ?_
            rintro e wq ⟨rfl, rfl⟩
            go_wp2_with fail
            refine (unlike_bare _ _ d2).mono ?_
            rintro e wq ⟨rfl, rfl⟩
            go_wp2_with fail
            go_roundw
            case rel => exact ⟨2, by omega, by go_num, by first | trivial | rfl⟩
            case measure => simp [intOf]
          case succ.succ.zero =>
            go_wp2_with fail
            refine (HA.out _ HB.out).mono ?_
            rintro e wl ⟨rfl, kl⟩
            go_wp2_with fail
            go_ret
            exact ⟨rfl, kl⟩
          case succ.succ.succ => omega
      have hzb : ((rest.toNat : Int) == 0) = false := by rw [beq_eq_false_iff_ne]; exact hz0
      by_cases hzt : (1000 : Int) < (rest.toNat : Int)
      case pos =>
        rw [show decide ((rest.toNat : Int) = 0 ∨ (1000 : Int) < (rest.toNat : Int)) = true from decide_eq_true (.inr hzt)]
        clear HE1 HE2 HE3 HE4 HPA HPB HT'
        go_wp2_with fail
        have R1 := alloc_rowV v3 47 [.map none, .int .u64 0, .pointer none]
        have R2 := alloc_rowV (v3.alloc (.cells [.map none, .int .u64 0, .pointer none].toArray 47)) 30 [.pointer none, .pointer (some ⟨v3.heap.size, 0, none⟩)]
        have e1 : (v3.alloc (.cells [.map none, .int .u64 0, .pointer none].toArray 47)).heap.size = v3.heap.size + 1 := by simp
        have k1 := (Below.refl v3.heap.size v3).alloc (Nat.le_refl _) (.cells [.map none, .int .u64 0, .pointer none].toArray 47)
        have k2 := (Below.refl (v3.heap.size + 1) (v3.alloc (.cells [.map none, .int .u64 0, .pointer none].toArray 47))).alloc (by rw [e1]; exact Nat.le_refl _) (.cells [.pointer none, .pointer (some ⟨v3.heap.size, 0, none⟩)].toArray 30)
        have R1' := R1.below (by omega) k2
        rw [e1] at R2
        have HB4 := Lib.hid (HB.out.trans ((k1.trans (k2.mono (by omega))).mono HB.out.size))
        clear HB R1 e1 k1 k2
        change RowV ((v3.alloc (.cells #[.map none, .int .u64 0, .pointer none] 47)).alloc (.cells #[.pointer none, .pointer (some ⟨v3.heap.size, 0, none⟩)] 30)) _ _ _ at R1'
        change RowV ((v3.alloc (.cells #[.map none, .int .u64 0, .pointer none] 47)).alloc (.cells #[.pointer none, .pointer (some ⟨v3.heap.size, 0, none⟩)] 30)) _ _ _ at R2
        have HB := Lib.hid (show Below w.heap.size w ((v3.alloc (.cells #[.map none, .int .u64 0, .pointer none] 47)).alloc (.cells #[.pointer none, .pointer (some ⟨v3.heap.size, 0, none⟩)] 30)) from HB4.out)
        clear HB4
        generalize (v3.alloc (.cells #[.map none, .int .u64 0, .pointer none] 47)).alloc (.cells #[.pointer none, .pointer (some ⟨v3.heap.size, 0, none⟩)] 30) = v4 at *
        have d0 := R2.cellAt (i := 0) rfl
        have d1 := R2.cellAt (i := 1) rfl
        have d2 := R1'.cellAt (i := 2) rfl
        clear R1' R2
        generalize v3.heap.size = pt at *
        go_loopw [78] (fun i wr => ∃ k : Nat, k ≤ 2 ∧ i = .int .i64 (k : Int) ∧ wr = v4) (fun i _ => 2 - (intOf i).toNat)
        case atStart => exact ⟨0, Nat.zero_le _, rfl, rfl⟩
        case round =>
          obtain ⟨k, hk, rfl, rfl⟩ := hrel
          rcases k with _ | _ | _ | k
          case zero =>
            go_wp2_with fail
            refine (print_none _ _).mono ?_
            rintro e wq ⟨rfl, rfl⟩
            go_wp2_with fail
            refine (len_none _).mono ?_
            rintro e wq ⟨rfl, rfl⟩
            go_wp2_with fail
            refine (unlike_none _).mono ?_
            rintro e wq ⟨rfl, rfl⟩
            go_wp2_with fail
            go_roundw
            case rel => exact ⟨1, by omega, by go_num, by first | trivial | rfl⟩
            case measure => simp [intOf]
          case succ.zero =>
            go_wp2_with fail
            refine (print_bare _ _ _ d2).mono ?_
            rintro e wq ⟨rfl, rfl⟩
            go_wp2_with fail
            refine (len_bare _ _ d2).mono ?_
            rintro e wq ⟨rfl, rfl⟩
            go_wp2_with fail
            refine (unlike_bare _ _ d2).mono ?_
            rintro e wq ⟨rfl, rfl⟩
            go_wp2_with fail
            go_roundw
            case rel => exact ⟨2, by omega, by go_num, by first | trivial | rfl⟩
            case measure => simp [intOf]
          case succ.succ.zero =>
            go_wp2_with fail
            refine (HA.out _ HB.out).mono ?_
            rintro e wl ⟨rfl, kl⟩
            go_wp2_with fail
            go_ret
            exact ⟨rfl, kl⟩
          case succ.succ.succ => omega
      rw [show decide ((rest.toNat : Int) = 0 ∨ (1000 : Int) < (rest.toNat : Int)) = false from decide_eq_false (by rintro (h | h); exact hz0 h; exact hzt h)]
      clear HE1 HE2 HE3 HE4 HPA HPB HT'
      go_wp2_with fail
      have R1 := alloc_rowV v3 47 [.map none, .int .u64 0, .pointer none]
      have R2 := alloc_rowV (v3.alloc (.cells [.map none, .int .u64 0, .pointer none].toArray 47)) 30 [.pointer none, .pointer (some ⟨v3.heap.size, 0, none⟩)]
      have e1 : (v3.alloc (.cells [.map none, .int .u64 0, .pointer none].toArray 47)).heap.size = v3.heap.size + 1 := by simp
      have k1 := (Below.refl v3.heap.size v3).alloc (Nat.le_refl _) (.cells [.map none, .int .u64 0, .pointer none].toArray 47)
      have k2 := (Below.refl (v3.heap.size + 1) (v3.alloc (.cells [.map none, .int .u64 0, .pointer none].toArray 47))).alloc (by rw [e1]; exact Nat.le_refl _) (.cells [.pointer none, .pointer (some ⟨v3.heap.size, 0, none⟩)].toArray 30)
      have R1' := R1.below (by omega) k2
      rw [e1] at R2
      have HB4 := Lib.hid (HB.out.trans ((k1.trans (k2.mono (by omega))).mono HB.out.size))
      clear HB R1 e1 k1 k2
      change RowV ((v3.alloc (.cells #[.map none, .int .u64 0, .pointer none] 47)).alloc (.cells #[.pointer none, .pointer (some ⟨v3.heap.size, 0, none⟩)] 30)) _ _ _ at R1'
      change RowV ((v3.alloc (.cells #[.map none, .int .u64 0, .pointer none] 47)).alloc (.cells #[.pointer none, .pointer (some ⟨v3.heap.size, 0, none⟩)] 30)) _ _ _ at R2
      have HB := Lib.hid (show Below w.heap.size w ((v3.alloc (.cells #[.map none, .int .u64 0, .pointer none] 47)).alloc (.cells #[.pointer none, .pointer (some ⟨v3.heap.size, 0, none⟩)] 30)) from HB4.out)
      clear HB4
      generalize (v3.alloc (.cells #[.map none, .int .u64 0, .pointer none] 47)).alloc (.cells #[.pointer none, .pointer (some ⟨v3.heap.size, 0, none⟩)] 30) = v4 at *
      have d0 := R2.cellAt (i := 0) rfl
      have d1 := R2.cellAt (i := 1) rfl
      have d2 := R1'.cellAt (i := 2) rfl
      clear R1' R2
      generalize v3.heap.size = pt at *
      go_loopw [78] (fun i wr => ∃ k : Nat, k ≤ 2 ∧ i = .int .i64 (k : Int) ∧ wr = v4) (fun i _ => 2 - (intOf i).toNat)
      case atStart => exact ⟨0, Nat.zero_le _, rfl, rfl⟩
      case round =>
        obtain ⟨k, hk, rfl, rfl⟩ := hrel
        rcases k with _ | _ | _ | k
        case zero =>
          go_wp2_with fail
          refine (print_none _ _).mono ?_
          rintro e wq ⟨rfl, rfl⟩
          go_wp2_with fail
          refine (len_none _).mono ?_
          rintro e wq ⟨rfl, rfl⟩
          go_wp2_with fail
          refine (unlike_none _).mono ?_
          rintro e wq ⟨rfl, rfl⟩
          go_wp2_with fail
          go_roundw
          case rel => exact ⟨1, by omega, by go_num, by first | trivial | rfl⟩
          case measure => simp [intOf]
        case succ.zero =>
          go_wp2_with fail
          refine (print_bare _ _ _ d2).mono ?_
          rintro e wq ⟨rfl, rfl⟩
          go_wp2_with fail
          refine (len_bare _ _ d2).mono ?_
          rintro e wq ⟨rfl, rfl⟩
          go_wp2_with fail
          refine (unlike_bare _ _ d2).mono ?_
          rintro e wq ⟨rfl, rfl⟩
          go_wp2_with fail
          go_roundw
          case rel => exact ⟨2, by omega, by go_num, by first | trivial | rfl⟩
          case measure => simp [intOf]
        case succ.succ.zero =>
          go_wp2_with fail
          refine (HA.out _ HB.out).mono ?_
          rintro e wl ⟨rfl, kl⟩
          go_wp2_with fail
          go_ret
          exact ⟨rfl, kl⟩
        case succ.succ.succ => omega
end Go.Proofs.Ytbhajmecaemafaa.Tb
