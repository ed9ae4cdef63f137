/- The law's own example. -/
import Derived.Test.YtigmgaedpdeleaaTlI
namespace Go.Proofs.Ytigmgaedpdeleaa.Tl
open Go.RowKit Go.Proofs.Ytigmgaedpdeleaa.Oct Go.Proofs.Ytigmgaedpdeleaa.Mv Go.Maps
set_option linter.unusedVariables false

theorem up_eq {w : World} {a cb mb c : Nat} {s s' : St} (h : At w a cb mb c s) (b r : Int) (hr : s.up b = (r, s')) :
    Calls Try.prog 20 #[.pointer (some ⟨a, 0, none⟩), .int .i64 b] w fun e w' => e = .returned (.int .i64 r) ∧ At w' a cb mb c s' ∧ But w w' cb mb := by
  have := up_at h b
  rw [hr] at this
  exact this
theorem down_eq {w : World} {a cb mb c : Nat} {s s' : St} (h : At w a cb mb c s) (b r : Int) (hr : s.down b = (r, s')) :
    Calls Try.prog 22 #[.pointer (some ⟨a, 0, none⟩), .int .i64 b] w fun e w' => e = .returned (.int .i64 r) ∧ At w' a cb mb c s' ∧ But w w' cb mb := by
  have := down_at h b
  rw [hr] at this
  exact this
theorem get_eq {w : World} {a cb mb c : Nat} {s : St} (h : At w a cb mb c s) (i : Nat) (hi : i < s.n) (n : Int) (hr : ((s.cnt i).toNat : Int) = n) :
    Calls Try.prog 13 #[.pointer (some ⟨a, 0, none⟩), .int .i64 (i : Int)] w fun e w' => e = .returned (.int .i64 n) ∧ w = w' := by
  subst hr
  exact get_yes h i hi
theorem free_eq {w : World} {a cb mb c : Nat} {s : St} (h : At w a cb mb c s) (i : Nat) (hi : i < s.n) (r : Bool) (hr : s.free i = r) :
    Calls Try.prog 14 #[.pointer (some ⟨a, 0, none⟩), .int .i64 (i : Int)] w fun e w' => e = .returned (.bool r) ∧ w = w' := by
  subst hr
  exact free_yes h i hi
theorem frees_eq {w : World} {a cb mb c : Nat} {s : St} (h : At w a cb mb c s) (n : Int) (hr : (s.frees : Int) = n) :
    Calls Try.prog 16 #[.pointer (some ⟨a, 0, none⟩)] w fun e w' => e = .returned (.int .i64 n) ∧ Below w.heap.size w w' := by
  subst hr
  exact frees_at h
theorem idle_eq {w : World} {a cb mb c : Nat} {s : St} (h : At w a cb mb c s) (n : Int) (hr : (s.idle : Int) = n) :
    Calls Try.prog 17 #[.pointer (some ⟨a, 0, none⟩)] w fun e w' => e = .returned (.int .i64 n) ∧ Below w.heap.size w w' := by
  subst hr
  exact idle_at h
theorem list_eq {w : World} {a cb mb c : Nat} {s : St} (h : At w a cb mb c s) (l : List Nat) (hr : s.changed = l) :
    Calls Try.prog 19 #[.pointer (some ⟨a, 0, none⟩)] w fun e w' => ∃ v, e = .returned v ∧ List64 w' v l ∧ Below w.heap.size w w' := by
  subst hr
  exact list_at h
set_option maxRecDepth 100000 in
set_option maxHeartbeats 1000000 in
theorem awake_any (w : World) : Calls Try.prog 9 #[] w fun e w' => e = .returned (.bool true) ∧ Below w.heap.size w w' := by
  go_enter Try.func9, Try.ntmps9
  go_wp2_with fail
  refine (new_yes 3 (by decide) (by decide) w).mono ?_
  rintro e w0 ⟨a, cb, mb, rfl, hf⟩
  have HA0 := Lib.hid (show At w0 a cb mb 3 ⟨[0, 0, 0], [0, 0, 0]⟩ from hf.at')
  have HB0 := Lib.hid hf.below
  have HC := Lib.hid hf.hc
  have HM := Lib.hid hf.hm
  clear hf
  go_wp2_with fail
  refine (up_eq HA0.out 1 0 (s' := ⟨[0, 1, 0], [0, 0, 0]⟩) rfl).mono ?_
  rintro e w1 ⟨rfl, az, bz⟩
  have HA1 := Lib.hid az
  have HB1 := Lib.hid (HB0.out.trans (bz.below HC.out HM.out HB0.out.size))
  clear az bz HA0
  go_wp2_with fail
  refine (up_eq HA1.out 1 0 (s' := ⟨[0, 2, 0], [0, 0, 0]⟩) rfl).mono ?_
  rintro e w2 ⟨rfl, az, bz⟩
  have HA2 := Lib.hid az
  have HB2 := Lib.hid (HB1.out.trans (bz.below HC.out HM.out HB1.out.size))
  clear az bz HA1
  go_wp2_with fail
  refine (down_eq HA2.out 1 0 (s' := ⟨[0, 1, 0], [0, 0, 0]⟩) rfl).mono ?_
  rintro e w3 ⟨rfl, az, bz⟩
  have HA3 := Lib.hid az
  have HB3 := Lib.hid (HB2.out.trans (bz.below HC.out HM.out HB2.out.size))
  clear az bz HA2
  go_wp2_with fail
  refine (get_eq HA3.out 1 (by decide) 1 rfl).mono ?_
  rintro e w' ⟨rfl, rfl⟩
  go_wp2_with fail
  refine (frees_eq HA3.out 2 rfl).mono ?_
  rintro e w4 ⟨rfl, bz⟩
  have HA4 := Lib.hid (HA3.out.kept bz)
  have HB4 := Lib.hid (HB3.out.trans (bz.mono HB3.out.size))
  clear bz HA3
  go_wp2_with fail
  refine (keep_at HA4.out).mono ?_
  rintro e w5 ⟨rfl, az, bz⟩
  have HA5 := Lib.hid az
  have HB5 := Lib.hid (HB4.out.trans (bz.below HC.out HM.out HB4.out.size))
  clear az bz HA4
  go_wp2_with fail
  refine (down_eq HA5.out 1 0 (s' := ⟨[0, 0, 0], [0, 1, 0]⟩) rfl).mono ?_
  rintro e w6 ⟨rfl, az, bz⟩
  have HA6 := Lib.hid az
  have HB6 := Lib.hid (HB5.out.trans (bz.below HC.out HM.out HB5.out.size))
  clear az bz HA5
  go_wp2_with fail
  refine (free_eq HA6.out 1 (by decide) false rfl).mono ?_
  rintro e w' ⟨rfl, rfl⟩
  go_wp2_with fail
  refine (idle_eq HA6.out 1 rfl).mono ?_
  rintro e w7 ⟨rfl, bz⟩
  have HA7 := Lib.hid (HA6.out.kept bz)
  have HB7 := Lib.hid (HB6.out.trans (bz.mono HB6.out.size))
  clear bz HA6
  go_wp2_with fail
  refine (list_eq HA7.out [1] rfl).mono ?_
  rintro e w8 ⟨v, rfl, lz, bz⟩
  have HA8 := Lib.hid (HA7.out.kept bz)
  have HB8 := Lib.hid (HB7.out.trans (bz.mono HB7.out.size))
  clear bz HA7
  have HL := Lib.hid lz
  clear lz
  go_wp2_with fail
  have hal := (Below.refl w8.heap.size w8).alloc (Nat.le_refl _) (.cells #[.int .i64 1] 3)
  have hv2 : List64 (w8.alloc (.cells #[.int .i64 1] 3)) (.slice (some ⟨w8.heap.size, 0, none⟩) 1 1) [1] := ⟨_, 1, rfl, (alloc_rowV w8 3 [.int .i64 1]).has.told⟩
  have HAx := Lib.hid (HA8.out.kept hal)
  have HBx := Lib.hid (HB8.out.trans (hal.mono HB8.out.size))
  have HLx := Lib.hid (HL.out.still hal)
  have HVx := Lib.hid hv2
  clear hal hv2 HL HA8
  refine (same_yes HLx.out HVx.out (by decide)).mono ?_
  rintro e w9 ⟨rfl, bz⟩
  have HA9 := Lib.hid (HAx.out.kept bz)
  have HB9 := Lib.hid (HBx.out.trans (bz.mono HBx.out.size))
  clear bz HAx HBx HLx HVx
  go_wp2_with fail
  refine (keep_at HA9.out).mono ?_
  rintro e w10 ⟨rfl, az, bz⟩
  have HA10 := Lib.hid az
  have HB10 := Lib.hid (HB9.out.trans (bz.below HC.out HM.out HB9.out.size))
  clear az bz HA9
  go_wp2_with fail
  refine (frees_eq HA10.out 3 rfl).mono ?_
  rintro e w11 ⟨rfl, bz⟩
  have HA11 := Lib.hid (HA10.out.kept bz)
  have HB11 := Lib.hid (HB10.out.trans (bz.mono HB10.out.size))
  clear bz HA10
  go_wp2_with fail
  refine (up_eq HA11.out 2 0 (s' := ⟨[0, 0, 1], [0, 0, 0]⟩) rfl).mono ?_
  rintro e w12 ⟨rfl, az, bz⟩
  have HA12 := Lib.hid az
  have HB12 := Lib.hid (HB11.out.trans (bz.below HC.out HM.out HB11.out.size))
  clear az bz HA11
  go_wp2_with fail
  refine (back_at HA12.out).mono ?_
  rintro e w13 ⟨rfl, az, bz⟩
  have HA13 := Lib.hid az
  have HB13 := Lib.hid (HB12.out.trans (bz.below HC.out HM.out HB12.out.size))
  clear az bz HA12
  go_wp2_with fail
  refine (get_eq HA13.out 2 (by decide) 0 rfl).mono ?_
  rintro e w' ⟨rfl, rfl⟩
  go_wp2_with fail
  refine (down_eq HA13.out 0 82 (s' := ⟨[0, 0, 0], [0, 0, 0]⟩) rfl).mono ?_
  rintro e w14 ⟨rfl, az, bz⟩
  have HA14 := Lib.hid az
  have HB14 := Lib.hid (HB13.out.trans (bz.below HC.out HM.out HB13.out.size))
  clear az bz HA13
  go_wp2_with fail
  refine (up_eq HA14.out 3 80 (s' := ⟨[0, 0, 0], [0, 0, 0]⟩) rfl).mono ?_
  rintro e w15 ⟨rfl, az, bz⟩
  have HA15 := Lib.hid az
  have HB15 := Lib.hid (HB14.out.trans (bz.below HC.out HM.out HB14.out.size))
  clear az bz HA14
  go_wp2_with fail
  go_ret
  exact ⟨rfl, HB15.out⟩
end Go.Proofs.Ytigmgaedpdeleaa.Tl
