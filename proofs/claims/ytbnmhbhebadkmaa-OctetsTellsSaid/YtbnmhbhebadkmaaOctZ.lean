/- The walk of the statement OctetsBack: whatever the bytes, the place, the size, the number, it answers true and writes nothing that was there. -/
import Derived.Test.YtbnmhbhebadkmaaOctY
import Derived.StillTailTactics
import Derived.Lib.MinMax
namespace Go.Proofs.Ytbnmhbhebadkmaa.Oct
open Go.RowKit
set_option linter.unusedVariables false

theorem i64_wf {n : Int} (h : (Lit.int .i64 n).wf = true) : -9223372036854775808 ≤ n ∧ n ≤ 9223372036854775807 := by
  have h2 : IntKind.i64.min ≤ n ∧ n ≤ IntKind.i64.max := by simpa [Lit.wf] using h
  exact h2
theorem u64_wf {n : Int} (h : (Lit.int .u64 n).wf = true) : 0 ≤ n ∧ n ≤ 18446744073709551615 := by
  have h2 : IntKind.u64.min ≤ n ∧ n ≤ IntKind.u64.max := by simpa [Lit.wf] using h
  exact h2

theorem run_slice_from (b o len cap k : Nat) (ki : Int) (hki : ki = (k : Int)) (hk : k ≤ len) (hc : len ≤ cap) :
    ∃ a' : Option Addr, (∀ w, (Instr.slice 22 (.slice (some ⟨b, o, none⟩) len cap) (some (.int .i64 ki)) none none).run Try.prog w = .ok (.slice a' (len - k) (cap - k)) w) ∧
      ∀ w bs, bs.length = len → Has w b o bs → Told w a' (bs.drop k) := by
  subst hki
  have ht : Try.prog.underlying 22 = some (.slice (Try.prog.elem 22)) := by
    simp [Program.elem, Try.underlying22]
  have he : Try.prog.elem 22 = 5 := by simp [Program.elem, Try.underlying22]
  have hz : ∀ w, (Go.sizeOf 5).run Try.prog w = .ok 1 w := fun _ => by kernel_rfl
  refine ⟨if cap = k then some ⟨b, o, none⟩ else some ⟨b, o + k, none⟩, fun w => ?_, fun w bs hl hb => ?_⟩
  · rw [run_slice_l w 22 _ len cap ht .i64 (k : Int) (by omega) (by omega), he, hz]
    simp only [Result.andThen, sliced, Int.toNat_natCast, Nat.mul_one, Option.map_some, add_plain]
  · by_cases h : k = len
    · left
      exact List.drop_of_length_le (by omega)
    · rw [if_neg (by omega)]
      have h2 := hb.cut k (len - k)
      rw [List.take_of_length_le (by rw [List.length_drop]; omega)] at h2
      exact h2.told

theorem equal_still (a c : Option Addr) (len len' cap cap' : Nat) (xs ys : List UInt8) (hxy : xs = ys) (hx' : xs.length = len) (hy' : ys.length = len') (w : World) (hx : Told w a xs) (hy : Told w c ys) :
    Calls Try.prog 15 #[.slice a len cap, .slice c len' cap'] w fun e w' => e = .returned (.bool true) ∧ w' = w :=
  (equal_yes a c len len' cap cap' xs ys hxy hx' hy' w hx hy).mono fun _ _ ⟨h, k⟩ => ⟨h, k.symm⟩
theorem Still.told {w w' : World} {a : Option Addr} {bs : List UInt8} (S : Still w w') (h : Told w a bs) : Told w' a bs := by
  rcases h with h | ⟨b, o, h, k⟩
  · exact .inl h
  · exact .inr ⟨b, o, h, k.still S⟩

theorem mid_window (bs : List UInt8) (p s n : Nat) (hp : p + s ≤ bs.length) (hn : n < 256 ^ s) : num (((bs.take p ++ bytesOf n s ++ bs.drop (p + s)).drop p).take s) = n := by
  have h1 : (bs.take p).length = p := by rw [List.length_take]; omega
  rw [List.append_assoc, List.drop_append_of_le_length (by omega), List.drop_of_length_le (by omega), List.nil_append,
    List.take_append_of_le_length (by rw [length_bytesOf]; exact Nat.le_refl _), List.take_of_length_le (by rw [length_bytesOf]; exact Nat.le_refl _), num_bytesOf]
  exact Nat.mod_eq_of_lt hn
theorem low_window (bs : List UInt8) (p s n : Nat) (hp : p + s ≤ bs.length) : (bs.take p ++ bytesOf n s ++ bs.drop (p + s)).take p = bs.take p := by
  have h1 : (bs.take p).length = p := by rw [List.length_take]; omega
  rw [List.append_assoc, List.take_append_of_le_length (by omega), List.take_of_length_le (by omega)]
theorem high_window (bs : List UInt8) (p s n : Nat) (hp : p + s ≤ bs.length) : (bs.take p ++ bytesOf n s ++ bs.drop (p + s)).drop (p + s) = bs.drop (p + s) := by
  have h1 : (bs.take p ++ bytesOf n s).length = p + s := by rw [List.length_append, List.length_take, length_bytesOf]; omega
  rw [List.drop_append_of_le_length (by omega), List.drop_of_length_le (by omega), List.nil_append]
theorem all_window (bs : List UInt8) (p s n : Nat) (hp : p + s ≤ bs.length) : (bs.take p ++ bytesOf n s ++ bs.drop (p + s)).length = bs.length := by
  rw [List.length_append, List.length_append, List.length_take, length_bytesOf, List.length_drop]; omega
theorem below_max (n s : Nat) (h : n < 256 ^ s) (hs : s < 8) : (n : Int) < IntKind.u64.wrap (2 ^ (8 * s)) := by
  have e : ((2 : Int) ^ (8 * s)) = ((256 ^ s : Nat) : Int) := by rw [← two_pow8]; simp
  have := pow256_le s (by omega)
  rw [e, IntKind.wrap_u64]
  generalize 256 ^ s = z at *
  omega

set_option maxRecDepth 100000 in
set_option maxHeartbeats 1000000 in
theorem back_yes (b o len cap : Nat) (bs : List UInt8) (p s n : Nat) (w : World) (hlen : bs.length = len) (h3 : len ≤ 300) (hcap : len ≤ cap) (hmax : cap ≤ maxLen) (hb : Has w b o bs) (hbw : b < w.heap.size) (h1 : 1 ≤ s) (h8 : s ≤ 8) (hp : p + s ≤ len) (hn : n < 256 ^ s) :
    Calls Try.prog 4 #[.slice (some ⟨b, o, none⟩) len cap, .int .i64 p, .int .i64 s, .int .u64 n] w fun e w' => e = .returned (.bool true) ∧ Below w.heap.size w w' := by
  have HL := Lib.hid hlen
  have HN := Lib.hid hn
  have HB := Lib.hid hb
  have E8 : (((s : Int) == 8) = true) ∨ (((s : Int) == 8) = false ∧ (n : Int) < IntKind.u64.wrap (2 ^ (8 * s))) := by
    by_cases h : s = 8
    · left; subst h; rfl
    · right; exact ⟨by rw [beq_eq_false_iff_ne]; omega, below_max n s hn (by omega)⟩
  clear hlen hn hb
  have hfit : decide ((s : Int) ≤ (len : Int) - (p : Int)) = true := by rw [decide_eq_true_iff]; omega
  unfold maxLen at hmax
  have hmid := Lib.hid (mid_window bs p s n (by rw [HL.out]; exact hp) HN.out)
  obtain ⟨ab, hab, tab⟩ := run_slice_from b o len cap (p + s) ((p : Int) + (s : Int)) (by omega) hp hcap
  have HAB := Lib.hid hab
  have TAB := Lib.hid tab
  clear hab tab
  rcases E8 with ht | ⟨ht, htn⟩
  all_goals
    go_enter Try.func4, Try.ntmps4
    go_wp2_with fail
    refine (again_len _ len cap bs HL.out _ (by unfold maxLen; omega) HB.out.told).mono ?_
    rintro e w1 ⟨g, c1, rfl, F1⟩
    have hc1 := F1.cap
    unfold maxLen at hc1
    have hl1 := F1.len
    rw [HL.out] at hl1
    go_wp2_with fail
    refine (put_lit g 0 len c1 bs HL.out p s n p s n rfl rfl rfl _ (by unfold maxLen; omega) F1.has (by have := F1.free; rwa [HL.out] at this) h1 h8 hp HN.out).mono ?_
    rintro e w2 ⟨rfl, D2⟩
    have HD2 := Lib.hid D2
    have B2 := F1.below.trans (D2.wrote.below F1.lo)
    have H2 := HB.out.below hbw B2
    clear D2 F1
    go_wp2_with fail
    refine (get_lit g 0 len c1 _ (by rw [all_window bs p s n (by rw [HL.out]; exact hp), HL.out]) p s p s rfl rfl _ (by unfold maxLen; omega) HD2.out.has h1 h8 hp).mono ?_
    rintro e w' ⟨rfl, rfl⟩
    rw [hmid.out]
    have lall := all_window bs p s n (by rw [HL.out]; exact hp)
    rw [HL.out] at lall
    obtain ⟨ag, hag, tag⟩ := run_slice_from g 0 len c1 (p + s) ((p : Int) + (s : Int)) (by omega) hp hl1
    have hab := HAB.out
    have t1 : Told w2.drew (some ⟨g, 0, none⟩) (bs.take p) := (Still.drewN w2 1).told (by
      have := HD2.out.has.pre p
      rw [low_window bs p s n (by rw [HL.out]; exact hp)] at this
      exact this.told)
    have t2 : Told w2.drew (some ⟨b, o, none⟩) (bs.take p) := (Still.drewN w2 1).told (H2.pre p).told
    have t3 : Told w2.drew ag (bs.drop (p + s)) := (Still.drewN w2 1).told (by
      have := tag w2 _ lall HD2.out.has
      rwa [high_window bs p s n (by rw [HL.out]; exact hp)] at this)
    have t4 : Told w2.drew ab (bs.drop (p + s)) := (Still.drewN w2 1).told (TAB.out w2 bs HL.out H2)
    have B3 : Below w.heap.size w w2.drew := B2.trans ((Still.drewN w2 1).below _)
    have l1 := Lib.hid (show (bs.take p).length = p by rw [List.length_take, HL.out]; omega)
    have l2 := Lib.hid (show (bs.drop (p + s)).length = len - (p + s) by rw [List.length_drop, HL.out])
    have hpc1 : p ≤ c1 := by omega
    have hpc : p ≤ cap := by omega
    clear tag HD2 H2 lall
    have hws : IntKind.i64.wrap ((p : Int) + (s : Int)) = (p : Int) + (s : Int) := IntWalk.i64_in _ (by omega)
    go_wp2_with fail
    go_still_tail 29, (by kernel_rfl)
    still_call (equal_still _ _ _ _ _ _ _ _ rfl l1.out l1.out _ t1 t2)
    repeat still_step
    still_call (equal_still _ _ _ _ _ _ _ _ rfl l2.out l2.out _ t3 t4)
    repeat still_step
    refine wpStill_nil ?_
    change wpList _ _ _ _ _ w2.drew
    clear hws t1 t2 t3 t4
    generalize w2.drew = w4 at *
    replace B3 : Below w.heap.size w w4 := B3
    go_wp2_with fail
    refine (awake_any _).mono ?_
    rintro e w7 ⟨rfl, hb⟩
    have B7 := B3.trans (hb.mono B3.size)
    go_wp2_with fail
    go_ret
    exact ⟨rfl, B7⟩
end Go.Proofs.Ytbnmhbhebadkmaa.Oct
