/- The walk of the statement OctetsPages: whatever the kind, the body, the place, the byte, it answers true and writes nothing that was there. -/
import Derived.Test.YtbnmhbhebadkmaaOctZ
namespace Go.Proofs.Ytbnmhbhebadkmaa.Oct
open Go.RowKit
set_option linter.unusedVariables false

theorem run_slice_tail (b o len cap k : Nat) (ki : Int) (hki : ki = (k : Int)) (hk : k ≤ len) (hc : len ≤ cap) :
    ∃ x : Nat, (∀ w, (Instr.slice 22 (.slice (some ⟨b, o, none⟩) len cap) (some (.int .i64 ki)) none none).run Try.prog w = .ok (.slice (some ⟨b, x, none⟩) (len - k) (cap - k)) w) ∧
      ∀ w bs, bs.length = len → Has w b o bs → Has w b x (bs.drop k) := by
  subst hki
  have ht : Try.prog.underlying 22 = some (.slice (Try.prog.elem 22)) := by
    simp [Program.elem, Try.underlying22]
  have he : Try.prog.elem 22 = 5 := by simp [Program.elem, Try.underlying22]
  have hz : ∀ w, (Go.sizeOf 5).run Try.prog w = .ok 1 w := fun _ => by kernel_rfl
  have key : ∀ w, (Instr.slice 22 (.slice (some ⟨b, o, none⟩) len cap) (some (.int .i64 (k : Int))) none none).run Try.prog w = .ok (.slice (if cap = k then some ⟨b, o, none⟩ else some ⟨b, o + k, none⟩) (len - k) (cap - k)) w := fun w => by
    rw [run_slice_l w 22 _ len cap ht .i64 (k : Int) (by omega) (by omega), he, hz]
    simp only [Result.andThen, sliced, Int.toNat_natCast, Nat.mul_one, Option.map_some, add_plain]
  by_cases h : cap = k
  · refine ⟨o, fun w => by rw [key, if_pos h], fun w bs hl hb => ?_⟩
    rw [List.drop_of_length_le (by omega)]
    intro i hi
    simp at hi
  · refine ⟨o + k, fun w => by rw [key, if_neg h], fun w bs hl hb => ?_⟩
    have h2 := hb.cut k (len - k)
    rwa [List.take_of_length_le (by rw [List.length_drop]; omega)] at h2

theorem face_pad (k : UInt8) (bs : List UInt8) (h : bs.length ≤ 123) : page k (bs ++ List.replicate (123 - bs.length) 0) = page k bs := by
  have e : face k (bs ++ List.replicate (123 - bs.length) 0) = face k bs := by
    unfold face
    rw [List.length_append, List.length_replicate, show 123 - (bs.length + (123 - bs.length)) = 0 by omega, List.replicate_zero, List.append_nil]
  unfold page
  rw [e]

set_option maxRecDepth 100000 in
set_option maxHeartbeats 1000000 in
theorem pages_walk (a0 : Int) (a1 : Option Addr) (len1 cap1 : Nat) (z1 : List Int) (a2 : Int) (a3 : Int) (w : World) (w0 : (Lit.int .u8 a0).wf = true) (w1 : IsRow .u8 w a1 len1 cap1 z1) (w2 : (Lit.int .u8 a2).wf = true) (w3 : (Lit.int .u8 a3).wf = true) :
    Calls Try.prog 6 #[.int .u8 a0, .slice a1 len1 cap1, .int .u8 a2, .int .u8 a3] w fun e w' => e = .returned (.bool true) ∧ Below w.heap.size w w' := by
  obtain ⟨bs, hc⟩ := came w1
  have hlen := hc.hlen
  have hmax : len1 ≤ maxLen := Nat.le_trans hc.le hc.hcap
  have hcap := hc.le
  have hcm := hc.hcap
  obtain ⟨kind, rfl⟩ := u8_of w0
  obtain ⟨c, rfl⟩ := u8_of w2
  obtain ⟨d, rfl⟩ := u8_of w3
  have hu := u8_lt c
  have hd := u8_lt d
  have HC := Lib.hid hc
  have HL := Lib.hid hlen
  clear w0 w1 w2 w3 hc hlen
  by_cases h3 : 123 < len1
  · have HM := Lib.hid hmax
    unfold maxLen at hmax hcm
    go_enter Try.func6, Try.ntmps6
    go_wp2_with fail
    refine (seal_long kind a1 len1 cap1 _ h3 HM.out).mono ?_
    rintro e w' ⟨rfl, rfl⟩
    go_wp2_with (go_at_call 9; refine (awake_any _).mono ?_; rintro e w' ⟨rfl, hb⟩)
    go_ret
    exact ⟨rfl, hb⟩
  · unfold maxLen at hmax hcm
    have HP := Lib.hid (length_page kind bs (by rw [HL.out]; omega))
    go_enter Try.func6, Try.ntmps6
    go_wp2_with fail
    refine (seal_any kind a1 len1 cap1 bs HL.out _ (by omega) HC.out.told).mono ?_
    rintro e w1 ⟨p, rfl, F1⟩
    have T1 : Told w1 a1 bs := by
      by_cases h0 : bs = []
      · exact .inl h0
      · obtain ⟨b, o, h, k, hbw⟩ := HC.out.old h0
        exact .inr ⟨b, o, h, k.below hbw F1.below⟩
    go_wp2_with fail
    refine (open_page p 0 128 kind bs (by rw [HL.out]; omega) _ F1.has (by decide) (by decide)).mono ?_
    rintro e w2 ⟨q, rfl, F2⟩
    have T2 : Told w2 a1 bs := by
      by_cases h0 : bs = []
      · exact .inl h0
      · obtain ⟨b, o, h, k, hbw⟩ := HC.out.old h0
        exact .inr ⟨b, o, h, (k.below hbw F1.below).below (Nat.lt_of_lt_of_le hbw F1.below.size) F2.below⟩
    have B2 := F1.below.trans (F2.below.mono F1.below.size)
    have P2 := F1.has.below F1.hi F2.below
    have lk : (bs ++ List.replicate (123 - bs.length) 0).length = 123 := by rw [List.length_append, List.length_replicate, HL.out]; omega
    have LK := Lib.hid lk
    have U2 : Told w2 (some ⟨q, 0, none⟩) bs := by
      have := F2.has.pre len1
      rw [List.take_append_of_le_length (by rw [HL.out]; exact Nat.le_refl _), List.take_of_length_le (by rw [HL.out]; exact Nat.le_refl _)] at this
      exact this.told
    obtain ⟨x, hx, hxz⟩ := run_slice_tail q 0 123 123 len1 (len1 : Int) rfl (by omega) (by omega)
    have Z2 := hxz w2 _ LK.out F2.has
    rw [List.drop_append_of_le_length (by rw [HL.out]; exact Nat.le_refl _), List.drop_of_length_le (by rw [HL.out]; exact Nat.le_refl _), List.nil_append, HL.out] at Z2
    have HZ2 := Lib.hid Z2
    have hl123 : len1 ≤ 123 := by omega
    clear lk hxz Z2 T1
    go_wp2_with fail
    refine (equal_yes _ _ len1 len1 123 cap1 bs bs rfl HL.out HL.out _ U2 T2).mono ?_
    rintro e w' ⟨rfl, rfl⟩
    clear T2 U2
    go_wp2_with fail
    go_loop [81] (fun i => ∃ k : Nat, k ≤ 123 - len1 ∧ i = .int .i64 k) (fun i => (123 - len1) - (intOf i).toNat)
    case atStart => exact ⟨0, Nat.zero_le _, rfl⟩
    case round =>
      obtain ⟨k, hk, rfl⟩ := hrel
      by_cases hlt : k < 123 - len1
      · have hz := HZ2.out.at (i := k) (c := 0) (by rw [List.getElem?_replicate, if_pos hlt])
        rw [show (((0 : UInt8).toNat : Nat) : Int) = 0 from rfl] at hz
        go_wp2
        go_round
        case rel => exact ⟨k + 1, by omega, by go_num⟩
        case measure => simp [intOf]; omega
      · go_wp2_with fail
        refine (seal_any kind _ 123 123 _ LK.out _ (by omega) F2.has.told).mono ?_
        rintro e w3 ⟨r, rfl, F3⟩
        rw [face_pad kind bs (by rw [HL.out]; omega)] at F3
        have P3 := P2.below (Nat.lt_of_lt_of_le F1.hi F2.below.size) F3.below
        have B3 := B2.trans (F3.below.mono B2.size)
        go_wp2_with fail
        refine (equal_yes _ _ 128 128 128 128 (page kind bs) (page kind bs) rfl HP.out HP.out _ F3.has.told P3.told).mono ?_
        rintro e w' ⟨rfl, rfl⟩
        have hi : c.toNat % 128 < (page kind bs).length := by rw [HP.out]; omega
        obtain ⟨f, hf⟩ : ∃ f, (page kind bs)[c.toNat % 128]? = some f := ⟨_, List.getElem?_eq_getElem hi⟩
        have hcell := P3.at0 hf
        have hfz : w3.frozen? ⟨p, c.toNat % 128, none⟩ = false := by
          rw [F3.below.frozen (p := ⟨p, c.toNat % 128, none⟩) (Nat.lt_of_lt_of_le F1.hi F2.below.size), F2.below.frozen (p := ⟨p, c.toNat % 128, none⟩) F1.hi]
          exact F1.free.at0 hi
        have H4 := Lib.hid (P3.set0 hi _ _ (otherByte_int f d))
        have B4 := Lib.hid (B3.setCell (p := ⟨p, c.toNat % 128, none⟩) F1.lo (.int .u8 (((f.toNat : Int) + (1 + (d.toNat : Int) % 255)) % 256)))
        have hfu := u8_lt f
        have HF := Lib.hid hf
        have HI := Lib.hid hi
        clear hf hi hx hlt
        go_wp2_with fail
        refine (open_changed p 0 128 kind bs (by rw [HL.out]; omega) (c.toNat % 128) HI.out (otherByte f d) ?_ _ H4.out (by decide) (by decide)).mono ?_
        · obtain ⟨_, h⟩ := List.getElem?_eq_some_iff.1 HF.out
          rw [h]
          exact otherByte_ne f d
        rintro e w5 ⟨rfl, S5⟩
        have B5 := B4.out.trans (S5.below _)
        clear hcell hfz H4 B4 S5
        go_wp2_with fail
        refine (awake_any _).mono ?_
        rintro e w7 ⟨rfl, hb⟩
        have B7 := B5.trans (hb.mono B5.size)
        go_wp2_with fail
        go_ret
        exact ⟨rfl, B7⟩
end Go.Proofs.Ytbnmhbhebadkmaa.Oct
