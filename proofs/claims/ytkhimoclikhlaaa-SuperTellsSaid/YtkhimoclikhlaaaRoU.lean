/- What the reference's Seal and Open answer, with their bytes in memory as told. -/
import Derived.Test.YtkhimoclikhlaaaRoS
namespace Go.Proofs.Ytkhimoclikhlaaa.Oct
open Go.RowKit
set_option linter.unusedVariables false

def lenOf : Value → Nat
  | .slice _ l _ => l
  | _ => 0

theorem bytes_lit (ni si : Int) (n s : Nat) (en : ni = n) (es : si = s) (w : World) (hn : n < 18446744073709551616) (hs : s ≤ 8) :
    Calls Try.prog 28 #[.int .u64 ni, .int .i64 si] w fun e w' => ∃ g, e = .returned (.tuple #[.slice (some ⟨g, 0, none⟩) s s, .bool (decide (n < 256 ^ s))]) ∧ w.heap.size ≤ g ∧ Row w' g (bytesOf n s) ∧ Below w.heap.size w w' := by
  subst en es
  exact bytes_any n s w hn hs

theorem rseal_long (kind : UInt8) (a : Option Addr) (len cap : Nat) (w : World) (h : 123 < len) (hm : len ≤ maxLen) :
    Calls Try.prog 29 #[.int .u8 (kind.toNat : Int), .slice a len cap] w fun e w' => e = .returned (.tuple #[.slice none 0 0, .int .i64 3]) ∧ w = w' := by
  unfold maxLen at hm
  go_enter Try.func29, Try.ntmps29
  go_wp2
  go_ret2
  exact ⟨rfl, rfl⟩

theorem own_one (w : World) (c : UInt8) : Own (w.alloc (.cells #[.int .u8 (c.toNat : Int)] 5)) w.heap.size (.slice (some ⟨w.heap.size, 0, none⟩) 1 1) [c] := Own.lit w w.heap.size [c] (Nat.le_refl _) (by decide : 1 ≤ maxLen)
theorem told_zero (w : World) : Told (w.alloc (.cells #[.int .u8 0] 5)) (some ⟨w.heap.size, 0, none⟩) [0] := (alloc_row w [0]).has.told

theorem pad_next (x : List UInt8) (L m : Nat) (h : m ≤ L) : x ++ List.replicate (L - m) 0 ++ [0] = x ++ List.replicate (L + 1 - m) 0 := by
  rw [List.append_assoc, ← List.replicate_succ', show L - m + 1 = L + 1 - m by omega]
theorem face_eq (kind : UInt8) (bs : List UInt8) (len : Nat) (h : bs.length = len) : [kind] ++ bs ++ List.replicate (124 - (1 + len)) 0 = face kind bs := by
  unfold face
  rw [h, show 124 - (1 + len) = 123 - len by omega]
  rfl
def RSealPost (w : World) (bs : List UInt8) (e : Ending) (w' : World) : Prop :=
  ∃ v, e = .returned (.tuple #[v, .int .i64 0]) ∧ Own w' w.heap.size v bs ∧ Below w.heap.size w w'

set_option maxRecDepth 100000 in
set_option maxHeartbeats 800000 in
theorem rseal_any (kind : UInt8) (a : Option Addr) (len cap : Nat) (bs : List UInt8) (hlen : bs.length = len) (w : World) (hl : len ≤ 123) (hT : Told w a bs) (hnil : a = none → cap = 0) :
    Calls Try.prog 29 #[.int .u8 (kind.toNat : Int), .slice a len cap] w (RSealPost w (page kind bs)) := by
  have O1 := Lib.hid (own_one w kind)
  have T1 := Lib.hid (hT.alloc (.cells #[.int .u8 (kind.toNat : Int)] 5))
  have HL := Lib.hid hlen
  have HNIL := Lib.hid hnil
  have HSZ := Lib.hid (show ([kind] : List UInt8).length + len ≤ 140737488355328 by simp; omega)
  clear hlen hT hnil
  go_enter Try.func29, Try.ntmps29
  go_wp2_with (at_builtin; refine wpList_append_bytes rfl (.tmp 13) (.tmp 14) rfl w.heap.size _ [kind] bs rfl O1.out a len cap rfl HL.out T1.out HNIL.out HSZ.out (alloc_base w _) ?_; intro v w2 O2 B2)
  replace B2 := ((Below.refl w.heap.size w).alloc (Nat.le_refl _) _).trans B2
  obtain ⟨av, cv, rfl, _⟩ := O2.slice
  have hL : ([kind] ++ bs).length = 1 + len := by simp [HL.out]; omega
  rw [hL] at O2 ⊢
  clear hL
  go_loopw [6] (fun v wr => ∃ (L : Nat) (a : Option Addr) (c : Nat), 1 + len ≤ L ∧ L ≤ 124 ∧ v = .slice a L c ∧ Own wr w.heap.size (.slice a L c) ([kind] ++ bs ++ List.replicate (L - (1 + len)) 0) ∧ Below w.heap.size w wr) (fun v _ => 124 - lenOf v)
  case atStart => exact ⟨1 + len, av, cv, Nat.le_refl _, by omega, by simp, by simpa using O2, B2⟩
  case round =>
    obtain ⟨L, a2, c2, hL1, hL2, rfl, hO, hB⟩ := hrel
    clear O2 B2
    have HO := Lib.hid hO
    have HB := Lib.hid hB
    clear hO hB
    have hxl : ([kind] ++ bs ++ List.replicate (L - (1 + len)) 0).length = L := by simp [HL.out]; omega
    have HXL := Lib.hid hxl
    clear hxl
    by_cases hlt : L < 124
    · have OA := Lib.hid (HO.out.kept ((Below.refl wr.heap.size wr).alloc (Nat.le_refl _) (.cells #[.int .u8 0] 5)) (Nat.le_refl _))
      have TA := Lib.hid (told_zero wr)
      have HS2 := Lib.hid (show ([kind] ++ bs ++ List.replicate (L - (1 + len)) 0).length + 1 ≤ 140737488355328 by rw [HXL.out]; omega)
      have HB2 := Lib.hid (show w.heap.size ≤ (wr.alloc (.cells #[.int .u8 0] 5)).heap.size from Nat.le_trans HB.out.size (alloc_base _ _))
      go_wp2_with (at_builtin; refine wpList_append_bytes rfl (.tmp 19) (.tmp 20) rfl w.heap.size _ _ [0] rfl OA.out _ 1 1 rfl rfl TA.out (fun h => nomatch h) HS2.out HB2.out ?_; intro v3 w3 O3 B3)
      rw [pad_next _ _ _ hL1] at O3
      have hxl : ([kind] ++ bs ++ List.replicate (L + 1 - (1 + len)) 0).length = L + 1 := by simp [HL.out]; omega
      obtain ⟨a3, c3, rfl, _⟩ := O3.slice
      rw [hxl] at O3 ⊢
      refine ⟨⟨L + 1, a3, c3, by omega, by omega, rfl, O3, (HB.out.trans (((Below.refl _ wr).alloc HB.out.size _).trans B3))⟩, ?_⟩
      simp [lenOf]
      omega
    · obtain rfl : L = 124 := by omega
      obtain ⟨a3, c3, hv, hT3, hc3, hm3, hq⟩ := HO.out.slice
      rw [HXL.out] at hv hc3
      simp only [Value.slice.injEq, true_and] at hv
      obtain ⟨rfl, rfl⟩ := hv
      obtain ⟨q, rfl, hq1, hq2, hH⟩ := hq (by simp)
      have HO2 := HO.out
      rw [face_eq kind bs len HL.out] at hH HO2
      have HF := Lib.hid (length_face kind bs (by rw [HL.out]; omega))
      have hsl := sum_lt (face kind bs)
      have hm4 := hm3
      unfold maxLen at hm4
      clear hq hT3 hm3
      go_wp2_with fail
      refine (rsum_any q 0 124 _ (face kind bs) HF.out _ (by decide) hH).mono ?_
      rintro e w' ⟨rfl, rfl⟩
      go_wp2_with fail
      refine (bytes_lit _ 4 (sum (face kind bs)) 4 rfl rfl _ (by omega) (by omega)).mono ?_
      rintro e w3 ⟨g, rfl, hg, R3, B3⟩
      have O4 := Lib.hid (HO2.kept B3 (Nat.le_refl _))
      have T4 := Lib.hid R3.has.told
      have HB4 := HB.out.trans (B3.mono HB.out.size)
      have HS4 := Lib.hid (show (face kind bs).length + 4 ≤ 140737488355328 by rw [HF.out]; omega)
      have HL4 := Lib.hid (length_bytesOf 4 (sum (face kind bs)))
      have HS5 := Lib.hid HB4.size
      clear HO2 hH R3
      go_wp2_with (at_builtin; refine wpList_append_bytes rfl (.tmp 29) (.tmp 30) rfl w.heap.size _ _ _ rfl O4.out _ 4 4 rfl HL4.out T4.out (fun h => nomatch h) HS4.out HS5.out ?_; intro v5 w5 O5 B5)
      go_ret2
      exact ⟨v5, rfl, O5, HB4.trans B5⟩
end Go.Proofs.Ytkhimoclikhlaaa.Oct
