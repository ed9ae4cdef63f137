/- What octets.parts and octets.Seal answer, with their bytes in memory as told. -/
import Derived.Test.YtkhimoclikhlaaaOctD
import Derived.Deep.QuietTactic
import Derived.BigQuiet
import Derived.Laws.CopyOwn
namespace Go.Proofs.Ytkhimoclikhlaaa.Oct
open Go.RowKit
set_option linter.unusedVariables false
set_option maxHeartbeats 400000 in
theorem parts_any (b o cap : Nat) (w : World) (hc : 128 ≤ cap) (hm : cap ≤ maxLen) :
    Calls Try.prog 36 #[.slice (some ⟨b, o, none⟩) 128 cap] w fun e w' => e = .returned (.tuple #[.slice (some ⟨b, o, none⟩) 1 1, .slice (some ⟨b, o + 1, none⟩) 123 123, .slice (some ⟨b, o + 124, none⟩) 4 4]) ∧ Still w w' := by
  unfold maxLen at hm
  go_enter Try.func36, Try.ntmps36
  go_wp2
  go_quiet (fail)
  go_wp2
  go_ret3
  exact ⟨rfl, Still.drewN _ _⟩
/-! ### Contracts with the length apart -/
theorem sum_len (b o len cap : Nat) (bs : List UInt8) (hlen : bs.length = len) (w : World) (hl : len ≤ maxLen) (hb : Has w b o bs) :
    Calls Try.prog 37 #[.slice (some ⟨b, o, none⟩) len cap] w fun e w' => e = .returned (.int .u32 (sum bs)) ∧ w = w' := by
  subst hlen
  exact sum_any b o cap bs w hl hb
theorem put_04 (b o cap : Nat) (bs : List UInt8) (hlen : bs.length = 4) (n : Nat) (w : World) (hb : Has w b o bs) (hf : Free w b o 4) (hn : n < 256 ^ 4) :
    Calls Try.prog 27 #[.slice (some ⟨b, o, none⟩) 4 cap, .int .i64 0, .int .i64 4, .int .u64 n] w fun e w' => e = .returned (.bool true) ∧ Has w' b o (bytesOf n 4) ∧ Wrote w w' b o (o + 4) := by
  have h := put_yes b o cap bs 0 4 n w (by rw [hlen]; decide) hb (by rw [hlen]; exact hf) (by omega) (by omega) (by omega) hn
  rw [hlen] at h
  refine h.mono fun e w' ⟨he, hd⟩ => ⟨he, ?_, hd.wrote⟩
  have := hd.has
  rwa [List.take_zero, List.nil_append, Nat.zero_add, List.drop_of_length_le (by omega), List.append_nil] at this
theorem get_04 (b o cap : Nat) (bs : List UInt8) (hlen : bs.length = 4) (w : World) (hb : Has w b o bs) :
    Calls Try.prog 31 #[.slice (some ⟨b, o, none⟩) 4 cap, .int .i64 0, .int .i64 4] w fun e w' => e = .returned (.tuple #[.int .u64 (num bs), .bool true]) ∧ w = w' := by
  have h := get_yes b o cap bs 0 4 w (by rw [hlen]; decide) hb (by omega) (by omega) (by omega)
  rw [hlen] at h
  rwa [List.drop_zero, List.take_of_length_le (by omega)] at h
/-! ### A block that holds bytes and nothing else -/
/-! ### The page -/
/-- A page without its sum. -/
def face (kind : UInt8) (bs : List UInt8) : List UInt8 := kind :: (bs ++ List.replicate (123 - bs.length) 0)
def page (kind : UInt8) (bs : List UInt8) : List UInt8 := face kind bs ++ bytesOf (sum (face kind bs)) 4
theorem length_face (kind : UInt8) (bs : List UInt8) (h : bs.length ≤ 123) : (face kind bs).length = 124 := by simp [face]; omega
theorem length_page (kind : UInt8) (bs : List UInt8) (h : bs.length ≤ 123) : (page kind bs).length = 128 := by simp [page, length_face kind bs h, length_bytesOf]
def SealPost (w : World) (kind : UInt8) (bs : List UInt8) (e : Ending) (w' : World) : Prop :=
  ∃ g, e = .returned (.tuple #[.slice (some ⟨g, 0, none⟩) 128 128, .int .i64 0]) ∧ Fresh w w' g (page kind bs) 128
theorem splice_page (kind : UInt8) (bs : List UInt8) (h : bs.length ≤ 123) : splice (kind :: List.replicate 127 0) 1 bs = face kind bs ++ [0, 0, 0, 0] := by
  unfold splice face
  rw [show 1 + bs.length = bs.length + 1 by omega, List.drop_succ_cons, List.take_succ_cons, List.take_zero, List.drop_replicate]
  rw [List.cons_append, List.cons_append, List.nil_append, List.append_assoc]
  congr 2
  rw [show ([0, 0, 0, 0] : List UInt8) = List.replicate 4 0 from rfl, List.replicate_append_replicate]
  congr 1
  omega
end Go.Proofs.Ytkhimoclikhlaaa.Oct
