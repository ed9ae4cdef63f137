/- What the verifier's Again and Equal answer, with their bytes in memory as told. -/
import Derived.Test.YthcjhbjhghfhjaaMem
namespace Go.Proofs.Ythcjhbjhghfhjaa.Oct
open Go.RowKit
set_option linter.unusedVariables false

def AgainPost (w : World) (bs : List UInt8) (e : Ending) (w' : World) : Prop := ∃ g cap, e = .returned (.slice (some ⟨g, 0, none⟩) bs.length cap) ∧ Fresh w w' g bs cap

theorem again_any (a : Option Addr) (cap : Nat) (bs : List UInt8) (w : World) (hl : bs.length ≤ maxLen) (hb : Told w a bs) :
    Calls Try.prog 12 #[.slice a bs.length cap] w (AgainPost w bs) := by
  have k1 := conv_told (P := Try.prog) hb cap 33 9 5 Try.underlying33 Try.underlying5 Try.underlying9
  have k2 := Lib.run_convert_string_bytes (P := Try.prog) w 9 33 5 ⟨bs.toArray⟩ Try.underlying9 Try.underlying33 Try.underlying5
  have F := Lib.hid (fresh_bytes w 5 bs hl)
  clear hb
  generalize Lib.bytesWorld w 5 ⟨bs.toArray⟩ = w1 at k2 F
  rw [show (ByteArray.mk bs.toArray).size = bs.length from rfl] at k2
  go_enter Try.func12, Try.ntmps12
  go_wp2
  go_ret
  exact ⟨_, _, rfl, F.out⟩

theorem equal_any (a c : Option Addr) (cap cap' : Nat) (xs ys : List UInt8) (w : World) (hx : Told w a xs) (hy : Told w c ys) :
    Calls Try.prog 14 #[.slice a xs.length cap, .slice c ys.length cap'] w fun e w' => e = .returned (.bool (xs == ys)) ∧ w = w' := by
  have k1 := conv_told (P := Try.prog) hx cap 33 9 5 Try.underlying33 Try.underlying5 Try.underlying9
  have k2 := conv_told (P := Try.prog) hy cap' 33 9 5 Try.underlying33 Try.underlying5 Try.underlying9
  clear hx hy
  go_enter Try.func14, Try.ntmps14
  go_wp2
  go_ret
  exact ⟨rfl, rfl⟩

theorem equal_len (a c : Option Addr) (len len' cap cap' : Nat) (xs ys : List UInt8) (hx' : xs.length = len) (hy' : ys.length = len') (w : World) (hx : Told w a xs) (hy : Told w c ys) :
    Calls Try.prog 14 #[.slice a len cap, .slice c len' cap'] w fun e w' => e = .returned (.bool (xs == ys)) ∧ w = w' := by
  subst hx' hy'
  exact equal_any a c cap cap' xs ys w hx hy

theorem equal_yes (a c : Option Addr) (len len' cap cap' : Nat) (xs ys : List UInt8) (hxy : xs = ys) (hx' : xs.length = len) (hy' : ys.length = len') (w : World) (hx : Told w a xs) (hy : Told w c ys) :
    Calls Try.prog 14 #[.slice a len cap, .slice c len' cap'] w fun e w' => e = .returned (.bool true) ∧ w = w' := by
  subst hxy
  have h := equal_len a c len len' cap cap' xs xs hx' hy' w hx hy
  rwa [beq_self_eq_true] at h

theorem again_len (a : Option Addr) (len cap : Nat) (bs : List UInt8) (hlen : bs.length = len) (w : World) (hl : len ≤ maxLen) (hb : Told w a bs) :
    Calls Try.prog 12 #[.slice a len cap] w fun e w' => ∃ g c, e = .returned (.slice (some ⟨g, 0, none⟩) len c) ∧ Fresh w w' g bs c := by
  subst hlen
  exact again_any a cap bs w hl hb
end Go.Proofs.Ythcjhbjhghfhjaa.Oct
