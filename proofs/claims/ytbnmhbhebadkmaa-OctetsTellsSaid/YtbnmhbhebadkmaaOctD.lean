/- What the verifier's Again and Equal answer, with their bytes in memory as told. -/
import Derived.Test.YtbnmhbhebadkmaaOctC
import Derived.Lib.ConvBytes
namespace Go.Proofs.Ytbnmhbhebadkmaa.Oct
open Go.RowKit
set_option linter.unusedVariables false

/-- A slice's bytes are told: there are none, or they stand where it leads. -/
def Told (w : World) (a : Option Addr) (bs : List UInt8) : Prop := bs = [] ∨ ∃ b o, a = some ⟨b, o, none⟩ ∧ Has w b o bs
theorem Has.told {w : World} {b o : Nat} {bs : List UInt8} (h : Has w b o bs) : Told w (some ⟨b, o, none⟩) bs := .inr ⟨b, o, rfl, h⟩

theorem conv_told {P : Program} {w : World} {a : Option Addr} {bs : List UInt8} (h : Told w a bs) (cap : Nat) (src dst e : TypeId)
    (hs : P.underlying src = some (.slice e)) (he : P.underlying e = some (.int .u8)) (hd : P.underlying dst = some .string) :
    (convert src dst (.slice a bs.length cap)).run P w = .ok (.string ⟨bs.toArray⟩) w := by
  rcases h with rfl | ⟨b, o, rfl, h⟩
  · rw [run_convert_bytes_string w src dst e a _ cap hs he hd]
    cases a with
    | none =>
      simp [Conv.bytesToString, ByteArray.empty, ByteArray.emptyWithCapacity]
      rfl
    | some x =>
      have h0 := run_loadCells_list (P := P) w x [] (fun j v hj => by simp at hj)
      exact run_bytesToString (P := P) w x 0 cap [] (by simpa using h0)
  · have h1 := run_convert_bytes_arg (P := P) w src e hs he b o bs.length cap (bs.map fun c => (c.toNat : Int)) (by simp) (fun i hi => by
      rw [h i hi]; simp [List.getD, hi]) dst hd
    rw [h1]
    congr 2
    unfold strOfNums
    congr 2
    rw [List.map_map]
    conv => rhs; rw [← List.map_id bs]
    apply List.map_congr_left
    intro c _
    simp

/-- New memory that holds bs: block g, from its head on; nothing that was there has turned. -/
structure Fresh (w w' : World) (g : Nat) (bs : List UInt8) (cap : Nat) : Prop where
  below : Below w.heap.size w w'
  lo : w.heap.size ≤ g
  hi : g < w'.heap.size
  has : Has w' g 0 bs
  free : Free w' g 0 bs.length
  len : bs.length ≤ cap
  cap : cap ≤ maxLen

theorem fresh_bytes (w : World) (e : TypeId) (bs : List UInt8) (hl : bs.length ≤ maxLen) : Fresh w (Lib.bytesWorld w e ⟨bs.toArray⟩) w.heap.size bs (grownCap w bs.length 0 e) where
  below := ⟨by simp [Lib.bytesWorld, World.freeze, World.alloc, World.drew, -World.alloc_eq, -World.drew_eq], by simp [Lib.bytesWorld, World.freeze, World.alloc, World.drew, -World.alloc_eq, -World.drew_eq], by simp [Lib.bytesWorld, World.freeze, World.alloc, World.drew, -World.alloc_eq, -World.drew_eq], by rw [Lib.bytesWorld_size]; omega, fun k hk => Lib.bytesWorld_at_old _ _ _ _ hk⟩
  lo := Nat.le_refl _
  hi := by rw [Lib.bytesWorld_size]; omega
  has := fun i hi => by
    have := Lib.bytesWorld_cell w e ⟨bs.toArray⟩ i (by simpa [ByteArray.size] using hi)
    rw [Nat.zero_add, this]
    simp [List.getD, hi]
  free := fun i hi => by
    simp only [World.frozen?, Lib.bytesWorld_at_new, Nat.zero_add]
    have : i < (Lib.bytesCells w e ⟨bs.toArray⟩).size := by simp [Lib.bytesCells]; omega
    simp
    omega
  len := grownCap_ge _ _ _ _
  cap := grownCap_le_maxLen _ _ _ _ hl

def AgainPost (w : World) (bs : List UInt8) (e : Ending) (w' : World) : Prop := ∃ g cap, e = .returned (.slice (some ⟨g, 0, none⟩) bs.length cap) ∧ Fresh w w' g bs cap

theorem again_any (a : Option Addr) (cap : Nat) (bs : List UInt8) (w : World) (hl : bs.length ≤ maxLen) (hb : Told w a bs) :
    Calls Try.prog 10 #[.slice a bs.length cap] w (AgainPost w bs) := by
  have k1 := conv_told (P := Try.prog) hb cap 22 9 5 Try.underlying22 Try.underlying5 Try.underlying9
  have k2 := Lib.run_convert_string_bytes (P := Try.prog) w 9 22 5 ⟨bs.toArray⟩ Try.underlying9 Try.underlying22 Try.underlying5
  have F := Lib.hid (fresh_bytes w 5 bs hl)
  clear hb
  generalize Lib.bytesWorld w 5 ⟨bs.toArray⟩ = w1 at k2 F
  rw [show (ByteArray.mk bs.toArray).size = bs.length from rfl] at k2
  go_enter Try.func10, Try.ntmps10
  go_wp2
  go_ret
  exact ⟨_, _, rfl, F.out⟩

theorem equal_any (a c : Option Addr) (cap cap' : Nat) (xs ys : List UInt8) (w : World) (hx : Told w a xs) (hy : Told w c ys) :
    Calls Try.prog 15 #[.slice a xs.length cap, .slice c ys.length cap'] w fun e w' => e = .returned (.bool (xs == ys)) ∧ w = w' := by
  have k1 := conv_told (P := Try.prog) hx cap 22 9 5 Try.underlying22 Try.underlying5 Try.underlying9
  have k2 := conv_told (P := Try.prog) hy cap' 22 9 5 Try.underlying22 Try.underlying5 Try.underlying9
  clear hx hy
  go_enter Try.func15, Try.ntmps15
  go_wp2
  go_ret
  exact ⟨rfl, rfl⟩
end Go.Proofs.Ytbnmhbhebadkmaa.Oct
