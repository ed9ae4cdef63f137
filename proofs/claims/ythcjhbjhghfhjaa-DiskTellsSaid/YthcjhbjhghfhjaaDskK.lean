/- What Copy answers; what is answered of no disk. -/
import Derived.Test.YthcjhbjhghfhjaaDskJ
namespace Go.Proofs.Ythcjhbjhghfhjaa.Dsk
open Go.RowKit Go.Proofs.Ythcjhbjhghfhjaa.Oct
set_option linter.unusedVariables false

theorem vals_one (bs : List UInt8) : ∀ u ∈ vals bs, u.oneCell' = true := fun u hu => by obtain ⟨c, _, rfl⟩ := List.mem_map.1 hu; rfl
theorem wcells_one (W : List (Nat × List UInt8)) : ∀ u ∈ wcells W, u.oneCell' = true := fun u hu => by
  obtain ⟨x, _, hx⟩ := List.mem_flatMap.1 hu
  rcases List.mem_cons.1 hx with rfl | hx
  · rfl
  · exact vals_one _ _ hx
def CopyPost (w : World) (s : St) (e : Ending) (w' : World) : Prop :=
  ∃ a bb bc wv, e = .returned (.pointer (some ⟨a, 0, none⟩)) ∧ At w' w.heap.size a bb bc wv s ∧ Below w.heap.size w w'
theorem cells_own {w w' : World} {base base' : Nat} {e : TypeId} {size n : Nat} {v : Value} {xs : List Value} (h : w.ownsRow base e size v n xs) (hb : base' ≤ base) : w.ownsRow base' e size v n xs :=
  ⟨h.1, h.2.imp id fun ⟨g, c, cur, h1, h2, h3⟩ => ⟨g, c, cur, h1, by omega, h3⟩⟩
set_option maxRecDepth 100000 in
set_option maxHeartbeats 1000000 in
theorem copy_at {w : World} {base a bb bc : Nat} {wv : Value} {s : St} (h : At w base a bb bc wv s) :
    Calls Try.prog 22 #[.pointer (some ⟨a, 0, none⟩)] w (CopyPost w s) := by
  have c0 := h.c0
  have c1 := h.c1
  have c2 := h.c2
  have c3 := h.c3
  have c4 := h.c4
  have c5 := h.c5
  obtain ⟨A, cap, hv, _⟩ := h.wform
  rw [hv] at c1
  have hlt := h.lt
  have HD := Lib.hid h.drew
  have HO := Lib.hid h.ok
  have HV := Lib.hid hv
  have hn := h.ok.hi
  have hfew := h.ok.few
  clear h hv
  go_enter Try.func22, Try.ntmps22
  go_wp2_with fail
  refine (made_self a _ c5).mono ?_
  rintro e w' ⟨rfl, rfl⟩
  go_wp2_with fail
  go_region_held3 (fun w' => w'.cell? ⟨a, 0, none⟩ = some (.slice (some ⟨bb, 0, none⟩) s.n bc) ∧ w'.cell? ⟨a, 1, none⟩ = some (.slice A s.W.length cap) ∧ w'.cell? ⟨a, 2, none⟩ = some (.bool s.gone) ∧ w'.cell? ⟨a, 3, none⟩ = some (.bool s.armed) ∧ w'.cell? ⟨a, 4, none⟩ = some (.int .i64 (s.left : Int))) (first | exact ⟨c0, c1, c2, c3, c4⟩ | exact K2 | exact K3 | exact K4) (first | (go_at_call 42; refine (clone_blocks HD.out.blocks hn (vals_one _)).mono ?_; rintro e w2 ⟨A2, k2, rfl, O2, B2⟩; have K2 := And.intro ((B2.cell (p := ⟨a, 0, none⟩) hlt).trans c0) (And.intro ((B2.cell (p := ⟨a, 1, none⟩) hlt).trans c1) (And.intro ((B2.cell (p := ⟨a, 2, none⟩) hlt).trans c2) (And.intro ((B2.cell (p := ⟨a, 3, none⟩) hlt).trans c3) ((B2.cell (p := ⟨a, 4, none⟩) hlt).trans c4)))); have HO2 := Lib.hid O2; have HB2 := Lib.hid B2; clear O2 B2) | (go_at_call 43; have WW := (HD.out.below HB2.out).waits; rw [HV.out] at WW; refine (clone_writes WW hfew (wcells_one _)).mono ?_; rintro e w3 ⟨A3, k3, rfl, O3, B3⟩; have L3 : a < w2.heap.size := Nat.lt_of_lt_of_le hlt HB2.out.size; have K3 := And.intro ((B3.cell (p := ⟨a, 0, none⟩) L3).trans K2.1) (And.intro ((B3.cell (p := ⟨a, 1, none⟩) L3).trans K2.2.1) (And.intro ((B3.cell (p := ⟨a, 2, none⟩) L3).trans K2.2.2.1) (And.intro ((B3.cell (p := ⟨a, 3, none⟩) L3).trans K2.2.2.2.1) ((B3.cell (p := ⟨a, 4, none⟩) L3).trans K2.2.2.2.2)))); have HO3 := Lib.hid O3; have HB3 := Lib.hid B3; clear O3 B3 WW) | (go_at_call 30; refine (build_any _ _ _ _ _ _ _ _ _ _).mono ?_; rintro e w4 ⟨b, rfl, hb, hh, B4⟩; have L4 : a < w3.heap.size := Nat.lt_of_lt_of_le L3 HB3.out.size; have K4 := And.intro ((B4.cell (p := ⟨a, 0, none⟩) L4).trans K3.1) (And.intro ((B4.cell (p := ⟨a, 1, none⟩) L4).trans K3.2.1) (And.intro ((B4.cell (p := ⟨a, 2, none⟩) L4).trans K3.2.2.1) (And.intro ((B4.cell (p := ⟨a, 3, none⟩) L4).trans K3.2.2.2.1) ((B4.cell (p := ⟨a, 4, none⟩) L4).trans K3.2.2.2.2)))); have HH := Lib.hid hh; have HB4 := Lib.hid B4; have HLB := Lib.hid hb; clear hh B4 hb))
  clear c0 c1 c2 c3 c4 c5
  go_wp2_with fail
  go_ret
  have b2 := HB2.out
  have b3 := HB3.out
  have b4 := HB4.out
  have z2 : w.heap.size ≤ w2.heap.size := b2.size
  have z3 := b3.size
  have hlb := HLB.out
  have o2 := own_same (own_same HO2.out fun k _ hl => b3.block k hl) fun k hk hl => b4.block k (by have := (World.ownsRow.lt HO2.out k hk).2; omega)
  have o3 := own_same HO3.out fun k _ hl => b4.block k hl
  obtain ⟨q, rfl⟩ : ∃ q, A2 = some ⟨q, 0, none⟩ := by
    rcases o2.2 with ⟨_, h0⟩ | ⟨g, c, cur, hv, _⟩
    · have := HO.out.lo
      omega
    · cases hv
      exact ⟨g, rfl⟩
  refine ⟨b, q, k2, .slice A3 s.W.length k3, rfl, ⟨by omega, HH.out, o2, cells_own (w' := w) o3 z2, HO.out⟩, ?_⟩
  exact ((Below.refl w.heap.size w).drew.trans b2).trans ((b3.mono z2).trans (b4.mono (by omega)))
end Go.Proofs.Ythcjhbjhghfhjaa.Dsk
