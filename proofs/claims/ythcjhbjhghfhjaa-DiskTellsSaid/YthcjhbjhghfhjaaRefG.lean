/- The reference's disk: Flush, whole. -/
import Derived.Test.YthcjhbjhghfhjaaRefF
namespace Go.Proofs.Ythcjhbjhghfhjaa.Dsk
open Go.RowKit Go.Proofs.Ythcjhbjhghfhjaa.Oct
set_option linter.unusedVariables false

set_option maxRecDepth 100000 in
set_option maxHeartbeats 800000 in
theorem rflush_at {w : World} {base rb : Nat} {cv wv : Value} {r : Rf} (h : RAt w base rb cv wv r) (hfew : r.came.length + r.waits.length ≤ 1000000) :
    Calls Try.prog 32 #[.pointer (some ⟨rb, 0, none⟩)] w (RDid w base rb r.doFlush) := by
  have c4 := h.c4
  have H := Lib.hid h
  by_cases hd : r.down = true
  · have HD := Lib.hid (show r.doFlush = (20, r) by simp [Rf.doFlush, hd])
    rw [hd] at c4
    clear hd h
    go_enter Try.func32, Try.ntmps32
    go_wp2
    go_ret
    rw [HD.out]
    exact ⟨rfl, ⟨_, _, H.out⟩, Turned.refl _ _ _⟩
  · have hdf : r.down = false := by simpa using hd
    by_cases hc : r.can = true
    · have HD := Lib.hid (show r.doFlush = (0, { r.spent with came := r.came ++ r.waits, waits := [] }) by simp [Rf.doFlush, hdf, hc])
      refine (rflush_ok h hfew hdf hc).mono ?_
      rintro e w' ⟨rfl, R, T⟩
      rw [HD.out]
      exact ⟨rfl, R, T⟩
    · have hcf : r.can = false := by simpa using hc
      have HC := Lib.hid hcf
      have HD := Lib.hid (show r.doFlush = (20, r.spent) by simp [Rf.doFlush, hdf, hcf])
      rw [hdf] at c4
      clear hd hc h hdf hcf
      go_enter Try.func32, Try.ntmps32
      go_wp2_with fail
      refine (rthrough_at H.out).mono ?_
      rintro e w2 ⟨rfl, R2, T2⟩
      rw [HC.out]
      have HR2 := Lib.hid R2
      have HT2 := Lib.hid T2
      clear R2 T2
      go_wp2_with fail
      go_ret
      rw [HD.out]
      exact ⟨rfl, ⟨_, _, HR2.out⟩, HT2.out⟩
end Go.Proofs.Ythcjhbjhghfhjaa.Dsk
