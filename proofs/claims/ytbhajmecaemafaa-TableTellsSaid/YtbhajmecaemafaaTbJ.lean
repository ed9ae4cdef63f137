/- In whichever order pairs stand: what a table of them tells is the same. No function of the program is named. -/
import Derived.Test.YtbhajmecaemafaaTbI
namespace Go.Proofs.Ytbhajmecaemafaa.Tb
open Go.RowKit Go.Proofs.Ytbhajmecaemafaa.Oct
set_option linter.unusedVariables false

theorem newErr_good {ps : List Pr} (h : newErr ps = 0) : Good ps := by
  unfold newErr at h
  split at h
  · cases h
  · split at h
    · assumption
    · cases h
theorem seek_none {ps : List Pr} {x : List UInt8} (h : x ∉ ps.map (·.1)) : seek ps x = none := by
  rw [← Option.not_isSome_iff_eq_none, seek_some, isIn_iff]
  exact h
theorem Good.perm {ps qs : List Pr} (h : Good ps) (p : qs.Perm ps) : Good qs := ⟨fun q hq => h.len q (p.mem_iff.1 hq), ((p.map (·.1)).nodup_iff).2 h.nodup⟩
theorem seek_perm {ps qs : List Pr} (h : Good ps) (p : qs.Perm ps) (x : List UInt8) : seek qs x = seek ps x := by
  by_cases hx : x ∈ ps.map (·.1)
  · obtain ⟨q, hq, rfl⟩ := List.mem_map.1 hx
    rw [seek_mem h hq, seek_mem (h.perm p) (p.mem_iff.2 hq)]
  · rw [seek_none hx, seek_none (fun k => hx ((p.map (·.1)).mem_iff.1 k))]
theorem newErr_perm {ps qs : List Pr} (p : qs.Perm ps) : newErr qs = newErr ps := by
  unfold newErr
  rw [p.length_eq]
  have : Good qs ↔ Good ps := ⟨fun h => h.perm p.symm, fun h => h.perm p⟩
  simp only [this]
theorem pout_perm {ps qs : List Pr} (h : Good ps) (p : qs.Perm ps) (rest : UInt64) (x : List UInt8) : pout qs rest x = pout ps rest x := by
  unfold pout printOf
  rw [seek_perm h p]
theorem unlike_perm {ps qs : List Pr} (p : qs.Perm ps) (rest : UInt64) : unlike qs rest = unlike ps rest := by
  unfold unlike
  have : (rest :: qs.map (·.2)).Nodup ↔ (rest :: ps.map (·.2)).Nodup := ((p.map (·.2)).cons rest).nodup_iff
  simp only [this]
theorem tells_reverse (l : List Pair) : tells l.reverse = (tells l).reverse := by simp [tells]
theorem pout_own {ps : List Pr} (h : Good ps) {p : Pr} (hp : p ∈ ps) (rest : UInt64) : pout ps rest p.1 = (p.2, 0) := by
  unfold pout printOf
  rw [if_pos (h.len p hp), seek_mem h hp]
  rfl
end Go.Proofs.Ytbhajmecaemafaa.Tb
