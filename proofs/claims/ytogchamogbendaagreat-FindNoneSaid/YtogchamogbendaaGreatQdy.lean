import Derived.Test.YtogchamogbendaaGreatQdx
import Derived.Test.YtogchamogbendaaGreatQds
set_option maxRecDepth 100000
set_option linter.unusedVariables false
set_option linter.unusedSimpArgs false
namespace Go.Proofs.YtogchamogbendaaGreat.Bs
open Go.RowKit Oct Mv Tl Pk Pl Go.Maps Go.ChangeMaps
open Dsk (dT)
open Su (Sup nth scells scell)
def blkB (n i : Nat) : UInt8 := UInt8.ofNat (n * 31 + i * (n % 7))
def blk (n : Nat) : List UInt8 := (List.range 128).map (blkB n)
theorem res_three {fn : Func} {p q x : Tmp} (h : fn.results = #[.tmp p, .tmp q, .tmp x]) (tmps : Array Value) {w : World} : (results fn tmps).run Tryz.prog w = .ok (.tuple #[tmps.getD p undef, tmps.getD q undef, tmps.getD x undef]) w := by
 simp [results, h, Sem.run_bind, Result.andThen]
end Go.Proofs.YtogchamogbendaaGreat.Bs
namespace Go.Proofs.YtogchamogbendaaGreat.Bs
open Go.RowKit Oct Mv Tl Pk Pl Go.Maps Go.ChangeMaps
open Dsk (dT)
open Su (Sup nth scells scell)
end Go.Proofs.YtogchamogbendaaGreat.Bs
namespace Go.Proofs.YtogchamogbendaaGreat.Bs
open Go.RowKit Oct Mv Tl Pk Pl Go.Maps Go.ChangeMaps
open Dsk (dT)
open Su (Sup nth scells scell)
section
variable {Pr : Nat → Prop} {w w' : World} {A : Adr} {x : BS}
theorem scells_set {s : Sup} (hs : s.length = 18) (j v : Nat) (hj : j < 18) : (scells s).set j (scell j v) = scells (s.set j v) := by
 refine List.ext_getElem? fun i => ?_
 rw [List.getElem?_set]
 by_cases hi : i < 18
 ·rw [Su.scells_at _ _ hi, Su.scells_at _ _ hi, set_nth hs j v i hj, Su.length_scells]
  by_cases e : j = i
  ·subst e; rw [if_pos rfl, if_pos hj, if_pos rfl]
  ·rw [if_neg e, if_neg (Ne.symm e)]
 ·rw [List.getElem?_eq_none (by rw [Su.length_scells]; omega), List.getElem?_eq_none (by rw [Su.length_scells]; omega), Su.length_scells]
  split
  ·exact absurd hj (by omega)
  ·rfl
end
end Go.Proofs.YtogchamogbendaaGreat.Bs
namespace Go.Proofs.YtogchamogbendaaGreat.Bs
open Go.RowKit Oct Mv Tl Pk Pl Go.Maps Go.ChangeMaps
open Dsk (dT)
open Su (Sup nth scells scell)
section
variable {Pr : Nat → Prop} {w w' : World} {A : Adr} {x : BS}
end
end Go.Proofs.YtogchamogbendaaGreat.Bs
namespace Go.Proofs.YtogchamogbendaaGreat.Bs
open Go.RowKit Oct Mv Tl Pk Pl Go.Maps Go.ChangeMaps
open Dsk (dT)
open Su (Sup nth)
end Go.Proofs.YtogchamogbendaaGreat.Bs
namespace Go.Proofs.YtogchamogbendaaGreat.Bs
open Go.RowKit Oct Mv Tl Pk Pl Go.Maps Go.ChangeMaps
open Dsk (dT)
open Su (Sup nth)
section
variable {Pr : Nat → Prop} {w w' : World} {A : Adr} {x : BS}
end
theorem lowb {A : Adr} {B : Nat} {w w1 w2 : World} (hA : ∀ k ∈ A.list, B ≤ k) (h : Below B w w1) (k : ButL w1 w2 A.list) (hB : B ≤ w.heap.size) : Below B w w2 := h.trans (k.below hA (Nat.le_trans hB h.size))
end Go.Proofs.YtogchamogbendaaGreat.Bs
namespace Go.Proofs.YtogchamogbendaaGreat.Bs
open Go.RowKit Oct Mv Tl Pk Pl Go.Maps Go.ChangeMaps
open Dsk (dT)
open Su (Sup nth)
def zero44 : List Value := [.pointer none, .pointer none, .pointer none, .slice none 0 0, .slice none 0 0, (.int .u64 0), (.int .u32 0), (.int .u32 0), (.int .u32 0), (.int .u32 0), (.int .u32 0), (.int .u32 0), (.int .u32 0), (.int .u32 0), (.int .u32 0), (.int .u64 0), (.int .u64 0), (.int .u64 0), (.int .u64 0), (.int .u64 0), (.int .u64 0), (.int .u64 0), (.int .u64 0), (.int .u64 0), (.int .u32 0), (.int .u32 0), (.int .u32 0), (.int .u32 0), (.int .u32 0), (.int .u32 0), (.int .u32 0), (.int .u32 0), (.int .u32 0), (.int .u64 0), (.int .u64 0), (.int .u64 0), (.int .u64 0), (.int .u64 0), (.int .u64 0), (.int .u64 0), (.int .u64 0), .map none, .bool false, .pointer none]
end Go.Proofs.YtogchamogbendaaGreat.Bs
