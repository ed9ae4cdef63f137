import Derived.Test.YtogchamogbendaaGreatQtx
import Derived.Test.YtogchamogbendaaGreatQts
set_option maxRecDepth 100000
set_option linter.unusedVariables false
set_option linter.unusedSimpArgs false
namespace Go.Proofs.YtogchamogbendaaGreat.Bs
open Go.RowKit Oct Mv Tl Pk Pl Go.Maps Go.ChangeMaps
open Dsk (dT)
open Su (Sup nth scells scell)
def blkB (n i:Nat):UInt8:=UInt8.ofNat (n*31+i*(n % 7))
def blk (n:Nat):List UInt8:=(List.range 128).map (blkB n)
theorem res_three {fn:Func} {p q x:Tmp} (h:fn.results = #[.tmp p,.tmp q,.tmp x]) (tmps:Array Value) {w:World}:(results fn tmps).run Tryz.prog w = .ok (.tuple #[tmps.getD p undef,tmps.getD q undef,tmps.getD x undef]) w:=by
 simp [results,h,Sem.run_bind,Result.andThen]
end Go.Proofs.YtogchamogbendaaGreat.Bs
namespace Go.Proofs.YtogchamogbendaaGreat.Bs
open Go.RowKit Oct Mv Tl Pk Pl Go.Maps Go.ChangeMaps
open Dsk (dT)
open Su (Sup nth scells scell)
theorem BAt.apart {Pr:Nat→Prop} {w w':World} {A:Adr} {x:BS} (h:BAt Pr w A x) {X:Nat} {T:TypeId} {vs:List Value} (hr:RowV w X T vs) (k:ButL w w' [X]) (hT:T ≠ 72 ∧ T ≠ 34 ∧ T ≠ 235 ∧ T ≠ 3 ∧ T ≠ 5 ∧ T ≠ 246 ∧ dT T=false):BAt Pr w' A x:=by
 obtain ⟨t1,t2,t3,t4,t5,t6,t7⟩:=hT
 have hrr:w.heap[X]?=some (.cells vs.toArray T (0,0)):=hr
 obtain ⟨s1,e1,s2,e2,h1,_⟩:=h.row
 obtain ⟨es,cl,hm⟩:=h.fm.map
 obtain ⟨spc,hcb⟩:=h.pat.tally.nums
 obtain ⟨nn,D,⟨es2,cl2,ho,_⟩,_⟩:=h.pat.tally.mp
 refine h.keep k.size (fun j hj=>k.block j (h.list_lt j hj) ?_) (fun j cs t fr e ht=>k.block j (lt_of_heap e) ?_)
 ·simp only [List.mem_singleton]
  rintro rfl
  simp only [Adr.list,List.mem_cons,List.not_mem_nil,or_false] at hj
  rcases hj with e | e | e | e | e
  ·exact row_ne hr h1 t1 e
  ·exact row_ne hr hcb t2 e
  ·exact map_ne hr ho e
  ·exact row_ne hr h.pat.row t3 e
  ·exact map_ne hr hm e
 ·simp only [List.mem_singleton]
  rintro rfl
  rw [hrr] at e
  cases e
  rcases ht with e | e | e | e
  ·exact t4 e
  ·exact t5 e
  ·exact t6 e
  ·rw [t7] at e; cases e
end Go.Proofs.YtogchamogbendaaGreat.Bs
namespace Go.Proofs.YtogchamogbendaaGreat.Bs
open Go.RowKit Oct Mv Tl Pk Pl Go.Maps Go.ChangeMaps
open Dsk (dT)
open Su (Sup nth scells scell)
section
variable {Pr:Nat→Prop} {w w':World} {A:Adr} {x:BS}
theorem scells_set {s:Sup} (hs:s.length=18) (j v:Nat) (hj:j<18):(scells s).set j (scell j v)=scells (s.set j v):=by
 refine List.ext_getElem? fun i => ?_
 rw [List.getElem?_set]
 by_cases hi:i<18
 ·rw [Su.scells_at _ _ hi,Su.scells_at _ _ hi,set_nth hs j v i hj,Su.length_scells]
  by_cases e:j=i
  ·subst e; rw [if_pos rfl,if_pos hj,if_pos rfl]
  ·rw [if_neg e,if_neg (Ne.symm e)]
 ·rw [List.getElem?_eq_none (by rw [Su.length_scells]; omega),List.getElem?_eq_none (by rw [Su.length_scells]; omega),Su.length_scells]
  split
  ·exact absurd hj (by omega)
  ·rfl
end
end Go.Proofs.YtogchamogbendaaGreat.Bs
namespace Go.Proofs.YtogchamogbendaaGreat.Bs
open Go.RowKit Oct Mv Tl Pk Pl Go.Maps Go.ChangeMaps
open Dsk (dT)
open Su (Sup nth scells scell)
section
variable {Pr:Nat→Prop} {w w':World} {A:Adr} {x:BS}
end
end Go.Proofs.YtogchamogbendaaGreat.Bs
namespace Go.Proofs.YtogchamogbendaaGreat.Bs
open Go.RowKit Oct Mv Tl Pk Pl Go.Maps Go.ChangeMaps
open Dsk (dT)
open Su (Sup nth)
end Go.Proofs.YtogchamogbendaaGreat.Bs
namespace Go.Proofs.YtogchamogbendaaGreat.Bs
open Go.RowKit Oct Mv Tl Pk Pl Go.Maps Go.ChangeMaps
open Dsk (dT)
open Su (Sup nth)
section
variable {Pr:Nat→Prop} {w w':World} {A:Adr} {x:BS}
end
theorem lowb {A:Adr} {B:Nat} {w w1 w2:World} (hA : ∀k∈A.list,B≤k) (h:Below B w w1) (k:ButL w1 w2 A.list) (hB:B≤w.heap.size):Below B w w2:=h.trans (k.below hA (Nat.le_trans hB h.size))
end Go.Proofs.YtogchamogbendaaGreat.Bs
