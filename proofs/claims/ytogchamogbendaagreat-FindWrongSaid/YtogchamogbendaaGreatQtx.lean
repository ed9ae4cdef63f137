import Derived.Test.YtogchamogbendaaGreatQts
import Derived.Test.YtogchamogbendaaGreatQtt
set_option maxRecDepth 100000
set_option linter.unusedVariables false
set_option linter.unusedSimpArgs false
namespace Go.Proofs.YtogchamogbendaaGreat.Bs
open Go.RowKit Oct Mv Tl Pk Pl Go.Maps Go.ChangeMaps
open Dsk (dT)
open Su (Sup nth scells scell psup perr pslot zero18)
section
variable {x:BS} {y:Wk}
end
theorem made_good {n:Nat} {y:Wk} (h1:16≤n) (h2:n≤400) (hr:Begun0 n y):Good (made0 n y):=by
 obtain ⟨hs,hyn,hask,hc1⟩:=sound0 h1 h2 hr
 obtain ⟨hroom,hn⟩:=made_room h1 h2 hr
 have hf:=fmtY h1 h2 hr
 have hl2:y.l2.length≤2:=by rw [hf.len2]; unfold pg; omega
 have hop:=format_opens h1 h2 hr (calm_fresh n) (lok_fresh n) rfl
 have hal:=doSteps_all (fmtSteps n y) (Dsk.fresh n) (calm_fresh n)
 have hlt32 : ∀x∈y.l2,x<4294967296:=fun x hx=>by have:=hf.lt2 x hx; omega
 have hsok:=sup0_ok (n:=n) (by omega) hl2 hlt32
 have hsfit:=sup0_fit h1 (by omega) hl2 hf.lt2
 have hs18:(sup0 n).length=18:=by simp [sup0]
 have hgen:nth (leadS (sup0 n) y.l2) 0=1:=by rw [leadS_low hs18 0 (by omega)]; rfl
 have hblk:nth (leadS (sup0 n) y.l2) 1=n:=by rw [leadS_low hs18 1 (by omega)]; rfl
 have hnd:need n+need n≤n-2:=by
  unfold need pg
  omega
 refine ⟨⟨⟨hs.ok.s,by show 2≤y.q.s.n; omega,Nat.le_refl _,.inr rfl,Nat.zero_le _⟩,rfl,hs.len1,hs.len2,hs.one,hs.ne⟩,by rw [hn]; exact h1,by rw [hn]; omega,by rw [hn]; omega,by rw [hn]; exact hal.1,hal.2.1,?_,?_,hsok,hsfit,hsok,hsfit,by rw [hn]; exact hblk,rfl,hop.pages.root,fun i bs e=>(by cases e),hop,?_⟩
 ·have hfit : ∀t∈fmtSteps n y,Stp.fit (Dsk.fresh n).n t:=fun t ht=>by
   have hlt:=fmt_ok hf h1 t ht
   cases t with
   | f=>trivial
   | w p bs =>
    refine ⟨hlt,?_⟩
    unfold fmtSteps at ht
    rcases List.mem_append.1 ht with ht | ht
    ·rcases List.mem_append.1 ht with ht | ht
     ·simp [z128] at ht
      rcases ht with ⟨_,rfl⟩ | ⟨_,rfl⟩ <;> simp
     ·rcases List.mem_append.1 ht with ht | ht
      ·unfold cntSteps at ht
       obtain ⟨i,_,e⟩:=List.mem_map.1 ht
       injection e with _ e
       rw [← e]
       exact Ix.length_idxPage _ _ (part_le _ _)
      ·unfold dirSteps at ht
       obtain ⟨i,_,e⟩:=List.mem_map.1 ht
       injection e with _ e
       rw [← e]
       exact Ix.length_idxPage _ _ (by rw [length_dirW]; omega)
    ·unfold finSteps at ht
     simp at ht
     rw [ht.2]
     exact Su.length_supPage _
  exact (says_steps (fmtSteps n y) (Dsk.fresh n) (calm_fresh n) (lok_fresh n) hfit).1
 ·show (doSteps (Dsk.fresh n) (fmtSteps n y)).W = []
  have:fmtSteps n y=([.w 0 z128,.w 1 z128,.f]++(cntSteps y.q.s y.l1 (doneL y.f1)++dirSteps y.l1 y.l2 (doneL y.f2)) ++ [.f,.w (nth (leadS (sup0 n) y.l2) 0 % 2) (Su.supPage (leadS (sup0 n) y.l2))]) ++ [.f]:=by
   unfold fmtSteps finSteps
   simp only [List.append_assoc,List.cons_append,List.nil_append]
  rw [this]
  exact steps_still _ _
 ·show (doSteps (Dsk.fresh n) (fmtSteps n y)).says (nth (leadS (sup0 n) y.l2) 0 % 2)=Su.supPage (leadS (sup0 n) y.l2)
  obtain ⟨p1,p2⟩:=hop.pick
  rw [hgen]
  show (doSteps (Dsk.fresh n) (fmtSteps n y)).says 1=_
  unfold psup at p1
  unfold perr at p2
  by_cases hl:Su.Later ((doSteps (Dsk.fresh n) (fmtSteps n y)).says 0) ((doSteps (Dsk.fresh n) (fmtSteps n y)).says 1)
  ·rw [if_pos hl] at p1
   rw [← p1]
   exact hl.1.1.2.2.2.symm
  ·rw [if_neg hl] at p1 p2
   by_cases hc:Su.Counts 0 ((doSteps (Dsk.fresh n) (fmtSteps n y)).says 0)
   ·rw [if_pos hc] at p1
    have:=hc.2
    rw [p1,hgen] at this
    exact absurd this (by decide)
   ·rw [if_neg hc] at p2
    exact absurd p2 (by decide)
end Go.Proofs.YtogchamogbendaaGreat.Bs
namespace Go.Proofs.YtogchamogbendaaGreat.Bs
open Go.RowKit Oct Mv Tl Pk Pl Go.Maps Go.ChangeMaps
open Dsk (dT)
open Su (Sup nth scells scell)
end Go.Proofs.YtogchamogbendaaGreat.Bs
namespace Go.Proofs.YtogchamogbendaaGreat.Bs
open Go.RowKit Oct Mv Tl Pk Pl Go.Maps Go.ChangeMaps
open Dsk (dT)
open Su (Sup nth scells scell zero18)
end Go.Proofs.YtogchamogbendaaGreat.Bs
