import Derived.Test.YtogchamogbendaaGreatQta
set_option maxRecDepth 100000
set_option linter.unusedVariables false
set_option linter.unusedSimpArgs false
namespace Go.Proofs.YtogchamogbendaaGreat.Mv
open Go.RowKit Oct
def HasV (w:World) (b o:Nat) (vs:List Value):Prop := ∀i (h:i<vs.length),w.cell? ⟨b,o+i,none⟩=some vs[i]
def ToldV (w:World) (a:Option Addr) (vs:List Value):Prop:=vs = [] ∨ ∃b o,a=some ⟨b,o,none⟩∧HasV w b o vs
def RowV (w:World) (g:Nat) (T:TypeId) (vs:List Value):Prop:=w.heap[g]?=some (.cells vs.toArray T (0,0))
theorem HasV.told {w:World} {b o:Nat} {vs:List Value} (h:HasV w b o vs):ToldV w (some ⟨b,o,none⟩) vs := .inr ⟨b,o,rfl,h⟩
theorem HasV.below {w w':World} {b o B:Nat} {vs:List Value} (h:HasV w b o vs) (hb:b<B) (k:Below B w w'):HasV w' b o vs:=fun i hi=>(k.cell hb).trans (h i hi)
theorem HasV.block {w w':World} {b o:Nat} {vs:List Value} (h:HasV w b o vs) (k:w'.heap[b]?=w.heap[b]?):HasV w' b o vs:=fun i hi=>(World.cell?_of_block k).trans (h i hi)
theorem HasV.lt {w:World} {b o:Nat} {vs:List Value} (h:HasV w b o vs) (h0:0<vs.length):b<w.heap.size:=World.block_lt_of_cell? w _ (h 0 h0)
theorem HasV.cellAt {w:World} {b o i:Nat} {vs:List Value} {v:Value} (h:HasV w b o vs) (hv:vs[i]?=some v):w.cell? ⟨b,o+i,none⟩=some v:=by
 obtain ⟨hi,e⟩:=List.getElem?_eq_some_iff.1 hv
 rw [← e]
 exact h i hi
theorem ToldV.below {w w':World} {a:Option Addr} {vs:List Value} (h:ToldV w a vs) (k:Below w.heap.size w w'):ToldV w' a vs:=by
 rcases h with h | ⟨b,o,rfl,h⟩
 ·exact .inl h
 ·by_cases h0:0<vs.length
  ·exact .inr ⟨b,o,rfl,h.below (h.lt h0) k⟩
  ·exact .inl (List.eq_nil_of_length_eq_zero (by omega))
theorem ToldV.has {w:World} {a:Option Addr} {vs:List Value} (h:ToldV w a vs) (h0:0<vs.length) : ∃b o,a=some ⟨b,o,none⟩∧HasV w b o vs:=by
 rcases h with h | h
 ·subst h; simp at h0
 ·exact h
theorem RowV.has {w:World} {g:Nat} {T:TypeId} {vs:List Value} (h:RowV w g T vs):HasV w g 0 vs:=by
 intro i hi
 unfold RowV at h
 simp [World.cell?,h,hi]
theorem RowV.cellAt {w:World} {g i:Nat} {T:TypeId} {vs:List Value} {v:Value} (h:RowV w g T vs) (hv:vs[i]?=some v):w.cell? ⟨g,i,none⟩=some v:=by
 have:=h.has.cellAt hv
 rwa [Nat.zero_add] at this
theorem RowV.free {w:World} {g:Nat} {T:TypeId} {vs:List Value} (h:RowV w g T vs) (i:Nat):w.frozen? ⟨g,i,none⟩=false:=by
 unfold RowV at h
 simp [World.frozen?,h]
theorem RowV.lt {w:World} {g:Nat} {T:TypeId} {vs:List Value} (h:RowV w g T vs):g<w.heap.size:=(Array.getElem?_eq_some_iff.1 h).1
theorem RowV.still {w w':World} {g:Nat} {T:TypeId} {vs:List Value} (h:RowV w g T vs) (hs:Still w w'):RowV w' g T vs:=by
 unfold RowV at h ⊢
 rw [hs.heap,h]
theorem RowV.below {w w':World} {g B:Nat} {T:TypeId} {vs:List Value} (h:RowV w g T vs) (hg:g<B) (k:Below B w w'):RowV w' g T vs:=by
 unfold RowV at h ⊢
 rw [k.block g hg,h]
theorem RowV.block {w w':World} {g:Nat} {T:TypeId} {vs:List Value} (h:RowV w g T vs) (k:w'.heap[g]?=w.heap[g]?):RowV w' g T vs:=by
 unfold RowV at h ⊢
 rw [k,h]
theorem RowV.set {w:World} {g:Nat} {T:TypeId} {vs:List Value} (h:RowV w g T vs) (i:Nat) (v:Value):RowV (w.setCell ⟨g,i,none⟩ v) g T (vs.set i v):=by
 unfold RowV at h ⊢
 rw [heap_setCell_same w g i _ _ _ h]
 simp
theorem RowV.other {w:World} {g q i:Nat} {T:TypeId} {vs:List Value} {v:Value} (h:RowV w g T vs) (hq:g≠q):RowV (w.setCell ⟨q,i,none⟩ v) g T vs:=by
 unfold RowV at h ⊢
 rw [heap_setCell_other _ _ _ _ (by exact hq),h]
theorem alloc_rowV (w:World) (T:TypeId) (vs:List Value):RowV (w.alloc (.cells vs.toArray T)) w.heap.size T vs:=heap_alloc_new w _
structure But (w w':World) (p q:Nat):Prop where
 os:w'.os=w.os
 tape:w'.tape=w.tape
 output:w'.output=w.output
 size:w.heap.size≤w'.heap.size
 block : ∀k,k<w.heap.size→k≠p→k≠q→w'.heap[k]?=w.heap[k]?
theorem But.refl (w:World) (p q:Nat):But w w p q:=⟨rfl,rfl,rfl,Nat.le_refl _,fun _ _ _ _=>rfl⟩
theorem But.trans {w w' w'':World} {p q:Nat} (h:But w w' p q) (k:But w' w'' p q):But w w'' p q :=
 ⟨k.os.trans h.os,k.tape.trans h.tape,k.output.trans h.output,Nat.le_trans h.size k.size,fun j hj hp hq=>(k.block j (Nat.lt_of_lt_of_le hj h.size) hp hq).trans (h.block j hj hp hq)⟩
theorem But.below {w w':World} {p q B:Nat} (h:But w w' p q) (hp:B≤p) (hq:B≤q) (hB:B≤w.heap.size):Below B w w' :=
 ⟨h.os,h.tape,h.output,h.size,fun k hk=>h.block k (by omega) (by omega) (by omega)⟩
theorem But.set (w:World) (p q i:Nat) (v:Value):But w (w.setCell ⟨p,i,none⟩ v) p q :=
 ⟨rfl,rfl,rfl,by simp,fun k _ hp _=>heap_setCell_other _ _ _ _ hp⟩
theorem But.grown {w w':World} {p q:Nat} (h:w.grownBy w' (some q)):But w w' p q :=
 ⟨h.os,h.tape,h.output,h.size,fun k hk _ hq=>h.block k hk (fun e=>hq (by cases e; rfl))⟩
end Go.Proofs.YtogchamogbendaaGreat.Mv
