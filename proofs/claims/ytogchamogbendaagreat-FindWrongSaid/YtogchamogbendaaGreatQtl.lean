import Derived.Test.YtogchamogbendaaGreatQta
set_option maxRecDepth 100000
set_option linter.unusedVariables false
set_option linter.unusedSimpArgs false
namespace Go.Proofs.YtogchamogbendaaGreat.Sf
open Go.RowKit Oct
def HasV (w:World) (b o:Nat) (vs:List Value):Prop := ∀i (h:i<vs.length),w.cell? ⟨b,o+i,none⟩=some vs[i]
def ToldV (w:World) (a:Option Addr) (vs:List Value):Prop:=vs = [] ∨ ∃b o,a=some ⟨b,o,none⟩∧HasV w b o vs
def RowV (w:World) (g:Nat) (T:TypeId) (vs:List Value):Prop:=w.heap[g]?=some (.cells vs.toArray T (0,0))
theorem HasV.told {w:World} {b o:Nat} {vs:List Value} (h:HasV w b o vs):ToldV w (some ⟨b,o,none⟩) vs := .inr ⟨b,o,rfl,h⟩
theorem HasV.below {w w':World} {b o B:Nat} {vs:List Value} (h:HasV w b o vs) (hb:b<B) (k:Below B w w'):HasV w' b o vs:=fun i hi=>(k.cell hb).trans (h i hi)
theorem HasV.lt {w:World} {b o:Nat} {vs:List Value} (h:HasV w b o vs) (h0:0<vs.length):b<w.heap.size:=World.block_lt_of_cell? w _ (h 0 h0)
theorem HasV.cellAt {w:World} {b o i:Nat} {vs:List Value} {v:Value} (h:HasV w b o vs) (hv:vs[i]?=some v):w.cell? ⟨b,o+i,none⟩=some v:=by
 obtain ⟨hi,e⟩:=List.getElem?_eq_some_iff.1 hv
 rw [← e]
 exact h i hi
theorem ToldV.below {w w':World} {a:Option Addr} {vs:List Value} (h:ToldV w a vs) (k:Below w.heap.size w w'):ToldV w' a vs:=by
 rcases h with h | ⟨b,o,rfl,h⟩
 ·exact .inl h
 ·by_cases h0:0<vs.length
  ·exact .inr ⟨b,o,rfl,h.below (h.lt h0) k⟩
  ·exact .inl (List.eq_nil_of_length_eq_zero (by omega))
theorem ToldV.has {w:World} {a:Option Addr} {vs:List Value} (h:ToldV w a vs) (h0:0<vs.length) : ∃b o,a=some ⟨b,o,none⟩∧HasV w b o vs:=by
 rcases h with h | h
 ·subst h; simp at h0
 ·exact h
theorem RowV.has {w:World} {g:Nat} {T:TypeId} {vs:List Value} (h:RowV w g T vs):HasV w g 0 vs:=by
 intro i hi
 unfold RowV at h
 simp [World.cell?,h,hi]
theorem RowV.cellAt {w:World} {g i:Nat} {T:TypeId} {vs:List Value} {v:Value} (h:RowV w g T vs) (hv:vs[i]?=some v):w.cell? ⟨g,i,none⟩=some v:=by
 have:=h.has.cellAt hv
 rwa [Nat.zero_add] at this
theorem RowV.free {w:World} {g:Nat} {T:TypeId} {vs:List Value} (h:RowV w g T vs) (i:Nat):w.frozen? ⟨g,i,none⟩=false:=by
 unfold RowV at h
 simp [World.frozen?,h]
theorem RowV.lt {w:World} {g:Nat} {T:TypeId} {vs:List Value} (h:RowV w g T vs):g<w.heap.size:=(Array.getElem?_eq_some_iff.1 h).1
theorem RowV.still {w w':World} {g:Nat} {T:TypeId} {vs:List Value} (h:RowV w g T vs) (hs:Still w w'):RowV w' g T vs:=by
 unfold RowV at h ⊢
 rw [hs.heap,h]
theorem RowV.below {w w':World} {g B:Nat} {T:TypeId} {vs:List Value} (h:RowV w g T vs) (hg:g<B) (k:Below B w w'):RowV w' g T vs:=by
 unfold RowV at h ⊢
 rw [k.block g hg,h]
theorem RowV.block {w w':World} {g:Nat} {T:TypeId} {vs:List Value} (h:RowV w g T vs) (k:w'.heap[g]?=w.heap[g]?):RowV w' g T vs:=by
 unfold RowV at h ⊢
 rw [k,h]
theorem RowV.set {w:World} {g:Nat} {T:TypeId} {vs:List Value} (h:RowV w g T vs) (i:Nat) (v:Value):RowV (w.setCell ⟨g,i,none⟩ v) g T (vs.set i v):=by
 unfold RowV at h ⊢
 rw [heap_setCell_same w g i _ _ _ h]
 simp
theorem RowV.other {w:World} {g q i:Nat} {T:TypeId} {vs:List Value} {v:Value} (h:RowV w g T vs) (hq:g≠q):RowV (w.setCell ⟨q,i,none⟩ v) g T vs:=by
 unfold RowV at h ⊢
 rw [heap_setCell_other _ _ _ _ (by exact hq),h]
theorem alloc_rowV (w:World) (T:TypeId) (vs:List Value):RowV (w.alloc (.cells vs.toArray T)) w.heap.size T vs:=heap_alloc_new w _
abbrev Ent:=UInt64×UInt32
def okBlock (e:Ent):Prop:=1≤e.2.toNat∧e.2.toNat<4096
instance (e:Ent):Decidable (okBlock e):=by unfold okBlock; infer_instance
def Blocks (es:List Ent):Prop := ∀e∈es,okBlock e
instance (es:List Ent):Decidable (Blocks es):=by unfold Blocks; infer_instance
def lt (a b:Ent):Prop:=a.1.toNat<b.1.toNat∨(a.1.toNat=b.1.toNat∧a.2.toNat<b.2.toNat)
instance (a b:Ent):Decidable (lt a b):=by unfold lt; infer_instance
def Rises:List Ent→Prop
 | a :: b :: es=>lt a b∧Rises (b :: es)
 | _=>True
def decRises:(es:List Ent)→Decidable (Rises es)
 | [] => .isTrue trivial
 | [_] => .isTrue trivial
 | a :: b :: es=>by
  have:=decRises (b :: es)
  unfold Rises
  infer_instance
instance (es:List Ent):Decidable (Rises es):=decRises es
def AlikeTo (d:Nat) (x:UInt64) (es:List Ent):Prop := ∀e∈es,e.1.toNat/2 ^ (64-d)=x.toNat/2 ^ (64-d)
instance (d:Nat) (x:UInt64) (es:List Ent):Decidable (AlikeTo d x es):=by unfold AlikeTo; infer_instance
def Alike (d:Nat):List Ent→Prop
 | []=>True
 | e :: es=>AlikeTo d e.1 (e :: es)
instance (d:Nat) (es:List Ent):Decidable (Alike d es):=by cases es <;> unfold Alike <;> infer_instance
def Fit (d:UInt8) (nx:UInt32) (es:List Ent):Prop:=d.toNat≤64∧nx.toNat<4096∧es.length≤9∧Blocks es∧Rises es∧Alike d.toNat es
instance (d:UInt8) (nx:UInt32) (es:List Ent):Decidable (Fit d nx es):=by unfold Fit; infer_instance
theorem rises_one (es:List Ent):Rises (es.take 1):=by cases es <;> exact trivial
end Go.Proofs.YtogchamogbendaaGreat.Sf
