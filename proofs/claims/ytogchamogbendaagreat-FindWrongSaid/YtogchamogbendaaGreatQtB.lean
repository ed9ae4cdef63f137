import Derived.RangeFuncBox
import Derived.RangeFuncLeaves
import Derived.RangeFuncCalls
import Derived.RangeFuncNested
import Derived.Shelf.Abstract
import Derived.Shelf.RegionOpen
import Derived.OwnWalkIn
import Derived.TacticsInMore
import Derived.LoopNIn
import Derived.LoopIn
import Derived.Maps.AppendAt
import Derived.Test.YtogchamogbendaaGreatQti
set_option maxRecDepth 100000
set_option linter.unusedVariables false
set_option linter.unusedSimpArgs false
namespace Go.Proofs.YtogchamogbendaaGreat.Bs
open Go.RowKit Oct Mv Pl
def Book (D:Nat) (A B:World):Prop:=B.heap[D]?=A.heap[D]?∧B.heap[D+1]?=A.heap[D+1]?
theorem Book.refl (D:Nat) (A:World):Book D A A:=⟨rfl,rfl⟩
def roundEnd {α:Type} (D:Nat) (Kp:World→World→Prop) (I:List α→World→Prop) (Ix:Code→List α→World→Prop) (xs:List α) (A:World):Exit→Act→World→Prop
 | .normal,_,B=>Book D A B∧Kp A B∧I xs B
 | .ret,_,B=>Book D A B∧Ix .ret xs B
 | .exit id,_,B=>Book D A B∧Ix (.exit id) xs B
 | _,_,_=>False
variable {F:Fence} {n:Nat} {P:Program}
theorem range_own {α:Type} {g:Operand} {ps:Array Tmp} {assign body:Code} {Q:Exit→Act→World→Prop} {a:Act} {w:World} (D:Nat) (hD:w.heap.size=D)
  (hro:F.round=none) (h1:1≤n) {gf:Nat} {lb:Array Value} (hg:a.eval g = .func (.func gf) #[] lb) (hFg:F.fn gf) (eg : ∀args w,(callFunc gf args).run P w = .ok (.enter gf args) w)
  {encs:α→Array Value} (hps : ∀x,(encs x).size=ps.size) (c:Nat) (hc:c<D) (Kp:World→World→Prop) (Go:List α→α→Prop) (S:List α→Prop)
  (I:List α→World→Prop) (Ix:Code→List α→World→Prop)
  (hseq : ∀(J Jx:List α→World→Prop) (W:World),ButL w W []→(∀s A,J s A→I s A∧D+1<A.heap.size)→(∀s A B,J s A→ButL A B [c]→J s B)→(∀s A B,Jx s A→ButL A B [c]→Jx s B) →
   (∀pre x A,J pre A→Go pre x→YieldAt F (n-1-1) P (D+1) (encs x) A fun e B=>(e = .returned (.bool true)∧J (pre ++ [x]) B∧Kp A B)∨(e = .returned (.bool false)∧Jx (pre ++ [x]) B)) →
   J [] W→CallsIn F (n-1) P gf (#[.func (.yield (D+1)) #[] #[]]++lb) W fun e B=>(∃v,e = .returned v)∧((∃xs,S xs∧J xs B) ∨ ∃pre,Jx pre B))
  (hI : ∀s A B,I s A→ButL A B [c]→I s B) (hIx : ∀k s A B,Ix k s A→ButL A B [c]→Ix k s B)
  (hIL : ∀s A k o,I s A→D≤k→k<D+2→D+1<A.heap.size→I s (A.putObj k o)) (hIxL : ∀q s A k o,Ix q s A→D≤k→k<D+2→D+1<A.heap.size→Ix q s (A.putObj k o))
  (hKt : ∀ {A B C:World},Kp A B→Kp B C→Kp A C) (hKL : ∀A k o,D≤k→k<D+2→D+1<A.heap.size→Kp A (A.putObj k o))
  (h0 : ∀W,ButL w W []→D+1<W.heap.size→I [] W)
  (hround : ∀pre x A,I pre A→Go pre x→D+1<A.heap.size→assign.wpIn (F.inRound (D+1)) (n-1-1) P
    (Exit.then (fun a' B=>Book D A B∧Kp A B∧D+1<B.heap.size ∧ ∀o C,C=B.putObj (D+1) o→body.wpIn (F.inRound (D+1)) (n-1-1) P (roundEnd D Kp I Ix (pre ++ [x]) C) a' C) (fun _ _ _=>False))
    { tmps:=(ps.zip (encs x)).foldl (fun t (p,v)=>t.setIfInBounds p v) a.tmps,defers := [] } A)
  (hdone : ∀xs W,S xs→I xs W→W.heap[D]?=some (.deferred (some []))→Q .normal { a with defers := { target := .collected D,args := #[] } :: a.defers } W)
  (hstop : ∀(k:Code) pre W,Ix k pre W→W.heap[D]?=some (.deferred (some []))→k.wpIn F n P Q { a with defers := { target := .collected D,args := #[] } :: a.defers } W) :
  (Code.rangeFunc g ps assign body).wpIn F n P Q a w:=by
 subst hD
 refine wpIn_rangeFunc fun fn hfn => ?_
 rw [hro]
 obtain ⟨book,hbook⟩ : ∃f:LoopState→Option Code→Loop,f=fun st pe => { state:=st,pending:=pe,fn,tmps:=a.tmps,params:=ps,assign,body,defers:=w.heap.size }:=⟨_,rfl⟩
 obtain ⟨W1,hW⟩ : ∃W,W=(w.alloc (.deferred (some []))).alloc (.loop (book .ready none)):=⟨_,rfl⟩
 have hsz:W1.heap.size=w.heap.size+2:=by rw [hW]; simp
 have hBut:ButL w W1 []:=by
  rw [hW]
  exact .of_below _ (((Below.refl w.heap.size w).alloc (Nat.le_refl _) _).alloc (by simp) _) (Nat.le_refl _)
 have hLoop:W1.heap[w.heap.size+1]?=some (.loop (book .ready none)):=by
  rw [hW]
  have:=World.alloc_heap_new (w.alloc (.deferred (some []))) (.loop (book .ready none))
  rwa [World.size_alloc] at this
 have hDef:W1.heap[w.heap.size]?=some (.deferred (some [])):=by
  rw [hW]
  exact (Below.heap_alloc _ _ _ (by simp)).trans (World.alloc_heap_new w _)
 have big : ∀ {A:World} {o:Obj},A.heap[w.heap.size+1]?=some o→w.heap.size+1<A.heap.size:=fun h=>(Array.getElem?_eq_some_iff.1 h).1
 have keep : ∀ {A B:World} {k:Nat} {o:Obj},ButL A B [c]→w.heap.size≤k→A.heap[k]?=some o→B.heap[k]?=some o:=fun h hk ho =>
  (h.block _ (Array.getElem?_eq_some_iff.1 ho).1 (by simp; omega)).trans ho
 refine ⟨w.heap.size+1,[{ target := .collected w.heap.size,args := #[] }],W1,{ target := .fn (.func gf) lb,args := #[.func (.yield (w.heap.size+1)) #[] #[]] },W1,gf,
  #[.func (.yield (w.heap.size+1)) #[] #[]]++lb,W1,by rw [hW,hbook]; exact run_enterLoop_outer _ _ _ _ _,?_,fun f' hf' => ?_,by simp [invoke,go_sem,eg],fun _=>h1,?_⟩
 ·simp only [resolve,hg]
  simp [go_sem]
 ·simp [Target.leads] at hf'
  subst hf'
  exact hFg
 refine (hseq (fun pre A=>I pre A∧A.heap[w.heap.size+1]?=some (.loop (book .ready none))∧A.heap[w.heap.size]?=some (.deferred (some [])))
  (fun pre A => ∃k,Ix k pre A∧A.heap[w.heap.size+1]?=some (.loop (book .done (some k)))∧A.heap[w.heap.size]?=some (.deferred (some [])))
  W1 hBut (fun s A h=>⟨h.1,big h.2.1⟩) (fun s A B h k=>⟨hI s A B h.1 k,keep k (by omega) h.2.1,keep k (by omega) h.2.2⟩) (fun s A B ⟨q,h1,h2,h3⟩ k=>⟨q,hIx q s A B h1 k,keep k (by omega) h2,keep k (by omega) h3⟩) ?_ ⟨h0 W1 hBut (by omega),hLoop,hDef⟩).mono ?_
 ·rintro pre x A ⟨hi,hl,hd⟩ hgo
  have hy:=run_yield (P:=P) (args:=encs x) hl (by rw [hbook]; exact hps x)
  rw [hbook] at hy
  refine ⟨fn,_,assign,body,hy,roundIn_of_wpIn hfn (wpIn_mono (hround pre x A hi hgo (big hl)) ?_)⟩
  intro e a' B hq
  cases e with
  | normal =>
   obtain ⟨hb,hk,hB,hbd⟩:=hq
   have hl2:=hb.2.trans hl
   have hd2:=hb.1.trans hd
   refine ⟨_,run_beginRound hl2 (by rw [hbook]),wpIn_mono (hbd _ _ rfl) ?_⟩
   have hl3:(B.putObj (w.heap.size+1) (.loop { book .ready none with state := .busy })).heap[w.heap.size+1]?=some (.loop { book .ready none with state := .busy }):=World.putObj_heap_same hB
   have hd3:(B.putObj (w.heap.size+1) (.loop { book .ready none with state := .busy })).heap[w.heap.size]?=some (.deferred (some [])):=(World.putObj_heap_other (by omega)).trans hd2
   have fin : ∀(j:Option Code) (C:World),Book w.heap.size (B.putObj (w.heap.size+1) (.loop { book .ready none with state := .busy })) C →
     (Instr.endRound (w.heap.size+1) j).run P C = .ok (.bool j.isNone) (C.putObj (w.heap.size+1) (.loop (book (if j.isNone then .ready else .done) j)))∧w.heap.size+1<C.heap.size ∧
     (C.putObj (w.heap.size+1) (.loop (book (if j.isNone then .ready else .done) j))).heap[w.heap.size+1]?=some (.loop (book (if j.isNone then .ready else .done) j)) ∧
     (C.putObj (w.heap.size+1) (.loop (book (if j.isNone then .ready else .done) j))).heap[w.heap.size]?=some (.deferred (some [])):=fun j C hk=>by
    have hl4:=hk.2.trans hl3
    have:=run_endRound (P:=P) j hl4
    rw [hbook] at this ⊢
    exact ⟨this,(Array.getElem?_eq_some_iff.1 hl4).1,World.putObj_heap_same (Array.getElem?_eq_some_iff.1 hl4).1,(World.putObj_heap_other (by omega)).trans (hk.1.trans hd3)⟩
   intro e2 a2 C hp
   cases e2 with
   | normal =>
    obtain ⟨p1,p2,p3⟩:=hp
    obtain ⟨q1,q2,q3,q4⟩:=fin none C p1
    exact ⟨_,_,q1,.inl ⟨rfl,⟨hIL _ _ _ _ p3 (by omega) (by omega) q2,q3,q4⟩,hKt hk (hKt (hKL _ _ _ (by omega) (by omega) hB) (hKt p2 (hKL _ _ _ (by omega) (by omega) q2)))⟩⟩
   | ret =>
    obtain ⟨p1,p3⟩:=hp
    obtain ⟨q1,q2,q3,q4⟩:=fin (some .ret) C p1
    exact ⟨_,_,q1,.inr ⟨rfl,.ret,hIxL _ _ _ _ _ p3 (by omega) (by omega) q2,q3,q4⟩⟩
   | exit id =>
    obtain ⟨p1,p3⟩:=hp
    obtain ⟨q1,q2,q3,q4⟩:=fin (some (.exit id)) C p1
    exact ⟨_,_,q1,.inr ⟨rfl,.exit id,hIxL _ _ _ _ _ p3 (by omega) (by omega) q2,q3,q4⟩⟩
   | goto t=>exact hp.elim
   | panic q=>exact hp.elim
   | outgrown=>exact hp.elim
  | ret=>exact hq.elim
  | exit id=>exact hq.elim
  | goto t=>exact hq.elim
  | panic q=>exact hq.elim
  | outgrown=>exact hq.elim
 ·rintro e W2 ⟨⟨v,rfl⟩,(⟨xs,hS,hi,hl,hd⟩ | ⟨pre,k,hi,hl,hd⟩)⟩
  ·exact ⟨none,_,by have:=run_endLoop (P:=P) hl (by rw [hbook]; simp); rw [hbook] at this; exact this,hdone xs _ hS (hIL _ _ _ _ hi (by omega) (by omega) (big hl)) ((World.putObj_heap_other (by omega)).trans hd)⟩
  ·exact ⟨some k,_,by have:=run_endLoop (P:=P) hl (by rw [hbook]; simp); rw [hbook] at this; exact this,hstop k pre _ (hIxL _ _ _ _ _ hi (by omega) (by omega) (big hl)) ((World.putObj_heap_other (by omega)).trans hd)⟩
end Go.Proofs.YtogchamogbendaaGreat.Bs
