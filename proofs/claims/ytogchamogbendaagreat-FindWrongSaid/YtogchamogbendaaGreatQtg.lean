import Derived.Deep.RegionLaw
import Derived.Deep.DeepCutAuto
import Derived.OrdersIn
import Derived.RegionIn
import Derived.Test.YtogchamogbendaaGreatQta
set_option maxRecDepth 100000
set_option linter.unusedVariables false
set_option linter.unusedSimpArgs false
namespace Go.Proofs.YtogchamogbendaaGreat.Inv
open Go.RowKit
section
variable {P:Program} {md:Region.Mode} {ops:Array Oper} {Q:Exit→Act→World→Prop}
def mark (b:Nat→Bool) (i:Nat):Nat→Bool:=fun j=>j==i||b j
def Step (P:Program) (md:Region.Mode) (ops:Array Oper) (Q:Exit→Act→World→Prop) (J:(Nat→Bool)→Act→World→Prop) (i:Nat) (o:Oper):Prop :=
 ∀(b:Nat→Bool) (a:Act) (w:World),b i=false→(o.after.all fun e => !Region.binds md e||b e.on)=true→J b a w → ∀K:Act→World→Prop,(∀a w,J (mark b i) a w→K a w) →
  if Region.wanted o (yielded ops a.tmps)=true then Oper.wp P o a w K Q else K (a.put o.dst undef) w
def Steps (S:Nat→Oper→Prop):Nat→List Oper→Prop
 | _,[]=>True
 | k,o :: l=>S k o∧Steps S (k+1) l
theorem Steps.get {S:Nat→Oper→Prop} {k:Nat} {l:List Oper} (h:Steps S k l) {j:Nat} {o:Oper} (ho:l[j]?=some o):S (k+j) o:=by
 induction l generalizing k j with
 | nil=>simp at ho
 | cons x l ih =>
  cases j with
  | zero=>simp at ho; subst ho; exact h.1
  | succ j =>
   have:=ih h.2 (by simpa using ho)
   rwa [show k+(j+1)=k+1+j by omega]
def backB:Nat→List Oper→Bool
 | _,[]=>true
 | k,o :: l=>(o.after.all fun e=>decide (e.on<k))&&backB (k+1) l
theorem backB_get {k:Nat} {l:List Oper} (h:backB k l=true) {j:Nat} {o:Oper} (ho:l[j]?=some o):(o.after.all fun e=>decide (e.on<k+j))=true:=by
 induction l generalizing k j with
 | nil=>simp at ho
 | cons x l ih =>
  simp only [backB,Bool.and_eq_true] at h
  cases j with
  | zero=>simp at ho; subst ho; exact h.1
  | succ j =>
   have:=ih h.2 (by simpa using ho)
   rwa [show k+(j+1)=k+1+j by omega]
def seen (listed:Array Bool):Nat→Bool:=fun i=>listed.getD i true
theorem seen_set (listed:Array Bool) (i:Nat) (h:i<listed.size):seen (listed.setIfInBounds i true)=mark (seen listed) i:=by
 funext j
 unfold seen mark
 by_cases e:j=i
 ·subst e; simp [h]
 ·have e' : ¬i=j:=fun q=>e q.symm
  have:(j==i)=false:=by simp [e]
  simp [this,Array.getElem?_setIfInBounds_ne e']
theorem ready_nil {listed:Array Bool} (hs:listed.size=ops.size) (hb:backB 0 ops.toList=true) (hr:Region.ready md ops listed = []) : ∀i,seen listed i=true:=by
 intro i
 induction i using Nat.strongRecOn with
 | _ i ih =>
  by_cases hi:i<ops.size
  ·unfold Region.ready at hr
   rw [List.filter_eq_nil_iff] at hr
   have h1:=hr i (by simpa using hi)
   have ho:ops[i]?=some ops[i]:=by simp [hi]
   have hall:(ops[i].after.all fun e => !Region.binds md e||listed.getD e.on false)=true:=by
    have hback:=backB_get hb (j:=i) (o:=ops[i]) (by simp [hi])
    rw [Array.all_eq_true_iff_forall_mem] at hback ⊢
    intro e he
    have hlt:e.on<i:=by simpa using hback e he
    have:=ih e.on hlt
    unfold seen at this
    have hsz:e.on<listed.size:=by omega
    simp [hsz] at this ⊢
    exact .inr this
   rw [ho] at h1
   simp only [Option.map_some,Option.getD_some,hall,Bool.and_true,Bool.not_eq_true'] at h1
   unfold seen
   cases hx:listed.getD i true with
   | true=>rfl
   | false=>simp [hx] at h1
  ·unfold seen
   have : ¬i<listed.size:=by omega
   simp [this]
theorem wpAny_inv (J:(Nat→Bool)→Act→World→Prop) (hb:backB 0 ops.toList=true) (hstep:Steps (Step P md ops Q J) 0 ops.toList)
  (hdone : ∀b a w,(∀i,b i=true)→J b a w→Q .normal a w) : ∀(fuel:Nat) (listed:Array Bool) (a:Act) (w:World),listed.size=ops.size→(listed.toList.filter fun x => !x).length≤fuel→J (seen listed) a w→wpAny P md ops Q fuel listed a w:=by
 intro fuel
 induction fuel with
 | zero =>
  intro listed a w hs hf hJ
  have hall : ∀i,seen listed i=true:=by
   intro i
   unfold seen
   by_cases hi:i<listed.size
   ·have h0:(listed.toList.filter fun x => !x) = []:=List.eq_nil_of_length_eq_zero (by omega)
    rw [List.filter_eq_nil_iff] at h0
    have:=h0 listed[i] (by simp)
    simp [hi]
    simpa using this
   ·simp [hi]
  refine ⟨?_,hdone _ _ _ hall hJ⟩
  unfold Region.ready
  rw [List.filter_eq_nil_iff]
  intro i _
  have:=hall i
  unfold seen at this
  simp [this]
 | succ fuel ih =>
  intro listed a w hs hf hJ
  refine ⟨fun hr=>hdone _ _ _ (ready_nil hs hb hr) hJ,fun i hi => ?_⟩
  unfold Region.ready at hi
  rw [List.mem_filter] at hi
  obtain ⟨hi1,hi2⟩:=hi
  have hi1:i<ops.size:=by simpa using hi1
  have ho:ops[i]?=some ops[i]:=by simp [hi1]
  rw [ho] at hi2
  simp only [Option.map_some,Option.getD_some,Bool.and_eq_true] at hi2
  refine wpOp_step ho fun K hK => ?_
  have hS:=hstep.get (j:=i) (o:=ops[i]) (by simp [hi1])
  rw [Nat.zero_add] at hS
  have hsi:i<listed.size:=by omega
  have hfalse:seen listed i=false:=by unfold seen; simpa using hi2.1
  refine hS (seen listed) a w hfalse ?_ hJ K fun a' w' hJ'=>hK a' w' (ih _ _ _ (by simp [hs]) ?_ (by rw [seen_set listed i hsi]; exact hJ'))
  ·have h3:=hi2.2
   have hback:=backB_get hb (j:=i) (o:=ops[i]) (by simp [hi1])
   rw [Array.all_eq_true_iff_forall_mem] at h3 hback ⊢
   intro e he
   have h4:=h3 e he
   have hlt:e.on<0+i:=by simpa using hback e he
   have hsz:e.on<listed.size:=by omega
   unfold seen
   simp [hsz] at h4 ⊢
   exact h4
  ·have hx:listed[i]=false:=by unfold seen at hfalse; simpa [hsi] using hfalse
   have e1:listed.toList=listed.toList.take i++false :: listed.toList.drop (i+1):=by
    have:=Oct.get_split listed.toList i (by simpa using hsi)
    simpa [hx] using this
   have e2:(listed.setIfInBounds i true).toList=listed.toList.take i++true :: listed.toList.drop (i+1):=by
    rw [Array.toList_setIfInBounds,Oct.set_split _ _ (by simpa using hsi)]
   rw [e2,List.filter_append,List.length_append]
   rw [e1,List.filter_append,List.length_append] at hf
   simp at hf ⊢
   omega
theorem wp_region_inv {id:Nat} {a:Act} {w:World} (J:(Nat→Bool)→Act→World→Prop) (hm:P.follows .mixedOrders=true) (hb:backB 0 ops.toList=true)
  (h0 : ∀b:Nat→Bool,(∀i,i<ops.size→b i=false)→J b a w.drew) (hstep:Steps (Step P .any ops Q J) 0 ops.toList)
  (hdone : ∀b a w,(∀i,b i=true)→J b a w→Q .normal a w):(Code.region id ops true).wp P Q a w:=by
 refine wp_region_any hm (wpAny_inv J hb hstep hdone _ _ _ _ (by simp) ?_ (h0 _ fun i hi => ?_))
 ·simp
 ·unfold seen; simp [hi]
end
end Go.Proofs.YtogchamogbendaaGreat.Inv
namespace Go.Proofs.YtogchamogbendaaGreat.Inv2
open Go.RowKit
section
variable {P:Program} {md:Region.Mode} {ops:Array Oper} {Q:Exit→Act→World→Prop}
def backB (md:Region.Mode):Nat→List Oper→Bool
 | _,[]=>true
 | k,o :: l=>(o.after.all fun e => !Region.binds md e||decide (e.on<k))&&backB md (k+1) l
theorem backB_get {md:Region.Mode} {k:Nat} {l:List Oper} (h:backB md k l=true) {j:Nat} {o:Oper} (ho:l[j]?=some o):(o.after.all fun e => !Region.binds md e||decide (e.on<k+j))=true:=by
 induction l generalizing k j with
 | nil=>simp at ho
 | cons x l ih =>
  simp only [backB,Bool.and_eq_true] at h
  cases j with
  | zero=>simp at ho; subst ho; exact h.1
  | succ j =>
   have:=ih h.2 (by simpa using ho)
   rwa [show k+(j+1)=k+1+j by omega]
theorem ready_nil {listed:Array Bool} (hs:listed.size=ops.size) (hb:backB md 0 ops.toList=true) (hr:Region.ready md ops listed = []) : ∀i,Inv.seen listed i=true:=by
 intro i
 induction i using Nat.strongRecOn with
 | _ i ih =>
  by_cases hi:i<ops.size
  ·unfold Region.ready at hr
   rw [List.filter_eq_nil_iff] at hr
   have h1:=hr i (by simpa using hi)
   have ho:ops[i]?=some ops[i]:=by simp [hi]
   have hall:(ops[i].after.all fun e => !Region.binds md e||listed.getD e.on false)=true:=by
    have hback:=backB_get hb (j:=i) (o:=ops[i]) (by simp [hi])
    rw [Array.all_eq_true_iff_forall_mem] at hback ⊢
    intro e he
    have hb1:=hback e he
    cases hbd:Region.binds md e with
    | false=>simp
    | true =>
     have hlt:e.on<i:=by simpa [hbd] using hb1
     have:=ih e.on hlt
     unfold Inv.seen at this
     have hsz:e.on<listed.size:=by omega
     simp [hsz] at this ⊢
     exact this
   rw [ho] at h1
   simp only [Option.map_some,Option.getD_some,hall,Bool.and_true,Bool.not_eq_true'] at h1
   unfold Inv.seen
   cases hx:listed.getD i true with
   | true=>rfl
   | false=>simp [hx] at h1
  ·unfold Inv.seen
   have : ¬i<listed.size:=by omega
   simp [this]
theorem wpAny_inv (J:(Nat→Bool)→Act→World→Prop) (hb:backB md 0 ops.toList=true) (hstep:Inv.Steps (Inv.Step P md ops Q J) 0 ops.toList)
  (hdone : ∀b a w,(∀i,b i=true)→J b a w→Q .normal a w) : ∀(fuel:Nat) (listed:Array Bool) (a:Act) (w:World),listed.size=ops.size→(listed.toList.filter fun x => !x).length≤fuel→J (Inv.seen listed) a w→wpAny P md ops Q fuel listed a w:=by
 intro fuel
 induction fuel with
 | zero =>
  intro listed a w hs hf hJ
  have hall : ∀i,Inv.seen listed i=true:=by
   intro i
   unfold Inv.seen
   by_cases hi:i<listed.size
   ·have h0:(listed.toList.filter fun x => !x) = []:=List.eq_nil_of_length_eq_zero (by omega)
    rw [List.filter_eq_nil_iff] at h0
    have:=h0 listed[i] (by simp)
    simp [hi]
    simpa using this
   ·simp [hi]
  refine ⟨?_,hdone _ _ _ hall hJ⟩
  unfold Region.ready
  rw [List.filter_eq_nil_iff]
  intro i _
  have:=hall i
  unfold Inv.seen at this
  simp [this]
 | succ fuel ih =>
  intro listed a w hs hf hJ
  refine ⟨fun hr=>hdone _ _ _ (ready_nil hs hb hr) hJ,fun i hi => ?_⟩
  unfold Region.ready at hi
  rw [List.mem_filter] at hi
  obtain ⟨hi1,hi2⟩:=hi
  have hi1:i<ops.size:=by simpa using hi1
  have ho:ops[i]?=some ops[i]:=by simp [hi1]
  rw [ho] at hi2
  simp only [Option.map_some,Option.getD_some,Bool.and_eq_true] at hi2
  refine wpOp_step ho fun K hK => ?_
  have hS:=hstep.get (j:=i) (o:=ops[i]) (by simp [hi1])
  rw [Nat.zero_add] at hS
  have hsi:i<listed.size:=by omega
  have hfalse:Inv.seen listed i=false:=by unfold Inv.seen; simpa using hi2.1
  refine hS (Inv.seen listed) a w hfalse ?_ hJ K fun a' w' hJ'=>hK a' w' (ih _ _ _ (by simp [hs]) ?_ (by rw [Inv.seen_set listed i hsi]; exact hJ'))
  ·have h3:=hi2.2
   have hback:=backB_get hb (j:=i) (o:=ops[i]) (by simp [hi1])
   rw [Array.all_eq_true_iff_forall_mem] at h3 hback ⊢
   intro e he
   have h4:=h3 e he
   have hb1:=hback e he
   cases hbd:Region.binds md e with
   | false=>simp
   | true =>
    have hlt:e.on<0+i:=by simpa [hbd] using hb1
    have hsz:e.on<listed.size:=by omega
    unfold Inv.seen
    simp [hsz,hbd] at h4 ⊢
    exact h4
  ·have hx:listed[i]=false:=by unfold Inv.seen at hfalse; simpa [hsi] using hfalse
   have e1:listed.toList=listed.toList.take i++false :: listed.toList.drop (i+1):=by
    have:=Oct.get_split listed.toList i (by simpa using hsi)
    simpa [hx] using this
   have e2:(listed.setIfInBounds i true).toList=listed.toList.take i++true :: listed.toList.drop (i+1):=by
    rw [Array.toList_setIfInBounds,Oct.set_split _ _ (by simpa using hsi)]
   rw [e2,List.filter_append,List.length_append]
   rw [e1,List.filter_append,List.length_append] at hf
   simp at hf ⊢
   omega
theorem wp_region_inv {id:Nat} {a:Act} {w:World} (J:(Nat→Bool)→Act→World→Prop) (hm:P.follows .mixedOrders=true) (hb:backB .any 0 ops.toList=true)
  (h0 : ∀b:Nat→Bool,(∀i,i<ops.size→b i=false)→J b a w.drew) (hstep:Inv.Steps (Inv.Step P .any ops Q J) 0 ops.toList)
  (hdone : ∀b a w,(∀i,b i=true)→J b a w→Q .normal a w):(Code.region id ops true).wp P Q a w:=by
 refine wp_region_any hm (wpAny_inv J hb hstep hdone _ _ _ _ (by simp) ?_ (h0 _ fun i hi => ?_))
 ·simp
 ·unfold Inv.seen; simp [hi]
end
end Go.Proofs.YtogchamogbendaaGreat.Inv2
namespace Go.Proofs.YtogchamogbendaaGreat.InvIn
open Go.RowKit
section
variable {F:Fence} {n:Nat} {P:Program} {md:Region.Mode} {ops:Array Oper} {Q:Exit→Act→World→Prop}
def Step (F:Fence) (n:Nat) (P:Program) (md:Region.Mode) (ops:Array Oper) (Q:Exit→Act→World→Prop) (J:(Nat→Bool)→Act→World→Prop) (i:Nat) (o:Oper):Prop :=
 ∀(b:Nat→Bool) (a:Act) (w:World),b i=false→(o.after.all fun e => !Region.binds md e||b e.on)=true→J b a w → ∀K:Act→World→Prop,(∀a w,J (Inv.mark b i) a w→K a w) →
  if Region.wanted o (yielded ops a.tmps)=true then Oper.wpIn F n P o a w K Q else (∀f,o.about P w a.eval=some f→F.fn f)∧K (a.put o.dst undef) w
theorem wpAnyIn_inv (J:(Nat→Bool)→Act→World→Prop) (hb:Inv.backB 0 ops.toList=true) (hstep:Inv.Steps (Step F n P md ops Q J) 0 ops.toList)
  (hdone : ∀b a w,(∀i,b i=true)→J b a w→Q .normal a w) : ∀(fuel:Nat) (listed:Array Bool) (a:Act) (w:World),listed.size=ops.size→(listed.toList.filter fun x => !x).length≤fuel→J (Inv.seen listed) a w→wpAnyIn F n P md ops Q fuel listed a w:=by
 intro fuel
 induction fuel with
 | zero =>
  intro listed a w hs hf hJ
  have hall : ∀i,Inv.seen listed i=true:=by
   intro i
   unfold Inv.seen
   by_cases hi:i<listed.size
   ·have h0:(listed.toList.filter fun x => !x) = []:=List.eq_nil_of_length_eq_zero (by omega)
    rw [List.filter_eq_nil_iff] at h0
    have:=h0 listed[i] (by simp)
    simp [hi]
    simpa using this
   ·simp [hi]
  refine ⟨?_,hdone _ _ _ hall hJ⟩
  unfold Region.ready
  rw [List.filter_eq_nil_iff]
  intro i _
  have:=hall i
  unfold Inv.seen at this
  simp [this]
 | succ fuel ih =>
  intro listed a w hs hf hJ
  refine ⟨fun hr=>hdone _ _ _ (Inv.ready_nil hs hb hr) hJ,fun i hi => ?_⟩
  unfold Region.ready at hi
  rw [List.mem_filter] at hi
  obtain ⟨hi1,hi2⟩:=hi
  have hi1:i<ops.size:=by simpa using hi1
  have ho:ops[i]?=some ops[i]:=by simp [hi1]
  rw [ho] at hi2
  simp only [Option.map_some,Option.getD_some,Bool.and_eq_true] at hi2
  refine wpOpIn_step ho fun K hK => ?_
  have hS:=hstep.get (j:=i) (o:=ops[i]) (by simp [hi1])
  rw [Nat.zero_add] at hS
  have hsi:i<listed.size:=by omega
  have hfalse:Inv.seen listed i=false:=by unfold Inv.seen; simpa using hi2.1
  refine hS (Inv.seen listed) a w hfalse ?_ hJ K fun a' w' hJ'=>hK a' w' (ih _ _ _ (by simp [hs]) ?_ (by rw [Inv.seen_set listed i hsi]; exact hJ'))
  ·have h3:=hi2.2
   have hback:=Inv.backB_get hb (j:=i) (o:=ops[i]) (by simp [hi1])
   rw [Array.all_eq_true_iff_forall_mem] at h3 hback ⊢
   intro e he
   have h4:=h3 e he
   have hlt:e.on<0+i:=by simpa using hback e he
   have hsz:e.on<listed.size:=by omega
   unfold Inv.seen
   simp [hsz] at h4 ⊢
   exact h4
  ·have hx:listed[i]=false:=by unfold Inv.seen at hfalse; simpa [hsi] using hfalse
   have e1:listed.toList=listed.toList.take i++false :: listed.toList.drop (i+1):=by
    have:=Oct.get_split listed.toList i (by simpa using hsi)
    simpa [hx] using this
   have e2:(listed.setIfInBounds i true).toList=listed.toList.take i++true :: listed.toList.drop (i+1):=by
    rw [Array.toList_setIfInBounds,Oct.set_split _ _ (by simpa using hsi)]
   rw [e2,List.filter_append,List.length_append]
   rw [e1,List.filter_append,List.length_append] at hf
   simp at hf ⊢
   omega
theorem wpIn_region_inv {id:Nat} {a:Act} {w:World} (J:(Nat→Bool)→Act→World→Prop) (hm:P.follows .mixedOrders=true) (hb:Inv.backB 0 ops.toList=true)
  (h0 : ∀b:Nat→Bool,(∀i,i<ops.size→b i=false)→J b a w.drew) (hstep:Inv.Steps (Step F n P .any ops Q J) 0 ops.toList)
  (hdone : ∀b a w,(∀i,b i=true)→J b a w→Q .normal a w):(Code.region id ops true).wpIn F n P Q a w:=by
 refine wpIn_region_any hm (wpAnyIn_inv J hb hstep hdone _ _ _ _ (by simp) ?_ (h0 _ fun i hi => ?_))
 ·simp
 ·unfold Inv.seen; simp [hi]
end
end Go.Proofs.YtogchamogbendaaGreat.InvIn
