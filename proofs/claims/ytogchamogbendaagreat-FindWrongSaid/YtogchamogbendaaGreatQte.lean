import Derived.Maps.OwnSet
import Derived.Maps.RangeWalk
import Derived.Lib.SlKeysI
import Derived.Laws.ResultCell
import Derived.Deep.WholeRow
import Derived.Deep.DeepCutAuto
import Derived.LaidEqlPtr
import Derived.StillTailTactics
import Derived.Lib.MinMax
import Derived.Deep.Slices
import Derived.Test.YtogchamogbendaaGreatQtd
import Derived.Test.YtogchamogbendaaGreatQtf
import Derived.Test.YtogchamogbendaaGreatQtg
set_option maxRecDepth 100000
set_option linter.unusedVariables false
set_option linter.unusedSimpArgs false
namespace Go.Proofs.YtogchamogbendaaGreat.Tl
open Go.RowKit Oct Mv Go.Maps
def num (c:UInt16):Value := .int .u16 (c.toNat:Int)
def nums (l:List UInt16):List Value:=l.map num
theorem length_nums (l:List UInt16):(nums l).length=l.length:=by simp [nums]
theorem nums_at (l:List UInt16) (i:Nat) (h:i<l.length):(nums l)[i]?=some (num (l.getD i 0)):=by simp [nums,h]
theorem nums_set (l:List UInt16) (i:Nat) (c:UInt16):nums (l.set i c)=(nums l).set i (num c):=by simp [nums,List.map_set]
theorem u16_lt (c:UInt16):c.toNat<65536:=c.toNat_lt
theorem num_wf (c:UInt16):(Lit.int .u16 (c.toNat:Int)).wf=true:=by
 have:=u16_lt c
 have h:IntKind.u16.min≤(c.toNat:Int)∧(c.toNat:Int)≤IntKind.u16.max:=by
  refine ⟨?_,?_⟩
  ·show (0:Int)≤_
   omega
  ·show _≤(65535:Int)
   omega
 simpa [Lit.wf] using h
structure St where
 now:List UInt16
 kept:List UInt16
def St.n (s:St):Nat:=s.now.length
def St.cnt (s:St) (i:Nat):UInt16:=s.now.getD i 0
def St.was (s:St) (i:Nat):UInt16:=s.kept.getD i 0
def St.moved (s:St) (i:Nat):Bool:=s.cnt i != s.was i
def St.free (s:St) (i:Nat):Bool:=s.cnt i==0&&s.was i==0
def St.keep (s:St):St:=⟨s.now,s.now⟩
def St.put (s:St) (i:Nat) (c:UInt16):St:=⟨s.now.set i c,s.kept⟩
def St.changed (s:St):List Nat:=(List.range s.n).filter s.moved
def St.new (n:Nat):St:=⟨List.replicate n 0,List.replicate n 0⟩
def St.of (l:List UInt16):St:=⟨l,l⟩
structure St.Ok (s:St):Prop where
 len:s.kept.length=s.now.length
 lo:1≤s.now.length
 hi:s.now.length≤4096
theorem moved_lt {s:St} (h:s.Ok) {i:Nat} (hm:s.moved i=true):i<s.n:=by
 unfold St.n
 rcases Nat.lt_or_ge i s.now.length with h1 | h1
 ·exact h1
 ·have hl:=h.len
  unfold St.moved St.cnt St.was at hm
  simp only [List.getD_eq_getElem?_getD] at hm
  rw [List.getElem?_eq_none h1,List.getElem?_eq_none (by omega)] at hm
  simp at hm
theorem cnt_put {s:St} {i:Nat} {c:UInt16} (hi:i<s.n) (j:Nat):(s.put i c).cnt j=if j=i then c else s.cnt j:=by
 unfold St.n at hi
 unfold St.put St.cnt
 simp only [List.getD_eq_getElem?_getD,List.getElem?_set]
 by_cases e:j=i
 ·subst e
  simp [hi]
 ·rw [if_neg (Ne.symm e),if_neg e]
theorem was_put (s:St) (i:Nat) (c:UInt16) (j:Nat):(s.put i c).was j=s.was j:=rfl
theorem n_put (s:St) (i:Nat) (c:UInt16):(s.put i c).n=s.n:=by simp [St.n,St.put]
theorem St.Ok.put {s:St} (h:s.Ok) (i:Nat) (c:UInt16):(s.put i c).Ok:=⟨by simpa [St.put] using h.len,by simpa [St.put] using h.lo,by simpa [St.put] using h.hi⟩
theorem St.Ok.keep {s:St} (h:s.Ok):s.keep.Ok:=⟨rfl,h.lo,h.hi⟩
theorem St.Ok.new {n:Nat} (h1:1≤n) (h2:n≤4096):(St.new n).Ok:=⟨by simp [St.new],by simpa [St.new] using h1,by simpa [St.new] using h2⟩
theorem St.Ok.of {l:List UInt16} (h1:1≤l.length) (h2:l.length≤4096):(St.of l).Ok:=⟨rfl,h1,h2⟩
theorem moved_same (l:List UInt16) (i:Nat):(St.mk l l).moved i=false:=by simp [St.moved,St.cnt,St.was]
def key (i:Nat):Lit := .int .i64 (i:Int)
def dat (c:UInt16):DataW Unit := .lit (.int .u16 (c.toNat:Int))
theorem key_inj {i j:Nat} (h:key i=key j):i=j:=by
 simp only [key,Lit.int.injEq,true_and] at h
 omega
theorem key_lit (i:Nat):WideAt.IsKeyLit (key i):=trivial
structure Says (D:DataW Unit) (s:St):Prop where
 has : ∀k,Maps.has D k=true ↔ ∃i,k=key i∧s.moved i=true
 at' : ∀i z,s.moved i=true→D.atKey (key i) z=dat (s.was i)
theorem Says.hasKey {D:DataW Unit} {s:St} (h:Says D s) (i:Nat):Maps.has D (key i)=s.moved i:=by
 cases hm:s.moved i
 ·cases hh:Maps.has D (key i)
  ·rfl
  ·obtain ⟨j,e,hj⟩:=(h.has _).1 hh
   rw [key_inj e,hj] at hm
   cases hm
 ·exact (h.has _).2 ⟨i,rfl,hm⟩
theorem says_none (l:List UInt16):Says (.map []) ⟨l,l⟩ :=
 ⟨fun k=>⟨fun h=>(by cases h),fun ⟨i,_,h⟩=>by rw [moved_same] at h; cases h⟩,fun i z h=>by rw [moved_same] at h; cases h⟩
theorem moved_put {s:St} {i:Nat} {c:UInt16} (hi:i<s.n) (j:Nat):(s.put i c).moved j=if j=i then c != s.was i else s.moved j:=by
 unfold St.moved
 rw [cnt_put hi,was_put]
 by_cases e:j=i
 ·subst e; simp
 ·simp [e]
theorem Says.old {D:DataW Unit} {s:St} (h:Says D s) {i:Nat} {c:UInt16} (hi:i<s.n) (hm:s.moved i=true) (hc:c≠s.was i):Says D (s.put i c):=by
 have key : ∀j,(s.put i c).moved j=s.moved j:=fun j=>by
  rw [moved_put hi]
  by_cases e:j=i
  ·subst e; simp [hm,hc]
  ·rw [if_neg e]
 exact ⟨fun k=>by simp only [key]; exact h.has k,fun j z hj=>by rw [key] at hj; exact h.at' j z hj⟩
theorem Says.put {D:DataW Unit} {s:St} (h:Says D s) (hD:IsMap D) {i:Nat} {c:UInt16} (hi:i<s.n) (hm:s.moved i=false) (hc:c≠s.was i):Says (D.put (key i) (dat (s.was i))) (s.put i c):=by
 refine ⟨fun k => ?_,fun j z hj => ?_⟩
 ·by_cases e:k=key i
  ·subst e
   rw [has_put_same hD (key_lit i)]
   simp only [true_iff]
   exact ⟨i,rfl,by rw [moved_put hi,if_pos rfl]; simp [hc]⟩
  ·rw [has_put_other e,h.has]
   constructor
   ·rintro ⟨j,rfl,hj⟩
    exact ⟨j,rfl,by rw [moved_put hi,if_neg (fun e'=>e (by rw [e']))]; exact hj⟩
   ·rintro ⟨j,rfl,hj⟩
    rw [moved_put hi,if_neg (fun e'=>e (by rw [e']))] at hj
    exact ⟨j,rfl,hj⟩
 ·rw [moved_put hi] at hj
  rw [was_put]
  by_cases e:j=i
  ·subst e
   exact atKey_put_same hD (key_lit j) _ _
  ·rw [if_neg e] at hj
   rw [atKey_put_other (fun e'=>e (key_inj e'))]
   exact h.at' j z hj
theorem Says.del {D:DataW Unit} {s:St} (h:Says D s) {i:Nat} (hi:i<s.n):Says (D.del (key i)) (s.put i (s.was i)):=by
 refine ⟨fun k => ?_,fun j z hj => ?_⟩
 ·by_cases e:k=key i
  ·subst e
   rw [has_del_same]
   simp only [Bool.false_eq_true,false_iff]
   rintro ⟨j,e',hj⟩
   obtain rfl:=key_inj e'
   rw [moved_put hi,if_pos rfl] at hj
   simp at hj
  ·rw [has_del_other e,h.has]
   constructor
   ·rintro ⟨j,rfl,hj⟩
    exact ⟨j,rfl,by rw [moved_put hi,if_neg (fun e'=>e (by rw [e']))]; exact hj⟩
   ·rintro ⟨j,rfl,hj⟩
    rw [moved_put hi,if_neg (fun e'=>e (by rw [e']))] at hj
    exact ⟨j,rfl,hj⟩
 ·rw [moved_put hi] at hj
  rw [was_put]
  by_cases e:j=i
  ·subst e
   simp at hj
  ·rw [if_neg e] at hj
   rw [atKey_del_other (fun e'=>e (key_inj e'))]
   exact h.at' j z hj
theorem del_put {D:DataW Unit} {s:St} (h:Says D s) {i:Nat} (hi:i<s.n) (hm:s.moved i=false) (d:DataW Unit):Says ((D.put (key i) d).del (key i)) s:=by
 refine ⟨fun k => ?_,fun j z hj => ?_⟩
 ·by_cases e:k=key i
  ·subst e
   rw [has_del_same]
   simp only [Bool.false_eq_true,false_iff]
   rintro ⟨j,e',hj⟩
   obtain rfl:=key_inj e'
   rw [hm] at hj
   cases hj
  ·rw [has_del_other e,has_put_other e,h.has]
 ·have e:j≠i:=fun e=>by rw [e,hm] at hj; cases hj
  rw [atKey_del_other (fun e'=>e (key_inj e')),atKey_put_other (fun e'=>e (key_inj e'))]
  exact h.at' j z hj
theorem put_same {s:St} {i:Nat} {c:UInt16} (hi:i<s.n) (hc:c=s.cnt i):s.put i c=s:=by
 subst hc
 unfold St.n at hi
 unfold St.put St.cnt
 have:s.now.set i (s.now.getD i 0)=s.now:=by
  apply List.ext_getElem?
  intro j
  rw [List.getElem?_set]
  by_cases e:i=j
  ·subst e
   simp [hi]
  ·rw [if_neg e]
 rw [this]
theorem law:Keyed Tryz.prog 3 := int_keyed Tryz.underlying3
theorem key_of (i:Nat) (hi:i≤4096):keyOf Tryz.prog 3 (.int .i64 (i:Int))=some (key i):=keyOf_int_mk Tryz.underlying3 (WalkArith.wf_i64 (by omega))
theorem elem_of (c:UInt16):plainElem (H:=Unit) Tryz.prog 34 (num c)=some (dat c,[]):=plainElem_int Tryz.underlying34 (num_wf c)
theorem zero_num (w:World):(zeroValue 34).run Tryz.prog w = .ok (.int .u16 0) w:=by kernel_rfl
def Mp (w:World) (mb:Nat) (s:St):Prop := ∃nn D,w.ownsMap Tryz.prog 3 (plainElem Tryz.prog 34) mb nn D∧Says D s
def tcells (a cb mb n c:Nat):List Value := [.slice (some ⟨cb,0,none⟩) n c,.map (some mb),.pointer (some ⟨a,0,none⟩)]
structure At (w:World) (a cb mb c:Nat) (s:St):Prop where
 row:RowV w a 246 (tcells a cb mb s.n c)
 nums : ∃sp,RowV w cb 34 (nums s.now++sp)
 mp:Mp w mb s
 ok:s.Ok
 room:s.n≤c
 ne:a≠cb
theorem changed_perm {w:World} {mb nn:Nat} {s:St} {D:DataW Unit} (h:w.ownsMap Tryz.prog 3 (plainElem Tryz.prog 34) mb nn D) (hs:Says D s) (hok:s.Ok) :
  (s.changed.map fun i:Nat=>(i:Int)).Perm (intKeys D):=by
 refine CollectedI.perm (left:=fun _=>false) (k := 3) ⟨?_,fun x => ?_⟩ h law Tryz.underlying3 (fun _=>rfl)
 ·unfold St.changed
  refine List.pairwise_map.2 (List.Pairwise.imp (fun {a b} (h:a<b) => ?_) (List.pairwise_lt_range.filter _))
  omega
 ·simp only [List.mem_map,and_true]
  rw [hs.has]
  constructor
  ·rintro ⟨i,hi,rfl⟩
   exact ⟨i,rfl,(List.mem_filter.1 hi).2⟩
  ·rintro ⟨i,e,hm⟩
   simp only [key,Lit.int.injEq,true_and] at e
   exact ⟨i,List.mem_filter.2 ⟨List.mem_range.2 (moved_lt hok hm),hm⟩,e.symm⟩
theorem size_changed {w:World} {mb nn:Nat} {s:St} {D:DataW Unit} (h:w.ownsMap Tryz.prog 3 (plainElem Tryz.prog 34) mb nn D) (hs:Says D s) (hok:s.Ok):Maps.size D=s.changed.length:=by
 have:=(changed_perm h hs hok).length_eq
 obtain ⟨es,rfl⟩:=h.isMap
 rw [List.length_map] at this
 rw [this]
 simp [Maps.size,intKeys]
theorem few_changed {s:St} (hok:s.Ok):s.changed.length≤4096:=by
 unfold St.changed
 have h1:=List.length_filter_le s.moved (List.range s.n)
 have h2:=hok.hi
 rw [List.length_range] at h1
 unfold St.n at *
 omega
theorem own_tight {w:World} {mb nn:Nat} {D:DataW Unit} (h:w.ownsMap Tryz.prog 3 (plainElem Tryz.prog 34) mb nn D):w.ownsMap Tryz.prog 3 (plainElem Tryz.prog 34) mb (Maps.size D) D:=by
 obtain ⟨es,clock,hb,F,hs,rfl⟩:=h
 exact ⟨es,clock,hb,F,by rw [Maps.size,length_read]; exact Nat.le_refl _,rfl⟩
theorem Mp.own {w:World} {mb:Nat} {s:St} (h:Mp w mb s) (hok:s.Ok) : ∃D,w.ownsMap Tryz.prog 3 (plainElem Tryz.prog 34) mb 4096 D∧Says D s:=by
 obtain ⟨nn,D,h1,h2⟩:=h
 exact ⟨D,(own_tight h1).mono (by rw [size_changed h1 h2 hok]; exact few_changed hok),h2⟩
theorem Mp.block {w w':World} {mb:Nat} {s:St} (h:Mp w mb s) (k:w'.heap[mb]?=w.heap[mb]?):Mp w' mb s:=by
 obtain ⟨nn,D,⟨es,clock,hb,F,hs,hD⟩,h2⟩:=h
 exact ⟨nn,D,⟨es,clock,k.trans hb,F,hs,hD⟩,h2⟩
theorem Mp.lt {w:World} {mb:Nat} {s:St} (h:Mp w mb s):mb<w.heap.size:=by
 obtain ⟨_,_,h1,_⟩:=h
 exact h1.lt
theorem own_row {w:World} {mb nn g:Nat} {T:TypeId} {vs:List Value} {D:DataW Unit} (h:w.ownsMap Tryz.prog 3 (plainElem Tryz.prog 34) mb nn D) (k:RowV w g T vs):g≠mb:=by
 obtain ⟨es,clock,hb,_⟩:=h
 rintro rfl
 unfold RowV at k
 rw [hb] at k
 cases k
section
variable {w w':World} {a cb mb c:Nat} {s:St}
theorem At.a_mb (h:At w a cb mb c s):a≠mb:=by obtain ⟨_,_,h1,_⟩:=h.mp; exact own_row h1 h.row
theorem At.cb_mb (h:At w a cb mb c s):cb≠mb:=by obtain ⟨_,_,h1,_⟩:=h.mp; obtain ⟨_,h2⟩:=h.nums; exact own_row h1 h2
theorem At.cb_lt (h:At w a cb mb c s):cb<w.heap.size:=by obtain ⟨_,h2⟩:=h.nums; exact h2.lt
theorem At.c0 (h:At w a cb mb c s):w.cell? ⟨a,0,none⟩=some (.slice (some ⟨cb,0,none⟩) s.n c):=h.row.cellAt rfl
theorem At.c1 (h:At w a cb mb c s):w.cell? ⟨a,1,none⟩=some (.map (some mb)):=h.row.cellAt rfl
theorem At.c2 (h:At w a cb mb c s):w.cell? ⟨a,2,none⟩=some (.pointer (some ⟨a,0,none⟩)):=h.row.cellAt rfl
theorem At.count (h:At w a cb mb c s) {i:Nat} (hi:i<s.n):w.cell? ⟨cb,i,none⟩=some (.int .u16 ((s.cnt i).toNat:Int)):=by
 obtain ⟨sp,h2⟩:=h.nums
 refine h2.cellAt ?_
 rw [List.getElem?_append_left (by rw [length_nums]; exact hi)]
 exact nums_at _ _ hi
theorem row_count {w:World} {cb i:Nat} {s:St} {T:TypeId} {sp:List Value} (h:RowV w cb T (Tl.nums s.now++sp)) (hi:i<s.n):w.cell? ⟨cb,i,none⟩=some (.int .u16 ((s.cnt i).toNat:Int)):=by
 refine h.cellAt ?_
 rw [List.getElem?_append_left (by rw [length_nums]; exact hi)]
 exact nums_at _ _ hi
theorem row_put {w:World} {cb i:Nat} {s:St} {T:TypeId} {sp:List Value} (h:RowV w cb T (Tl.nums s.now++sp)) (hi:i<s.n) (x:UInt16):RowV (w.setCell ⟨cb,i,none⟩ (.int .u16 (x.toNat:Int))) cb T (Tl.nums (s.put i x).now++sp):=by
 have:=h.set i (num x)
 rw [List.set_append_left i (num x) (by rw [length_nums]; exact hi),← nums_set] at this
 exact this
theorem At.blocks (h:At w a cb mb c s) (k1:w'.heap[a]?=w.heap[a]?) (k2:w'.heap[cb]?=w.heap[cb]?) (k3:w'.heap[mb]?=w.heap[mb]?):At w' a cb mb c s :=
 ⟨h.row.block k1,(by obtain ⟨sp,h2⟩:=h.nums; exact ⟨sp,h2.block k2⟩),h.mp.block k3,h.ok,h.room,h.ne⟩
theorem At.kept (h:At w a cb mb c s) (k:Below w.heap.size w w'):At w' a cb mb c s:=h.blocks (k.block _ h.row.lt) (k.block _ h.cb_lt) (k.block _ h.mp.lt)
end
end Go.Proofs.YtogchamogbendaaGreat.Tl
namespace Go.Proofs.YtogchamogbendaaGreat.Tl
open Go.RowKit Oct Mv Go.Maps
theorem tally_info:(Tryz.prog.info? 246).isSome=true:=by kernel_rfl
theorem eql_self (a:Nat) (w:World):(binOp .eql 62 (.pointer (some ⟨a,0,none⟩)) (.pointer (some ⟨a,0,none⟩))).run Tryz.prog w = .ok (.bool true) w:=by
 obtain ⟨j,hj⟩:=Option.isSome_iff_exists.1 tally_info
 exact run_eql_ptr_same (P:=Tryz.prog) w ⟨a,0,none⟩ Tryz.underlying62 hj
theorem eql_nil (a:Addr) (w:World):(binOp .eql 62 (.pointer none) (.pointer (some a))).run Tryz.prog w = .ok (.bool false) w:=by
 have h : ∀d:Nat,(Op.equalIn (d+1) 62 (.pointer none) (.pointer (some a))).run Tryz.prog w = .ok false w:=fun d=>by
  simp [Op.equalIn,run_underlying Tryz.underlying62]
 simp only [binOp]
 simp [Op.equal,Op.maxDepth,h 9999]
theorem made_self (a:Nat) (w:World) (h:w.cell? ⟨a,2,none⟩=some (.pointer (some ⟨a,0,none⟩))) :
  Calls Tryz.prog 150 #[.pointer (some ⟨a,0,none⟩)] w fun e w'=>e = .returned (.bool true)∧w=w':=by
 have k:=eql_self a w
 go_enter Tryz.func150,Tryz.ntmps150
 go_wp2
 go_ret
 exact ⟨rfl,rfl⟩
def Nay (w:World) (v:Value):Prop:=v = .pointer none ∨ ∃a,v = .pointer (some ⟨a,0,none⟩)∧w.cell? ⟨a,2,none⟩=some (.pointer none)
theorem made_nay (v:Value) (w:World) (h:Nay w v) :
  Calls Tryz.prog 150 #[v] w fun e w'=>e = .returned (.bool false)∧w=w':=by
 rcases h with rfl | ⟨a,rfl,h⟩
 ·go_enter Tryz.func150,Tryz.ntmps150
  go_wp2
  go_ret
  exact ⟨rfl,rfl⟩
 ·have k:=eql_nil ⟨a,0,none⟩ w
  go_enter Tryz.func150,Tryz.ntmps150
  go_wp2
  go_ret
  exact ⟨rfl,rfl⟩
theorem blocks_at {w:World} {a cb mb c:Nat} {s:St} (h:At w a cb mb c s) :
  Calls Tryz.prog 143 #[.pointer (some ⟨a,0,none⟩)] w fun e w'=>e = .returned (.int .i64 (s.n:Int))∧w=w':=by
 have c0:=h.c0
 have c2:=h.c2
 clear h
 go_enter Tryz.func143,Tryz.ntmps143
 go_wp2_with fail
 refine (made_self a _ c2).mono ?_
 rintro e w' ⟨rfl,rfl⟩
 go_wp2_with fail
 go_ret
 exact ⟨rfl,rfl⟩
theorem blocks_nay (v:Value) (w:World) (h:Nay w v) :
  Calls Tryz.prog 143 #[v] w fun e w'=>e = .returned (.int .i64 0)∧w=w':=by
 go_enter Tryz.func143,Tryz.ntmps143
 go_wp2_with fail
 refine (made_nay v _ h).mono ?_
 rintro e w' ⟨rfl,rfl⟩
 go_wp2_with fail
 go_ret
 exact ⟨rfl,rfl⟩
theorem has_yes {w:World} {a cb mb c:Nat} {s:St} (h:At w a cb mb c s) (i:Nat) (hi:i<s.n) :
  Calls Tryz.prog 151 #[.pointer (some ⟨a,0,none⟩),.int .i64 (i:Int)] w fun e w'=>e = .returned (.bool true)∧w=w':=by
 have H:=Lib.hid h
 have hlt:(i:Int)<(s.n:Int):=by omega
 have hge:(0:Int)≤(i:Int):=by omega
 clear h hi
 go_enter Tryz.func151,Tryz.ntmps151
 go_wp2_with fail
 refine (blocks_at H.out).mono ?_
 rintro e w' ⟨rfl,rfl⟩
 go_wp2_with fail
 go_ret
 exact ⟨rfl,rfl⟩
theorem has_no {w:World} {a cb mb c:Nat} {s:St} (h:At w a cb mb c s) (b:Int) (hb:b<0∨(s.n:Int)≤b) :
  Calls Tryz.prog 151 #[.pointer (some ⟨a,0,none⟩),.int .i64 b] w fun e w'=>e = .returned (.bool false)∧w=w':=by
 have H:=Lib.hid h
 clear h
 by_cases h0:0≤b
 ·have h1 : ¬(b<(s.n:Int)):=by omega
  clear hb
  go_enter Tryz.func151,Tryz.ntmps151
  go_wp2_with fail
  refine (blocks_at H.out).mono ?_
  rintro e w' ⟨rfl,rfl⟩
  go_wp2_with fail
  go_ret
  refine ⟨?_,rfl⟩
  show Ending.returned (.bool (decide _))=_
  rw [decide_eq_false (by omega)]
 ·clear hb
  go_enter Tryz.func151,Tryz.ntmps151
  go_wp2_with fail
  go_ret
  exact ⟨rfl,rfl⟩
theorem get_yes {w:World} {a cb mb c:Nat} {s:St} (h:At w a cb mb c s) (i:Nat) (hi:i<s.n) :
  Calls Tryz.prog 94 #[.pointer (some ⟨a,0,none⟩),.int .i64 (i:Int)] w fun e w'=>e = .returned (.int .i64 ((s.cnt i).toNat:Int))∧w=w':=by
 have c0:=h.c0
 have cc:=h.count hi
 have H:=Lib.hid h
 have hlt:(i:Int)<(s.n:Int):=by omega
 have hge:(0:Int)≤(i:Int):=by omega
 have hu:=u16_lt (s.cnt i)
 clear h
 go_enter Tryz.func94,Tryz.ntmps94
 go_wp2_with fail
 refine (has_yes H.out i hi).mono ?_
 rintro e w' ⟨rfl,rfl⟩
 go_wp2_with fail
 go_ret
 exact ⟨rfl,rfl⟩
theorem get_no {w:World} {a cb mb c:Nat} {s:St} (h:At w a cb mb c s) (b:Int) (hb:b<0∨(s.n:Int)≤b) :
  Calls Tryz.prog 94 #[.pointer (some ⟨a,0,none⟩),.int .i64 b] w fun e w'=>e = .returned (.int .i64 0)∧w=w':=by
 go_enter Tryz.func94,Tryz.ntmps94
 go_wp2_with fail
 refine (has_no h b hb).mono ?_
 rintro e w' ⟨rfl,rfl⟩
 go_wp2_with fail
 go_ret
 exact ⟨rfl,rfl⟩
theorem own_look {w:World} {mb nn:Nat} {D:DataW Unit} (h:w.ownsMap Tryz.prog 3 (plainElem Tryz.prog 34) mb nn D) (i:Nat) (hi:i≤4096) :
  ∃c:Int,(Instr.lookup 244 (.map (some mb)) (.int .i64 (i:Int)) true).run Tryz.prog w = .ok (.tuple #[.int .u16 c,.bool (Maps.has D (key i))]) w ∧
   (Instr.lookup 244 (.map (some mb)) (.int .i64 (i:Int)) false).run Tryz.prog w = .ok (.int .u16 c) w ∧ ∀x,(∀z,D.atKey (key i) z=dat x)→c=(x.toNat:Int):=by
 obtain ⟨v,p,hrun,hv⟩:=h.look_ok law Tryz.underlying244 (zero_num w) (zd:=dat 0) (zp := []) (plainElem_int Tryz.underlying34 (by decide)) (key_of i hi)
 obtain ⟨c,rfl,hc,_⟩:=plainElem_int_inv Tryz.underlying34 hv
 obtain ⟨c',hrun',hat',_⟩:=h.lookup_int law Tryz.underlying244 Tryz.underlying34 (zero_num w) (key_of i hi)
 have e1:D.atKey (key i) (dat 0) = .lit (.int .u16 c):=congrArg Prod.fst hc
 have e2:(DataW.lit (.int .u16 c):DataW Unit) = .lit (.int .u16 c'):=e1.symm.trans hat'
 simp only [DataW.lit.injEq,Lit.int.injEq,true_and] at e2
 subst e2
 refine ⟨c,hrun,hrun',fun x hx => ?_⟩
 have:=e1.symm.trans (hx _)
 simp only [dat,DataW.lit.injEq,Lit.int.injEq,true_and] at this
 exact this
theorem changed_at {w:World} {a cb mb c:Nat} {s:St} (h:At w a cb mb c s) (i:Nat) (hi:i<s.n) :
  Calls Tryz.prog 159 #[.pointer (some ⟨a,0,none⟩),.int .i64 (i:Int)] w fun e w'=>e = .returned (.bool (s.moved i))∧w=w':=by
 obtain ⟨D,ho,hs⟩:=h.mp.own h.ok
 obtain ⟨z,hl,_,_⟩:=own_look ho i (by have:=h.ok.hi; unfold St.n at hi; omega)
 rw [hs.hasKey] at hl
 have c1:=h.c1
 clear h ho hs hi
 go_enter Tryz.func159,Tryz.ntmps159
 go_wp2_with fail
 go_ret
 exact ⟨rfl,rfl⟩
theorem cnt_zero {s:St} {i:Nat} (h:(s.cnt i==0)=true):(s.cnt i).toNat=0:=by
 have:s.cnt i=0:=by simpa using h
 rw [this]; rfl
theorem cnt_some {s:St} {i:Nat} (h:(s.cnt i==0)=false) : ¬((s.cnt i).toNat=0):=fun e=>by
 have:s.cnt i=0:=UInt16.toNat_inj.1 (by rw [e]; rfl)
 rw [this] at h
 cases h
theorem free_moved {s:St} {i:Nat} (h:(s.cnt i==0)=true):s.free i = !s.moved i:=by
 have h0:s.cnt i=0:=by simpa using h
 unfold St.free St.moved
 rw [h0]
 have e:((0:UInt16)==s.was i)=(s.was i==0):=BEq.comm
 simp [bne,e]
theorem free_yes {w:World} {a cb mb c:Nat} {s:St} (h:At w a cb mb c s) (i:Nat) (hi:i<s.n) :
  Calls Tryz.prog 153 #[.pointer (some ⟨a,0,none⟩),.int .i64 (i:Int)] w fun e w'=>e = .returned (.bool (s.free i))∧w=w':=by
 have c0:=h.c0
 have cc:=h.count hi
 have H:=Lib.hid h
 have hlt:(i:Int)<(s.n:Int):=by omega
 have hge:(0:Int)≤(i:Int):=by omega
 clear h
 cases h0:(s.cnt i==0)
 ·have hz:=cnt_some h0
  have hz' : ¬(((s.cnt i).toNat:Int)=0):=by omega
  have hf:s.free i=false:=by unfold St.free; rw [h0]; rfl
  rw [hf]
  clear hf h0 hz
  go_enter Tryz.func153,Tryz.ntmps153
  go_wp2_with fail
  refine (has_yes H.out i hi).mono ?_
  rintro e w' ⟨rfl,rfl⟩
  go_wp2_with fail
  go_ret
  exact ⟨rfl,rfl⟩
 ·have hz:=cnt_zero h0
  rw [hz] at cc
  rw [free_moved h0]
  clear h0 hz
  cases hm:s.moved i
  all_goals
   go_enter Tryz.func153,Tryz.ntmps153
   go_wp2_with fail
   refine (has_yes H.out i hi).mono ?_
   rintro e w' ⟨rfl,rfl⟩
   go_wp2_with fail
   refine (changed_at H.out i hi).mono ?_
   rintro e w' ⟨rfl,rfl⟩
   rw [hm]
   go_wp2_with fail
   go_ret
   exact ⟨rfl,rfl⟩
end Go.Proofs.YtogchamogbendaaGreat.Tl
namespace Go.Proofs.YtogchamogbendaaGreat.Tl
open Lib (hid)
open Go.RowKit Oct Mv Go.Maps
theorem set_at {w:World} {a cb mb c:Nat} {s:St} (h:At w a cb mb c s) (i:Nat) (hi:i<s.n) (x:UInt16) :
  Calls Tryz.prog 156 #[.pointer (some ⟨a,0,none⟩),.int .i64 (i:Int),.int .u16 (x.toNat:Int)] w fun e w'=>e = .returned (.tuple #[])∧At w' a cb mb c (s.put i x)∧But w w' cb mb:=by
 obtain ⟨D,ho,hs⟩:=h.mp.own h.ok
 obtain ⟨sp,hn⟩:=h.nums
 have hi4:i≤4096:=by have:=h.ok.hi; unfold St.n at hi; omega
 have HH:=hid h
 have HO:=hid ho
 have HS:=hid hs
 have HI:=hid hi
 have HN:=hid hn
 have c0:=h.c0
 have c1:=h.c1
 have cc:=h.count hi
 have hlt:(i:Int)<(s.n:Int):=by omega
 have hge:(0:Int)≤(i:Int):=by omega
 clear h ho hs hi hn
 cases hm:s.moved i
 ·go_enter Tryz.func156,Tryz.ntmps156
  go_wp2_with fail
  refine (changed_at HH.out i HI.out).mono ?_
  rintro e w' ⟨rfl,rfl⟩
  rw [hm]
  go_upto_region 1 with (fail)
  obtain ⟨w1,hrun,hown1,hgrow1⟩:=World.ownsMap.update (w:=w.drew) HO.out law Tryz.underlying244 (by unfold maxLen; omega) (key_of i hi4) (elem_of (s.cnt i))
  unfold num at hrun
  have hgw:w.grownBy w1 (some mb):=⟨hgrow1.os,hgrow1.tape,hgrow1.output,hgrow1.size,hgrow1.block⟩
  have HB:=hid (But.grown (p:=cb) hgw)
  have HOWN:=hid hown1
  clear hown1 hgrow1
  go_region
  clear hrun
  have hcw:s.cnt i=s.was i:=by unfold St.moved at hm; simpa using hm
  have HAT:=hid (fun z=>show (D.put (key i) (dat (s.cnt i))).atKey (key i) z=dat (s.was i) by rw [atKey_put_same HO.out.isMap (key_lit i),hcw])
  have HKEEP:=hid (show x≠s.was i→Says (D.put (key i) (dat (s.cnt i))) (s.put i x) from fun hx=>by rw [hcw]; exact HS.out.put HO.out.isMap HI.out hm hx)
  have HDEL:=hid (show x=s.was i→Says ((D.put (key i) (dat (s.cnt i))).del (key i)) (s.put i x) from fun hx=>by rw [put_same HI.out (hx.trans hcw.symm)]; exact del_put HS.out HI.out hm _)
  have HROW:=hid (HH.out.row.block (hgw.block a HH.out.row.lt (fun e=>HH.out.a_mb (by cases e; rfl))))
  have HNUM:=hid (HN.out.block (hgw.block cb HH.out.cb_lt (fun e=>HH.out.cb_mb (by cases e; rfl))))
  clear hgw hcw c0 c1 cc
  generalize D.put (key i) (dat (s.cnt i))=D1 at *
  have c0:=HROW.out.cellAt (i:=0) rfl
  have c1:=HROW.out.cellAt (i:=1) rfl
  have f1:=HNUM.out.free i
  have cc:=row_count HNUM.out HI.out
  go_upto_region 3 with (fail)
  have hacb:=HH.out.ne
  have hmcb:=HH.out.cb_mb
  have HROW2:=hid (HROW.out.other (i:=i) (v := .int .u16 (x.toNat:Int)) hacb)
  have HNUM2:=hid (row_put HNUM.out HI.out x)
  have hown2:=HOWN.out.setCell (a:=⟨cb,i,none⟩) (fun e=>hmcb e.symm) (.int .u16 (x.toNat:Int))
  have HB2:=hid (HB.out.trans (But.set w1 cb mb i (.int .u16 (x.toNat:Int))))
  clear c0 c1 cc f1
  generalize w1.setCell ⟨cb,i,none⟩ (.int .u16 (x.toNat:Int))=w2 at *
  have c0:=HROW2.out.cellAt (i:=0) rfl
  have c1:=HROW2.out.cellAt (i:=1) rfl
  obtain ⟨z,_,hlk,hz⟩:=own_look hown2 i hi4
  rw [hz _ HAT.out] at hlk
  have HOWN2:=hid hown2
  clear hown2 hz hacb hmcb
  by_cases hx:x=s.was i
  ·have hx2:((s.was i).toNat:Int)=(x.toNat:Int):=by rw [hx]
   have HX:=hid hx
   clear hx
   rw [hx2] at hlk
   clear hx2
   go_wp2_with (first | (at_delete; refine wpList_delete_own _ rfl _ _ 244 3 rfl 34 law Tryz.underlying244 _ mb (4096+1) D1 rfl HOWN2.out _ _ rfl (key_of i hi4) ?_; intro w3 hown3 hturn3))
   go_end0
   have hg:=hturn3.grown
   refine ⟨rfl,?_,HB2.out.trans (.grown hg)⟩
   refine ⟨?_,⟨sp,HNUM2.out.block (hg.block cb HNUM2.out.lt (fun e=>HH.out.cb_mb (by cases e; rfl)))⟩,⟨_,_,hown3,HDEL.out HX.out⟩,HH.out.ok.put i x,?_,HH.out.ne⟩
   ·rw [n_put]
    exact HROW2.out.block (hg.block a HROW2.out.lt (fun e=>HH.out.a_mb (by cases e; rfl)))
   ·rw [n_put]
    exact HH.out.room
  ·have hx2 : ¬(((s.was i).toNat:Int)=(x.toNat:Int)):=fun e=>hx (UInt16.toNat_inj.1 (by omega))
   have HX:=hid hx
   clear hx
   go_wp2_with fail
   go_end0
   refine ⟨rfl,?_,HB2.out⟩
   refine ⟨?_,⟨sp,HNUM2.out⟩,⟨_,_,HOWN2.out,HKEEP.out HX.out⟩,HH.out.ok.put i x,?_,HH.out.ne⟩
   ·rw [n_put]
    exact HROW2.out
   ·rw [n_put]
    exact HH.out.room
 ·go_enter Tryz.func156,Tryz.ntmps156
  go_wp2_with fail
  refine (changed_at HH.out i HI.out).mono ?_
  rintro e w' ⟨rfl,rfl⟩
  rw [hm]
  obtain ⟨w1,hw1⟩ : ∃w1,w1=w:=⟨_,rfl⟩
  obtain ⟨D1,hD1⟩ : ∃D1,D1=D:=⟨_,rfl⟩
  have HB:=hid (show But w w1 cb mb by rw [hw1]; exact But.refl _ _ _)
  have HOWN:=hid (show w1.ownsMap Tryz.prog 3 (plainElem Tryz.prog 34) mb (4096+1) D1 by rw [hw1,hD1]; exact HO.out.mono (by omega))
  have HAT:=hid (fun z=>show D1.atKey (key i) z=dat (s.was i) by rw [hD1]; exact HS.out.at' i z hm)
  have HKEEP:=hid (show x≠s.was i→Says D1 (s.put i x) from fun hx=>by rw [hD1]; exact HS.out.old HI.out hm hx)
  have HDEL:=hid (show x=s.was i→Says (D1.del (key i)) (s.put i x) from fun hx=>by rw [hD1,hx]; exact HS.out.del HI.out)
  have HROW:=hid (show RowV w1 a _ _ by rw [hw1]; exact HH.out.row)
  have HNUM:=hid (show RowV w1 cb _ _ by rw [hw1]; exact HN.out)
  clear c0 c1 cc hD1
  go_upto_region 2 with (fail)
  have HEQ:=hid hw1
  clear hw1
  rw [← HEQ.out]
  have c0:=HROW.out.cellAt (i:=0) rfl
  have c1:=HROW.out.cellAt (i:=1) rfl
  have f1:=HNUM.out.free i
  have cc:=row_count HNUM.out HI.out
  go_upto_region 3 with (fail)
  have hacb:=HH.out.ne
  have hmcb:=HH.out.cb_mb
  have HROW2:=hid (HROW.out.other (i:=i) (v := .int .u16 (x.toNat:Int)) hacb)
  have HNUM2:=hid (row_put HNUM.out HI.out x)
  have hown2:=HOWN.out.setCell (a:=⟨cb,i,none⟩) (fun e=>hmcb e.symm) (.int .u16 (x.toNat:Int))
  have HB2:=hid (HB.out.trans (But.set w1 cb mb i (.int .u16 (x.toNat:Int))))
  clear c0 c1 cc f1
  generalize w1.setCell ⟨cb,i,none⟩ (.int .u16 (x.toNat:Int))=w2 at *
  have c0:=HROW2.out.cellAt (i:=0) rfl
  have c1:=HROW2.out.cellAt (i:=1) rfl
  obtain ⟨z,_,hlk,hz⟩:=own_look hown2 i hi4
  rw [hz _ HAT.out] at hlk
  have HOWN2:=hid hown2
  clear hown2 hz hacb hmcb
  by_cases hx:x=s.was i
  ·have hx2:((s.was i).toNat:Int)=(x.toNat:Int):=by rw [hx]
   have HX:=hid hx
   clear hx
   rw [hx2] at hlk
   clear hx2
   go_wp2_with (first | (at_delete; refine wpList_delete_own _ rfl _ _ 244 3 rfl 34 law Tryz.underlying244 _ mb (4096+1) D1 rfl HOWN2.out _ _ rfl (key_of i hi4) ?_; intro w3 hown3 hturn3))
   go_end0
   have hg:=hturn3.grown
   refine ⟨rfl,?_,HB2.out.trans (.grown hg)⟩
   refine ⟨?_,⟨sp,HNUM2.out.block (hg.block cb HNUM2.out.lt (fun e=>HH.out.cb_mb (by cases e; rfl)))⟩,⟨_,_,hown3,HDEL.out HX.out⟩,HH.out.ok.put i x,?_,HH.out.ne⟩
   ·rw [n_put]
    exact HROW2.out.block (hg.block a HROW2.out.lt (fun e=>HH.out.a_mb (by cases e; rfl)))
   ·rw [n_put]
    exact HH.out.room
  ·have hx2 : ¬(((s.was i).toNat:Int)=(x.toNat:Int)):=fun e=>hx (UInt16.toNat_inj.1 (by omega))
   have HX:=hid hx
   clear hx
   go_wp2_with fail
   go_end0
   refine ⟨rfl,?_,HB2.out⟩
   refine ⟨?_,⟨sp,HNUM2.out⟩,⟨_,_,HOWN2.out,HKEEP.out HX.out⟩,HH.out.ok.put i x,?_,HH.out.ne⟩
   ·rw [n_put]
    exact HROW2.out
   ·rw [n_put]
    exact HH.out.room
end Go.Proofs.YtogchamogbendaaGreat.Tl
namespace Go.Proofs.YtogchamogbendaaGreat.Tl
open Lib (hid)
open Go.RowKit Oct Mv Go.Maps
def St.isIn (s:St) (b:Int):Prop:=0≤b∧b<(s.n:Int)
instance (s:St) (b:Int):Decidable (s.isIn b):=inferInstanceAs (Decidable (_∧_))
def St.up (s:St) (b:Int):Int×St:=if s.isIn b then (if s.cnt b.toNat=65535 then (81,s) else (0,s.put b.toNat (s.cnt b.toNat+1))) else (80,s)
def St.down (s:St) (b:Int):Int×St:=if s.isIn b then (if s.cnt b.toNat=0 then (82,s) else (0,s.put b.toNat (s.cnt b.toNat-1))) else (80,s)
theorem up_num (c:UInt16) (h:c≠65535):((c.toNat:Int)+1) % 65536=((c+1).toNat:Int):=by rw [UInt16.toNat_add]; simp
theorem down_num (c:UInt16) (h:c≠0):IntKind.u16.wrap ((c.toNat:Int)-1)=((c-1).toNat:Int):=by
 show ((c.toNat:Int)-1) % 65536=((c-1).toNat:Int)
 have h1:c.toNat≠0:=fun e=>h (UInt16.toNat_inj.1 (by rw [e]; rfl))
 have h2:=u16_lt c
 rw [UInt16.toNat_sub]
 simp
 omega
def Did (w:World) (a cb mb c:Nat) (r:Int×St) (e:Ending) (w':World):Prop:=e = .returned (.int .i64 r.1)∧At w' a cb mb c r.2∧But w w' cb mb
theorem up_at {w:World} {a cb mb c:Nat} {s:St} (h:At w a cb mb c s) (b:Int) :
  Calls Tryz.prog 104 #[.pointer (some ⟨a,0,none⟩),.int .i64 b] w (Did w a cb mb c (s.up b)):=by
 have HH:=hid h
 have c0:=h.c0
 have c2:=h.c2
 by_cases hb:s.isIn b
 ·obtain ⟨i,rfl⟩ : ∃i:Nat,b=(i:Int):=⟨b.toNat,by have:=hb.1; omega⟩
  have hi:i<s.n:=by have:=hb.2; omega
  have cc:=h.count hi
  have hlt:(i:Int)<(s.n:Int):=by omega
  have hge:(0:Int)≤(i:Int):=by omega
  by_cases hx:s.cnt i=65535
  ·have HU:=hid (show s.up (i:Int)=(81,s) by unfold St.up; rw [if_pos hb,Int.toNat_natCast,if_pos hx])
   rw [hx] at cc
   have e1:((65535:UInt16).toNat:Int)=65535:=rfl
   rw [e1] at cc
   clear hb hx e1 h
   go_enter Tryz.func104,Tryz.ntmps104
   go_wp2_with fail
   refine (made_self a _ c2).mono ?_
   rintro e w' ⟨rfl,rfl⟩
   go_wp2_with fail
   refine (has_yes HH.out i hi).mono ?_
   rintro e w' ⟨rfl,rfl⟩
   go_wp2_with fail
   go_ret
   rw [HU.out]
   exact ⟨rfl,HH.out,But.refl _ _ _⟩
  ·have HU:=hid (show s.up (i:Int)=(0,s.put i (s.cnt i+1)) by unfold St.up; rw [if_pos hb,Int.toNat_natCast,if_neg hx])
   have hne : ¬(((s.cnt i).toNat:Int)=65535):=fun e=>hx (UInt16.toNat_inj.1 (by show _=65535; omega))
   have hup:=up_num _ hx
   clear hb hx h
   go_enter Tryz.func104,Tryz.ntmps104
   go_wp2_with fail
   refine (made_self a _ c2).mono ?_
   rintro e w' ⟨rfl,rfl⟩
   go_wp2_with fail
   refine (has_yes HH.out i hi).mono ?_
   rintro e w' ⟨rfl,rfl⟩
   go_wp2_with fail
   refine (set_at HH.out i hi (s.cnt i+1)).mono ?_
   rintro e w' ⟨rfl,A1,B1⟩
   have HA:=hid A1
   have HB:=hid B1
   clear A1 B1
   dsimp only
   go_wp2_with fail
   go_ret
   rw [HU.out]
   exact ⟨rfl,HA.out,HB.out⟩
 ·have HU:=hid (show s.up b=(80,s) by unfold St.up; rw [if_neg hb])
  have hb':b<0∨(s.n:Int)≤b:=by unfold St.isIn at hb; omega
  clear hb h
  go_enter Tryz.func104,Tryz.ntmps104
  go_wp2_with fail
  refine (made_self a _ c2).mono ?_
  rintro e w' ⟨rfl,rfl⟩
  go_wp2_with fail
  refine (has_no HH.out b hb').mono ?_
  rintro e w' ⟨rfl,rfl⟩
  go_wp2_with fail
  go_ret
  rw [HU.out]
  exact ⟨rfl,HH.out,But.refl _ _ _⟩
theorem down_at {w:World} {a cb mb c:Nat} {s:St} (h:At w a cb mb c s) (b:Int) :
  Calls Tryz.prog 100 #[.pointer (some ⟨a,0,none⟩),.int .i64 b] w (Did w a cb mb c (s.down b)):=by
 have HH:=hid h
 have c0:=h.c0
 have c2:=h.c2
 by_cases hb:s.isIn b
 ·obtain ⟨i,rfl⟩ : ∃i:Nat,b=(i:Int):=⟨b.toNat,by have:=hb.1; omega⟩
  have hi:i<s.n:=by have:=hb.2; omega
  have cc:=h.count hi
  have hlt:(i:Int)<(s.n:Int):=by omega
  have hge:(0:Int)≤(i:Int):=by omega
  by_cases hx:s.cnt i=0
  ·have HU:=hid (show s.down (i:Int)=(82,s) by unfold St.down; rw [if_pos hb,Int.toNat_natCast,if_pos hx])
   rw [hx] at cc
   have e1:((0:UInt16).toNat:Int)=0:=rfl
   rw [e1] at cc
   clear hb hx e1 h
   go_enter Tryz.func100,Tryz.ntmps100
   go_wp2_with fail
   refine (made_self a _ c2).mono ?_
   rintro e w' ⟨rfl,rfl⟩
   go_wp2_with fail
   refine (has_yes HH.out i hi).mono ?_
   rintro e w' ⟨rfl,rfl⟩
   go_wp2_with fail
   go_ret
   rw [HU.out]
   exact ⟨rfl,HH.out,But.refl _ _ _⟩
  ·have HU:=hid (show s.down (i:Int)=(0,s.put i (s.cnt i-1)) by unfold St.down; rw [if_pos hb,Int.toNat_natCast,if_neg hx])
   have hne : ¬(((s.cnt i).toNat:Int)=0):=fun e=>hx (UInt16.toNat_inj.1 (by show _=0; omega))
   have hup:=down_num _ hx
   clear hb hx h
   go_enter Tryz.func100,Tryz.ntmps100
   go_wp2_with fail
   refine (made_self a _ c2).mono ?_
   rintro e w' ⟨rfl,rfl⟩
   go_wp2_with fail
   refine (has_yes HH.out i hi).mono ?_
   rintro e w' ⟨rfl,rfl⟩
   go_wp2_with fail
   refine (set_at HH.out i hi (s.cnt i-1)).mono ?_
   rintro e w' ⟨rfl,A1,B1⟩
   have HA:=hid A1
   have HB:=hid B1
   clear A1 B1
   dsimp only
   go_wp2_with fail
   go_ret
   rw [HU.out]
   exact ⟨rfl,HA.out,HB.out⟩
 ·have HU:=hid (show s.down b=(80,s) by unfold St.down; rw [if_neg hb])
  have hb':b<0∨(s.n:Int)≤b:=by unfold St.isIn at hb; omega
  clear hb h
  go_enter Tryz.func100,Tryz.ntmps100
  go_wp2_with fail
  refine (made_self a _ c2).mono ?_
  rintro e w' ⟨rfl,rfl⟩
  go_wp2_with fail
  refine (has_no HH.out b hb').mono ?_
  rintro e w' ⟨rfl,rfl⟩
  go_wp2_with fail
  go_ret
  rw [HU.out]
  exact ⟨rfl,HH.out,But.refl _ _ _⟩
end Go.Proofs.YtogchamogbendaaGreat.Tl
namespace Go.Proofs.YtogchamogbendaaGreat.Tl
open Go.RowKit Oct Mv Go.Maps Go.ChangeMaps
end Go.Proofs.YtogchamogbendaaGreat.Tl
namespace Go.Proofs.YtogchamogbendaaGreat.Tl
open Go.RowKit Oct Mv Go.Maps Go.ChangeMaps
end Go.Proofs.YtogchamogbendaaGreat.Tl
namespace Go.Proofs.YtogchamogbendaaGreat.Tl
open Lib (hid)
open Go.RowKit Oct Mv Go.Maps Go.ChangeMaps
theorem may_yes (n:Int) (h1:1≤n) (h2:n≤4096) (w:World) :
  Calls Tryz.prog 140 #[.int .i64 n] w fun e w'=>e = .returned (.bool true)∧w=w':=by
 go_enter Tryz.func140,Tryz.ntmps140
 go_wp2_with fail
 go_ret
 exact ⟨rfl,rfl⟩
theorem Ok.new' (n:Nat) (h1:1≤n) (h2:n≤4096):(St.of (List.replicate n 0)).Ok := .new h1 h2
structure Made (w w':World) (cb c:Nat) (s:St) (a mb:Nat):Prop where
 at':At w' a cb mb c s
 below:Below w.heap.size w w'
 ha:w.heap.size≤a
 hm:w.heap.size≤mb
theorem build_any {w:World} {cb c:Nat} {l:List UInt16} {sp:List Value} (h:RowV w cb 34 (nums l++sp)) (hok:(St.of l).Ok) (hc:l.length≤c) :
  Calls Tryz.prog 141 #[.slice (some ⟨cb,0,none⟩) l.length c] w fun e w' => ∃a mb,e = .returned (.pointer (some ⟨a,0,none⟩))∧Made w w' cb c (St.of l) a mb:=by
 have hmm := @run_makeMap Tryz.prog
 have HN:=hid h
 have HOK:=hid hok
 clear h
 go_enter Tryz.func141,Tryz.ntmps141
 go_wp2_with fail
 go_ret
 have B1:=(Below.refl w.heap.size w).alloc (Nat.le_refl _) (.map #[] 0)
 have e1:(w.alloc (.map #[] 0)).heap.size=w.heap.size+1:=by simp
 have B2:=(Below.refl _ (w.alloc (.map #[] 0))).alloc (Nat.le_refl _) (.cells (tcells (w.heap.size+1) cb w.heap.size l.length c).toArray 246)
 have R2:=alloc_rowV (w.alloc (.map #[] 0)) 246 (tcells (w.heap.size+1) cb w.heap.size l.length c)
 rw [e1] at B2 R2
 have hlt:=HN.out.lt
 refine ⟨_,w.heap.size,rfl,⟨R2,⟨sp,(HN.out.below hlt B1).below (by omega) B2⟩,?_,HOK.out,hc,by omega⟩,B1.trans (B2.mono (by omega)),by omega,Nat.le_refl _⟩
 exact ⟨0,_,(World.ownsMap_made w Tryz.prog 3 (plainElem Tryz.prog 34)).alloc _,says_none _⟩
theorem word_info:(Tryz.prog.info? 34).map (fun i=>(i.zero,i.size,i.bytes))=some (some (.int .u16 0),1,2):=by kernel_rfl
theorem made_zeros (n:Nat):madeCells (Value.int .u16 0).cells n=(nums (List.replicate n 0)).toArray:=by
 apply Array.ext
 ·simp [madeCells,nums]
 ·intro i h1 h2
  simp [madeCells,nums,num,Value.cells,Nat.mod_one]
theorem run_make_words (w:World) (n:Nat) (hn:n≤4096) :
  (Instr.makeSlice 134 (.int .i64 (n:Int)) (.int .i64 (n:Int))).run Tryz.prog w = .ok (.slice (some ⟨w.heap.size,0,none⟩) n n) (w.alloc (.cells (nums (List.replicate n 0)).toArray 34)):=by
 obtain ⟨i0,hi,hz0,hz1,hz2⟩:=info_parts word_info
 have h:=run_make (P:=Tryz.prog) w 134 34 i0 (.int .u16 0) Tryz.underlying134 hi hz0 .i64 .i64 n n (by omega) (by omega) (by rw [hz2]; omega) (by omega)
 rw [hz1,Nat.mul_one,Int.toNat_natCast,made_zeros] at h
 exact h
structure Fresh (w w':World) (a cb mb c:Nat) (s:St):Prop where
 at':At w' a cb mb c s
 below:Below w.heap.size w w'
 ha:w.heap.size≤a
 hc:w.heap.size≤cb
 hm:w.heap.size≤mb
theorem new_yes (n:Nat) (h1:1≤n) (h2:n≤4096) (w:World) :
  Calls Tryz.prog 108 #[.int .i64 (n:Int)] w fun e w' => ∃a cb mb,e = .returned (.tuple #[.pointer (some ⟨a,0,none⟩),.int .i64 0])∧Fresh w w' a cb mb n (St.new n):=by
 have hmk:=run_make_words w n h2
 have R1:=alloc_rowV w 34 (nums (List.replicate n 0))
 have HB1:=hid ((Below.refl w.heap.size w).alloc (Nat.le_refl _) (.cells (nums (List.replicate n 0)).toArray 34))
 have HR1:=hid (show RowV (w.alloc (.cells (nums (List.replicate n 0)).toArray 34)) w.heap.size 34 (nums (List.replicate n 0) ++ []) by rw [List.append_nil]; exact R1)
 have HW:=hid (show w.heap.size≤(w.alloc (.cells (nums (List.replicate n 0)).toArray 34)).heap.size by simp)
 clear R1
 generalize w.alloc (.cells (nums (List.replicate n 0)).toArray 34)=w1 at *
 go_enter Tryz.func108,Tryz.ntmps108
 go_wp2_with fail
 refine (may_yes n (by omega) (by omega) w).mono ?_
 rintro e w' ⟨rfl,rfl⟩
 go_wp2_with fail
 have hlen:(List.replicate n (0:UInt16)).length=n:=List.length_replicate
 have hb:=build_any HR1.out (c:=n) (Ok.new' n h1 h2) (by rw [hlen]; exact Nat.le_refl _)
 rw [hlen] at hb
 refine hb.mono ?_
 rintro e w' ⟨a,mb,rfl,hM⟩
 have HM:=hid hM
 clear hM hmk hb
 go_wp2_with fail
 go_ret2
 exact ⟨a,w.heap.size,mb,rfl,HM.out.at',HB1.out.trans (HM.out.below.mono HW.out),Nat.le_trans HW.out HM.out.ha,Nat.le_refl _,Nat.le_trans HW.out HM.out.hm⟩
end Go.Proofs.YtogchamogbendaaGreat.Tl
namespace Go.Proofs.YtogchamogbendaaGreat.Tl
open Go.RowKit Oct Mv Go.Maps Go.Sort Go.Shelf
theorem sortsIn (m:Nat):AnyZI.SortsIn Tryz.prog It.sortedA_ren Fence.wide m :=
  ⟨fun blk off cap ss W hH hblk hsz=>callsIn_wide.2 (AnyM.slices_Sort_int It.sortA blk off cap ss W hH hblk hsz),
   fun p cap W=>callsIn_wide.2 (AnyM.slices_Sort_int_none It.sortA p cap W)⟩
def ints (l:List Nat):List Value:=l.map fun i:Nat => .int .i64 (i:Int)
theorem length_ints (l:List Nat):(ints l).length=l.length:=by simp [ints]
def List64 (w:World) (v:Value) (l:List Nat):Prop := ∃A cap,v = .slice A l.length cap∧ToldV w A (ints l)
theorem sorted_changed (s:St) {ss:List Int} (h:ss.Perm (s.changed.map fun i:Nat=>(i:Int))):ss.mergeSort (fun x y=>decide (x≤y))=s.changed.map fun i:Nat=>(i:Int):=by
 have h2:=mergeSort_of_perm_i h
 have h3:(s.changed.map fun i:Nat=>(i:Int)).mergeSort leI=s.changed.map fun i:Nat=>(i:Int):=by
  refine List.mergeSort_of_pairwise (List.pairwise_map.2 (List.Pairwise.imp (fun {a b} (h:a<b) => ?_) (List.pairwise_lt_range.filter _)))
  simp [leI]
  omega
 exact h2.trans h3
set_option maxHeartbeats 1000000 in
theorem list_at {w:World} {a cb mb c:Nat} {s:St} (h:At w a cb mb c s) :
  Calls Tryz.prog 145 #[.pointer (some ⟨a,0,none⟩)] w fun e w' => ∃v,e = .returned v∧List64 w' v s.changed∧Below w.heap.size w w':=by
 obtain ⟨D0,hown,hsays⟩:=h.mp.own h.ok
 have HP:=Lib.hid (changed_perm hown hsays h.ok)
 have hsize:=size_changed hown hsays h.ok
 have hfew:=few_changed h.ok
 have hmax:Maps.size D0≤maxLen:=by unfold maxLen; omega
 have hbytes:Maps.size D0*8≤140737488355328:=by omega
 have hbl:=hown.lt
 have c1:=h.c1
 have c2:=h.c2
 clear h hsays hsize hfew
 refine (callsIn_wide (n:=6)).1 ?_
 have hseq:SeqGives Fence.wide 2 Tryz.prog 212 #[.pointer (some ⟨w.heap.size,0,none⟩)] encZ (fun ss=>ss.Perm (intKeys D0)) (Maps.size D0) (w.alloc (.cells #[.map (some mb)] 244)) :=
  AnyZI.keys_gives (ρ:=It.keysA_ren) { It.keysA with } Fence.wide _ trivial rfl (by omega) w.heap.size mb 4096 D0 _ (by simp) (by simp) (by
   obtain ⟨es,clock,hb,Ft,hs,hD⟩:=hown
   exact ⟨es,clock,(Below.heap_alloc _ _ mb hbl).trans hb,Ft,hs,hD⟩)
 have cK : ∀mb W,CallsIn Fence.wide 5 Tryz.prog 191 #[.map mb] W fun e w'=>e = .returned (.func (.func 212) #[] #[.pointer (some ⟨W.heap.size,0,none⟩)])∧w'=W.alloc (.cells #[.map mb] 244):=fun mb W=>AnyZI.keys_in It.keysA Fence.wide 5 trivial rfl mb W
 have cS:=AnyZI.sorted_in It.sortedA Fence.wide 5 trivial trivial trivial trivial rfl (by omega) (sortsIn _) (enters_of Tryz.func193 (by kernel_rfl) rfl) 212 #[.pointer (some ⟨w.heap.size,0,none⟩)] trivial (enters_of Tryz.func212 (by kernel_rfl) rfl) _ _ hmax hbytes _ hseq
 change CallsIn _ _ Tryz.prog 147 _ _ _ at cS
 have cM:CallsIn Fence.wide 5 Tryz.prog 150 #[.pointer (some ⟨a,0,none⟩)] w fun e w'=>e = .returned (.bool true)∧w=w':=callsIn_wide.2 (made_self a w c2)
 have hfK:Fence.wide.fn 191 := trivial
 have hfS:Fence.wide.fn 147 := trivial
 have hfM:Fence.wide.fn 150 := trivial
 refine callsIn_of_wp Tryz.func145 rfl trivial ?_ rfl
 simp only [Tryz.ntmps145,List.size_toArray,List.length_cons,List.length_nil,Nat.reduceAdd,Nat.reduceSub,Array.replicate_succ,Array.replicate_zero,List.push_toArray,List.append_toArray,List.nil_append,List.cons_append]
 gi_wp2_with (first
  | (gi_at_call 150; refine cM.mono ?_; rintro e w' ⟨rfl,rfl⟩)
  | (gi_at_call 191; refine (cK _ _).mono ?_; rintro e w' ⟨rfl,rfl⟩)
  | (gi_at_call 147; refine cS.mono ?_; rintro e w' ⟨v,ss,rfl,hS,hrow,hnil,hb⟩))
 go_ret
 have hP:=hS.trans HP.out.symm
 have hL:=sorted_changed s hP
 have hlen:ss.length=s.changed.length:=by rw [hP.length_eq,List.length_map]
 rw [hL,hlen] at hrow
 refine ⟨v,rfl,?_,((Below.refl _ w).alloc (Nat.le_refl _) _).trans (hb.mono (by simp))⟩
 rcases hrow.2 with ⟨rfl,h0⟩ | ⟨g,cap,cur,rfl,hbb,hg,hn,hm,hs,ht⟩
 ·have hz:s.changed.length=0:=by simpa using h0
  exact ⟨none,0,by rw [hz],.inl (by simp [ints,List.eq_nil_of_length_eq_zero hz])⟩
 ·refine ⟨_,cap,rfl,.inr ⟨g,0,rfl,fun i hi => ?_⟩⟩
  rw [length_ints] at hi
  rw [Nat.zero_add,World.ownsRow.cellAt hrow i (by simpa using hi)]
  simp [ints,hi,encZ]
end Go.Proofs.YtogchamogbendaaGreat.Tl
namespace Go.Proofs.YtogchamogbendaaGreat.Tl
open Go.RowKit Oct Mv Go.Maps
theorem List64.still {w w':World} {v:Value} {l:List Nat} (h:List64 w v l) (k:Below w.heap.size w w'):List64 w' v l:=by
 obtain ⟨A,cap,e,h2⟩:=h
 exact ⟨A,cap,e,h2.below k⟩
theorem ints_at (l:List Nat) (i:Nat) (h:i<l.length):(ints l)[i]?=some (.int .i64 (l[i]:Int)):=by simp [ints,h]
end Go.Proofs.YtogchamogbendaaGreat.Tl
namespace Go.Proofs.YtogchamogbendaaGreat.Tl
open Go.RowKit Oct Mv Go.Maps
theorem down_eq {w:World} {a cb mb c:Nat} {s s':St} (h:At w a cb mb c s) (b r:Int) (hr:s.down b=(r,s')) :
  Calls Tryz.prog 100 #[.pointer (some ⟨a,0,none⟩),.int .i64 b] w fun e w'=>e = .returned (.int .i64 r)∧At w' a cb mb c s'∧But w w' cb mb:=by
 have:=down_at h b
 rw [hr] at this
 exact this
end Go.Proofs.YtogchamogbendaaGreat.Tl
namespace Go.Proofs.YtogchamogbendaaGreat.Tl
open Go.RowKit Oct Mv Go.Maps Go.ChangeShapes Go.WideShapes Go.ChangeAt
section
variable {H:Type} {enc:TypeId×Value→H} {W:World}
theorem two {α:Type} : ∀(l:List α),l.length=2 → ∃c0 c1,l = [c0,c1]
 | [c0,c1],_=>⟨c0,c1,rfl⟩
 | [],h | [_],h=>by simp at h
 | _ :: _ :: _ :: _,h=>by simp at h
end
end Go.Proofs.YtogchamogbendaaGreat.Tl
namespace Go.Proofs.YtogchamogbendaaGreat.Tl
open Go.RowKit Oct Mv Go.Maps
def spot (n:Nat) (b:Int):Nat:=((b.tmod n+n).tmod n).toNat
theorem spot_is {n:Nat} (h:0<n) (b:Int):(b.tmod n+n).tmod n=(spot n b:Int):=by
 unfold spot
 have h1:(0:Int)<n:=by omega
 have h2:=Int.lt_tmod_of_pos b h1
 have h5:0≤(b.tmod n+n).tmod n:=Int.tmod_nonneg _ (by omega)
 omega
theorem calls_flip {P:Program} {f:FuncId} {args:Array Value} {w:World} {v:Value} (h:Calls P f args w fun e w'=>e = .returned v∧w=w'):Calls P f args w fun e w'=>e = .returned v∧w'=w :=
 h.mono fun _ _ ⟨h1,h2⟩=>⟨h1,h2.symm⟩
theorem At.drewN {w:World} {a cb mb c:Nat} {s:St} (h:At w a cb mb c s) (n:Nat):At (w.drewN n) a cb mb c s:=h.blocks rfl rfl rfl
end Go.Proofs.YtogchamogbendaaGreat.Tl
namespace Go.Proofs.YtogchamogbendaaGreat.Tl
open Go.RowKit Oct Mv Go.Maps
def bools (l:List Bool):List Value:=l.map .bool
theorem bool_info:(Tryz.prog.info? 4).map (fun i=>(i.zero,i.size,i.bytes))=some (some (.bool false),1,1):=by kernel_rfl
theorem made_flags (n:Nat):madeCells (Value.bool false).cells n=(bools (List.replicate n false)).toArray:=by
 apply Array.ext
 ·simp [madeCells,bools]
 ·intro i h1 h2
  simp [madeCells,bools,Value.cells,Nat.mod_one]
theorem run_make_flags (w:World) (n:Nat) (hn:n≤4096) :
  (Instr.makeSlice 277 (.int .i64 (n:Int)) (.int .i64 (n:Int))).run Tryz.prog w = .ok (.slice (some ⟨w.heap.size,0,none⟩) n n) (w.alloc (.cells (bools (List.replicate n false)).toArray 4)):=by
 obtain ⟨i0,hi,hz0,hz1,hz2⟩:=info_parts bool_info
 have h:=run_make (P:=Tryz.prog) w 277 4 i0 (.bool false) Tryz.underlying277 hi hz0 .i64 .i64 n n (by omega) (by omega) (by rw [hz2]; omega) (by omega)
 rw [hz1,Nat.mul_one,Int.toNat_natCast,made_flags] at h
 exact h
def flags (p:Nat→Bool) (n k:Nat):List Value:=(List.range n).map fun j => .bool (decide (j<k)&&p j)
end Go.Proofs.YtogchamogbendaaGreat.Tl
namespace Go.Proofs.YtogchamogbendaaGreat.Tl
open Go.RowKit Oct Mv Go.Maps
def most (n i k:Nat):St:=(St.new n).put i (UInt16.ofNat k)
theorem n_new (n:Nat):(St.new n).n=n:=by simp [St.n,St.new]
theorem cnt_new (n j:Nat):(St.new n).cnt j=0:=by
 unfold St.cnt St.new
 simp only [List.getD_eq_getElem?_getD,List.getElem?_replicate]
 split <;> rfl
theorem was_new (n j:Nat):(St.new n).was j=0:=cnt_new n j
end Go.Proofs.YtogchamogbendaaGreat.Tl
namespace Go.Proofs.YtogchamogbendaaGreat.Tl
open Go.RowKit Oct Mv Go.Maps
def Most (k:Nat) (s:St):Prop := ∀j,(s.cnt j).toNat≤k∧(s.was j).toNat≤k
theorem Most.put {k:Nat} {s:St} (h:Most k s) {p:Nat} (hp:p<s.n) {c:UInt16} (hc:c.toNat≤k+1):Most (k+1) (s.put p c):=fun j=>by
 rw [cnt_put hp,was_put]
 have:=h j
 split <;> omega
def OwnI (w:World) (base:Nat) (v:Value) (l:List Int):Prop:=w.ownsRow base 3 1 v l.length (l.map (Value.int .i64))
theorem int_info:(Tryz.prog.info? 3).map (fun i=>(i.zero,i.size,i.bytes))=some (some (.int .i64 0),1,8):=by kernel_rfl
theorem own_nil (w:World) (base:Nat):OwnI w base (.slice none 0 0) []:=⟨rfl,.inl ⟨rfl,rfl⟩⟩
theorem push_int {w:World} {base:Nat} {v:Value} {l:List Int} (h:OwnI w base v l) {q:Nat} {z:Int} (R:w.cell? ⟨q,0,none⟩=some (.int .i64 z)) (ty:TypeId) (hl:l.length≤4096) (hb:base≤w.heap.size) :
  ∃v' w',(Builtin.append_ #[51,51] ty #[v,.slice (some ⟨q,0,none⟩) 1 1]).run Tryz.prog w = .ok v' w'∧OwnI w' base v' (l ++ [z])∧Below base w w':=by
 obtain ⟨i0,hi,hz0,hz1,hz2⟩:=info_parts int_info
 obtain ⟨v',w',hr,ho,hg,_⟩:=run_append_own (P:=Tryz.prog) w base 51 ty 3 i0 (.int .i64 0) 1 8 Tryz.underlying51 hi hz0 hz1 hz2 rfl (by omega) v l.length (l.map (Value.int .i64)) h ⟨q,0,none⟩ 1 1 [.int .i64 z] rfl
  (fun j u hj=>by
   rcases j with _ | j
   ·simp at hj
    subst hj
    rw [add_plain]
    exact R
   ·simp at hj)
  (fun u hu=>by simp at hu; subst hu; rfl) (by unfold maxLen; omega) (by omega) hb
 refine ⟨v',w',hr,?_,⟨hg.os,hg.tape,hg.output,hg.size,fun k hk=>hg.block k (by omega) (fun e => ?_)⟩⟩
 ·unfold OwnI
  rw [List.length_append,List.map_append]
  exact ho
 ·have:=(World.ownsRow.lt h k e.symm).1
  omega
theorem OwnI.below {w w':World} {base:Nat} {v:Value} {l:List Int} (h:OwnI w base v l) (k:Below w.heap.size w w'):OwnI w' base v l:=by
 refine ⟨h.1,?_⟩
 rcases h.2 with hn | ⟨g,cap,cur,rfl,hb,hgg,rest⟩
 ·exact .inl hn
 ·refine .inr ⟨g,cap,cur,rfl,hb,?_,rest⟩
  rw [k.block g (Array.getElem?_eq_some_iff.1 hgg).1]
  exact hgg
end Go.Proofs.YtogchamogbendaaGreat.Tl
namespace Go.Proofs.YtogchamogbendaaGreat.Tl
open Go.RowKit Oct Mv Go.Maps
def wide (l:List UInt16):List Value:=l.map fun c => .int .i64 (c.toNat:Int)
theorem wide_at (l:List UInt16) (i:Nat) (h:i<l.length):(wide l)[i]?=some (.int .i64 ((l.getD i 0).toNat:Int)):=by simp [wide,h]
structure RAt (w:World) (b1 c1 b2 c2:Nat) (s:St):Prop where
 now:HasV w b1 0 (wide s.now)
 kept:HasV w b2 0 (wide s.kept)
 ok:s.Ok
section
variable {w w':World} {b1 c1 b2 c2:Nat} {s:St}
theorem RAt.cnt (h:RAt w b1 c1 b2 c2 s) {i:Nat} (hi:i<s.n):w.cell? ⟨b1,i,none⟩=some (.int .i64 ((s.cnt i).toNat:Int)):=by
 have:=h.now.cellAt (wide_at s.now i hi)
 rwa [Nat.zero_add] at this
theorem RAt.was (h:RAt w b1 c1 b2 c2 s) {i:Nat} (hi:i<s.n):w.cell? ⟨b2,i,none⟩=some (.int .i64 ((s.was i).toNat:Int)):=by
 have hl:i<s.kept.length:=by rw [h.ok.len]; exact hi
 have:=h.kept.cellAt (wide_at s.kept i hl)
 rwa [Nat.zero_add] at this
end
theorem results_cell_one {fn:Func} {p:Tmp} {ty:TypeId} (h:fn.results = #[.cell p ty]) (tmps:Array Value) (P:Program) (w:World) :
  (results fn tmps).run P w=((asAddr (tmps.getD p undef)).run P w).andThen fun a w₁=>(loadVar ty a).run P w₁:=by
 simp only [results,h]
 simp [Sem.run_bind,Result.andThen]
end Go.Proofs.YtogchamogbendaaGreat.Tl
namespace Go.Proofs.YtogchamogbendaaGreat.Tl
open Go.RowKit Oct Mv Go.Maps
def toI (l:List Nat):List Int:=l.map fun i:Nat=>(i:Int)
theorem OwnI.list {w:World} {base:Nat} {v:Value} {l:List Nat} (h:OwnI w base v (toI l)):List64 w v l:=by
 have hl:(toI l).length=l.length:=by simp [toI]
 rcases h.2 with ⟨rfl,e⟩ | ⟨g,cap,cur,rfl,hb,hgg,rest⟩
 ·rw [hl] at e
  exact ⟨none,0,by rw [e],.inl (by simp [ints,List.eq_nil_of_length_eq_zero e])⟩
 ·refine ⟨_,cap,by rw [hl],.inr ⟨g,0,rfl,fun i hi => ?_⟩⟩
  rw [length_ints] at hi
  rw [Nat.zero_add,World.ownsRow.cellAt h i (by rw [hl]; omega)]
  simp [toI,ints,hi]
end Go.Proofs.YtogchamogbendaaGreat.Tl
namespace Go.Proofs.YtogchamogbendaaGreat.Tl
open Go.RowKit Oct Mv Go.Maps
theorem wp_append_run {P:Program} {w:World} {o:Oper} {a:Act} {K:Act→World→Prop} {Q:Exit→Act→World→Prop} (s x:Operand) (t:TypeId)
  (ho:o.op = .call { callee := .builtin .append,args := #[s,x],argTypes := #[t,t] }) (v1 v2:Value) (hs:a.eval s=v1) (hx:a.eval x=v2) (v':Value) (w':World)
  (hrun:(Builtin.append_ #[t,t] o.type #[v1,v2]).run P w = .ok v' w') (h:K (a.put o.dst v') w'):o.wp P a w K Q:=by
 unfold Oper.wp
 simp [execOp,ho,resolve,invoke,builtin,hs,hx,hrun,Result.andThen]
 exact h
theorem if_wanted {c:Bool} {A B:Prop} (h:c=true) (a:A):if c=true then A else B:=by rw [if_pos h]; exact a
end Go.Proofs.YtogchamogbendaaGreat.Tl
namespace Go.Proofs.YtogchamogbendaaGreat.Tl
open Lib (hid)
open Go.RowKit Oct Mv Go.Maps
theorem app_words {w:World} {A:Option Addr} {n c:Nat} {l:List UInt16} (hA : ∃b o,A=some ⟨b,o,none⟩∧HasV w b o (nums l)) (hl:l.length=n) (h0:0<n) (hn:n≤4096) (q:Nat) (hq:w.heap[q]?=some (.cells #[] 34 (0,0))) (ty:TypeId) :
  ∃g cap sp w',(Builtin.append_ #[134,134] ty #[.slice (some ⟨q,0,none⟩) 0 0,.slice A n c]).run Tryz.prog w = .ok (.slice (some ⟨g,0,none⟩) n cap) w'∧RowV w' g 34 (nums l++sp)∧n≤cap∧q≤g∧Below q w w':=by
 obtain ⟨b,o,rfl,hh⟩:=hA
 obtain ⟨i0,hi,hz0,hz1,hz2⟩:=info_parts word_info
 have hql:=(Array.getElem?_eq_some_iff.1 hq).1
 have hown:w.ownsRow q 34 1 (.slice (some ⟨q,0,none⟩) 0 0) 0 []:=⟨rfl,.inr ⟨q,0,#[],rfl,Nat.le_refl _,hq,Nat.le_refl _,by unfold maxLen; omega,rfl,rfl⟩⟩
 obtain ⟨v',w',hr,ho,hg,hnil⟩:=run_append_own (P:=Tryz.prog) w q 134 ty 34 i0 (.int .u16 0) 1 2 Tryz.underlying134 hi hz0 hz1 hz2 rfl (by omega) _ _ _ hown ⟨b,o,none⟩ n c (nums l) (by rw [length_nums,hl,Nat.mul_one])
  (fun j u hj=>by
   rw [add_plain]
   exact hh.cellAt hj)
  (fun u hu=>by simp [nums] at hu; obtain ⟨c,_,rfl⟩:=hu; rfl) (by unfold maxLen; omega) (by omega) (by omega)
 rw [List.nil_append,Nat.zero_add] at ho
 rcases ho.2 with ⟨rfl,e⟩ | ⟨g,cap,cur,rfl,hb,hgg,hle,hm,hs,ht⟩
 ·omega
 ·rw [Nat.mul_one] at ht
  refine ⟨g,cap,cur.toList.drop n,w',hr,?_,hle,hb,⟨hg.os,hg.tape,hg.output,hg.size,fun k hk=>hg.block k (by omega) (fun e => ?_)⟩⟩
  ·unfold RowV
   rw [hgg,← ht,List.take_append_drop]
  ·simp only [Value.ownBlock,Option.some.injEq] at e
   omega
theorem eql_slice (x:Addr) (n c:Nat) (w:World):(binOp .eql 134 (.slice (some x) n c) (.slice none 0 0)).run Tryz.prog w = .ok (.bool false) w:=by
 have h : ∀d:Nat,(Op.equalIn (d+1) 134 (.slice (some x) n c) (.slice none 0 0)).run Tryz.prog w = .ok false w:=fun d=>by
  simp [Op.equalIn,run_underlying Tryz.underlying134]
 simp only [binOp]
 simp [Op.equal,Op.maxDepth,h 9999]
theorem clone_yes {w:World} {A:Option Addr} {n c:Nat} {l:List UInt16} (hT:ToldV w A (nums l)) (hl:l.length=n) (h0:0<n) (hn:n≤4096) :
  Calls Tryz.prog 142 #[.slice A n c] w fun e w' => ∃g cap sp,e = .returned (.slice (some ⟨g,0,none⟩) n cap)∧RowV w' g 34 (nums l++sp)∧n≤cap∧w.heap.size≤g∧Below w.heap.size w w':=by
 obtain ⟨b,o,rfl,hh⟩:=hT.has (by rw [length_nums,hl]; exact h0)
 have B1:=(Below.refl w.heap.size w).alloc (Nat.le_refl _) (.cells #[] 34)
 have hq:=heap_alloc_new w (.cells #[] 34)
 obtain ⟨g,cap,sp,w2,hrun,hR,hcap,hg,hB⟩:=app_words (c:=c) ⟨b,o,rfl,hh.below (hh.lt (by rw [length_nums,hl]; exact h0)) B1⟩ hl h0 hn w.heap.size hq 134
 have HR:=hid hR
 have HB:=hid (B1.trans hB)
 have heq:=eql_slice ⟨b,o,none⟩ n c w
 clear B1 hq hR hB hh hT
 go_enter Tryz.func142,Tryz.ntmps142
 go_wp2_with (at_builtin; refine wpList_append_run rfl (.tmp 5) (.tmp 6) 134 rfl _ _ rfl rfl _ w2 hrun ?_)
 go_ret
 exact ⟨g,cap,sp,rfl,HR.out,hcap,hg,HB.out⟩
theorem of_yes {w:World} {A:Option Addr} {n c:Nat} {l:List UInt16} (hT:ToldV w A (nums l)) (hl:l.length=n) (h0:1≤n) (hn:n≤4096) :
  Calls Tryz.prog 76 #[.slice A n c] w fun e w' => ∃a cb mb k,e = .returned (.tuple #[.pointer (some ⟨a,0,none⟩),.int .i64 0])∧Fresh w w' a cb mb k (St.of l):=by
 have H:=hid hT
 clear hT
 go_enter Tryz.func76,Tryz.ntmps76
 go_wp2_with fail
 refine (may_yes (n:Int) (by omega) (by omega) w).mono ?_
 rintro e w' ⟨rfl,rfl⟩
 go_wp2_with fail
 refine (clone_yes H.out hl h0 hn).mono ?_
 rintro e w1 ⟨g,cap,sp,rfl,hR,hcap,hg,hB⟩
 have HR:=hid hR
 have HB:=hid hB
 have HG:=hid hg
 have HC:=hid hcap
 clear hR hB hg hcap
 go_wp2_with fail
 have hb:=build_any HR.out (c:=cap) (.of (by rw [hl]; exact h0) (by rw [hl]; exact hn)) (by rw [hl]; exact HC.out)
 rw [hl] at hb
 refine hb.mono ?_
 rintro e w2 ⟨a,mb,rfl,hM⟩
 have HM:=hid hM
 clear hM hb
 go_wp2_with fail
 go_ret2
 exact ⟨a,g,mb,cap,rfl,HM.out.at',HB.out.trans (HM.out.below.mono HB.out.size),Nat.le_trans HB.out.size HM.out.ha,HG.out,Nat.le_trans HB.out.size HM.out.hm⟩
end Go.Proofs.YtogchamogbendaaGreat.Tl
