import Derived.Outline
import Derived.LaidEqlPtr
import Derived.StillTailTactics
import Derived.Deep.RegionHeld3
import Derived.Deep.WholeRow
import Derived.Great.BuildSlice
import Derived.Deep.Grids
import Derived.Deep.SlicePairs
import Derived.Lib.SmallJoins
import Derived.IntWalk
import Derived.Test.YtogchamogbendaaGreatQta
set_option maxRecDepth 100000
set_option linter.unusedVariables false
set_option linter.unusedSimpArgs false
namespace Go.Proofs.YtogchamogbendaaGreat.Dsk
open Go.RowKit Oct
structure St where
 n:Nat
 B:List UInt8
 W:List (Nat×List UInt8)
 gone:Bool
 armed:Bool
 left:Nat
def wcells (W:List (Nat×List UInt8)):List Value:=W.flatMap fun x => .int .i64 (x.1:Int) :: vals x.2
structure St.Ok (s:St):Prop where
 lo:16≤s.n
 hi:s.n≤4096
 len:s.B.length=s.n*128
 wait : ∀x,x∈s.W→x.1<s.n∧x.2.length=128
 few:s.W.length≤1000000
 left:s.left≤9223372036854775807
structure At (w:World) (base a bb bc:Nat) (wv:Value) (s:St):Prop where
 lo:base≤a
 head:w.heap[a]?=some (.cells #[.slice (some ⟨bb,0,none⟩) s.n bc,wv,.bool s.gone,.bool s.armed,.int .i64 (s.left:Int),.pointer (some ⟨a,0,none⟩)] 155 (0,0))
 blocks:w.ownsRow base 146 128 (.slice (some ⟨bb,0,none⟩) s.n bc) s.n (vals s.B)
 waits:w.ownsRow base 158 129 wv s.W.length (wcells s.W)
 ok:s.Ok
section
variable {w:World} {base a bb bc:Nat} {wv:Value} {s:St}
theorem At.c0 (h:At w base a bb bc wv s):w.cell? ⟨a,0,none⟩=some (.slice (some ⟨bb,0,none⟩) s.n bc):=cell_of_row w a 0 _ _ _ h.head
theorem At.c1 (h:At w base a bb bc wv s):w.cell? ⟨a,1,none⟩=some wv:=cell_of_row w a 1 _ _ _ h.head
theorem At.c2 (h:At w base a bb bc wv s):w.cell? ⟨a,2,none⟩=some (.bool s.gone):=cell_of_row w a 2 _ _ _ h.head
theorem At.c3 (h:At w base a bb bc wv s):w.cell? ⟨a,3,none⟩=some (.bool s.armed):=cell_of_row w a 3 _ _ _ h.head
theorem At.c4 (h:At w base a bb bc wv s):w.cell? ⟨a,4,none⟩=some (.int .i64 (s.left:Int)):=cell_of_row w a 4 _ _ _ h.head
theorem At.c5 (h:At w base a bb bc wv s):w.cell? ⟨a,5,none⟩=some (.pointer (some ⟨a,0,none⟩)):=cell_of_row w a 5 _ _ _ h.head
theorem At.f (h:At w base a bb bc wv s) (i:Nat):w.frozen? ⟨a,i,none⟩=false:=by simp [World.frozen?,h.head]
theorem At.lt (h:At w base a bb bc wv s):a<w.heap.size:=(Array.getElem?_eq_some_iff.1 h.head).1
theorem At.cap (h:At w base a bb bc wv s):s.n≤bc∧bc≤maxLen:=by
 rcases h.blocks.2 with ⟨h0,_⟩ | ⟨g,cap,cur,hv,_,_,h1,h2,_⟩
 ·cases h0
 ·cases hv
  exact ⟨h1,h2⟩
end
theorem disk_info:(Tryz.prog.info? 155).isSome=true:=by kernel_rfl
theorem eql_self (a:Nat) (w:World):(binOp .eql 23 (.pointer (some ⟨a,0,none⟩)) (.pointer (some ⟨a,0,none⟩))).run Tryz.prog w = .ok (.bool true) w:=by
 obtain ⟨j,hj⟩:=Option.isSome_iff_exists.1 disk_info
 exact run_eql_ptr_same (P:=Tryz.prog) w ⟨a,0,none⟩ Tryz.underlying23 hj
theorem eql_nil (a:Addr) (w:World):(binOp .eql 23 (.pointer none) (.pointer (some a))).run Tryz.prog w = .ok (.bool false) w:=by
 have h : ∀d:Nat,(Op.equalIn (d+1) 23 (.pointer none) (.pointer (some a))).run Tryz.prog w = .ok false w:=fun d=>by
  simp [Op.equalIn,run_underlying Tryz.underlying23]
 simp only [binOp]
 simp [Op.equal,Op.maxDepth,h 9999]
theorem made_self (a:Nat) (w:World) (h:w.cell? ⟨a,5,none⟩=some (.pointer (some ⟨a,0,none⟩))) :
  Calls Tryz.prog 79 #[.pointer (some ⟨a,0,none⟩)] w fun e w'=>e = .returned (.bool true)∧w=w':=by
 have k:=eql_self a w
 go_enter Tryz.func79,Tryz.ntmps79
 go_wp2
 go_ret
 exact ⟨rfl,rfl⟩
theorem len_at {w:World} {base a bb bc:Nat} {wv:Value} {s:St} (h:At w base a bb bc wv s) :
  Calls Tryz.prog 20 #[.pointer (some ⟨a,0,none⟩)] w fun e w'=>e = .returned (.int .i64 (s.n:Int))∧w=w':=by
 have c0:=h.c0
 have c5:=h.c5
 have H:=Lib.hid h
 clear h
 go_enter Tryz.func20,Tryz.ntmps20
 go_wp2_with fail
 refine (made_self a _ c5).mono ?_
 rintro e w' ⟨rfl,rfl⟩
 go_wp2
 go_ret
 exact ⟨rfl,rfl⟩
theorem has_yes (a bb n bc:Nat) (i:Int) (w:World) (c0:w.cell? ⟨a,0,none⟩=some (.slice (some ⟨bb,0,none⟩) n bc)) (h0:0≤i) (h1:i<n) :
  Calls Tryz.prog 91 #[.pointer (some ⟨a,0,none⟩),.int .i64 i] w fun e w'=>e = .returned (.bool true)∧w=w':=by
 go_enter Tryz.func91,Tryz.ntmps91
 go_wp2
 go_ret
 exact ⟨rfl,rfl⟩
theorem has_no (a bb n bc:Nat) (i:Int) (w:World) (c0:w.cell? ⟨a,0,none⟩=some (.slice (some ⟨bb,0,none⟩) n bc)) (h : ¬(0≤i∧i<n)) :
  Calls Tryz.prog 91 #[.pointer (some ⟨a,0,none⟩),.int .i64 i] w fun e w'=>e = .returned (.bool false)∧w=w':=by
 by_cases h0:0≤i
 ·have h1:decide (i<(n:Int))=false:=by simp; omega
  clear h
  go_enter Tryz.func91,Tryz.ntmps91
  go_wp2
  go_ret
  exact ⟨rfl,rfl⟩
 ·clear h
  go_enter Tryz.func91,Tryz.ntmps91
  go_wp2
  go_ret
  exact ⟨rfl,rfl⟩
end Go.Proofs.YtogchamogbendaaGreat.Dsk
namespace Go.Proofs.YtogchamogbendaaGreat.Dsk
open Go.RowKit Oct
structure Turned (T:TypeId→Bool) (base:Nat) (w w':World):Prop where
 os:w'.os=w.os
 tape:w'.tape=w.tape
 output:w'.output=w.output
 size:w.heap.size≤w'.heap.size
 block : ∀k,k<w.heap.size→(k<base ∨ ∀cs t fr,w.heap[k]?=some (.cells cs t fr)→T t=false)→w'.heap[k]?=w.heap[k]?
theorem Turned.refl (T:TypeId→Bool) (base:Nat) (w:World):Turned T base w w:=⟨rfl,rfl,rfl,Nat.le_refl _,fun _ _ _=>rfl⟩
theorem Turned.trans {T:TypeId→Bool} {base:Nat} {a b c:World} (h:Turned T base a b) (k:Turned T base b c):Turned T base a c :=
 ⟨k.os.trans h.os,k.tape.trans h.tape,k.output.trans h.output,Nat.le_trans h.size k.size,fun i hi hc=>by
  have e:=h.block i hi hc
  refine (k.block i (Nat.lt_of_lt_of_le hi h.size) ?_).trans e
  rw [e]
  exact hc⟩
theorem Turned.of_below {T:TypeId→Bool} {base:Nat} {w w':World} (h:Below w.heap.size w w'):Turned T base w w' :=
 ⟨h.os,h.tape,h.output,h.size,fun k hk _=>h.block k hk⟩
theorem Turned.setCell {T:TypeId→Bool} {base:Nat} {a w:World} (h:Turned T base a w) {p:Addr} (hp:base≤p.block) {cs:Array Value} {t:TypeId} {fr:Nat×Nat} (hc:w.heap[p.block]?=some (.cells cs t fr)) (ht:T t=true) (u:Value):Turned T base a (w.setCell p u) :=
 h.trans ⟨rfl,rfl,rfl,by simp [World.setCell],fun k hk hk2=>by
  refine Below.heap_setCell _ _ _ _ fun e => ?_
  subst e
  rcases hk2 with h1 | h1
  ·omega
  ·rw [h1 _ _ _ hc] at ht; cases ht⟩
theorem Turned.mono {T:TypeId→Bool} {base base':Nat} {w w':World} (h:Turned T base w w') (hb:base'≤base):Turned T base' w w' :=
 ⟨h.os,h.tape,h.output,h.size,fun k hk hc=>h.block k hk (hc.imp (fun h=>by omega) id)⟩
def dT (t:TypeId):Bool:=t == 155 || (t == 146 || t == 158)
section
variable {w w':World} {base a bb bc:Nat} {wv:Value} {s s':St}
theorem At.ne_blocks (h:At w base a bb bc wv s):bb≠a:=by
 rcases h.blocks.2 with ⟨h0,_⟩ | ⟨g,cap,cur,hv,_,h1,_⟩
 ·cases h0
 ·cases hv
  rintro rfl
  rw [h.head] at h1
  cases h1
theorem At.ne_waits (h:At w base a bb bc wv s):wv.ownBlock≠some a:=by
 rcases h.waits.2 with ⟨rfl,_⟩ | ⟨g,cap,cur,rfl,_,h1,_⟩
 ·simp [Value.ownBlock]
 ·intro e
  have:g=a:=by simpa [Value.ownBlock] using e
  subst this
  rw [h.head] at h1
  cases h1
theorem own_same {e:TypeId} {size n:Nat} {v:Value} {xs:List Value} (h:w.ownsRow base e size v n xs) (hk : ∀k,v.ownBlock=some k→k<w.heap.size→w'.heap[k]?=w.heap[k]?):w'.ownsRow base e size v n xs:=by
 refine ⟨h.1,?_⟩
 rcases h.2 with hn | ⟨g,cap,cur,rfl,hb,hgg,rest⟩
 ·exact .inl hn
 ·exact .inr ⟨g,cap,cur,rfl,hb,(hk g rfl (Array.getElem?_eq_some_iff.1 hgg).1).trans hgg,rest⟩
theorem At.same (h:At w base a bb bc wv s) (hk : ∀k cs t fr,base≤k→k<w.heap.size→w.heap[k]?=some (.cells cs t fr)→dT t=true→w'.heap[k]?=w.heap[k]?):At w' base a bb bc wv s where
 lo:=h.lo
 head:=(hk a _ _ _ h.lo h.lt h.head rfl).trans h.head
 blocks:=own_same h.blocks fun k hb hl=>by
  rcases h.blocks.2 with ⟨h0,_⟩ | ⟨g,cap,cur,hv,hg,h1,_⟩
  ·cases h0
  ·cases hv
   cases hb
   exact hk _ _ _ _ hg hl h1 rfl
 waits:=own_same h.waits fun k hb hl=>by
  rcases h.waits.2 with ⟨rfl,h0⟩ | ⟨g,cap,cur,rfl,hg,h1,_⟩
  ·cases hb
  ·cases hb
   exact hk _ _ _ _ hg hl h1 rfl
 ok:=h.ok
theorem At.below (h:At w base a bb bc wv s) (hb:Below w.heap.size w w'):At w' base a bb bc wv s:=h.same fun k _ _ _ _ hl _ _=>hb.block k hl
end
def St.can (s:St):Bool := !(s.armed&&s.left==0)
def St.spent (s:St):St := { s with gone:=if s.armed&&s.left==0 then true else s.gone,armed:=if s.armed&&s.left==0 then false else s.armed,left:=if s.armed then s.left-1 else s.left }
def St.arm (s:St) (n:Nat):St := { s with gone:=false,armed:=true,left:=n }
end Go.Proofs.YtogchamogbendaaGreat.Dsk
namespace Go.Proofs.YtogchamogbendaaGreat.Dsk
open Go.RowKit Oct
def last? (W:List (Nat×List UInt8)) (at_:Nat):Option (List UInt8):=W.foldl (fun o x=>if x.1=at_ then some x.2 else o) none
theorem last?_nil (p:Nat):last? [] p=none:=rfl
theorem last?_snoc (W:List (Nat×List UInt8)) (x:Nat×List UInt8) (p:Nat):last? (W ++ [x]) p=if x.1=p then some x.2 else last? W p:=by simp [last?,List.foldl_append]
def St.stand (s:St) (p:Nat):List UInt8:=(s.B.drop (p*128)).take 128
def St.says (s:St) (p:Nat):List UInt8:=(last? s.W p).getD (s.stand p)
theorem take_snoc {α:Type} (W:List α) (k:Nat) (h:k<W.length):W.take (k+1)=W.take k ++ [W[k]]:=by
 rw [List.take_succ_eq_append_getElem h]
theorem wcells_at (W:List (Nat×List UInt8)) (h : ∀x,x∈W→x.2.length=128) (i:Nat) (hi:i<W.length) (j:Nat) (hj:j<129) :
  (wcells W)[i*129+j]?=(Value.int .i64 (W[i].1:Int) :: vals W[i].2)[j]?:=by
 induction W generalizing i with
 | nil=>simp at hi
 | cons x W ih =>
  have h1:=h x (by simp)
  have hl:(Value.int .i64 (x.1:Int) :: vals x.2).length=129:=by simp [length_vals,h1]
  show ((Value.int .i64 (x.1:Int) :: vals x.2)++wcells W)[i*129+j]?=_
  cases i with
  | zero =>
   rw [List.getElem?_append_left (by omega)]
   simp
  | succ i =>
   rw [List.getElem?_append_right (by omega),hl,show (i+1)*129+j-129=i*129+j by omega]
   exact ih (fun y hy=>h y (by simp [hy])) i (by simpa using hi)
theorem wcells_snoc (W:List (Nat×List UInt8)) (x:Nat×List UInt8):wcells (W ++ [x])=wcells W++(.int .i64 (x.1:Int) :: vals x.2):=by simp [wcells]
section
variable {w w':World} {base a bb bc:Nat} {wv:Value} {s s':St}
theorem At.wform (h:At w base a bb bc wv s) : ∃A cap,wv = .slice A s.W.length cap∧s.W.length≤cap∧cap≤maxLen∧(0<s.W.length → ∃g,A=some ⟨g,0,none⟩∧wv.ownBlock=some g):=by
 rcases h.waits.2 with ⟨h1,h0⟩ | ⟨g,cap,cur,h1,_,_,h2,h3,_⟩
 ·exact ⟨none,0,by rw [h1,h0],by omega,Nat.zero_le _,fun h=>by omega⟩
 ·exact ⟨_,cap,h1,h2,h3,fun _=>⟨g,rfl,by rw [h1]; rfl⟩⟩
theorem At.wlen (h:At w base a bb bc wv s) : ∀x,x∈s.W→x.2.length=128:=fun x hx=>(h.ok.wait x hx).2
theorem At.wat (h:At w base a bb bc wv s) {g cap:Nat} (hv:wv = .slice (some ⟨g,0,none⟩) s.W.length cap) (i:Nat) (hi:i<s.W.length) :
  w.cell? ⟨g,i*129,none⟩=some (.int .i64 (s.W[i].1:Int))∧Has w g (i*129+1) s.W[i].2:=by
 have hb:wv.ownBlock=some g:=by rw [hv]; rfl
 have key : ∀j,j<129→w.cell? ⟨g,i*129+j,none⟩=(Value.int .i64 (s.W[i].1:Int) :: vals s.W[i].2)[j]?:=fun j hj=>by
  have h1:=wcells_at s.W h.wlen i hi j hj
  have hl:j<(Value.int .i64 (s.W[i].1:Int) :: vals s.W[i].2).length:=by
   have:=h.wlen s.W[i] (List.getElem_mem hi)
   simp [length_vals]; omega
  rw [List.getElem?_eq_getElem hl] at h1 ⊢
  have:=h.waits.cells hb _ _ h1
  rw [add_plain,Nat.zero_add] at this
  exact this
 refine ⟨key 0 (by omega),fun j hj => ?_⟩
 have h2:=h.wlen s.W[i] (List.getElem_mem hi)
 have:=key (1+j) (by omega)
 rw [← Nat.add_assoc] at this
 rw [this,Nat.add_comm 1 j]
 simp [vals,hj]
theorem At.bat (h:At w base a bb bc wv s) (p:Nat) (hp:p<s.n):Has w bb (p*128) (s.stand p):=by
 intro j hj
 have hl:j<128:=by simp [St.stand] at hj; omega
 have hB:=h.ok.len
 have h1:(vals s.B)[p*128+j]?=some (.int .u8 (((s.stand p)[j]'hj).toNat:Int)):=by
  have:p*128+j<s.B.length:=by omega
  simp [vals,this,St.stand]
 have:=h.blocks.cells (g:=bb) rfl _ _ h1
 rw [add_plain,Nat.zero_add] at this
 exact this
end
end Go.Proofs.YtogchamogbendaaGreat.Dsk
namespace Go.Proofs.YtogchamogbendaaGreat.Dsk
open Lib (hid)
open Go.RowKit Oct
def SaysPost (w:World) (bs:List UInt8) (e:Ending) (w':World):Prop := ∃g o,e = .returned (.pointer (some ⟨g,o,none⟩))∧g<w.heap.size∧Has w g o bs∧w=w'
theorem says_at {w:World} {base a bb bc:Nat} {wv:Value} {s:St} (h:At w base a bb bc wv s) (p:Nat) (hp:p<s.n) :
  Calls Tryz.prog 92 #[.pointer (some ⟨a,0,none⟩),.int .i64 (p:Int)] w (SaysPost w (s.says p)):=by
 obtain ⟨A,cap,hv,hwc,hm,hA⟩:=h.wform
 have c0:=h.c0
 have c1:=h.c1
 rw [hv] at c1
 have hfew:=h.ok.few
 have hbc:=h.cap
 obtain ⟨hbc1,hbc2⟩:=hbc
 unfold maxLen at hbc2 hm
 have H:=hid h
 have HV:=hid hv
 have HA:=hid hA
 clear h hv hA
 go_enter Tryz.func92,Tryz.ntmps92
 go_wp2
 go_loop [5] (fun i => ∃(z:Int) (k:Nat),k≤s.W.length∧i = .int .i64 z∧z≤k-1∧k-1≤z∧Hid (last? (s.W.take k) p=last? s.W p)) (fun i=>(intOf i+1).toNat)
 case atStart=>exact ⟨_,s.W.length,Nat.le_refl _,rfl,by omega,by omega,hid (by rw [List.take_length])⟩
 case round =>
  obtain ⟨z,k,hk,rfl,h1,h2,hl⟩:=hrel
  by_cases hz:0≤z
  ·obtain ⟨m,rfl⟩:=Int.eq_ofNat_of_zero_le hz
   obtain rfl:k=m+1:=by omega
   obtain ⟨g,hg,hg2⟩:=HA.out (by omega)
   obtain ⟨W1,W2⟩:=H.out.wat (by rw [HV.out,hg]) m (by omega)
   subst hg
   have HGL:=(World.ownsRow.lt H.out.waits g hg2).2
   have HW2:=hid W2
   have hml:(m:Int)<(s.W.length:Int):=by omega
   have ht2:=hl.out
   rw [take_snoc s.W m (by omega),last?_snoc] at ht2
   have HT:=hid ht2
   clear hl W2 hg2 ht2
   by_cases he:s.W[m].1=p
   ·have ht:((s.W[m].1:Int)==(p:Int))=true:=by simp [he]
    have HE:=hid he
    clear he
    go_wp2
    go_ret
    refine ⟨g,_,rfl,HGL,?_,rfl⟩
    have h3:=HT.out
    rw [if_pos HE.out] at h3
    rw [St.says,← h3]
    exact HW2.out
   ·have ht:((s.W[m].1:Int)==(p:Int))=false:=by rw [beq_eq_false_iff_ne]; omega
    have HE:=hid he
    clear he
    go_wp2
    go_round
    case rel =>
     refine ⟨_,m,by omega,rfl,by omega,by omega,hid ?_⟩
     have h3:=HT.out
     rwa [if_neg HE.out] at h3
    case measure=>simp [intOf]
  ·obtain rfl:k=0:=by omega
   go_wp2
   go_ret
   refine ⟨bb,_,rfl,?_,?_,rfl⟩
   ·exact (World.ownsRow.lt H.out.blocks bb rfl).2
   ·have h3:=hl.out
    rw [List.take_zero,last?_nil] at h3
    rw [St.says,← h3]
    exact H.out.bat p hp
def ReadPost (w:World) (bs:List UInt8) (e:Ending) (w':World):Prop :=
 ∃g,e = .returned (.tuple #[.slice (some ⟨g,0,none⟩) 128 128,.int .i64 0])∧w.heap.size≤g∧Row w' g bs∧Below w.heap.size w w'
theorem length_says {w:World} {base a bb bc:Nat} {wv:Value} {s:St} (h:At w base a bb bc wv s) (p:Nat) (hp:p<s.n):(s.says p).length=128:=by
 unfold St.says
 have hst:(s.stand p).length=128:=by
  have:=h.ok.len
  simp [St.stand]
  omega
 have key : ∀W:List (Nat×List UInt8),(∀x,x∈W→x.2.length=128)→((last? W p).getD (s.stand p)).length=128:=by
  intro W
  induction W using snoc_ind with
  | h0=>intro _; exact hst
  | h1 W x ih =>
   intro hx
   rw [last?_snoc]
   split
   ·exact hx x (by simp)
   ·exact ih (fun y hy=>hx y (by simp [hy]))
 exact key s.W h.wlen
set_option maxHeartbeats 400000 in
theorem read_ok {w:World} {base a bb bc:Nat} {wv:Value} {s:St} (h:At w base a bb bc wv s) (hg:s.gone=false) (p:Nat) (hp:p<s.n) :
  Calls Tryz.prog 21 #[.pointer (some ⟨a,0,none⟩),.int .i64 (p:Int)] w (ReadPost w (s.says p)):=by
 have c0:=h.c0
 have c2:=h.c2
 rw [hg] at c2
 have c5:=h.c5
 have hmk:(Instr.makeSlice 45 (.int .i64 128) (.int .i64 128)).run Tryz.prog w = .ok (.slice (some ⟨w.heap.size,0,none⟩) 128 128) (w.alloc (.cells (vals (List.replicate 128 0)).toArray 5)):=run_make_bytes w 128 (by omega)
 have R1:=alloc_row w (List.replicate 128 0)
 have B1:=(Below.refl w.heap.size w).alloc (Nat.le_refl _) (.cells (vals (List.replicate 128 0)).toArray 5)
 have A1:=h.below B1
 have hl:=length_says h p hp
 generalize w.alloc (.cells (vals (List.replicate 128 0)).toArray 5)=w1 at hmk R1 B1 A1
 obtain ⟨g,hgg⟩ : ∃g,g=w.heap.size:=⟨_,rfl⟩
 rw [← hgg] at hmk R1
 have HG:=hid hgg
 have HL:=hid hl
 have HA:=hid A1
 have HR:=hid R1
 have HB:=hid B1
 clear hgg hl A1 R1 B1 h hg
 go_enter Tryz.func21,Tryz.ntmps21
 go_wp2_with fail
 refine (made_self a _ c5).mono ?_
 rintro e w' ⟨rfl,rfl⟩
 go_wp2_with fail
 refine (has_yes a bb s.n bc p _ c0 (by omega) (by omega)).mono ?_
 rintro e w' ⟨rfl,rfl⟩
 go_wp2_with fail
 refine (says_at HA.out p hp).mono ?_
 rintro e w' ⟨q,o,rfl,_,hq,rfl⟩
 obtain ⟨w2,hcopy,R2,B2⟩:=run_copy_bytes w1 3 g 0 128 128 _ (s.says p) HR.out (some ⟨q,o,none⟩) 128 128 HL.out hq.told (by omega) (by simp)
 rw [splice_all _ _ (by rw [HL.out]; simp)] at R2
 have HR2:=hid R2
 clear R2 hq c0 c2 c5 hmk
 go_wp2_with fail
 go_ret2
 exact ⟨g,rfl,by rw [HG.out]; exact Nat.le_refl _,HR2.out,HB.out.trans (B2.mono (by rw [HG.out]; exact Nat.le_refl _))⟩
theorem read_out {w:World} {base a bb bc:Nat} {wv:Value} {s:St} (h:At w base a bb bc wv s) (hg:s.gone=false) (p:Int) (hp : ¬(0≤p∧p<s.n)) :
  Calls Tryz.prog 21 #[.pointer (some ⟨a,0,none⟩),.int .i64 p] w fun e w'=>e = .returned (.tuple #[.slice none 0 0,.int .i64 2])∧w=w':=by
 have c0:=h.c0
 have c2:=h.c2
 rw [hg] at c2
 have c5:=h.c5
 have H:=hid h
 have HP:=hid hp
 clear h hg hp
 go_enter Tryz.func21,Tryz.ntmps21
 go_wp2_with fail
 refine (made_self a _ c5).mono ?_
 rintro e w' ⟨rfl,rfl⟩
 go_wp2_with fail
 refine (has_no a bb s.n bc p _ c0 HP.out).mono ?_
 rintro e w' ⟨rfl,rfl⟩
 go_wp2_with fail
 go_ret2
 exact ⟨rfl,rfl⟩
end Go.Proofs.YtogchamogbendaaGreat.Dsk
namespace Go.Proofs.YtogchamogbendaaGreat.Dsk
open Go.RowKit Oct
theorem take_splice {α:Type} (L:List α) (off m:Nat) (cs:List α) (h:off+cs.length≤m) (hL:off+cs.length≤L.length):(splice L off cs).take m=splice (L.take m) off cs:=by
 unfold splice
 rw [List.take_append,List.take_append,List.take_take,List.take_take,List.length_take,List.drop_take,List.take_of_length_le (l:=cs) (by omega)]
 rw [show min m off=off by omega,show min off m=off by omega,show min off L.length=off by omega,show m-off-cs.length=m-(off+cs.length) by omega]
theorem map_splice {α β:Type} (f:α→β) (L:List α) (off:Nat) (cs:List α):(splice L off cs).map f=splice (L.map f) off (cs.map f):=by
 simp [splice,List.map_take,List.map_drop]
def St.lay (s:St) (p:Nat) (cs:List UInt8):St := { s with B:=splice s.B (p*128) cs }
theorem At.drew {w:World} {base a bb bc:Nat} {wv:Value} {s:St} (h:At w base a bb bc wv s):At w.drew base a bb bc wv s:=h.same fun _ _ _ _ _ _ _ _=>rfl
theorem Turned.drew {T:TypeId→Bool} {base:Nat} {a w:World} (h:Turned T base a w):Turned T base a w.drew:=h.trans ⟨rfl,rfl,rfl,Nat.le_refl _,fun _ _ _=>rfl⟩
def thr (ks:List Bool) (torn:Int) (cut i:Nat):Nat:=if (i:Int)=torn then cut else if ks[i]?=some true then 128 else 0
end Go.Proofs.YtogchamogbendaaGreat.Dsk
namespace Go.Proofs.YtogchamogbendaaGreat.Dsk
open Go.RowKit Oct
def laid (s:St) (f:Nat→Nat):Nat→St
 | 0=>s
 | k+1=>match s.W[k]? with
  | some x=>(laid s f k).lay x.1 (x.2.take (f k))
  | none=>laid s f k
theorem laid_frame (s:St) (f:Nat→Nat) (k:Nat):(laid s f k).n=s.n∧(laid s f k).W=s.W∧(laid s f k).gone=s.gone∧(laid s f k).armed=s.armed∧(laid s f k).left=s.left:=by
 induction k with
 | zero=>exact ⟨rfl,rfl,rfl,rfl,rfl⟩
 | succ k ih =>
  unfold laid
  split
  ·exact ih
  ·exact ih
theorem laid_succ (s:St) (f:Nat→Nat) (k:Nat) (h:k<s.W.length):laid s f (k+1)=(laid s f k).lay s.W[k].1 (s.W[k].2.take (f k)):=by
 show (match s.W[k]? with
  | some x=>(laid s f k).lay x.1 (x.2.take (f k))
  | none=>laid s f k)=_
 rw [List.getElem?_eq_getElem h]
theorem wait_of {w:World} {base a bb bc:Nat} {wv:Value} {s:St} {f:Nat→Nat} {k:Nat} (h:At w base a bb bc wv (laid s f k)) {g cap m:Nat} (hv:wv = .slice (some ⟨g,0,none⟩) s.W.length cap) (hm:m<s.W.length) :
  w.cell? ⟨g,m*129,none⟩=some (.int .i64 (s.W[m].1:Int))∧Has w g (m*129+1) s.W[m].2:=by
 obtain ⟨_,hW,_⟩:=laid_frame s f k
 have hv':wv = .slice (some ⟨g,0,none⟩) (laid s f k).W.length cap:=by rw [hW]; exact hv
 have:=h.wat hv' m (by rw [hW]; exact hm)
 have he:(laid s f k).W[m]'(by rw [hW]; exact hm)=s.W[m]:=by simp only [hW]
 rwa [he] at this
theorem At.cleared {w:World} {base a bb bc:Nat} {wv:Value} {s:St} (h:At w base a bb bc wv s):At (w.setCell ⟨a,1,none⟩ (.slice none 0 0)) base a bb bc (.slice none 0 0) { s with W := [] } where
 lo:=h.lo
 head:=heap_setCell_same w a 1 _ _ (.slice none 0 0) h.head
 blocks:=own_same h.blocks fun k hb _=>heap_setCell_other _ _ _ _ (by have:=h.ne_blocks; cases hb; exact this)
 waits:=World.ownsRow_nil _ _ _ _
 ok:=⟨h.ok.lo,h.ok.hi,h.ok.len,fun x hx=>by simp at hx,Nat.zero_le _,h.ok.left⟩
def St.flushed (s:St):St := { laid s.spent (fun _=>128) s.W.length with W := [] }
end Go.Proofs.YtogchamogbendaaGreat.Dsk
namespace Go.Proofs.YtogchamogbendaaGreat.Dsk
open Go.RowKit Oct
def St.crashed (s:St) (ks:List Bool) (torn:Int) (cut:Nat):St := { laid s (thr ks torn cut) s.W.length with W := [],gone:=false,armed:=false,left:=0 }
end Go.Proofs.YtogchamogbendaaGreat.Dsk
namespace Go.Proofs.YtogchamogbendaaGreat.Dsk
open Go.RowKit Oct
theorem run_copy_into (w:World) (ty:TypeId) (g off dLen dCap:Nat) (cur:List Value) (t:TypeId) (R:w.heap[g]?=some (.cells cur.toArray t (0,0))) (bs:List UInt8) (a:Option Addr) (len cap:Nat) (hlen:bs.length=len) (hT:Oct.Told w a bs) (hd:len≤dLen) (hfit:off+len≤cur.length) :
  ∃w',(Builtin.copy_ #[45,45] ty #[.slice (some ⟨g,off,none⟩) dLen dCap,.slice a len cap]).run Tryz.prog w = .ok (goInt len) w'∧w'.heap[g]?=some (.cells (splice cur off (vals bs)).toArray t (0,0))∧w'.heap.size=w.heap.size∧Below g w w':=by
 have hsz:(Tryz.prog.info? 5).map (·.size)=some 1:=by kernel_rfl
 rcases hT with rfl | ⟨b,o,rfl,hT⟩
 ·obtain rfl:len=0:=by simpa using hlen.symm
  refine ⟨w,run_copy_none (P:=Tryz.prog) w _ _ ty 5 _ a dLen dCap 0 cap Tryz.underlying45 hsz (Nat.min_eq_left (Nat.zero_le _)),?_,rfl,Below.refl _ _⟩
  simpa [splice,vals] using R
 ·have h:=run_copy_row (P:=Tryz.prog) w 45 45 ty 5 g off dLen dCap ⟨b,o,none⟩ len cap cur.toArray t (vals bs) Tryz.underlying45 hsz R
   (by rw [length_vals,hlen]; exact (Nat.min_eq_left hd).symm)
   (fun j v hj=>by
    have hjl:j<bs.length:=by
     rcases Nat.lt_or_ge j bs.length with h | h
     ·exact h
     ·rw [List.getElem?_eq_none (by rw [length_vals]; exact h)] at hj; cases hj
    have hv:v = .int .u8 (bs[j].toNat:Int):=by simpa [vals,hjl] using hj.symm
    rw [hv,add_plain]
    exact hT j hjl)
   (by rw [length_vals,hlen]; simpa using hfit)
   (fun v hv=>by obtain ⟨c,_,rfl⟩:=List.mem_map.1 hv; rfl)
  rw [length_vals,hlen] at h
  refine ⟨_,h,?_,by simp,⟨rfl,rfl,rfl,by simp,fun k hk=>setRow_other w g k _ (by omega)⟩⟩
  rw [setRow_heap w g _ _ _ _ R]
  congr 3
  simp [splice,length_vals,hlen]
def pc (p:Nat) (bs:List UInt8):Array Value:=(Value.int .i64 (p:Int) :: vals bs).toArray
def zc:Array Value:=pc 0 (List.replicate 128 0)
def pz (p:Nat):Array Value:=pc p (List.replicate 128 0)
theorem write_info:(Tryz.prog.info? 158).map (fun i=>(i.zero,i.size))=some (some (.agg zc),129):=by kernel_rfl
theorem write_row:(Tryz.prog.info? 158).map (fun i=>(i.zero,i.size,i.bytes))=some (some (.agg zc),129,136):=by kernel_rfl
theorem pc_size (p:Nat) (bs:List UInt8):(pc p bs).size=bs.length+1:=by simp [pc,length_vals]
theorem zc_size:zc.size=129:=by simp [zc,pc_size]
theorem zc_ne : ¬zc = #[]:=fun h=>by have:=zc_size; rw [h] at this; cases this
theorem zc_set (p:Nat):zc.setIfInBounds 0 (.int .i64 (p:Int))=pz p:=by
 unfold zc pz pc
 simp
theorem pc_one (p:Nat) (bs:List UInt8):(pc p bs).all (·.oneCell')=true:=by
 rw [Array.all_eq_true_iff_forall_mem]
 intro v hv
 simp only [pc,List.mem_toArray,List.mem_cons] at hv
 rcases hv with rfl | hv
 ·rfl
 ·obtain ⟨c,_,rfl⟩:=List.mem_map.1 hv
  rfl
theorem fill_one (cells:Array Value) (c:Array Value) (hc:c.size=129) (h0:cells.size=129):Instr.fill (fun i=>some (i*129,129)) cells [(0,.agg c)]=some c:=by
 obtain ⟨r,hr,hs,hk⟩:=Great.fill_dense (s:=129) (by decide) [.agg c] 0 cells (fun v hv=>by simp at hv; subst hv; exact hc) (by simp [h0])
 simp only [List.zipIdx_cons,List.zipIdx_nil,List.map_cons,List.map_nil] at hr
 rw [hr]
 congr 1
 apply Array.ext
 ·rw [hs,h0,hc]
 ·intro i h1 h2
  have h3:=hk i
  rw [if_pos (by simp; omega),Array.getElem?_eq_getElem h1] at h3
  have h4:i/129-0=0:=by omega
  have h5:i % 129=i:=by omega
  simp only [h4,h5,List.getElem?_cons_zero,Option.bind_some] at h3
  have h6:(Value.agg c).cells=c:=rfl
  rw [h6,Array.getElem?_eq_getElem h2] at h3
  exact Option.some.inj h3
theorem wpAny_tail {P:Program} {md:Region.Mode} {ops:Array Oper} {Q':Exit→Act→World→Prop} {listed:Array Bool} {a:Act} {w:World} {fuel:Nat} (k:Nat) (hfuel:fuel=ops.size-k)
  (hB:Region.seqB md ops (ops.size-k) k listed=true) (h:wpList P ops Q' (ops.toList.drop k) a w):wpAny P md ops Q' fuel listed a w:=by
 subst hfuel
 have h2:=wpAny_of_seq (P:=P) (md:=md) (ops.toList.drop k) k listed a w (fun j=>by simp) (by simpa using hB) h
 simpa using h2
theorem if_wanted {c:Bool} {A B:Prop} (h:c=true) (a:A):if c=true then A else B:=by rw [if_pos h]; exact a
def St.wrote (s:St) (p:Nat) (bs:List UInt8):St := { s with W:=s.W ++ [(p,bs)] }
theorem own_ne {w:World} {base e size n a:Nat} {v:Value} {xs:List Value} {cs:Array Value} {t:TypeId} {fr:Nat×Nat} (h:w.ownsRow base e size v n xs) (ha:w.heap[a]?=some (.cells cs t fr)) (hne:e≠t):v.ownBlock≠some a:=by
 rcases h.2 with ⟨rfl,_⟩ | ⟨g,cap,cur,rfl,_,h1,_⟩
 ·simp [Value.ownBlock]
 ·intro e
  have:g=a:=by simpa [Value.ownBlock] using e
  subst this
  rw [ha] at h1
  cases h1
  exact hne rfl
theorem Turned.grown {base:Nat} {w w':World} {v:Value} {n size:Nat} {xs:List Value} (h:w.ownsRow base 158 size v n xs) (hg:w.grownBy w' v.ownBlock):Turned dT base w w' :=
 ⟨hg.os,hg.tape,hg.output,hg.size,fun k hk hc=>hg.block k hk fun e=>by
  rcases h.2 with ⟨rfl,_⟩ | ⟨g,cap,cur,rfl,hb,h1,_⟩
  ·cases e
  ·cases e
   rcases hc with hc | hc
   ·exact absurd hb (Nat.not_le.2 hc)
   ·have:=hc _ _ _ h1
    cases this⟩
theorem At.wrote {w w':World} {base a bb bc:Nat} {wv v':Value} {s:St} (h:At w base a bb bc wv s) (p:Nat) (bs:List UInt8) (hp:p<s.n) (hl:bs.length=128) (hf:s.W.length<1000000)
  (hown:w'.ownsRow base 158 129 v' (s.W.length+1) (wcells s.W++(pc p bs).toList)) (hg:w.grownBy w' wv.ownBlock) :
  At (w'.setCell ⟨a,1,none⟩ v') base a bb bc v' (s.wrote p bs)∧w'.cell? ⟨a,1,none⟩=some wv∧w'.frozen? ⟨a,1,none⟩=false∧Turned dT base w (w'.setCell ⟨a,1,none⟩ v'):=by
 have hh:=(hg.block a h.lt (fun e=>h.ne_waits e.symm)).trans h.head
 refine ⟨⟨h.lo,heap_setCell_same w' a 1 _ _ v' hh,?_,?_,?_⟩,cell_of_row w' a 1 _ _ _ hh,by simp [World.frozen?,hh],(Turned.grown h.waits hg).setCell h.lo hh rfl _⟩
 ·refine own_same (own_same h.blocks fun k hb hl=>hg.block k hl fun e => ?_) fun k hb _=>heap_setCell_other _ _ _ _ (by have:=h.ne_blocks; cases hb; exact this)
  rcases h.blocks.2 with ⟨h0,_⟩ | ⟨g,cap,cur,hv,_,h1,_⟩
  ·cases h0
  ·cases hv
   cases hb
   exact own_ne h.waits h1 (by decide) e.symm
 ·have hw:=own_same (w':=w'.setCell ⟨a,1,none⟩ v') hown fun k hb _=>heap_setCell_other _ _ _ _ (by
   rintro rfl
   exact own_ne hown hh (by decide) hb)
  have e1:(s.wrote p bs).W.length=s.W.length+1:=by simp [St.wrote]
  have e2:wcells (s.wrote p bs).W=wcells s.W++(pc p bs).toList:=by
   show wcells (s.W ++ [(p,bs)])=_
   rw [wcells_snoc]
   rfl
  rw [e1,e2]
  exact hw
 ·refine ⟨h.ok.lo,h.ok.hi,h.ok.len,fun x hx => ?_,?_,h.ok.left⟩
  ·have hx:x∈s.W ++ [(p,bs)]:=hx
   rcases List.mem_append.1 hx with hx | hx
   ·exact h.ok.wait x hx
   ·have:x=(p,bs):=by simpa using hx
    subst this
    exact ⟨hp,hl⟩
  ·show (s.W ++ [(p,bs)]).length≤1000000
   simp
   omega
end Go.Proofs.YtogchamogbendaaGreat.Dsk
namespace Go.Proofs.YtogchamogbendaaGreat.Dsk
open Go.RowKit Oct
end Go.Proofs.YtogchamogbendaaGreat.Dsk
namespace Go.Proofs.YtogchamogbendaaGreat.Dsk
open Go.RowKit Oct
def ints (zs:List Int):List Value:=zs.map fun z => .int .i64 z
def IRow (w:World) (g:Nat) (zs:List Int):Prop:=w.heap[g]?=some (.cells (ints zs).toArray 3 (0,0))
end Go.Proofs.YtogchamogbendaaGreat.Dsk
namespace Go.Proofs.YtogchamogbendaaGreat.Dsk
open Lib (hid)
open Go.RowKit Oct
def BuildPost (w:World) (bv wv:Value) (g m:Bool) (l:Int) (e:Ending) (w':World):Prop :=
 ∃a,e = .returned (.pointer (some ⟨a,0,none⟩))∧w.heap.size≤a∧w'.heap[a]?=some (.cells #[bv,wv,.bool g,.bool m,.int .i64 l,.pointer (some ⟨a,0,none⟩)] 155 (0,0))∧Below w.heap.size w w'
theorem build_any (A C:Option Addr) (n c k d:Nat) (g m:Bool) (l:Int) (w:World) :
  Calls Tryz.prog 80 #[.agg #[.slice A n c],.agg #[.slice C k d],.agg #[.bool g,.bool m,.int .i64 l]] w (BuildPost w (.slice A n c) (.slice C k d) g m l):=by
 go_enter Tryz.func80,Tryz.ntmps80
 go_wp2
 go_ret
 refine ⟨w.heap.size+3,rfl,by omega,?_,?_⟩
 ·have h1:(((w.alloc (.cells #[.slice A n c] 148)).alloc (.cells #[.slice C k d] 151)).alloc (.cells #[.bool g,.bool m,.int .i64 l] 153)).heap.size=w.heap.size+3:=by simp
  have:=heap_alloc_new (((w.alloc (.cells #[.slice A n c] 148)).alloc (.cells #[.slice C k d] 151)).alloc (.cells #[.bool g,.bool m,.int .i64 l] 153)) (.cells #[.slice A n c,.slice C k d,.bool g,.bool m,.int .i64 l,.pointer (some ⟨w.heap.size+3,0,none⟩)] 155)
  rw [h1] at this
  exact this
 ·exact (((((Below.refl _ _).alloc (Nat.le_refl _) _).alloc (by simp) _).alloc (by simp; omega) _).alloc (by simp; omega) _)
def fresh (n:Nat):St := { n:=n,B:=List.replicate (n*128) 0,W := [],gone:=false,armed:=false,left:=0 }
theorem vals_zeros' (m n:Nat) (hm:0<m):madeCells (Value.agg (vals (List.replicate m 0)).toArray).cells n=(vals (List.replicate n 0)).toArray:=by
 apply Array.ext
 ·simp [madeCells,vals]
 ·intro i h1 h2
  have h3:i % m<m:=Nat.mod_lt _ hm
  simp [madeCells,vals,Value.cells,h3]
theorem vals_zeros (n:Nat):madeCells (Value.agg (vals (List.replicate 128 0)).toArray).cells n=(vals (List.replicate n 0)).toArray:=vals_zeros' 128 n (by decide)
theorem block_row:(Tryz.prog.info? 146).map (fun i=>(i.zero,i.size,i.bytes))=some (some (.agg (vals (List.replicate 128 0)).toArray),128,128):=by kernel_rfl
theorem run_make_blocks (w:World) (n:Nat) (hn:n≤4096) :
  (Instr.makeSlice 143 (.int .i64 (n:Int)) (.int .i64 (n:Int))).run Tryz.prog w = .ok (.slice (some ⟨w.heap.size,0,none⟩) n n) (w.alloc (.cells (vals (List.replicate (n*128) 0)).toArray 146)):=by
 obtain ⟨i0,hi,hz0,hz1,hz2⟩:=info_parts block_row
 have h:=run_make (P:=Tryz.prog) w 143 146 i0 _ Tryz.underlying143 hi hz0 .i64 .i64 n n (by omega) (by omega) (by rw [hz2]; omega) (by omega)
 rw [hz1,Int.toNat_natCast,vals_zeros] at h
 exact h
def NewPost (w:World) (n:Nat) (e:Ending) (w':World):Prop :=
 ∃a bb,e = .returned (.tuple #[.pointer (some ⟨a,0,none⟩),.int .i64 0])∧At w' w.heap.size a bb n (.slice none 0 0) (fresh n)∧Below w.heap.size w w'
theorem new_ok (n:Nat) (h0:16≤n) (h1:n≤4096) (w:World):Calls Tryz.prog 45 #[.int .i64 (n:Int)] w (NewPost w n):=by
 have hmk:=run_make_blocks w n h1
 have R1:=heap_alloc_new w (.cells (vals (List.replicate (n*128) 0)).toArray 146)
 have B1:=(Below.refl w.heap.size w).alloc (Nat.le_refl _) (.cells (vals (List.replicate (n*128) 0)).toArray 146)
 have S1:(w.alloc (.cells (vals (List.replicate (n*128) 0)).toArray 146)).heap.size=w.heap.size+1:=by simp
 generalize w.alloc (.cells (vals (List.replicate (n*128) 0)).toArray 146)=w1 at *
 have HR:=hid R1
 have HB:=hid B1
 have HS:=hid S1
 obtain ⟨q,hq⟩ : ∃q,q=w.heap.size:=⟨_,rfl⟩
 rw [← hq] at hmk
 have HQ:=hid hq
 clear R1 B1 S1 hq
 go_enter Tryz.func45,Tryz.ntmps45
 go_wp2_with fail
 refine (build_any _ _ _ _ _ _ _ _ _ _).mono ?_
 rintro e w2 ⟨a,rfl,ha,hh,hb⟩
 have hs:=HS.out
 have hq:=HQ.out
 have A2:At w2 w.heap.size a q n (.slice none 0 0) (fresh n):=by
  refine ⟨by omega,hh,⟨by simp [length_vals,fresh],.inr ⟨q,n,(vals (List.replicate (n*128) 0)).toArray,rfl,by omega,?_,Nat.le_refl _,by unfold maxLen; omega,by simp [length_vals],?_⟩⟩,World.ownsRow_nil _ _ _ _,⟨h0,h1,by simp [fresh],fun x hx=>by simp [fresh] at hx,Nat.zero_le _,Nat.zero_le _⟩⟩
  ·rw [hb.block q (by omega),hq]
   exact HR.out
  ·show (vals (List.replicate (n*128) 0)).take (n*128)=vals (List.replicate (n*128) 0)
   rw [List.take_of_length_le (by simp [length_vals])]
 have HA2:=hid A2
 have HB2:=hid (HB.out.trans (hb.mono HB.out.size))
 clear A2 hb hh hs hq hmk
 go_wp2_with fail
 go_ret2
 exact ⟨a,q,rfl,HA2.out,HB2.out⟩
end Go.Proofs.YtogchamogbendaaGreat.Dsk
namespace Go.Proofs.YtogchamogbendaaGreat.Dsk
open Go.RowKit Oct
end Go.Proofs.YtogchamogbendaaGreat.Dsk
namespace Go.Proofs.YtogchamogbendaaGreat.Dsk
open Go.RowKit Oct
def Is (w:World) (base a:Nat) (s:St):Prop := ∃bb bc wv,At w base a bb bc wv s
theorem Is.ok {w:World} {base a:Nat} {s:St} (h:Is w base a s):s.Ok:=by obtain ⟨_,_,_,h⟩:=h; exact h.ok
theorem Is.says_len {w:World} {base a:Nat} {s:St} (h:Is w base a s) (p:Nat) (hp:p<s.n):(s.says p).length=128:=by obtain ⟨_,_,_,h⟩:=h; exact length_says h p hp
def Did (w:World) (base a:Nat) (r:Int×St) (e:Ending) (w':World):Prop:=e = .returned (.int .i64 r.1)∧Is w' base a r.2∧Turned dT base w w'
def St.doWrite (s:St) (p:Int) (bs:List UInt8):Int×St :=
 if s.gone=true then (20,s) else if ¬(0≤p∧p<s.n) then (2,s) else if bs.length≠128 then (2,s) else if s.can=false then (20,s.spent) else (0,s.spent.wrote p.toNat bs)
def St.doFlush (s:St):Int×St:=if s.gone=true then (20,s) else if s.can=false then (20,s.spent) else (0,s.flushed)
def St.doArm (s:St) (n:Int):Int×St:=if s.gone=true then (20,s) else if n<0 then (2,s) else (0,s.arm n.toNat)
def St.doCrash (s:St) (ks:List Bool) (torn cut:Int):Int×St:=if ¬(0≤cut∧cut≤128) then (2,s) else (0,s.crashed ks torn cut.toNat)
theorem read_yes {w:World} {base a:Nat} {s:St} (h:Is w base a s) (hg:s.gone=false) (p:Nat) (hp:p<s.n) :
  Calls Tryz.prog 21 #[.pointer (some ⟨a,0,none⟩),.int .i64 (p:Int)] w (ReadPost w (s.says p)):=by obtain ⟨bb,bc,wv,h⟩:=h; exact read_ok h hg p hp
theorem len_is {w:World} {base a:Nat} {s:St} (h:Is w base a s) :
  Calls Tryz.prog 20 #[.pointer (some ⟨a,0,none⟩)] w fun e w'=>e = .returned (.int .i64 (s.n:Int))∧w=w':=by obtain ⟨bb,bc,wv,h⟩:=h; exact len_at h
end Go.Proofs.YtogchamogbendaaGreat.Dsk
namespace Go.Proofs.YtogchamogbendaaGreat.Dsk
open Go.RowKit Oct
end Go.Proofs.YtogchamogbendaaGreat.Dsk
namespace Go.Proofs.YtogchamogbendaaGreat.Dsk
open Go.RowKit Oct
theorem read_bad {w:World} {base a:Nat} {s:St} (h:Is w base a s) (hg:s.gone=false) (p:Int) (hp : ¬(0≤p∧p<s.n)) :
  Calls Tryz.prog 21 #[.pointer (some ⟨a,0,none⟩),.int .i64 p] w fun e w'=>e = .returned (.tuple #[.slice none 0 0,.int .i64 2])∧w=w':=by obtain ⟨bb,bc,wv,h⟩:=h; exact read_out h hg p hp
def ones:List UInt8:=List.replicate 128 1
def twos:List UInt8:=List.replicate 128 2
def a1:Int×St:=(fresh 16).doWrite 3 ones
def a2:Int×St:=a1.2.doCrash [] (-1) 0
def a3:Int×St:=a2.2.doWrite 3 ones
def a4:Int×St:=a3.2.doFlush
def a5:Int×St:=a4.2.doWrite 3 twos
def a6:Int×St:=a5.2.doCrash [] 0 2
def a7:Int×St:=a6.2.doArm 1
def a8:Int×St:=a7.2.doWrite 4 twos
def a9:Int×St:=a8.2.doFlush
def a10:Int×St:=a9.2.doCrash [true] (-1) 0
theorem e1:a1.1=0:=by decide +kernel
theorem e2:a2.1=0:=by decide +kernel
theorem e3:a3.1=0:=by decide +kernel
theorem e4:a4.1=0:=by decide +kernel
theorem e5:a5.1=0:=by decide +kernel
theorem e6:a6.1=0:=by decide +kernel
theorem e7:a7.1=0:=by decide +kernel
theorem e8:a8.1=0:=by decide +kernel
theorem e9:a9.1=20:=by decide +kernel
theorem e10:a10.1=0:=by decide +kernel
theorem e11:(a10.2.doWrite 16 ones).1=2:=by decide +kernel
theorem e12:(a10.2.doWrite 16 ones).2.doWrite 0 (ones.drop 1)=(2,(a10.2.doWrite 16 ones).2):=by
 have h1:(a10.2.doWrite 16 ones).2.gone=false:=by decide +kernel
 have h2:(0:Int)≤0∧(0:Int)<(a10.2.doWrite 16 ones).2.n:=by decide +kernel
 unfold St.doWrite at *
 rw [if_neg (by rw [h1]; decide),if_neg (fun h=>h h2),if_pos (by decide +kernel)]
theorem e13:((a10.2.doWrite 16 ones).2.doArm (-1)).1=2:=by decide +kernel
end Go.Proofs.YtogchamogbendaaGreat.Dsk
namespace Go.Proofs.YtogchamogbendaaGreat.Dsk
open Go.RowKit Oct
end Go.Proofs.YtogchamogbendaaGreat.Dsk
namespace Go.Proofs.YtogchamogbendaaGreat.Dsk
open Go.RowKit Oct Go.ChangeShapes Go.WideShapes Go.ChangeAt
section
variable {H:Type} {enc:TypeId×Value→H} {W:World}
end
end Go.Proofs.YtogchamogbendaaGreat.Dsk
namespace Go.Proofs.YtogchamogbendaaGreat.Dsk
open Go.RowKit Oct
structure Calm (s:St) (k:Nat):Prop where
 gone:s.gone=false
 armed:s.armed=false
 n:s.n=16
 few:s.W.length≤k
theorem Calm.spent {s:St} {k:Nat} (h:Calm s k):s.spent=s:=by
 obtain ⟨n,B,W,g,m,l⟩:=s
 obtain rfl:m=false:=h.armed
 rfl
theorem Calm.can {s:St} {k:Nat} (h:Calm s k):s.can=true:=by simp [St.can,h.armed]
theorem Calm.wrote {s:St} {k:Nat} (h:Calm s k) (p:Nat) (bs:List UInt8):Calm (s.wrote p bs) (k+1) :=
 ⟨h.gone,h.armed,h.n,by simp [St.wrote]; exact h.few⟩
theorem Calm.flushed {s:St} {k:Nat} (h:Calm s k):Calm s.flushed k:=by
 have hl:=laid_frame s.spent (fun _=>128) s.W.length
 rw [h.spent] at hl
 refine ⟨?_,?_,?_,Nat.zero_le _⟩
 ·show (laid s.spent (fun _=>128) s.W.length).gone=false
  rw [h.spent,hl.2.2.1]; exact h.gone
 ·show (laid s.spent (fun _=>128) s.W.length).armed=false
  rw [h.spent,hl.2.2.2.1]; exact h.armed
 ·show (laid s.spent (fun _=>128) s.W.length).n=16
  rw [h.spent,hl.1]; exact h.n
theorem calm_fresh:Calm (fresh 16) 0:=⟨rfl,rfl,rfl,Nat.le_refl _⟩
def fill1 (c:UInt8):List UInt8:=List.replicate 128 c
theorem length_fill1 (c:UInt8):(fill1 c).length=128:=by simp [fill1]
theorem lt16 (c:UInt8):c.toNat % 16<16:=Nat.mod_lt _ (by decide)
end Go.Proofs.YtogchamogbendaaGreat.Dsk
namespace Go.Proofs.YtogchamogbendaaGreat.Dsk
open Go.RowKit Oct
theorem length_stand {s:St} (h:s.B.length=s.n*128) (p:Nat) (hp:p<s.n):(s.stand p).length=128:=by
 simp [St.stand]
 omega
theorem lay_len (s:St) (p:Nat) (cs:List UInt8) (h:s.B.length=s.n*128) (hp:p<s.n) (hc:cs.length≤128):(s.lay p cs).B.length=(s.lay p cs).n*128:=by
 show (splice s.B (p*128) cs).length=s.n*128
 rw [length_splice _ _ _ (by omega),h]
theorem stand_lay_same (s:St) (p:Nat) (cs:List UInt8) (h:s.B.length=s.n*128) (hp:p<s.n) (hc:cs.length≤128):(s.lay p cs).stand p=cs++(s.stand p).drop cs.length:=by
 show ((splice s.B (p*128) cs).drop (p*128)).take 128=cs++((s.B.drop (p*128)).take 128).drop cs.length
 unfold splice
 have h1:(s.B.take (p*128)).length=p*128:=by simp; omega
 rw [List.drop_append_of_le_length (by omega),List.drop_of_length_le (by omega),List.nil_append,List.take_append,List.take_of_length_le hc,List.drop_take,List.drop_drop]
theorem stand_lay_other (s:St) (p q:Nat) (cs:List UInt8) (h:s.B.length=s.n*128) (hp:p<s.n) (hc:cs.length≤128) (hne:p≠q) (hq:q<s.n):(s.lay p cs).stand q=s.stand q:=by
 show ((splice s.B (p*128) cs).drop (q*128)).take 128=(s.B.drop (q*128)).take 128
 unfold splice
 have h1:(s.B.take (p*128)).length=p*128:=by simp; omega
 rcases Nat.lt_or_ge q p with hlt | hge
 ·rw [List.drop_append_of_le_length (by omega),List.take_append_of_le_length (by simp; omega),List.drop_take,List.take_take]
  congr 1
  omega
 ·rw [List.drop_append,List.drop_of_length_le (by omega),List.nil_append,List.drop_append,List.drop_of_length_le (by omega),List.nil_append,List.drop_drop]
  congr 2
  omega
theorem laid_len (s:St) (f:Nat→Nat) (k:Nat) (h:s.B.length=s.n*128) (hw : ∀x,x∈s.W→x.1<s.n∧x.2.length=128):(laid s f k).B.length=s.n*128:=by
 induction k with
 | zero=>exact h
 | succ k ih =>
  unfold laid
  split
  ·rename_i x hx
   have hm:=hw x (List.mem_of_getElem? hx)
   have hn:=(laid_frame s f k).1
   have:=lay_len (laid s f k) x.1 (x.2.take (f k)) (by rw [hn]; exact ih) (by rw [hn]; exact hm.1) (by rw [List.length_take]; omega)
   rw [this]
   show (laid s f k).n*128=_
   rw [hn]
  ·exact ih
theorem stand_whole (s:St) (f:Nat→Nat) (k:Nat) (h:s.B.length=s.n*128) (hw : ∀x,x∈s.W→x.1<s.n∧x.2.length=128) (hf : ∀i,i<k→128≤f i) (q:Nat) (hq:q<s.n) (hk:k≤s.W.length) :
  (laid s f k).stand q=(last? (s.W.take k) q).getD (s.stand q):=by
 induction k with
 | zero=>simp [laid,last?_nil]
 | succ k ih =>
  have hlt:k<s.W.length:=by omega
  have hm:=hw s.W[k] (List.getElem_mem hlt)
  have hn:=(laid_frame s f k).1
  have hl:=laid_len s f k h hw
  rw [laid_succ s f k hlt,take_snoc s.W k hlt,last?_snoc,List.take_of_length_le (by rw [hm.2]; exact hf k (by omega))]
  by_cases hp:s.W[k].1=q
  ·rw [if_pos hp,hp,stand_lay_same _ _ _ (by rw [hn]; exact hl) (by rw [hn]; omega) (by omega),List.drop_of_length_le (by rw [length_stand (by rw [hn]; exact hl) _ (by rw [hn]; omega)]; omega),List.append_nil]
   rfl
  ·rw [if_neg hp,stand_lay_other _ _ _ _ (by rw [hn]; exact hl) (by rw [hn]; omega) (by omega) hp (by rw [hn]; omega)]
   exact ih (fun i hi=>hf i (by omega)) (by omega)
def lastB (l:List (UInt8×UInt8)) (q:Nat):UInt8:=l.foldl (fun b p=>if p.1.toNat % 16=q then p.2 else b) 0
def wr1 (p:UInt8×UInt8):Nat×List UInt8:=(p.1.toNat % 16,fill1 p.2)
theorem wr1_ok (l:List (UInt8×UInt8)) : ∀x,x∈l.map wr1→x.1<16∧x.2.length=128:=fun x hx=>by
 obtain ⟨p,_,rfl⟩:=List.mem_map.1 hx
 exact ⟨lt16 p.1,length_fill1 _⟩
theorem last_wr (l:List (UInt8×UInt8)) (q:Nat) (b:UInt8):(last? (l.map wr1) q).getD (fill1 b)=fill1 (l.foldl (fun b p=>if p.1.toNat % 16=q then p.2 else b) b):=by
 induction l using snoc_ind with
 | h0=>rfl
 | h1 l p ih =>
  rw [List.map_append,List.map_singleton,last?_snoc,List.foldl_append]
  by_cases h:p.1.toNat % 16=q
  ·rw [if_pos (show (wr1 p).1=q from h)]
   simp [wr1,h]
  ·rw [if_neg (show ¬(wr1 p).1=q from h),ih]
   simp [h]
structure Stood (s:St) (W:List (UInt8×UInt8)) (f:List (UInt8×UInt8)):Prop where
 n:s.n=16
 len:s.B.length=s.n*128
 W:s.W=W.map wr1
 stand : ∀q,q<16→s.stand q=fill1 (lastB f q)
theorem Stood.ok {s:St} {W f:List (UInt8×UInt8)} (h:Stood s W f) : ∀x,x∈s.W→x.1<s.n∧x.2.length=128:=fun x hx=>by
 rw [h.W] at hx
 rw [h.n]
 exact wr1_ok W x hx
theorem Stood.says {s:St} {W f:List (UInt8×UInt8)} (h:Stood s W f) (q:Nat) (hq:q<16):s.says q=fill1 (lastB (f++W) q):=by
 unfold St.says
 rw [h.W,h.stand q hq,last_wr]
 simp [lastB,List.foldl_append]
theorem Stood.wrote {s:St} {W f:List (UInt8×UInt8)} (h:Stood s W f) (p:UInt8×UInt8):Stood (s.wrote (p.1.toNat % 16) (fill1 p.2)) (W ++ [p]) f :=
 ⟨h.n,h.len,by simp [St.wrote,h.W,wr1],h.stand⟩
theorem Stood.flushed {s:St} {W f:List (UInt8×UInt8)} (h:Stood s W f) {k:Nat} (hc:Calm s k):Stood s.flushed [] (f++W):=by
 have hsp:=hc.spent
 refine ⟨?_,?_,rfl,fun q hq => ?_⟩
 ·show (laid s.spent (fun _=>128) s.W.length).n=16
  rw [hsp,(laid_frame _ _ _).1,h.n]
 ·show (laid s.spent (fun _=>128) s.W.length).B.length=(laid s.spent (fun _=>128) s.W.length).n*128
  rw [hsp,laid_len _ _ _ h.len h.ok,(laid_frame _ _ _).1]
 ·show (laid s.spent (fun _=>128) s.W.length).stand q=_
  rw [hsp,stand_whole s _ _ h.len h.ok (fun _ _=>Nat.le_refl _) q (by rw [h.n]; exact hq) (Nat.le_refl _),List.take_length]
  exact h.says q hq
end Go.Proofs.YtogchamogbendaaGreat.Dsk
namespace Go.Proofs.YtogchamogbendaaGreat.Dsk
open Go.RowKit Oct
structure Only (w w':World) (a b:Nat):Prop where
 size:w.heap.size≤w'.heap.size
 block : ∀k,k<w.heap.size→k≠a→k≠b→w'.heap[k]?=w.heap[k]?
theorem Only.refl (w:World) (a b:Nat):Only w w a b:=⟨Nat.le_refl _,fun _ _ _ _=>rfl⟩
theorem Only.trans {w1 w2 w3:World} {a b:Nat} (h:Only w1 w2 a b) (k:Only w2 w3 a b):Only w1 w3 a b :=
 ⟨Nat.le_trans h.size k.size,fun i hi h1 h2=>(k.block i (Nat.lt_of_lt_of_le hi h.size) h1 h2).trans (h.block i hi h1 h2)⟩
theorem Only.drew {w w':World} {a b:Nat} (h:Only w w' a b):Only w w'.drew a b:=⟨h.size,h.block⟩
theorem Only.set {w w':World} {a b:Nat} (h:Only w w' a b) (i:Nat) (v:Value):Only w (w'.setCell ⟨a,i,none⟩ v) a b :=
 ⟨by rw [show (w'.setCell ⟨a,i,none⟩ v).heap.size=w'.heap.size by simp [World.setCell]]; exact h.size,fun k hk h1 h2=>(heap_setCell_other _ _ _ _ h1).trans (h.block k hk h1 h2)⟩
theorem run_copy_lay2 {w:World} {base a bb bc:Nat} {wv:Value} {s:St} (h:At w base a bb bc wv s) (ty:TypeId) (p:Nat) (hp:p<s.n) (n:Nat) (hn:n≤128) (bs:List UInt8) (hl:bs.length=128) (g o:Nat) (hb:Has w g o bs) :
  ∃w',(Builtin.copy_ #[45,45] ty #[.slice (some ⟨bb,p*128,none⟩) n 128,.slice (some ⟨g,o,none⟩) n 128]).run Tryz.prog w = .ok (goInt n) w'∧At w' base a bb bc wv (s.lay p (bs.take n))∧Turned dT base w w'∧Only w w' a bb:=by
 have hsz:(Tryz.prog.info? 5).map (·.size)=some 1:=by kernel_rfl
 obtain ⟨hx,h0 | ⟨g',cap',cur,hv,hbase,hg,h1,h2,hcs,htake⟩⟩:=h.blocks
 ·cases h0.1
 cases hv
 have hln:(bs.take n).length=n:=by rw [List.length_take,hl]; omega
 have hB:=h.ok.len
 have hr:=run_copy_row (P:=Tryz.prog) w 45 45 ty 5 bb (p*128) n 128 ⟨g,o,none⟩ n 128 cur 146 (vals (bs.take n)) Tryz.underlying45 hsz hg
  (by rw [length_vals,hln]; exact (Nat.min_self n).symm)
  (fun j v hj=>by
   have hjl:j<(bs.take n).length:=by
    rcases Nat.lt_or_ge j (bs.take n).length with h | h
    ·exact h
    ·rw [List.getElem?_eq_none (by rw [length_vals]; exact h)] at hj; cases hj
   have hv:v = .int .u8 (((bs.take n)[j]).toNat:Int):=by
    have h3:(vals (bs.take n))[j]?=some (.int .u8 (((bs.take n)[j]).toNat:Int)):=by
     unfold vals
     rw [List.getElem?_map,List.getElem?_eq_getElem hjl]
     rfl
    rw [h3] at hj
    exact (Option.some.inj hj).symm
   rw [hv,add_plain]
   exact hb.pre n j hjl)
  (by rw [length_vals,hln,hcs]; omega)
  (fun v hv=>by obtain ⟨c,_,rfl⟩:=List.mem_map.1 hv; rfl)
 rw [length_vals,hln] at hr
 have hnb:=h.ne_blocks
 have hnw:wv.ownBlock≠some bb:=by
  rcases h.waits.2 with ⟨rfl,_⟩ | ⟨g2,cap2,cur2,rfl,_,h3,_⟩
  ·simp [Value.ownBlock]
  ·intro e
   have:g2=bb:=by simpa [Value.ownBlock] using e
   subst this
   rw [hg] at h3
   cases h3
 have hsr:=setRow_heap w bb cur ((cur.toList.take (p*128)++vals (bs.take n)++cur.toList.drop (p*128+n)).toArray) 146 (0,0) hg
 have hcell:cur.toList.take (p*128)++vals (bs.take n)++cur.toList.drop (p*128+n)=splice cur.toList (p*128) (vals (bs.take n)):=by simp [splice,length_vals,hln]
 rw [hcell] at hr hsr
 refine ⟨_,hr,⟨h.lo,?_,?_,?_,?_⟩,⟨rfl,rfl,rfl,by simp,fun k hk hk2 => ?_⟩,⟨by simp,fun k _ _ hk=>setRow_other w bb k _ hk⟩⟩
 ·rw [setRow_other w bb a _ (fun e=>hnb e.symm)]
  exact h.head
 ·refine ⟨?_,.inr ⟨bb,bc,_,rfl,hbase,hsr,h1,h2,?_,?_⟩⟩
  ·show (vals (splice s.B (p*128) (bs.take n))).length=s.n*128
   rw [length_vals,length_splice _ _ _ (by rw [hln]; omega)]
   exact hB
  ·rw [List.size_toArray,length_splice _ _ _ (by rw [length_vals,hln,Array.length_toList,hcs]; omega),Array.length_toList,hcs]
  ·show (splice cur.toList (p*128) (vals (bs.take n))).take (s.n*128)=vals (splice s.B (p*128) (bs.take n))
   rw [take_splice _ _ _ _ (by rw [length_vals,hln]; omega) (by rw [length_vals,hln,Array.length_toList,hcs]; omega),htake]
   exact (map_splice _ _ _ _).symm
 ·exact own_same h.waits fun k hk _=>setRow_other w bb k _ (fun e=>hnw (by rw [hk,e]))
 ·refine ⟨h.ok.lo,h.ok.hi,?_,h.ok.wait,h.ok.few,h.ok.left⟩
  show (splice s.B (p*128) (bs.take n)).length=s.n*128
  rw [length_splice _ _ _ (by rw [hln]; omega)]
  exact hB
 ·refine setRow_other w bb k _ (fun e => ?_)
  subst e
  rcases hk2 with h3 | h3
  ·omega
  ·have:=h3 _ _ _ hg
   cases this
set_option maxHeartbeats 400000 in
theorem lay_at2 {w:World} {base a bb bc:Nat} {wv:Value} {s:St} (h:At w base a bb bc wv s) (g o p n:Nat) (bs:List UInt8) (hl:bs.length=128) (hn:n≤128) (hp:p<s.n) (hc:w.cell? ⟨g,o,none⟩=some (.int .i64 (p:Int))) (hb:Has w g (o+1) bs) :
  Calls Tryz.prog 200 #[.pointer (some ⟨a,0,none⟩),.pointer (some ⟨g,o,none⟩),.int .i64 (n:Int)] w fun e w'=>e = .returned (.tuple #[])∧At w' base a bb bc wv (s.lay p (bs.take n))∧Turned dT base w w'∧Only w w' a bb:=by
 obtain ⟨hbc1,hbc2⟩:=h.cap
 have hn4:=h.ok.hi
 unfold maxLen at hbc2
 have c0:=h.c0
 have hp2:(p:Int)<(s.n:Int):=by omega
 have hn2:(n:Int)≤128:=by omega
 obtain ⟨w2,hcopy,A2,T2,O2⟩:=run_copy_lay2 h.drew 3 p hp n hn bs hl g (o+1) hb
 have HA:=Lib.hid A2
 have HT:=Lib.hid (((Turned.refl dT base w).drew).trans T2)
 have HO:=Lib.hid (show Only w w2 a bb from ⟨O2.size,O2.block⟩)
 clear h A2 T2 O2 hb hl
 go_enter Tryz.func200,Tryz.ntmps200
 go_still_tail 16,(by kernel_rfl)
 change wpList _ _ _ _ _ w.drew
 go_wp2_with fail
 go_end0
 exact ⟨rfl,HA.out,HT.out,HO.out⟩
end Go.Proofs.YtogchamogbendaaGreat.Dsk
