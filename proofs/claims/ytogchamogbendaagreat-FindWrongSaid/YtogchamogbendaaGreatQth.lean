import Derived.Lib.MinMax
import Derived.Deep.LoopGhost
import Derived.Test.YtogchamogbendaaGreatQte
set_option maxRecDepth 100000
set_option linter.unusedVariables false
set_option linter.unusedSimpArgs false
namespace Go.Proofs.YtogchamogbendaaGreat.Pk
open Go.RowKit Oct Mv Tl Go.Maps
structure Q where
 s:St
 first:Nat
 next:Nat
 asked:Nat
structure Q.Ok (q:Q):Prop where
 s:q.s.Ok
 first:q.first≤q.s.n
 le:q.first≤q.next
 next:q.next<q.s.n∨q.next=q.first
 asked:q.asked≤q.s.n
theorem Q.Ok.nextn {q:Q} (h:q.Ok):q.next≤q.s.n:=by have:=h.next; have:=h.first; omega
def St.count (s:St) (f k:Nat):Nat:=(List.range' f k).countP s.free
theorem count_succ (s:St) (f k:Nat):St.count s f (k+1)=St.count s f k+(if s.free (f+k) then 1 else 0):=by
 unfold St.count
 rw [List.range'_concat,List.countP_append]
 simp [List.countP_cons]
theorem count_le (s:St) (f k:Nat):St.count s f k≤k:=by
 have:=List.countP_le_length (p:=s.free) (l:=List.range' f k)
 rwa [List.length_range'] at this
def Q.room (q:Q):Nat:=St.count q.s q.first (q.s.n-q.first)
theorem Q.room_le (q:Q):q.room≤q.s.n:=by have:=count_le q.s q.first (q.s.n-q.first); unfold Q.room; omega
structure But3 (w w':World) (p q r:Nat):Prop where
 os:w'.os=w.os
 tape:w'.tape=w.tape
 output:w'.output=w.output
 size:w.heap.size≤w'.heap.size
 block : ∀k,k<w.heap.size→k≠p→k≠q→k≠r→w'.heap[k]?=w.heap[k]?
theorem But3.trans {w w' w'':World} {p q r:Nat} (h:But3 w w' p q r) (k:But3 w' w'' p q r):But3 w w'' p q r :=
 ⟨k.os.trans h.os,k.tape.trans h.tape,k.output.trans h.output,Nat.le_trans h.size k.size,fun j hj hp hq hr=>(k.block j (Nat.lt_of_lt_of_le hj h.size) hp hq hr).trans (h.block j hj hp hq hr)⟩
theorem But3.of_below {w w':World} {B:Nat} (p q r:Nat) (h:Below B w w') (hB:w.heap.size≤B):But3 w w' p q r :=
 ⟨h.os,h.tape,h.output,h.size,fun k hk _ _ _=>h.block k (by omega)⟩
theorem But3.of_but {w w':World} {p q:Nat} (r:Nat) (h:But w w' p q):But3 w w' p q r :=
 ⟨h.os,h.tape,h.output,h.size,fun k hk hp hq _=>h.block k hk hp hq⟩
theorem But3.below {w w':World} {p q r B:Nat} (h:But3 w w' p q r) (hp:B≤p) (hq:B≤q) (hr:B≤r) (hB:B≤w.heap.size):Below B w w' :=
 ⟨h.os,h.tape,h.output,h.size,fun k hk=>h.block k (by omega) (by omega) (by omega) (by omega)⟩
theorem But3.set (w:World) (p q r i:Nat) (v:Value):But3 w (w.setCell ⟨r,i,none⟩ v) p q r :=
 ⟨rfl,rfl,rfl,by simp,fun k _ _ _ hr=>heap_setCell_other _ _ _ _ hr⟩
theorem But3.still {w w':World} {p q r:Nat} (h:Still w w'):But3 w w' p q r := .of_below p q r (h.below w.heap.size) (Nat.le_refl _)
def pcells (p a:Nat) (q:Q):List Value := [.pointer (some ⟨a,0,none⟩),.int .i64 (q.first:Int),.int .i64 (q.next:Int),.int .i64 (q.asked:Int),.pointer (some ⟨p,0,none⟩)]
structure PAt (w:World) (p a cb mb c:Nat) (q:Q):Prop where
 row:RowV w p 235 (pcells p a q)
 tally:At w a cb mb c q.s
 ok:q.Ok
theorem row_ne {w:World} {g r:Nat} {T U:TypeId} {vs us:List Value} (h:RowV w g T vs) (k:RowV w r U us) (hT:T≠U):g≠r:=by
 rintro rfl
 unfold RowV at h k
 rw [h] at k
 simp only [Option.some.injEq,Obj.cells.injEq] at k
 exact hT k.2.1
section
variable {w w':World} {p a cb mb c:Nat} {q:Q}
theorem PAt.p_a (h:PAt w p a cb mb c q):p≠a:=row_ne h.row h.tally.row (by decide)
theorem PAt.p_cb (h:PAt w p a cb mb c q):p≠cb:=by obtain ⟨sp,k⟩:=h.tally.nums; exact row_ne h.row k (by decide)
theorem PAt.p_mb (h:PAt w p a cb mb c q):p≠mb:=by obtain ⟨_,_,h1,_⟩:=h.tally.mp; exact own_row h1 h.row
theorem PAt.c0 (h:PAt w p a cb mb c q):w.cell? ⟨p,0,none⟩=some (.pointer (some ⟨a,0,none⟩)):=h.row.cellAt rfl
theorem PAt.c1 (h:PAt w p a cb mb c q):w.cell? ⟨p,1,none⟩=some (.int .i64 (q.first:Int)):=h.row.cellAt rfl
theorem PAt.c2 (h:PAt w p a cb mb c q):w.cell? ⟨p,2,none⟩=some (.int .i64 (q.next:Int)):=h.row.cellAt rfl
theorem PAt.c4 (h:PAt w p a cb mb c q):w.cell? ⟨p,4,none⟩=some (.pointer (some ⟨p,0,none⟩)):=h.row.cellAt rfl
theorem PAt.blocks (h:PAt w p a cb mb c q) (k0:w'.heap[p]?=w.heap[p]?) (k1:w'.heap[a]?=w.heap[a]?) (k2:w'.heap[cb]?=w.heap[cb]?) (k3:w'.heap[mb]?=w.heap[mb]?):PAt w' p a cb mb c q :=
 ⟨h.row.block k0,h.tally.blocks k1 k2 k3,h.ok⟩
theorem PAt.kept (h:PAt w p a cb mb c q) (k:Below w.heap.size w w'):PAt w' p a cb mb c q :=
 ⟨h.row.below h.row.lt k,h.tally.kept k,h.ok⟩
theorem PAt.turned (h:PAt w p a cb mb c q) {s:St} (k:At w' a cb mb c s) (b:But w w' cb mb) (hn:s.n=q.s.n):PAt w' p a cb mb c ⟨s,q.first,q.next,q.asked⟩ :=
 ⟨h.row.block (b.block p h.row.lt h.p_cb h.p_mb),k,⟨k.ok,by rw [hn]; exact h.ok.first,h.ok.le,by rw [hn]; exact h.ok.next,by rw [hn]; exact h.ok.asked⟩⟩
end
theorem pick_info:(Tryz.prog.info? 235).isSome=true:=by kernel_rfl
theorem peql_self (a:Nat) (w:World):(binOp .eql 63 (.pointer (some ⟨a,0,none⟩)) (.pointer (some ⟨a,0,none⟩))).run Tryz.prog w = .ok (.bool true) w:=by
 obtain ⟨j,hj⟩:=Option.isSome_iff_exists.1 pick_info
 exact run_eql_ptr_same (P:=Tryz.prog) w ⟨a,0,none⟩ Tryz.underlying63 hj
theorem pmade_self (a:Nat) (w:World) (h:w.cell? ⟨a,4,none⟩=some (.pointer (some ⟨a,0,none⟩))) :
  Calls Tryz.prog 152 #[.pointer (some ⟨a,0,none⟩)] w fun e w'=>e = .returned (.bool true)∧w=w':=by
 have k:=peql_self a w
 go_enter Tryz.func152,Tryz.ntmps152
 go_wp2
 go_ret
 exact ⟨rfl,rfl⟩
theorem room_at {w:World} {p a cb mb c:Nat} {q:Q} (h:PAt w p a cb mb c q) :
  Calls Tryz.prog 95 #[.pointer (some ⟨p,0,none⟩)] w fun e w'=>e = .returned (.int .i64 (q.room:Int))∧w=w':=by
 have c0:=h.c0
 have c1:=h.c1
 have c4:=h.c4
 have H:=Lib.hid h.tally
 have hf:q.first≤q.s.n:=h.ok.first
 have hn:q.s.n≤4096:=h.ok.s.hi
 clear h
 go_enter Tryz.func95,Tryz.ntmps95
 go_wp2_with fail
 refine (pmade_self p _ c4).mono ?_
 rintro e w' ⟨rfl,rfl⟩
 go_wp2_with fail
 go_loopw [4,3] (fun i m wr => ∃k:Nat,q.first+k≤q.s.n∧i = .int .i64 ((q.first+k:Nat):Int)∧m = .int .i64 (St.count q.s q.first k:Int)∧wr=w) (fun i _ _=>q.s.n-(Go.RowKit.intOf i).toNat)
 case atStart=>exact ⟨0,by omega,rfl,rfl,rfl⟩
 case round =>
  obtain ⟨k,hk,rfl,rfl,rfl⟩:=hrel
  go_wp2_with fail
  refine (blocks_at H.out).mono ?_
  rintro e w' ⟨rfl,rfl⟩
  by_cases hlt:q.first+k<q.s.n
  ·have hki:((q.first+k:Nat):Int)<(q.s.n:Int):=by omega
   have hle:=count_le q.s q.first k
   have HS:=Lib.hid (count_succ q.s q.first k)
   cases hfr:q.s.free (q.first+k)
   all_goals
    rw [hfr] at HS
    go_wp2_with fail
    refine (free_yes H.out (q.first+k) hlt).mono ?_
    rintro e w' ⟨rfl,rfl⟩
    rw [hfr]
    go_wp2_with fail
    go_roundw
    case rel=>exact ⟨k+1,by omega,by go_num,by rw [HS.out]; first | rfl | (congr 1),by first | rfl | trivial⟩
    case measure=>simp [Go.RowKit.intOf]; omega
  ·have hki : ¬((q.first+k:Nat):Int)<(q.s.n:Int):=by omega
   have hkk:k=q.s.n-q.first:=by omega
   go_wp2_with fail
   go_ret
   exact ⟨by unfold Q.room; rw [← hkk]; rfl,rfl⟩
end Go.Proofs.YtogchamogbendaaGreat.Pk
namespace Go.Proofs.YtogchamogbendaaGreat.Pk
open Go.RowKit Oct Mv Tl Go.Maps
theorem pnew_nay (v:Value) (n:Int) (w:World) (h:Nay w v) :
  Calls Tryz.prog 78 #[v,.int .i64 n] w fun e w'=>e = .returned (.tuple #[.pointer none,.int .i64 1])∧w=w':=by
 go_enter Tryz.func78,Tryz.ntmps78
 go_wp2_with fail
 refine (blocks_nay v _ h).mono ?_
 rintro e w' ⟨rfl,rfl⟩
 go_wp2_with fail
 go_ret2
 exact ⟨rfl,rfl⟩
structure PNew (w w':World) (p a cb mb c:Nat) (q:Q):Prop where
 at':PAt w' p a cb mb c q
 below:Below w.heap.size w w'
 hp:w.heap.size≤p
theorem pnew_yes {w:World} {a cb mb c:Nat} {s:St} (h:At w a cb mb c s) (f:Nat) (hf:f≤s.n) :
  Calls Tryz.prog 78 #[.pointer (some ⟨a,0,none⟩),.int .i64 (f:Int)] w fun e w' => ∃p,e = .returned (.tuple #[.pointer (some ⟨p,0,none⟩),.int .i64 0])∧PNew w w' p a cb mb c ⟨s,f,f,0⟩:=by
 have H:=Lib.hid h
 have h1:=h.ok.lo
 have hne : ¬((s.n:Int)=0):=by have:1≤s.n:=h1; omega
 have h0 : ¬((f:Int)<0):=by omega
 have h2 : ¬((s.n:Int)<(f:Int)):=by omega
 clear h h1
 go_enter Tryz.func78,Tryz.ntmps78
 go_wp2_with fail
 refine (blocks_at H.out).mono ?_
 rintro e w' ⟨rfl,rfl⟩
 go_wp2_with fail
 go_ret2
 have B1:=(Below.refl w.heap.size w).alloc (Nat.le_refl _) (.cells (pcells w.heap.size a ⟨s,f,f,0⟩).toArray 235)
 have R1:=alloc_rowV w 235 (pcells w.heap.size a ⟨s,f,f,0⟩)
 exact ⟨w.heap.size,rfl,⟨R1,H.out.kept B1,⟨H.out.ok,hf,Nat.le_refl _,.inr rfl,Nat.zero_le _⟩⟩,B1,Nat.le_refl _⟩
theorem PAt.drewN {w:World} {p a cb mb c:Nat} {q:Q} (h:PAt w p a cb mb c q) (n:Nat):PAt (w.drewN n) p a cb mb c q:=h.blocks rfl rfl rfl rfl
end Go.Proofs.YtogchamogbendaaGreat.Pk
namespace Go.Proofs.YtogchamogbendaaGreat.Pk
open Lib (hid)
open Go.RowKit Oct Mv Tl Go.Maps
def Q.lo (q:Q) (k:Nat):Nat:=if k=0 then q.next else q.first
def Q.hi (q:Q) (k:Nat):Nat:=if k=0 then q.s.n else q.next
def Q.full (q:Q) (k m:Nat):Prop := ∀j,q.lo k≤j→j<m→q.s.free j=false
def Q.Found (q:Q) (b:Nat):Prop:=b<q.s.n∧q.s.free b=true∧((q.next≤b∧q.full 0 b)∨(q.full 0 q.s.n∧q.first≤b∧b<q.next∧q.full 1 b))
def Q.None (q:Q):Prop:=q.full 0 q.s.n∧q.full 1 q.next
def Q.Look (q:Q) (b:Nat) (ok:Bool):Prop:=if ok then q.Found b else b=0∧q.None
set_option maxHeartbeats 2000000 in
theorem look_at {w:World} {p ta cb mb c:Nat} {q:Q} (h:PAt w p ta cb mb c q) :
  Calls Tryz.prog 154 #[.pointer (some ⟨p,0,none⟩)] w fun e w' => ∃b ok,e = .returned (.tuple #[.int .i64 ((b:Nat):Int),.bool ok])∧q.Look b ok∧Below w.heap.size w w':=by
 have H:=hid h
 have c0:=h.c0
 have c1:=h.c1
 have c2:=h.c2
 have hn:q.s.n≤4096:=h.ok.s.hi
 have hf:=h.ok.first
 have hl:=h.ok.le
 have hnx:=h.ok.nextn
 clear h
 go_enter Tryz.func154,Tryz.ntmps154
 go_upto_region 2 with (fail)
 go_step3
 go_upto_region 2 with (fail)
 refine Inv2.wp_region_inv (fun b a wy => ∃z6 z10 z11 z12 z13 z14 z15 z16 z17 z18 z19 z20 z21 z22 z23 z24 z25 z26 z27 z28 z29,a=⟨#[.pointer (some ⟨p,0,none⟩),undef,.int .i64 0,.bool false,.int .i64 0,.bool false,z6,undef,undef,undef,z10,z11,z12,z13,z14,z15,z16,z17,z18,z19,z20,z21,z22,z23,z24,z25,z26,z27,z28,z29,undef,undef,undef,undef,undef,undef,undef,undef,undef,undef,undef,undef,undef,undef,undef,undef,undef,undef,undef,undef,undef,undef],[]⟩∧Hid ((b 0=true→z10 = .pointer (some ⟨p,0,none⟩))∧(b 1=true→z11 = .pointer (some ⟨p,0,none⟩))∧(b 2=true→z12 = .pointer (some ⟨p,2,none⟩))∧(b 3=true→z13 = .int .i64 (q.next:Int))∧(b 4=true→z14 = .pointer (some ⟨p,0,none⟩))∧(b 5=true→z15 = .pointer (some ⟨p,0,none⟩))∧(b 6=true→z16 = .pointer (some ⟨p,0,none⟩))∧(b 7=true→z17 = .pointer (some ⟨ta,0,none⟩))∧(b 8=true→z18 = .int .i64 (q.s.n:Int))∧(b 9=true→z19 = .agg #[.int .i64 (q.next:Int),.int .i64 (q.s.n:Int)])∧(b 10=true→z20 = .pointer (some ⟨p,0,none⟩))∧(b 11=true→z21 = .pointer (some ⟨p,0,none⟩))∧(b 12=true→z22 = .pointer (some ⟨p,1,none⟩))∧(b 13=true→z23 = .int .i64 (q.first:Int))∧(b 14=true→z24 = .pointer (some ⟨p,0,none⟩))∧(b 15=true→z25 = .pointer (some ⟨p,0,none⟩))∧(b 16=true→z26 = .pointer (some ⟨p,2,none⟩))∧(b 17=true→z27 = .int .i64 (q.next:Int))∧(b 18=true→z28 = .agg #[.int .i64 (q.first:Int),.int .i64 (q.next:Int)])∧(b 19=true→z29 = .agg #[.int .i64 (q.next:Int),.int .i64 (q.s.n:Int),.int .i64 (q.first:Int),.int .i64 (q.next:Int)]))∧Hid (Below w.heap.size w wy)∧Hid (∃r,(b 20=true→b 21=false→z6 = .pointer (some ⟨r,0,none⟩)∧w.heap.size≤r∧RowV wy r 289 [.int .i64 0,.int .i64 0,.int .i64 0,.int .i64 0])∧(b 21=true→z6 = .pointer (some ⟨r,0,none⟩)∧w.heap.size≤r∧RowV wy r 289 [.int .i64 (q.next:Int),.int .i64 (q.s.n:Int),.int .i64 (q.first:Int),.int .i64 (q.next:Int)])∧(b 21=true→b 20=true))) (by kernel_rfl) (by kernel_rfl) ?startL2 ?stepsL2 ?doneL2
 case startL2 =>
  intro b hb
  refine ⟨undef,undef,undef,undef,undef,undef,undef,undef,undef,undef,undef,undef,undef,undef,undef,undef,undef,undef,undef,undef,undef,rfl,hid ⟨?_,?_,?_,?_,?_,?_,?_,?_,?_,?_,?_,?_,?_,?_,?_,?_,?_,?_,?_,?_⟩,hid ((show Still w w.drew from ⟨rfl,rfl,rfl,rfl⟩).below _),hid (⟨0,(fun e=>by rw [hb _ (by decide)] at e; cases e),(fun e=>by rw [hb _ (by decide)] at e; cases e),(fun e=>by rw [hb _ (by decide)] at e; cases e)⟩)⟩
  all_goals (intro e; first | rfl | (rw [hb _ (by decide)] at e; cases e))
 case stepsL2 =>
  refine ⟨?_,?_,?_,?_,?_,?_,?_,?_,?_,?_,?_,?_,?_,?_,?_,?_,?_,?_,?_,?_,?_,?_,trivial⟩
  ·rintro b a wy hb hd ⟨z6,z10,z11,z12,z13,z14,z15,z16,z17,z18,z19,z20,z21,z22,z23,z24,z25,z26,z27,z28,z29,rfl,HV,HW,HX⟩ K hK
   obtain ⟨h0,h1,h2,h3,h4,h5,h6,h7,h8,h9,h10,h11,h12,h13,h14,h15,h16,h17,h18,h19⟩:=HV.out
   clear hd
   go_simp
   exact hK _ _ ⟨_,_,_,_,_,_,_,_,_,_,_,_,_,_,_,_,_,_,_,_,_,rfl,hid ⟨fun _=>rfl,h1,h2,h3,h4,h5,h6,h7,h8,h9,h10,h11,h12,h13,h14,h15,h16,h17,h18,h19⟩,HW,HX⟩
  ·rintro b a wy hb hd ⟨z6,z10,z11,z12,z13,z14,z15,z16,z17,z18,z19,z20,z21,z22,z23,z24,z25,z26,z27,z28,z29,rfl,HV,HW,HX⟩ K hK
   obtain ⟨h0,h1,h2,h3,h4,h5,h6,h7,h8,h9,h10,h11,h12,h13,h14,h15,h16,h17,h18,h19⟩:=HV.out
   simp [Region.binds] at hd
   obtain rfl:=h0 (by simp [hd])
   clear hd
   go_simp
   exact hK _ _ ⟨_,_,_,_,_,_,_,_,_,_,_,_,_,_,_,_,_,_,_,_,_,rfl,hid ⟨h0,fun _=>rfl,h2,h3,h4,h5,h6,h7,h8,h9,h10,h11,h12,h13,h14,h15,h16,h17,h18,h19⟩,HW,HX⟩
  ·rintro b a wy hb hd ⟨z6,z10,z11,z12,z13,z14,z15,z16,z17,z18,z19,z20,z21,z22,z23,z24,z25,z26,z27,z28,z29,rfl,HV,HW,HX⟩ K hK
   obtain ⟨h0,h1,h2,h3,h4,h5,h6,h7,h8,h9,h10,h11,h12,h13,h14,h15,h16,h17,h18,h19⟩:=HV.out
   simp [Region.binds] at hd
   obtain rfl:=h1 (by simp [hd])
   clear hd
   go_simp
   exact hK _ _ ⟨_,_,_,_,_,_,_,_,_,_,_,_,_,_,_,_,_,_,_,_,_,rfl,hid ⟨h0,h1,fun _=>rfl,h3,h4,h5,h6,h7,h8,h9,h10,h11,h12,h13,h14,h15,h16,h17,h18,h19⟩,HW,HX⟩
  ·rintro b a wy hb hd ⟨z6,z10,z11,z12,z13,z14,z15,z16,z17,z18,z19,z20,z21,z22,z23,z24,z25,z26,z27,z28,z29,rfl,HV,HW,HX⟩ K hK
   obtain ⟨h0,h1,h2,h3,h4,h5,h6,h7,h8,h9,h10,h11,h12,h13,h14,h15,h16,h17,h18,h19⟩:=HV.out
   simp [Region.binds] at hd
   obtain rfl:=h2 (by simp [hd])
   clear hd
   have hc:=(H.out.kept HW.out).c2
   go_simp
   exact hK _ _ ⟨_,_,_,_,_,_,_,_,_,_,_,_,_,_,_,_,_,_,_,_,_,rfl,hid ⟨h0,h1,h2,fun _=>rfl,h4,h5,h6,h7,h8,h9,h10,h11,h12,h13,h14,h15,h16,h17,h18,h19⟩,HW,HX⟩
  ·rintro b a wy hb hd ⟨z6,z10,z11,z12,z13,z14,z15,z16,z17,z18,z19,z20,z21,z22,z23,z24,z25,z26,z27,z28,z29,rfl,HV,HW,HX⟩ K hK
   obtain ⟨h0,h1,h2,h3,h4,h5,h6,h7,h8,h9,h10,h11,h12,h13,h14,h15,h16,h17,h18,h19⟩:=HV.out
   clear hd
   go_simp
   exact hK _ _ ⟨_,_,_,_,_,_,_,_,_,_,_,_,_,_,_,_,_,_,_,_,_,rfl,hid ⟨h0,h1,h2,h3,fun _=>rfl,h5,h6,h7,h8,h9,h10,h11,h12,h13,h14,h15,h16,h17,h18,h19⟩,HW,HX⟩
  ·rintro b a wy hb hd ⟨z6,z10,z11,z12,z13,z14,z15,z16,z17,z18,z19,z20,z21,z22,z23,z24,z25,z26,z27,z28,z29,rfl,HV,HW,HX⟩ K hK
   obtain ⟨h0,h1,h2,h3,h4,h5,h6,h7,h8,h9,h10,h11,h12,h13,h14,h15,h16,h17,h18,h19⟩:=HV.out
   simp [Region.binds] at hd
   obtain rfl:=h4 (by simp [hd])
   clear hd
   go_simp
   exact hK _ _ ⟨_,_,_,_,_,_,_,_,_,_,_,_,_,_,_,_,_,_,_,_,_,rfl,hid ⟨h0,h1,h2,h3,h4,fun _=>rfl,h6,h7,h8,h9,h10,h11,h12,h13,h14,h15,h16,h17,h18,h19⟩,HW,HX⟩
  ·rintro b a wy hb hd ⟨z6,z10,z11,z12,z13,z14,z15,z16,z17,z18,z19,z20,z21,z22,z23,z24,z25,z26,z27,z28,z29,rfl,HV,HW,HX⟩ K hK
   obtain ⟨h0,h1,h2,h3,h4,h5,h6,h7,h8,h9,h10,h11,h12,h13,h14,h15,h16,h17,h18,h19⟩:=HV.out
   simp [Region.binds] at hd
   obtain rfl:=h5 (by simp [hd])
   clear hd
   go_simp
   exact hK _ _ ⟨_,_,_,_,_,_,_,_,_,_,_,_,_,_,_,_,_,_,_,_,_,rfl,hid ⟨h0,h1,h2,h3,h4,h5,fun _=>rfl,h7,h8,h9,h10,h11,h12,h13,h14,h15,h16,h17,h18,h19⟩,HW,HX⟩
  ·rintro b a wy hb hd ⟨z6,z10,z11,z12,z13,z14,z15,z16,z17,z18,z19,z20,z21,z22,z23,z24,z25,z26,z27,z28,z29,rfl,HV,HW,HX⟩ K hK
   obtain ⟨h0,h1,h2,h3,h4,h5,h6,h7,h8,h9,h10,h11,h12,h13,h14,h15,h16,h17,h18,h19⟩:=HV.out
   simp [Region.binds] at hd
   obtain rfl:=h6 (by simp [hd])
   clear hd
   have hc:=(H.out.kept HW.out).c0
   go_simp
   exact hK _ _ ⟨_,_,_,_,_,_,_,_,_,_,_,_,_,_,_,_,_,_,_,_,_,rfl,hid ⟨h0,h1,h2,h3,h4,h5,h6,fun _=>rfl,h8,h9,h10,h11,h12,h13,h14,h15,h16,h17,h18,h19⟩,HW,HX⟩
  ·rintro b a wy hb hd ⟨z6,z10,z11,z12,z13,z14,z15,z16,z17,z18,z19,z20,z21,z22,z23,z24,z25,z26,z27,z28,z29,rfl,HV,HW,HX⟩ K hK
   obtain ⟨h0,h1,h2,h3,h4,h5,h6,h7,h8,h9,h10,h11,h12,h13,h14,h15,h16,h17,h18,h19⟩:=HV.out
   simp [Region.binds] at hd
   obtain rfl:=h7 (by simp [hd])
   clear hd
   go_simp
   go_at_call 143
   refine (blocks_at (H.out.kept HW.out).tally).mono ?_
   rintro e wz ⟨rfl,rfl⟩
   try go_simp
   exact hK _ _ ⟨_,_,_,_,_,_,_,_,_,_,_,_,_,_,_,_,_,_,_,_,_,rfl,hid ⟨h0,h1,h2,h3,h4,h5,h6,h7,fun _=>rfl,h9,h10,h11,h12,h13,h14,h15,h16,h17,h18,h19⟩,HW,HX⟩
  ·rintro b a wy hb hd ⟨z6,z10,z11,z12,z13,z14,z15,z16,z17,z18,z19,z20,z21,z22,z23,z24,z25,z26,z27,z28,z29,rfl,HV,HW,HX⟩ K hK
   obtain ⟨h0,h1,h2,h3,h4,h5,h6,h7,h8,h9,h10,h11,h12,h13,h14,h15,h16,h17,h18,h19⟩:=HV.out
   simp [Region.binds] at hd
   obtain rfl:=h3 (by simp [hd])
   obtain rfl:=h8 (by simp [hd])
   clear hd
   go_simp
   exact hK _ _ ⟨_,_,_,_,_,_,_,_,_,_,_,_,_,_,_,_,_,_,_,_,_,rfl,hid ⟨h0,h1,h2,h3,h4,h5,h6,h7,h8,fun _=>rfl,h10,h11,h12,h13,h14,h15,h16,h17,h18,h19⟩,HW,HX⟩
  ·rintro b a wy hb hd ⟨z6,z10,z11,z12,z13,z14,z15,z16,z17,z18,z19,z20,z21,z22,z23,z24,z25,z26,z27,z28,z29,rfl,HV,HW,HX⟩ K hK
   obtain ⟨h0,h1,h2,h3,h4,h5,h6,h7,h8,h9,h10,h11,h12,h13,h14,h15,h16,h17,h18,h19⟩:=HV.out
   clear hd
   go_simp
   exact hK _ _ ⟨_,_,_,_,_,_,_,_,_,_,_,_,_,_,_,_,_,_,_,_,_,rfl,hid ⟨h0,h1,h2,h3,h4,h5,h6,h7,h8,h9,fun _=>rfl,h11,h12,h13,h14,h15,h16,h17,h18,h19⟩,HW,HX⟩
  ·rintro b a wy hb hd ⟨z6,z10,z11,z12,z13,z14,z15,z16,z17,z18,z19,z20,z21,z22,z23,z24,z25,z26,z27,z28,z29,rfl,HV,HW,HX⟩ K hK
   obtain ⟨h0,h1,h2,h3,h4,h5,h6,h7,h8,h9,h10,h11,h12,h13,h14,h15,h16,h17,h18,h19⟩:=HV.out
   simp [Region.binds] at hd
   obtain rfl:=h10 (by simp [hd])
   clear hd
   go_simp
   exact hK _ _ ⟨_,_,_,_,_,_,_,_,_,_,_,_,_,_,_,_,_,_,_,_,_,rfl,hid ⟨h0,h1,h2,h3,h4,h5,h6,h7,h8,h9,h10,fun _=>rfl,h12,h13,h14,h15,h16,h17,h18,h19⟩,HW,HX⟩
  ·rintro b a wy hb hd ⟨z6,z10,z11,z12,z13,z14,z15,z16,z17,z18,z19,z20,z21,z22,z23,z24,z25,z26,z27,z28,z29,rfl,HV,HW,HX⟩ K hK
   obtain ⟨h0,h1,h2,h3,h4,h5,h6,h7,h8,h9,h10,h11,h12,h13,h14,h15,h16,h17,h18,h19⟩:=HV.out
   simp [Region.binds] at hd
   obtain rfl:=h11 (by simp [hd])
   clear hd
   go_simp
   exact hK _ _ ⟨_,_,_,_,_,_,_,_,_,_,_,_,_,_,_,_,_,_,_,_,_,rfl,hid ⟨h0,h1,h2,h3,h4,h5,h6,h7,h8,h9,h10,h11,fun _=>rfl,h13,h14,h15,h16,h17,h18,h19⟩,HW,HX⟩
  ·rintro b a wy hb hd ⟨z6,z10,z11,z12,z13,z14,z15,z16,z17,z18,z19,z20,z21,z22,z23,z24,z25,z26,z27,z28,z29,rfl,HV,HW,HX⟩ K hK
   obtain ⟨h0,h1,h2,h3,h4,h5,h6,h7,h8,h9,h10,h11,h12,h13,h14,h15,h16,h17,h18,h19⟩:=HV.out
   simp [Region.binds] at hd
   obtain rfl:=h12 (by simp [hd])
   clear hd
   have hc:=(H.out.kept HW.out).c1
   go_simp
   exact hK _ _ ⟨_,_,_,_,_,_,_,_,_,_,_,_,_,_,_,_,_,_,_,_,_,rfl,hid ⟨h0,h1,h2,h3,h4,h5,h6,h7,h8,h9,h10,h11,h12,fun _=>rfl,h14,h15,h16,h17,h18,h19⟩,HW,HX⟩
  ·rintro b a wy hb hd ⟨z6,z10,z11,z12,z13,z14,z15,z16,z17,z18,z19,z20,z21,z22,z23,z24,z25,z26,z27,z28,z29,rfl,HV,HW,HX⟩ K hK
   obtain ⟨h0,h1,h2,h3,h4,h5,h6,h7,h8,h9,h10,h11,h12,h13,h14,h15,h16,h17,h18,h19⟩:=HV.out
   clear hd
   go_simp
   exact hK _ _ ⟨_,_,_,_,_,_,_,_,_,_,_,_,_,_,_,_,_,_,_,_,_,rfl,hid ⟨h0,h1,h2,h3,h4,h5,h6,h7,h8,h9,h10,h11,h12,h13,fun _=>rfl,h15,h16,h17,h18,h19⟩,HW,HX⟩
  ·rintro b a wy hb hd ⟨z6,z10,z11,z12,z13,z14,z15,z16,z17,z18,z19,z20,z21,z22,z23,z24,z25,z26,z27,z28,z29,rfl,HV,HW,HX⟩ K hK
   obtain ⟨h0,h1,h2,h3,h4,h5,h6,h7,h8,h9,h10,h11,h12,h13,h14,h15,h16,h17,h18,h19⟩:=HV.out
   simp [Region.binds] at hd
   obtain rfl:=h14 (by simp [hd])
   clear hd
   go_simp
   exact hK _ _ ⟨_,_,_,_,_,_,_,_,_,_,_,_,_,_,_,_,_,_,_,_,_,rfl,hid ⟨h0,h1,h2,h3,h4,h5,h6,h7,h8,h9,h10,h11,h12,h13,h14,fun _=>rfl,h16,h17,h18,h19⟩,HW,HX⟩
  ·rintro b a wy hb hd ⟨z6,z10,z11,z12,z13,z14,z15,z16,z17,z18,z19,z20,z21,z22,z23,z24,z25,z26,z27,z28,z29,rfl,HV,HW,HX⟩ K hK
   obtain ⟨h0,h1,h2,h3,h4,h5,h6,h7,h8,h9,h10,h11,h12,h13,h14,h15,h16,h17,h18,h19⟩:=HV.out
   simp [Region.binds] at hd
   obtain rfl:=h15 (by simp [hd])
   clear hd
   go_simp
   exact hK _ _ ⟨_,_,_,_,_,_,_,_,_,_,_,_,_,_,_,_,_,_,_,_,_,rfl,hid ⟨h0,h1,h2,h3,h4,h5,h6,h7,h8,h9,h10,h11,h12,h13,h14,h15,fun _=>rfl,h17,h18,h19⟩,HW,HX⟩
  ·rintro b a wy hb hd ⟨z6,z10,z11,z12,z13,z14,z15,z16,z17,z18,z19,z20,z21,z22,z23,z24,z25,z26,z27,z28,z29,rfl,HV,HW,HX⟩ K hK
   obtain ⟨h0,h1,h2,h3,h4,h5,h6,h7,h8,h9,h10,h11,h12,h13,h14,h15,h16,h17,h18,h19⟩:=HV.out
   simp [Region.binds] at hd
   obtain rfl:=h16 (by simp [hd])
   clear hd
   have hc:=(H.out.kept HW.out).c2
   go_simp
   exact hK _ _ ⟨_,_,_,_,_,_,_,_,_,_,_,_,_,_,_,_,_,_,_,_,_,rfl,hid ⟨h0,h1,h2,h3,h4,h5,h6,h7,h8,h9,h10,h11,h12,h13,h14,h15,h16,fun _=>rfl,h18,h19⟩,HW,HX⟩
  ·rintro b a wy hb hd ⟨z6,z10,z11,z12,z13,z14,z15,z16,z17,z18,z19,z20,z21,z22,z23,z24,z25,z26,z27,z28,z29,rfl,HV,HW,HX⟩ K hK
   obtain ⟨h0,h1,h2,h3,h4,h5,h6,h7,h8,h9,h10,h11,h12,h13,h14,h15,h16,h17,h18,h19⟩:=HV.out
   simp [Region.binds] at hd
   obtain rfl:=h13 (by simp [hd])
   obtain rfl:=h17 (by simp [hd])
   clear hd
   go_simp
   exact hK _ _ ⟨_,_,_,_,_,_,_,_,_,_,_,_,_,_,_,_,_,_,_,_,_,rfl,hid ⟨h0,h1,h2,h3,h4,h5,h6,h7,h8,h9,h10,h11,h12,h13,h14,h15,h16,h17,fun _=>rfl,h19⟩,HW,HX⟩
  ·rintro b a wy hb hd ⟨z6,z10,z11,z12,z13,z14,z15,z16,z17,z18,z19,z20,z21,z22,z23,z24,z25,z26,z27,z28,z29,rfl,HV,HW,HX⟩ K hK
   obtain ⟨h0,h1,h2,h3,h4,h5,h6,h7,h8,h9,h10,h11,h12,h13,h14,h15,h16,h17,h18,h19⟩:=HV.out
   simp [Region.binds] at hd
   obtain rfl:=h9 (by simp [hd])
   obtain rfl:=h18 (by simp [hd])
   clear hd
   go_simp
   exact hK _ _ ⟨_,_,_,_,_,_,_,_,_,_,_,_,_,_,_,_,_,_,_,_,_,rfl,hid ⟨h0,h1,h2,h3,h4,h5,h6,h7,h8,h9,h10,h11,h12,h13,h14,h15,h16,h17,h18,fun _=>rfl⟩,HW,HX⟩
  ·rintro b a wy hb hd ⟨z6,z10,z11,z12,z13,z14,z15,z16,z17,z18,z19,z20,z21,z22,z23,z24,z25,z26,z27,z28,z29,rfl,HV,HW,HX⟩ K hK
   obtain ⟨h0,h1,h2,h3,h4,h5,h6,h7,h8,h9,h10,h11,h12,h13,h14,h15,h16,h17,h18,h19⟩:=HV.out
   clear hd
   go_simp
   obtain ⟨r,x0,x1,x2⟩:=HX.out
   have B2:=(Below.refl wy.heap.size wy).alloc (Nat.le_refl _) (.cells #[.int .i64 0,.int .i64 0,.int .i64 0,.int .i64 0] 289)
   exact hK _ _ ⟨_,_,_,_,_,_,_,_,_,_,_,_,_,_,_,_,_,_,_,_,_,rfl,hid ⟨h0,h1,h2,h3,h4,h5,h6,h7,h8,h9,h10,h11,h12,h13,h14,h15,h16,h17,h18,h19⟩,hid (HW.out.trans (B2.mono HW.out.size)),hid ⟨wy.heap.size,fun _ _=>⟨rfl,HW.out.size,alloc_rowV wy _ [.int .i64 0,.int .i64 0,.int .i64 0,.int .i64 0]⟩,fun e=>absurd (x2 e) (by rw [hb]; decide),fun _=>rfl⟩⟩
  ·rintro b a wy hb hd ⟨z6,z10,z11,z12,z13,z14,z15,z16,z17,z18,z19,z20,z21,z22,z23,z24,z25,z26,z27,z28,z29,rfl,HV,HW,HX⟩ K hK
   obtain ⟨h0,h1,h2,h3,h4,h5,h6,h7,h8,h9,h10,h11,h12,h13,h14,h15,h16,h17,h18,h19⟩:=HV.out
   simp [Region.binds] at hd
   have dd20:b 20=true:=by simp [hd]
   obtain rfl:=h19 (by simp [hd])
   clear hd
   obtain ⟨r,x0,x1,x2⟩:=HX.out
   obtain ⟨rfl,hrl,hrow⟩:=x0 dd20 hb
   have e0:=hrow.cellAt (i:=0) rfl
   have e1:=hrow.cellAt (i:=1) rfl
   have e2:=hrow.cellAt (i:=2) rfl
   have e3:=hrow.cellAt (i:=3) rfl
   have f0:=hrow.free 0
   have f1:=hrow.free 1
   have f2:=hrow.free 2
   have f3:=hrow.free 3
   have HRS:=hid ((((hrow.set 0 (.int .i64 (q.next:Int))).set 1 (.int .i64 (q.s.n:Int))).set 2 (.int .i64 (q.first:Int))).set 3 (.int .i64 (q.next:Int)))
   have HWS:=hid ((((HW.out.setCell (p:=⟨r,0,none⟩) hrl (.int .i64 (q.next:Int))).setCell (p:=⟨r,1,none⟩) hrl (.int .i64 (q.s.n:Int))).setCell (p:=⟨r,2,none⟩) hrl (.int .i64 (q.first:Int))).setCell (p:=⟨r,3,none⟩) hrl (.int .i64 (q.next:Int)))
   have HD:=hid (And.intro hrl dd20)
   clear hrl hrow HX x0 x1 x2
   go_simp
   exact hK _ _ ⟨_,_,_,_,_,_,_,_,_,_,_,_,_,_,_,_,_,_,_,_,_,rfl,hid ⟨h0,h1,h2,h3,h4,h5,h6,h7,h8,h9,h10,h11,h12,h13,h14,h15,h16,h17,h18,h19⟩,HWS,hid ⟨r,fun _ e=>(by cases e),fun _=>⟨rfl,HD.out.1,HRS.out⟩,fun _=>HD.out.2⟩⟩
 case doneL2 =>
  rintro b a wy hb ⟨z6,z10,z11,z12,z13,z14,z15,z16,z17,z18,z19,z20,z21,z22,z23,z24,z25,z26,z27,z28,z29,rfl,HV,HW,HX⟩
  obtain ⟨h0,h1,h2,h3,h4,h5,h6,h7,h8,h9,h10,h11,h12,h13,h14,h15,h16,h17,h18,h19⟩:=HV.out
  obtain rfl:=h0 (hb 0)
  obtain rfl:=h1 (hb 1)
  obtain rfl:=h2 (hb 2)
  obtain rfl:=h3 (hb 3)
  obtain rfl:=h4 (hb 4)
  obtain rfl:=h5 (hb 5)
  obtain rfl:=h6 (hb 6)
  obtain rfl:=h7 (hb 7)
  obtain rfl:=h8 (hb 8)
  obtain rfl:=h9 (hb 9)
  obtain rfl:=h10 (hb 10)
  obtain rfl:=h11 (hb 11)
  obtain rfl:=h12 (hb 12)
  obtain rfl:=h13 (hb 13)
  obtain rfl:=h14 (hb 14)
  obtain rfl:=h15 (hb 15)
  obtain rfl:=h16 (hb 16)
  obtain rfl:=h17 (hb 17)
  obtain rfl:=h18 (hb 18)
  obtain rfl:=h19 (hb 19)
  clear HV h0 h1 h2 h3 h4 h5 h6 h7 h8 h9 h10 h11 h12 h13 h14 h15 h16 h17 h18 h19
  obtain ⟨r,-,x1,-⟩:=HX.out
  obtain ⟨rfl,hrl,hrow⟩:=x1 (hb 21)
  have d0:=hrow.cellAt (i:=0) rfl
  have d1:=hrow.cellAt (i:=1) rfl
  have d2:=hrow.cellAt (i:=2) rfl
  have d3:=hrow.cellAt (i:=3) rfl
  have H1:=hid (H.out.kept HW.out)
  clear x1 HX hb hrl hrow c0 c1 c2 H
  go_wp2_with fail
  go_step3
  go_wp2_with fail
  clear d0 d1 d2 d3
  go_loopg [31,4,5] 2 (fun g s31 s4 s5 wx => ∃k:Nat,k+g=2∧s31 = .int .i64 (k:Int)∧s4 = .int .i64 0∧s5 = .bool false∧Hid (0<k→q.full 0 q.s.n)∧Hid (1<k→q.full 1 q.next)∧Hid (Below w.heap.size w wx)∧Hid (PAt wx p ta cb mb c q))
  case atStart=>exact ⟨0,rfl,rfl,rfl,rfl,fun e=>absurd e (by omega),fun e=>absurd e (by omega),HW,H1⟩
  case round =>
   obtain ⟨k,hk,rfl,rfl,rfl,F0,F1,HB,HP⟩:=hrel
   clear HW H1
   cases gk with
   | zero =>
    obtain rfl:k=2:=by omega
    have f0:=F0.out (by omega)
    have f1:=F1.out (by omega)
    have HN:=hid (show q.None from ⟨f0,f1⟩)
    clear F0 F1 f0 f1
    go_wp2_with fail
    try rw [Exit.noGoto_ret]
    go_ret2
    exact ⟨0,false,rfl,⟨rfl,HN.out⟩,HB.out⟩
   | succ g =>
    have hk1:k<2:=by omega
    have hki:(k:Int)<2:=by omega
    have ix:(Instr.index 289 (.agg #[.int .i64 (q.next:Int),.int .i64 (q.s.n:Int),.int .i64 (q.first:Int),.int .i64 (q.next:Int)]) (.int .i64 (k:Int))).run Tryz.prog wr = .ok (.agg #[.int .i64 (q.lo k:Int),.int .i64 (q.hi k:Int)]) wr:=by
     unfold Instr.index
     rcases (show k=0∨k=1 by omega) with rfl | rfl
     ·simp [go_sem,Q.lo,Q.hi]
     ·simp [go_sem,Q.lo,Q.hi]
    have hlh:q.lo k≤q.hi k:=by unfold Q.lo Q.hi; split <;> omega
    have hhn:q.hi k≤q.s.n:=by unfold Q.hi; split <;> omega
    have B1:=(Below.refl wr.heap.size wr).alloc (Nat.le_refl _) (.cells #[.int .i64 (q.lo k:Int),.int .i64 (q.hi k:Int)] 288)
    have HP1:=hid (HP.out.kept B1)
    have HB1:=hid (HB.out.trans (B1.mono HB.out.size))
    have R1:=alloc_rowV wr 288 [.int .i64 (q.lo k:Int),.int .i64 (q.hi k:Int)]
    have HR1:=hid R1
    clear B1 R1 HB HP
    go_upto_region 6 with (fail)
    clear ix
    generalize wr.alloc (.cells #[.int .i64 (q.lo k:Int),.int .i64 (q.hi k:Int)] 288)=w1 at *
    obtain ⟨sp,hsp⟩ : ∃x,x=wr.heap.size:=⟨_,rfl⟩
    rw [← hsp] at HR1 ⊢
    clear hsp
    have e0:=HR1.out.cellAt (i:=0) rfl
    go_upto_region 7 with (fail)
    go_wp2_with fail
    clear e0
    have e1:=HR1.out.cellAt (i:=1) rfl
    go_loopg [9,4,5] (q.hi k-q.lo k) (fun g s9 s4 s5 wx => ∃j:Nat,j+g=q.hi k∧q.lo k≤j∧s9 = .int .i64 (j:Int)∧s4 = .int .i64 0∧s5 = .bool false∧Hid (q.full k j)∧wx=w1)
    case atStart=>exact ⟨q.lo k,by omega,Nat.le_refl _,rfl,rfl,rfl,fun j h1 h2=>absurd h1 (by omega),rfl⟩
    case round =>
     obtain ⟨j,hj,hlj,rfl,rfl,rfl,FJ,rfl⟩:=hrel
     have c0:=HP1.out.c0
     cases gk with
     | zero =>
      obtain rfl:j=q.hi k:=by omega
      have hjj : ¬((q.hi k:Int)<(q.hi k:Int)):=by omega
      go_wp2_with fail
      go_roundg g
      case measure=>omega
      case rel =>
       refine ⟨k+1,by omega,by go_num,rfl,rfl,fun _ => ?_,fun e => ?_,HB1.out,HP1.out⟩
       ·by_cases e0:k=0
        ·subst e0
         exact FJ.out
        ·exact F0.out (by omega)
       ·obtain rfl:k=1:=by omega
        exact FJ.out
     | succ gi =>
      have hjn:(j:Int)<(q.hi k:Int):=by omega
      have hjs:j<q.s.n:=by omega
      have HF:=hid (free_yes HP1.out.tally j hjs)
      cases hfr:q.s.free j
      ·rw [hfr] at HF
       have HFR:=hid hfr
       clear hfr
       go_wp2_with fail
       refine HF.out.mono ?_
       rintro e w' ⟨rfl,rfl⟩
       go_wp2_with fail
       go_roundg gi
       case measure=>omega
       case rel =>
        refine ⟨j+1,by omega,by omega,by go_num,rfl,rfl,fun i h1 h2 => ?_,rfl⟩
        by_cases e0:i=j
        ·subst e0
         exact HFR.out
        ·exact FJ.out i h1 (by omega)
      ·rw [hfr] at HF
       have HFR:=hid hfr
       clear hfr
       go_wp2_with fail
       refine HF.out.mono ?_
       rintro e w' ⟨rfl,rfl⟩
       go_wp2_with fail
       try rw [Exit.noGoto_ret]
       go_ret2
       refine ⟨j,true,rfl,?_,HB1.out⟩
       refine ⟨hjs,HFR.out,?_⟩
       rcases (show k=0∨k=1 by omega) with rfl | rfl
       ·exact .inl ⟨hlj,FJ.out⟩
       ·exact .inr ⟨F0.out (by omega),hlj,by have:q.hi 1=q.next:=rfl; omega,FJ.out⟩
end Go.Proofs.YtogchamogbendaaGreat.Pk
namespace Go.Proofs.YtogchamogbendaaGreat.Pk
open Lib (hid)
open Go.RowKit Oct Mv Tl Go.Maps
def Q.took (q:Q) (b:Nat):Q:=⟨q.s.put b (q.s.cnt b+1),q.first,if b+1=q.s.n then q.first else b+1,q.asked⟩
theorem Q.Found.lo {q:Q} {b:Nat} (h:q.Found b) (hok:q.Ok):q.first≤b:=by
 have:=hok.le
 rcases h.2.2 with ⟨h1,_⟩ | ⟨_,h1,_⟩ <;> omega
theorem Q.Ok.took {q:Q} (h:q.Ok) {b:Nat} (hb:q.Found b):(q.took b).Ok:=by
 have h1:=hb.lo h
 have h2:=hb.1
 have hf:=h.first
 refine ⟨h.s.put _ _,?_,?_,?_,?_⟩
 ·show q.first≤(q.s.put b _).n
  rw [n_put]
  exact hf
 ·show q.first≤if b+1=q.s.n then q.first else b+1
  split <;> omega
 ·show (if b+1=q.s.n then q.first else b+1)<(q.s.put b _).n∨(if b+1=q.s.n then q.first else b+1)=q.first
  rw [n_put]
  split <;> omega
 ·show q.asked≤(q.s.put b _).n
  rw [n_put]
  exact h.asked
theorem cnt_free {s:St} {j:Nat} (h:s.free j=true):s.cnt j=0:=by
 unfold St.free at h
 have:=(Bool.and_eq_true _ _▸h).1
 simpa using this
theorem up_free {s:St} {b:Nat} (hb:b<s.n) (hf:s.free b=true):s.up (b:Int)=(0,s.put b (s.cnt b+1)):=by
 unfold St.up
 rw [if_pos ⟨by omega,by omega⟩,Int.toNat_natCast,if_neg (by rw [cnt_free hf]; decide)]
def Took (w:World) (p a cb mb c:Nat) (q:Q) (e:Ending) (w':World):Prop :=
 ∃b ok,e = .returned (.tuple #[.int .i64 ((b:Nat):Int),.int .i64 (if ok then 0 else 90)])∧q.Look b ok∧PAt w' p a cb mb c (if ok then q.took b else q)∧But3 w w' cb mb p
set_option maxHeartbeats 1000000 in
theorem take_at {w:World} {p a cb mb c:Nat} {q:Q} (h:PAt w p a cb mb c q) :
  Calls Tryz.prog 96 #[.pointer (some ⟨p,0,none⟩)] w (Took w p a cb mb c q):=by
 have H:=hid h
 have c4:=h.c4
 have hn:q.s.n≤4096:=h.ok.s.hi
 clear h
 go_enter Tryz.func96,Tryz.ntmps96
 go_wp2_with fail
 refine (pmade_self p _ c4).mono ?_
 rintro e w' ⟨rfl,rfl⟩
 go_wp2_with fail
 refine (look_at H.out).mono ?_
 rintro e w1 ⟨b,ok,rfl,hL,B1⟩
 have HB1:=hid (But3.of_below cb mb p B1 (Nat.le_refl _))
 have H1:=hid (H.out.kept B1)
 have HL:=hid hL
 clear hL B1 c4 H
 cases ok
 ·go_wp2_with fail
  go_ret2
  obtain ⟨rfl,hN⟩:=HL.out
  exact ⟨0,false,rfl,⟨rfl,hN⟩,H1.out,HB1.out⟩
 ·have HF:=hid (show q.Found b from HL.out)
  have hbn:=HF.out.1
  have HU:=hid (up_free HF.out.1 HF.out.2.1)
  have HO:=hid (H1.out.ok.took HF.out)
  have c0:=H1.out.c0
  clear HL
  go_upto_region 6 with (fail)
  go_wp2_with fail
  refine (up_at H1.out.tally _).mono ?_
  rintro e w2 ⟨rfl,az,bz⟩
  rw [HU.out] at az ⊢
  have HA:=hid (show At w2 a cb mb c (q.s.put b (q.s.cnt b+1)) from az)
  have HR2:=hid (H1.out.row.block (bz.block p H1.out.row.lt H1.out.p_cb H1.out.p_mb))
  have HB2:=hid (HB1.out.trans (But3.of_but p bz))
  have HP:=hid (And.intro H1.out.p_a (And.intro H1.out.p_cb H1.out.p_mb))
  clear c0 az bz HB1 H1
  dsimp only
  have c2:=HR2.out.cellAt (i:=2) rfl
  have f2:=HR2.out.free 2
  go_upto_region 8 with (fail)
  have HR3:=hid (show RowV (w2.setCell ⟨p,2,none⟩ (.int .i64 ((b+1:Nat):Int))) p 235 (pcells p a ⟨q.s,q.first,b+1,q.asked⟩) from HR2.out.set 2 _)
  have HA3:=hid (HA.out.blocks (w':=w2.setCell ⟨p,2,none⟩ (.int .i64 ((b+1:Nat):Int))) (heap_setCell_other _ _ _ _ (fun e=>HP.out.1 e.symm)) (heap_setCell_other _ _ _ _ (fun e=>HP.out.2.1 e.symm)) (heap_setCell_other _ _ _ _ (fun e=>HP.out.2.2 e.symm)))
  have HB3:=hid (HB2.out.trans (But3.set w2 cb mb p 2 (.int .i64 ((b+1:Nat):Int))))
  have e1:((b:Int)+1)=((b+1:Nat):Int):=by omega
  rw [e1]
  clear e1 c2 f2 HR2 HB2 HA
  generalize w2.setCell ⟨p,2,none⟩ (.int .i64 ((b+1:Nat):Int))=w3 at *
  have c0:=HR3.out.cellAt (i:=0) rfl
  have c2:=HR3.out.cellAt (i:=2) rfl
  go_quiet ((go_at_call 143; exact Calls.quiet_of_same (calls_flip (blocks_at (HA3.out.drewN _)))))
  have HAN:=hid (HA3.out.drewN nq)
  have HRN:=hid (show RowV (w3.drewN nq) p 235 (pcells p a ⟨q.s,q.first,b+1,q.asked⟩) from HR3.out)
  have HBN:=hid (HB3.out.trans (But3.still (p:=cb) (q:=mb) (r:=p) (show Still w3 (w3.drewN nq) from ⟨rfl,rfl,rfl,rfl⟩)))
  clear c0 c2 HA3 HR3 HB3
  generalize w3.drewN nq=w4 at *
  have hnn:(q.s.put b (q.s.cnt b+1)).n=q.s.n:=n_put _ _ _
  rw [hnn]
  clear hnn
  by_cases he:b+1=q.s.n
  ·have hei:((b+1:Nat):Int)=(q.s.n:Int):=by omega
   have HT:=hid (show q.took b=⟨q.s.put b (q.s.cnt b+1),q.first,q.first,q.asked⟩ by unfold Q.took; rw [if_pos he])
   have c1:=HRN.out.cellAt (i:=1) rfl
   have c2:=HRN.out.cellAt (i:=2) rfl
   have f2:=HRN.out.free 2
   go_wp2_with fail
   go_ret2
   have HO2:=HO.out
   refine ⟨b,true,rfl,HF.out,?_,HBN.out.trans (But3.set _ _ _ _ _ _)⟩
   rw [if_pos rfl]
   rw [HT.out] at HO2 ⊢
   exact ⟨HRN.out.set 2 _,HAN.out.blocks (heap_setCell_other _ _ _ _ (fun e=>HP.out.1 e.symm)) (heap_setCell_other _ _ _ _ (fun e=>HP.out.2.1 e.symm)) (heap_setCell_other _ _ _ _ (fun e=>HP.out.2.2 e.symm)),HO2⟩
  ·have hei : ¬((b+1:Nat):Int)=(q.s.n:Int):=by omega
   have HT:=hid (show q.took b=⟨q.s.put b (q.s.cnt b+1),q.first,b+1,q.asked⟩ by unfold Q.took; rw [if_neg he])
   go_wp2_with fail
   go_ret2
   have HO2:=HO.out
   refine ⟨b,true,rfl,HF.out,?_,HBN.out⟩
   rw [if_pos rfl]
   rw [HT.out] at HO2 ⊢
   exact ⟨HRN.out,HAN.out,HO2⟩
end Go.Proofs.YtogchamogbendaaGreat.Pk
namespace Go.Proofs.YtogchamogbendaaGreat.Pk
open Go.RowKit Oct Mv Tl Go.Maps
def first? (s:St) (f:Nat):Nat→Option Nat
 | 0=>none
 | k+1=>if s.free f then some f else first? s (f+1) k
theorem first_some {s:St} {f k b:Nat} (h:first? s f k=some b):f≤b∧b<f+k∧s.free b=true ∧ ∀j,f≤j→j<b→s.free j=false:=by
 induction k generalizing f with
 | zero=>cases h
 | succ k ih =>
  unfold first? at h
  cases hf:s.free f
  ·rw [hf] at h
   obtain ⟨h1,h2,h3,h4⟩:=ih h
   refine ⟨by omega,by omega,h3,fun j hj1 hj2 => ?_⟩
   by_cases e:j=f
   ·subst e; exact hf
   ·exact h4 j (by omega) hj2
  ·rw [hf] at h
   cases h
   exact ⟨Nat.le_refl _,by omega,hf,fun j h1 h2=>absurd h1 (by omega)⟩
theorem first_none {s:St} {f k:Nat} (h:first? s f k=none) : ∀j,f≤j→j<f+k→s.free j=false:=by
 induction k generalizing f with
 | zero=>intro j h1 h2; omega
 | succ k ih =>
  unfold first? at h
  cases hf:s.free f
  ·rw [hf] at h
   intro j h1 h2
   by_cases e:j=f
   ·subst e; exact hf
   ·exact ih h j (by omega) (by omega)
  ·rw [hf] at h
   cases h
def Q.seek (q:Q):Option Nat :=
 match first? q.s q.next (q.s.n-q.next) with
 | some b=>some b
 | none=>first? q.s q.first (q.next-q.first)
theorem seek_found {q:Q} (hok:q.Ok) {b:Nat} (h:q.seek=some b):q.Found b:=by
 have hn:=hok.nextn
 have hl:=hok.le
 unfold Q.seek at h
 cases e:first? q.s q.next (q.s.n-q.next) with
 | some b' =>
  rw [e] at h
  cases h
  obtain ⟨h1,h2,h3,h4⟩:=first_some e
  exact ⟨by omega,h3,.inl ⟨h1,h4⟩⟩
 | none =>
  rw [e] at h
  obtain ⟨h1,h2,h3,h4⟩:=first_some h
  have h0:=first_none e
  exact ⟨by omega,h3,.inr ⟨fun j a b=>h0 j a (by omega),h1,by omega,h4⟩⟩
theorem seek_none {q:Q} (hok:q.Ok) (h:q.seek=none):q.None:=by
 have hn:=hok.nextn
 have hl:=hok.le
 unfold Q.seek at h
 cases e:first? q.s q.next (q.s.n-q.next) with
 | some b'=>rw [e] at h; cases h
 | none =>
  rw [e] at h
  have h0:=first_none e
  have h1:=first_none h
  exact ⟨fun j a b=>h0 j a (by omega),fun j a b=>h1 j a (by omega)⟩
theorem found_not {q:Q} {b:Nat} (h:q.Found b) (hn:q.None):False:=by
 rcases h.2.2 with ⟨h1,_⟩ | ⟨_,h1,h2,_⟩
 ·have:=hn.1 b h1 h.1
  rw [h.2.1] at this
  cases this
 ·have:=hn.2 b h1 h2
  rw [h.2.1] at this
  cases this
theorem found_one {q:Q} {b d:Nat} (h:q.Found b) (k:q.Found d):b=d:=by
 have e (i j:Nat) (hi:q.s.free i=true) (hj:q.s.free j=true) (lo:Nat) (li:lo≤i) (lj:lo≤j) (fi : ∀x,lo≤x→x<i→q.s.free x=false) (fj : ∀x,lo≤x→x<j→q.s.free x=false):i=j:=by
  rcases Nat.lt_trichotomy i j with h | h | h
  ·have:=fj i li h; rw [hi] at this; cases this
  ·exact h
  ·have:=fi j lj h; rw [hj] at this; cases this
 rcases h.2.2 with ⟨h1,h2⟩ | ⟨h0,h1,h2,h3⟩ <;> rcases k.2.2 with ⟨k1,k2⟩ | ⟨k0,k1,k2,k3⟩
 ·exact e b d h.2.1 k.2.1 q.next h1 k1 h2 k2
 ·have:=k0 b h1 h.1; rw [h.2.1] at this; cases this
 ·have:=h0 d k1 k.1; rw [k.2.1] at this; cases this
 ·exact e b d h.2.1 k.2.1 q.first h1 k1 h3 k3
theorem look_one {q:Q} {b d:Nat} {x y:Bool} (h:q.Look b x) (k:q.Look d y):b=d∧x=y:=by
 cases x <;> cases y
 ·exact ⟨h.1.trans k.1.symm,rfl⟩
 ·exact (found_not k h.2).elim
 ·exact (found_not h k.2).elim
 ·exact ⟨found_one h k,rfl⟩
section
variable {w:World} {p a cb mb c:Nat} {q q':Q}
end
end Go.Proofs.YtogchamogbendaaGreat.Pk
namespace Go.Proofs.YtogchamogbendaaGreat.Pk
open Go.RowKit Oct Mv Tl Go.Maps
theorem count_all (s:St) (f m:Nat) (h : ∀j,f≤j→j<f+m→s.free j=true):St.count s f m=m:=by
 unfold St.count
 have:(List.range' f m).countP s.free=(List.range' f m).length:=List.countP_eq_length.2 fun a ha=>by
  rw [List.mem_range'_1] at ha
  exact h a ha.1 ha.2
 rw [this,List.length_range']
theorem count_zero (s:St) (f m:Nat):St.count s f m=0 ↔ ∀j,f≤j→j<f+m→s.free j=false:=by
 unfold St.count
 rw [List.countP_eq_zero]
 constructor
 ·intro h j h1 h2
  have:=h j (List.mem_range'_1.2 ⟨h1,h2⟩)
  simpa using this
 ·intro h a ha
  rw [List.mem_range'_1] at ha
  rw [h a ha.1 ha.2]
  decide
theorem room_zero {q:Q} (hok:q.Ok):q.room=0↔q.None:=by
 have h1:=hok.le
 have h2:=hok.nextn
 have h3:=hok.first
 unfold Q.room
 rw [count_zero]
 constructor
 ·intro h
  exact ⟨fun j a b=>h j (by have:q.lo 0=q.next:=rfl; omega) (by omega),fun j a b=>h j (by have:q.lo 1=q.first:=rfl; omega) (by omega)⟩
 ·intro h j a b
  by_cases e:j<q.next
  ·exact h.2 j a e
  ·exact h.1 j (by show q.next≤j; omega) (by omega)
theorem look_room {q:Q} (hok:q.Ok) {b:Nat} {ok:Bool} (h:q.Look b ok):ok=decide (0<q.room):=by
 cases ok
 ·rw [(room_zero hok).2 h.2]
  rfl
 ·have:q.room≠0:=fun e=>found_not h ((room_zero hok).1 e)
  exact (decide_eq_true (by omega)).symm
theorem count_but {s t:St} {b:Nat} (hb:s.free b=true) (ht:t.free b=false) (he : ∀j,j≠b→t.free j=s.free j) (f m:Nat) (h1:f≤b):St.count s f m=St.count t f m+if b<f+m then 1 else 0:=by
 induction m with
 | zero=>rw [if_neg (by omega)]; rfl
 | succ m ih =>
  rw [count_succ,count_succ,ih]
  by_cases e:f+m=b
  ·have a1:(if b<f+m then 1 else 0)=(0:Nat):=if_neg (by omega)
   have a2:(if b<f+(m+1) then 1 else 0)=(1:Nat):=if_pos (by omega)
   rw [a1,a2,e,hb,ht]
   rfl
  ·have a1:(if b<f+m then 1 else 0)=(if b<f+(m+1) then 1 else 0:Nat):=by split <;> split <;> omega
   rw [he _ e,a1]
   omega
theorem free_put {s:St} {b:Nat} (hb:b<s.n) (c:UInt16) (hc:c≠0) (j:Nat):(s.put b c).free j=if j=b then false else s.free j:=by
 unfold St.free
 rw [cnt_put hb,was_put]
 by_cases e:j=b
 ·rw [if_pos e,if_pos e]
  have:(c==0)=false:=by simpa using hc
  rw [this]
  rfl
 ·rw [if_neg e,if_neg e]
theorem one_ne {s:St} {b:Nat} (h:s.free b=true):s.cnt b+1=1:=by rw [cnt_free h]; rfl
theorem free_took {q:Q} {b:Nat} (h:q.Found b) (j:Nat):(q.took b).s.free j=if j=b then false else q.s.free j:=by
 show (q.s.put b (q.s.cnt b+1)).free j=_
 rw [one_ne h.2.1]
 exact free_put h.1 1 (by decide) j
theorem n_took (q:Q) (b:Nat):(q.took b).s.n=q.s.n:=n_put _ _ _
theorem room_took {q:Q} (hok:q.Ok) {b:Nat} (h:q.Found b):q.room=(q.took b).room+1:=by
 have h1:=h.lo hok
 have h2:=h.1
 unfold Q.room
 rw [n_took]
 show St.count q.s q.first (q.s.n-q.first)=St.count (q.took b).s q.first (q.s.n-q.first)+1
 rw [count_but h.2.1 (by rw [free_took h,if_pos rfl]) (fun j e=>by rw [free_took h,if_neg e]) q.first (q.s.n-q.first) h1,if_pos (by omega)]
theorem cnt_took {q:Q} {b:Nat} (h:q.Found b):(q.took b).s.cnt b=1:=by
 show (q.s.put b (q.s.cnt b+1)).cnt b=1
 rw [cnt_put h.1,if_pos rfl,one_ne h.2.1]
section
variable {w:World} {p a cb mb c:Nat} {q q':Q}
theorem take_found (h:PAt w p a cb mb c q) (b:Nat) (hs:q.Found b) (hq:q.took b=q') :
  Calls Tryz.prog 96 #[.pointer (some ⟨p,0,none⟩)] w fun e w'=>e = .returned (.tuple #[.int .i64 (b:Int),.int .i64 0])∧PAt w' p a cb mb c q'∧But3 w w' cb mb p:=by
 subst hq
 refine (take_at h).mono fun e w' ⟨d,ok,h1,h2,h3,h4⟩ => ?_
 obtain ⟨rfl,rfl⟩:=look_one h2 (show q.Look b true from hs)
 exact ⟨h1,h3,h4⟩
theorem take_some (h:PAt w p a cb mb c q) (hs:0<q.room) :
  Calls Tryz.prog 96 #[.pointer (some ⟨p,0,none⟩)] w fun e w' => ∃b,e = .returned (.tuple #[.int .i64 ((b:Nat):Int),.int .i64 0])∧q.Found b∧PAt w' p a cb mb c (q.took b)∧But3 w w' cb mb p:=by
 refine (take_at h).mono fun e w' ⟨d,ok,h1,h2,h3,h4⟩ => ?_
 obtain rfl:ok=true:=(look_room h.ok h2).trans (decide_eq_true hs)
 exact ⟨d,h1,h2,h3,h4⟩
end
theorem free_new {n j:Nat}:(St.new n).free j=true:=by unfold St.free; rw [cnt_new,was_new]; rfl
def row (n k:Nat) (x y z:UInt16):St:=⟨(List.range n).map fun i=>if i<k then x else y,List.replicate n z⟩
section
variable (n k:Nat) (x y z:UInt16)
theorem row_put (h:k<n):(row n k x y z).put k x=row n (k+1) x y z:=by
 unfold row St.put
 congr 1
 refine List.ext_getElem (by simp) fun i h1 h2 => ?_
 rw [List.getElem_set]
 simp only [List.getElem_map,List.getElem_range]
 by_cases e:k=i
 ·subst e; simp
 ·by_cases e2:i<k
  ·simp [e,e2,show i<k+1 by omega]
  ·simp [e,e2,show ¬i<k+1 by omega]
end
def taken (n k g:Nat):Q:=⟨row n k 1 0 0,0,if k=n then 0 else k,g⟩
theorem new_room (n f m g:Nat):(Q.mk (St.new n) f m g).room=n-f:=by
 show St.count (St.new n) f ((St.new n).n-f)=n-f
 rw [n_new]
 exact count_all _ _ _ fun j _ _=>free_new
end Go.Proofs.YtogchamogbendaaGreat.Pk
