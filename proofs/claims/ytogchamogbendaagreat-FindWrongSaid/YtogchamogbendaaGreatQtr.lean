import Derived.Laws.ResultCell
import Derived.Test.YtogchamogbendaaGreatQtq
import Derived.Test.YtogchamogbendaaGreatQtk
set_option maxRecDepth 100000
set_option linter.unusedVariables false
set_option linter.unusedSimpArgs false
namespace Go.Proofs.YtogchamogbendaaGreat.Bs
open Lib (hid)
open Go.RowKit Oct Mv Tl Pk Pl Go.Maps Go.ChangeMaps
open Dsk (dT)
open Su (Sup nth scells)
theorem layout_zero (w:World):(zeroValue 160).run Tryz.prog w = .ok (.agg #[.slice none 0 0,.slice none 0 0,.slice none 0 0,.slice none 0 0]) w:=by kernel_rfl
def SetOut (w:World) (p ta cb mb c:Nat) (q:Q) (l1 l2:List Nat) (e:Ending) (w':World):Prop :=
 ∃(y:Wk) (g1 d1 g3 d3 c1 c2:Nat) (A1 A2:Option Addr),e = .returned (.tuple #[.agg (lval g1 l1.length d1 g3 l2.length d3 A1 c1 (doneL y.f1).length A2 c2 (doneL y.f2).length).toArray,.int .i64 0])∧(Pl.begin q l1 l2).Runs y∧PAt w' p ta cb mb c y.q∧(∃sp,RowV w' g1 3 (ints y.l1++sp))∧(∃sp,RowV w' g3 3 (ints y.l2++sp))∧ToldV w' A1 (ints (doneL y.f1))∧ToldV w' A2 (ints (doneL y.f2))∧(w.heap.size≤g1∧l1.length≤d1∧d1≤maxLen)∧w.heap.size≤g3∧ButL w w' [cb,mb,p]
theorem told_rows {w w':World} {A:Option Addr} {l:List Nat} {r:Nat} {T:TypeId} {vs:List Value} (h:ToldV w A (ints l)) (hr:RowV w r T vs) (hv : ∀v∈vs,∀z,v ≠ .int .i64 z) (k:ButL w w' [r]):ToldV w' A (ints l):=by
 rcases h with h | ⟨b,o,ha,h⟩
 ·exact .inl h
 ·cases l with
  | nil=>exact .inl rfl
  | cons m l =>
   have h0:=h 0 (by simp [ints])
   have hb:b<w.heap.size:=World.block_lt_of_cell? w _ h0
   refine .inr ⟨b,o,ha,h.block (k.block b hb fun hm => ?_)⟩
   have:b=r:=by simpa using hm
   subst this
   rw [Nat.add_zero,cell_of_row w b o _ _ _ hr] at h0
   have hm:(ints (m :: l))[0]'(by simp [ints]) = .int .i64 (m:Int):=by simp [ints]
   rw [hm] at h0
   have hin:Value.int .i64 (m:Int)∈vs:=by
    have:=Array.mem_of_getElem? h0
    simpa using this
   exact hv _ hin _ rfl
set_option maxHeartbeats 2000000 in
theorem settle_yes {w:World} {p ta cb mb c:Nat} {q:Q} (hq:PAt w p ta cb mb c q) {A1 A2:Option Addr} {c1 c2:Nat} {l1 l2:List Nat} (h1:ToldV w A1 (ints l1)) (h2:ToldV w A2 (ints l2)) (hyes:RightS q.s (toI l1) (toI l2)) (hroom:need q.s.n≤q.room) :
  Calls Tryz.prog 109 #[.pointer (some ⟨ta,0,none⟩),.pointer (some ⟨p,0,none⟩),shv A1 A2 l1.length l2.length c1 c2] w (SetOut w p ta cb mb c q l1 l2):=by
 have hz:=layout_zero
 have r0:=alloc_rowV w 65 [.slice A1 l1.length c1,.slice A2 l2.length c2]
 have b0:=(Below.refl w.heap.size w).alloc (Nat.le_refl _) (.cells #[.slice A1 l1.length c1,.slice A2 l2.length c2] 65)
 have r1:=alloc_rowV (w.alloc (.cells #[.slice A1 l1.length c1,.slice A2 l2.length c2] 65)) 160 [.slice none 0 0,.slice none 0 0,.slice none 0 0,.slice none 0 0]
 have b1:=(Below.refl (w.alloc (.cells #[.slice A1 l1.length c1,.slice A2 l2.length c2] 65)).heap.size _).alloc (Nat.le_refl _) (.cells #[.slice none 0 0,.slice none 0 0,.slice none 0 0,.slice none 0 0] 160)
 have s0:(w.alloc (.cells #[.slice A1 l1.length c1,.slice A2 l2.length c2] 65)).heap.size=w.heap.size+1:=by simp
 unfold shv
 go_enter Tryz.func109,Tryz.ntmps109
 go_upto_region 1 with (fail)
 rw [s0] at r1 b1
 obtain ⟨x0,hx0⟩ : ∃x,x=w.heap.size:=⟨_,rfl⟩
 have HB:=hid (show Below w.heap.size w ((w.alloc (.cells #[.slice A1 l1.length c1,.slice A2 l2.length c2] 65)).alloc (.cells #[.slice none 0 0,.slice none 0 0,.slice none 0 0,.slice none 0 0] 160)) from b0.trans (b1.mono (by omega)))
 have R0:=hid (r0.below (by omega) b1)
 have R1:=hid r1
 rw [← hx0] at R0 R1 ⊢
 obtain ⟨x1,hx1⟩ : ∃x,x=x0+1:=⟨_,rfl⟩
 rw [← hx1] at R1 ⊢
 have HX:=hid (And.intro hx0 hx1)
 clear r0 r1 b0 b1 s0 hz
 simp only [List.toArray] at *
 generalize (w.alloc (.cells #[.slice A1 l1.length c1,.slice A2 l2.length c2] 65)).alloc (.cells #[.slice none 0 0,.slice none 0 0,.slice none 0 0,.slice none 0 0] 160)=w1 at *
 have HLT:=hid (And.intro hq.row.lt (And.intro hq.tally.row.lt (And.intro hq.tally.cb_lt hq.tally.mp.lt)))
 have HQ:=hid (hq.kept HB.out)
 have HT:=hid (And.intro (h1.below HB.out) (h2.below HB.out))
 have q0:=R0.out.cellAt (i:=0) rfl
 have q1:=R0.out.cellAt (i:=1) rfl
 clear hx0 hx1 hq h1 h2
 go_wp2_with fail
 refine (place_yes HQ.out HT.out.1 HT.out.2 hyes hroom).mono ?_
 rintro e w2 ⟨y,g1,d1,g3,d3,v1,v2,rfl,hruns,hp,hr1,hr3,⟨B1,e1,rfl,t1⟩,⟨B2,e2,rfl,t2⟩,hlo,hlo3,hb⟩
 have fx0:=PAt.off HQ.out R0.out (by decide) (by decide) (by decide)
 have fx1:=PAt.off HQ.out R1.out (by decide) (by decide) (by decide)
 have R0':=hid (R0.out.block (hb.block x0 R0.out.lt (by simp; exact ⟨fx0.2.2.1,fx0.2.2.2,fx0.1⟩)))
 have R1':=hid (R1.out.block (hb.block x1 R1.out.lt (by simp; exact ⟨fx1.2.2.1,fx1.2.2.2,fx1.1⟩)))
 have HP2:=hid hp
 have HRR:=hid (And.intro hruns (And.intro hr1 (And.intro hr3 (And.intro t1 (And.intro t2 (And.intro hlo (And.intro hlo3 hb)))))))
 have q0:=R0'.out.cellAt (i:=0) rfl
 have q1:=R0'.out.cellAt (i:=1) rfl
 have f0:=R0'.out.free 0
 have f1:=R0'.out.free 1
 have S0:=hid ((R0'.out.set 0 (.slice (some ⟨g1,0,none⟩) l1.length d1)).set 1 (.slice (some ⟨g3,0,none⟩) l2.length d3))
 have n01:x1≠x0:=by have:=HX.out.2; omega
 have S1:=hid ((R1'.out.other (q:=x0) (i:=0) (v := .slice (some ⟨g1,0,none⟩) l1.length d1) n01).other (q:=x0) (i:=1) (v := .slice (some ⟨g3,0,none⟩) l2.length d3) n01)
 have HU:=hid (((ButL.set w2 x0 0 (.slice (some ⟨g1,0,none⟩) l1.length d1)).trans (ButL.set _ x0 1 (.slice (some ⟨g3,0,none⟩) l2.length d3))))
 clear hruns hp hr1 hr3 t1 t2 hlo hlo3 hb fx0 fx1 R0 R1 HQ HT n01
 go_upto_region 2 with (fail)
 generalize (w2.setCell ⟨x0,0,none⟩ (.slice (some ⟨g1,0,none⟩) l1.length d1)).setCell ⟨x0,1,none⟩ (.slice (some ⟨g3,0,none⟩) l2.length d3)=w3 at *
 clear q0 q1 f0 f1
 have q0:=S0.out.cellAt (i:=0) rfl
 have q1:=S0.out.cellAt (i:=1) rfl
 have p0:=S1.out.cellAt (i:=0) rfl
 have p1:=S1.out.cellAt (i:=1) rfl
 have p2:=S1.out.cellAt (i:=2) rfl
 have p3:=S1.out.cellAt (i:=3) rfl
 have f0:=S1.out.free 0
 have f1:=S1.out.free 1
 have f2:=S1.out.free 2
 have f3:=S1.out.free 3
 go_wp2_with fail
 have HU4:=hid ((((ButL.set w3 x1 0 (.slice (some ⟨g1,0,none⟩) l1.length d1)).trans (ButL.set _ x1 1 (.slice (some ⟨g3,0,none⟩) l2.length d3))).trans (ButL.set _ x1 2 (.slice B1 (doneL y.f1).length e1))).trans (ButL.set _ x1 3 (.slice B2 (doneL y.f2).length e2)))
 have S4:=hid ((((S1.out.set 0 (.slice (some ⟨g1,0,none⟩) l1.length d1)).set 1 (.slice (some ⟨g3,0,none⟩) l2.length d3)).set 2 (.slice B1 (doneL y.f1).length e1)).set 3 (.slice B2 (doneL y.f2).length e2))
 generalize (((w3.setCell ⟨x1,0,none⟩ (.slice (some ⟨g1,0,none⟩) l1.length d1)).setCell ⟨x1,1,none⟩ (.slice (some ⟨g3,0,none⟩) l2.length d3)).setCell ⟨x1,2,none⟩ (.slice B1 (doneL y.f1).length e1)).setCell ⟨x1,3,none⟩ (.slice B2 (doneL y.f2).length e2)=w4 at *
 clear q0 q1 p0 p1 p2 p3 f0 f1 f2 f3
 have q0:=S4.out.cellAt (i:=0) rfl
 have q1:=S4.out.cellAt (i:=1) rfl
 have q2:=S4.out.cellAt (i:=2) rfl
 have q3:=S4.out.cellAt (i:=3) rfl
 refine bodyPost_ret (v := .tuple #[.agg (lval g1 l1.length d1 g3 l2.length d3 B1 e1 (doneL y.f1).length B2 e2 (doneL y.f2).length).toArray,.int .i64 0]) ?_ rfl ?_
 ·rw [results_cell_tmp rfl]
  unfold lval
  go_simp
 ·obtain ⟨hruns,⟨sp1,hr1⟩,⟨sp3,hr3⟩,t1,t2,hlo,hlo3,hb⟩:=HRR.out
  obtain ⟨l0,l1',l2',l3'⟩:=HLT.out
  have hx:=HX.out
  have hs1:w.heap.size≤w1.heap.size:=HB.out.size
  have far : ∀k,k<w.heap.size→w4.heap[k]?=w2.heap[k]?:=fun k hk=>by
   have z1:k<w2.heap.size:=Nat.lt_of_lt_of_le hk (Nat.le_trans hs1 hb.size)
   have z2:k<w3.heap.size:=Nat.lt_of_lt_of_le z1 HU.out.size
   exact (HU4.out.block k z2 (by simp; omega)).trans (HU.out.block k z1 (by simp; omega))
  have row : ∀ {g:Nat} {vs:List Value},RowV w2 g 3 vs→RowV w4 g 3 vs:=fun {g vs} hr=>by
   have n0:g≠x0:=row_ne hr R0'.out (by decide)
   have h3:RowV w3 g 3 vs:=hr.block (HU.out.block g hr.lt (by simpa using n0))
   have n1:g≠x1:=row_ne h3 S1.out (by decide)
   exact h3.block (HU4.out.block g h3.lt (by simpa using n1))
  refine ⟨y,g1,d1,g3,d3,e1,e2,B1,B2,rfl,hruns,HP2.out.blocks (far _ l0) (far _ l1') (far _ l2') (far _ l3'),⟨sp1,row hr1⟩,⟨sp3,row hr3⟩,told_rows (told_rows t1 R0'.out (by simp) HU.out) S1.out (by simp) HU4.out,told_rows (told_rows t2 R0'.out (by simp) HU.out) S1.out (by simp) HU4.out,⟨Nat.le_trans hs1 hlo.1,hlo.2⟩,Nat.le_trans hs1 hlo3,?_⟩
  have HUU:ButL w2 w4 [x0,x1]:=(HU.out.mono (M := [x0,x1]) (by simp)).trans (HU4.out.mono (M := [x0,x1]) (by simp))
  refine ((ButL.of_below [cb,mb,p] HB.out (Nat.le_refl _)).trans hb).join HUU ?_
  intro z hz
  simp only [List.mem_cons,List.not_mem_nil,or_false] at hz
  right
  omega
set_option maxHeartbeats 2000000 in
theorem nowhere_any (n:Nat) (hn:n≤4096) (w:World) :
  Calls Tryz.prog 110 #[.int .i64 (n:Int)] w fun e w' => ∃g1 g3,e = .returned (.agg #[.slice (some ⟨g1,0,none⟩) (pg n) (pg n),.slice (some ⟨g3,0,none⟩) (pg (pg n)) (pg (pg n))])∧RowV w' g1 3 (ints (zeros (pg n)))∧RowV w' g3 3 (ints (zeros (pg (pg n))))∧w.heap.size≤g1∧w.heap.size≤g3∧Below w.heap.size w w':=by
 have hp:pg n≤68:=pg_le hn
 have hpp:pg (pg n)≤68:=pg_le (by omega)
 have hz:=sheet_zero
 have B1:=(Below.refl w.heap.size w).alloc (Nat.le_refl _) (.cells #[.slice none 0 0,.slice none 0 0] 65)
 have HR:=hid (alloc_rowV w 65 [.slice none 0 0,.slice none 0 0])
 have HB:=hid B1
 clear B1
 go_enter Tryz.func110,Tryz.ntmps110
 go_wp2_with fail
 refine (pages_eq n (by omega) _).mono ?_
 rintro e w' ⟨rfl,rfl⟩
 generalize w.alloc (.cells #[.slice none 0 0,.slice none 0 0] 65)=w1 at *
 obtain ⟨r,hr⟩ : ∃r,r=w.heap.size:=⟨_,rfl⟩
 rw [← hr] at HR ⊢
 have HRR:=hid hr
 clear hr
 go_upto_region 2 with (fail)
 refine Inv2.wp_region_inv (fun b a wy => ∃(z:Nat→Value) (z7:Value) (z10:Value) (z11:Value),a=⟨#[Value.int IntKind.i64 ↑n,undef,Value.pointer (some ⟨r,0,none⟩),Value.int IntKind.i64 ↑(pg n),Value.int IntKind.i64 ↑n,Value.int IntKind.i64 ↑(pg n),(z 6),z7,(z 8),(z 9),z10,z11],[]⟩∧Hid ((b 0=true→(z 6)=Value.int IntKind.i64 ↑(pg n))∧(b 2=true→(z 8)=Value.int IntKind.i64 ↑(pg n))∧(b 3=true→(z 9) = .int .i64 (pg (pg n):Int)))∧Hid (Below w.heap.size w wy)∧Hid (∃g1 g3,(b 1=true→z7 = .slice (some ⟨g1,0,none⟩) (pg n) (pg n)∧w.heap.size≤g1∧RowV wy g1 3 (ints (zeros (pg n))))∧(b 4=true→z10 = .slice (some ⟨g3,0,none⟩) (pg (pg n)) (pg (pg n))∧w.heap.size≤g3∧RowV wy g3 3 (ints (zeros (pg (pg n)))))∧(b 5=true→z11 = .agg #[.slice (some ⟨g1,0,none⟩) (pg n) (pg n),.slice (some ⟨g3,0,none⟩) (pg (pg n)) (pg (pg n))]∧b 1=true∧b 4=true)∧(b 6=false→RowV wy r 65 [.slice none 0 0,.slice none 0 0])∧(b 6=true→b 5=true∧RowV wy r 65 [.slice (some ⟨g1,0,none⟩) (pg n) (pg n),.slice (some ⟨g3,0,none⟩) (pg (pg n)) (pg (pg n))]))) (by kernel_rfl) (by kernel_rfl) ?startN ?stepsN ?doneN
 case startN =>
  intro b hb
  refine ⟨fun s=>undef,undef,undef,undef,rfl,hid ⟨?_,?_,?_⟩,hid (HB.out.trans <| (show Still w1 w1.drew from ⟨rfl,rfl,rfl,rfl⟩).below _),hid (⟨0,0,(fun e=>by rw [hb _ (by decide)] at e; cases e),(fun e=>by rw [hb _ (by decide)] at e; cases e),(fun e=>by rw [hb _ (by decide)] at e; cases e),fun _=>HR.out,(fun e=>by rw [hb _ (by decide)] at e; cases e)⟩)⟩
  all_goals (intro e; first | rfl | (rw [hb _ (by decide)] at e; cases e))
 case stepsN =>
  refine ⟨?_,?_,?_,?_,?_,?_,?_,trivial⟩
  ·rintro b a wy hb hd ⟨z,z7,z10,z11,rfl,HV,HW,HX⟩ K hK
   clear hd
   go_simp
   have V:=HV.out
   exact hK _ _ ⟨fun s=>if s=6 then Value.int IntKind.i64 ↑(pg n) else z s,_,_,_,rfl,hid ⟨fun _=>rfl,V.2.1,V.2.2⟩,HW,HX⟩
  ·rintro b a wy hb hd ⟨z,z7,z10,z11,rfl,HV,HW,HX⟩ K hK
   simp [Region.binds] at hd
   have e0:(z 6)=Value.int IntKind.i64 ↑(pg n):=(HV.out.1) (by simp [hd])
   clear hd
   obtain ⟨g1,g3,x1,x2,x3,x4,x5⟩:=HX.out
   have hmk:=make_i64 wy (pg n) (by omega)
   rw [kv_ints] at hmk
   go_simp
   have B2:=(Below.refl wy.heap.size wy).alloc (Nat.le_refl _) (.cells (ints (List.replicate (pg n) 0)).toArray 3)
   have R2:=alloc_rowV wy 3 (ints (List.replicate (pg n) 0))
   have V:=HV.out
   exact hK _ _ ⟨fun s=>if s=6 then Value.int IntKind.i64 ↑(pg n) else z s,_,_,_,rfl,hid ⟨fun _=>rfl,V.2.1,V.2.2⟩,hid (HW.out.trans (B2.mono HW.out.size)),hid ⟨wy.heap.size,g3,fun _=>⟨rfl,HW.out.size,R2⟩,fun e=>⟨(x2 e).1,(x2 e).2.1,(x2 e).2.2.below (x2 e).2.2.lt B2⟩,fun e=>absurd (x3 e).2.1 (by rw [hb]; decide),fun e=>(x4 e).below (x4 e).lt B2,fun e=>absurd (x3 (x5 e).1).2.1 (by rw [hb]; decide)⟩⟩
  ·rintro b a wy hb hd ⟨z,z7,z10,z11,rfl,HV,HW,HX⟩ K hK
   clear hd
   go_simp
   have V:=HV.out
   exact hK _ _ ⟨fun s=>if s=8 then Value.int IntKind.i64 ↑(pg n) else z s,_,_,_,rfl,hid ⟨V.1,fun _=>rfl,V.2.2⟩,HW,HX⟩
  ·rintro b a wy hb hd ⟨z,z7,z10,z11,rfl,HV,HW,HX⟩ K hK
   simp [Region.binds] at hd
   have e2:(z 8)=Value.int IntKind.i64 ↑(pg n):=(HV.out.2.1) (by simp [hd])
   clear hd
   go_simp
   go_at_call 98
   refine (pages_eq (pg n) (by omega) _).mono ?_
   rintro e wz ⟨rfl,rfl⟩
   try go_simp
   have V:=HV.out
   exact hK _ _ ⟨fun s=>if s=9 then .int .i64 (pg (pg n):Int) else if s=8 then Value.int IntKind.i64 ↑(pg n) else z s,_,_,_,rfl,hid ⟨V.1,fun _=>rfl,fun _=>rfl⟩,HW,HX⟩
  ·rintro b a wy hb hd ⟨z,z7,z10,z11,rfl,HV,HW,HX⟩ K hK
   simp [Region.binds] at hd
   have e3:(z 9) = .int .i64 (pg (pg n):Int):=(HV.out.2.2) (by simp [hd])
   clear hd
   obtain ⟨g1,g3,x1,x2,x3,x4,x5⟩:=HX.out
   have hmk:=make_i64 wy (pg (pg n)) (by omega)
   rw [kv_ints] at hmk
   go_simp
   have B2:=(Below.refl wy.heap.size wy).alloc (Nat.le_refl _) (.cells (ints (List.replicate (pg (pg n)) 0)).toArray 3)
   have R2:=alloc_rowV wy 3 (ints (List.replicate (pg (pg n)) 0))
   have V:=HV.out
   exact hK _ _ ⟨fun s=>if s=9 then .int .i64 (pg (pg n):Int) else z s,_,_,_,rfl,hid ⟨V.1,V.2.1,fun _=>rfl⟩,hid (HW.out.trans (B2.mono HW.out.size)),hid ⟨g1,wy.heap.size,fun e=>⟨(x1 e).1,(x1 e).2.1,(x1 e).2.2.below (x1 e).2.2.lt B2⟩,fun _=>⟨rfl,HW.out.size,R2⟩,fun e=>absurd (x3 e).2.2 (by rw [hb]; decide),fun e=>(x4 e).below (x4 e).lt B2,fun e=>absurd (x3 (x5 e).1).2.2 (by rw [hb]; decide)⟩⟩
  ·rintro b a wy hb hd ⟨z,z7,z10,z11,rfl,HV,HW,HX⟩ K hK
   simp [Region.binds] at hd
   have dd1:b 1=true:=by simp [hd]
   have dd4:b 4=true:=by simp [hd]
   clear hd
   obtain ⟨g1,g3,x1,x2,x3,x4,x5⟩:=HX.out
   obtain ⟨zz,y1,y2⟩:=x1 dd1
   subst zz
   obtain ⟨zz,y3,y4⟩:=x2 dd4
   subst zz
   go_simp
   have V:=HV.out
   exact hK _ _ ⟨fun s=>z s,_,_,_,rfl,hid ⟨V.1,V.2.1,V.2.2⟩,HW,hid ⟨g1,g3,fun _=>⟨rfl,y1,y2⟩,fun _=>⟨rfl,y3,y4⟩,fun _=>⟨rfl,dd1,dd4⟩,x4,fun e=>absurd (x5 e).1 (by rw [hb]; decide)⟩⟩
  ·rintro b a wy hb hd ⟨z,z7,z10,z11,rfl,HV,HW,HX⟩ K hK
   simp [Region.binds] at hd
   have dd5:b 5=true:=by simp [hd]
   clear hd
   obtain ⟨g1,g3,x1,x2,x3,x4,x5⟩:=HX.out
   obtain ⟨zz,d1,d4⟩:=x3 dd5
   subst zz
   obtain ⟨zz,y1,y2⟩:=x1 d1
   subst zz
   obtain ⟨zz,y3,y4⟩:=x2 d4
   subst zz
   have hr:=x4 hb
   have q0:=hr.cellAt (i:=0) rfl
   have q1:=hr.cellAt (i:=1) rfl
   have f0:=hr.free 0
   have f1:=hr.free 1
   have HA3:=hid ((hr.set 0 (.slice (some ⟨g1,0,none⟩) (pg n) (pg n))).set 1 (.slice (some ⟨g3,0,none⟩) (pg (pg n)) (pg (pg n))))
   have HU:=hid ((ButL.set wy r 0 (.slice (some ⟨g1,0,none⟩) (pg n) (pg n))).trans (ButL.set _ r 1 (.slice (some ⟨g3,0,none⟩) (pg (pg n)) (pg (pg n)))))
   have HY2:=hid (y2.block (HU.out.block _ y2.lt (by simp; exact row_ne y2 hr (by decide))))
   have HY4:=hid (y4.block (HU.out.block _ y4.lt (by simp; exact row_ne y4 hr (by decide))))
   have HD:=hid (And.intro d1 (And.intro d4 dd5))
   have HYY:=hid (And.intro y1 y3)
   have hrl:w.heap.size≤r:=by rw [HRR.out]; exact Nat.le_refl _
   clear x1 x2 x3 x4 x5 y1 y2 y3 y4 hr d1 d4 dd5 HX
   go_simp
   have HW6:=hid (HW.out.trans (HU.out.below (B:=w.heap.size) (by simp; exact hrl) HW.out.size))
   have V:=HV.out
   exact hK _ _ ⟨fun s=>z s,_,_,_,rfl,hid ⟨V.1,V.2.1,V.2.2⟩,HW6,hid ⟨g1,g3,fun _=>⟨rfl,HYY.out.1,HY2.out⟩,fun _=>⟨rfl,HYY.out.2,HY4.out⟩,fun _=>⟨rfl,HD.out.1,HD.out.2.1⟩,fun e=>(by cases e),fun _=>⟨HD.out.2.2,HA3.out⟩⟩⟩
 case doneN =>
  rintro b a wy hb ⟨z,z7,z10,z11,rfl,HV,HW,HX⟩
  have e0:=(HV.out.1) (hb 0)
  have e2:=(HV.out.2.1) (hb 2)
  have e3:=(HV.out.2.2) (hb 3)
  simp only [e0,e2,e3]
  clear HV e0 e2 e3
  obtain ⟨g1,g3,x1,x2,x3,x4,x5⟩:=HX.out
  obtain ⟨zz,y1,y2⟩:=x1 (hb 1)
  subst zz
  obtain ⟨zz,y3,y4⟩:=x2 (hb 4)
  subst zz
  obtain ⟨zz,_,_⟩:=x3 (hb 5)
  subst zz
  have hr:=(x5 (hb 6)).2
  have q0:=hr.cellAt (i:=0) rfl
  have q1:=hr.cellAt (i:=1) rfl
  have HY:=hid (And.intro y1 (And.intro y2 (And.intro y3 y4)))
  clear x1 x2 x3 x4 x5 y1 y2 y3 y4 hr hb HX
  go_wp2_with fail
  refine bodyPost_ret (v := .agg #[.slice (some ⟨g1,0,none⟩) (pg n) (pg n),.slice (some ⟨g3,0,none⟩) (pg (pg n)) (pg (pg n))]) ?_ rfl ?_
  ·rw [results_cell_one rfl]
   go_simp
  ·exact ⟨g1,g3,rfl,HY.out.2.1,HY.out.2.2.2,HY.out.1,HY.out.2.2.1,HW.out⟩
end Go.Proofs.YtogchamogbendaaGreat.Bs
namespace Go.Proofs.YtogchamogbendaaGreat.Bs
open Lib (hid)
open Go.RowKit Oct Mv Tl Pk Pl Go.Maps Go.ChangeMaps
open Dsk (dT)
open Su (Sup nth scells scell)
theorem wp_copy_run {P:Program} {w:World} {o:Oper} {a:Act} {K:Act→World→Prop} {Q:Exit→Act→World→Prop} (s x:Operand) (t u:TypeId)
  (ho:o.op = .call { callee := .builtin .copy,args := #[s,x],argTypes := #[t,u] }) (v1 v2:Value) (hs:a.eval s=v1) (hx:a.eval x=v2) (v':Value) (w':World)
  (hrun:(Builtin.copy_ #[t,u] o.type #[v1,v2]).run P w = .ok v' w') (h:K (a.put o.dst v') w'):o.wp P a w K Q:=by
 unfold Oper.wp
 simp [execOp,ho,resolve,invoke,builtin,hs,hx,hrun,Result.andThen]
 exact h
theorem kv_one (k:IntKind) (l:List Nat) : ∀v∈kv k l,v.oneCell'=true:=by
 intro v hv
 obtain ⟨n,_,rfl⟩:=List.mem_map.1 hv
 rfl
theorem butl_setRow (w:World) (g:Nat) (cs:Array Value):ButL w (w.setRow g cs) [g]:=⟨rfl,rfl,rfl,by simp,fun k hk hn=>setRow_other w g k cs (by simpa using hn)⟩
def leadS (s:Sup) (l:List Nat):Sup:=s.take 2++l++s.drop (2+l.length)
theorem length_leadS {s:Sup} (hs:s.length=18) {l:List Nat} (hl:l.length≤2):(leadS s l).length=18:=by unfold leadS; simp; omega
theorem leadS_low {s:Sup} (hs:s.length=18) {l:List Nat} (j:Nat) (hj:j<2):nth (leadS s l) j=nth s j:=by
 unfold leadS nth
 rw [List.append_assoc,List.getD_eq_getElem?_getD,List.getD_eq_getElem?_getD,List.getElem?_append_left (by simp; omega),List.getElem?_take_of_lt hj]
theorem leadS_mid {s:Sup} (hs:s.length=18) {l:List Nat} (j:Nat) (hj:j<l.length):nth (leadS s l) (2+j)=l[j]:=by
 unfold leadS nth
 rw [List.append_assoc,List.getD_eq_getElem?_getD,List.getElem?_append_right (by simp; omega),List.length_take,hs,show 2+j-min 2 18=j by omega,List.getElem?_append_left hj,List.getElem?_eq_getElem hj]
 rfl
theorem leadS_high {s:Sup} (hs:s.length=18) {l:List Nat} (hl:l.length≤2) (j:Nat) (hj:2+l.length≤j):nth (leadS s l) j=nth s j:=by
 unfold leadS nth
 rw [List.getD_eq_getElem?_getD,List.getD_eq_getElem?_getD,List.getElem?_append_right (by simp; omega),List.getElem?_drop]
 congr 2
 simp
 omega
theorem scells_lead {s:Sup} (hs:s.length=18) {l:List Nat} (hl:l.length≤2):(scells s).take 2++kv .u32 l++(scells s).drop (2+(kv .u32 l).length)=scells (leadS s l):=by
 match s,hs with
 | [a0,a1,a2,a3,a4,a5,a6,a7,a8,a9,a10,a11,a12,a13,a14,a15,a16,a17],_ =>
  match l,hl with
  | [],_=>rfl
  | [x],_=>rfl
  | [x,y],_=>rfl
  | x :: y :: z :: l,hl=>simp at hl
set_option maxHeartbeats 2000000 in
theorem lead_any {w:World} {r:Nat} {s:Sup} (hr:RowV w r 69 (scells s)) (hs:s.length=18) {A:Option Addr} {c:Nat} {l:List Nat} (h:ToldV w A (ints l)) (hl:l.length≤2) (hb32 : ∀x∈l,x<4294967296) :
  Calls Tryz.prog 86 #[.pointer (some ⟨r,0,none⟩),.slice A l.length c] w fun e w'=>e = .returned (.tuple #[])∧RowV w' r 69 (scells (leadS s l))∧ButL w w' [r]:=by
 have hsz:(Tryz.prog.info? 66).map (·.size)=some 1:=by kernel_rfl
 have HR:=hid hr
 have HT:=hid h
 have q0:=hr.lt
 have HL:=hid q0
 clear hr h q0
 go_enter Tryz.func86,Tryz.ntmps86
 go_upto_region 0 with (fail)
 refine Inv2.wp_region_inv (fun b a wy => ∃(z:Nat→Value) (z9:Value),a=⟨#[Value.pointer (some ⟨r,0,none⟩),Value.slice A l.length c,undef,undef,(z 4),(z 5),(z 6),(z 7),(z 8),z9,(z 10)],[]⟩∧Hid ((b 0=true→(z 4)=Value.pointer (some ⟨r,0,none⟩))∧(b 1=true→(z 5) = .pointer (some ⟨r,0,none⟩))∧(b 2=true→(z 6) = .pointer (some ⟨r,2,none⟩))∧(b 3=true→(z 7) = .slice (some ⟨r,2,none⟩) 2 8)∧(b 4=true→(z 8)=Value.slice A l.length c)∧(b 6=true→(z 10) = .int .i64 (l.length:Int)))∧Hid (Below 0 w wy)∧Hid (ButL w wy [r]∧(b 6=false→RowV wy r 69 (scells s))∧(b 5=true → ∃g,z9 = .slice (some ⟨g,0,none⟩) l.length l.length∧RowV wy g 66 (kv .u32 l))∧(b 6=true→b 5=true∧RowV wy r 69 (scells (leadS s l))))) (by kernel_rfl) (by kernel_rfl) ?startD ?stepsD ?doneD
 case startD =>
  intro b hb
  refine ⟨fun s=>undef,undef,rfl,hid ⟨?_,?_,?_,?_,?_,?_⟩,hid ((show Still w w.drew from ⟨rfl,rfl,rfl,rfl⟩).below _),hid (⟨ButL.still _ ⟨rfl,rfl,rfl,rfl⟩,fun _=>HR.out,(fun e=>by rw [hb _ (by decide)] at e; cases e),(fun e=>by rw [hb _ (by decide)] at e; cases e)⟩)⟩
  all_goals (intro e; first | rfl | (rw [hb _ (by decide)] at e; cases e))
 case stepsD =>
  refine ⟨?_,?_,?_,?_,?_,?_,?_,trivial⟩
  ·rintro b a wy hb hd ⟨z,z9,rfl,HV,HW,HX⟩ K hK
   clear hd
   go_simp
   have V:=HV.out
   exact hK _ _ ⟨fun s=>if s=4 then Value.pointer (some ⟨r,0,none⟩) else z s,_,rfl,hid ⟨fun _=>rfl,V.2.1,V.2.2.1,V.2.2.2.1,V.2.2.2.2.1,V.2.2.2.2.2⟩,HW,HX⟩
  ·rintro b a wy hb hd ⟨z,z9,rfl,HV,HW,HX⟩ K hK
   simp [Region.binds] at hd
   have e0:(z 4)=Value.pointer (some ⟨r,0,none⟩):=(HV.out.1) (by simp [hd])
   clear hd
   go_simp
   have V:=HV.out
   exact hK _ _ ⟨fun s=>if s=5 then .pointer (some ⟨r,0,none⟩) else if s=4 then Value.pointer (some ⟨r,0,none⟩) else z s,_,rfl,hid ⟨fun _=>rfl,fun _=>rfl,V.2.2.1,V.2.2.2.1,V.2.2.2.2.1,V.2.2.2.2.2⟩,HW,HX⟩
  ·rintro b a wy hb hd ⟨z,z9,rfl,HV,HW,HX⟩ K hK
   simp [Region.binds] at hd
   have e1:(z 5) = .pointer (some ⟨r,0,none⟩):=(HV.out.2.1) (by simp [hd])
   clear hd
   go_simp
   have V:=HV.out
   exact hK _ _ ⟨fun s=>if s=6 then .pointer (some ⟨r,2,none⟩) else if s=5 then .pointer (some ⟨r,0,none⟩) else z s,_,rfl,hid ⟨V.1,fun _=>rfl,fun _=>rfl,V.2.2.2.1,V.2.2.2.2.1,V.2.2.2.2.2⟩,HW,HX⟩
  ·rintro b a wy hb hd ⟨z,z9,rfl,HV,HW,HX⟩ K hK
   simp [Region.binds] at hd
   have e2:(z 6) = .pointer (some ⟨r,2,none⟩):=(HV.out.2.2.1) (by simp [hd])
   clear hd
   go_simp
   have V:=HV.out
   exact hK _ _ ⟨fun s=>if s=7 then .slice (some ⟨r,2,none⟩) 2 8 else if s=6 then .pointer (some ⟨r,2,none⟩) else z s,_,rfl,hid ⟨V.1,V.2.1,fun _=>rfl,fun _=>rfl,V.2.2.2.2.1,V.2.2.2.2.2⟩,HW,HX⟩
  ·rintro b a wy hb hd ⟨z,z9,rfl,HV,HW,HX⟩ K hK
   clear hd
   go_simp
   have V:=HV.out
   exact hK _ _ ⟨fun s=>if s=8 then Value.slice A l.length c else z s,_,rfl,hid ⟨V.1,V.2.1,V.2.2.1,V.2.2.2.1,fun _=>rfl,V.2.2.2.2.2⟩,HW,HX⟩
  ·rintro b a wy hb hd ⟨z,z9,rfl,HV,HW,HX⟩ K hK
   simp [Region.binds] at hd
   have e4:(z 8)=Value.slice A l.length c:=(HV.out.2.2.2.2.1) (by simp [hd])
   clear hd
   obtain ⟨x1,x2,x3,x4⟩:=HX.out
   have b6:b 6=false:=by
    rcases Bool.eq_false_or_eq_true (b 6) with e | e
    ·exact absurd (hb.symm.trans (x4 e).1) (by decide)
    ·exact e
   have HTy:=hid (told_rows (vs:=scells s) HT.out HR.out (by intro v hv z; rw [Su.scells,List.mem_map] at hv; obtain ⟨j,_,rfl⟩:=hv; unfold scell; split <;> simp) x1)
   go_simp
   go_at_call 146
   refine (as_uint32_int (l:=l) (c:=c) (by rw [kv_ints]; exact HTy.out) (by omega) hb32).mono ?_
   rintro e wz ⟨g,rfl,hg,hlo,kz⟩
   try go_simp
   have V:=HV.out
   exact hK _ _ ⟨fun s=>if s=8 then Value.slice A l.length c else z s,_,rfl,hid ⟨V.1,V.2.1,V.2.2.1,V.2.2.2.1,fun _=>rfl,V.2.2.2.2.2⟩,hid (HW.out.trans (kz.mono (Nat.zero_le _))),hid ⟨x1.trans (ButL.of_below _ kz (Nat.le_refl _)),fun e=>(x2 e).below (x2 e).lt kz,fun _=>⟨g,rfl,hg⟩,fun e=>absurd (b6.symm.trans e) (by decide)⟩⟩
  ·rintro b a wy hb hd ⟨z,z9,rfl,HV,HW,HX⟩ K hK
   simp [Region.binds] at hd
   have e3:(z 7) = .slice (some ⟨r,2,none⟩) 2 8:=(HV.out.2.2.2.1) (by simp [hd])
   have dd5:b 5=true:=by simp [hd]
   clear hd
   obtain ⟨x1,x2,x3,x4⟩:=HX.out
   obtain ⟨g,zz,hg⟩:=x3 dd5
   subst zz
   have hr6:=x2 hb
   have hng:g≠r:=row_ne hg hr6 (by decide)
   have hrun:=run_copy_row (P:=Tryz.prog) wy 225 225 3 66 r 2 2 8 ⟨g,0,none⟩ l.length l.length (scells s).toArray 69 (kv .u32 l) Tryz.underlying225 hsz hr6 (by rw [length_kv]; show l.length=min l.length 2; omega) (fun j v hj=>by rw [add_plain]; exact (by rw [Nat.zero_add]; exact hg.cellAt hj)) (by simp [Su.length_scells,length_kv]; omega) (kv_one _ _)
   rw [show (scells s).toArray.toList=scells s from rfl,scells_lead hs hl,length_kv] at hrun
   have H6:=hid (Su.row_setRow_same (us:=scells (leadS s l)) hr6)
   have HK6:=hid (x1.trans (butl_setRow wy r (scells (leadS s l)).toArray))
   have HBZ:=hid (show Below 0 wy (wy.setRow r (scells (leadS s l)).toArray) from Su.setRow_below _ (Nat.zero_le _))
   have HG6:=hid (Su.row_setRow_other hg (scells (leadS s l)).toArray hng)
   clear x1 x2 x3 x4 hg hr6 HX
   rw [e3]
   refine if_wanted (by rfl) (wp_copy_run (.tmp 7) (.tmp 9) 225 225 rfl _ _ rfl rfl _ _ hrun ?_)
   have V:=HV.out
   exact hK _ _ ⟨fun s=>if s=10 then .int .i64 (l.length:Int) else if s=7 then .slice (some ⟨r,2,none⟩) 2 8 else z s,_,rfl,hid ⟨V.1,V.2.1,V.2.2.1,fun _=>rfl,V.2.2.2.2.1,fun _=>rfl⟩,hid (HW.out.trans HBZ.out),hid ⟨HK6.out,fun e=>(by cases e),fun _=>⟨g,rfl,HG6.out⟩,fun _=>⟨dd5,H6.out⟩⟩⟩
 case doneD =>
  rintro b a w9 hb ⟨z,z9,rfl,HV,HW,HX⟩
  have e0:=(HV.out.1) (hb 0)
  have e1:=(HV.out.2.1) (hb 1)
  have e2:=(HV.out.2.2.1) (hb 2)
  have e3:=(HV.out.2.2.2.1) (hb 3)
  have e4:=(HV.out.2.2.2.2.1) (hb 4)
  have e6:=(HV.out.2.2.2.2.2) (hb 6)
  simp only [e0,e1,e2,e3,e4,e6]
  clear HV e0 e1 e2 e3 e4 e6
  obtain ⟨x1,_,_,x4⟩:=HX.out
  have H9:=hid (And.intro (x4 (hb 6)).2 x1)
  clear x1 x4 HX HW hb
  go_wp2_with fail
  go_end0
  exact ⟨rfl,H9.out⟩
def sup0 (n:Nat):Sup:=1 :: n :: List.replicate 16 0
theorem sup0_ok {n:Nat} (hn:n≤4096) {l:List Nat} (hl:l.length≤2) (hb : ∀x∈l,x<4294967296):Su.Ok (leadS (sup0 n) l):=by
 have hlen:(sup0 n).length=18:=rfl
 have key : ∀j,nth (leadS (sup0 n) l) j<4294967296:=fun j=>by
  rcases Nat.lt_or_ge j 2 with h | h
  ·rw [leadS_low hlen j h]
   rcases j with _ | _ | j
   ·show 1<4294967296; omega
   ·show n<_; omega
   ·omega
  ·rcases Nat.lt_or_ge j (2+l.length) with h1 | h1
   ·obtain ⟨i,rfl⟩ : ∃i,j=2+i:=⟨j-2,by omega⟩
    rw [leadS_mid hlen i (by omega)]
    exact hb _ (List.getElem_mem _)
   ·rw [leadS_high hlen hl j h1]
    unfold nth sup0
    rcases j with _ | _ | j
    ·omega
    ·omega
    ·simp only [List.getD_cons_succ]
     rw [List.getD_eq_getElem?_getD,List.getElem?_replicate]
     split <;> simp
 exact ⟨length_leadS hlen hl,fun j=>by have:=key j; omega,fun j _ _=>key j⟩
theorem sup0_fit {n:Nat} (h1:16≤n) (hn:n≤4096) {l:List Nat} (hl:l.length≤2) (hb : ∀x∈l,x<n):Su.Fit (leadS (sup0 n) l):=by
 have hlen:(sup0 n).length=18:=rfl
 have e0:nth (leadS (sup0 n) l) 0=1:=leadS_low hlen 0 (by omega)
 have e1:nth (leadS (sup0 n) l) 1=n:=leadS_low hlen 1 (by omega)
 refine ⟨by omega,by omega,by omega,fun i hi => ?_⟩
 rw [e1]
 rcases Nat.lt_or_ge i l.length with h | h
 ·rw [leadS_mid hlen i h]; exact hb _ (List.getElem_mem _)
 ·rw [leadS_high hlen hl (2+i) (by omega)]
  unfold nth sup0
  rw [show 2+i=i+1+1 by omega]
  simp only [List.getD_cons_succ]
  rw [List.getD_eq_getElem?_getD,List.getElem?_replicate]
  split <;> simp <;> omega
def z128:List UInt8:=List.replicate 128 0
def fmtSteps (n:Nat) (y:Wk):List Stp := [.w 0 z128,.w 1 z128,.f]++(cntSteps y.q.s y.l1 (doneL y.f1)++dirSteps y.l1 y.l2 (doneL y.f2))++finSteps (leadS (sup0 n) y.l2)
theorem getD_lt {l:List Nat} {n:Nat} (h : ∀x∈l,x<n) (hn:0<n) (i:Nat):l.getD i 0<n:=by
 rw [List.getD_eq_getElem?_getD]
 rcases Nat.lt_or_ge i l.length with h1 | h1
 ·rw [List.getElem?_eq_getElem h1]; exact h _ (List.getElem_mem _)
 ·rw [List.getElem?_eq_none h1]; exact hn
theorem q0_good {n:Nat} (h1:16≤n) (h2:n≤400):(Pl.begin (q0 n) (zeros (pg n)) (zeros (pg (pg n)))).Good:=by
 have hok:(q0 n).Ok:=⟨.new (by omega) (by omega),by show 2≤(St.new n).n; rw [n_new]; omega,Nat.le_refl _,.inr rfl,Nat.zero_le _⟩
 exact begin_good (l1:=zeros (pg n)) (l2:=zeros (pg (pg n))) hok (right_zeros n) (by show need (St.new n).n≤(q0 n).room; rw [n_new]; unfold q0; rw [new_room]; exact need_le h1 h2)
structure FmtY (n:Nat) (y:Wk):Prop where
 good:y.Good
 hn:y.q.s.n=n
 len1:y.l1.length=pg n
 len2:y.l2.length=pg (pg n)
 lt1 : ∀x∈y.l1,x<n
 lt2 : ∀x∈y.l2,x<n
theorem fmtY {n:Nat} {y:Wk} (h1:16≤n) (h2:n≤400) (hr:(Pl.begin (q0 n) (zeros (pg n)) (zeros (pg (pg n)))).Runs y):FmtY n y:=by
 obtain ⟨hs,hn,_⟩:=sound0 h1 h2 hr
 have hg:=hr.good (q0_good h1 h2)
 have key : ∀i,i<(y.l1++y.l2).length→(y.l1++y.l2).getD i 0<n:=fun i hi=>by have:=(hs.one i hi).2.1; have e:(Q.keep y.q).s.n=y.q.s.n:=rfl; omega
 have mem : ∀x∈y.l1++y.l2,x<n:=fun x hx=>by
  obtain ⟨i,hi,rfl⟩:=List.mem_iff_getElem.1 hx
  have:=key i hi
  rwa [List.getD_eq_getElem?_getD,List.getElem?_eq_getElem hi] at this
 exact ⟨hg,hn,by rw [hg.len1,hn],by rw [hg.len2,hn],fun x hx=>mem x (List.mem_append.2 (.inl hx)),fun x hx=>mem x (List.mem_append.2 (.inr hx))⟩
theorem steps_ok {n:Nat} {s:Tl.St} {m1 m2 k1 k2:List Nat} (h1 : ∀x∈m1,x<n) (h2 : ∀x∈m2,x<n) (hn:0<n) : ∀t∈cntSteps s m1 k1++dirSteps m1 m2 k2,Stp.ok n t:=by
 intro t ht
 rcases List.mem_append.1 ht with ht | ht
 ·obtain ⟨i,_,rfl⟩:=List.mem_map.1 ht
  exact getD_lt h1 hn i
 ·obtain ⟨i,_,rfl⟩:=List.mem_map.1 ht
  exact getD_lt h2 hn i
theorem fin_ok {n:Nat} (s:Sup) (hn:2≤n) : ∀t∈finSteps s,Stp.ok n t:=by
 intro t ht
 simp only [finSteps,List.mem_cons,List.not_mem_nil,or_false] at ht
 rcases ht with rfl | rfl | rfl
 ·trivial
 ·show nth s 0 % 2<n; omega
 ·trivial
theorem done_few' {f:List Bool} (h:f.length≤4096):(doneL f).length≤4096:=Nat.le_trans (done_le f f.length) h
theorem FmtY.src {n:Nat} {y:Wk} (h:FmtY n y) (hn:n≤400) {v:World} {ta cb mb c g1 d1 g3 d3 c1 c2:Nat} {A1 A2:Option Addr} (ht:Tl.At v ta cb mb c y.q.s) (r1 : ∃sp,RowV v g1 3 (ints y.l1++sp)) (r3 : ∃sp,RowV v g3 3 (ints y.l2++sp)) (t1:ToldV v A1 (ints (doneL y.f1))) (t2:ToldV v A2 (ints (doneL y.f2))) (hd:y.l1.length≤d1) (hd':d1≤maxLen):Src v ta cb mb c y.q.s g1 d1 g3 d3 c1 c2 A1 A2 y.l1 y.l2 (doneL y.f1) (doneL y.f2):=by
 have e1:=h.len1
 have e2:=h.len2
 have p1:pg n≤68:=pg_le (by omega)
 have p2:pg (pg n)≤68:=pg_le (by omega)
 have f1:=h.good.fl1
 have f2:=h.good.fl2
 refine ⟨ht,r1,r3,t1,t2,by omega,fun _=>hd,fun _=>hd',fun x hx=>by have:=h.lt1 x hx; omega,fun i hi => ?_,fun i hi => ?_,done_few' (by omega),done_few' (by omega),by omega⟩
 ·have:=mem_done_lt hi
  rw [h.hn]
  omega
 ·have:=mem_done_lt hi
  have k : ∀m,i<pg m→i*61<m:=fun m hm=>by unfold pg at hm; omega
  rw [f2,e2] at this
  have k1:=k (pg n) this
  omega
theorem length_fmt {n:Nat} {y:Wk} (h:FmtY n y) (hn:n≤400):(fmtSteps n y).length≤200:=by
 have e1:=h.len1
 have e2:=h.len2
 have p1:pg n≤68:=pg_le (by omega)
 have p2:pg (pg n)≤68:=pg_le (by omega)
 have f1:=h.good.fl1
 have f2:=h.good.fl2
 have d1:=done_le y.f1 y.f1.length
 have d2:=done_le y.f2 y.f2.length
 unfold fmtSteps finSteps
 simp only [List.length_append,List.length_cons,List.length_nil,length_cntSteps,length_dirSteps]
 unfold doneL
 omega
theorem fmt_ok {n:Nat} {y:Wk} (h:FmtY n y) (hn:16≤n) : ∀t∈fmtSteps n y,Stp.ok n t:=by
 intro t ht
 rcases List.mem_append.1 ht with ht | ht
 ·rcases List.mem_append.1 ht with ht | ht
  ·simp only [List.mem_cons,List.not_mem_nil,or_false] at ht
   rcases ht with rfl | rfl | rfl
   ·show 0<n; omega
   ·show 1<n; omega
   ·trivial
  ·exact steps_ok h.lt1 h.lt2 (by omega) t ht
 ·exact fin_ok _ (by omega) t ht
theorem settle_eq {w:World} {p ta cb mb c:Nat} {q:Q} (hq:PAt w p ta cb mb c q) {A1 A2:Option Addr} {c1 c2 n m:Nat} {l1 l2:List Nat} (h1:ToldV w A1 (ints l1)) (h2:ToldV w A2 (ints l2)) (hyes:RightS q.s (toI l1) (toI l2)) (hroom:need q.s.n≤q.room) (hn:l1.length=n) (hm:l2.length=m) :
  Calls Tryz.prog 109 #[.pointer (some ⟨ta,0,none⟩),.pointer (some ⟨p,0,none⟩),.agg #[.slice A1 n c1,.slice A2 m c2]] w (SetOut w p ta cb mb c q l1 l2):=by
 subst hn hm
 exact settle_yes hq h1 h2 hyes hroom
set_option maxHeartbeats 2000000 in
theorem format_any {Pr:Nat→Prop} {w:World} {d:Nat} {D:Dsk.St} (hd:DIs Pr w d D) (hc:Calm D) (hP : ∀k,Pr k→k<w.heap.size) {n:Nat} (hn:D.n=n) (hn1:16≤n) (hn2:n≤400) (hW:D.W.length<100000) :
  Calls Tryz.prog 47 #[.pointer (some ⟨d,0,none⟩)] w fun e w'=>e = .returned (.int .i64 0) ∧ ∃y,(Pl.begin (q0 n) (zeros (pg n)) (zeros (pg (pg n)))).Runs y∧DIs Pr w' d (doSteps D (fmtSteps n y))∧Off dT Pr [] w w':=by
 have HD:=hid hd
 have HP:=hid hP
 have hne : ¬((n:Int)=0):=by omega
 have HNN:=hid hn
 clear hd hP hn
 go_enter Tryz.func47,Tryz.ntmps47
 go_wp2_with fail
 refine (Dsk.len_is HD.out.is).mono ?_
 rintro e w' ⟨rfl,rfl⟩
 rw [HNN.out]
 go_wp2_with fail
 refine (Tl.new_yes n (by omega) (by omega) w).mono ?_
 rintro e w1 ⟨ta,cb,mb,rfl,hF⟩
 have HF:=hid hF
 clear hF
 go_wp2_with fail
 refine (pnew_yes HF.out.at' 2 (by rw [n_new]; omega)).mono ?_
 rintro e w2 ⟨p,rfl,hP2⟩
 have HP2:=hid hP2
 clear hP2
 go_wp2_with fail
 refine (nowhere_any n (by omega) w2).mono ?_
 rintro e w3 ⟨g1,g3,rfl,r1,r3,l1,l3,kz⟩
 have HN3:=hid (And.intro (HP2.out.at'.kept kz) (And.intro r1 (And.intro r3 (And.intro l1 (And.intro l3 kz)))))
 clear r1 r3 l1 l3 kz
 go_wp2_with fail
 refine (settle_eq HN3.out.1 (l1:=zeros (pg n)) (l2:=zeros (pg (pg n))) (HN3.out.2.1.has.told) (HN3.out.2.2.1.has.told) ?hyes ?hroom (by simp [zeros]) (by simp [zeros])).mono ?_
 case hyes=>exact right_zeros n
 case hroom=>rw [n_new,new_room]; exact need_le hn1 hn2
 rintro e w4 ⟨y,g1',d1,g3',d3,c1,c2,A1,A2,rfl,hruns,hp,hr1,hr3,t1,t2,hlo,hlo3,hb⟩
 have hy:=fmtY hn1 hn2 hruns
 have e1:(zeros (pg n)).length=y.l1.length:=by rw [hy.len1]; simp [zeros]
 have e2:(zeros (pg (pg n))).length=y.l2.length:=by rw [hy.len2]; simp [zeros]
 have hbel:Below w.heap.size w w4:=by
  have s1:=HF.out.below.size
  have s2:=HP2.out.below.size
  have s3:=HN3.out.2.2.2.2.2.size
  have a1:=HF.out.hc
  have a2:=HF.out.hm
  have a3:=HP2.out.hp
  exact ((HF.out.below.trans (HP2.out.below.mono s1)).trans (HN3.out.2.2.2.2.2.mono (by omega))).trans (hb.below (by simp; omega) (by omega))
 rw [e1] at hlo
 rw [e1,e2]
 have HS:=hid (And.intro hruns (And.intro (hy.src hn2 (d3:=d3) (c1:=c1) (c2:=c2) hp.tally hr1 hr3 t1 t2 hlo.2.1 hlo.2.2) (And.intro hbel hy)))
 clear hruns hp hr1 hr3 t1 t2 hlo hlo3 hb e1 e2 hbel hy HF HP2 HN3
 unfold lval
 go_upto_region 7 with (fail)
 have r5:=alloc_rowV w4 160 (lval g1' y.l1.length d1 g3' y.l2.length d3 A1 c1 (doneL y.f1).length A2 c2 (doneL y.f2).length)
 have b5:=(Below.refl w4.heap.size w4).alloc (Nat.le_refl _) (.cells (lval g1' y.l1.length d1 g3' y.l2.length d3 A1 c1 (doneL y.f1).length A2 c2 (doneL y.f2).length).toArray 160)
 have HSV:=hid (And.intro (HS.out.2.1.kept b5) (And.intro (HS.out.2.2.1.trans (b5.mono HS.out.2.2.1.size)) (And.intro r5 (And.intro HS.out.1 HS.out.2.2.2))))
 obtain ⟨x8,hx8⟩ : ∃x,x=w4.heap.size:=⟨_,rfl⟩
 rw [← hx8] at HSV ⊢
 clear HS r5 b5 hx8
 unfold lval at HSV
 generalize w4.alloc (.cells #[.slice (some ⟨g1',0,none⟩) y.l1.length d1,.slice (some ⟨g3',0,none⟩) y.l2.length d3,.slice A1 (doneL y.f1).length c1,.slice A2 (doneL y.f2).length c2] 160)=v at *
 have r6:=alloc_rowV v 180 [.pointer (some ⟨d,0,none⟩),.slice none 0 0]
 have b6:=(Below.refl v.heap.size v).alloc (Nat.le_refl _) (.cells #[.pointer (some ⟨d,0,none⟩),.slice none 0 0] 180)
 go_upto_region 8 with (fail)
 have HP0:=hid (Pln.empty r6 (Nat.le_refl _))
 obtain ⟨B,hB⟩ : ∃x,x=v.heap.size:=⟨_,rfl⟩
 rw [← hB] at HP0 b6 ⊢
 have HB6:=hid b6
 have HBV:=hid hB
 clear r6 b6 hB
 generalize v.alloc (.cells #[.pointer (some ⟨d,0,none⟩),.slice none 0 0] 180)=w6 at *
 obtain ⟨P,hPB⟩ : ∃x,x=B:=⟨_,rfl⟩
 have HB:=hid (show B≤w6.heap.size from by have:=HB6.out.size; have:=HBV.out; omega)
 replace HP0:Hid (Pln w6 B P d []):=hid (by rw [hPB]; exact HP0.out)
 have ht : ∀X:Value→Prop,X (.pointer (some ⟨P,0,none⟩))→X (.pointer (some ⟨B,0,none⟩)):=fun X h=>hPB▸h
 rw [← hPB]
 clear ht hPB
 go_wp2_with fail
 go_loopw [38] (fun i wr => ∃k:Nat,k≤2∧i = .int .i64 (k:Int)∧Hid (Pln wr B P d (((List.range 2).map fun p=>Stp.w p z128).take k))∧Hid (Below B w6 wr)) (fun i _=>2-(Go.RowKit.intOf i).toNat)
 case atStart=>exact ⟨0,Nat.zero_le _,rfl,hid (by rw [List.take_zero]; exact HP0.out),hid (Below.refl _ _)⟩
 case round =>
  obtain ⟨k,hk,rfl,HP,HO⟩:=hrel
  have HBr:=hid (show B≤wr.heap.size from Nat.le_trans HB.out HO.out.size)
  by_cases hlt:k<2
  ·have hki:(k:Int)<2:=by omega
   have hge:(0:Int)≤(k:Int):=by omega
   have hmk:(Instr.makeSlice 45 (.int .i64 128) (.int .i64 128)).run Tryz.prog wr = .ok (.slice (some ⟨wr.heap.size,0,none⟩) 128 128) (wr.alloc (.cells (vals (List.replicate 128 0)).toArray 5)):=run_make_bytes wr 128 (by omega)
   have RZ:=hid (alloc_row wr z128)
   have BZ:=hid ((Below.refl wr.heap.size wr).alloc (Nat.le_refl _) (.cells (vals z128).toArray 5))
   go_wp2_with fail
   refine (pwrite (HP.out.below BZ.out) (Nat.le_trans HBr.out BZ.out.size) ?few k wr.heap.size 128 z128 (by decide) ⟨RZ.out.has,_,_,RZ.out⟩).mono ?_
   case few=>rw [List.length_take]; omega
   rintro e w7 ⟨rfl,hp7,ho7⟩
   have HP7:=hid hp7
   have HO7:=hid ((HO.out.trans (BZ.out.mono HBr.out)).trans (off_below ho7 (Nat.le_trans HBr.out BZ.out.size)))
   clear hp7 ho7 hmk RZ BZ
   go_wp2_with fail
   go_roundw
   case rel=>exact ⟨k+1,by omega,by go_num,hid (by rw [show (((List.range 2).map fun p=>Stp.w p z128).take (k+1))=((List.range 2).map fun p=>Stp.w p z128).take k ++ [Stp.w k z128] from by rcases k with _ | _ | k <;> first | rfl | omega]; exact HP7.out),HO7⟩
   case measure=>simp [Go.RowKit.intOf]; omega
  ·have hki : ¬(k:Int)<2:=by omega
   obtain rfl:k=2:=by omega
   replace HP:Hid (Pln wr B P d [.w 0 z128,.w 1 z128]):=HP
   clear HP0
   go_wp2_with fail
   refine (pflush HP.out HBr.out (by simp)).mono ?_
   rintro e w7 ⟨rfl,hp7,ho7⟩
   have HP7:=hid hp7
   have HO7:=hid ((HB6.out.trans HO.out).trans (off_below ho7 HBr.out))
   have HBX:=hid (HSV.out.2.2.1.below (by have:=HSV.out.2.2.1.lt; have:=HBV.out; omega) HO7.out)
   have c0:=HBX.out.cellAt (i:=0) rfl
   have c1':=HBX.out.cellAt (i:=1) rfl
   have c2':=HBX.out.cellAt (i:=2) rfl
   have c3':=HBX.out.cellAt (i:=3) rfl
   clear hp7 ho7 HO HP HB HBr HBX
   go_wp2_with fail
   refine (ppages (v:=v) (by rw [← HBV.out]; exact HP7.out) (by rw [← HBV.out]; exact HO7.out) HSV.out.1 (by simp)).mono ?_
   rintro e w8 ⟨rfl,hp8,ho8⟩
   rw [← HBV.out] at hp8 ho8
   have s7:B≤w7.heap.size:=by have:=HO7.out.size; have:=HBV.out; omega
   have HP8:=hid hp8
   have HO8:=hid (HO7.out.trans (off_below ho8 s7))
   clear hp8 ho8 HP7 HO7 c0 c1' c2' c3' s7
   have hn32:(n:Int)<4294967296:=by omega
   have hn0:(0:Int)≤(n:Int):=by omega
   have r9:=alloc_rowV w8 69 (scells (sup0 n))
   have b9:=(Below.refl w8.heap.size w8).alloc (Nat.le_refl _) (.cells (scells (sup0 n)).toArray 69)
   have s8:B≤w8.heap.size:=by have:=HO8.out.size; have:=HBV.out; omega
   have HP9:=hid (HP8.out.below b9)
   have HO9:=hid (HO8.out.trans (b9.mono s8))
   have HR9:=hid (And.intro r9 s8)
   clear r9 b9 s8 HP8 HO8
   go_upto_region 16 with (fail)
   have hlit:(scells (sup0 n)).toArray = #[.int .u64 1,.int .u32 (n:Int),.int .u32 0,.int .u32 0,.int .u32 0,.int .u32 0,.int .u32 0,.int .u32 0,.int .u32 0,.int .u32 0,.int .u64 0,.int .u64 0,.int .u64 0,.int .u64 0,.int .u64 0,.int .u64 0,.int .u64 0,.int .u64 0]:=rfl
   rw [hlit] at HP9 HO9 HR9
   obtain ⟨x12,hx12⟩ : ∃x,x=w8.heap.size:=⟨_,rfl⟩
   rw [← hx12] at HR9 ⊢
   clear hn32 hn0 hlit hx12
   generalize w8.alloc (.cells #[.int .u64 1,.int .u32 (n:Int),.int .u32 0,.int .u32 0,.int .u32 0,.int .u32 0,.int .u32 0,.int .u32 0,.int .u32 0,.int .u32 0,.int .u64 0,.int .u64 0,.int .u64 0,.int .u64 0,.int .u64 0,.int .u64 0,.int .u64 0,.int .u64 0] 69)=w9 at *
   have HS9:=hid (HSV.out.1.kept (v':=w9) (by rw [← HBV.out]; exact HO9.out))
   have HBX:=hid (HSV.out.2.2.1.below (by have:=HSV.out.2.2.1.lt; have:=HBV.out; omega) HO9.out)
   have c1':=HBX.out.cellAt (i:=1) rfl
   have HLF:=hid (show y.l2.length≤2 ∧ ∀x∈y.l2,x<4294967296 from ⟨by rw [HSV.out.2.2.2.2.len2]; have h1:pg n≤68:=pg_le (by omega); unfold pg at h1 ⊢; omega,fun x hx=>by have:=HSV.out.2.2.2.2.lt2 x hx; omega⟩)
   go_wp2_with fail
   refine (lead_any HR9.out.1 rfl (has_told HS9.out.r3) HLF.out.1 HLF.out.2).mono ?_
   rintro e w10 ⟨rfl,r10,k10⟩
   have HR10:=hid r10
   have HP10:=hid (HP9.out.off (T:=fun t=>t == 69) (Pr:=fun _=>False) (show Off _ _ [] w9 w10 from ⟨k10.os,k10.tape,k10.output,k10.size,fun j hj _ hc=>k10.block j hj (by
    simp only [List.mem_singleton]
    rintro rfl
    rcases hc with hc | hc
    ·exact hc
    ·have:=hc _ _ _ HR9.out.1
     exact absurd this (by decide))⟩) rfl rfl rfl rfl rfl rfl)
   have HO10:=hid (HO9.out.trans (k10.below (by simp; exact HR9.out.2) (by have:=HO9.out.size; have:=HBV.out; omega)))
   clear r10 k10 HP9 HO9 HR9 HS9 HBX c1'
   go_wp2_with (first | (refine wpList_load_row rfl 69 (.tmp 12) rfl x12 rfl _ (scells (leadS (sup0 n) y.l2)).toArray _ _ HR10.out Tryz.underlying69 rfl (Su.size_scells _) ?_))
   have HLO:=hid (show Su.Ok (leadS (sup0 n) y.l2)∧Su.Fit (leadS (sup0 n) y.l2) from ⟨sup0_ok (n:=n) (by omega) HLF.out.1 HLF.out.2,sup0_fit hn1 (by omega) HLF.out.1 HSV.out.2.2.2.2.lt2⟩)
   have s10:B≤w10.heap.size:=by have:=HO10.out.size; have:=HBV.out; omega
   have lfm:=length_fmt HSV.out.2.2.2.2 hn2
   have HFE:=hid (show ([] ++ [.w 0 z128,.w 1 z128] ++ [.f]++(cntSteps y.q.s y.l1 (doneL y.f1)++dirSteps y.l1 y.l2 (doneL y.f2))++finSteps (leadS (sup0 n) y.l2))=fmtSteps n y from rfl)
   have HLE:=hid lfm
   refine (pfinish HP10.out s10 ?few (leadS (sup0 n) y.l2) HLO.out.1 HLO.out.2).mono ?_
   case few =>
    have h1:=HLE.out
    unfold fmtSteps at h1
    simp only [List.length_append,List.length_cons,List.length_nil] at h1 ⊢
    omega
   rintro e w11 ⟨rfl,hp11,ho11⟩
   have HP11:=hid (show Pln w11 B P d (fmtSteps n y) from hp11)
   have HO11:=hid (HO10.out.trans (off_below ho11 s10))
   clear hp11 ho11 HP10 HO10 HR10 s10 lfm HFE
   go_wp2_with fail
   have HWB:=hid (HSV.out.2.1.trans (HO11.out.mono (by have:=HSV.out.2.1.size; have:=HBV.out; omega)))
   refine (prun HP11.out (HD.out.below HWB.out) hc (fun k hk=>Nat.lt_of_lt_of_le (HP.out k hk) HWB.out.size) (by have:=HLE.out; omega) (fun t ht=>by rw [HNN.out]; exact fmt_ok HSV.out.2.2.2.2 hn1 t ht)).mono ?_
   rintro e w12 ⟨rfl,hd12,ho12⟩
   have HZ:=hid (And.intro hd12 ((Off.of_below dT Pr [] HWB.out (Nat.le_refl _)).trans ho12))
   clear hd12 ho12
   go_wp2_with fail
   go_ret
   exact ⟨rfl,y,HSV.out.2.2.2.1,HZ.out.1,HZ.out.2⟩
end Go.Proofs.YtogchamogbendaaGreat.Bs
namespace Go.Proofs.YtogchamogbendaaGreat.Bs
open Lib (hid)
open Go.RowKit Oct Mv Tl Pk Pl Go.Maps Go.ChangeMaps
open Dsk (dT)
open Su (Sup nth scells scell psup perr pslot zero18)
theorem two_zero (w:World):(zeroValue 221).run Tryz.prog w = .ok (.agg #[.slice none 0 0,.slice none 0 0]) w:=by kernel_rfl
theorem says_len {Pr:Nat→Prop} {w:World} {d:Nat} {D:Dsk.St} (hd:DIs Pr w d D) (p:Nat) (hp:p<D.n):(D.says p).length=128:=by
 obtain ⟨bb,bc,wv,h,_⟩:=hd
 exact Dsk.length_says h p hp
def SupOut (w:World) (s:Sup) (x:Int) (e:Ending) (w':World):Prop:=e = .returned (.tuple #[.agg (scells s).toArray,.int .i64 x])∧Below w.heap.size w w'
structure TwoAt (D:Dsk.St) (w:World) (x:Nat) (k:Nat):Prop where
 row : ∃vs,RowV w x 221 vs∧vs.length=2 ∧ ∀j,j<k → ∃g,vs[j]?=some (.slice (some ⟨g,0,none⟩) 128 128)∧Row w g (D.says j)
theorem TwoAt.step {D:Dsk.St} {w:World} {x k g:Nat} {vs:List Value} (hv:RowV w x 221 vs) (hl:vs.length=2) (hj : ∀j,j<k → ∃g,vs[j]?=some (.slice (some ⟨g,0,none⟩) 128 128)∧Row w g (D.says j)) (hk:k<2) (hg:Row w g (D.says k)):TwoAt D (w.setCell ⟨x,k,none⟩ (.slice (some ⟨g,0,none⟩) 128 128)) x (k+1):=by
 have other : ∀ {h:Nat} {bs:List UInt8},Row w h bs→Row (w.setCell ⟨x,k,none⟩ (.slice (some ⟨g,0,none⟩) 128 128)) h bs:=fun {h bs} r =>
  (heap_setCell_other w ⟨x,k,none⟩ h _ (row_ne (T := 5) (vs:=vals bs) r hv (by decide))).trans r
 refine ⟨_,hv.set k _,by simp [hl],fun j hj' => ?_⟩
 by_cases e:j=k
 ·subst e
  exact ⟨g,by rw [List.getElem?_set_self (by omega)],other hg⟩
 ·obtain ⟨g',h1,h2⟩:=hj j (by omega)
  exact ⟨g',by rw [List.getElem?_set_ne (fun q=>e q.symm)]; exact h1,other h2⟩
theorem results_sup2 {fn:Func} {p u:Tmp} (h:fn.results = #[.cell p 69,.tmp u]) (tmps:Array Value) (w:World) (g:Nat) (s:Sup) (hx:tmps.getD p undef = .pointer (some ⟨g,0,none⟩)) (hr:RowV w g 69 (scells s)) :
  (results fn tmps).run Tryz.prog w = .ok (.tuple #[.agg (scells s).toArray,tmps.getD u undef]) w:=by
 have hl:=run_loadVar_row (P:=Tryz.prog) w g 69 69 (scells s).toArray (0,0) _ hr Tryz.underlying69 rfl (Su.size_scells s)
 simp only [results,h]
 simp only [Array.getD_eq_getD_getElem?] at hx
 simp [Result.andThen,hx,asAddr,hl]
set_option maxHeartbeats 4000000 in
theorem superOf_any {Pr:Nat→Prop} {w:World} {d:Nat} {D:Dsk.St} (hd:DIs Pr w d D) (hg:D.gone=false) {n:Nat} (hn:D.n=n) (h2:2≤n) (hn4:n≤4096) {s:Sup} {i x:Int} (hs:psup (D.says 0) (D.says 1)=s∧pslot (D.says 0) (D.says 1)=i∧perr (D.says 0) (D.says 1)=x) (hc:x=0∧nth s 1=n∨x≠0) {s':Sup} {x':Int} (hq:(x=0→s'=s∧x'=0)∧(x≠0→s'=zero18∧x'=112)) :
  Calls Tryz.prog 74 #[.pointer (some ⟨d,0,none⟩)] w (SupOut w s' x'):=by
 have HD:=hid hd
 have HN:=hid hn
 have HS:=hid hs
 have HC:=hid hc
 have HQ:=hid hq
 have HOS:=hid (show Su.Ok s from hs.1▸Su.ok_psup _ _)
 clear hd hn hs hc hq
 have hz:=two_zero
 have r2:=alloc_rowV w 69 (scells zero18)
 have b2:=(Below.refl w.heap.size w).alloc (Nat.le_refl _) (.cells #[(.int .u64 0),(.int .u32 0),(.int .u32 0),(.int .u32 0),(.int .u32 0),(.int .u32 0),(.int .u32 0),(.int .u32 0),(.int .u32 0),(.int .u32 0),(.int .u64 0),(.int .u64 0),(.int .u64 0),(.int .u64 0),(.int .u64 0),(.int .u64 0),(.int .u64 0),(.int .u64 0)] 69)
 go_enter Tryz.func74,Tryz.ntmps74
 go_upto_region 1 with (fail)
 have HR2:=hid (show RowV (w.alloc (.cells #[(.int .u64 0),(.int .u32 0),(.int .u32 0),(.int .u32 0),(.int .u32 0),(.int .u32 0),(.int .u32 0),(.int .u32 0),(.int .u32 0),(.int .u32 0),(.int .u64 0),(.int .u64 0),(.int .u64 0),(.int .u64 0),(.int .u64 0),(.int .u64 0),(.int .u64 0),(.int .u64 0)] 69)) w.heap.size 69 (scells zero18) from r2)
 have HB1:=hid b2
 clear r2 b2
 obtain ⟨x2,hx2⟩ : ∃x,x=w.heap.size:=⟨_,rfl⟩
 have HX2:=hid hx2
 generalize hw1:w.alloc (.cells #[(.int .u64 0),(.int .u32 0),(.int .u32 0),(.int .u32 0),(.int .u32 0),(.int .u32 0),(.int .u32 0),(.int .u32 0),(.int .u32 0),(.int .u32 0),(.int .u64 0),(.int .u64 0),(.int .u64 0),(.int .u64 0),(.int .u64 0),(.int .u64 0),(.int .u64 0),(.int .u64 0)] 69)=w1 at *
 rw [← hx2] at HR2 ⊢
 clear hw1 hx2
 have r4:=alloc_rowV w1 221 [.slice none 0 0,.slice none 0 0]
 have b4:=(Below.refl w1.heap.size w1).alloc (Nat.le_refl _) (.cells #[.slice none 0 0,.slice none 0 0] 221)
 go_upto_region 2 with (fail)
 have HR4:=hid (show TwoAt D _ w1.heap.size 0 from ⟨_,r4,rfl,fun j hj=>absurd hj (Nat.not_lt_zero j)⟩)
 have HR2':=hid (HR2.out.below HR2.out.lt b4)
 have HB4:=hid (HB1.out.trans (b4.mono HB1.out.size))
 obtain ⟨x4,hx4⟩ : ∃x,x=w1.heap.size:=⟨_,rfl⟩
 have HX4:=hid (show x2<x4∧x2=w.heap.size from ⟨by rw [hx4]; exact HR2.out.lt,HX2.out⟩)
 rw [← hx4] at HR4 ⊢
 clear r4 b4 hx4 HR2 HB1 hz HX2
 generalize w1.alloc (.cells #[.slice none 0 0,.slice none 0 0] 221)=w2 at *
 go_wp2_with fail
 go_loopw [11] (fun i wr => ∃k:Nat,k≤2∧i = .int .i64 (k:Int)∧Hid (TwoAt D wr x4 k)∧Hid (RowV wr x2 69 (scells zero18))∧Hid (Below w.heap.size w wr)) (fun i _=>2-(Go.RowKit.intOf i).toNat)
 case atStart=>exact ⟨0,Nat.zero_le _,rfl,HR4,HR2',HB4⟩
 case round =>
  obtain ⟨k,hk,rfl,HT,HR,HB⟩:=hrel
  clear HR4 HR2' HB4
  by_cases hlt:k<2
  ·have hki:(k:Int)<2:=by omega
   have hge:(0:Int)≤(k:Int):=by omega
   go_wp2_with fail
   refine (Dsk.read_yes (HD.out.below HB.out).is hg k (by have:=HN.out; omega)).mono ?_
   rintro e w3 ⟨g,rfl,hlo,hrow,kz⟩
   obtain ⟨vs,hvs,hl,hj⟩:=HT.out.row
   have HV:=hid (hvs.below hvs.lt kz)
   have HJ:=hid (show ∀j,j<k → ∃g,vs[j]?=some (.slice (some ⟨g,0,none⟩) 128 128)∧Row w3 g (D.says j) from fun j h=>by obtain ⟨g,h1,h2⟩:=hj j h; exact ⟨g,h1,(kz.block g (lt_of_heap h2)).trans h2⟩)
   have HG:=hid (And.intro hrow (Nat.lt_of_lt_of_le hvs.lt hlo))
   have HR3:=hid (HR.out.below HR.out.lt kz)
   have HB3:=hid (HB.out.trans (kz.mono HB.out.size))
   have f0:=HV.out.free k
   obtain ⟨ok,hok⟩ : ∃v,vs[k]?=some v:=⟨_,List.getElem?_eq_getElem (by omega)⟩
   have qk:=HV.out.cellAt hok
   clear hok
   have HL:=hid hl
   clear hvs hj hrow hlo kz HR HB HT hl
   go_wp2_with fail
   go_roundw
   case rel=>exact ⟨k+1,by omega,by go_num,hid (TwoAt.step HV.out HL.out HJ.out hlt HG.out.1),hid (HR3.out.other (by have:=HX4.out.1; omega)),hid (HB3.out.trans ((ButL.set w3 x4 k (.slice (some ⟨g,0,none⟩) 128 128)).below (B:=w.heap.size) (by simp; have:=HX4.out; omega) HB3.out.size))⟩
   case measure=>simp [Go.RowKit.intOf]; omega
  ·have hki : ¬(k:Int)<2:=by omega
   obtain rfl:k=2:=by omega
   obtain ⟨vs,hvs,hl,hj⟩:=HT.out.row
   obtain ⟨ga,h0,ra⟩:=hj 0 (by omega)
   obtain ⟨gb,h1,rb⟩:=hj 1 (by omega)
   have q0:=hvs.cellAt h0
   have q1:=hvs.cellAt h1
   have HRA:=hid (And.intro ra rb)
   clear hvs hl hj h0 h1 ra rb HT hki
   go_upto_region 10 with (fail)
   go_wp2_with fail
   refine (Su.pick_bts (n:=128) (c:=128) (m:=128) (d:=128) (Su.Bts.page HRA.out.1.has (says_len HD.out 0 (by have:=HN.out; omega))) (Su.Bts.page HRA.out.2.has (says_len HD.out 1 (by have:=HN.out; omega))) HS.out).mono ?_
   rintro e w5 ⟨rfl,kz⟩
   have hst:=run_storeCells_new (P:=Tryz.prog) w5 69 #[(.int .u64 0),(.int .u32 0),(.int .u32 0),(.int .u32 0),(.int .u32 0),(.int .u32 0),(.int .u32 0),(.int .u32 0),(.int .u32 0),(.int .u32 0),(.int .u64 0),(.int .u64 0),(.int .u64 0),(.int .u64 0),(.int .u64 0),(.int .u64 0),(.int .u64 0),(.int .u64 0)] (scells s).toArray (Su.size_scells _) (by simp [Su.length_scells]) (Su.one_scells _)
   have hlc:=Su.length_scells s
   have r6:=alloc_rowV w5 69 (scells s)
   have b6:=(Below.refl w5.heap.size w5).alloc (Nat.le_refl _) (.cells (scells s).toArray 69)
   have HR5:=hid (HR.out.below HR.out.lt kz)
   have HB5:=hid (HB.out.trans (kz.mono HB.out.size))
   clear kz HR HB q0 q1 HRA
   go_upto_region 11 with (fail)
   have HR6:=hid (HR5.out.below HR5.out.lt b6)
   have HB6:=hid (HB5.out.trans (b6.mono HB5.out.size))
   have HX6:=hid r6
   clear hst hlc r6 b6 HR5 HB5
   generalize w5.alloc (.cells (scells s).toArray 69)=w6 at *
   generalize w5.heap.size=x8 at *
   have HLEN:=hid (show ∀m,Calls Tryz.prog 20 #[.pointer (some ⟨d,0,none⟩)] (w6.drewN m) fun e w'=>e = .returned (.int .i64 (n:Int))∧w6.drewN m=w' from fun m=>by
    have h:=Dsk.len_is (HD.out.below (HB6.out.trans ((Still.drewN w6 m).below _))).is
    rw [HN.out] at h
    exact h)
   by_cases hx:x=0
   ·have hs1:nth s 1=n:=by rcases HC.out with h | h; exact h.2; exact absurd hx h
    obtain ⟨rfl,rfl⟩:=HQ.out.1 hx
    subst hx
    have c1:=HX6.out.cellAt (Su.scells_at s' 1 (by decide))
    rw [Su.scell_small _ _ (by omega) (by omega),hs1] at c1
    have hw:wrap64 (n:Int)=n:=by unfold wrap64; omega
    go_quiet ((go_at_call 20; exact Calls.quiet_of_same (calls_flip (HLEN.out _))))
    clear c1 hw
    have HX7:=hid (HX6.out.still (Still.drewN w6 nq))
    have HR7:=hid (HR6.out.still (Still.drewN w6 nq))
    have HB7:=hid (HB6.out.trans ((Still.drewN w6 nq).below _))
    go_wp2_with (first | (refine wpList_load_row rfl 69 (.tmp 8) rfl x8 rfl _ (scells s').toArray _ _ HX7.out Tryz.underlying69 rfl (Su.size_scells _) ?_) | (refine wpList_store_row rfl 69 (.tmp 2) (.tmp 48) rfl x2 (scells s').toArray rfl rfl _ _ HR7.out (Su.size_scells _) (by simp [Su.length_scells]) (Su.one_scells _) ?_))
    refine bodyPost_ret (results_sup2 rfl _ _ x2 s' rfl (Su.row_setRow_same HR7.out)) rfl ⟨rfl,HB7.out.trans (Su.setRow_below _ (by have:=HX4.out.2; omega))⟩
   ·have hxb:(x==0)=false:=by rw [beq_eq_false_iff_ne]; exact hx
    obtain ⟨rfl,rfl⟩:=HQ.out.2 hx
    go_quiet (fail)
    have HX7:=hid (HX6.out.still (Still.drewN w6 nq))
    have HR7:=hid (HR6.out.still (Still.drewN w6 nq))
    have HB7:=hid (HB6.out.trans ((Still.drewN w6 nq).below _))
    go_wp2_with (first | (refine wpList_build_as rfl 69 #[] rfl (scells zero18).toArray ?_ ?_; (simp [Act.eval]); exact Su.built_zero) | (refine wpList_store_row rfl 69 (.tmp 2) (.tmp 47) rfl x2 (scells zero18).toArray rfl rfl _ _ HR7.out (Su.size_scells _) (by simp [Su.length_scells]) (Su.one_scells _) ?_))
    refine bodyPost_ret (results_sup2 rfl _ _ x2 zero18 rfl (Su.row_setRow_same HR7.out)) rfl ⟨rfl,HB7.out.trans (Su.setRow_below _ (by have:=HX4.out.2; omega))⟩
end Go.Proofs.YtogchamogbendaaGreat.Bs
namespace Go.Proofs.YtogchamogbendaaGreat.Bs
open Lib (hid)
open Go.RowKit Oct Mv Tl Pk Pl Go.Maps Go.ChangeMaps
open Dsk (dT)
open Ix (idxPage idxBody wvals Wd OwnW DecYes)
def ptW (l:List UInt16) (i:Nat):List UInt16:=(l.drop (i*61)).take 61
def upW (l:List UInt16) (k:Nat):List UInt16:=l.take (k*61)++List.replicate (l.length-k*61) 0
theorem length_ptW (l:List UInt16) (i:Nat):(ptW l i).length=min 61 (l.length-i*61):=by simp [ptW]
theorem length_upW (l:List UInt16) (k:Nat):(upW l k).length=l.length:=by simp [upW]; omega
theorem upW_zero (l:List UInt16):upW l 0=List.replicate l.length 0:=by simp [upW]
theorem upW_all (l:List UInt16) (k:Nat) (h:l.length≤k*61):upW l k=l:=by
 unfold upW
 rw [List.take_of_length_le h,Nat.sub_eq_zero_of_le h]
 simp
theorem upW_step (l:List UInt16) (k:Nat) (h:k*61<l.length):(upW l k).take (k*61)++ptW l k++(upW l k).drop (k*61+(ptW l k).length)=upW l (k+1):=by
 have hl:(l.take (k*61)).length=k*61:=by rw [List.length_take]; omega
 have e1:(upW l k).take (k*61)=l.take (k*61):=by
  unfold upW
  rw [List.take_append_of_le_length (by omega),List.take_of_length_le (by omega)]
 have e2:(upW l k).drop (k*61+(ptW l k).length)=List.replicate (l.length-(k+1)*61) 0:=by
  unfold upW
  rw [List.drop_append,List.drop_of_length_le (by omega),List.nil_append,hl,List.drop_replicate,length_ptW]
  congr 1
  omega
 rw [e1,e2]
 unfold upW ptW
 rw [show (k+1)*61=k*61+61 by omega,List.take_add]
theorem nums_step (l:List UInt16) (k:Nat) (h:k*61<l.length):(nums (upW l k)).take (k*61)++nums (ptW l k)++(nums (upW l k)).drop (k*61+(nums (ptW l k)).length)=nums (upW l (k+1)):=by
 have:=congrArg nums (upW_step l k h)
 simpa [nums,List.map_take,List.map_drop] using this
theorem nums_wvals (l:List UInt16):wvals l=nums l:=rfl
def RowOut (w:World) (l:List UInt16) (e:Ending) (w':World):Prop := ∃g,e = .returned (.tuple #[.slice (some ⟨g,0,none⟩) l.length l.length,.int .i64 0])∧RowV w' g 34 (nums l)∧w.heap.size≤g∧Below w.heap.size w w'
set_option maxHeartbeats 4000000 in
theorem row_yes {Pr:Nat→Prop} {w:World} {d:Nat} {D:Dsk.St} (hd:DIs Pr w d D) (hg:D.gone=false) {m:Nat} (hm:D.n=m) {A:Option Addr} {c:Nat} {l:List Nat} (ht:ToldV w A (ints l)) {W:List UInt16} (hW:W.length≤4096) (hl:l.length=pg W.length) (k:UInt8) (hk:k=4∨k=5)
  (h2 : ∀i,i<l.length→2≤l.getD i 0∧l.getD i 0<m∧D.says (l.getD i 0)=idxPage k (ptW W i)) :
  Calls Tryz.prog 138 #[.pointer (some ⟨d,0,none⟩),.int .u8 (k.toNat:Int),.slice A l.length c,.int .i64 (W.length:Int)] w (RowOut w W):=by
 have HD:=hid hd
 have HM:=hid hm
 have HT:=hid ht
 have H2:=hid h2
 have HL:=hid hl
 obtain ⟨n,hn⟩ : ∃n,n=W.length:=⟨_,rfl⟩
 have HN:=hid hn
 rw [← hn] at hW ⊢
 have hl68:l.length≤68:=by rw [HL.out,← hn]; exact pg_le hW
 have hmk:=run_make_words w n hW
 have r0:=alloc_rowV w 34 (nums (List.replicate n 0))
 have b0:=(Below.refl w.heap.size w).alloc (Nat.le_refl _) (.cells (nums (List.replicate n 0)).toArray 34)
 clear hd hm ht h2 hl hn
 go_enter Tryz.func138,Tryz.ntmps138
 go_upto_region 2 with (fail)
 have HR0:=hid (show RowV _ w.heap.size 34 (nums (upW W 0)) by rw [upW_zero,← HN.out]; exact r0)
 have HB0:=hid b0
 clear r0 b0 hmk
 obtain ⟨g,hgq⟩ : ∃g,g=w.heap.size:=⟨_,rfl⟩
 rw [← hgq] at HR0 ⊢
 have HG:=hid hgq
 generalize w.alloc (.cells (nums (List.replicate n 0)).toArray 34)=w1 at *
 clear hgq
 go_wp2_with fail
 go_loopw [21] (fun i wr => ∃j:Nat,j≤l.length∧i = .int .i64 (j:Int)∧Hid (RowV wr g 34 (nums (upW W j)))∧Hid (Below w.heap.size w wr)) (fun i _=>l.length-(Go.RowKit.intOf i).toNat)
 case atStart=>exact ⟨0,Nat.zero_le _,rfl,HR0,HB0⟩
 case round =>
  obtain ⟨j,hj,rfl,HR,HB⟩:=hrel
  clear HR0 HB0
  by_cases hlt:j<l.length
  ·have hji:(j:Int)<(l.length:Int):=by omega
   have hj0:(0:Int)≤(j:Int):=by omega
   obtain ⟨b1,o1,rfl,hb1,hc1⟩:=told_nat (HT.out.below HB.out) hlt
   have HX:=hid (H2.out j hlt)
   generalize l.getD j 0=x at *
   have h5 : ¬(x:Int)<2:=by have:=HX.out.1; omega
   have h6 : ¬(m:Int)≤(x:Int):=by have:=HX.out.2.1; omega
   have HLEN:=hid (show Calls Tryz.prog 20 #[.pointer (some ⟨d,0,none⟩)] wr fun e w'=>e = .returned (.int .i64 (m:Int))∧wr=w' from by
    have h:=Dsk.len_is (HD.out.below HB.out).is
    rw [HM.out] at h
    exact h)
   go_wp2_with fail
   refine HLEN.out.mono ?_
   rintro e w' ⟨rfl,rfl⟩
   have HRd:=HR
   have HBd:=HB
   clear HLEN HR HB
   go_wp2_with fail
   refine (Dsk.read_yes (HD.out.below HBd.out).is hg x (by have:=HX.out.2.1; have:=HM.out; omega)).mono ?_
   rintro e w3 ⟨g3,rfl,hlo3,hrow3,kz⟩
   have HR3:=hid (HRd.out.below HRd.out.lt kz)
   have HB3:=hid (HBd.out.trans (kz.mono HBd.out.size))
   have HG3:=hid (show Row w3 g3 (idxPage k (ptW W j)) by rw [← HX.out.2.2]; exact hrow3)
   clear hlo3 hrow3 kz HRd HBd
   go_wp2_with fail
   refine (Ix.decode_page k g3 0 128 (ptW W j) w3 ⟨hk,by rw [length_ptW]; omega⟩ HG3.out.has (Nat.le_refl _) (by decide)).mono ?_
   rintro e w4 ⟨v,rfl,hv,kz⟩
   obtain ⟨A4,c4,rfl,hWd,-⟩:=hv.told
   have HW4:=hid hWd
   have HR4:=hid (HR3.out.below HR3.out.lt kz)
   have HB4:=hid (HB3.out.trans (kz.mono HB3.out.size))
   clear hv hWd kz HR3 HB3 HG3
   obtain ⟨r,hr⟩ : ∃r,r=min 61 (n-j*61):=⟨_,rfl⟩
   have hjn:j*61<n:=by have h:=HL.out; rw [← HN.out] at h; rw [h] at hlt; unfold pg at hlt; omega
   have HRL:=hid (show (ptW W j).length=r∧r=min 61 (n-j*61)∧j*61<n from ⟨by rw [length_ptW,hr,HN.out],hr,hjn⟩)
   rw [HRL.out.1]
   clear hr
   go_wp2_with fail
   refine (part_uint16 j HRL.out.2.2 (Nat.le_refl _) (by unfold maxLen; omega) hW).mono ?_
   rintro e w' ⟨rfl,rfl⟩
   rw [← HRL.out.2.1]
   obtain ⟨b4,o4,rfl,hH4⟩:=HW4.out.ws.has (by rw [nums_wvals]; simp only [nums,List.length_map]; rw [HRL.out.1]; have:=HRL.out.2; omega)
   have hsz:(Tryz.prog.info? 34).map (·.size)=some 1:=by kernel_rfl
   have hcp:=run_copy_row (P:=Tryz.prog) w4 134 134 3 34 g (j*61) r (n-j*61) ⟨b4,o4,none⟩ r c4 (nums (upW W j)).toArray 34 (nums (ptW W j)) Tryz.underlying134 hsz HR4.out
    (by simp only [nums,List.length_map]; rw [HRL.out.1]; exact (Nat.min_self r).symm)
    (fun q v hq=>by rw [add_plain]; exact hH4.cellAt hq)
    (by simp only [nums,List.length_map,List.size_toArray]; rw [length_upW,HRL.out.1,← HN.out]; have:=HRL.out.2; omega)
    (fun v hv=>by obtain ⟨z,_,rfl⟩:=List.mem_map.1 hv; rfl)
   rw [show (nums (upW W j)).toArray.toList=nums (upW W j) from rfl,nums_step W j (by rw [← HN.out]; exact HRL.out.2.2)] at hcp
   rw [show (nums (ptW W j)).length=r by simp only [nums,List.length_map]; exact HRL.out.1] at hcp
   have HC:=hid (And.intro (show RowV (w4.setRow g (nums (upW W (j+1))).toArray) g 34 (nums (upW W (j+1))) from setRow_heap w4 g _ _ _ _ HR4.out) (HB4.out.trans (Su.setRow_below (B:=w.heap.size) (nums (upW W (j+1))).toArray (Nat.le_of_eq HG.out.symm))))
   clear hsz hH4 HW4 HB4 HR4 hjn
   go_wp2_with fail
   clear hcp
   go_roundw
   case rel=>exact ⟨j+1,by omega,by go_num,HC⟩
   case measure=>simp [Go.RowKit.intOf]; omega
  ·have hji : ¬(j:Int)<(l.length:Int):=by omega
   obtain rfl:j=l.length:=by omega
   have HZ:=hid (show RowV wr g 34 (nums W) by
    have h:=HR.out
    rwa [upW_all W l.length (by rw [HL.out]; unfold pg; omega)] at h)
   clear HR
   go_wp2_with fail
   go_ret2
   exact ⟨g,by simp [HN.out],HZ.out,Nat.le_of_eq HG.out.symm,HB.out⟩
end Go.Proofs.YtogchamogbendaaGreat.Bs
namespace Go.Proofs.YtogchamogbendaaGreat.Bs
open Lib (hid)
open Go.RowKit Oct Mv Tl Pk Pl Go.Maps Go.ChangeMaps
open Dsk (dT)
open Su (Sup nth scells scell)
open Ix (idxPage idxBody wvals Wd OwnW DecYes)
theorem row4 {Pr:Nat→Prop} {w:World} {d:Nat} {D:Dsk.St} (hd:DIs Pr w d D) (hg:D.gone=false) {m n:Nat} (hm:D.n=m) {A:Option Addr} {c:Nat} {l:List Nat} (ht:ToldV w A (ints l)) {W:List UInt16} (hn:W.length=n) (hW:n≤4096) {q:Nat} (hq:l.length=q) (hl:q=pg n)
  (h2 : ∀i,i<l.length→2≤l.getD i 0∧l.getD i 0<m∧D.says (l.getD i 0)=idxPage 4 (ptW W i)) :
  Calls Tryz.prog 138 #[.pointer (some ⟨d,0,none⟩),.int .u8 4,.slice A q c,.int .i64 (n:Int)] w fun e w' => ∃g,e = .returned (.tuple #[.slice (some ⟨g,0,none⟩) n n,.int .i64 0])∧RowV w' g 34 (nums W)∧w.heap.size≤g∧Below w.heap.size w w':=by
 subst hn hq
 exact row_yes hd hg hm ht hW hl 4 (.inl rfl) h2
theorem row5 {Pr:Nat→Prop} {w:World} {d:Nat} {D:Dsk.St} (hd:DIs Pr w d D) (hg:D.gone=false) {m n:Nat} (hm:D.n=m) {A:Option Addr} {c:Nat} {l:List Nat} (ht:ToldV w A (ints l)) {W:List UInt16} (hn:W.length=n) (hW:n≤4096) {q:Nat} (hq:l.length=q) (hl:q=pg n)
  (h2 : ∀i,i<l.length→2≤l.getD i 0∧l.getD i 0<m∧D.says (l.getD i 0)=idxPage 5 (ptW W i)) :
  Calls Tryz.prog 138 #[.pointer (some ⟨d,0,none⟩),.int .u8 5,.slice A q c,.int .i64 (n:Int)] w fun e w' => ∃g,e = .returned (.tuple #[.slice (some ⟨g,0,none⟩) n n,.int .i64 0])∧RowV w' g 34 (nums W)∧w.heap.size≤g∧Below w.heap.size w w':=by
 subst hn hq
 exact row_yes hd hg hm ht hW hl 5 (.inr rfl) h2
theorem results_cell3 {fn:Func} {p u v:Tmp} {ty:TypeId} (h:fn.results = #[.cell p ty,.tmp u,.tmp v]) (tmps:Array Value) (P:Program) (w:World) :
  (results fn tmps).run P w =
   ((asAddr (tmps.getD p undef)).run P w).andThen fun a w₁=>((loadVar ty a).run P w₁).andThen fun z w₂ => .ok (.tuple #[z,tmps.getD u undef,tmps.getD v undef]) w₂:=by
 simp only [results,h]
 simp [Sem.run_bind,Result.andThen]
theorem roots_take {s:Sup} {l2:List Nat} {q:Nat} (hq:l2.length=q) (h1:1≤q) (h2:q≤2) (h : ∀j,j<2→nth s (2+j)=l2.getD j 0):ints l2++(ints [nth s 2,nth s 3]).drop q=ints [nth s 2,nth s 3]:=by
 have e0:nth s 2=l2.getD 0 0:=h 0 (by omega)
 have e1:nth s 3=l2.getD 1 0:=h 1 (by omega)
 subst hq
 rw [e0,e1]
 match l2,h1,h2 with
 | [a],_,_=>rfl
 | [a,b],_,_=>rfl
 | a :: b :: c :: l,_,h2=>simp at h2
theorem as16_eq {w:World} {A:Option Addr} {c n:Nat} {l:List Nat} (h:ToldV w A (kv .u16 l)) (hn:l.length=n) (hl:n≤4096) (hb : ∀x∈l,x<65536) :
  Calls Tryz.prog 139 #[.slice A n c] w fun e w' => ∃g,e = .returned (.slice (some ⟨g,0,none⟩) n n)∧RowV w' g 3 (ints l)∧w.heap.size≤g∧Below w.heap.size w w':=by
 subst hn
 exact as_int_uint16 h hl hb
theorem as32_eq {w:World} {A:Option Addr} {c n:Nat} {l:List Nat} (h:ToldV w A (kv .u32 l)) (hn:l.length=n) (hl:n≤4096) (hb : ∀x∈l,x<4294967296) :
  Calls Tryz.prog 137 #[.slice A n c] w fun e w' => ∃g,e = .returned (.slice (some ⟨g,0,none⟩) n n)∧RowV w' g 3 (ints l)∧w.heap.size≤g∧Below w.heap.size w w':=by
 subst hn
 exact as_int_uint32 h hl hb
structure Pages (D:Dsk.St) (s:Sup) (l1 l2:List Nat) (W:List UInt16):Prop where
 n:W.length=D.n
 hi:D.n≤4096
 lo:16≤D.n
 len1:l1.length=pg D.n
 len2:l2.length=pg (pg D.n)
 root : ∀j,j<2→nth s (2+j)=l2.getD j 0
 dir : ∀i,i<l2.length→2≤l2.getD i 0∧l2.getD i 0<D.n∧D.says (l2.getD i 0)=idxPage 4 (ptW (l1.map UInt16.ofNat) i)
 cnt : ∀i,i<l1.length→2≤l1.getD i 0∧l1.getD i 0<D.n∧D.says (l1.getD i 0)=idxPage 5 (ptW W i)
def PagesOut (w:World) (l1 l2:List Nat) (W:List UInt16) (e:Ending) (w':World):Prop := ∃g1 g3 c3 g,e = .returned (.tuple #[.agg #[.slice (some ⟨g1,0,none⟩) l1.length l1.length,.slice (some ⟨g3,0,none⟩) l2.length c3],.slice (some ⟨g,0,none⟩) W.length W.length,.int .i64 0])∧RowV w' g1 3 (ints l1)∧(∃sp,RowV w' g3 3 (ints l2++sp))∧RowV w' g 34 (nums W)∧w.heap.size≤g1∧w.heap.size≤g3∧w.heap.size≤g∧Below w.heap.size w w'
theorem tail2 (b k:Nat) (hk:k≤2) : ∃x:Nat,(∀w,(Instr.slice 51 (.slice (some ⟨b,0,none⟩) 2 2) (some (.int .i64 (k:Int))) none none).run Tryz.prog w = .ok (.slice (some ⟨b,x,none⟩) (2-k) (2-k)) w)∧(k<2→x=k):=by
 have ht:Tryz.prog.underlying 51 = some (.slice (Tryz.prog.elem 51)):=by
  simp [Program.elem,Tryz.underlying51]
 have he:Tryz.prog.elem 51 = 3 := by simp [Program.elem,Tryz.underlying51]
 have hz : ∀w,(Go.sizeOf 3).run Tryz.prog w = .ok 1 w:=fun _=>by kernel_rfl
 have key : ∀w,(Instr.slice 51 (.slice (some ⟨b,0,none⟩) 2 2) (some (.int .i64 (k:Int))) none none).run Tryz.prog w = .ok (.slice (if 2=k then some ⟨b,0,none⟩ else some ⟨b,0+k,none⟩) (2-k) (2-k)) w:=fun w=>by
  rw [run_slice_l w 51 _ 2 2 ht .i64 (k:Int) (by omega) (by omega),he,hz]
  simp only [Result.andThen,sliced,Int.toNat_natCast,Nat.mul_one,Option.map_some,add_plain]
 by_cases h:2=k
 ·exact ⟨0,fun w=>by rw [key,if_pos h],fun hk=>by omega⟩
 ·exact ⟨k,fun w=>by rw [key,if_neg h,Nat.zero_add],fun _=>rfl⟩
theorem pg_small {n:Nat} (h1:16≤n) (h2:n≤4096):1≤pg n∧pg n≤68∧1≤pg (pg n)∧pg (pg n)≤2:=by unfold pg; omega
set_option maxHeartbeats 4000000 in
theorem pagesOf_any {Pr:Nat→Prop} {w:World} {d:Nat} {D:Dsk.St} (hd:DIs Pr w d D) (hg:D.gone=false) {s:Sup} (hs:Su.Ok s) {l1 l2:List Nat} {W:List UInt16} (hp:Pages D s l1 l2 W) :
  Calls Tryz.prog 75 #[.pointer (some ⟨d,0,none⟩),.agg (scells s).toArray] w (PagesOut w l1 l2 W):=by
 have HD:=hid hd
 have HP:=hid hp
 have HOK:=hid hs
 obtain ⟨n,hn⟩ : ∃n,D.n=n:=⟨_,rfl⟩
 have HN:=hid hn
 obtain ⟨p1,p2,p3,p4⟩:=pg_small hp.lo hp.hi
 rw [hn] at p1 p2 p3 p4
 have hn4:n≤4096:=by rw [← hn]; exact hp.hi
 have r3:=alloc_rowV w 69 (scells s)
 have b3:=(Below.refl w.heap.size w).alloc (Nat.le_refl _) (.cells (scells s).toArray 69)
 have hz:=sheet_zero
 have hst:=run_storeCells_new (P:=Tryz.prog) w 69 #[(.int .u64 0),(.int .u32 0),(.int .u32 0),(.int .u32 0),(.int .u32 0),(.int .u32 0),(.int .u32 0),(.int .u32 0),(.int .u32 0),(.int .u32 0),(.int .u64 0),(.int .u64 0),(.int .u64 0),(.int .u64 0),(.int .u64 0),(.int .u64 0),(.int .u64 0),(.int .u64 0)] (scells s).toArray (Su.size_scells _) (by simp [Su.length_scells]) (Su.one_scells _)
 have hlc:=Su.length_scells s
 clear hd hp hs hn
 go_enter Tryz.func75,Tryz.ntmps75
 go_upto_region 1 with (fail)
 clear hst hlc hz
 have r4:=alloc_rowV (w.alloc (.cells (scells s).toArray 69)) 65 [.slice none 0 0,.slice none 0 0]
 have b4:=(Below.refl (w.alloc (.cells (scells s).toArray 69)).heap.size _).alloc (Nat.le_refl _) (.cells #[.slice none 0 0,.slice none 0 0] 65)
 have s4:(w.alloc (.cells (scells s).toArray 69)).heap.size=w.heap.size+1:=by simp
 have HR3:=hid (r3.below r3.lt b4)
 rw [s4] at r4 b4
 have HR4:=hid r4
 have HB4:=hid (b3.trans (b4.mono (by omega)))
 obtain ⟨x3,hx3⟩ : ∃x,x=w.heap.size:=⟨_,rfl⟩
 rw [← hx3] at HR3 HR4 ⊢
 have HX:=hid hx3
 clear r3 b3 r4 b4 s4 hx3
 generalize (w.alloc (.cells (scells s).toArray 69)).alloc (.cells #[.slice none 0 0,.slice none 0 0] 65)=w2 at *
 have HT2:=hid (show ToldV w2 (some ⟨x3,2,none⟩) (kv .u32 [nth s 2,nth s 3]) from .inr ⟨x3,2,rfl,fun i hi=>by
  have h:=HR3.out.cellAt (Su.scells_at s (2+i) (by simp [kv] at hi; omega))
  rw [h,Su.scell_small _ _ (by omega) (by simp [kv] at hi; omega)]
  rcases i with _ | _ | i
  ·rfl
  ·rfl
  ·simp [kv] at hi; omega⟩)
 go_wp2_with fail
 refine (as32_eq (l := [nth s 2,nth s 3]) (n:=2) HT2.out rfl (by omega) (fun x hx=>by
  simp only [List.mem_cons,List.not_mem_nil,or_false] at hx
  rcases hx with rfl | rfl
  ·exact HOK.out.small 2 (by omega) (by omega)
  ·exact HOK.out.small 3 (by omega) (by omega))).mono ?_
 rintro e w3 ⟨gd,rfl,rd,lod,kz⟩
 have HRD:=hid rd
 have HR4':=hid (HR4.out.below HR4.out.lt kz)
 have HB3:=hid (HB4.out.trans (kz.mono HB4.out.size))
 have HLO:=hid (show w.heap.size≤gd from Nat.le_trans HB4.out.size lod)
 clear rd lod kz HR4 HB4 HT2 HR3
 go_wp2_with fail
 have HLEN:=hid (show ∀wr,Below w.heap.size w wr→Calls Tryz.prog 20 #[.pointer (some ⟨d,0,none⟩)] wr fun e w'=>e = .returned (.int .i64 (n:Int))∧wr=w' from fun wr k=>by
  have h:=Dsk.len_is (HD.out.below k).is
  rw [HN.out] at h
  exact h)
 refine (HLEN.out w3 HB3.out).mono ?_
 rintro e w' ⟨rfl,rfl⟩
 go_wp2_with fail
 refine (pages_eq n (by omega) _).mono ?_
 rintro e w' ⟨rfl,rfl⟩
 go_wp2_with fail
 refine (pages_eq (pg n) (by omega) _).mono ?_
 rintro e w' ⟨rfl,rfl⟩
 obtain ⟨q,hq⟩ : ∃q,q=pg (pg n):=⟨_,rfl⟩
 obtain ⟨m,hm⟩ : ∃m,m=pg n:=⟨_,rfl⟩
 have HQ:=hid (And.intro hq hm)
 rw [← hq] at p3 p4 ⊢
 rw [← hm] at p1 p2 ⊢
 clear hq hm
 obtain ⟨x,hsl,hxq⟩:=tail2 gd q p4
 have HXQ:=hid hxq
 clear hxq
 obtain ⟨zl,hz⟩ : ∃zl,zl=2-q:=⟨_,rfl⟩
 rw [← hz] at hsl
 have HZ:=hid hz
 have hz2:zl≤1:=by omega
 clear hz
 go_wp2_with fail
 go_loopw [28] (fun i wr => ∃k:Nat,k≤zl∧i = .int .i64 (k:Int)∧Hid (wr=w3)) (fun i _=>zl-(Go.RowKit.intOf i).toNat)
 case atStart=>exact ⟨0,Nat.zero_le _,rfl,hid rfl⟩
 case round =>
  obtain ⟨k,hk,rfl,HE⟩:=hrel
  obtain rfl:=HE.out
  clear HE
  by_cases hlt:k<zl
  ·have hki:(k:Int)<(zl:Int):=by omega
   have hge:(0:Int)≤(k:Int):=by omega
   have hcx:=HRD.out.cellAt (show (ints [nth s 2,nth s 3])[1]?=some (.int .i64 (nth s 3:Int)) from rfl)
   have hq1:q=1:=by have:=HZ.out; omega
   have hx1:x=1:=by rw [HXQ.out (by omega),hq1]
   have hk1:k=0:=by omega
   have h30:nth s 3=0:=by
    have h1:=HP.out.root 1 (by omega)
    have h2:=HP.out.len2
    rw [HN.out,← HQ.out.1,hq1] at h2
    rw [show 2+1=3 from rfl] at h1
    rw [h1,List.getD_eq_getElem?_getD,List.getElem?_eq_none (by omega)]
    rfl
   subst hk1
   rw [h30] at hcx
   replace hcx:wr.cell? ⟨gd,1,none⟩=some (.int .i64 0):=hcx
   subst hx1
   clear h30 hq1
   go_wp2_with fail
   go_roundw
   case rel=>exact ⟨1,by omega,by go_num,by first | exact hid rfl | exact hid trivial⟩
   case measure=>simp [Go.RowKit.intOf]; omega
  ·have hki : ¬(k:Int)<(zl:Int):=by omega
   have hq0:(0:Int)≤(q:Int):=by omega
   have hq2:(q:Int)≤2:=by omega
   clear hsl hlt hk
   have HT3:=hid (show ToldV wr (some ⟨gd,0,none⟩) (ints l2) from .inr ⟨gd,0,rfl,fun i hi=>by
    have hi2:i<l2.length:=by simpa [ints] using hi
    have h2:=HP.out.len2
    rw [HN.out,← HQ.out.1] at h2
    have hr:=HP.out.root i (by omega)
    have h:wr.cell? ⟨gd,0+i,none⟩=some (.int .i64 (nth s (2+i):Int)):=by
     rw [Nat.zero_add]
     refine HRD.out.cellAt ?_
     rcases (show i=0∨i=1 by omega) with rfl | rfl
     ·rfl
     ·rfl
    rw [h,hr]
    simp [ints,hi2]⟩)
   go_wp2_with fail
   refine (row4 (HD.out.below HB3.out) hg HN.out HT3.out (W:=l1.map UInt16.ofNat) (n:=m) ?e1 (by omega) (q:=q) ?e2 ?e3 ?e4).mono ?_
   case e1=>rw [List.length_map,HP.out.len1,HN.out,HQ.out.2]
   case e2=>rw [HP.out.len2,HN.out,HQ.out.1]
   case e3=>rw [HQ.out.1,HQ.out.2]
   case e4 =>
    intro i hi
    have h:=HP.out.dir i hi
    rw [HN.out] at h
    exact h
   rintro e w4 ⟨ga,rfl,ra,loa,kz⟩
   have HLQ:=hid (show l1.length=m∧l2.length=q∧(∀x∈l1,x<65536) from ⟨by rw [HP.out.len1,HN.out,HQ.out.2],by rw [HP.out.len2,HN.out,HQ.out.1],fun x hx=>by
    obtain ⟨i,hi,rfl⟩:=List.mem_iff_getElem.1 hx
    have h:=(HP.out.cnt i hi).2.1
    rw [List.getD_eq_getElem?_getD,List.getElem?_eq_getElem hi,HN.out] at h
    have h':l1[i]<n:=h
    omega⟩)
   have HRA:=hid (show ToldV w4 (some ⟨ga,0,none⟩) (kv .u16 l1) by
    have e:nums (l1.map UInt16.ofNat)=kv .u16 l1:=by
     rw [← kv_nums,List.map_map]
     congr 1
     conv=>rhs; rw [← List.map_id l1]
     refine List.map_congr_left fun x hx => ?_
     have:=HLQ.out.2.2 x hx
     simp
     omega
    rw [← e]
    exact ra.has.told)
   have HR4:=hid (HR4'.out.below HR4'.out.lt kz)
   have HRD4:=hid (HRD.out.below HRD.out.lt kz)
   have HB4:=hid (HB3.out.trans (kz.mono HB3.out.size))
   have HT4:=hid (HT3.out.below kz)
   clear ra loa kz HR4' HRD HB3 HT3
   go_upto_region 13 with (fail)
   have hz:=sheet_zero
   refine Inv2.wp_region_inv (fun b a wy => ∃(z:Nat→Value) (z14:Value) (z50:Value) (z54:Value),a=⟨(List.toArray (Value.pointer (some ⟨d,0,none⟩) :: Value.agg (Su.scells s).toArray :: undef :: Value.pointer (some ⟨x3,0,none⟩) :: Value.pointer (some ⟨x3+1,0,none⟩) :: u5 :: u6 :: Value.slice (some ⟨gd,0,none⟩) 2 2 :: Value.int IntKind.i64 ↑m :: Value.int IntKind.i64 ↑q :: undef :: u11 :: Value.slice (some ⟨ga,0,none⟩) m m :: Value.int IntKind.i64 0 :: z14 :: undef :: Value.pointer (some ⟨x3,2,none⟩) :: Value.slice (some ⟨x3,2,none⟩) 2 8 :: Value.slice (some ⟨gd,0,none⟩) 2 2 :: Value.pointer (some ⟨d,0,none⟩) :: Value.int IntKind.i64 ↑n :: Value.int IntKind.i64 ↑m :: Value.int IntKind.i64 ↑m :: Value.int IntKind.i64 ↑q :: Value.slice (some ⟨gd,0,none⟩) 2 2 :: Value.int IntKind.i64 ↑q :: Value.slice (some ⟨gd,x,none⟩) zl zl :: Value.int IntKind.i64 ↑zl :: Value.int IntKind.i64 ↑k :: Value.bool false :: u30 :: u31 :: u32 :: u33 :: u34 :: u35 :: Value.tuple #[Value.slice (some ⟨ga,0,none⟩) m m,Value.int IntKind.i64 0] :: Value.pointer (some ⟨d,0,none⟩) :: Value.slice (some ⟨gd,0,none⟩) 2 2 :: Value.int IntKind.i64 ↑q :: Value.slice (some ⟨gd,0,none⟩) q 2 :: Value.int IntKind.i64 ↑m :: Value.tuple #[Value.slice (some ⟨ga,0,none⟩) m m,Value.int IntKind.i64 0] :: Value.slice (some ⟨ga,0,none⟩) m m :: Value.int IntKind.i64 0 :: Value.int IntKind.i64 0 :: Value.bool false :: undef :: undef :: (z 49) :: z50 :: (z 51) :: (z 52) :: (z 53) :: z54 :: undef :: undef :: undef :: undef :: undef :: undef :: undef :: undef :: undef :: undef :: undef :: undef :: undef :: undef :: undef :: [])),[]⟩∧Hid ((b 0=true→(z 49)=Value.slice (some ⟨ga,0,none⟩) m m)∧(b 2=true→(z 51)=Value.slice (some ⟨gd,0,none⟩) 2 2)∧(b 3=true→(z 52)=Value.int IntKind.i64 ↑q)∧(b 4=true→(z 53) = .slice (some ⟨gd,0,none⟩) q 2))∧Hid (Below w4.heap.size w4 wy)∧Hid (∃g1 r,(b 1=true→z50 = .slice (some ⟨g1,0,none⟩) m m∧w4.heap.size≤g1∧RowV wy g1 3 (ints l1))∧(b 5=true→z54 = .agg #[.slice (some ⟨g1,0,none⟩) m m,.slice (some ⟨gd,0,none⟩) q 2]∧b 1=true)∧(b 6=true→z14 = .pointer (some ⟨r,0,none⟩)∧w4.heap.size≤r)∧(b 6=true→b 7=false→RowV wy r 65 [.slice none 0 0,.slice none 0 0])∧(b 7=true→b 5=true∧b 6=true∧RowV wy r 65 [.slice (some ⟨g1,0,none⟩) m m,.slice (some ⟨gd,0,none⟩) q 2]))) (by kernel_rfl) (by kernel_rfl) ?startP ?stepsP ?doneP
   case startP =>
    intro b hb
    refine ⟨fun s=>undef,undef,undef,undef,rfl,hid ⟨?_,?_,?_,?_⟩,hid ((show Still w4 w4.drew from ⟨rfl,rfl,rfl,rfl⟩).below _),hid (⟨0,0,(fun e=>by rw [hb _ (by decide)] at e; cases e),(fun e=>by rw [hb _ (by decide)] at e; cases e),(fun e=>by rw [hb _ (by decide)] at e; cases e),(fun e=>by rw [hb _ (by decide)] at e; cases e),(fun e=>by rw [hb _ (by decide)] at e; cases e)⟩)⟩
    all_goals (intro e; first | rfl | (rw [hb _ (by decide)] at e; cases e))
   case stepsP =>
    refine ⟨?_,?_,?_,?_,?_,?_,?_,?_,trivial⟩
    ·rintro b a wy hb hd ⟨z,z14,z50,z54,rfl,HV,HW,HX⟩ K hK
     clear hd
     go_simp
     have V:=HV.out
     exact hK _ _ ⟨fun s=>if s=49 then Value.slice (some ⟨ga,0,none⟩) m m else z s,_,_,_,rfl,hid ⟨fun _=>rfl,V.2.1,V.2.2.1,V.2.2.2⟩,HW,HX⟩
    ·rintro b a wy hb hd ⟨z,z14,z50,z54,rfl,HV,HW,HX⟩ K hK
     simp [Region.binds] at hd
     have e0:(z 49)=Value.slice (some ⟨ga,0,none⟩) m m:=(HV.out.1) (by simp [hd])
     clear hd
     obtain ⟨g1,r,x1,x2,x3,x4,x5⟩:=HX.out
     go_simp
     go_at_call 139
     refine (as16_eq (l:=l1) (n:=m) (HRA.out.below HW.out) HLQ.out.1 (by omega) HLQ.out.2.2).mono ?_
     rintro e wz ⟨g,rfl,hg,hlo,kz⟩
     try go_simp
     have V:=HV.out
     exact hK _ _ ⟨fun s=>if s=49 then Value.slice (some ⟨ga,0,none⟩) m m else z s,_,_,_,rfl,hid ⟨fun _=>rfl,V.2.1,V.2.2.1,V.2.2.2⟩,hid (HW.out.trans (kz.mono HW.out.size)),hid ⟨g,r,fun _=>⟨rfl,Nat.le_trans HW.out.size hlo,hg⟩,fun e=>absurd (hb.symm.trans (x2 e).2) (by decide),x3,fun e f=>(x4 e f).below (x4 e f).lt kz,fun e=>absurd (hb.symm.trans (x2 (x5 e).1).2) (by decide)⟩⟩
    ·rintro b a wy hb hd ⟨z,z14,z50,z54,rfl,HV,HW,HX⟩ K hK
     clear hd
     go_simp
     have V:=HV.out
     exact hK _ _ ⟨fun s=>if s=51 then Value.slice (some ⟨gd,0,none⟩) 2 2 else z s,_,_,_,rfl,hid ⟨V.1,fun _=>rfl,V.2.2.1,V.2.2.2⟩,HW,HX⟩
    ·rintro b a wy hb hd ⟨z,z14,z50,z54,rfl,HV,HW,HX⟩ K hK
     clear hd
     go_simp
     have V:=HV.out
     exact hK _ _ ⟨fun s=>if s=52 then Value.int IntKind.i64 ↑q else z s,_,_,_,rfl,hid ⟨V.1,V.2.1,fun _=>rfl,V.2.2.2⟩,HW,HX⟩
    ·rintro b a wy hb hd ⟨z,z14,z50,z54,rfl,HV,HW,HX⟩ K hK
     simp [Region.binds] at hd
     have e2:(z 51)=Value.slice (some ⟨gd,0,none⟩) 2 2:=(HV.out.2.1) (by simp [hd])
     have e3:(z 52)=Value.int IntKind.i64 ↑q:=(HV.out.2.2.1) (by simp [hd])
     clear hd
     go_simp
     have V:=HV.out
     exact hK _ _ ⟨fun s=>if s=53 then .slice (some ⟨gd,0,none⟩) q 2 else if s=51 then Value.slice (some ⟨gd,0,none⟩) 2 2 else if s=52 then Value.int IntKind.i64 ↑q else z s,_,_,_,rfl,hid ⟨V.1,fun _=>rfl,fun _=>rfl,fun _=>rfl⟩,HW,HX⟩
    ·rintro b a wy hb hd ⟨z,z14,z50,z54,rfl,HV,HW,HX⟩ K hK
     simp [Region.binds] at hd
     have dd1:b 1=true:=by simp [hd]
     have e4:(z 53) = .slice (some ⟨gd,0,none⟩) q 2:=(HV.out.2.2.2) (by simp [hd])
     clear hd
     obtain ⟨g1,r,x1,x2,x3,x4,x5⟩:=HX.out
     obtain ⟨zz,y1,y2⟩:=x1 dd1
     subst zz
     go_simp
     have V:=HV.out
     exact hK _ _ ⟨fun s=>if s=53 then .slice (some ⟨gd,0,none⟩) q 2 else z s,_,_,_,rfl,hid ⟨V.1,V.2.1,V.2.2.1,fun _=>rfl⟩,HW,hid ⟨g1,r,fun _=>⟨rfl,y1,y2⟩,fun _=>⟨rfl,dd1⟩,x3,x4,fun e=>absurd (hb.symm.trans (x5 e).1) (by decide)⟩⟩
    ·rintro b a wy hb hd ⟨z,z14,z50,z54,rfl,HV,HW,HX⟩ K hK
     clear hd
     obtain ⟨g1,r,x1,x2,x3,x4,x5⟩:=HX.out
     go_simp
     have B2:=(Below.refl wy.heap.size wy).alloc (Nat.le_refl _) (.cells #[.slice none 0 0,.slice none 0 0] 65)
     have R2:=alloc_rowV wy 65 [.slice none 0 0,.slice none 0 0]
     have V:=HV.out
     exact hK _ _ ⟨fun s=>z s,_,_,_,rfl,hid ⟨V.1,V.2.1,V.2.2.1,V.2.2.2⟩,hid (HW.out.trans (B2.mono HW.out.size)),hid ⟨g1,wy.heap.size,fun e=>⟨(x1 e).1,(x1 e).2.1,(x1 e).2.2.below (x1 e).2.2.lt B2⟩,x2,fun _=>⟨rfl,HW.out.size⟩,fun _ _=>R2,fun e=>absurd (hb.symm.trans (x5 e).2.1) (by decide)⟩⟩
    ·rintro b a wy hb hd ⟨z,z14,z50,z54,rfl,HV,HW,HX⟩ K hK
     simp [Region.binds] at hd
     have dd6:b 6=true:=by simp [hd]
     have dd5:b 5=true:=by simp [hd]
     clear hd
     obtain ⟨g1,r,x1,x2,x3,x4,x5⟩:=HX.out
     obtain ⟨zz,d1⟩:=x2 dd5
     subst zz
     obtain ⟨zz,y1,y2⟩:=x1 d1
     subst zz
     obtain ⟨zz,y3⟩:=x3 dd6
     subst zz
     have hr:=x4 dd6 hb
     have q0:=hr.cellAt (i:=0) rfl
     have q1:=hr.cellAt (i:=1) rfl
     have f0:=hr.free 0
     have f1:=hr.free 1
     have HA3:=hid ((hr.set 0 (.slice (some ⟨g1,0,none⟩) m m)).set 1 (.slice (some ⟨gd,0,none⟩) q 2))
     have HU:=hid ((ButL.set wy r 0 (.slice (some ⟨g1,0,none⟩) m m)).trans (ButL.set _ r 1 (.slice (some ⟨gd,0,none⟩) q 2)))
     have HY2:=hid (y2.block (HU.out.block _ y2.lt (by simp; exact row_ne y2 hr (by decide))))
     have HY1:=hid (And.intro y1 y3)
     have HDD:=hid (And.intro d1 (And.intro dd5 dd6))
     clear x1 x2 x3 x4 x5 y1 y2 y3 hr d1 dd5 dd6 HX
     go_simp
     have HW7:=hid (HW.out.trans (HU.out.below (B:=w4.heap.size) (by simp; exact HY1.out.2) HW.out.size))
     have V:=HV.out
     exact hK _ _ ⟨fun s=>z s,_,_,_,rfl,hid ⟨V.1,V.2.1,V.2.2.1,V.2.2.2⟩,HW7,hid ⟨g1,r,fun _=>⟨rfl,HY1.out.1,HY2.out⟩,fun _=>⟨rfl,HDD.out.1⟩,fun _=>⟨rfl,HY1.out.2⟩,fun _ e=>(by cases e),fun _=>⟨HDD.out.2.1,HDD.out.2.2,HA3.out⟩⟩⟩
   case doneP =>
    rintro b a wy hb ⟨z,z14,z50,z54,rfl,HV,HW,HX⟩
    have e0:=(HV.out.1) (hb 0)
    have e2:=(HV.out.2.1) (hb 2)
    have e3:=(HV.out.2.2.1) (hb 3)
    have e4:=(HV.out.2.2.2) (hb 4)
    simp only [e0,e2,e3,e4]
    clear HV e0 e2 e3 e4
    obtain ⟨g1,r,x1,x2,x3,_,x5⟩:=HX.out
    obtain ⟨zz,_⟩:=x2 (hb 5)
    subst zz
    obtain ⟨zz,y1,y2⟩:=x1 (hb 1)
    subst zz
    obtain ⟨zz,y3⟩:=x3 (hb 6)
    subst zz
    have HR5:=hid (x5 (hb 7)).2.2
    have HY:=hid (And.intro y1 (And.intro y2 y3))
    clear x1 x2 x3 x5 y1 y2 y3 hb HX
    have HB5:=hid (HB4.out.trans (HW.out.mono HB4.out.size))
    have HX4:=hid (HR4.out.below HR4.out.lt HW.out)
    have HRD5:=hid (HRD4.out.below HRD4.out.lt HW.out)
    have HT5:=hid (HT4.out.below HW.out)
    have HS5:=hid (show w.heap.size≤w4.heap.size from HB4.out.size)
    clear HW HR4 HRD4 HB4 HT4 hz
    obtain ⟨w5,hw5⟩ : ∃x,x=wy:=⟨_,rfl⟩
    subst hw5
    obtain ⟨x4,hx4⟩ : ∃x,x=x3+1:=⟨_,rfl⟩
    rw [← hx4] at HX4 ⊢
    have HXX:=hid hx4
    clear hx4
    go_upto_region 14 with (fail)
    have HE:=hid (show W.length=n∧m=pg n∧(∀i,i<l1.length→2≤l1.getD i 0∧l1.getD i 0<n∧D.says (l1.getD i 0)=idxPage 5 (ptW W i)) from ⟨by rw [HP.out.n,HN.out],HQ.out.2,fun i hi=>by
     have h:=HP.out.cnt i hi
     rw [HN.out] at h
     exact h⟩)
    refine Inv2.wp_region_inv (fun b a wy => ∃(z:Nat→Value) (z15:Value) (z55:Value) (z61:Value) (z62:Value),a=⟨(List.toArray (Value.pointer (some ⟨d,0,none⟩) :: Value.agg (Su.scells s).toArray :: undef :: Value.pointer (some ⟨x3,0,none⟩) :: Value.pointer (some ⟨x4,0,none⟩) :: u5 :: u6 :: Value.slice (some ⟨gd,0,none⟩) 2 2 :: Value.int IntKind.i64 ↑m :: Value.int IntKind.i64 ↑q :: undef :: u11 :: Value.slice (some ⟨ga,0,none⟩) m m :: (z 13) :: Value.pointer (some ⟨r,0,none⟩) :: z15 :: Value.pointer (some ⟨x3,2,none⟩) :: Value.slice (some ⟨x3,2,none⟩) 2 8 :: Value.slice (some ⟨gd,0,none⟩) 2 2 :: Value.pointer (some ⟨d,0,none⟩) :: Value.int IntKind.i64 ↑n :: Value.int IntKind.i64 ↑m :: Value.int IntKind.i64 ↑m :: Value.int IntKind.i64 ↑q :: Value.slice (some ⟨gd,0,none⟩) 2 2 :: Value.int IntKind.i64 ↑q :: Value.slice (some ⟨gd,x,none⟩) zl zl :: Value.int IntKind.i64 ↑zl :: Value.int IntKind.i64 ↑k :: Value.bool false :: u30 :: u31 :: u32 :: u33 :: u34 :: u35 :: Value.tuple #[Value.slice (some ⟨ga,0,none⟩) m m,Value.int IntKind.i64 0] :: Value.pointer (some ⟨d,0,none⟩) :: Value.slice (some ⟨gd,0,none⟩) 2 2 :: Value.int IntKind.i64 ↑q :: Value.slice (some ⟨gd,0,none⟩) q 2 :: Value.int IntKind.i64 ↑m :: Value.tuple #[Value.slice (some ⟨ga,0,none⟩) m m,Value.int IntKind.i64 0] :: Value.slice (some ⟨ga,0,none⟩) m m :: Value.int IntKind.i64 0 :: Value.int IntKind.i64 0 :: Value.bool false :: undef :: undef :: Value.slice (some ⟨ga,0,none⟩) m m :: Value.slice (some ⟨g1,0,none⟩) m m :: Value.slice (some ⟨gd,0,none⟩) 2 2 :: Value.int IntKind.i64 ↑q :: Value.slice (some ⟨gd,0,none⟩) q 2 :: Value.agg #[Value.slice (some ⟨g1,0,none⟩) m m,Value.slice (some ⟨gd,0,none⟩) q 2] :: z55 :: (z 56) :: (z 57) :: (z 58) :: (z 59) :: (z 60) :: z61 :: z62 :: (z 63) :: undef :: undef :: undef :: undef :: undef :: undef :: [])),[]⟩∧Hid ((b 0=true→(z 56)=Value.pointer (some ⟨d,0,none⟩))∧(b 1=true→(z 57) = .pointer (some ⟨r,0,none⟩))∧(b 2=true→(z 58) = .slice (some ⟨g1,0,none⟩) m m)∧(b 3=true→(z 59)=Value.pointer (some ⟨d,0,none⟩))∧(b 4=true→(z 60) = .int .i64 (n:Int))∧(b 8=true→(z 63) = .int .i64 0)∧(b 10=true→(z 13) = .int .i64 0))∧Hid (Below w5.heap.size w5 wy)∧Hid (∃g,(b 5=true→z61 = .tuple #[.slice (some ⟨g,0,none⟩) n n,.int .i64 0]∧w5.heap.size≤g∧RowV wy g 34 (nums W))∧(b 6=true→z55 = .tuple #[.slice (some ⟨g,0,none⟩) n n,.int .i64 0]∧b 5=true)∧(b 7=true→z62 = .slice (some ⟨g,0,none⟩) n n∧b 6=true)∧(b 9=true→z15 = .slice (some ⟨g,0,none⟩) n n∧b 7=true))) (by kernel_rfl) (by kernel_rfl) ?startR ?stepsR ?doneR
    case startR =>
     intro b hb
     refine ⟨fun s=>if s=13 then Value.int IntKind.i64 0 else undef,undef,undef,undef,undef,rfl,hid ⟨?_,?_,?_,?_,?_,?_,?_⟩,hid ((show Still w5 w5.drew from ⟨rfl,rfl,rfl,rfl⟩).below _),hid (⟨0,(fun e=>by rw [hb _ (by decide)] at e; cases e),(fun e=>by rw [hb _ (by decide)] at e; cases e),(fun e=>by rw [hb _ (by decide)] at e; cases e),(fun e=>by rw [hb _ (by decide)] at e; cases e)⟩)⟩
     all_goals (intro e; first | rfl | (rw [hb _ (by decide)] at e; cases e))
    case stepsR =>
     refine ⟨?_,?_,?_,?_,?_,?_,?_,?_,?_,?_,?_,trivial⟩
     ·rintro b a wy hb hd ⟨z,z15,z55,z61,z62,rfl,HV,HW,HX⟩ K hK
      clear hd
      go_simp
      have V:=HV.out
      exact hK _ _ ⟨fun s=>if s=56 then Value.pointer (some ⟨d,0,none⟩) else z s,_,_,_,_,rfl,hid ⟨fun _=>rfl,V.2.1,V.2.2.1,V.2.2.2.1,V.2.2.2.2.1,V.2.2.2.2.2.1,V.2.2.2.2.2.2⟩,HW,HX⟩
     ·rintro b a wy hb hd ⟨z,z15,z55,z61,z62,rfl,HV,HW,HX⟩ K hK
      clear hd
      go_simp
      have V:=HV.out
      exact hK _ _ ⟨fun s=>if s=57 then .pointer (some ⟨r,0,none⟩) else z s,_,_,_,_,rfl,hid ⟨V.1,fun _=>rfl,V.2.2.1,V.2.2.2.1,V.2.2.2.2.1,V.2.2.2.2.2.1,V.2.2.2.2.2.2⟩,HW,HX⟩
     ·rintro b a wy hb hd ⟨z,z15,z55,z61,z62,rfl,HV,HW,HX⟩ K hK
      simp [Region.binds] at hd
      have e1:(z 57) = .pointer (some ⟨r,0,none⟩):=(HV.out.2.1) (by simp [hd])
      clear hd
      have cc:wy.cell? ⟨r,0,none⟩=some (.slice (some ⟨g1,0,none⟩) m m):=(HR5.out.below HR5.out.lt HW.out).cellAt (i:=0) rfl
      go_simp
      have V:=HV.out
      exact hK _ _ ⟨fun s=>if s=58 then .slice (some ⟨g1,0,none⟩) m m else if s=57 then .pointer (some ⟨r,0,none⟩) else z s,_,_,_,_,rfl,hid ⟨V.1,fun _=>rfl,fun _=>rfl,V.2.2.2.1,V.2.2.2.2.1,V.2.2.2.2.2.1,V.2.2.2.2.2.2⟩,HW,HX⟩
     ·rintro b a wy hb hd ⟨z,z15,z55,z61,z62,rfl,HV,HW,HX⟩ K hK
      clear hd
      go_simp
      have V:=HV.out
      exact hK _ _ ⟨fun s=>if s=59 then Value.pointer (some ⟨d,0,none⟩) else z s,_,_,_,_,rfl,hid ⟨V.1,V.2.1,V.2.2.1,fun _=>rfl,V.2.2.2.2.1,V.2.2.2.2.2.1,V.2.2.2.2.2.2⟩,HW,HX⟩
     ·rintro b a wy hb hd ⟨z,z15,z55,z61,z62,rfl,HV,HW,HX⟩ K hK
      simp [Region.binds] at hd
      have e3:(z 59)=Value.pointer (some ⟨d,0,none⟩):=(HV.out.2.2.2.1) (by simp [hd])
      clear hd
      go_simp
      go_at_call 20
      refine (HLEN.out wy (HB5.out.trans (HW.out.mono HB5.out.size))).mono ?_
      rintro e wz ⟨rfl,rfl⟩
      try go_simp
      have V:=HV.out
      exact hK _ _ ⟨fun s=>if s=60 then .int .i64 (n:Int) else if s=59 then Value.pointer (some ⟨d,0,none⟩) else z s,_,_,_,_,rfl,hid ⟨V.1,V.2.1,V.2.2.1,fun _=>rfl,fun _=>rfl,V.2.2.2.2.2.1,V.2.2.2.2.2.2⟩,HW,HX⟩
     ·rintro b a wy hb hd ⟨z,z15,z55,z61,z62,rfl,HV,HW,HX⟩ K hK
      simp [Region.binds] at hd
      have e0:(z 56)=Value.pointer (some ⟨d,0,none⟩):=(HV.out.1) (by simp [hd])
      have e2:(z 58) = .slice (some ⟨g1,0,none⟩) m m:=(HV.out.2.2.1) (by simp [hd])
      have e4:(z 60) = .int .i64 (n:Int):=(HV.out.2.2.2.2.1) (by simp [hd])
      clear hd
      obtain ⟨g,x1,x2,x3',x4'⟩:=HX.out
      go_simp
      go_at_call 138
      refine (row5 (HD.out.below (HB5.out.trans (HW.out.mono HB5.out.size))) hg HN.out ((HY.out.2.1.below HY.out.2.1.lt HW.out).has.told) (W:=W) (n:=n) (q:=m) HE.out.1 hn4 HLQ.out.1 HE.out.2.1 HE.out.2.2).mono ?_
      rintro e wz ⟨g',rfl,hg',hlo,kz⟩
      try go_simp
      have V:=HV.out
      exact hK _ _ ⟨fun s=>if s=56 then Value.pointer (some ⟨d,0,none⟩) else if s=58 then .slice (some ⟨g1,0,none⟩) m m else if s=60 then .int .i64 (n:Int) else z s,_,_,_,_,rfl,hid ⟨fun _=>rfl,V.2.1,fun _=>rfl,V.2.2.2.1,fun _=>rfl,V.2.2.2.2.2.1,V.2.2.2.2.2.2⟩,hid (HW.out.trans (kz.mono HW.out.size)),hid ⟨g',fun _=>⟨rfl,Nat.le_trans HW.out.size hlo,hg'⟩,fun e=>absurd (hb.symm.trans (x2 e).2) (by decide),fun e=>absurd (hb.symm.trans (x2 (x3' e).2).2) (by decide),fun e=>absurd (hb.symm.trans (x2 (x3' (x4' e).2).2).2) (by decide)⟩⟩
     ·rintro b a wy hb hd ⟨z,z15,z55,z61,z62,rfl,HV,HW,HX⟩ K hK
      simp [Region.binds] at hd
      have dd5:b 5=true:=by simp [hd]
      clear hd
      obtain ⟨g,x1,x2,x3',x4'⟩:=HX.out
      obtain ⟨zz,y1⟩:=x1 dd5
      subst zz
      go_simp
      have V:=HV.out
      exact hK _ _ ⟨fun s=>z s,_,_,_,_,rfl,hid ⟨V.1,V.2.1,V.2.2.1,V.2.2.2.1,V.2.2.2.2.1,V.2.2.2.2.2.1,V.2.2.2.2.2.2⟩,HW,hid ⟨g,fun _=>⟨rfl,y1⟩,fun _=>⟨rfl,dd5⟩,fun e=>absurd (hb.symm.trans (x3' e).2) (by decide),fun e=>absurd (hb.symm.trans (x3' (x4' e).2).2) (by decide)⟩⟩
     ·rintro b a wy hb hd ⟨z,z15,z55,z61,z62,rfl,HV,HW,HX⟩ K hK
      simp [Region.binds] at hd
      have dd6:b 6=true:=by simp [hd]
      clear hd
      obtain ⟨g,x1,x2,x3',x4'⟩:=HX.out
      obtain ⟨zz,y1⟩:=x2 dd6
      subst zz
      obtain ⟨zz,y2⟩:=x1 y1
      subst zz
      have HYY:=hid (And.intro y1 (And.intro y2 x4'))
      clear x1 x2 x3' x4' y1 y2 HX
      go_simp
      have V:=HV.out
      exact hK _ _ ⟨fun s=>z s,_,_,_,_,rfl,hid ⟨V.1,V.2.1,V.2.2.1,V.2.2.2.1,V.2.2.2.2.1,V.2.2.2.2.2.1,V.2.2.2.2.2.2⟩,HW,hid ⟨g,fun _=>⟨rfl,HYY.out.2.1⟩,fun _=>⟨rfl,HYY.out.1⟩,fun _=>⟨rfl,dd6⟩,fun e=>absurd (hb.symm.trans (HYY.out.2.2 e).2) (by decide)⟩⟩
     ·rintro b a wy hb hd ⟨z,z15,z55,z61,z62,rfl,HV,HW,HX⟩ K hK
      simp [Region.binds] at hd
      have dd6:b 6=true:=by simp [hd]
      clear hd
      obtain ⟨g,x1,x2,x3',x4'⟩:=HX.out
      obtain ⟨zz,y1⟩:=x2 dd6
      subst zz
      obtain ⟨zz,y2⟩:=x1 y1
      subst zz
      have HYY:=hid (And.intro y1 (And.intro y2 (And.intro x3' x4')))
      clear x1 x2 x3' x4' y1 y2 HX
      go_simp
      have V:=HV.out
      exact hK _ _ ⟨fun s=>if s=63 then .int .i64 0 else z s,_,_,_,_,rfl,hid ⟨V.1,V.2.1,V.2.2.1,V.2.2.2.1,V.2.2.2.2.1,fun _=>rfl,V.2.2.2.2.2.2⟩,HW,hid ⟨g,fun _=>⟨rfl,HYY.out.2.1⟩,fun _=>⟨rfl,HYY.out.1⟩,HYY.out.2.2.1,HYY.out.2.2.2⟩⟩
     ·rintro b a wy hb hd ⟨z,z15,z55,z61,z62,rfl,HV,HW,HX⟩ K hK
      simp [Region.binds] at hd
      have dd7:b 7=true:=by simp [hd]
      clear hd
      obtain ⟨g,x1,x2,x3',x4'⟩:=HX.out
      obtain ⟨zz,dd6⟩:=x3' dd7
      subst zz
      obtain ⟨zz,y1⟩:=x2 dd6
      subst zz
      obtain ⟨zz,y2⟩:=x1 y1
      subst zz
      have HYY:=hid (And.intro y1 (And.intro y2 dd6))
      clear x1 x2 x3' x4' y1 y2 dd6 HX
      go_simp
      have V:=HV.out
      exact hK _ _ ⟨fun s=>z s,_,_,_,_,rfl,hid ⟨V.1,V.2.1,V.2.2.1,V.2.2.2.1,V.2.2.2.2.1,V.2.2.2.2.2.1,V.2.2.2.2.2.2⟩,HW,hid ⟨g,fun _=>⟨rfl,HYY.out.2.1⟩,fun _=>⟨rfl,HYY.out.1⟩,fun _=>⟨rfl,HYY.out.2.2⟩,fun _=>⟨rfl,dd7⟩⟩⟩
     ·rintro b a wy hb hd ⟨z,z15,z55,z61,z62,rfl,HV,HW,HX⟩ K hK
      simp [Region.binds] at hd
      have e8:(z 63) = .int .i64 0:=(HV.out.2.2.2.2.2.1) (by simp [hd])
      clear hd
      go_simp
      have V:=HV.out
      exact hK _ _ ⟨fun s=>if s=13 then .int .i64 0 else if s=63 then .int .i64 0 else z s,_,_,_,_,rfl,hid ⟨V.1,V.2.1,V.2.2.1,V.2.2.2.1,V.2.2.2.2.1,fun _=>rfl,fun _=>rfl⟩,HW,HX⟩
    case doneR =>
     rintro b a wy hb ⟨z,z15,z55,z61,z62,rfl,HV,HW,HX⟩
     have e0:=(HV.out.1) (hb 0)
     have e1:=(HV.out.2.1) (hb 1)
     have e2:=(HV.out.2.2.1) (hb 2)
     have e3:=(HV.out.2.2.2.1) (hb 3)
     have e4:=(HV.out.2.2.2.2.1) (hb 4)
     have e8:=(HV.out.2.2.2.2.2.1) (hb 8)
     have e10:=(HV.out.2.2.2.2.2.2) (hb 10)
     simp only [e0,e1,e2,e3,e4,e8,e10]
     clear HV e0 e1 e2 e3 e4 e8 e10
     obtain ⟨g,x1,x2,x3',x4'⟩:=HX.out
     obtain ⟨zz,hlo,hg5⟩:=x1 (hb 5)
     subst zz
     obtain ⟨zz,_⟩:=x2 (hb 6)
     subst zz
     obtain ⟨zz,_⟩:=x3' (hb 7)
     subst zz
     obtain ⟨zz,_⟩:=x4' (hb 9)
     subst zz
     have HGG:=hid (And.intro hlo hg5)
     have HB6:=hid (HB5.out.trans (HW.out.mono HB5.out.size))
     have HR6:=hid (HR5.out.below HR5.out.lt HW.out)
     have HX6:=hid (HX4.out.below HX4.out.lt HW.out)
     have HY6:=hid (HY.out.2.1.below HY.out.2.1.lt HW.out)
     have HRD6:=hid (HRD5.out.below HRD5.out.lt HW.out)
     have HS6:=hid (show w.heap.size≤w5.heap.size from HB5.out.size)
     clear x1 x2 x3' x4' hlo hg5 hb HX HW HR5 HX4 HB5 HRD5 HT5
     have q0:=HR6.out.cellAt (i:=0) rfl
     have q1:=HR6.out.cellAt (i:=1) rfl
     have p0:=HX6.out.cellAt (i:=0) rfl
     have p1':=HX6.out.cellAt (i:=1) rfl
     have f0:=HX6.out.free 0
     have f1:=HX6.out.free 1
     go_wp2_with fail
     have HS9:=hid ((HX6.out.set 0 (.slice (some ⟨g1,0,none⟩) m m)).set 1 (.slice (some ⟨gd,0,none⟩) q 2))
     have HU:=hid ((ButL.set wy x4 0 (.slice (some ⟨g1,0,none⟩) m m)).trans (ButL.set _ x4 1 (.slice (some ⟨gd,0,none⟩) q 2)))
     generalize (wy.setCell ⟨x4,0,none⟩ (.slice (some ⟨g1,0,none⟩) m m)).setCell ⟨x4,1,none⟩ (.slice (some ⟨gd,0,none⟩) q 2)=w9 at *
     have c0:=HS9.out.cellAt (i:=0) rfl
     have c1:=HS9.out.cellAt (i:=1) rfl
     refine bodyPost_ret (v := .tuple #[.agg #[.slice (some ⟨g1,0,none⟩) m m,.slice (some ⟨gd,0,none⟩) q 2],.slice (some ⟨g,0,none⟩) n n,.int .i64 0]) ?_ rfl ?_
     ·rw [results_cell3 rfl]
      go_simp
     ·have hx3:=HX.out
      have hxx:=HXX.out
      exact ⟨g1,gd,2,g,by rw [HLQ.out.1,HLQ.out.2.1,HE.out.1],HY6.out.block (HU.out.block _ HY6.out.lt (by simp; exact row_ne HY6.out HX6.out (by decide))),⟨(ints [nth s 2,nth s 3]).drop q,by rw [roots_take HLQ.out.2.1 p3 p4 HP.out.root]; exact HRD6.out.block (HU.out.block _ HRD6.out.lt (by simp; exact row_ne HRD6.out HX6.out (by decide)))⟩,HGG.out.2.block (HU.out.block _ HGG.out.2.lt (by simp; exact row_ne HGG.out.2 HX6.out (by decide))),Nat.le_trans HS5.out HY.out.1,HLO.out,Nat.le_trans HS6.out HGG.out.1,HB6.out.trans (HU.out.below (by simp; omega) HB6.out.size)⟩
end Go.Proofs.YtogchamogbendaaGreat.Bs
