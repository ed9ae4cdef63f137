import Derived.Test.YtogchamogbendaaGreatQtj
set_option maxRecDepth 100000
set_option linter.unusedVariables false
set_option linter.unusedSimpArgs false
namespace Go.Proofs.YtogchamogbendaaGreat.Pl
open Lib (hid)
open Go.RowKit Oct Mv Tl Pk Go.Maps
theorem length_toI (l:List Nat):(toI l).length=l.length:=by simp [toI]
theorem toI_app (l m:List Nat):toI l++toI m=toI (l++m):=by simp [toI]
theorem toI_get (l:List Nat) (i:Nat):(toI l).getD i 0=((l.getD i 0:Nat):Int):=by
 simp only [toI,List.getD_eq_getElem?_getD,List.getElem?_map]
 cases l[i]? <;> rfl
theorem getZ_ne {s:St} {m:Nat} (h:getZ s (m:Int)≠0):m<s.n∧s.cnt m≠0:=by
 unfold getZ at h
 by_cases k:0≤(m:Int)∧(m:Int)<(s.n:Int)
 ·rw [if_pos k,Int.toNat_natCast] at h
  exact ⟨by omega,fun e=>h (by rw [e]; rfl)⟩
 ·rw [if_neg k] at h
  exact absurd rfl h
def begin (q:Q) (l1 l2:List Nat):Wk:=⟨q,l1,List.replicate l1.length false,l2,List.replicate l2.length false⟩
theorem getD_rep (n i:Nat):(List.replicate n false).getD i false=false:=by
 simp only [List.getD_eq_getElem?_getD,List.getElem?_replicate]
 split <;> rfl
theorem left_rep (n m:Nat):Pl.left (List.replicate n false++List.replicate m false)=n+m:=by
 unfold Pl.left
 rw [List.countP_append,List.countP_replicate,List.countP_replicate]
 rfl
theorem begin_good {q:Q} {l1 l2:List Nat} (hok:q.Ok) (hr:RightS q.s (toI l1) (toI l2)) (hroom:need q.s.n≤q.room):(begin q l1 l2).Good:=by
 obtain ⟨h1,h2,h3⟩:=hr
 rw [length_toI] at h1 h2
 rw [toI_app] at h3
 have key : ∀i,i<(l1++l2).length→(l1++l2).getD i 0=0∨((∀k,k<i→(l1++l2).getD k 0≠(l1++l2).getD i 0)∧getZ q.s (((l1++l2).getD i 0:Nat):Int)≠0):=by
  intro i hi
  rcases h3 i (by rw [length_toI]; exact hi) with h | ⟨h,k⟩
  ·rw [toI_get] at h
   exact .inl (by omega)
  ·rw [toI_get] at k
   exact .inr ⟨fun j hj e=>h j hj (by rw [toI_get,toI_get,e]),k⟩
 refine ⟨hok,h1,h2,by simp [begin],by simp [begin],?_⟩
 show Loose q (l1++l2) (List.replicate l1.length false++List.replicate l2.length false)
 refine ⟨by simp,fun i hi _ hz => ?_,fun i j hi hj hij _ _ hz => ?_,?_⟩
 ·rcases key i hi with h | ⟨_,k⟩
  ·exact absurd h hz
  ·exact getZ_ne k
 ·rcases Nat.lt_or_ge i j with h | h
  ·rcases key j hj with k | ⟨k,_⟩
   ·rw [k]; exact hz
   ·exact k i h
  ·rcases key i hi with k | ⟨k,_⟩
   ·exact absurd k hz
   ·exact fun e=>k j (by omega) e.symm
 ·rw [left_rep]
  unfold need at hroom
  omega
theorem right_lt {s:St} {l1 l2:List Nat} (hr:RightS s (toI l1) (toI l2)) (hn:s.n≤4096):(∀m∈l1,m≤4096) ∧ ∀m∈l2,m≤4096:=by
 obtain ⟨h1,h2,h3⟩:=hr
 rw [toI_app] at h3
 have key : ∀m∈l1++l2,m≤4096:=by
  intro m hm
  obtain ⟨i,hi,rfl⟩:=List.mem_iff_getElem.1 hm
  have e:(l1++l2).getD i 0=(l1++l2)[i]:=by rw [List.getD_eq_getElem?_getD,List.getElem?_eq_getElem hi]; rfl
  rcases h3 i (by rw [length_toI]; exact hi) with h | ⟨_,k⟩
  ·rw [toI_get,e] at h
   omega
  ·rw [toI_get,e] at k
   have:=(getZ_ne k).1
   omega
 exact ⟨fun m hm=>key m (by simp [hm]),fun m hm=>key m (by simp [hm])⟩
theorem right_nat {w:World} {a cb mb c:Nat} {s:St} (h:At w a cb mb c s) {A1 A2:Option Addr} {c1 c2:Nat} {l1 l2:List Nat} (h1:ToldV w A1 (ints l1)) (h2:ToldV w A2 (ints l2)) (r1 : ∀m∈l1,m≤9223372036854775807) (r2 : ∀m∈l2,m≤9223372036854775807) :
  Calls Tryz.prog 77 #[.pointer (some ⟨a,0,none⟩),shv A1 A2 l1.length l2.length c1 c2] w fun e w' => ∃r:Bool,e = .returned (.bool r)∧(r=true↔RightS s (toI l1) (toI l2))∧Below w.heap.size w w':=by
 have:=right_any h (c1:=c1) (c2:=c2) (l1:=toI l1) (l2:=toI l2) (by rw [zs_toI]; exact h1) (by rw [zs_toI]; exact h2) (R64.toI r1) (R64.toI r2)
 rw [length_toI,length_toI] at this
 exact this
theorem Wk.Runs.good {x y:Wk} (h:x.Runs y) (k:x.Good):y.Good:=by
 induction h with
 | done _=>exact k
 | step s r ih=>exact ih (k.step s)
theorem Wk.Step.len {x y:Wk} (h:x.Step y):y.l1.length=x.l1.length∧y.l2.length=x.l2.length:=by
 cases h with
 | one i b q' _ _=>exact ⟨by simp [Wk.mv1],rfl⟩
 | two i b q' _ _ _=>exact ⟨rfl,by simp [Wk.mv2]⟩
theorem WkAt.far {w:World} {A:Adr} {B g:Nat} {x:Wk} {T:TypeId} {vs:List Value} (h:WkAt w A B x) (k:RowV w g T vs) (h1:T ≠ 235) (h2:T ≠ 246) (h3:T ≠ 34) (h4:T ≠ 3) (h5:T ≠ 4):g∉A.list:=by
 have f:=PAt.off h.pat k h1 h2 h3
 obtain ⟨⟨s1,k1⟩,⟨s2,k2⟩⟩:=h.pg1.row
 obtain ⟨⟨s3,k3⟩,⟨s4,k4⟩⟩:=h.pg2.row
 simp [Adr.list]
 exact ⟨f.2.2.1,f.2.2.2,f.1,row_ne k k1 h4,row_ne k k2 h5,row_ne k k3 h4,row_ne k k4 h5⟩
theorem List64.but {w w':World} {v:Value} {l:List Nat} {r:Nat} {T:TypeId} {a1 a2:Option Addr} {n1 n2 c1 c2:Nat} (h:List64 w v l) (hr:RowV w r T [.slice a1 n1 c1,.slice a2 n2 c2]) (k:ButL w w' [r]):List64 w' v l:=by
 obtain ⟨A,cap,rfl,ht⟩:=h
 refine ⟨A,cap,rfl,?_⟩
 rcases ht with ht | ⟨b,o,rfl,hs⟩
 ·exact .inl ht
 ·by_cases h0:0<(ints l).length
  ·refine .inr ⟨b,o,rfl,hs.block (k.block b (hs.lt h0) ?_)⟩
   have hne:b≠r:=by
    rintro rfl
    have h1:=hs 0 h0
    unfold RowV at hr
    rw [length_ints] at h0
    rcases l with _ | ⟨m,l⟩
    ·cases h0
    ·simp only [World.cell?,hr,Nat.add_zero] at h1
     rcases o with _ | _ | o
     ·simp [ints] at h1
     ·simp [ints] at h1
     ·simp [ints] at h1
   simp
   exact hne
  ·exact .inl (List.eq_nil_of_length_eq_zero (by omega))
inductive Wk.Goes:Wk→Wk→Prop where
 | none (x:Wk):Wk.Goes x x
 | more {x y z:Wk}:Wk.Goes x y→y.Step z→Wk.Goes x z
theorem Wk.Goes.runs {x y z:Wk} (h:x.Goes y) (k:y.Runs z):x.Runs z:=by
 induction h with
 | none=>exact k
 | more _ s ih=>exact ih (.step s k)
theorem Wk.Goes.good {x y:Wk} (h:x.Goes y) (k:x.Good):y.Good:=by
 induction h with
 | none=>exact k
 | more _ s ih=>exact ih.step s
theorem Wk.Goes.len {x y:Wk} (h:x.Goes y):y.l1.length=x.l1.length∧y.l2.length=x.l2.length:=by
 induction h with
 | none=>exact ⟨rfl,rfl⟩
 | more _ s ih=>exact ⟨s.len.1.trans ih.1,s.len.2.trans ih.2⟩
def PlaceOut (w:World) (p ta cb mb c:Nat) (q:Q) (l1 l2:List Nat) (e:Ending) (w':World):Prop :=
 ∃(y:Wk) (g1 d1 g3 d3:Nat) (v1 v2:Value),e = .returned (.tuple #[.agg #[.slice (some ⟨g1,0,none⟩) l1.length d1,.slice (some ⟨g3,0,none⟩) l2.length d3],v1,v2,.int .i64 0])∧(begin q l1 l2).Runs y∧PAt w' p ta cb mb c y.q∧(∃sp,RowV w' g1 3 (ints y.l1++sp))∧(∃sp,RowV w' g3 3 (ints y.l2++sp))∧List64 w' v1 (doneL y.f1)∧List64 w' v2 (doneL y.f2)∧(w.heap.size≤g1∧l1.length≤d1∧d1≤maxLen)∧w.heap.size≤g3∧ButL w w' [cb,mb,p]
set_option maxHeartbeats 4000000 in
theorem place_yes {w:World} {p ta cb mb c:Nat} {q:Q} (hq:PAt w p ta cb mb c q) {A1 A2:Option Addr} {c1 c2:Nat} {l1 l2:List Nat} (h1:ToldV w A1 (ints l1)) (h2:ToldV w A2 (ints l2)) (hyes:RightS q.s (toI l1) (toI l2)) (hroom:need q.s.n≤q.room) :
  Calls Tryz.prog 160 #[.pointer (some ⟨ta,0,none⟩),.pointer (some ⟨p,0,none⟩),shv A1 A2 l1.length l2.length c1 c2] w (PlaceOut w p ta cb mb c q l1 l2):=by
 have HG:=hid (begin_good hq.ok hyes hroom)
 have hn1n:1≤q.s.n:=hq.ok.s.lo
 have hn2:q.s.n≤4096:=hq.ok.s.hi
 have HM:=hid (right_lt hyes hn2)
 have hp1:0<l1.length:=by
  have:=hyes.1
  rw [length_toI] at this
  rw [this]; unfold pg; omega
 have hp2:0<l2.length:=by
  have:=hyes.2.1
  rw [length_toI] at this
  rw [this]; unfold pg; omega
 have hl1:l1.length≤4096:=by have:=HG.out.l1_le; exact this
 have hl2:l2.length≤4096:=by have:=HG.out.l2_le; exact this
 obtain ⟨b1,o1,rfl,hs1⟩:=h1.has (by rw [length_ints]; exact hp1)
 obtain ⟨b2,o2,rfl,hs2⟩:=h2.has (by rw [length_ints]; exact hp2)
 have hz:=sheet_zero
 have HTB:=hid (two_boxes w (some ⟨b1,o1,none⟩) (some ⟨b2,o2,none⟩) l1.length l2.length c1 c2)
 have HQ:=hid hq
 have H1:=hid hs1
 have H2:=hid hs2
 have hn1:(q.s.n:Int)≠0:=by omega
 have hn1b:((q.s.n:Int)==0)=false:=by simpa using hn1
 have HY:=hid hyes
 have hlt : ¬(q.room:Int)<(need q.s.n:Int):=by omega
 have hltn : ¬q.room<need q.s.n:=by omega
 clear hq h1 h2 hn1 hs1 hs2 hyes hroom hn1n
 unfold shv
 go_enter Tryz.func160,Tryz.ntmps160
 go_wp2_with fail
 generalize hW:(w.alloc (.cells #[.slice (some ⟨b1,o1,none⟩) l1.length c1,.slice (some ⟨b2,o2,none⟩) l2.length c2] 65)).alloc (.cells #[.slice none 0 0,.slice none 0 0] 65)=w1 at *
 obtain ⟨R1,R2,B2⟩:=HTB.out w1 rfl
 have HR1:=hid R1
 have HR2:=hid R2
 have HB:=hid B2
 have HK:=hid (HQ.out.kept B2)
 clear hW R1 R2 B2 HTB
 refine (blocks_at HK.out.tally).mono ?_
 rintro e w' ⟨rfl,rfl⟩
 have q0:=HR1.out.cellAt (i:=0) rfl
 have q1:=HR1.out.cellAt (i:=1) rfl
 go_wp2_with fail
 clear q0 q1
 refine (right_nat HK.out.tally (H1.out.told.below HB.out) (H2.out.told.below HB.out) (fun m hm=>by have:=HM.out.1 m hm; omega) (fun m hm=>by have:=HM.out.2 m hm; omega)).mono ?_
 rintro e w2 ⟨r,rfl,hr,bz⟩
 obtain rfl:r=true:=hr.2 HY.out
 have HB2:=hid (HB.out.trans (bz.mono HB.out.size))
 have HK2:=hid (HK.out.kept bz)
 have HR3:=hid (HR1.out.below HR1.out.lt bz)
 have HR4:=hid (HR2.out.below HR2.out.lt bz)
 clear hr bz
 go_wp2_with fail
 refine (room_at HK2.out).mono ?_
 rintro e w' ⟨rfl,rfl⟩
 go_wp2_with fail
 refine (blocks_at HK2.out.tally).mono ?_
 rintro e w' ⟨rfl,rfl⟩
 go_wp2_with fail
 refine (need_eq q.s.n (by omega) _).mono ?_
 rintro e w' ⟨rfl,rfl⟩
 have hbl1:=H1.out.lt (by rw [length_ints]; exact hp1)
 have hbl2:=H2.out.lt (by rw [length_ints]; exact hp2)
 have HS1:=hid (H1.out.below hbl1 HB2.out)
 have HS2:=hid (H2.out.below hbl2 HB2.out)
 have HLT:=hid (And.intro (Nat.lt_of_lt_of_le hbl1 HB2.out.size) (Nat.lt_of_lt_of_le hbl2 HB2.out.size))
 clear hbl1 hbl2 H1 H2 HB HK HR1 HR2 HQ
 go_upto_region 7 with (fail)
 refine Inv2.wp_region_inv (fun b a wy => ∃z10 z32 z33 z34 z35 z36 z37 z38 z39 z40 z41,a=⟨(List.toArray (.pointer (some ⟨ta,0,none⟩) :: .pointer (some ⟨p,0,none⟩) :: .agg #[.slice (some ⟨b1,o1,none⟩) l1.length c1,.slice (some ⟨b2,o2,none⟩) l2.length c2] :: undef :: undef :: .pointer (some ⟨w.heap.size,0,none⟩) :: .pointer (some ⟨w.heap.size+1,0,none⟩) :: .slice none 0 0 :: .slice none 0 0 :: .int .i64 0 :: z10 :: undef :: undef :: .bool false :: .pointer (some ⟨ta,0,none⟩) :: .int .i64 (q.s.n:Int) :: .bool false :: undef :: .bool false :: .pointer (some ⟨ta,0,none⟩) :: .agg #[.slice (some ⟨b1,o1,none⟩) l1.length c1,.slice (some ⟨b2,o2,none⟩) l2.length c2] :: .bool true :: .bool false :: undef :: .bool false :: .pointer (some ⟨p,0,none⟩) :: .int .i64 (q.room:Int) :: .pointer (some ⟨ta,0,none⟩) :: .int .i64 (q.s.n:Int) :: .int .i64 (need q.s.n:Int) :: .bool false :: undef :: z32 :: z33 :: z34 :: z35 :: z36 :: z37 :: z38 :: z39 :: z40 :: z41 :: undef :: undef :: undef :: undef :: undef :: undef :: undef :: undef :: undef :: undef :: undef :: undef :: undef :: undef :: undef :: undef :: [])),[]⟩∧Hid ((b 0=true→z32 = .pointer (some ⟨ta,0,none⟩))∧(b 1=true→z33 = .pointer (some ⟨p,0,none⟩))∧(b 2=true→z34 = .pointer (some ⟨w.heap.size,0,none⟩))∧(b 3=true→z35 = .slice (some ⟨b1,o1,none⟩) l1.length c1)∧(b 5=true→z37 = .pointer (some ⟨w.heap.size,1,none⟩))∧(b 6=true→z38 = .slice (some ⟨b2,o2,none⟩) l2.length c2))∧Hid (Below w2.heap.size w2 wy)∧Hid (∃g1 g2 d1 g3 g4 d3,(b 4=true→z36=pgv g1 g2 l1.length d1 l1.length∧PgAt wy g1 g2 d1 l1.length w.heap.size l1 (List.replicate l1.length false))∧(b 7=true→b 4=true∧z39=pgv g3 g4 l2.length d3 l2.length∧PgAt wy g3 g4 d3 l2.length w.heap.size l2 (List.replicate l2.length false)∧g1≠g3∧g2≠g4)∧(b 8=true→z40 = .agg #[.slice (some ⟨g1,0,none⟩) l1.length d1,.slice (some ⟨g2,0,none⟩) l1.length l1.length,.slice (some ⟨g3,0,none⟩) l2.length d3,.slice (some ⟨g4,0,none⟩) l2.length l2.length]∧b 7=true)∧(b 9=true→z41 = .agg #[.pointer (some ⟨ta,0,none⟩),.pointer (some ⟨p,0,none⟩),.slice (some ⟨g1,0,none⟩) l1.length d1,.slice (some ⟨g2,0,none⟩) l1.length l1.length,.slice (some ⟨g3,0,none⟩) l2.length d3,.slice (some ⟨g4,0,none⟩) l2.length l2.length]∧b 8=true)∧(b 10=true → ∃r,z10 = .pointer (some ⟨r,0,none⟩)∧w2.heap.size≤r∧(b 11=false→RowV wy r 297 [.pointer none,.pointer none,.slice none 0 0,.slice none 0 0,.slice none 0 0,.slice none 0 0])∧(b 11=true→b 9=true∧RowV wy r 297 [.pointer (some ⟨ta,0,none⟩),.pointer (some ⟨p,0,none⟩),.slice (some ⟨g1,0,none⟩) l1.length d1,.slice (some ⟨g2,0,none⟩) l1.length l1.length,.slice (some ⟨g3,0,none⟩) l2.length d3,.slice (some ⟨g4,0,none⟩) l2.length l2.length]))∧(b 11=true→b 10=true))) (by kernel_rfl) (by kernel_rfl) ?startE1 ?stepsE1 ?doneE1
 case startE1 =>
  intro b hb
  refine ⟨undef,undef,undef,undef,undef,undef,undef,undef,undef,undef,undef,rfl,hid ⟨?_,?_,?_,?_,?_,?_⟩,hid ((show Still w2 w2.drew from ⟨rfl,rfl,rfl,rfl⟩).below _),hid (⟨0,0,0,0,0,0,(fun e=>by rw [hb _ (by decide)] at e; cases e),(fun e=>by rw [hb _ (by decide)] at e; cases e),(fun e=>by rw [hb _ (by decide)] at e; cases e),(fun e=>by rw [hb _ (by decide)] at e; cases e),(fun e=>by rw [hb _ (by decide)] at e; cases e),(fun e=>by rw [hb _ (by decide)] at e; cases e)⟩)⟩
  all_goals (intro e; first | rfl | (rw [hb _ (by decide)] at e; cases e))
 case stepsE1 =>
  refine ⟨?_,?_,?_,?_,?_,?_,?_,?_,?_,?_,?_,?_,trivial⟩
  ·rintro b a wy hb hd ⟨z10,z32,z33,z34,z35,z36,z37,z38,z39,z40,z41,rfl,HV,HW,HX⟩ K hK
   obtain ⟨h0,h1,h2,h3,h5,h6⟩:=HV.out
   clear hd
   go_simp
   exact hK _ _ ⟨_,_,_,_,_,_,_,_,_,_,_,rfl,hid ⟨fun _=>rfl,h1,h2,h3,h5,h6⟩,HW,HX⟩
  ·rintro b a wy hb hd ⟨z10,z32,z33,z34,z35,z36,z37,z38,z39,z40,z41,rfl,HV,HW,HX⟩ K hK
   obtain ⟨h0,h1,h2,h3,h5,h6⟩:=HV.out
   clear hd
   go_simp
   exact hK _ _ ⟨_,_,_,_,_,_,_,_,_,_,_,rfl,hid ⟨h0,fun _=>rfl,h2,h3,h5,h6⟩,HW,HX⟩
  ·rintro b a wy hb hd ⟨z10,z32,z33,z34,z35,z36,z37,z38,z39,z40,z41,rfl,HV,HW,HX⟩ K hK
   obtain ⟨h0,h1,h2,h3,h5,h6⟩:=HV.out
   clear hd
   go_simp
   exact hK _ _ ⟨_,_,_,_,_,_,_,_,_,_,_,rfl,hid ⟨h0,h1,fun _=>rfl,h3,h5,h6⟩,HW,HX⟩
  ·rintro b a wy hb hd ⟨z10,z32,z33,z34,z35,z36,z37,z38,z39,z40,z41,rfl,HV,HW,HX⟩ K hK
   obtain ⟨h0,h1,h2,h3,h5,h6⟩:=HV.out
   simp [Region.binds] at hd
   obtain rfl:=h2 (by simp [hd])
   clear hd
   have hrw:=HR3.out.below (Nat.lt_of_lt_of_le HR3.out.lt (Nat.le_refl _)) HW.out
   have q0:=hrw.cellAt (i:=0) rfl
   clear hrw
   go_simp
   exact hK _ _ ⟨_,_,_,_,_,_,_,_,_,_,_,rfl,hid ⟨h0,h1,h2,fun _=>rfl,h5,h6⟩,HW,HX⟩
  ·rintro b a wy hb hd ⟨z10,z32,z33,z34,z35,z36,z37,z38,z39,z40,z41,rfl,HV,HW,HX⟩ K hK
   obtain ⟨h0,h1,h2,h3,h5,h6⟩:=HV.out
   simp [Region.binds] at hd
   obtain rfl:=h3 (by simp [hd])
   clear hd
   obtain ⟨g1,g2,d1,g3,g4,d3,x1,x2,x3,x4,x5,x6⟩:=HX.out
   have HSX:=hid (HS1.out.below HLT.out.1 HW.out)
   have HLO:=hid (Nat.le_trans HB2.out.size HW.out.size)
   go_simp
   go_at_call 197
   refine (build_any HSX.out hp1 hl1).mono ?_
   rintro e wz ⟨g1n,g2n,d1n,rfl,hP,kz⟩
   try go_simp
   exact hK _ _ ⟨_,_,_,_,_,_,_,_,_,_,_,rfl,hid ⟨h0,h1,h2,h3,h5,h6⟩,hid (HW.out.trans (kz.mono HW.out.size)),hid ⟨g1n,g2n,d1n,g3,g4,d3,fun _=>⟨rfl,⟨hP.at',hP.pl,hP.len,Nat.le_trans HLO.out hP.lo1,Nat.le_trans HLO.out hP.lo2,hP.cp⟩⟩,fun e=>absurd (x2 e).1 (by rw [hb]; decide),fun e=>absurd (x2 (x3 e).2).1 (by rw [hb]; decide),fun e=>absurd (x2 (x3 (x4 e).2).2).1 (by rw [hb]; decide),fun e=>(by obtain ⟨r,y1,y2,y3,y4⟩:=x5 e; exact ⟨r,y1,y2,fun e2=>(y3 e2).below (y3 e2).lt kz,fun e2=>absurd (x2 (x3 (x4 (y4 e2).1).2).2).1 (by rw [hb]; decide)⟩),x6⟩⟩
  ·rintro b a wy hb hd ⟨z10,z32,z33,z34,z35,z36,z37,z38,z39,z40,z41,rfl,HV,HW,HX⟩ K hK
   obtain ⟨h0,h1,h2,h3,h5,h6⟩:=HV.out
   clear hd
   go_simp
   exact hK _ _ ⟨_,_,_,_,_,_,_,_,_,_,_,rfl,hid ⟨h0,h1,h2,h3,fun _=>rfl,h6⟩,HW,HX⟩
  ·rintro b a wy hb hd ⟨z10,z32,z33,z34,z35,z36,z37,z38,z39,z40,z41,rfl,HV,HW,HX⟩ K hK
   obtain ⟨h0,h1,h2,h3,h5,h6⟩:=HV.out
   simp [Region.binds] at hd
   obtain rfl:=h5 (by simp [hd])
   clear hd
   have hrw:=HR3.out.below (Nat.lt_of_lt_of_le HR3.out.lt (Nat.le_refl _)) HW.out
   have q0:=hrw.cellAt (i:=1) rfl
   clear hrw
   go_simp
   exact hK _ _ ⟨_,_,_,_,_,_,_,_,_,_,_,rfl,hid ⟨h0,h1,h2,h3,h5,fun _=>rfl⟩,HW,HX⟩
  ·rintro b a wy hb hd ⟨z10,z32,z33,z34,z35,z36,z37,z38,z39,z40,z41,rfl,HV,HW,HX⟩ K hK
   obtain ⟨h0,h1,h2,h3,h5,h6⟩:=HV.out
   simp [Region.binds] at hd
   obtain rfl:=h6 (by simp [hd])
   have d4h:b 4=true:=by simp [hd]
   clear hd
   obtain ⟨g1,g2,d1,g3,g4,d3,x1,x2,x3,x4,x5,x6⟩:=HX.out
   have d4:b 4=true:=d4h
   have HSX:=hid (HS2.out.below HLT.out.2 HW.out)
   have HLO:=hid (Nat.le_trans HB2.out.size HW.out.size)
   obtain ⟨rfl,hx1⟩:=x1 d4
   have HX1:=hid hx1
   have D4:=hid d4
   clear x1 hx1 d4 d4h
   go_simp
   go_at_call 197
   refine (build_any HSX.out hp2 hl2).mono ?_
   rintro e wz ⟨g3n,g4n,d3n,rfl,hP,kz⟩
   try go_simp
   exact hK _ _ ⟨_,_,_,_,_,_,_,_,_,_,_,rfl,hid ⟨h0,h1,h2,h3,h5,h6⟩,hid (HW.out.trans (kz.mono HW.out.size)),hid ⟨g1,g2,d1,g3n,g4n,d3n,fun _=>⟨rfl,HX1.out.kept kz⟩,fun _=>⟨D4.out,rfl,⟨hP.at',hP.pl,hP.len,Nat.le_trans HLO.out hP.lo1,Nat.le_trans HLO.out hP.lo2,hP.cp⟩,(by have:=HX1.out.lt1; have:=hP.lo1; omega),(by have:=HX1.out.lt2; have:=hP.lo2; omega)⟩,fun e=>absurd (x3 e).2 (by rw [hb]; decide),fun e=>absurd (x3 (x4 e).2).2 (by rw [hb]; decide),fun e=>(by obtain ⟨r,y1,y2,y3,y4⟩:=x5 e; exact ⟨r,y1,y2,fun e2=>(y3 e2).below (y3 e2).lt kz,fun e2=>absurd (x3 (x4 (y4 e2).1).2).2 (by rw [hb]; decide)⟩),x6⟩⟩
  ·rintro b a wy hb hd ⟨z10,z32,z33,z34,z35,z36,z37,z38,z39,z40,z41,rfl,HV,HW,HX⟩ K hK
   obtain ⟨h0,h1,h2,h3,h5,h6⟩:=HV.out
   simp [Region.binds] at hd
   have dd4:b 4=true:=by simp [hd]
   have dd7:b 7=true:=by simp [hd]
   clear hd
   obtain ⟨g1,g2,d1,g3,g4,d3,x1,x2,x3,x4,x5,x6⟩:=HX.out
   obtain ⟨_,rfl,hx2,n13,n24⟩:=x2 dd7
   obtain ⟨rfl,hx1⟩:=x1 dd4
   unfold pgv
   go_simp
   exact hK _ _ ⟨_,_,_,_,_,_,_,_,_,_,_,rfl,hid ⟨h0,h1,h2,h3,h5,h6⟩,HW,hid ⟨g1,g2,d1,g3,g4,d3,fun _=>⟨rfl,hx1⟩,fun _=>⟨dd4,rfl,hx2,n13,n24⟩,fun _=>⟨rfl,dd7⟩,fun e=>absurd (x4 e).2 (by rw [hb]; decide),fun e=>(by obtain ⟨r,y1,y2,y3,y4⟩:=x5 e; exact ⟨r,y1,y2,y3,fun e2=>absurd (x4 (y4 e2).1).2 (by rw [hb]; decide)⟩),x6⟩⟩
  ·rintro b a wy hb hd ⟨z10,z32,z33,z34,z35,z36,z37,z38,z39,z40,z41,rfl,HV,HW,HX⟩ K hK
   obtain ⟨h0,h1,h2,h3,h5,h6⟩:=HV.out
   simp [Region.binds] at hd
   obtain rfl:=h0 (by simp [hd])
   obtain rfl:=h1 (by simp [hd])
   have dd8:b 8=true:=by simp [hd]
   clear hd
   obtain ⟨g1,g2,d1,g3,g4,d3,x1,x2,x3,x4,x5,x6⟩:=HX.out
   obtain ⟨rfl,d7⟩:=x3 dd8
   obtain ⟨d4,rfl,hx2,n13,n24⟩:=x2 d7
   obtain ⟨rfl,hx1⟩:=x1 d4
   go_simp
   exact hK _ _ ⟨_,_,_,_,_,_,_,_,_,_,_,rfl,hid ⟨h0,h1,h2,h3,h5,h6⟩,HW,hid ⟨g1,g2,d1,g3,g4,d3,fun _=>⟨rfl,hx1⟩,fun _=>⟨d4,rfl,hx2,n13,n24⟩,fun _=>⟨rfl,d7⟩,fun _=>⟨rfl,dd8⟩,fun e=>(by obtain ⟨r,y1,y2,y3,y4⟩:=x5 e; exact ⟨r,y1,y2,y3,fun e2=>absurd (y4 e2).1 (by rw [hb]; decide)⟩),x6⟩⟩
  ·rintro b a wy hb hd ⟨z10,z32,z33,z34,z35,z36,z37,z38,z39,z40,z41,rfl,HV,HW,HX⟩ K hK
   obtain ⟨h0,h1,h2,h3,h5,h6⟩:=HV.out
   clear hd
   obtain ⟨g1,g2,d1,g3,g4,d3,x1,x2,x3,x4,x5,x6⟩:=HX.out
   have hwz:=work_zero wy
   go_simp
   have B2:=(Below.refl wy.heap.size wy).alloc (Nat.le_refl _) (.cells (List.toArray [.pointer none,.pointer none,.slice none 0 0,.slice none 0 0,.slice none 0 0,.slice none 0 0]) 297)
   have R2:=alloc_rowV wy 297 [.pointer none,.pointer none,.slice none 0 0,.slice none 0 0,.slice none 0 0,.slice none 0 0]
   exact hK _ _ ⟨_,_,_,_,_,_,_,_,_,_,_,rfl,hid ⟨h0,h1,h2,h3,h5,h6⟩,hid (HW.out.trans (B2.mono HW.out.size)),hid ⟨g1,g2,d1,g3,g4,d3,fun e=>⟨(x1 e).1,(x1 e).2.kept B2⟩,fun e=>⟨(x2 e).1,(x2 e).2.1,(x2 e).2.2.1.kept B2,(x2 e).2.2.2⟩,x3,x4,fun _=>⟨wy.heap.size,rfl,HW.out.size,fun _=>R2,fun e=>absurd (x6 e) (by rw [hb]; decide)⟩,fun _=>rfl⟩⟩
  ·rintro b a wy hb hd ⟨z10,z32,z33,z34,z35,z36,z37,z38,z39,z40,z41,rfl,HV,HW,HX⟩ K hK
   obtain ⟨h0,h1,h2,h3,h5,h6⟩:=HV.out
   simp [Region.binds] at hd
   have dd10:b 10=true:=by simp [hd]
   have dd9:b 9=true:=by simp [hd]
   clear hd
   obtain ⟨g1,g2,d1,g3,g4,d3,x1,x2,x3,x4,x5,x6⟩:=HX.out
   obtain ⟨r,rfl,hr1,hr2,_⟩:=x5 dd10
   obtain ⟨rfl,d8⟩:=x4 dd9
   have hr:=hr2 hb
   have hrz:=hid hr1
   have q0:=hr.cellAt (i:=0) rfl
   have q1:=hr.cellAt (i:=1) rfl
   have q2:=hr.cellAt (i:=2) rfl
   have q3:=hr.cellAt (i:=3) rfl
   have q4:=hr.cellAt (i:=4) rfl
   have q5:=hr.cellAt (i:=5) rfl
   have fz0:=hr.free 0
   have fz1:=hr.free 1
   have fz2:=hr.free 2
   have fz3:=hr.free 3
   have fz4:=hr.free 4
   have fz5:=hr.free 5
   have HU:=hid ((((((ButL.set wy r 0 (.pointer (some ⟨ta,0,none⟩))).trans (ButL.set _ r 1 (.pointer (some ⟨p,0,none⟩)))).trans (ButL.set _ r 2 (.slice (some ⟨g1,0,none⟩) l1.length d1))).trans (ButL.set _ r 3 (.slice (some ⟨g2,0,none⟩) l1.length l1.length))).trans (ButL.set _ r 4 (.slice (some ⟨g3,0,none⟩) l2.length d3))).trans (ButL.set _ r 5 (.slice (some ⟨g4,0,none⟩) l2.length l2.length)))
   have HA3:=hid (show RowV ((((((wy.setCell ⟨r,0,none⟩ (.pointer (some ⟨ta,0,none⟩))).setCell ⟨r,1,none⟩ (.pointer (some ⟨p,0,none⟩))).setCell ⟨r,2,none⟩ (.slice (some ⟨g1,0,none⟩) l1.length d1)).setCell ⟨r,3,none⟩ (.slice (some ⟨g2,0,none⟩) l1.length l1.length)).setCell ⟨r,4,none⟩ (.slice (some ⟨g3,0,none⟩) l2.length d3)).setCell ⟨r,5,none⟩ (.slice (some ⟨g4,0,none⟩) l2.length l2.length)) r 297 [.pointer (some ⟨ta,0,none⟩),.pointer (some ⟨p,0,none⟩),.slice (some ⟨g1,0,none⟩) l1.length d1,.slice (some ⟨g2,0,none⟩) l1.length l1.length,.slice (some ⟨g3,0,none⟩) l2.length d3,.slice (some ⟨g4,0,none⟩) l2.length l2.length] from ((((((hr.set 0 (.pointer (some ⟨ta,0,none⟩))).set 1 (.pointer (some ⟨p,0,none⟩))).set 2 (.slice (some ⟨g1,0,none⟩) l1.length d1)).set 3 (.slice (some ⟨g2,0,none⟩) l1.length l1.length)).set 4 (.slice (some ⟨g3,0,none⟩) l2.length d3)).set 5 (.slice (some ⟨g4,0,none⟩) l2.length l2.length)))
   obtain ⟨rfl,d7⟩:=x3 d8
   obtain ⟨d4,rfl,hx2,n13,n24⟩:=x2 d7
   obtain ⟨rfl,hx1⟩:=x1 d4
   have f1:=hx1.row_far hr
   have f2:=hx2.row_far hr
   have HX1:=hid (hx1.blocks (w':=((((((wy.setCell ⟨r,0,none⟩ (.pointer (some ⟨ta,0,none⟩))).setCell ⟨r,1,none⟩ (.pointer (some ⟨p,0,none⟩))).setCell ⟨r,2,none⟩ (.slice (some ⟨g1,0,none⟩) l1.length d1)).setCell ⟨r,3,none⟩ (.slice (some ⟨g2,0,none⟩) l1.length l1.length)).setCell ⟨r,4,none⟩ (.slice (some ⟨g3,0,none⟩) l2.length d3)).setCell ⟨r,5,none⟩ (.slice (some ⟨g4,0,none⟩) l2.length l2.length))) (HU.out.block _ hx1.lt1 (by simp; exact Ne.symm f1.1)) (HU.out.block _ hx1.lt2 (by simp; exact Ne.symm f1.2)))
   have HX2:=hid (hx2.blocks (w':=((((((wy.setCell ⟨r,0,none⟩ (.pointer (some ⟨ta,0,none⟩))).setCell ⟨r,1,none⟩ (.pointer (some ⟨p,0,none⟩))).setCell ⟨r,2,none⟩ (.slice (some ⟨g1,0,none⟩) l1.length d1)).setCell ⟨r,3,none⟩ (.slice (some ⟨g2,0,none⟩) l1.length l1.length)).setCell ⟨r,4,none⟩ (.slice (some ⟨g3,0,none⟩) l2.length d3)).setCell ⟨r,5,none⟩ (.slice (some ⟨g4,0,none⟩) l2.length l2.length))) (HU.out.block _ hx2.lt1 (by simp; exact Ne.symm f2.1)) (HU.out.block _ hx2.lt2 (by simp; exact Ne.symm f2.2)))
   have HD:=hid (And.intro d4 (And.intro d7 (And.intro d8 (And.intro dd9 (And.intro dd10 (And.intro n13 n24))))))
   have HRR:=hid hr1
   clear x1 x2 x3 x4 x5 x6 hr2 hr hx1 hx2 n13 n24 f1 f2 d4 d7 d8 dd9 dd10 hr1 HX
   go_simp
   have HW6:=hid (HW.out.trans (HU.out.below (B:=w2.heap.size) (by simp; exact hrz.out) HW.out.size))
   exact hK _ _ ⟨_,_,_,_,_,_,_,_,_,_,_,rfl,hid ⟨h0,h1,h2,h3,h5,h6⟩,HW6,hid ⟨g1,g2,d1,g3,g4,d3,fun _=>⟨rfl,HX1.out⟩,fun _=>⟨HD.out.1,rfl,HX2.out,HD.out.2.2.2.2.2⟩,fun _=>⟨rfl,HD.out.2.1⟩,fun _=>⟨rfl,HD.out.2.2.1⟩,fun _=>⟨r,rfl,HRR.out,fun e=>(by cases e),fun _=>⟨HD.out.2.2.2.1,HA3.out⟩⟩,fun _=>HD.out.2.2.2.2.1⟩⟩
 case doneE1 =>
  rintro b a wy hb ⟨z10,z32,z33,z34,z35,z36,z37,z38,z39,z40,z41,rfl,HV,HW,HX⟩
  obtain ⟨h0,h1,h2,h3,h5,h6⟩:=HV.out
  obtain rfl:=h0 (hb 0)
  obtain rfl:=h1 (hb 1)
  obtain rfl:=h2 (hb 2)
  obtain rfl:=h3 (hb 3)
  obtain rfl:=h5 (hb 5)
  obtain rfl:=h6 (hb 6)
  clear HV h0 h1 h2 h3 h5 h6
  obtain ⟨g1,g2,d1,g3,g4,d3,x1,x2,x3,x4,x5,x6⟩:=HX.out
  obtain ⟨r,rfl,hr1,_,hr2⟩:=x5 (hb 10)
  obtain ⟨rfl,d8⟩:=x4 (hb 9)
  obtain ⟨rfl,d7⟩:=x3 (hb 8)
  obtain ⟨_,rfl,hx2,n13,n24⟩:=x2 (hb 7)
  obtain ⟨rfl,hx1⟩:=x1 (hb 4)
  obtain ⟨A,hA⟩ : ∃A:Adr,A=⟨r,ta,cb,mb,c,p,g1,g2,g3,g4,d1,l1.length,d3,l2.length⟩:=⟨_,rfl⟩
  have HWK:=hid (show WkAt wy ⟨r,ta,cb,mb,c,p,g1,g2,g3,g4,d1,l1.length,d3,l2.length⟩ w.heap.size (begin q l1 l2) from ⟨(hr2 (hb 11)).2,HK2.out.kept HW.out,hx1,hx2,n13,n24⟩)
  have HLO:=hid (And.intro (Nat.le_trans HB2.out.size hr1) (And.intro hx1.lo1 (And.intro hx1.lo2 (And.intro hx2.lo1 hx2.lo2))))
  have HR5:=hid (HR4.out.below HR4.out.lt HW.out)
  have HB3:=hid (HB2.out.trans (HW.out.mono HB2.out.size))
  rw [← hA] at HWK
  have HA:=hid hA
  have HrA:=hid (show r=A.W by rw [hA])
  clear x1 x2 x3 x4 x5 x6 hr1 hr2 hx1 hx2 n13 n24 d7 d8 hb HX hA HW HR3 HR4 HK2 HS1 HS2 HLT
  unfold pgv
  go_wp2_with fail
  go_loopg [42] (begin q l1 l2).left (fun g s42 wr => ∃x:Wk,g=x.left∧Hid ((begin q l1 l2).Goes x)∧Hid (WkAt wr A w.heap.size x)∧Hid (ButL wy wr A.list))
  case atStart=>exact ⟨begin q l1 l2,rfl,hid (.none _),HWK,hid (ButL.refl _ _)⟩
  case round =>
   obtain ⟨x,hgl,HGo,HWx,HBx⟩:=hrel
   have HGx:=hid (HGo.out.good HG.out)
   have hst:=step_any HWx.out HGx.out
   rw [← HrA.out] at hst
   go_wp2_with fail
   refine hst.mono ?_
   rintro e w4 ⟨ok,y,rfl,hs1,hs2,hwk,hbl⟩
   have HWy:=hid hwk
   have HBy:=hid (HBx.out.trans hbl)
   cases ok
   ·obtain ⟨hend,rfl⟩:=hs2 rfl
    have HE:=hid hend
    clear hst hs1 hs2 hwk hbl hend HBx HWx
    have hlen:=HGo.out.len
    have hl1y:y.l1.length=l1.length:=hlen.1
    have hl2y:y.l2.length=l2.length:=hlen.2
    have hk:=HWy.out
    rw [HA.out] at hk
    have HROW:Hid (RowV w4 r 297 [.pointer (some ⟨ta,0,none⟩),.pointer (some ⟨p,0,none⟩),.slice (some ⟨g1,0,none⟩) l1.length d1,.slice (some ⟨g2,0,none⟩) l1.length l1.length,.slice (some ⟨g3,0,none⟩) l2.length d3,.slice (some ⟨g4,0,none⟩) l2.length l2.length]):=hid (by have h9:=hk.row; unfold wcells at h9; rw [hl1y,hl2y] at h9; exact h9)
    have HPA:=hid (show PAt w4 p ta cb mb c y.q from hk.pat)
    have HP1:=hid (show PgAt w4 g1 g2 d1 l1.length w.heap.size y.l1 y.f1 from hk.pg1)
    have HP2:=hid (show PgAt w4 g3 g4 d3 l2.length w.heap.size y.l2 y.f2 from hk.pg2)
    have HSZ:=HBy.out.size
    have HLY:=hid hlen
    have HBB:Hid (ButL w w4 [cb,mb,p]):=hid ((ButL.of_below [cb,mb,p] HB3.out (Nat.le_refl _)).join HBy.out (fun z hz=>by
     rw [HA.out] at hz
     simp [Adr.list] at hz
     rcases hz with rfl | rfl | rfl | rfl | rfl | rfl | rfl
     ·simp
     ·simp
     ·simp
     ·exact .inr HLO.out.2.1
     ·exact .inr HLO.out.2.2.1
     ·exact .inr HLO.out.2.2.2.1
     ·exact .inr HLO.out.2.2.2.2))
    have HR6:=hid (HR5.out.block (HBy.out.block _ HR5.out.lt (HWK.out.far HR5.out (by decide) (by decide) (by decide) (by decide) (by decide))))
    clear hk hlen hl1y hl2y
    go_upto_region 9 with (fail)
    refine Inv2.wp_region_inv (fun b a wy => ∃z11 z12 z43 z44 z45 z46 z47 z48,a=⟨(List.toArray (.pointer (some ⟨ta,0,none⟩) :: .pointer (some ⟨p,0,none⟩) :: .agg #[.slice (some ⟨b1,o1,none⟩) l1.length c1,.slice (some ⟨b2,o2,none⟩) l2.length c2] :: undef :: undef :: .pointer (some ⟨w.heap.size,0,none⟩) :: .pointer (some ⟨w.heap.size+1,0,none⟩) :: .slice none 0 0 :: .slice none 0 0 :: .int .i64 0 :: .pointer (some ⟨r,0,none⟩) :: z11 :: z12 :: .bool false :: .pointer (some ⟨ta,0,none⟩) :: .int .i64 (q.s.n:Int) :: .bool false :: undef :: .bool false :: .pointer (some ⟨ta,0,none⟩) :: .agg #[.slice (some ⟨b1,o1,none⟩) l1.length c1,.slice (some ⟨b2,o2,none⟩) l2.length c2] :: .bool true :: .bool false :: undef :: .bool false :: .pointer (some ⟨p,0,none⟩) :: .int .i64 (q.room:Int) :: .pointer (some ⟨ta,0,none⟩) :: .int .i64 (q.s.n:Int) :: .int .i64 (need q.s.n:Int) :: .bool false :: undef :: .pointer (some ⟨ta,0,none⟩) :: .pointer (some ⟨p,0,none⟩) :: .pointer (some ⟨w.heap.size,0,none⟩) :: .slice (some ⟨b1,o1,none⟩) l1.length c1 :: .agg #[.slice (some ⟨g1,0,none⟩) l1.length d1,.slice (some ⟨g2,0,none⟩) l1.length l1.length] :: .pointer (some ⟨w.heap.size,1,none⟩) :: .slice (some ⟨b2,o2,none⟩) l2.length c2 :: .agg #[.slice (some ⟨g3,0,none⟩) l2.length d3,.slice (some ⟨g4,0,none⟩) l2.length l2.length] :: .agg #[.slice (some ⟨g1,0,none⟩) l1.length d1,.slice (some ⟨g2,0,none⟩) l1.length l1.length,.slice (some ⟨g3,0,none⟩) l2.length d3,.slice (some ⟨g4,0,none⟩) l2.length l2.length] :: .agg #[.pointer (some ⟨ta,0,none⟩),.pointer (some ⟨p,0,none⟩),.slice (some ⟨g1,0,none⟩) l1.length d1,.slice (some ⟨g2,0,none⟩) l1.length l1.length,.slice (some ⟨g3,0,none⟩) l2.length d3,.slice (some ⟨g4,0,none⟩) l2.length l2.length] :: .bool false :: z43 :: z44 :: z45 :: z46 :: z47 :: z48 :: undef :: undef :: undef :: undef :: undef :: undef :: undef :: undef :: undef :: [])),[]⟩∧Hid ((b 0=true→z43 = .pointer (some ⟨r,2,none⟩))∧(b 1=true→z44 = .pointer (some ⟨r,2,none⟩))∧(b 2=true→z45 = .agg #[.slice (some ⟨g1,0,none⟩) l1.length d1,.slice (some ⟨g2,0,none⟩) l1.length l1.length])∧(b 3=true→z46 = .pointer (some ⟨r,2,none⟩))∧(b 4=true→z47 = .pointer (some ⟨r,4,none⟩))∧(b 5=true→z48 = .agg #[.slice (some ⟨g3,0,none⟩) l2.length d3,.slice (some ⟨g4,0,none⟩) l2.length l2.length]))∧Hid (Below w4.heap.size w4 wy)∧Hid ((b 6=true → ∃r1,z11 = .pointer (some ⟨r1,0,none⟩)∧r1<wy.heap.size∧w4.heap.size≤r1∧(b 8=false→RowV wy r1 293 [.slice none 0 0,.slice none 0 0])∧(b 8=true→RowV wy r1 293 [.slice (some ⟨g1,0,none⟩) l1.length d1,.slice (some ⟨g2,0,none⟩) l1.length l1.length]))∧(b 7=true → ∃r2,z12 = .pointer (some ⟨r2,0,none⟩)∧r2<wy.heap.size∧w4.heap.size≤r2∧(b 9=false→RowV wy r2 293 [.slice none 0 0,.slice none 0 0])∧(b 9=true→RowV wy r2 293 [.slice (some ⟨g3,0,none⟩) l2.length d3,.slice (some ⟨g4,0,none⟩) l2.length l2.length]))∧(b 6=true→b 7=true→z11≠z12)∧(b 8=true→b 6=true)∧(b 9=true→b 7=true))) (by kernel_rfl) (by kernel_rfl) ?startE2 ?stepsE2 ?doneE2
    case startE2 =>
     intro b hb
     refine ⟨undef,undef,undef,undef,undef,undef,undef,undef,rfl,hid ⟨?_,?_,?_,?_,?_,?_⟩,hid ((show Still w4 w4.drew from ⟨rfl,rfl,rfl,rfl⟩).below _),hid (⟨(fun e=>by rw [hb _ (by decide)] at e; cases e),(fun e=>by rw [hb _ (by decide)] at e; cases e),(fun e=>by rw [hb _ (by decide)] at e; cases e),(fun e=>by rw [hb _ (by decide)] at e; cases e),(fun e=>by rw [hb _ (by decide)] at e; cases e)⟩)⟩
     all_goals (intro e; first | rfl | (rw [hb _ (by decide)] at e; cases e))
    case stepsE2 =>
     refine ⟨?_,?_,?_,?_,?_,?_,?_,?_,?_,?_,trivial⟩
     ·rintro b a wy hb hd ⟨z11,z12,z43,z44,z45,z46,z47,z48,rfl,HV,HW,HX⟩ K hK
      obtain ⟨h0,h1,h2,h3,h4,h5⟩:=HV.out
      clear hd
      go_simp
      exact hK _ _ ⟨_,_,_,_,_,_,_,_,rfl,hid ⟨fun _=>rfl,h1,h2,h3,h4,h5⟩,HW,HX⟩
     ·rintro b a wy hb hd ⟨z11,z12,z43,z44,z45,z46,z47,z48,rfl,HV,HW,HX⟩ K hK
      obtain ⟨h0,h1,h2,h3,h4,h5⟩:=HV.out
      simp [Region.binds] at hd
      obtain rfl:=h0 (by simp [hd])
      clear hd
      go_simp
      exact hK _ _ ⟨_,_,_,_,_,_,_,_,rfl,hid ⟨h0,fun _=>rfl,h2,h3,h4,h5⟩,HW,HX⟩
     ·rintro b a wy hb hd ⟨z11,z12,z43,z44,z45,z46,z47,z48,rfl,HV,HW,HX⟩ K hK
      obtain ⟨h0,h1,h2,h3,h4,h5⟩:=HV.out
      simp [Region.binds] at hd
      obtain rfl:=h1 (by simp [hd])
      clear hd
      have hrw:=HROW.out.below HROW.out.lt HW.out
      have q0:=hrw.cellAt (i:=2) rfl
      have q1:=hrw.cellAt (i:=3) rfl
      clear hrw
      go_simp
      exact hK _ _ ⟨_,_,_,_,_,_,_,_,rfl,hid ⟨h0,h1,fun _=>rfl,h3,h4,h5⟩,HW,HX⟩
     ·rintro b a wy hb hd ⟨z11,z12,z43,z44,z45,z46,z47,z48,rfl,HV,HW,HX⟩ K hK
      obtain ⟨h0,h1,h2,h3,h4,h5⟩:=HV.out
      clear hd
      go_simp
      exact hK _ _ ⟨_,_,_,_,_,_,_,_,rfl,hid ⟨h0,h1,h2,fun _=>rfl,h4,h5⟩,HW,HX⟩
     ·rintro b a wy hb hd ⟨z11,z12,z43,z44,z45,z46,z47,z48,rfl,HV,HW,HX⟩ K hK
      obtain ⟨h0,h1,h2,h3,h4,h5⟩:=HV.out
      simp [Region.binds] at hd
      obtain rfl:=h3 (by simp [hd])
      clear hd
      go_simp
      exact hK _ _ ⟨_,_,_,_,_,_,_,_,rfl,hid ⟨h0,h1,h2,h3,fun _=>rfl,h5⟩,HW,HX⟩
     ·rintro b a wy hb hd ⟨z11,z12,z43,z44,z45,z46,z47,z48,rfl,HV,HW,HX⟩ K hK
      obtain ⟨h0,h1,h2,h3,h4,h5⟩:=HV.out
      simp [Region.binds] at hd
      obtain rfl:=h4 (by simp [hd])
      clear hd
      have hrw:=HROW.out.below HROW.out.lt HW.out
      have q0:=hrw.cellAt (i:=4) rfl
      have q1:=hrw.cellAt (i:=5) rfl
      clear hrw
      go_simp
      exact hK _ _ ⟨_,_,_,_,_,_,_,_,rfl,hid ⟨h0,h1,h2,h3,h4,fun _=>rfl⟩,HW,HX⟩
     ·rintro b a wy hb hd ⟨z11,z12,z43,z44,z45,z46,z47,z48,rfl,HV,HW,HX⟩ K hK
      obtain ⟨h0,h1,h2,h3,h4,h5⟩:=HV.out
      clear hd
      obtain ⟨x1,x2,x3,x4,x5⟩:=HX.out
      have hwz:=pages_zero wy
      go_simp
      have B2:=(Below.refl wy.heap.size wy).alloc (Nat.le_refl _) (.cells #[.slice none 0 0,.slice none 0 0] 293)
      have R2:=alloc_rowV wy 293 [.slice none 0 0,.slice none 0 0]
      exact hK _ _ ⟨_,_,_,_,_,_,_,_,rfl,hid ⟨h0,h1,h2,h3,h4,h5⟩,hid (HW.out.trans (B2.mono HW.out.size)),hid ⟨fun _=>⟨wy.heap.size,rfl,R2.lt,HW.out.size,fun _=>R2,fun e=>absurd (x4 e) (by rw [hb]; decide)⟩,fun e=>(by obtain ⟨r0,y1,y2,y3,y4,y5⟩:=x2 e; exact ⟨r0,y1,Nat.lt_of_lt_of_le y2 (B2).size,y3,fun e2=>(y4 e2).below (y4 e2).lt B2,fun e2=>(y5 e2).below (y5 e2).lt B2⟩),fun _ e7=>(by obtain ⟨r0,y1,y2,_⟩:=x2 e7; rw [y1]; intro h; simp at h <;> omega),fun _=>rfl,x5⟩⟩
     ·rintro b a wy hb hd ⟨z11,z12,z43,z44,z45,z46,z47,z48,rfl,HV,HW,HX⟩ K hK
      obtain ⟨h0,h1,h2,h3,h4,h5⟩:=HV.out
      clear hd
      obtain ⟨x1,x2,x3,x4,x5⟩:=HX.out
      have hwz:=pages_zero wy
      go_simp
      have B2:=(Below.refl wy.heap.size wy).alloc (Nat.le_refl _) (.cells #[.slice none 0 0,.slice none 0 0] 293)
      have R2:=alloc_rowV wy 293 [.slice none 0 0,.slice none 0 0]
      exact hK _ _ ⟨_,_,_,_,_,_,_,_,rfl,hid ⟨h0,h1,h2,h3,h4,h5⟩,hid (HW.out.trans (B2.mono HW.out.size)),hid ⟨fun e=>(by obtain ⟨r0,y1,y2,y3,y4,y5⟩:=x1 e; exact ⟨r0,y1,Nat.lt_of_lt_of_le y2 (B2).size,y3,fun e2=>(y4 e2).below (y4 e2).lt B2,fun e2=>(y5 e2).below (y5 e2).lt B2⟩),fun _=>⟨wy.heap.size,rfl,R2.lt,HW.out.size,fun _=>R2,fun e=>absurd (x5 e) (by rw [hb]; decide)⟩,fun e6 _=>(by obtain ⟨r0,y1,y2,_⟩:=x1 e6; rw [y1]; intro h; simp at h <;> omega),x4,fun _=>rfl⟩⟩
     ·rintro b a wy hb hd ⟨z11,z12,z43,z44,z45,z46,z47,z48,rfl,HV,HW,HX⟩ K hK
      obtain ⟨h0,h1,h2,h3,h4,h5⟩:=HV.out
      simp [Region.binds] at hd
      have dd6:b 6=true:=by simp [hd]
      obtain rfl:=h2 (by simp [hd])
      clear hd
      obtain ⟨x1,x2,x3,x4,x5⟩:=HX.out
      obtain ⟨r0,hz0,hlt0,hr0,hr1,_⟩:=x1 dd6
      subst hz0
      have hr:=hr1 hb
      have q0:=hr.cellAt (i:=0) rfl
      have q1:=hr.cellAt (i:=1) rfl
      have fz0:=hr.free 0
      have fz1:=hr.free 1
      have HA3:=hid ((hr.set 0 (.slice (some ⟨g1,0,none⟩) l1.length d1)).set 1 (.slice (some ⟨g2,0,none⟩) l1.length l1.length))
      have HU:=hid ((ButL.set wy r0 0 (.slice (some ⟨g1,0,none⟩) l1.length d1)).trans (ButL.set _ r0 1 (.slice (some ⟨g2,0,none⟩) l1.length l1.length)))
      have HD:=hid dd6
      have HRR:=hid (And.intro hr0 hlt0)
      have HXX:=hid (And.intro x1 (And.intro x2 (And.intro x3 (And.intro x4 x5))))
      clear x1 x2 x3 x4 x5 hr hr1 hr0 hlt0 dd6 HX
      go_simp
      have HW6:=hid (HW.out.trans (HU.out.below (B:=w4.heap.size) (by simp; exact HRR.out.1) HW.out.size))
      exact hK _ _ ⟨_,_,_,_,_,_,_,_,rfl,hid ⟨h0,h1,h2,h3,h4,h5⟩,HW6,hid ⟨fun _=>⟨r0,rfl,Nat.lt_of_lt_of_le HRR.out.2 HU.out.size,HRR.out.1,fun e=>(by cases e),fun _=>HA3.out⟩,fun e=>(by obtain ⟨r9,y1,y2,y3,y4,y5⟩:=HXX.out.2.1 e; have hne:r9≠r0:=(fun h=>HXX.out.2.2.1 HD.out e (by rw [y1,h])); exact ⟨r9,y1,Nat.lt_of_lt_of_le y2 HU.out.size,y3,fun e2=>(y4 e2).block (HU.out.block _ (y4 e2).lt (by simp; exact hne)),fun e2=>(y5 e2).block (HU.out.block _ (y5 e2).lt (by simp; exact hne))⟩),HXX.out.2.2.1,fun _=>HD.out,HXX.out.2.2.2.2⟩⟩
     ·rintro b a wy hb hd ⟨z11,z12,z43,z44,z45,z46,z47,z48,rfl,HV,HW,HX⟩ K hK
      obtain ⟨h0,h1,h2,h3,h4,h5⟩:=HV.out
      simp [Region.binds] at hd
      have dd7:b 7=true:=by simp [hd]
      obtain rfl:=h5 (by simp [hd])
      clear hd
      obtain ⟨x1,x2,x3,x4,x5⟩:=HX.out
      obtain ⟨r0,hz0,hlt0,hr0,hr1,_⟩:=x2 dd7
      subst hz0
      have hr:=hr1 hb
      have q0:=hr.cellAt (i:=0) rfl
      have q1:=hr.cellAt (i:=1) rfl
      have fz0:=hr.free 0
      have fz1:=hr.free 1
      have HA3:=hid ((hr.set 0 (.slice (some ⟨g3,0,none⟩) l2.length d3)).set 1 (.slice (some ⟨g4,0,none⟩) l2.length l2.length))
      have HU:=hid ((ButL.set wy r0 0 (.slice (some ⟨g3,0,none⟩) l2.length d3)).trans (ButL.set _ r0 1 (.slice (some ⟨g4,0,none⟩) l2.length l2.length)))
      have HD:=hid dd7
      have HRR:=hid (And.intro hr0 hlt0)
      have HXX:=hid (And.intro x1 (And.intro x2 (And.intro x3 (And.intro x4 x5))))
      clear x1 x2 x3 x4 x5 hr hr1 hr0 hlt0 dd7 HX
      go_simp
      have HW6:=hid (HW.out.trans (HU.out.below (B:=w4.heap.size) (by simp; exact HRR.out.1) HW.out.size))
      exact hK _ _ ⟨_,_,_,_,_,_,_,_,rfl,hid ⟨h0,h1,h2,h3,h4,h5⟩,HW6,hid ⟨fun e=>(by obtain ⟨r9,y1,y2,y3,y4,y5⟩:=HXX.out.1 e; have hne:r9≠r0:=(fun h=>HXX.out.2.2.1 e HD.out (by rw [y1,h])); exact ⟨r9,y1,Nat.lt_of_lt_of_le y2 HU.out.size,y3,fun e2=>(y4 e2).block (HU.out.block _ (y4 e2).lt (by simp; exact hne)),fun e2=>(y5 e2).block (HU.out.block _ (y5 e2).lt (by simp; exact hne))⟩),fun _=>⟨r0,rfl,Nat.lt_of_lt_of_le HRR.out.2 HU.out.size,HRR.out.1,fun e=>(by cases e),fun _=>HA3.out⟩,HXX.out.2.2.1,HXX.out.2.2.2.1,fun _=>HD.out⟩⟩
    case doneE2 =>
     rintro b a w5 hb ⟨z11,z12,z43,z44,z45,z46,z47,z48,rfl,HV,HW,HX⟩
     obtain ⟨h0,h1,h2,h3,h4,h5⟩:=HV.out
     obtain rfl:=h0 (hb 0)
     obtain rfl:=h1 (hb 1)
     obtain rfl:=h2 (hb 2)
     obtain rfl:=h3 (hb 3)
     obtain rfl:=h4 (hb 4)
     obtain rfl:=h5 (hb 5)
     clear HV h0 h1 h2 h3 h4 h5
     obtain ⟨x1,x2,x3,_,_⟩:=HX.out
     obtain ⟨r1,rfl,_,hlo1,_,hr1⟩:=x1 (hb 6)
     obtain ⟨r2,rfl,_,hlo2,_,hr2⟩:=x2 (hb 7)
     have HC:=hid (hr1 (hb 8))
     have HDD:=hid (hr2 (hb 9))
     have HWW:=HW
     have HPB:=hid (HPA.out.kept HW.out)
     have HPC:=hid (HP1.out.kept HW.out)
     have HPD:=hid (HP2.out.kept HW.out)
     have HR7:=hid (HR6.out.below HR6.out.lt HW.out)
     have HBC:=hid (HBB.out.trans (ButL.of_below [cb,mb,p] HW.out (Nat.le_refl _)))
     clear x1 x2 x3 hlo1 hlo2 hr1 hr2 hb HX HPA HP1 HP2 HR6 HBB
     go_upto_region 10 with (fail)
     refine Inv2.wp_region_inv (fun b a wy => ∃z7 z8 z9 z49 z50 z51 z52 z53 z54 z55 z56 z57,a=⟨(List.toArray (.pointer (some ⟨ta,0,none⟩) :: .pointer (some ⟨p,0,none⟩) :: .agg #[.slice (some ⟨b1,o1,none⟩) l1.length c1,.slice (some ⟨b2,o2,none⟩) l2.length c2] :: undef :: undef :: .pointer (some ⟨w.heap.size,0,none⟩) :: .pointer (some ⟨w.heap.size+1,0,none⟩) :: z7 :: z8 :: z9 :: .pointer (some ⟨r,0,none⟩) :: .pointer (some ⟨r1,0,none⟩) :: .pointer (some ⟨r2,0,none⟩) :: .bool false :: .pointer (some ⟨ta,0,none⟩) :: .int .i64 (q.s.n:Int) :: .bool false :: undef :: .bool false :: .pointer (some ⟨ta,0,none⟩) :: .agg #[.slice (some ⟨b1,o1,none⟩) l1.length c1,.slice (some ⟨b2,o2,none⟩) l2.length c2] :: .bool true :: .bool false :: undef :: .bool false :: .pointer (some ⟨p,0,none⟩) :: .int .i64 (q.room:Int) :: .pointer (some ⟨ta,0,none⟩) :: .int .i64 (q.s.n:Int) :: .int .i64 (need q.s.n:Int) :: .bool false :: undef :: .pointer (some ⟨ta,0,none⟩) :: .pointer (some ⟨p,0,none⟩) :: .pointer (some ⟨w.heap.size,0,none⟩) :: .slice (some ⟨b1,o1,none⟩) l1.length c1 :: .agg #[.slice (some ⟨g1,0,none⟩) l1.length d1,.slice (some ⟨g2,0,none⟩) l1.length l1.length] :: .pointer (some ⟨w.heap.size,1,none⟩) :: .slice (some ⟨b2,o2,none⟩) l2.length c2 :: .agg #[.slice (some ⟨g3,0,none⟩) l2.length d3,.slice (some ⟨g4,0,none⟩) l2.length l2.length] :: .agg #[.slice (some ⟨g1,0,none⟩) l1.length d1,.slice (some ⟨g2,0,none⟩) l1.length l1.length,.slice (some ⟨g3,0,none⟩) l2.length d3,.slice (some ⟨g4,0,none⟩) l2.length l2.length] :: .agg #[.pointer (some ⟨ta,0,none⟩),.pointer (some ⟨p,0,none⟩),.slice (some ⟨g1,0,none⟩) l1.length d1,.slice (some ⟨g2,0,none⟩) l1.length l1.length,.slice (some ⟨g3,0,none⟩) l2.length d3,.slice (some ⟨g4,0,none⟩) l2.length l2.length] :: .bool false :: .pointer (some ⟨r,2,none⟩) :: .pointer (some ⟨r,2,none⟩) :: .agg #[.slice (some ⟨g1,0,none⟩) l1.length d1,.slice (some ⟨g2,0,none⟩) l1.length l1.length] :: .pointer (some ⟨r,2,none⟩) :: .pointer (some ⟨r,4,none⟩) :: .agg #[.slice (some ⟨g3,0,none⟩) l2.length d3,.slice (some ⟨g4,0,none⟩) l2.length l2.length] :: z49 :: z50 :: z51 :: z52 :: z53 :: z54 :: z55 :: z56 :: z57 :: [])),[]⟩∧Hid ((b 0=true→z49 = .pointer (some ⟨r1,0,none⟩))∧(b 1=true→z50 = .slice (some ⟨g1,0,none⟩) l1.length d1)∧(b 2=true→z51 = .pointer (some ⟨r2,0,none⟩))∧(b 3=true→z52 = .slice (some ⟨g3,0,none⟩) l2.length d3)∧(b 4=true→z53 = .agg #[.slice (some ⟨g1,0,none⟩) l1.length d1,.slice (some ⟨g3,0,none⟩) l2.length d3])∧(b 5=true→z54 = .agg #[.slice (some ⟨g1,0,none⟩) l1.length d1,.slice (some ⟨g2,0,none⟩) l1.length l1.length])∧(b 7=true→z56 = .agg #[.slice (some ⟨g3,0,none⟩) l2.length d3,.slice (some ⟨g4,0,none⟩) l2.length l2.length])∧(b 12=true→z9 = .int .i64 0))∧Hid (Below 0 w5 wy)∧Hid ((b 6=true→List64 wy z55 (doneL y.f1))∧(b 8=true→List64 wy z57 (doneL y.f2))∧(b 10=true→z7=z55∧b 6=true)∧(b 11=true→z8=z57∧b 8=true)∧(b 9=false→RowV wy (w.heap.size+1) 65 [.slice none 0 0,.slice none 0 0])∧(b 9=true→RowV wy (w.heap.size+1) 65 [.slice (some ⟨g1,0,none⟩) l1.length d1,.slice (some ⟨g3,0,none⟩) l2.length d3])∧ButL w5 wy [w.heap.size+1])) (by kernel_rfl) (by kernel_rfl) ?startE3 ?stepsE3 ?doneE3
     case startE3 =>
      intro b hb
      refine ⟨.slice none 0 0,.slice none 0 0,.int .i64 0,undef,undef,undef,undef,undef,undef,undef,undef,undef,rfl,hid ⟨?_,?_,?_,?_,?_,?_,?_,?_⟩,hid ((show Still w5 w5.drew from ⟨rfl,rfl,rfl,rfl⟩).below _),hid (⟨(fun e=>by rw [hb _ (by decide)] at e; cases e),(fun e=>by rw [hb _ (by decide)] at e; cases e),(fun e=>by rw [hb _ (by decide)] at e; cases e),(fun e=>by rw [hb _ (by decide)] at e; cases e),fun _=>HR7.out,(fun e=>by rw [hb _ (by decide)] at e; cases e),ButL.still _ ⟨rfl,rfl,rfl,rfl⟩⟩)⟩
      all_goals (intro e; first | rfl | (rw [hb _ (by decide)] at e; cases e))
     case stepsE3 =>
      refine ⟨?_,?_,?_,?_,?_,?_,?_,?_,?_,?_,?_,?_,?_,trivial⟩
      ·rintro b a wy hb hd ⟨z7,z8,z9,z49,z50,z51,z52,z53,z54,z55,z56,z57,rfl,HV,HW,HX⟩ K hK
       obtain ⟨h0,h1,h2,h3,h4,h5,h7,h12⟩:=HV.out
       clear hd
       go_simp
       exact hK _ _ ⟨_,_,_,_,_,_,_,_,_,_,_,_,rfl,hid ⟨fun _=>rfl,h1,h2,h3,h4,h5,h7,h12⟩,HW,HX⟩
      ·rintro b a wy hb hd ⟨z7,z8,z9,z49,z50,z51,z52,z53,z54,z55,z56,z57,rfl,HV,HW,HX⟩ K hK
       obtain ⟨h0,h1,h2,h3,h4,h5,h7,h12⟩:=HV.out
       simp [Region.binds] at hd
       obtain rfl:=h0 (by simp [hd])
       clear hd
       obtain ⟨x1,x2,x3,x4,x5,x6,x7⟩:=HX.out
       have hrw:=HC.out.block (x7.block _ HC.out.lt (by simp; exact row_ne HC.out HR7.out (by decide)))
       have q0:=hrw.cellAt (i:=0) rfl
       clear hrw
       go_simp
       exact hK _ _ ⟨_,_,_,_,_,_,_,_,_,_,_,_,rfl,hid ⟨h0,fun _=>rfl,h2,h3,h4,h5,h7,h12⟩,HW,HX⟩
      ·rintro b a wy hb hd ⟨z7,z8,z9,z49,z50,z51,z52,z53,z54,z55,z56,z57,rfl,HV,HW,HX⟩ K hK
       obtain ⟨h0,h1,h2,h3,h4,h5,h7,h12⟩:=HV.out
       clear hd
       go_simp
       exact hK _ _ ⟨_,_,_,_,_,_,_,_,_,_,_,_,rfl,hid ⟨h0,h1,fun _=>rfl,h3,h4,h5,h7,h12⟩,HW,HX⟩
      ·rintro b a wy hb hd ⟨z7,z8,z9,z49,z50,z51,z52,z53,z54,z55,z56,z57,rfl,HV,HW,HX⟩ K hK
       obtain ⟨h0,h1,h2,h3,h4,h5,h7,h12⟩:=HV.out
       simp [Region.binds] at hd
       obtain rfl:=h2 (by simp [hd])
       clear hd
       obtain ⟨x1,x2,x3,x4,x5,x6,x7⟩:=HX.out
       have hrw:=HDD.out.block (x7.block _ HDD.out.lt (by simp; exact row_ne HDD.out HR7.out (by decide)))
       have q0:=hrw.cellAt (i:=0) rfl
       clear hrw
       go_simp
       exact hK _ _ ⟨_,_,_,_,_,_,_,_,_,_,_,_,rfl,hid ⟨h0,h1,h2,fun _=>rfl,h4,h5,h7,h12⟩,HW,HX⟩
      ·rintro b a wy hb hd ⟨z7,z8,z9,z49,z50,z51,z52,z53,z54,z55,z56,z57,rfl,HV,HW,HX⟩ K hK
       obtain ⟨h0,h1,h2,h3,h4,h5,h7,h12⟩:=HV.out
       simp [Region.binds] at hd
       obtain rfl:=h1 (by simp [hd])
       obtain rfl:=h3 (by simp [hd])
       clear hd
       go_simp
       exact hK _ _ ⟨_,_,_,_,_,_,_,_,_,_,_,_,rfl,hid ⟨h0,h1,h2,h3,fun _=>rfl,h5,h7,h12⟩,HW,HX⟩
      ·rintro b a wy hb hd ⟨z7,z8,z9,z49,z50,z51,z52,z53,z54,z55,z56,z57,rfl,HV,HW,HX⟩ K hK
       obtain ⟨h0,h1,h2,h3,h4,h5,h7,h12⟩:=HV.out
       clear hd
       obtain ⟨x1,x2,x3,x4,x5,x6,x7⟩:=HX.out
       have hrw:=HC.out.block (x7.block _ HC.out.lt (by simp; exact row_ne HC.out HR7.out (by decide)))
       have q0:=hrw.cellAt (i:=0) rfl
       have q1:=hrw.cellAt (i:=1) rfl
       clear hrw
       go_simp
       exact hK _ _ ⟨_,_,_,_,_,_,_,_,_,_,_,_,rfl,hid ⟨h0,h1,h2,h3,h4,fun _=>rfl,h7,h12⟩,HW,HX⟩
      ·rintro b a wy hb hd ⟨z7,z8,z9,z49,z50,z51,z52,z53,z54,z55,z56,z57,rfl,HV,HW,HX⟩ K hK
       obtain ⟨h0,h1,h2,h3,h4,h5,h7,h12⟩:=HV.out
       simp [Region.binds] at hd
       obtain rfl:=h5 (by simp [hd])
       clear hd
       obtain ⟨x1,x2,x3,x4,x5,x6,x7⟩:=HX.out
       obtain ⟨sp2,k2⟩:=HPC.out.pl
       have HK3:=hid (k2.block (x7.block _ k2.lt (by simp; exact row_ne k2 HR7.out (by decide))))
       clear k2
       go_simp
       go_at_call 199
       refine (done_eq HK3.out (HGx.out.fl1.trans HLY.out.1) (by rw [HGx.out.fl1]; exact HGx.out.l1_le)).mono ?_
       rintro e wz ⟨u,rfl,hu,kz⟩
       try go_simp
       exact hK _ _ ⟨_,_,_,_,_,_,_,_,_,_,_,_,rfl,hid ⟨h0,h1,h2,h3,h4,h5,h7,h12⟩,hid (HW.out.trans (kz.mono (Nat.zero_le _))),hid ⟨fun _=>hu,fun e=>(x2 e).still kz,fun e=>absurd (x3 e).2 (by rw [hb]; decide),x4,fun e=>(x5 e).below (x5 e).lt kz,fun e=>(x6 e).below (x6 e).lt kz,x7.trans (ButL.of_below _ kz (Nat.le_refl _))⟩⟩
      ·rintro b a wy hb hd ⟨z7,z8,z9,z49,z50,z51,z52,z53,z54,z55,z56,z57,rfl,HV,HW,HX⟩ K hK
       obtain ⟨h0,h1,h2,h3,h4,h5,h7,h12⟩:=HV.out
       clear hd
       obtain ⟨x1,x2,x3,x4,x5,x6,x7⟩:=HX.out
       have hrw:=HDD.out.block (x7.block _ HDD.out.lt (by simp; exact row_ne HDD.out HR7.out (by decide)))
       have q0:=hrw.cellAt (i:=0) rfl
       have q1:=hrw.cellAt (i:=1) rfl
       clear hrw
       go_simp
       exact hK _ _ ⟨_,_,_,_,_,_,_,_,_,_,_,_,rfl,hid ⟨h0,h1,h2,h3,h4,h5,fun _=>rfl,h12⟩,HW,HX⟩
      ·rintro b a wy hb hd ⟨z7,z8,z9,z49,z50,z51,z52,z53,z54,z55,z56,z57,rfl,HV,HW,HX⟩ K hK
       obtain ⟨h0,h1,h2,h3,h4,h5,h7,h12⟩:=HV.out
       simp [Region.binds] at hd
       obtain rfl:=h7 (by simp [hd])
       clear hd
       obtain ⟨x1,x2,x3,x4,x5,x6,x7⟩:=HX.out
       obtain ⟨sp2,k2⟩:=HPD.out.pl
       have HK3:=hid (k2.block (x7.block _ k2.lt (by simp; exact row_ne k2 HR7.out (by decide))))
       clear k2
       go_simp
       go_at_call 199
       refine (done_eq HK3.out (HGx.out.fl2.trans HLY.out.2) (by rw [HGx.out.fl2]; exact HGx.out.l2_le)).mono ?_
       rintro e wz ⟨u,rfl,hu,kz⟩
       try go_simp
       exact hK _ _ ⟨_,_,_,_,_,_,_,_,_,_,_,_,rfl,hid ⟨h0,h1,h2,h3,h4,h5,h7,h12⟩,hid (HW.out.trans (kz.mono (Nat.zero_le _))),hid ⟨fun e=>(x1 e).still kz,fun _=>hu,x3,fun e=>absurd (x4 e).2 (by rw [hb]; decide),fun e=>(x5 e).below (x5 e).lt kz,fun e=>(x6 e).below (x6 e).lt kz,x7.trans (ButL.of_below _ kz (Nat.le_refl _))⟩⟩
      ·rintro b a wy hb hd ⟨z7,z8,z9,z49,z50,z51,z52,z53,z54,z55,z56,z57,rfl,HV,HW,HX⟩ K hK
       obtain ⟨h0,h1,h2,h3,h4,h5,h7,h12⟩:=HV.out
       simp [Region.binds] at hd
       obtain rfl:=h4 (by simp [hd])
       clear hd
       obtain ⟨x1,x2,x3,x4,x5,x6,x7⟩:=HX.out
       have hr:=x5 hb
       have q0:=hr.cellAt (i:=0) rfl
       have q1:=hr.cellAt (i:=1) rfl
       have fz0:=hr.free 0
       have fz1:=hr.free 1
       have HA3:=hid ((hr.set 0 (.slice (some ⟨g1,0,none⟩) l1.length d1)).set 1 (.slice (some ⟨g3,0,none⟩) l2.length d3))
       have HU:=hid ((ButL.set wy (w.heap.size+1) 0 (.slice (some ⟨g1,0,none⟩) l1.length d1)).trans (ButL.set _ (w.heap.size+1) 1 (.slice (some ⟨g3,0,none⟩) l2.length d3)))
       have HRH:=hid hr
       have HXX:=hid (And.intro x1 (And.intro x2 (And.intro x3 (And.intro x4 x7))))
       clear x1 x2 x3 x4 x5 x6 x7 hr HX
       go_simp
       exact hK _ _ ⟨_,_,_,_,_,_,_,_,_,_,_,_,rfl,hid ⟨h0,h1,h2,h3,h4,h5,h7,h12⟩,hid (HW.out.trans (HU.out.below (by simp) (Nat.zero_le _))),hid ⟨fun e=>List64.but (HXX.out.1 e) HRH.out HU.out,fun e=>List64.but (HXX.out.2.1 e) HRH.out HU.out,HXX.out.2.2.1,HXX.out.2.2.2.1,fun e=>(by cases e),fun _=>HA3.out,HXX.out.2.2.2.2.trans HU.out⟩⟩
      ·rintro b a wy hb hd ⟨z7,z8,z9,z49,z50,z51,z52,z53,z54,z55,z56,z57,rfl,HV,HW,HX⟩ K hK
       obtain ⟨h0,h1,h2,h3,h4,h5,h7,h12⟩:=HV.out
       simp [Region.binds] at hd
       have dd6:b 6=true:=by simp [hd]
       clear hd
       obtain ⟨x1,x2,x3,x4,x5,x6,x7⟩:=HX.out
       go_simp
       exact hK _ _ ⟨_,_,_,_,_,_,_,_,_,_,_,_,rfl,hid ⟨h0,h1,h2,h3,h4,h5,h7,h12⟩,HW,hid ⟨x1,x2,fun _=>⟨rfl,dd6⟩,x4,x5,x6,x7⟩⟩
      ·rintro b a wy hb hd ⟨z7,z8,z9,z49,z50,z51,z52,z53,z54,z55,z56,z57,rfl,HV,HW,HX⟩ K hK
       obtain ⟨h0,h1,h2,h3,h4,h5,h7,h12⟩:=HV.out
       simp [Region.binds] at hd
       have dd8:b 8=true:=by simp [hd]
       clear hd
       obtain ⟨x1,x2,x3,x4,x5,x6,x7⟩:=HX.out
       go_simp
       exact hK _ _ ⟨_,_,_,_,_,_,_,_,_,_,_,_,rfl,hid ⟨h0,h1,h2,h3,h4,h5,h7,h12⟩,HW,hid ⟨x1,x2,x3,fun _=>⟨rfl,dd8⟩,x5,x6,x7⟩⟩
      ·rintro b a wy hb hd ⟨z7,z8,z9,z49,z50,z51,z52,z53,z54,z55,z56,z57,rfl,HV,HW,HX⟩ K hK
       obtain ⟨h0,h1,h2,h3,h4,h5,h7,h12⟩:=HV.out
       clear hd
       go_simp
       exact hK _ _ ⟨_,_,_,_,_,_,_,_,_,_,_,_,rfl,hid ⟨h0,h1,h2,h3,h4,h5,h7,fun _=>rfl⟩,HW,HX⟩
     case doneE3 =>
      rintro b a wy hb ⟨z7,z8,z9,z49,z50,z51,z52,z53,z54,z55,z56,z57,rfl,HV,HW,HX⟩
      obtain ⟨h0,h1,h2,h3,h4,h5,h7,h12⟩:=HV.out
      obtain rfl:=h0 (hb 0)
      obtain rfl:=h1 (hb 1)
      obtain rfl:=h2 (hb 2)
      obtain rfl:=h3 (hb 3)
      obtain rfl:=h4 (hb 4)
      obtain rfl:=h5 (hb 5)
      obtain rfl:=h7 (hb 7)
      obtain rfl:=h12 (hb 12)
      clear HV h0 h1 h2 h3 h4 h5 h7 h12
      obtain ⟨x1,x2,x3,x4,x5,x6,x7⟩:=HX.out
      obtain ⟨rfl,_⟩:=x3 (hb 10)
      obtain ⟨rfl,_⟩:=x4 (hb 11)
      have HL1:=hid (x1 (hb 6))
      have HL2:=hid (x2 (hb 8))
      have hrw:=x6 (hb 9)
      have q0:=hrw.cellAt (i:=0) rfl
      have q1:=hrw.cellAt (i:=1) rfl
      have HU:=hid x7
      clear x1 x2 x3 x4 x5 x6 x7 hrw hb HX
      go_wp2_with fail
      refine bodyPost_ret (v := .tuple #[.agg #[.slice (some ⟨g1,0,none⟩) l1.length d1,.slice (some ⟨g3,0,none⟩) l2.length d3],z7,z8,.int .i64 0]) ?_ rfl ?_
      ·rw [results_cell_four rfl]
       go_simp
      ·have hk1:=HPC.out
       have hk2:=HPD.out
       have fp:=PAt.off HPB.out HR7.out (by decide) (by decide) (by decide)
       obtain ⟨⟨sp1,j1⟩,_⟩:=hk1.row
       obtain ⟨⟨sp2,j2⟩,_⟩:=hk2.row
       refine ⟨y,g1,d1,g3,d3,_,_,rfl,HGo.out.runs (.done HE.out),HPB.out.blocks (HU.out.block _ HPB.out.row.lt (by simp; exact Ne.symm fp.1)) (HU.out.block _ HPB.out.tally.row.lt (by simp; exact Ne.symm fp.2.1)) (HU.out.block _ HPB.out.tally.cb_lt (by simp; exact Ne.symm fp.2.2.1)) (HU.out.block _ HPB.out.tally.mp.lt (by simp; exact Ne.symm fp.2.2.2)),⟨sp1,j1.block (HU.out.block _ j1.lt (by simp; exact row_ne j1 HR7.out (by decide)))⟩,⟨sp2,j2.block (HU.out.block _ j2.lt (by simp; exact row_ne j2 HR7.out (by decide)))⟩,HL1.out,HL2.out,⟨HLO.out.2.1,(show l1.length≤d1 from by have e:y.l1.length=l1.length:=HGo.out.len.1; rw [← e]; exact hk1.cp.1),hk1.cp.2⟩,HLO.out.2.2.2.1,HBC.out.join HU.out (fun z hz => .inr (by simp at hz; omega))⟩
   ·have HS:=hid (hs1 rfl)
    clear hst hs1 hs2 hwk hbl HBx HWx
    go_wp2_with fail
    have hless:=HGx.out.less HS.out
    go_roundg y.left
    case measure=>omega
    case rel=>exact ⟨y,rfl,hid (HGo.out.more HS.out),HWy,HBy⟩
end Go.Proofs.YtogchamogbendaaGreat.Pl
namespace Go.Proofs.YtogchamogbendaaGreat.Pl
open Lib (hid)
open Go.RowKit Oct Mv Tl Pk Go.Maps
theorem pages_nat_ge {n p:Nat} (h:p<pg n):p*61<n:=by unfold pg at h; omega
def many (s:St) (p:Nat):Nat:=min 61 (s.n-p*61)
def fill (s:St) (p i:Nat):List UInt16:=(List.range (many s p)).map fun j=>if j<i then s.cnt (p*61+j) else 0
theorem length_fill (s:St) (p i:Nat):(fill s p i).length=many s p:=by simp [fill]
theorem fill_zero (s:St) (p:Nat):fill s p 0=List.replicate (many s p) 0:=by
 apply List.ext_getElem <;> simp [fill]
theorem fill_succ (s:St) (p:Nat) {i:Nat} (hi:i<many s p):(fill s p i).set i (s.cnt (p*61+i))=fill s p (i+1):=by
 apply List.ext_getElem
 ·simp [fill]
 ·intro j h1 h2
  simp only [fill,List.getElem_set,List.getElem_map,List.getElem_range]
  by_cases e:i=j
  ·subst e
   rw [if_pos rfl,if_pos (by omega)]
  ·rw [if_neg e]
   by_cases h:j<i
   ·rw [if_pos h,if_pos (by omega)]
   ·rw [if_neg h,if_neg (by omega)]
def part (s:St) (p:Nat):List UInt16:=(List.range (many s p)).map fun j=>s.cnt (p*61+j)
theorem fill_all (s:St) (p:Nat):fill s p (many s p)=part s p:=by
 apply List.ext_getElem
 ·simp [fill,part]
 ·intro j h1 h2
  simp only [fill,part,List.getElem_map,List.getElem_range]
  rw [if_pos (by simpa [fill] using h1)]
theorem length_part (s:St) (p:Nat):(part s p).length=many s p:=by simp [part]
theorem counts_nay (v:Value) (page:Int) (w:World) (h:Nay w v) :
  Calls Tryz.prog 164 #[v,.int .i64 page] w fun e w'=>e = .returned (.slice none 0 0)∧w=w':=by
 have e0:pagesOf 0=0:=by decide
 by_cases h0:page<0
 ·go_enter Tryz.func164,Tryz.ntmps164
  go_wp2_with fail
  go_ret
  exact ⟨rfl,rfl⟩
 ·have h1:(0:Int)≤page:=by omega
  go_enter Tryz.func164,Tryz.ntmps164
  go_wp2_with fail
  refine (blocks_nay v _ h).mono ?_
  rintro e w' ⟨rfl,rfl⟩
  go_wp2_with fail
  refine (pages_any 0 (by omega) (by omega) _).mono ?_
  rintro e w' ⟨rfl,rfl⟩
  rw [e0]
  go_wp2_with fail
  go_ret
  exact ⟨rfl,rfl⟩
set_option maxHeartbeats 2000000 in
theorem counts_yes {w:World} {a cb mb c:Nat} {s:St} (h:At w a cb mb c s) (p:Nat) (hp:p<pg s.n) :
  Calls Tryz.prog 164 #[.pointer (some ⟨a,0,none⟩),.int .i64 (p:Int)] w fun e w' => ∃g,e = .returned (.slice (some ⟨g,0,none⟩) (many s p) (many s p))∧RowV w' g 34 (nums (part s p))∧w.heap.size≤g∧Below w.heap.size w w':=by
 have H:=hid h
 have hn:s.n≤4096:=h.ok.hi
 have hpl:=pg_le hn
 have hge:=pages_nat_ge hp
 have hm1:many s p≤4096:=by unfold many; omega
 have hm0:1≤many s p:=by unfold many; omega
 have hmin:min (61:Int) ((s.n:Int)-(p:Int)*61)=(many s p:Int):=by unfold many; omega
 have HMN:=hid (show p*61+many s p≤s.n by unfold many; omega)
 have hmk:=run_make_words
 have hpp:(p:Int)<(pg s.n:Int):=by omega
 have hp0:(0:Int)≤(p:Int):=by omega
 clear h hp
 go_enter Tryz.func164,Tryz.ntmps164
 go_wp2_with fail
 refine (blocks_at H.out).mono ?_
 rintro e w' ⟨rfl,rfl⟩
 go_wp2_with fail
 refine (pages_eq s.n (by omega) _).mono ?_
 rintro e w' ⟨rfl,rfl⟩
 go_wp2_with fail
 refine (blocks_at H.out).mono ?_
 rintro e w' ⟨rfl,rfl⟩
 go_wp2_with fail
 have hz:(w.alloc (.cells (nums (List.replicate (many s p) 0)).toArray 34)).heap.size=w.heap.size+1:=by simp
 have R1:=alloc_rowV w 34 (nums (List.replicate (many s p) 0))
 rw [← fill_zero] at R1
 have B1:=(Below.refl w.heap.size w).alloc (Nat.le_refl _) (.cells (nums (List.replicate (many s p) 0)).toArray 34)
 rw [← fill_zero] at B1
 have HR:=hid R1
 have HB:=hid B1
 have hm0i:((many s p:Nat):Int)≤4096:=by omega
 clear hmk hz R1 B1 hpp
 rw [← fill_zero]
 generalize w.alloc (.cells (nums (fill s p 0)).toArray 34)=w1 at *
 go_loopw [27] (fun i wr => ∃k:Nat,k≤many s p∧i = .int .i64 (k:Int)∧Hid (RowV wr w.heap.size 34 (nums (fill s p k)))∧Hid (Below w.heap.size w wr)) (fun i _=>many s p-(Go.RowKit.intOf i).toNat)
 case atStart=>exact ⟨0,Nat.zero_le _,rfl,HR,HB⟩
 case round =>
  obtain ⟨k,hk,rfl,HRr,HBr⟩:=hrel
  by_cases hlt:k<many s p
  ·have hki:(k:Int)<(many s p:Int):=by omega
   have hge0:(0:Int)≤(k:Int):=by omega
   have HA:=hid (H.out.kept HBr.out)
   have hg:=getZ_nat s (i:=p*61+k) (by have:=HMN.out; omega)
   have e1:((p*61+k:Nat):Int)=(p:Int)*61+(k:Int):=by omega
   rw [e1] at hg
   have hu:=u16_lt (s.cnt (p*61+k))
   have HS:=hid (HRr.out.set k (num (s.cnt (p*61+k))))
   rw [← nums_set,fill_succ s p hlt] at HS
   have fz:=HRr.out.free k
   have hc:=HRr.out.cellAt (i:=k) (nums_at _ _ (by rw [length_fill]; exact hlt))
   unfold num at HS hc
   have HU:=hid (ButL.set wr w.heap.size k (.int .u16 ((s.cnt (p*61+k)).toNat:Int)))
   go_wp2_with fail
   refine (get_any HA.out ((p:Int)*61+(k:Int))).mono ?_
   rintro e w' ⟨rfl,rfl⟩
   rw [hg]
   obtain ⟨x,hx⟩ : ∃x,x=(s.cnt (p*61+k)).toNat:=⟨_,rfl⟩
   rw [← hx] at hu HS HU ⊢
   clear hx hg e1
   go_wp2_with fail
   exact ⟨⟨k+1,by omega,by go_num,HS,hid (HBr.out.trans (HU.out.below (by simp) HBr.out.size))⟩,by simp [Go.RowKit.intOf]; omega⟩
  ·have hki : ¬(k:Int)<(many s p:Int):=by omega
   obtain rfl:k=many s p:=by omega
   go_wp2_with fail
   go_ret
   refine ⟨w.heap.size,rfl,?_,Nat.le_refl _,HBr.out⟩
   rw [← fill_all]; exact HRr.out
end Go.Proofs.YtogchamogbendaaGreat.Pl
namespace Go.Proofs.YtogchamogbendaaGreat.Pl
open Go.RowKit Oct Mv Tl Pk Go.Maps
theorem told_nat {w:World} {A:Option Addr} {l:List Nat} (h:ToldV w A (ints l)) {j:Nat} (hj:j<l.length) : ∃b o,A=some ⟨b,o,none⟩∧b<w.heap.size∧w.cell? ⟨b,o+j,none⟩=some (.int .i64 ((l.getD j 0:Nat):Int)):=by
 obtain ⟨b,o,h1,h2⟩:=h.has (by rw [length_ints]; omega)
 refine ⟨b,o,h1,h2.lt (by rw [length_ints]; omega),?_⟩
 have:=h2.cellAt (Tl.ints_at l j hj)
 rw [this]
 simp [hj]
end Go.Proofs.YtogchamogbendaaGreat.Pl
namespace Go.Proofs.YtogchamogbendaaGreat.Pl
open Go.RowKit Oct Mv Tl Pk Go.Maps
structure Base (q0:Q) (L0:List Nat):Prop where
 kept : ∀i,i<L0.length→L0.getD i 0≠0→q0.s.was (L0.getD i 0)≠0∧L0.getD i 0<q0.s.n
 first:1≤q0.first
structure RInv (q0:Q) (L0:List Nat) (q:Q) (L:List Nat) (F:List Bool):Prop where
 lenL:L.length=L0.length
 lenF:F.length=L.length
 kept:q.s.kept=q0.s.kept
 n:q.s.n=q0.s.n
 first:q.first=q0.first
 asked:q.asked=q0.asked
 un : ∀i,i<L.length→F.getD i false=false→L.getD i 0=L0.getD i 0∧(L.getD i 0≠0→q.s.cnt (L.getD i 0)=1)
 pl : ∀i,i<L.length→F.getD i false=true→L.getD i 0≠0∧L.getD i 0<q.s.n∧q.s.cnt (L.getD i 0)=1∧q.s.was (L.getD i 0)=0∧(L0.getD i 0≠0→q.s.cnt (L0.getD i 0)=0)
 ne : ∀i j,i<L.length→j<L.length→i≠j→F.getD i false=true→L.getD i 0≠L.getD j 0
theorem RInv.was {q0 q:Q} {L0 L:List Nat} {F:List Bool} (h:RInv q0 L0 q L F) (j:Nat):q.s.was j=q0.s.was j:=by
 unfold St.was
 rw [h.kept]
theorem RInv.move {q0 q q':Q} {L0 L:List Nat} {F:List Bool} {i b:Nat} (hb:Base q0 L0) (h:RInv q0 L0 q L F) (hl:Loose q L F) (hok:q.Ok) (hi:i<L.length) (hf:F.getD i false=false) (hm:Moved q (L.getD i 0) q' b):RInv q0 L0 q' (L.set i b) (F.set i true):=by
 have may:=hl.may i hi hf
 obtain ⟨hb1,hb2⟩:=hm.free
 rw [down1_was q _ may] at hb2
 have hbn:=hm.lt may
 have hb0:b≠0:=by
  have:=hm.ge may hok
  have:=h.first
  have:=hb.first
  omega
 have hu:=h.un i hi hf
 have wasne : ∀j,j<L.length→L0.getD j 0≠0→L0.getD j 0≠b:=fun j hj hz e=>by
  have:=(hb.kept j (by rw [← h.lenL]; exact hj) hz).1
  rw [← h.was,e] at this
  exact this hb2
 have getF : ∀j,(F.set i true).getD j false=if j=i then true else F.getD j false:=fun j=>by
  rw [getD_set]
  by_cases e:j=i
  ·rw [if_pos ⟨e,by rw [h.lenF]; exact hi⟩,if_pos e]
  ·rw [if_neg (fun k=>e k.1),if_neg e]
 have getL : ∀j,(L.set i b).getD j 0=if j=i then b else L.getD j 0:=fun j=>by
  rw [getD_set]
  by_cases e:j=i
  ·rw [if_pos ⟨e,hi⟩,if_pos e]
  ·rw [if_neg (fun k=>e k.1),if_neg e]
 -- a placed one is not b, and stays as it is
 have keepPl : ∀j,j<L.length→j≠i→F.getD j false=true→L.getD j 0≠b∧L.getD j 0≠L.getD i 0:=fun j hj hji hF=>by
  have hn:=h.ne j i hj hi hji hF
  refine ⟨fun e => ?_,hn⟩
  have h1:=(h.pl j hj hF).2.2.1
  rw [← e,down1_cnt may,if_neg (fun k=>hn k.1),h1] at hb1
  exact absurd hb1 (by decide)
 have keepUn : ∀j,j<L.length→j≠i→F.getD j false=false→L.getD j 0≠b:=fun j hj hji hF e=>by
  have h1:=(h.un j hj hF).1
  have hz:L0.getD j 0≠0:=by rw [← h1,e]; exact hb0
  exact wasne j hj hz (h1▸e)
 refine ⟨by rw [List.length_set]; exact h.lenL,by rw [List.length_set,List.length_set]; exact h.lenF,(hm.kept may).trans h.kept,(hm.n may).trans h.n,hm.first.trans h.first,hm.asked.trans h.asked,?_,?_,?_⟩
 ·intro j hj hF
  rw [List.length_set] at hj
  rw [getF] at hF
  by_cases e:j=i
  ·rw [if_pos e] at hF; cases hF
  ·rw [if_neg e] at hF
   rw [getL,if_neg e]
   obtain ⟨h1,h2⟩:=h.un j hj hF
   refine ⟨h1,fun hz => ?_⟩
   rw [hm.cnt may,if_neg (keepUn j hj e hF),down1_cnt may,if_neg (fun k=>hl.ne j i hj hi e hF hf hz k.1)]
   exact h2 hz
 ·intro j hj hF
  rw [List.length_set] at hj
  rw [getF] at hF
  rw [getL]
  by_cases e:j=i
  ·subst e
   rw [if_pos rfl]
   refine ⟨hb0,by rw [hm.n may]; exact hbn,by rw [hm.cnt may,if_pos rfl],by rw [hm.was may]; exact hb2,fun hz => ?_⟩
   have h3:=wasne j hj hz
   rw [hm.cnt may,if_neg h3,down1_cnt may]
   rw [← hu.1] at hz ⊢
   rw [if_pos ⟨rfl,hz⟩,hu.2 hz]
   rfl
  ·rw [if_neg e] at hF
   rw [if_neg e]
   obtain ⟨h1,h2,h3,h4,h5⟩:=h.pl j hj hF
   obtain ⟨k1,k2⟩:=keepPl j hj e hF
   refine ⟨h1,by rw [hm.n may]; exact h2,by rw [hm.cnt may,if_neg k1,down1_cnt may,if_neg (fun k=>k2 k.1)]; exact h3,by rw [hm.was may]; exact h4,fun hz => ?_⟩
   rw [hm.cnt may,if_neg (wasne j hj hz),down1_cnt may]
   rw [if_neg]
   ·exact h5 hz
   ·rintro ⟨k,kz⟩
    have h6:=h5 hz
    rw [k,hu.2 kz] at h6
    exact absurd h6 (by decide)
 ·intro j k hj hk hjk hF
  rw [List.length_set] at hj hk
  rw [getF] at hF
  rw [getL,getL]
  by_cases ej:j=i
  ·subst ej
   rw [if_pos rfl,if_neg (Ne.symm hjk)]
   cases hFk:F.getD k false
   ·exact Ne.symm (keepUn k hk (Ne.symm hjk) hFk)
   ·exact Ne.symm (keepPl k hk (Ne.symm hjk) hFk).1
  ·rw [if_neg ej] at hF
   rw [if_neg ej]
   by_cases ek:k=i
   ·subst ek
    rw [if_pos rfl]
    exact (keepPl j hj ej hF).1
   ·rw [if_neg ek]
    exact h.ne j k hj hk hjk hF
def Wk.RI (x:Wk) (q0:Q) (L0:List Nat):Prop:=RInv q0 L0 x.q (x.l1++x.l2) (x.f1++x.f2)
section
variable {x y z:Wk} {q0 q:Q} {L0 l1 l2:List Nat}
theorem Wk.Step.ri (h:x.Step y) (hg:x.Good) (hb:Base q0 L0) (hr:x.RI q0 L0):y.RI q0 L0:=by
 cases h with
 | one i b q' k1 k2 =>
  obtain ⟨hi,hf,_⟩:=k1.ask
  show RInv q0 L0 q' (x.l1.set i b++x.l2) (x.f1.set i true++x.f2)
  rw [← List.set_append_left _ _ hi,← List.set_append_left _ _ (by rw [hg.fl1]; exact hi)]
  refine RInv.move hb hr hg.loose hg.ok (by rw [List.length_append]; omega) (by rw [getD_app1 _ _ _ (by rw [hg.fl1]; exact hi)]; exact hf) ?_
  rw [getD_app1 _ _ _ hi]; exact k2
 | two i b q' k0 k1 k2 =>
  obtain ⟨hi,hf,_⟩:=k1.ask
  show RInv q0 L0 q' (x.l1++x.l2.set i b) (x.f1++x.f2.set i true)
  have e1:x.l1++x.l2.set i b=(x.l1++x.l2).set (x.l1.length+i) b:=by
   rw [List.set_append_right _ _ (by omega)]; congr 2; omega
  have e2:x.f1++x.f2.set i true=(x.f1++x.f2).set (x.l1.length+i) true:=by
   rw [List.set_append_right _ _ (by rw [hg.fl1]; omega)]; congr 2; rw [hg.fl1]; omega
  rw [e1,e2]
  refine RInv.move hb hr hg.loose hg.ok (by rw [List.length_append]; omega) (by rw [← hg.fl1,getD_app2]; exact hf) ?_
  rw [getD_app2]; exact k2
theorem Wk.Runs.ri (h:x.Runs y) (hg:x.Good) (hb:Base q0 L0) (hr:x.RI q0 L0):y.RI q0 L0:=by
 induction h with
 | done _=>exact hr
 | step s r ih=>exact ih (hg.step s) (s.ri hg hb hr)
theorem Wk.Runs.end' (h:x.Runs y):y.End:=by
 induction h with
 | done e=>exact e
 | step s r ih=>exact ih
theorem begin_ri (hb : ∀i,i<(l1++l2).length→(l1++l2).getD i 0≠0→q.s.cnt ((l1++l2).getD i 0)=1):(begin q l1 l2).RI q (l1++l2):=by
 have hF : ∀i,(List.replicate l1.length false++List.replicate l2.length false).getD i false=false:=fun i=>by
  rw [List.replicate_append_replicate]
  exact getD_rep _ _
 refine ⟨rfl,by simp [begin],rfl,rfl,rfl,rfl,fun i hi _=>⟨rfl,hb i hi⟩,fun i hi h => ?_,fun i j hi hj hne h => ?_⟩
 ·rw [show (begin q l1 l2).f1++(begin q l1 l2).f2=List.replicate l1.length false++List.replicate l2.length false from rfl,hF] at h
  cases h
 ·rw [show (begin q l1 l2).f1++(begin q l1 l2).f2=List.replicate l1.length false++List.replicate l2.length false from rfl,hF] at h
  cases h
structure Sound (q:Q) (l1 l2:List Nat):Prop where
 ok:q.Ok
 first:q.first=2
 len1:l1.length=pg q.s.n
 len2:l2.length=pg (pg q.s.n)
 one : ∀i,i<(l1++l2).length→(l1++l2).getD i 0≠0∧(l1++l2).getD i 0<q.s.n∧q.s.cnt ((l1++l2).getD i 0)=1∧q.s.was ((l1++l2).getD i 0)=1
 ne : ∀i j,i<(l1++l2).length→j<(l1++l2).length→i≠j→(l1++l2).getD i 0≠(l1++l2).getD j 0
theorem right_of {s:St} (h1:l1.length=pg s.n) (h2:l2.length=pg (pg s.n)) (h3 : ∀i,i<(l1++l2).length→(l1++l2).getD i 0<s.n∧s.cnt ((l1++l2).getD i 0)=1) (h4 : ∀i j,i<(l1++l2).length→j<(l1++l2).length→i≠j→(l1++l2).getD i 0≠(l1++l2).getD j 0):RightS s (toI l1) (toI l2):=by
 refine ⟨by rw [length_toI]; exact h1,by rw [length_toI]; exact h2,fun i hi => ?_⟩
 rw [toI_app,length_toI] at hi
 rw [toI_app]
 refine .inr ⟨fun k hk e => ?_,?_⟩
 ·rw [toI_get,toI_get] at e
  exact h4 k i (by omega) hi (by omega) (by omega)
 ·obtain ⟨k1,k2⟩:=h3 i hi
  rw [toI_get,getZ_nat s k1,k2]
  decide
theorem Sound.right (h:Sound q l1 l2):RightS q.s (toI l1) (toI l2):=right_of h.len1 h.len2 (fun i hi=>⟨(h.one i hi).2.1,(h.one i hi).2.2.1⟩) h.ne
theorem end_one (he:y.End) (hg:y.Good) (hr:y.RI q0 L0) (i:Nat) (hi:i<(y.l1++y.l2).length):(y.l1++y.l2).getD i 0≠0∧(y.l1++y.l2).getD i 0<y.q.s.n∧y.q.s.cnt ((y.l1++y.l2).getD i 0)=1:=by
 cases hF:(y.f1++y.f2).getD i false
 ·have hz:(y.l1++y.l2).getD i 0≠0:=by
   intro e
   rcases Nat.lt_or_ge i y.l1.length with h | h
   ·rw [getD_app1 _ _ _ h] at e
    rw [getD_app1 _ _ _ (by rw [hg.fl1]; exact h)] at hF
    exact he.one i ⟨h,hF,.inl e⟩
   ·obtain ⟨j,rfl⟩ : ∃j,i=y.l1.length+j:=⟨i-y.l1.length,by omega⟩
    rw [getD_app2] at e
    rw [← hg.fl1,getD_app2] at hF
    rw [List.length_append] at hi
    exact he.two j ⟨by omega,hF,.inl e⟩
  have hm:=hg.loose.may i hi hF hz
  exact ⟨hz,hm.1,(hr.un i hi hF).2 hz⟩
 ·have:=hr.pl i hi hF
  exact ⟨this.1,this.2.1,this.2.2.1⟩
theorem end_ne (he:y.End) (hg:y.Good) (hr:y.RI q0 L0) (i j:Nat) (hi:i<(y.l1++y.l2).length) (hj:j<(y.l1++y.l2).length) (hne:i≠j):(y.l1++y.l2).getD i 0≠(y.l1++y.l2).getD j 0:=by
 cases hF:(y.f1++y.f2).getD i false
 ·cases hG:(y.f1++y.f2).getD j false
  ·exact hg.loose.ne i j hi hj hne hF hG (end_one he hg hr i hi).1
  ·exact fun e=>hr.ne j i hj hi (Ne.symm hne) hG e.symm
 ·exact hr.ne i j hi hj hne hF
def Q.keep (q:Q):Q:=⟨q.s.keep,q.first,q.next,q.asked⟩
theorem Q.Ok.keep (h:q.Ok):(Q.keep q).Ok:=⟨h.s.keep,h.first,h.le,h.next,h.asked⟩
theorem end_sound (he:y.End) (hg:y.Good) (hr:y.RI q0 L0) (hf:q0.first=2):Sound (Q.keep y.q) y.l1 y.l2 :=
 ⟨Q.Ok.keep hg.ok,by show y.q.first=2; rw [hr.first]; exact hf,hg.len1,hg.len2,fun i hi=>(by
  obtain ⟨h1,h2,h3⟩:=end_one he hg hr i hi
  exact ⟨h1,h2,h3,h3⟩),end_ne he hg hr⟩
end
end Go.Proofs.YtogchamogbendaaGreat.Pl
namespace Go.Proofs.YtogchamogbendaaGreat.Pl
open Go.RowKit Oct Mv Tl Pk Go.Maps
theorem wrap_i64 {z:Int} (h1 : -9223372036854775808≤z) (h2:z≤9223372036854775807):IntKind.i64.wrap z=z:=by rw [IntKind.wrap_i64]; omega
def zeros (n:Nat):List Nat:=List.replicate n 0
end Go.Proofs.YtogchamogbendaaGreat.Pl
namespace Go.Proofs.YtogchamogbendaaGreat.Pl
open Go.RowKit Oct Mv Tl Pk Go.Maps
structure Sd where
 X:Nat
 p:Nat
 ta:Nat
 cb:Nat
 mb:Nat
 c:Nat
 g1:Nat
 d1:Nat
 g3:Nat
 d3:Nat
def scells (D:Sd) (n m:Nat):List Value := [.pointer (some ⟨D.ta,0,none⟩),.pointer (some ⟨D.p,0,none⟩),.slice (some ⟨D.g1,0,none⟩) n D.d1,.slice (some ⟨D.g3,0,none⟩) m D.d3]
theorem has_told {w:World} {g:Nat} {T:TypeId} {l:List Nat} (h : ∃sp,RowV w g T (ints l++sp)):ToldV w (some ⟨g,0,none⟩) (ints l):=by
 obtain ⟨sp,h1⟩:=h
 refine .inr ⟨g,0,rfl,fun i hi => ?_⟩
 have:=h1.has i (by rw [List.length_append]; omega)
 rw [List.getElem_append_left hi] at this
 exact this
theorem need_le {n:Nat} (h1:16≤n) (h2:n≤400):need n≤n-2:=by unfold need pg; omega
def q0 (n:Nat):Q:=⟨St.new n,2,2,0⟩
theorem zeros_get (n i:Nat):(zeros n).getD i 0=0:=by
 simp only [zeros,List.getD_eq_getElem?_getD,List.getElem?_replicate]
 split <;> rfl
theorem zeros_app (n m:Nat):zeros n++zeros m=zeros (n+m):=by simp [zeros,List.replicate_append_replicate]
theorem right_zeros (n:Nat):RightS (St.new n) (toI (zeros (pg n))) (toI (zeros (pg (pg n)))):=by
 refine ⟨by rw [length_toI,n_new]; simp [zeros],by rw [length_toI,n_new]; simp [zeros],fun i hi => .inl ?_⟩
 rw [toI_app,toI_get,zeros_app,zeros_get]
 rfl
theorem Moved.low {q q':Q} {b j:Nat} (h:Moved q 0 q' b) (hok:q.Ok) (hj:j<q.first):q'.s.cnt j=q.s.cnt j:=by
 have hm:May1 q 0:=fun e=>absurd rfl e
 rw [h.cnt hm,if_neg (by have:=h.ge hm hok; omega),down1_zero]
theorem Wk.Step.low {x y:Wk} {q0:Q} {L0:List Nat} (h:x.Step y) (hg:x.Good) (hr:x.RI q0 L0) (hz : ∀i,L0.getD i 0=0) {j:Nat} (hj:j<q0.first):y.q.s.cnt j=x.q.s.cnt j:=by
 have hj2:j<x.q.first:=by rw [hr.first]; exact hj
 cases h with
 | one i b q' k1 k2 =>
  obtain ⟨hi,hf,_⟩:=k1.ask
  have hu:=(hr.un i (by rw [List.length_append]; omega) (by rw [getD_app1 _ _ _ (by rw [hg.fl1]; exact hi)]; exact hf)).1
  rw [getD_app1 _ _ _ hi,hz] at hu
  rw [hu] at k2
  exact k2.low hg.ok hj2
 | two i b q' k0 k1 k2 =>
  obtain ⟨hi,hf,_⟩:=k1.ask
  have hu:=(hr.un (x.l1.length+i) (by rw [List.length_append]; omega) (by rw [← hg.fl1,getD_app2]; exact hf)).1
  rw [getD_app2,hz] at hu
  rw [hu] at k2
  exact k2.low hg.ok hj2
theorem Wk.Runs.low {x y:Wk} {q0:Q} {L0:List Nat} (h:x.Runs y) (hg:x.Good) (hb:Base q0 L0) (hr:x.RI q0 L0) (hz : ∀i,L0.getD i 0=0) {j:Nat} (hj:j<q0.first):y.q.s.cnt j=x.q.s.cnt j:=by
 induction h with
 | done _=>rfl
 | step s r ih=>rw [ih (hg.step s) (s.ri hg hb hr),s.low hg hr hz hj]
theorem sound0 {n:Nat} {y:Wk} (h1:16≤n) (h2:n≤400) (hr:(begin (q0 n) (zeros (pg n)) (zeros (pg (pg n)))).Runs y):Sound (Q.keep y.q) y.l1 y.l2∧y.q.s.n=n∧y.q.asked=0∧y.q.s.cnt 1=0:=by
 have hok:(q0 n).Ok:=⟨.new (by omega) (by omega),by show 2≤(St.new n).n; rw [n_new]; omega,Nat.le_refl _,.inr rfl,Nat.zero_le _⟩
 have hg:=begin_good (l1:=zeros (pg n)) (l2:=zeros (pg (pg n))) hok (right_zeros n) (by show need (St.new n).n≤(q0 n).room; rw [n_new]; unfold q0; rw [new_room]; exact need_le h1 h2)
 have hb:Base (q0 n) (zeros (pg n)++zeros (pg (pg n))):=⟨fun i _ h=>absurd (by rw [zeros_app,zeros_get]) h,by show 1≤2; omega⟩
 have hri:=begin_ri (q:=q0 n) (l1:=zeros (pg n)) (l2:=zeros (pg (pg n))) (fun i _ h=>absurd (by rw [zeros_app,zeros_get]) h)
 have hr2:=hr.ri hg hb hri
 exact ⟨end_sound hr.end' (hr.good hg) hr2 rfl,hr2.n.trans (n_new n),hr2.asked,(hr.low hg hb hri (fun i=>by rw [zeros_app,zeros_get]) (show 1<2 by omega)).trans (cnt_new n 1)⟩
end Go.Proofs.YtogchamogbendaaGreat.Pl
namespace Go.Proofs.YtogchamogbendaaGreat.Pl
open Go.RowKit Oct Mv Tl Pk Go.Maps
theorem runs_both {q q1 q2:Q} {l d b1 b2:Nat} (h:l=0∨onP q.s.changed 0) (m1:Moved q l q1 b1) (m2:Moved q1 d q2 b2):(begin q [l] [d]).Runs ⟨q2,[b1],[true],[b2],[true]⟩:=by
 have no : ∀(a:Nat) (S:Int→Prop),noP [a] [true] S:=fun a S j hj=>by
  obtain ⟨h1,h2,_⟩:=hj
  obtain rfl:j=0:=by simpa using h1
  simp at h2
 refine .step (y:=⟨q1,[b1],[true],[d],[false]⟩) (.one 0 b1 q1 ?_ m1) (.step (y:=⟨q2,[b1],[true],[b2],[true]⟩) (.two 0 b2 q2 (no _ _) ?_ m2) (.done ⟨no _ _,no _ _⟩))
 ·exact ⟨⟨by show 0<1; omega,rfl,h⟩,fun j hj=>by omega⟩
 ·exact ⟨⟨by show 0<1; omega,rfl,.inr ⟨0,by show 0∈doneL [true]; decide,by decide⟩⟩,fun j hj=>by omega⟩
theorem found_seek {q:Q} (hok:q.Ok) {b:Nat} (h:q.seek=some b):q.Found b:=seek_found hok h
end Go.Proofs.YtogchamogbendaaGreat.Pl
namespace Go.Proofs.YtogchamogbendaaGreat.Pl
open Go.RowKit Oct Mv Tl Pk Go.Maps
section
variable {w w':World} {p a cb mb c g:Nat} {q:Q} {T:TypeId} {vs:List Value}
end
end Go.Proofs.YtogchamogbendaaGreat.Pl
namespace Go.Proofs.YtogchamogbendaaGreat.Pl
open Go.RowKit Oct Mv Tl Pk Go.Maps
section
variable {q q':Q} {l1 l2:List Nat} {b:Nat}
end
section
variable {w w':World} {D:Sd} {q q':Q} {l1 l2:List Nat} {y:Wk} {g1 g3:Nat} {v1 v2:Value}
end
end Go.Proofs.YtogchamogbendaaGreat.Pl
