import Derived.Laws.EntriesVeiled
import Derived.Test.YtogchamogbendaaGreatQti
import Derived.Test.YtogchamogbendaaGreatQtg
set_option maxRecDepth 100000
set_option linter.unusedVariables false
set_option linter.unusedSimpArgs false
namespace Go.Proofs.YtogchamogbendaaGreat.Pl
open Lib (hid)
open Go.RowKit Oct Mv Tl Pk Go.Maps
theorem PAt.off {w:World} {p a cb mb c g:Nat} {q:Q} {T:TypeId} {vs:List Value} (h:PAt w p a cb mb c q) (k:RowV w g T vs) (h1:T ≠ 235) (h2:T ≠ 246) (h3:T ≠ 34):g≠p∧g≠a∧g≠cb∧g≠mb:=by
 refine ⟨row_ne k h.row h1,row_ne k h.tally.row h2,?_,?_⟩
 ·obtain ⟨sp,k2⟩:=h.tally.nums
  exact row_ne k k2 h3
 ·obtain ⟨_,_,h4,_⟩:=h.tally.mp
  exact own_row h4 k
theorem set_ints (l:List Nat) (sp:List Value) (i b:Nat) (hi:i<l.length):(ints l++sp).set i (.int .i64 (b:Int))=ints (l.set i b)++sp:=by
 rw [List.set_append_left _ _ (by rw [length_ints]; exact hi)]
 simp [ints,List.map_set]
theorem set_bools (f:List Bool) (sp:List Value) (i:Nat) (b:Bool) (hi:i<f.length):(bools f++sp).set i (.bool b)=bools (f.set i b)++sp:=by
 rw [List.set_append_left _ _ (by rw [length_bools]; exact hi)]
 simp [bools,List.map_set]
theorem setO {w:World} {p a cb mb c g:Nat} {q:Q} (h:PAt w p a cb mb c q) (hg:g≠p∧g≠a∧g≠cb∧g≠mb) (i:Nat) (v:Value):PAt (w.setCell ⟨g,i,none⟩ v) p a cb mb c q :=
 h.blocks (heap_setCell_other _ _ _ _ (Ne.symm hg.1)) (heap_setCell_other _ _ _ _ (Ne.symm hg.2.1)) (heap_setCell_other _ _ _ _ (Ne.symm hg.2.2.1)) (heap_setCell_other _ _ _ _ (Ne.symm hg.2.2.2))
theorem found_any {q:Q} (hok:q.Ok) (h:0<q.room) : ∃b,q.Found b:=found_some hok h
set_option maxHeartbeats 4000000 in
theorem place_any {w:World} {W o ta cb mb c p g1 g2 c1 c2 B i:Nat} {l:List Nat} {f:List Bool} {q:Q} {vs:List Value} (hq:PAt w p ta cb mb c q) (hW:RowV w W 297 vs) (v0:vs[0]?=some (.pointer (some ⟨ta,0,none⟩))) (v1:vs[1]?=some (.pointer (some ⟨p,0,none⟩))) (vo:vs[o]?=some (.slice (some ⟨g1,0,none⟩) l.length c1)) (vo1:vs[o+1]?=some (.slice (some ⟨g2,0,none⟩) l.length c2)) (hP:PgAt w g1 g2 c1 c2 B l f) (hi:i<l.length) (hl:l.length≤4096) (hm:May1 q (l.getD i 0)) (hr:0<q.room) :
  Calls Tryz.prog 218 #[.pointer (some ⟨W,0,none⟩),.pointer (some ⟨W,o,none⟩),.int .i64 (i:Int)] w fun e w' => ∃q' b,e = .returned (.tuple #[])∧Moved q (l.getD i 0) q' b∧PAt w' p ta cb mb c q'∧PgAt w' g1 g2 c1 c2 B (l.set i b) (f.set i true)∧ButL w w' [cb,mb,p,g1,g2]:=by
 have HQ:=hid hq
 have HWR:=hid hW
 have HP:=hid hP
 have HM:=hid hm
 have HOW:=hid (PAt.off hq hW (by decide) (by decide) (by decide))
 have HO1:Hid (g1≠p∧g1≠ta∧g1≠cb∧g1≠mb):=hid (by obtain ⟨sp,k⟩:=hP.at'; exact PAt.off hq k (by decide) (by decide) (by decide))
 have HO2:Hid (g2≠p∧g2≠ta∧g2≠cb∧g2≠mb):=hid (by obtain ⟨sp,k⟩:=hP.pl; exact PAt.off hq k (by decide) (by decide) (by decide))
 have HOG:Hid (g1≠g2∧W≠g1∧W≠g2):=hid ⟨hP.ne,(by obtain ⟨sp,k⟩:=hP.at'; exact row_ne hW k (by decide)),(by obtain ⟨sp,k⟩:=hP.pl; exact row_ne hW k (by decide))⟩
 have HLW:=hid (And.intro hW.lt (And.intro hP.lt1 hP.lt2))
 have d0:=hW.cellAt v0
 have d1:=hW.cellAt v1
 have do0:=hW.cellAt vo
 have do1:=hW.cellAt vo1
 have HCV:=hid (And.intro v0 (And.intro v1 (And.intro vo vo1)))
 have hii:(i:Int)<(l.length:Int):=by omega
 have hge:(0:Int)≤(i:Int):=by omega
 have e1:w.cell? ⟨g1,i,none⟩=some (.int .i64 ((l.getD i 0:Nat):Int)):=by
  obtain ⟨sp,k⟩:=hP.at'
  exact row_int k hi
 have HI:=hid (And.intro hi (show i<f.length by rw [hP.len]; exact hi))
 have hd:=down1_room hm
 have hfound:=found_any (down1_ok hq.ok hm) (by omega)
 obtain ⟨bk,hbk⟩:=hfound
 have HBK:=hid hbk
 have HR:=hid hr
 clear hq hW hP hm hr v0 v1 vo vo1 hd hbk
 obtain ⟨y,hy⟩ : ∃y,y=l.getD i 0:=⟨_,rfl⟩
 rw [← hy] at e1 HM HBK ⊢
 have HY:=hid hy
 clear hy
 go_enter Tryz.func218,Tryz.ntmps218
 by_cases hy0:y=0
 ·subst hy0
  go_upto_region 2 with (fail)
  have HQ1:=hid (show PAt w p ta cb mb c (down1 q 0) by rw [down1_zero]; exact HQ.out)
  have HW1:=HWR
  have HP1:=HP
  have HB1:=hid (ButL.refl w [cb,mb,p,g1,g2])
  have HF:=HBK
  clear d0 d1 do0 do1
  refine Inv2.wp_region_inv (fun b a wy => ∃z26 z27 z28 z29 z30 z31 z32 z33 z34 z35 z36 z37 z38 z39,a=⟨(List.toArray (.pointer (some ⟨W,0,none⟩) :: .pointer (some ⟨W,o,none⟩) :: .int .i64 (i:Int) :: undef :: undef :: undef :: .pointer (some ⟨W,o,none⟩) :: .pointer (some ⟨W,o,none⟩) :: .pointer (some ⟨W,o,none⟩) :: .slice (some ⟨g1,0,none⟩) l.length c1 :: .int .i64 (i:Int) :: .pointer (some ⟨g1,i,none⟩) :: .int .i64 0 :: .bool false :: undef :: undef :: undef :: undef :: undef :: undef :: undef :: undef :: undef :: undef :: undef :: undef :: z26 :: z27 :: z28 :: z29 :: z30 :: z31 :: z32 :: z33 :: z34 :: z35 :: z36 :: z37 :: z38 :: z39 :: undef :: undef :: undef :: undef :: undef :: undef :: [])),[]⟩∧Hid ((b 0=true→z27 = .pointer (some ⟨W,o,none⟩))∧(b 1=true→z28 = .pointer (some ⟨W,o,none⟩))∧(b 2=true→z29 = .pointer (some ⟨W,o,none⟩))∧(b 3=true→z30 = .slice (some ⟨g1,0,none⟩) l.length c1)∧(b 4=true→z31 = .int .i64 (i:Int))∧(b 5=true→z32 = .pointer (some ⟨W,0,none⟩))∧(b 6=true→z33 = .pointer (some ⟨W,0,none⟩))∧(b 7=true→z34 = .pointer (some ⟨W,1,none⟩))∧(b 8=true→z35 = .pointer (some ⟨p,0,none⟩))∧(b 9=true→z36 = .tuple #[.int .i64 (bk:Int),.int .i64 0])∧(b 10=true→z26 = .tuple #[.int .i64 (bk:Int),.int .i64 0])∧(b 11=true→z37 = .int .i64 (bk:Int))∧(b 12=true→z38 = .int .i64 0)∧(b 13=true→z39 = .pointer (some ⟨g1,i,none⟩)))∧Hid (Below 0 w wy)∧Hid ((b 9=false→PAt wy p ta cb mb c (down1 q 0))∧(b 9=true→PAt wy p ta cb mb c (Q.took (down1 q 0) bk))∧RowV wy W 297 vs∧(b 14=false→PgAt wy g1 g2 c1 c2 B l f)∧(b 14=true→b 9=true∧PgAt wy g1 g2 c1 c2 B (l.set i bk) f)∧ButL w wy [cb,mb,p,g1,g2])) (by kernel_rfl) (by kernel_rfl) ?startB1 ?stepsB1 ?doneB1
  case startB1 =>
   intro b hb
   refine ⟨undef,undef,undef,undef,undef,undef,undef,undef,undef,undef,undef,undef,undef,undef,rfl,hid ⟨?_,?_,?_,?_,?_,?_,?_,?_,?_,?_,?_,?_,?_,?_⟩,hid ((show Still w w.drew from ⟨rfl,rfl,rfl,rfl⟩).below _),hid (⟨fun _=>HQ1.out.drewN 1,fun e=>(by rw [hb _ (by decide)] at e; cases e),HW1.out,fun _=>HP1.out.blocks rfl rfl,fun e=>(by rw [hb _ (by decide)] at e; cases e),HB1.out.trans (ButL.still _ ⟨rfl,rfl,rfl,rfl⟩)⟩)⟩
   all_goals (intro e; first | rfl | (rw [hb _ (by decide)] at e; cases e))
  case stepsB1 =>
   refine ⟨?_,?_,?_,?_,?_,?_,?_,?_,?_,?_,?_,?_,?_,?_,?_,trivial⟩
   ·rintro b a wy hb hd ⟨z26,z27,z28,z29,z30,z31,z32,z33,z34,z35,z36,z37,z38,z39,rfl,HV,HW,HX⟩ K hK
    obtain ⟨h0,h1,h2,h3,h4,h5,h6,h7,h8,h9,h10,h11,h12,h13⟩:=HV.out
    clear hd
    go_simp
    exact hK _ _ ⟨_,_,_,_,_,_,_,_,_,_,_,_,_,_,rfl,hid ⟨fun _=>rfl,h1,h2,h3,h4,h5,h6,h7,h8,h9,h10,h11,h12,h13⟩,HW,HX⟩
   ·rintro b a wy hb hd ⟨z26,z27,z28,z29,z30,z31,z32,z33,z34,z35,z36,z37,z38,z39,rfl,HV,HW,HX⟩ K hK
    obtain ⟨h0,h1,h2,h3,h4,h5,h6,h7,h8,h9,h10,h11,h12,h13⟩:=HV.out
    simp [Region.binds] at hd
    obtain rfl:=h0 (by simp [hd])
    clear hd
    go_simp
    exact hK _ _ ⟨_,_,_,_,_,_,_,_,_,_,_,_,_,_,rfl,hid ⟨h0,fun _=>rfl,h2,h3,h4,h5,h6,h7,h8,h9,h10,h11,h12,h13⟩,HW,HX⟩
   ·rintro b a wy hb hd ⟨z26,z27,z28,z29,z30,z31,z32,z33,z34,z35,z36,z37,z38,z39,rfl,HV,HW,HX⟩ K hK
    obtain ⟨h0,h1,h2,h3,h4,h5,h6,h7,h8,h9,h10,h11,h12,h13⟩:=HV.out
    simp [Region.binds] at hd
    obtain rfl:=h1 (by simp [hd])
    clear hd
    go_simp
    exact hK _ _ ⟨_,_,_,_,_,_,_,_,_,_,_,_,_,_,rfl,hid ⟨h0,h1,fun _=>rfl,h3,h4,h5,h6,h7,h8,h9,h10,h11,h12,h13⟩,HW,HX⟩
   ·rintro b a wy hb hd ⟨z26,z27,z28,z29,z30,z31,z32,z33,z34,z35,z36,z37,z38,z39,rfl,HV,HW,HX⟩ K hK
    obtain ⟨h0,h1,h2,h3,h4,h5,h6,h7,h8,h9,h10,h11,h12,h13⟩:=HV.out
    simp [Region.binds] at hd
    obtain rfl:=h2 (by simp [hd])
    clear hd
    obtain ⟨x1,x2,x3,x4,x5,x6⟩:=HX.out
    have q0:=x3.cellAt HCV.out.2.2.1
    go_simp
    exact hK _ _ ⟨_,_,_,_,_,_,_,_,_,_,_,_,_,_,rfl,hid ⟨h0,h1,h2,fun _=>rfl,h4,h5,h6,h7,h8,h9,h10,h11,h12,h13⟩,HW,HX⟩
   ·rintro b a wy hb hd ⟨z26,z27,z28,z29,z30,z31,z32,z33,z34,z35,z36,z37,z38,z39,rfl,HV,HW,HX⟩ K hK
    obtain ⟨h0,h1,h2,h3,h4,h5,h6,h7,h8,h9,h10,h11,h12,h13⟩:=HV.out
    clear hd
    go_simp
    exact hK _ _ ⟨_,_,_,_,_,_,_,_,_,_,_,_,_,_,rfl,hid ⟨h0,h1,h2,h3,fun _=>rfl,h5,h6,h7,h8,h9,h10,h11,h12,h13⟩,HW,HX⟩
   ·rintro b a wy hb hd ⟨z26,z27,z28,z29,z30,z31,z32,z33,z34,z35,z36,z37,z38,z39,rfl,HV,HW,HX⟩ K hK
    obtain ⟨h0,h1,h2,h3,h4,h5,h6,h7,h8,h9,h10,h11,h12,h13⟩:=HV.out
    clear hd
    go_simp
    exact hK _ _ ⟨_,_,_,_,_,_,_,_,_,_,_,_,_,_,rfl,hid ⟨h0,h1,h2,h3,h4,fun _=>rfl,h6,h7,h8,h9,h10,h11,h12,h13⟩,HW,HX⟩
   ·rintro b a wy hb hd ⟨z26,z27,z28,z29,z30,z31,z32,z33,z34,z35,z36,z37,z38,z39,rfl,HV,HW,HX⟩ K hK
    obtain ⟨h0,h1,h2,h3,h4,h5,h6,h7,h8,h9,h10,h11,h12,h13⟩:=HV.out
    simp [Region.binds] at hd
    obtain rfl:=h5 (by simp [hd])
    clear hd
    go_simp
    exact hK _ _ ⟨_,_,_,_,_,_,_,_,_,_,_,_,_,_,rfl,hid ⟨h0,h1,h2,h3,h4,h5,fun _=>rfl,h7,h8,h9,h10,h11,h12,h13⟩,HW,HX⟩
   ·rintro b a wy hb hd ⟨z26,z27,z28,z29,z30,z31,z32,z33,z34,z35,z36,z37,z38,z39,rfl,HV,HW,HX⟩ K hK
    obtain ⟨h0,h1,h2,h3,h4,h5,h6,h7,h8,h9,h10,h11,h12,h13⟩:=HV.out
    simp [Region.binds] at hd
    obtain rfl:=h6 (by simp [hd])
    clear hd
    go_simp
    exact hK _ _ ⟨_,_,_,_,_,_,_,_,_,_,_,_,_,_,rfl,hid ⟨h0,h1,h2,h3,h4,h5,h6,fun _=>rfl,h8,h9,h10,h11,h12,h13⟩,HW,HX⟩
   ·rintro b a wy hb hd ⟨z26,z27,z28,z29,z30,z31,z32,z33,z34,z35,z36,z37,z38,z39,rfl,HV,HW,HX⟩ K hK
    obtain ⟨h0,h1,h2,h3,h4,h5,h6,h7,h8,h9,h10,h11,h12,h13⟩:=HV.out
    simp [Region.binds] at hd
    obtain rfl:=h7 (by simp [hd])
    clear hd
    obtain ⟨x1,x2,x3,x4,x5,x6⟩:=HX.out
    have q0:=x3.cellAt HCV.out.2.1
    go_simp
    exact hK _ _ ⟨_,_,_,_,_,_,_,_,_,_,_,_,_,_,rfl,hid ⟨h0,h1,h2,h3,h4,h5,h6,h7,fun _=>rfl,h9,h10,h11,h12,h13⟩,HW,HX⟩
   ·rintro b a wy hb hd ⟨z26,z27,z28,z29,z30,z31,z32,z33,z34,z35,z36,z37,z38,z39,rfl,HV,HW,HX⟩ K hK
    obtain ⟨h0,h1,h2,h3,h4,h5,h6,h7,h8,h9,h10,h11,h12,h13⟩:=HV.out
    simp [Region.binds] at hd
    obtain rfl:=h8 (by simp [hd])
    clear hd
    obtain ⟨x1,x2,x3,x4,x5,x6⟩:=HX.out
    have HA:=hid (x1 hb)
    have HX3:=hid x3
    have HX4:=hid x4
    have HX5:=hid x5
    have HX6:=hid x6
    clear x1 x2 x3 x4 x5 x6
    go_simp
    go_at_call 96
    refine (take_found HA.out bk HF.out rfl).mono ?_
    rintro e wz ⟨rfl,az,bz⟩
    try go_simp
    have BL:ButL wy wz [cb,mb,p,g1,g2]:=(ButL.of_but3 bz).mono (fun x hx => .inl (by simp at hx ⊢; rcases hx with h | h | h <;> simp [h]))
    exact hK _ _ ⟨_,_,_,_,_,_,_,_,_,_,_,_,_,_,rfl,hid ⟨h0,h1,h2,h3,h4,h5,h6,h7,h8,fun _=>rfl,h10,h11,h12,h13⟩,hid (HW.out.trans (bz.below (Nat.zero_le _) (Nat.zero_le _) (Nat.zero_le _) (Nat.zero_le _))),hid ⟨fun e=>(by cases e),fun _=>az,HX3.out.block (bz.block W HX3.out.lt HOW.out.2.2.1 HOW.out.2.2.2 HOW.out.1),fun e=>(HX4.out e).blocks (bz.block g1 (HX4.out e).lt1 HO1.out.2.2.1 HO1.out.2.2.2 HO1.out.1) (bz.block g2 (HX4.out e).lt2 HO2.out.2.2.1 HO2.out.2.2.2 HO2.out.1),fun e=>absurd (HX5.out e).1 (by rw [hb]; decide),HX6.out.trans BL⟩⟩
   ·rintro b a wy hb hd ⟨z26,z27,z28,z29,z30,z31,z32,z33,z34,z35,z36,z37,z38,z39,rfl,HV,HW,HX⟩ K hK
    obtain ⟨h0,h1,h2,h3,h4,h5,h6,h7,h8,h9,h10,h11,h12,h13⟩:=HV.out
    simp [Region.binds] at hd
    obtain rfl:=h9 (by simp [hd])
    clear hd
    go_simp
    exact hK _ _ ⟨_,_,_,_,_,_,_,_,_,_,_,_,_,_,rfl,hid ⟨h0,h1,h2,h3,h4,h5,h6,h7,h8,h9,fun _=>rfl,h11,h12,h13⟩,HW,HX⟩
   ·rintro b a wy hb hd ⟨z26,z27,z28,z29,z30,z31,z32,z33,z34,z35,z36,z37,z38,z39,rfl,HV,HW,HX⟩ K hK
    obtain ⟨h0,h1,h2,h3,h4,h5,h6,h7,h8,h9,h10,h11,h12,h13⟩:=HV.out
    simp [Region.binds] at hd
    obtain rfl:=h10 (by simp [hd])
    clear hd
    go_simp
    exact hK _ _ ⟨_,_,_,_,_,_,_,_,_,_,_,_,_,_,rfl,hid ⟨h0,h1,h2,h3,h4,h5,h6,h7,h8,h9,h10,fun _=>rfl,h12,h13⟩,HW,HX⟩
   ·rintro b a wy hb hd ⟨z26,z27,z28,z29,z30,z31,z32,z33,z34,z35,z36,z37,z38,z39,rfl,HV,HW,HX⟩ K hK
    obtain ⟨h0,h1,h2,h3,h4,h5,h6,h7,h8,h9,h10,h11,h12,h13⟩:=HV.out
    simp [Region.binds] at hd
    obtain rfl:=h10 (by simp [hd])
    clear hd
    go_simp
    exact hK _ _ ⟨_,_,_,_,_,_,_,_,_,_,_,_,_,_,rfl,hid ⟨h0,h1,h2,h3,h4,h5,h6,h7,h8,h9,h10,h11,fun _=>rfl,h13⟩,HW,HX⟩
   ·rintro b a wy hb hd ⟨z26,z27,z28,z29,z30,z31,z32,z33,z34,z35,z36,z37,z38,z39,rfl,HV,HW,HX⟩ K hK
    obtain ⟨h0,h1,h2,h3,h4,h5,h6,h7,h8,h9,h10,h11,h12,h13⟩:=HV.out
    simp [Region.binds] at hd
    obtain rfl:=h3 (by simp [hd])
    obtain rfl:=h4 (by simp [hd])
    clear hd
    go_simp
    exact hK _ _ ⟨_,_,_,_,_,_,_,_,_,_,_,_,_,_,rfl,hid ⟨h0,h1,h2,h3,h4,h5,h6,h7,h8,h9,h10,h11,h12,fun _=>rfl⟩,HW,HX⟩
   ·rintro b a wy hb hd ⟨z26,z27,z28,z29,z30,z31,z32,z33,z34,z35,z36,z37,z38,z39,rfl,HV,HW,HX⟩ K hK
    obtain ⟨h0,h1,h2,h3,h4,h5,h6,h7,h8,h9,h10,h11,h12,h13⟩:=HV.out
    simp [Region.binds] at hd
    obtain rfl:=h13 (by simp [hd])
    obtain rfl:=h11 (by simp [hd])
    have d9h:b 9=true:=by simp [hd]
    obtain rfl:=h9 d9h
    clear hd
    have D9:b 9=true:=d9h
    obtain ⟨x1,x2,x3,x4,x5,x6⟩:=HX.out
    obtain ⟨sp,hsp⟩:=(x4 hb).at'
    have HPL:=hid (x4 hb)
    have fz:=hsp.free i
    have HA:=hid (x2 (D9))
    have HX3:=hid x3
    have HX6:=hid x6
    have HS:=hid (show RowV (wy.setCell ⟨g1,i,none⟩ (.int .i64 (bk:Int))) g1 3 (ints (l.set i bk)++sp) by rw [← set_ints l sp i bk HI.out.1]; exact hsp.set i _)
    have qc:=row_int hsp HI.out.1
    have hd9:=hid D9
    clear x1 x2 x3 x4 x5 x6 hsp D9
    go_simp
    exact hK _ _ ⟨_,_,_,_,_,_,_,_,_,_,_,_,_,_,rfl,hid ⟨h0,h1,h2,h3,h4,h5,h6,h7,h8,h9,h10,h11,h12,h13⟩,hid (HW.out.trans ((ButL.set wy g1 i (.int .i64 (bk:Int))).below (by simp) (Nat.zero_le _))),hid ⟨fun e=>absurd ((show b 9=false from e).symm.trans hd9.out) (by decide),fun _=>setO HA.out HO1.out i _,HX3.out.other HOG.out.2.1,fun e=>(by cases e),fun _=>⟨hd9.out,⟨⟨sp,HS.out⟩,(by obtain ⟨sp2,k⟩:=HPL.out.pl; exact ⟨sp2,k.other (Ne.symm HOG.out.1)⟩),(by rw [List.length_set]; exact HPL.out.len),HPL.out.lo1,HPL.out.lo2,(by rw [List.length_set]; exact HPL.out.cp)⟩⟩,HX6.out.trans ((ButL.set wy g1 i (.int .i64 (bk:Int))).mono (fun x hx => .inl (by simp at hx ⊢; simp [hx])))⟩⟩
  case doneB1 =>
   rintro b a wy hb ⟨z26,z27,z28,z29,z30,z31,z32,z33,z34,z35,z36,z37,z38,z39,rfl,HV,HW,HX⟩
   obtain ⟨h0,h1,h2,h3,h4,h5,h6,h7,h8,h9,h10,h11,h12,h13⟩:=HV.out
   obtain rfl:=h0 (hb 0)
   obtain rfl:=h1 (hb 1)
   obtain rfl:=h2 (hb 2)
   obtain rfl:=h3 (hb 3)
   obtain rfl:=h4 (hb 4)
   obtain rfl:=h5 (hb 5)
   obtain rfl:=h6 (hb 6)
   obtain rfl:=h7 (hb 7)
   obtain rfl:=h8 (hb 8)
   obtain rfl:=h9 (hb 9)
   obtain rfl:=h10 (hb 10)
   obtain rfl:=h11 (hb 11)
   obtain rfl:=h12 (hb 12)
   obtain rfl:=h13 (hb 13)
   clear HV h0 h1 h2 h3 h4 h5 h6 h7 h8 h9 h10 h11 h12 h13
   obtain ⟨x1,x2,x3,x4,x5,x6⟩:=HX.out
   obtain ⟨_,x5⟩:=x5 (hb 14)
   have HQ2:=hid (x2 (hb 9))
   have HP2:=hid x5
   have HB2:=hid x6
   have d3:=x3.cellAt HCV.out.2.2.2
   obtain ⟨sp,hsp⟩:=x5.pl
   have fz:=hsp.free i
   have qc:=row_bool hsp HI.out.2
   have HS:=hid (show RowV (wy.setCell ⟨g2,i,none⟩ (.bool true)) g2 4 (bools (f.set i true)++sp) by rw [← set_bools f sp i true HI.out.2]; exact hsp.set i _)
   clear x1 x2 x3 x4 x5 x6 hsp hb
   go_wp2_with fail
   go_end0
   refine ⟨_,bk,rfl,⟨HBK.out,rfl⟩,setO HQ2.out HO2.out i _,⟨(by obtain ⟨sp2,k⟩:=HP2.out.at'; exact ⟨sp2,k.other HOG.out.1⟩),⟨sp,HS.out⟩,(by rw [List.length_set]; exact HP2.out.len),HP2.out.lo1,HP2.out.lo2,(by first | exact HP2.out.cp | (rw [List.length_set]; exact HP2.out.cp))⟩,HB2.out.trans ((ButL.set wy g2 i (.bool true)).mono (fun x hx => .inl (by simp at hx ⊢; simp [hx])))⟩
 ·have hy0i : ¬((y:Int)=0):=by omega
  have hy0b:((y:Int)==0)=false:=by simpa using hy0i
  have hy0n:((y:Int) != 0)=true:=by simpa using hy0i
  go_upto_region 1 with (fail)
  clear d0 d1 do0 do1 e1
  refine Inv2.wp_region_inv (fun b a wy => ∃z14 z15 z16 z17 z18 z19 z20 z21 z22 z23 z24 z25,a=⟨(List.toArray (.pointer (some ⟨W,0,none⟩) :: .pointer (some ⟨W,o,none⟩) :: .int .i64 (i:Int) :: undef :: undef :: undef :: .pointer (some ⟨W,o,none⟩) :: .pointer (some ⟨W,o,none⟩) :: .pointer (some ⟨W,o,none⟩) :: .slice (some ⟨g1,0,none⟩) l.length c1 :: .int .i64 (i:Int) :: .pointer (some ⟨g1,i,none⟩) :: .int .i64 (y:Int) :: .bool true :: z14 :: z15 :: z16 :: z17 :: z18 :: z19 :: z20 :: z21 :: z22 :: z23 :: z24 :: z25 :: undef :: undef :: undef :: undef :: undef :: undef :: undef :: undef :: undef :: undef :: undef :: undef :: undef :: undef :: undef :: undef :: undef :: undef :: undef :: undef :: [])),[]⟩∧Hid ((b 0=true→z14 = .pointer (some ⟨W,0,none⟩))∧(b 1=true→z15 = .pointer (some ⟨W,0,none⟩))∧(b 2=true→z16 = .pointer (some ⟨W,0,none⟩))∧(b 3=true→z17 = .pointer (some ⟨ta,0,none⟩))∧(b 4=true→z18 = .pointer (some ⟨W,o,none⟩))∧(b 5=true→z19 = .pointer (some ⟨W,o,none⟩))∧(b 6=true→z20 = .pointer (some ⟨W,o,none⟩))∧(b 7=true→z21 = .slice (some ⟨g1,0,none⟩) l.length c1)∧(b 8=true→z22 = .int .i64 (i:Int))∧(b 9=true→z23 = .pointer (some ⟨g1,i,none⟩))∧(b 10=true→z24 = .int .i64 (y:Int))∧(b 11=true→z25 = .int .i64 0))∧Hid (Below 0 w wy)∧Hid ((b 11=false→PAt wy p ta cb mb c q)∧(b 11=true→PAt wy p ta cb mb c (down1 q y))∧RowV wy W 297 vs∧PgAt wy g1 g2 c1 c2 B l f∧ButL w wy [cb,mb,p,g1,g2])) (by kernel_rfl) (by kernel_rfl) ?startA1 ?stepsA1 ?doneA1
  case startA1 =>
   intro b hb
   refine ⟨undef,undef,undef,undef,undef,undef,undef,undef,undef,undef,undef,undef,rfl,hid ⟨?_,?_,?_,?_,?_,?_,?_,?_,?_,?_,?_,?_⟩,hid ((show Still w w.drew from ⟨rfl,rfl,rfl,rfl⟩).below _),hid (⟨fun _=>HQ.out.drewN 1,fun e=>(by rw [hb _ (by decide)] at e; cases e),HWR.out,HP.out.blocks rfl rfl,ButL.still _ ⟨rfl,rfl,rfl,rfl⟩⟩)⟩
   all_goals (intro e; first | rfl | (rw [hb _ (by decide)] at e; cases e))
  case stepsA1 =>
   refine ⟨?_,?_,?_,?_,?_,?_,?_,?_,?_,?_,?_,?_,trivial⟩
   ·rintro b a wy hb hd ⟨z14,z15,z16,z17,z18,z19,z20,z21,z22,z23,z24,z25,rfl,HV,HW,HX⟩ K hK
    obtain ⟨h0,h1,h2,h3,h4,h5,h6,h7,h8,h9,h10,h11⟩:=HV.out
    clear hd
    go_simp
    exact hK _ _ ⟨_,_,_,_,_,_,_,_,_,_,_,_,rfl,hid ⟨fun _=>rfl,h1,h2,h3,h4,h5,h6,h7,h8,h9,h10,h11⟩,HW,HX⟩
   ·rintro b a wy hb hd ⟨z14,z15,z16,z17,z18,z19,z20,z21,z22,z23,z24,z25,rfl,HV,HW,HX⟩ K hK
    obtain ⟨h0,h1,h2,h3,h4,h5,h6,h7,h8,h9,h10,h11⟩:=HV.out
    simp [Region.binds] at hd
    obtain rfl:=h0 (by simp [hd])
    clear hd
    go_simp
    exact hK _ _ ⟨_,_,_,_,_,_,_,_,_,_,_,_,rfl,hid ⟨h0,fun _=>rfl,h2,h3,h4,h5,h6,h7,h8,h9,h10,h11⟩,HW,HX⟩
   ·rintro b a wy hb hd ⟨z14,z15,z16,z17,z18,z19,z20,z21,z22,z23,z24,z25,rfl,HV,HW,HX⟩ K hK
    obtain ⟨h0,h1,h2,h3,h4,h5,h6,h7,h8,h9,h10,h11⟩:=HV.out
    simp [Region.binds] at hd
    obtain rfl:=h1 (by simp [hd])
    clear hd
    go_simp
    exact hK _ _ ⟨_,_,_,_,_,_,_,_,_,_,_,_,rfl,hid ⟨h0,h1,fun _=>rfl,h3,h4,h5,h6,h7,h8,h9,h10,h11⟩,HW,HX⟩
   ·rintro b a wy hb hd ⟨z14,z15,z16,z17,z18,z19,z20,z21,z22,z23,z24,z25,rfl,HV,HW,HX⟩ K hK
    obtain ⟨h0,h1,h2,h3,h4,h5,h6,h7,h8,h9,h10,h11⟩:=HV.out
    simp [Region.binds] at hd
    obtain rfl:=h2 (by simp [hd])
    clear hd
    obtain ⟨x1,x2,x3,x4,x5⟩:=HX.out
    have q0:=x3.cellAt HCV.out.1
    go_simp
    exact hK _ _ ⟨_,_,_,_,_,_,_,_,_,_,_,_,rfl,hid ⟨h0,h1,h2,fun _=>rfl,h4,h5,h6,h7,h8,h9,h10,h11⟩,HW,HX⟩
   ·rintro b a wy hb hd ⟨z14,z15,z16,z17,z18,z19,z20,z21,z22,z23,z24,z25,rfl,HV,HW,HX⟩ K hK
    obtain ⟨h0,h1,h2,h3,h4,h5,h6,h7,h8,h9,h10,h11⟩:=HV.out
    clear hd
    go_simp
    exact hK _ _ ⟨_,_,_,_,_,_,_,_,_,_,_,_,rfl,hid ⟨h0,h1,h2,h3,fun _=>rfl,h5,h6,h7,h8,h9,h10,h11⟩,HW,HX⟩
   ·rintro b a wy hb hd ⟨z14,z15,z16,z17,z18,z19,z20,z21,z22,z23,z24,z25,rfl,HV,HW,HX⟩ K hK
    obtain ⟨h0,h1,h2,h3,h4,h5,h6,h7,h8,h9,h10,h11⟩:=HV.out
    simp [Region.binds] at hd
    obtain rfl:=h4 (by simp [hd])
    clear hd
    go_simp
    exact hK _ _ ⟨_,_,_,_,_,_,_,_,_,_,_,_,rfl,hid ⟨h0,h1,h2,h3,h4,fun _=>rfl,h6,h7,h8,h9,h10,h11⟩,HW,HX⟩
   ·rintro b a wy hb hd ⟨z14,z15,z16,z17,z18,z19,z20,z21,z22,z23,z24,z25,rfl,HV,HW,HX⟩ K hK
    obtain ⟨h0,h1,h2,h3,h4,h5,h6,h7,h8,h9,h10,h11⟩:=HV.out
    simp [Region.binds] at hd
    obtain rfl:=h5 (by simp [hd])
    clear hd
    go_simp
    exact hK _ _ ⟨_,_,_,_,_,_,_,_,_,_,_,_,rfl,hid ⟨h0,h1,h2,h3,h4,h5,fun _=>rfl,h7,h8,h9,h10,h11⟩,HW,HX⟩
   ·rintro b a wy hb hd ⟨z14,z15,z16,z17,z18,z19,z20,z21,z22,z23,z24,z25,rfl,HV,HW,HX⟩ K hK
    obtain ⟨h0,h1,h2,h3,h4,h5,h6,h7,h8,h9,h10,h11⟩:=HV.out
    simp [Region.binds] at hd
    obtain rfl:=h6 (by simp [hd])
    clear hd
    obtain ⟨x1,x2,x3,x4,x5⟩:=HX.out
    have q0:=x3.cellAt HCV.out.2.2.1
    go_simp
    exact hK _ _ ⟨_,_,_,_,_,_,_,_,_,_,_,_,rfl,hid ⟨h0,h1,h2,h3,h4,h5,h6,fun _=>rfl,h8,h9,h10,h11⟩,HW,HX⟩
   ·rintro b a wy hb hd ⟨z14,z15,z16,z17,z18,z19,z20,z21,z22,z23,z24,z25,rfl,HV,HW,HX⟩ K hK
    obtain ⟨h0,h1,h2,h3,h4,h5,h6,h7,h8,h9,h10,h11⟩:=HV.out
    clear hd
    go_simp
    exact hK _ _ ⟨_,_,_,_,_,_,_,_,_,_,_,_,rfl,hid ⟨h0,h1,h2,h3,h4,h5,h6,h7,fun _=>rfl,h9,h10,h11⟩,HW,HX⟩
   ·rintro b a wy hb hd ⟨z14,z15,z16,z17,z18,z19,z20,z21,z22,z23,z24,z25,rfl,HV,HW,HX⟩ K hK
    obtain ⟨h0,h1,h2,h3,h4,h5,h6,h7,h8,h9,h10,h11⟩:=HV.out
    simp [Region.binds] at hd
    obtain rfl:=h7 (by simp [hd])
    obtain rfl:=h8 (by simp [hd])
    clear hd
    go_simp
    exact hK _ _ ⟨_,_,_,_,_,_,_,_,_,_,_,_,rfl,hid ⟨h0,h1,h2,h3,h4,h5,h6,h7,h8,fun _=>rfl,h10,h11⟩,HW,HX⟩
   ·rintro b a wy hb hd ⟨z14,z15,z16,z17,z18,z19,z20,z21,z22,z23,z24,z25,rfl,HV,HW,HX⟩ K hK
    obtain ⟨h0,h1,h2,h3,h4,h5,h6,h7,h8,h9,h10,h11⟩:=HV.out
    simp [Region.binds] at hd
    obtain rfl:=h9 (by simp [hd])
    clear hd
    obtain ⟨x1,x2,x3,x4,x5⟩:=HX.out
    have q0:wy.cell? ⟨g1,i,none⟩=some (.int .i64 (y:Int)):=by (obtain ⟨sp,k⟩:=x4.at'; rw [HY.out]; exact row_int k HI.out.1)
    go_simp
    exact hK _ _ ⟨_,_,_,_,_,_,_,_,_,_,_,_,rfl,hid ⟨h0,h1,h2,h3,h4,h5,h6,h7,h8,h9,fun _=>rfl,h11⟩,HW,HX⟩
   ·rintro b a wy hb hd ⟨z14,z15,z16,z17,z18,z19,z20,z21,z22,z23,z24,z25,rfl,HV,HW,HX⟩ K hK
    obtain ⟨h0,h1,h2,h3,h4,h5,h6,h7,h8,h9,h10,h11⟩:=HV.out
    simp [Region.binds] at hd
    obtain rfl:=h3 (by simp [hd])
    obtain rfl:=h10 (by simp [hd])
    clear hd
    obtain ⟨x1,x2,x3,x4,x5⟩:=HX.out
    have HA:=hid (x1 hb)
    have HX3:=hid x3
    have HX4:=hid x4
    have HX5:=hid x5
    clear x1 x2 x3 x4 x5
    go_simp
    go_at_call 100
    refine (down_eq HA.out.tally (y:Int) 0 (down_is (HM.out hy0).1 (HM.out hy0).2)).mono ?_
    rintro e wz ⟨rfl,az,bz⟩
    try go_simp
    have BL:ButL wy wz [cb,mb,p,g1,g2]:=(ButL.of_but bz).mono (fun x hx => .inl (by simp at hx ⊢; rcases hx with h | h <;> simp [h]))
    have HT:=HA.out.turned az bz (n_put _ _ _)
    exact hK _ _ ⟨_,_,_,_,_,_,_,_,_,_,_,_,rfl,hid ⟨h0,h1,h2,h3,h4,h5,h6,h7,h8,h9,h10,fun _=>rfl⟩,hid (HW.out.trans (bz.below (Nat.zero_le _) (Nat.zero_le _) (Nat.zero_le _))),hid ⟨fun e=>(by cases e),fun _=>(by rw [down1_pos hy0 HM.out]; exact HT),HX3.out.block (bz.block W HX3.out.lt HOW.out.2.2.1 HOW.out.2.2.2),HX4.out.blocks (bz.block g1 HX4.out.lt1 HO1.out.2.2.1 HO1.out.2.2.2) (bz.block g2 HX4.out.lt2 HO2.out.2.2.1 HO2.out.2.2.2),HX5.out.trans BL⟩⟩
  case doneA1 =>
   rintro b a wy1 hb ⟨z14,z15,z16,z17,z18,z19,z20,z21,z22,z23,z24,z25,rfl,HV,HW,HX⟩
   obtain ⟨h0,h1,h2,h3,h4,h5,h6,h7,h8,h9,h10,h11⟩:=HV.out
   obtain rfl:=h0 (hb 0)
   obtain rfl:=h1 (hb 1)
   obtain rfl:=h2 (hb 2)
   obtain rfl:=h3 (hb 3)
   obtain rfl:=h4 (hb 4)
   obtain rfl:=h5 (hb 5)
   obtain rfl:=h6 (hb 6)
   obtain rfl:=h7 (hb 7)
   obtain rfl:=h8 (hb 8)
   obtain rfl:=h9 (hb 9)
   obtain rfl:=h10 (hb 10)
   obtain rfl:=h11 (hb 11)
   clear HV h0 h1 h2 h3 h4 h5 h6 h7 h8 h9 h10 h11
   obtain ⟨x1,x2,x3,x4,x5⟩:=HX.out
   have HQ1:=hid (x2 (hb 11))
   have HW1:=hid x3
   have HP1:=hid x4
   have HB1:=hid x5
   have HF:=HBK
   clear x1 x2 x3 x4 x5 hb HX
   go_upto_region 2 with (fail)
   refine Inv2.wp_region_inv (fun b a wy => ∃z26 z27 z28 z29 z30 z31 z32 z33 z34 z35 z36 z37 z38 z39,a=⟨(List.toArray (.pointer (some ⟨W,0,none⟩) :: .pointer (some ⟨W,o,none⟩) :: .int .i64 (i:Int) :: undef :: undef :: undef :: .pointer (some ⟨W,o,none⟩) :: .pointer (some ⟨W,o,none⟩) :: .pointer (some ⟨W,o,none⟩) :: .slice (some ⟨g1,0,none⟩) l.length c1 :: .int .i64 (i:Int) :: .pointer (some ⟨g1,i,none⟩) :: .int .i64 (y:Int) :: .bool true :: .pointer (some ⟨W,0,none⟩) :: .pointer (some ⟨W,0,none⟩) :: .pointer (some ⟨W,0,none⟩) :: .pointer (some ⟨ta,0,none⟩) :: .pointer (some ⟨W,o,none⟩) :: .pointer (some ⟨W,o,none⟩) :: .pointer (some ⟨W,o,none⟩) :: .slice (some ⟨g1,0,none⟩) l.length c1 :: .int .i64 (i:Int) :: .pointer (some ⟨g1,i,none⟩) :: .int .i64 (y:Int) :: .int .i64 0 :: z26 :: z27 :: z28 :: z29 :: z30 :: z31 :: z32 :: z33 :: z34 :: z35 :: z36 :: z37 :: z38 :: z39 :: undef :: undef :: undef :: undef :: undef :: undef :: [])),[]⟩∧Hid ((b 0=true→z27 = .pointer (some ⟨W,o,none⟩))∧(b 1=true→z28 = .pointer (some ⟨W,o,none⟩))∧(b 2=true→z29 = .pointer (some ⟨W,o,none⟩))∧(b 3=true→z30 = .slice (some ⟨g1,0,none⟩) l.length c1)∧(b 4=true→z31 = .int .i64 (i:Int))∧(b 5=true→z32 = .pointer (some ⟨W,0,none⟩))∧(b 6=true→z33 = .pointer (some ⟨W,0,none⟩))∧(b 7=true→z34 = .pointer (some ⟨W,1,none⟩))∧(b 8=true→z35 = .pointer (some ⟨p,0,none⟩))∧(b 9=true→z36 = .tuple #[.int .i64 (bk:Int),.int .i64 0])∧(b 10=true→z26 = .tuple #[.int .i64 (bk:Int),.int .i64 0])∧(b 11=true→z37 = .int .i64 (bk:Int))∧(b 12=true→z38 = .int .i64 0)∧(b 13=true→z39 = .pointer (some ⟨g1,i,none⟩)))∧Hid (Below 0 wy1 wy)∧Hid ((b 9=false→PAt wy p ta cb mb c (down1 q y))∧(b 9=true→PAt wy p ta cb mb c (Q.took (down1 q y) bk))∧RowV wy W 297 vs∧(b 14=false→PgAt wy g1 g2 c1 c2 B l f)∧(b 14=true→b 9=true∧PgAt wy g1 g2 c1 c2 B (l.set i bk) f)∧ButL w wy [cb,mb,p,g1,g2])) (by kernel_rfl) (by kernel_rfl) ?startB2 ?stepsB2 ?doneB2
   case startB2 =>
    intro b hb
    refine ⟨undef,undef,undef,undef,undef,undef,undef,undef,undef,undef,undef,undef,undef,undef,rfl,hid ⟨?_,?_,?_,?_,?_,?_,?_,?_,?_,?_,?_,?_,?_,?_⟩,hid ((show Still wy1 wy1.drew from ⟨rfl,rfl,rfl,rfl⟩).below _),hid (⟨fun _=>HQ1.out.drewN 1,fun e=>(by rw [hb _ (by decide)] at e; cases e),HW1.out,fun _=>HP1.out.blocks rfl rfl,fun e=>(by rw [hb _ (by decide)] at e; cases e),HB1.out.trans (ButL.still _ ⟨rfl,rfl,rfl,rfl⟩)⟩)⟩
    all_goals (intro e; first | rfl | (rw [hb _ (by decide)] at e; cases e))
   case stepsB2 =>
    refine ⟨?_,?_,?_,?_,?_,?_,?_,?_,?_,?_,?_,?_,?_,?_,?_,trivial⟩
    ·rintro b a wy hb hd ⟨z26,z27,z28,z29,z30,z31,z32,z33,z34,z35,z36,z37,z38,z39,rfl,HV,HW,HX⟩ K hK
     obtain ⟨h0,h1,h2,h3,h4,h5,h6,h7,h8,h9,h10,h11,h12,h13⟩:=HV.out
     clear hd
     go_simp
     exact hK _ _ ⟨_,_,_,_,_,_,_,_,_,_,_,_,_,_,rfl,hid ⟨fun _=>rfl,h1,h2,h3,h4,h5,h6,h7,h8,h9,h10,h11,h12,h13⟩,HW,HX⟩
    ·rintro b a wy hb hd ⟨z26,z27,z28,z29,z30,z31,z32,z33,z34,z35,z36,z37,z38,z39,rfl,HV,HW,HX⟩ K hK
     obtain ⟨h0,h1,h2,h3,h4,h5,h6,h7,h8,h9,h10,h11,h12,h13⟩:=HV.out
     simp [Region.binds] at hd
     obtain rfl:=h0 (by simp [hd])
     clear hd
     go_simp
     exact hK _ _ ⟨_,_,_,_,_,_,_,_,_,_,_,_,_,_,rfl,hid ⟨h0,fun _=>rfl,h2,h3,h4,h5,h6,h7,h8,h9,h10,h11,h12,h13⟩,HW,HX⟩
    ·rintro b a wy hb hd ⟨z26,z27,z28,z29,z30,z31,z32,z33,z34,z35,z36,z37,z38,z39,rfl,HV,HW,HX⟩ K hK
     obtain ⟨h0,h1,h2,h3,h4,h5,h6,h7,h8,h9,h10,h11,h12,h13⟩:=HV.out
     simp [Region.binds] at hd
     obtain rfl:=h1 (by simp [hd])
     clear hd
     go_simp
     exact hK _ _ ⟨_,_,_,_,_,_,_,_,_,_,_,_,_,_,rfl,hid ⟨h0,h1,fun _=>rfl,h3,h4,h5,h6,h7,h8,h9,h10,h11,h12,h13⟩,HW,HX⟩
    ·rintro b a wy hb hd ⟨z26,z27,z28,z29,z30,z31,z32,z33,z34,z35,z36,z37,z38,z39,rfl,HV,HW,HX⟩ K hK
     obtain ⟨h0,h1,h2,h3,h4,h5,h6,h7,h8,h9,h10,h11,h12,h13⟩:=HV.out
     simp [Region.binds] at hd
     obtain rfl:=h2 (by simp [hd])
     clear hd
     obtain ⟨x1,x2,x3,x4,x5,x6⟩:=HX.out
     have q0:=x3.cellAt HCV.out.2.2.1
     go_simp
     exact hK _ _ ⟨_,_,_,_,_,_,_,_,_,_,_,_,_,_,rfl,hid ⟨h0,h1,h2,fun _=>rfl,h4,h5,h6,h7,h8,h9,h10,h11,h12,h13⟩,HW,HX⟩
    ·rintro b a wy hb hd ⟨z26,z27,z28,z29,z30,z31,z32,z33,z34,z35,z36,z37,z38,z39,rfl,HV,HW,HX⟩ K hK
     obtain ⟨h0,h1,h2,h3,h4,h5,h6,h7,h8,h9,h10,h11,h12,h13⟩:=HV.out
     clear hd
     go_simp
     exact hK _ _ ⟨_,_,_,_,_,_,_,_,_,_,_,_,_,_,rfl,hid ⟨h0,h1,h2,h3,fun _=>rfl,h5,h6,h7,h8,h9,h10,h11,h12,h13⟩,HW,HX⟩
    ·rintro b a wy hb hd ⟨z26,z27,z28,z29,z30,z31,z32,z33,z34,z35,z36,z37,z38,z39,rfl,HV,HW,HX⟩ K hK
     obtain ⟨h0,h1,h2,h3,h4,h5,h6,h7,h8,h9,h10,h11,h12,h13⟩:=HV.out
     clear hd
     go_simp
     exact hK _ _ ⟨_,_,_,_,_,_,_,_,_,_,_,_,_,_,rfl,hid ⟨h0,h1,h2,h3,h4,fun _=>rfl,h6,h7,h8,h9,h10,h11,h12,h13⟩,HW,HX⟩
    ·rintro b a wy hb hd ⟨z26,z27,z28,z29,z30,z31,z32,z33,z34,z35,z36,z37,z38,z39,rfl,HV,HW,HX⟩ K hK
     obtain ⟨h0,h1,h2,h3,h4,h5,h6,h7,h8,h9,h10,h11,h12,h13⟩:=HV.out
     simp [Region.binds] at hd
     obtain rfl:=h5 (by simp [hd])
     clear hd
     go_simp
     exact hK _ _ ⟨_,_,_,_,_,_,_,_,_,_,_,_,_,_,rfl,hid ⟨h0,h1,h2,h3,h4,h5,fun _=>rfl,h7,h8,h9,h10,h11,h12,h13⟩,HW,HX⟩
    ·rintro b a wy hb hd ⟨z26,z27,z28,z29,z30,z31,z32,z33,z34,z35,z36,z37,z38,z39,rfl,HV,HW,HX⟩ K hK
     obtain ⟨h0,h1,h2,h3,h4,h5,h6,h7,h8,h9,h10,h11,h12,h13⟩:=HV.out
     simp [Region.binds] at hd
     obtain rfl:=h6 (by simp [hd])
     clear hd
     go_simp
     exact hK _ _ ⟨_,_,_,_,_,_,_,_,_,_,_,_,_,_,rfl,hid ⟨h0,h1,h2,h3,h4,h5,h6,fun _=>rfl,h8,h9,h10,h11,h12,h13⟩,HW,HX⟩
    ·rintro b a wy hb hd ⟨z26,z27,z28,z29,z30,z31,z32,z33,z34,z35,z36,z37,z38,z39,rfl,HV,HW,HX⟩ K hK
     obtain ⟨h0,h1,h2,h3,h4,h5,h6,h7,h8,h9,h10,h11,h12,h13⟩:=HV.out
     simp [Region.binds] at hd
     obtain rfl:=h7 (by simp [hd])
     clear hd
     obtain ⟨x1,x2,x3,x4,x5,x6⟩:=HX.out
     have q0:=x3.cellAt HCV.out.2.1
     go_simp
     exact hK _ _ ⟨_,_,_,_,_,_,_,_,_,_,_,_,_,_,rfl,hid ⟨h0,h1,h2,h3,h4,h5,h6,h7,fun _=>rfl,h9,h10,h11,h12,h13⟩,HW,HX⟩
    ·rintro b a wy hb hd ⟨z26,z27,z28,z29,z30,z31,z32,z33,z34,z35,z36,z37,z38,z39,rfl,HV,HW,HX⟩ K hK
     obtain ⟨h0,h1,h2,h3,h4,h5,h6,h7,h8,h9,h10,h11,h12,h13⟩:=HV.out
     simp [Region.binds] at hd
     obtain rfl:=h8 (by simp [hd])
     clear hd
     obtain ⟨x1,x2,x3,x4,x5,x6⟩:=HX.out
     have HA:=hid (x1 hb)
     have HX3:=hid x3
     have HX4:=hid x4
     have HX5:=hid x5
     have HX6:=hid x6
     clear x1 x2 x3 x4 x5 x6
     go_simp
     go_at_call 96
     refine (take_found HA.out bk HF.out rfl).mono ?_
     rintro e wz ⟨rfl,az,bz⟩
     try go_simp
     have BL:ButL wy wz [cb,mb,p,g1,g2]:=(ButL.of_but3 bz).mono (fun x hx => .inl (by simp at hx ⊢; rcases hx with h | h | h <;> simp [h]))
     exact hK _ _ ⟨_,_,_,_,_,_,_,_,_,_,_,_,_,_,rfl,hid ⟨h0,h1,h2,h3,h4,h5,h6,h7,h8,fun _=>rfl,h10,h11,h12,h13⟩,hid (HW.out.trans (bz.below (Nat.zero_le _) (Nat.zero_le _) (Nat.zero_le _) (Nat.zero_le _))),hid ⟨fun e=>(by cases e),fun _=>az,HX3.out.block (bz.block W HX3.out.lt HOW.out.2.2.1 HOW.out.2.2.2 HOW.out.1),fun e=>(HX4.out e).blocks (bz.block g1 (HX4.out e).lt1 HO1.out.2.2.1 HO1.out.2.2.2 HO1.out.1) (bz.block g2 (HX4.out e).lt2 HO2.out.2.2.1 HO2.out.2.2.2 HO2.out.1),fun e=>absurd (HX5.out e).1 (by rw [hb]; decide),HX6.out.trans BL⟩⟩
    ·rintro b a wy hb hd ⟨z26,z27,z28,z29,z30,z31,z32,z33,z34,z35,z36,z37,z38,z39,rfl,HV,HW,HX⟩ K hK
     obtain ⟨h0,h1,h2,h3,h4,h5,h6,h7,h8,h9,h10,h11,h12,h13⟩:=HV.out
     simp [Region.binds] at hd
     obtain rfl:=h9 (by simp [hd])
     clear hd
     go_simp
     exact hK _ _ ⟨_,_,_,_,_,_,_,_,_,_,_,_,_,_,rfl,hid ⟨h0,h1,h2,h3,h4,h5,h6,h7,h8,h9,fun _=>rfl,h11,h12,h13⟩,HW,HX⟩
    ·rintro b a wy hb hd ⟨z26,z27,z28,z29,z30,z31,z32,z33,z34,z35,z36,z37,z38,z39,rfl,HV,HW,HX⟩ K hK
     obtain ⟨h0,h1,h2,h3,h4,h5,h6,h7,h8,h9,h10,h11,h12,h13⟩:=HV.out
     simp [Region.binds] at hd
     obtain rfl:=h10 (by simp [hd])
     clear hd
     go_simp
     exact hK _ _ ⟨_,_,_,_,_,_,_,_,_,_,_,_,_,_,rfl,hid ⟨h0,h1,h2,h3,h4,h5,h6,h7,h8,h9,h10,fun _=>rfl,h12,h13⟩,HW,HX⟩
    ·rintro b a wy hb hd ⟨z26,z27,z28,z29,z30,z31,z32,z33,z34,z35,z36,z37,z38,z39,rfl,HV,HW,HX⟩ K hK
     obtain ⟨h0,h1,h2,h3,h4,h5,h6,h7,h8,h9,h10,h11,h12,h13⟩:=HV.out
     simp [Region.binds] at hd
     obtain rfl:=h10 (by simp [hd])
     clear hd
     go_simp
     exact hK _ _ ⟨_,_,_,_,_,_,_,_,_,_,_,_,_,_,rfl,hid ⟨h0,h1,h2,h3,h4,h5,h6,h7,h8,h9,h10,h11,fun _=>rfl,h13⟩,HW,HX⟩
    ·rintro b a wy hb hd ⟨z26,z27,z28,z29,z30,z31,z32,z33,z34,z35,z36,z37,z38,z39,rfl,HV,HW,HX⟩ K hK
     obtain ⟨h0,h1,h2,h3,h4,h5,h6,h7,h8,h9,h10,h11,h12,h13⟩:=HV.out
     simp [Region.binds] at hd
     obtain rfl:=h3 (by simp [hd])
     obtain rfl:=h4 (by simp [hd])
     clear hd
     go_simp
     exact hK _ _ ⟨_,_,_,_,_,_,_,_,_,_,_,_,_,_,rfl,hid ⟨h0,h1,h2,h3,h4,h5,h6,h7,h8,h9,h10,h11,h12,fun _=>rfl⟩,HW,HX⟩
    ·rintro b a wy hb hd ⟨z26,z27,z28,z29,z30,z31,z32,z33,z34,z35,z36,z37,z38,z39,rfl,HV,HW,HX⟩ K hK
     obtain ⟨h0,h1,h2,h3,h4,h5,h6,h7,h8,h9,h10,h11,h12,h13⟩:=HV.out
     simp [Region.binds] at hd
     obtain rfl:=h13 (by simp [hd])
     obtain rfl:=h11 (by simp [hd])
     have d9h:b 9=true:=by simp [hd]
     obtain rfl:=h9 d9h
     clear hd
     have D9:b 9=true:=d9h
     obtain ⟨x1,x2,x3,x4,x5,x6⟩:=HX.out
     obtain ⟨sp,hsp⟩:=(x4 hb).at'
     have HPL:=hid (x4 hb)
     have fz:=hsp.free i
     have HA:=hid (x2 (D9))
     have HX3:=hid x3
     have HX6:=hid x6
     have HS:=hid (show RowV (wy.setCell ⟨g1,i,none⟩ (.int .i64 (bk:Int))) g1 3 (ints (l.set i bk)++sp) by rw [← set_ints l sp i bk HI.out.1]; exact hsp.set i _)
     have qc:=row_int hsp HI.out.1
     have hd9:=hid D9
     clear x1 x2 x3 x4 x5 x6 hsp D9
     go_simp
     exact hK _ _ ⟨_,_,_,_,_,_,_,_,_,_,_,_,_,_,rfl,hid ⟨h0,h1,h2,h3,h4,h5,h6,h7,h8,h9,h10,h11,h12,h13⟩,hid (HW.out.trans ((ButL.set wy g1 i (.int .i64 (bk:Int))).below (by simp) (Nat.zero_le _))),hid ⟨fun e=>absurd ((show b 9=false from e).symm.trans hd9.out) (by decide),fun _=>setO HA.out HO1.out i _,HX3.out.other HOG.out.2.1,fun e=>(by cases e),fun _=>⟨hd9.out,⟨⟨sp,HS.out⟩,(by obtain ⟨sp2,k⟩:=HPL.out.pl; exact ⟨sp2,k.other (Ne.symm HOG.out.1)⟩),(by rw [List.length_set]; exact HPL.out.len),HPL.out.lo1,HPL.out.lo2,(by rw [List.length_set]; exact HPL.out.cp)⟩⟩,HX6.out.trans ((ButL.set wy g1 i (.int .i64 (bk:Int))).mono (fun x hx => .inl (by simp at hx ⊢; simp [hx])))⟩⟩
   case doneB2 =>
    rintro b a wy hb ⟨z26,z27,z28,z29,z30,z31,z32,z33,z34,z35,z36,z37,z38,z39,rfl,HV,HW,HX⟩
    obtain ⟨h0,h1,h2,h3,h4,h5,h6,h7,h8,h9,h10,h11,h12,h13⟩:=HV.out
    obtain rfl:=h0 (hb 0)
    obtain rfl:=h1 (hb 1)
    obtain rfl:=h2 (hb 2)
    obtain rfl:=h3 (hb 3)
    obtain rfl:=h4 (hb 4)
    obtain rfl:=h5 (hb 5)
    obtain rfl:=h6 (hb 6)
    obtain rfl:=h7 (hb 7)
    obtain rfl:=h8 (hb 8)
    obtain rfl:=h9 (hb 9)
    obtain rfl:=h10 (hb 10)
    obtain rfl:=h11 (hb 11)
    obtain rfl:=h12 (hb 12)
    obtain rfl:=h13 (hb 13)
    clear HV h0 h1 h2 h3 h4 h5 h6 h7 h8 h9 h10 h11 h12 h13
    obtain ⟨x1,x2,x3,x4,x5,x6⟩:=HX.out
    obtain ⟨_,x5⟩:=x5 (hb 14)
    have HQ2:=hid (x2 (hb 9))
    have HP2:=hid x5
    have HB2:=hid x6
    have d3:=x3.cellAt HCV.out.2.2.2
    obtain ⟨sp,hsp⟩:=x5.pl
    have fz:=hsp.free i
    have qc:=row_bool hsp HI.out.2
    have HS:=hid (show RowV (wy.setCell ⟨g2,i,none⟩ (.bool true)) g2 4 (bools (f.set i true)++sp) by rw [← set_bools f sp i true HI.out.2]; exact hsp.set i _)
    clear x1 x2 x3 x4 x5 x6 hsp hb
    go_wp2_with fail
    go_end0
    refine ⟨_,bk,rfl,⟨HBK.out,rfl⟩,setO HQ2.out HO2.out i _,⟨(by obtain ⟨sp2,k⟩:=HP2.out.at'; exact ⟨sp2,k.other HOG.out.1⟩),⟨sp,HS.out⟩,(by rw [List.length_set]; exact HP2.out.len),HP2.out.lo1,HP2.out.lo2,(by first | exact HP2.out.cp | (rw [List.length_set]; exact HP2.out.cp))⟩,HB2.out.trans ((ButL.set wy g2 i (.bool true)).mono (fun x hx => .inl (by simp at hx ⊢; simp [hx])))⟩
end Go.Proofs.YtogchamogbendaaGreat.Pl
namespace Go.Proofs.YtogchamogbendaaGreat.Pl
open Lib (hid)
open Go.RowKit Oct Mv Tl Pk Go.Maps
structure Adr where
 W:Nat
 ta:Nat
 cb:Nat
 mb:Nat
 c:Nat
 p:Nat
 g1:Nat
 g2:Nat
 g3:Nat
 g4:Nat
 c1:Nat
 c2:Nat
 c3:Nat
 c4:Nat
def wcells (A:Adr) (n m:Nat):List Value := [.pointer (some ⟨A.ta,0,none⟩),.pointer (some ⟨A.p,0,none⟩),.slice (some ⟨A.g1,0,none⟩) n A.c1,.slice (some ⟨A.g2,0,none⟩) n A.c2,.slice (some ⟨A.g3,0,none⟩) m A.c3,.slice (some ⟨A.g4,0,none⟩) m A.c4]
structure WkAt (w:World) (A:Adr) (B:Nat) (x:Wk):Prop where
 row:RowV w A.W 297 (wcells A x.l1.length x.l2.length)
 pat:PAt w A.p A.ta A.cb A.mb A.c x.q
 pg1:PgAt w A.g1 A.g2 A.c1 A.c2 B x.l1 x.f1
 pg2:PgAt w A.g3 A.g4 A.c3 A.c4 B x.l2 x.f2
 ne13:A.g1≠A.g3
 ne24:A.g2≠A.g4
theorem WkAt.kept {w w':World} {A:Adr} {B:Nat} {x:Wk} (h:WkAt w A B x) (k:Below w.heap.size w w'):WkAt w' A B x :=
 ⟨h.row.below h.row.lt k,h.pat.kept k,h.pg1.kept k,h.pg2.kept k,h.ne13,h.ne24⟩
def Adr.list (A:Adr):List Nat := [A.cb,A.mb,A.p,A.g1,A.g2,A.g3,A.g4]
theorem mem_done_lt {f:List Bool} {i:Nat} (h:i∈doneL f):i<f.length:=by
 unfold doneL doneK at h
 have:=List.mem_range.1 (List.mem_filter.1 h).1
 exact this
theorem mem_changed {s:St} {i:Nat}:i∈s.changed↔i<s.n∧s.moved i=true:=by
 unfold St.changed
 rw [List.mem_filter,List.mem_range]
def StepOut (A:Adr) (B:Nat) (x:Wk) (w:World) (e:Ending) (w':World):Prop := ∃ok y,e = .returned (.bool ok)∧(ok=true→x.Step y)∧(ok=false→x.End∧y=x)∧WkAt w' A B y∧ButL w w' A.list
theorem funs_zero (w:World):(zeroValue 324).run Tryz.prog w = .ok (.agg #[.nilFunc,.nilFunc]) w:=by kernel_rfl
theorem changed_few {x:Wk} (h:x.Good):x.q.s.changed.length≤4096 ∧ ∀m∈x.q.s.changed,m≤4096 :=
 ⟨few_changed h.ok.s,fun m hm=>by have h1:m<x.q.s.n:=(mem_changed.1 hm).1; have h2:x.q.s.n≤4096:=h.ok.s.hi; omega⟩
theorem Wk.Good.f1_le {x:Wk} (h:x.Good):x.f1.length≤4096:=by
 have h1:=pg_le (n:=x.q.s.n) h.ok.s.hi
 rw [h.fl1,h.len1]; omega
theorem Wk.Good.l2_le {x:Wk} (h:x.Good):x.l2.length≤4096:=by
 have h1:=pg_le (n:=x.q.s.n) h.ok.s.hi
 have h2:=pg_le (n:=pg x.q.s.n) (by omega)
 rw [h.len2]; omega
theorem Wk.Good.l1_le {x:Wk} (h:x.Good):x.l1.length≤4096:=by rw [← h.fl1]; exact h.f1_le
theorem done_few {x:Wk} (h:x.Good):(doneL x.f1).length≤4096 ∧ ∀m∈doneL x.f1,m≤4096 :=
 ⟨Nat.le_trans (done_le _ _) h.f1_le,fun m hm=>by have h1:=mem_done_lt hm; have h2:=h.f1_le; omega⟩
theorem PgAt.row {w:World} {g1 g2 c1 c2 B:Nat} {l:List Nat} {f:List Bool} (h:PgAt w g1 g2 c1 c2 B l f):(∃sp,RowV w g1 3 (ints l++sp))∧(∃sp,RowV w g2 4 (bools f++sp)):=⟨h.at',h.pl⟩
theorem done_eq {w:World} {g2 n m c2:Nat} {f:List Bool} {sp2:List Value} {c1:Nat} {g1:Option Addr} (h2:RowV w g2 4 (bools f++sp2)) (hn:f.length=m) (hf:f.length≤4096) :
  Calls Tryz.prog 199 #[.agg #[.slice g1 n c1,.slice (some ⟨g2,0,none⟩) m c2]] w fun e w' => ∃v,e = .returned v∧List64 w' v (doneL f)∧Below w.heap.size w w':=by
 subst hn
 exact done_any h2 hf
theorem Tells.but {w w':World} {v:Value} {B r:Nat} {S:Int→Prop} {T:TypeId} {u:Value} (h:Tells w v B S) (hr:RowV w r T [.nilFunc,u]) (k:ButL w w' [r]):Tells w' v B S:=by
 obtain ⟨x,sb,n,h1,h2,h3,h4,h5,h6⟩:=h.out
 have nx:x≠r:=fun e=>by
  subst e
  have:=hr.cellAt (i:=0) rfl
  rw [h5] at this
  cases this
 have ns:sb≠r:=fun e=>by
  subst e
  obtain ⟨D,⟨es,clock,hb,_⟩,_⟩:=h6
  unfold RowV at hr
  rw [hb] at hr
  cases hr
 exact ⟨x,sb,n,h1,h2,h3,Nat.lt_of_lt_of_le h4 k.size,(World.cell?_of_block (k.block x h4 (by simp; exact nx))).trans h5,h6.block (k.block sb h6.lt (by simp; exact ns))⟩
section
variable {w w':World} {A:Adr} {B:Nat} {x:Wk} {i b:Nat} {q':Q}
theorem WkAt.farW (h:WkAt w A B x):A.W≠A.p∧A.W≠A.ta∧A.W≠A.cb∧A.W≠A.mb:=PAt.off h.pat h.row (by decide) (by decide) (by decide)
theorem PgAt.far1 {g1 g2 c1 c2 p a cb mb c:Nat} {l:List Nat} {f:List Bool} {q:Q} (h:PgAt w g1 g2 c1 c2 B l f) (k:PAt w p a cb mb c q):g1≠p∧g1≠a∧g1≠cb∧g1≠mb:=by
 obtain ⟨sp,h1⟩:=h.at'
 exact PAt.off k h1 (by decide) (by decide) (by decide)
theorem PgAt.far2 {g1 g2 c1 c2 p a cb mb c:Nat} {l:List Nat} {f:List Bool} {q:Q} (h:PgAt w g1 g2 c1 c2 B l f) (k:PAt w p a cb mb c q):g2≠p∧g2≠a∧g2≠cb∧g2≠mb:=by
 obtain ⟨sp,h1⟩:=h.pl
 exact PAt.off k h1 (by decide) (by decide) (by decide)
theorem PgAt.cross {g1 g2 c1 c2 g3 g4 c3 c4 B2:Nat} {l m:List Nat} {f e:List Bool} (h:PgAt w g1 g2 c1 c2 B l f) (k:PgAt w g3 g4 c3 c4 B2 m e):g1≠g4:=by
 obtain ⟨sp,h1⟩:=h.at'
 obtain ⟨sp2,h2⟩:=k.pl
 exact row_ne h1 h2 (by decide)
theorem PgAt.row_far {g1 g2 c1 c2 W:Nat} {l:List Nat} {f:List Bool} {vs:List Value} (h:PgAt w g1 g2 c1 c2 B l f) (k:RowV w W 297 vs):W≠g1∧W≠g2:=by
 obtain ⟨sp,h1⟩:=h.at'
 obtain ⟨sp2,h2⟩:=h.pl
 exact ⟨row_ne k h1 (by decide),row_ne k h2 (by decide)⟩
theorem WkAt.mv1 (h:WkAt w A B x) (hp:PAt w' A.p A.ta A.cb A.mb A.c q') (hg:PgAt w' A.g1 A.g2 A.c1 A.c2 B (x.l1.set i b) (x.f1.set i true)) (hb:ButL w w' [A.cb,A.mb,A.p,A.g1,A.g2]):WkAt w' A B (x.mv1 i b q'):=by
 have f1:=h.farW
 have f2:=h.pg1.row_far h.row
 have f3:=h.pg2.far1 h.pat
 have f4:=h.pg2.far2 h.pat
 have f5:=h.pg2.cross h.pg1
 have f6:=h.pg1.cross h.pg2
 refine ⟨?_,hp,hg,h.pg2.blocks (hb.block _ h.pg2.lt1 ?_) (hb.block _ h.pg2.lt2 ?_),h.ne13,h.ne24⟩
 ·show RowV w' A.W _ (wcells A (x.l1.set i b).length x.l2.length)
  rw [List.length_set]
  exact h.row.block (hb.block _ h.row.lt (by simp; exact ⟨f1.2.2.1,f1.2.2.2,f1.1,f2.1,f2.2⟩))
 ·simp; exact ⟨f3.2.2.1,f3.2.2.2,f3.1,Ne.symm h.ne13,f5⟩
 ·simp; exact ⟨f4.2.2.1,f4.2.2.2,f4.1,Ne.symm f6,Ne.symm h.ne24⟩
theorem WkAt.mv2 (h:WkAt w A B x) (hp:PAt w' A.p A.ta A.cb A.mb A.c q') (hg:PgAt w' A.g3 A.g4 A.c3 A.c4 B (x.l2.set i b) (x.f2.set i true)) (hb:ButL w w' [A.cb,A.mb,A.p,A.g3,A.g4]):WkAt w' A B (x.mv2 i b q'):=by
 have f1:=h.farW
 have f2:=h.pg2.row_far h.row
 have f3:=h.pg1.far1 h.pat
 have f4:=h.pg1.far2 h.pat
 have f5:=h.pg2.cross h.pg1
 have f6:=h.pg1.cross h.pg2
 refine ⟨?_,hp,h.pg1.blocks (hb.block _ h.pg1.lt1 ?_) (hb.block _ h.pg1.lt2 ?_),hg,h.ne13,h.ne24⟩
 ·show RowV w' A.W _ (wcells A x.l1.length (x.l2.set i b).length)
  rw [List.length_set]
  exact h.row.block (hb.block _ h.row.lt (by simp; exact ⟨f1.2.2.1,f1.2.2.2,f1.1,f2.1,f2.2⟩))
 ·simp; exact ⟨f3.2.2.1,f3.2.2.2,f3.1,h.ne13,f6⟩
 ·simp; exact ⟨f4.2.2.1,f4.2.2.2,f4.1,Ne.symm f5,h.ne24⟩
theorem FirstP.lt {l:List Nat} {f:List Bool} {S:Int→Prop} (h:FirstP l f S i true):i<l.length∧f.getD i false=false:=⟨h.ask.1,h.ask.2.1⟩
end
set_option maxHeartbeats 4000000 in
theorem step_any {w:World} {A:Adr} {B:Nat} {x:Wk} (h:WkAt w A B x) (hg:x.Good) :
  Calls Tryz.prog 198 #[.pointer (some ⟨A.W,0,none⟩)] w (StepOut A B x w):=by
 have H:=hid h
 have HG:=hid hg
 clear h hg
 go_enter Tryz.func198,Tryz.ntmps198
 go_upto_region 1 with (fail)
 refine Inv2.wp_region_inv (fun b a wy => ∃z3 z7 z8 z9 z10 z11 z12 z13 z14 z15 z16 z17 z18 z19 z20,a=⟨(List.toArray (.pointer (some ⟨A.W,0,none⟩) :: undef :: .bool false :: z3 :: undef :: undef :: undef :: z7 :: z8 :: z9 :: z10 :: z11 :: z12 :: z13 :: z14 :: z15 :: z16 :: z17 :: z18 :: z19 :: z20 :: undef :: undef :: undef :: undef :: undef :: undef :: undef :: undef :: undef :: undef :: undef :: undef :: undef :: undef :: undef :: undef :: undef :: undef :: undef :: undef :: undef :: undef :: undef :: undef :: undef :: undef :: [])),[]⟩∧Hid ((b 0=true→z7 = .pointer (some ⟨A.W,0,none⟩))∧(b 1=true→z8 = .pointer (some ⟨A.W,0,none⟩))∧(b 2=true→z9 = .pointer (some ⟨A.W,0,none⟩))∧(b 3=true→z10 = .pointer (some ⟨A.ta,0,none⟩))∧(b 6=true→z13 = .pointer (some ⟨A.W,0,none⟩))∧(b 7=true→z14 = .pointer (some ⟨A.W,0,none⟩))∧(b 8=true→z15 = .pointer (some ⟨A.W,2,none⟩))∧(b 9=true→z16 = .pointer (some ⟨A.W,2,none⟩))∧(b 10=true→z17 = .agg #[.slice (some ⟨A.g1,0,none⟩) x.l1.length A.c1,.slice (some ⟨A.g2,0,none⟩) x.l1.length A.c2]))∧Hid (Below w.heap.size w wy)∧Hid ((b 15=false→b 4=true→List64 wy z11 x.q.s.changed)∧(b 5=true→Tells wy z12 w.heap.size x.S1)∧(b 15=false→b 11=true→List64 wy z18 (doneL x.f1))∧(b 12=true→Tells wy z19 w.heap.size x.S2)∧(b 13=true→z20 = .agg #[z12,z19]∧b 5=true∧b 12=true)∧(b 14=true → ∃r,z3 = .pointer (some ⟨r,0,none⟩)∧w.heap.size≤r∧(b 15=false→RowV wy r 324 [.nilFunc,.nilFunc])∧(b 15=true→b 13=true∧RowV wy r 324 [z12,z19]))∧(b 15=true→b 14=true))) (by kernel_rfl) (by kernel_rfl) ?startE1 ?stepsE1 ?doneE1
 case startE1 =>
  intro b hb
  refine ⟨undef,undef,undef,undef,undef,undef,undef,undef,undef,undef,undef,undef,undef,undef,undef,rfl,hid ⟨?_,?_,?_,?_,?_,?_,?_,?_,?_⟩,hid ((show Still w w.drew from ⟨rfl,rfl,rfl,rfl⟩).below _),hid (⟨(fun _ e=>by rw [hb _ (by decide)] at e; cases e),(fun e=>by rw [hb _ (by decide)] at e; cases e),(fun _ e=>by rw [hb _ (by decide)] at e; cases e),(fun e=>by rw [hb _ (by decide)] at e; cases e),(fun e=>by rw [hb _ (by decide)] at e; cases e),(fun e=>by rw [hb _ (by decide)] at e; cases e),(fun e=>by rw [hb _ (by decide)] at e; cases e)⟩)⟩
  all_goals (intro e; first | rfl | (rw [hb _ (by decide)] at e; cases e))
 case stepsE1 =>
  refine ⟨?_,?_,?_,?_,?_,?_,?_,?_,?_,?_,?_,?_,?_,?_,?_,?_,trivial⟩
  ·rintro b a wy hb hd ⟨z3,z7,z8,z9,z10,z11,z12,z13,z14,z15,z16,z17,z18,z19,z20,rfl,HV,HW,HX⟩ K hK
   obtain ⟨h0,h1,h2,h3,h6,h7,h8,h9,h10⟩:=HV.out
   clear hd
   go_simp
   exact hK _ _ ⟨_,_,_,_,_,_,_,_,_,_,_,_,_,_,_,rfl,hid ⟨fun _=>rfl,h1,h2,h3,h6,h7,h8,h9,h10⟩,HW,HX⟩
  ·rintro b a wy hb hd ⟨z3,z7,z8,z9,z10,z11,z12,z13,z14,z15,z16,z17,z18,z19,z20,rfl,HV,HW,HX⟩ K hK
   obtain ⟨h0,h1,h2,h3,h6,h7,h8,h9,h10⟩:=HV.out
   simp [Region.binds] at hd
   obtain rfl:=h0 (by simp [hd])
   clear hd
   go_simp
   exact hK _ _ ⟨_,_,_,_,_,_,_,_,_,_,_,_,_,_,_,rfl,hid ⟨h0,fun _=>rfl,h2,h3,h6,h7,h8,h9,h10⟩,HW,HX⟩
  ·rintro b a wy hb hd ⟨z3,z7,z8,z9,z10,z11,z12,z13,z14,z15,z16,z17,z18,z19,z20,rfl,HV,HW,HX⟩ K hK
   obtain ⟨h0,h1,h2,h3,h6,h7,h8,h9,h10⟩:=HV.out
   simp [Region.binds] at hd
   obtain rfl:=h1 (by simp [hd])
   clear hd
   go_simp
   exact hK _ _ ⟨_,_,_,_,_,_,_,_,_,_,_,_,_,_,_,rfl,hid ⟨h0,h1,fun _=>rfl,h3,h6,h7,h8,h9,h10⟩,HW,HX⟩
  ·rintro b a wy hb hd ⟨z3,z7,z8,z9,z10,z11,z12,z13,z14,z15,z16,z17,z18,z19,z20,rfl,HV,HW,HX⟩ K hK
   obtain ⟨h0,h1,h2,h3,h6,h7,h8,h9,h10⟩:=HV.out
   simp [Region.binds] at hd
   obtain rfl:=h2 (by simp [hd])
   clear hd
   have q0:=(H.out.row.below H.out.row.lt HW.out).cellAt (i:=0) rfl
   go_simp
   exact hK _ _ ⟨_,_,_,_,_,_,_,_,_,_,_,_,_,_,_,rfl,hid ⟨h0,h1,h2,fun _=>rfl,h6,h7,h8,h9,h10⟩,HW,HX⟩
  ·rintro b a wy hb hd ⟨z3,z7,z8,z9,z10,z11,z12,z13,z14,z15,z16,z17,z18,z19,z20,rfl,HV,HW,HX⟩ K hK
   obtain ⟨h0,h1,h2,h3,h6,h7,h8,h9,h10⟩:=HV.out
   simp [Region.binds] at hd
   obtain rfl:=h3 (by simp [hd])
   clear hd
   obtain ⟨x1,x2,x3,x4,x5,x6,x7⟩:=HX.out
   go_simp
   go_at_call 145
   refine (list_at (H.out.pat.tally.kept HW.out)).mono ?_
   rintro e wz ⟨u,rfl,hu,kz⟩
   try go_simp
   exact hK _ _ ⟨_,_,_,_,_,_,_,_,_,_,_,_,_,_,_,rfl,hid ⟨h0,h1,h2,h3,h6,h7,h8,h9,h10⟩,hid (HW.out.trans (kz.mono HW.out.size)),hid ⟨fun _ _=>hu,fun e=>(x2 e).below kz,fun e0 e=>(x3 e0 e).still kz,fun e=>(x4 e).below kz,x5,fun e=>(by obtain ⟨r,y1,y2,y3,y4⟩:=x6 e; exact ⟨r,y1,y2,fun e2=>(y3 e2).below (y3 e2).lt kz,fun e2=>⟨(y4 e2).1,(y4 e2).2.below (y4 e2).2.lt kz⟩⟩),x7⟩⟩
  ·rintro b a wy hb hd ⟨z3,z7,z8,z9,z10,z11,z12,z13,z14,z15,z16,z17,z18,z19,z20,rfl,HV,HW,HX⟩ K hK
   obtain ⟨h0,h1,h2,h3,h6,h7,h8,h9,h10⟩:=HV.out
   simp [Region.binds] at hd
   have dd4:b 4=true:=by simp [hd]
   clear hd
   obtain ⟨x1,x2,x3,x4,x5,x6,x7⟩:=HX.out
   have f15:(b 15=true→b 5=true)→b 15=false:=fun k=>(by cases e15:b 15 with | false=>rfl | true=>exact absurd (k e15) (by rw [hb]; decide))
   have HL:=hid (x1 (f15 (fun e=>(x5 ((x6 (x7 e)).elim fun r y=>(y.2.2.2 e).1)).2.1)) dd4)
   go_simp
   go_at_call 216
   refine (has_any HL.out (changed_few HG.out).1 (changed_few HG.out).2).mono ?_
   rintro e wz ⟨u,rfl,hu,kz⟩
   try go_simp
   exact hK _ _ ⟨_,_,_,_,_,_,_,_,_,_,_,_,_,_,_,rfl,hid ⟨h0,h1,h2,h3,h6,h7,h8,h9,h10⟩,hid (HW.out.trans (kz.mono HW.out.size)),hid ⟨fun e0 e=>(x1 e0 e).still kz,fun _=>hu.lo HW.out.size,fun e0 e=>(x3 e0 e).still kz,fun e=>(x4 e).below kz,fun e=>absurd (x5 e).2.1 (by rw [hb]; decide),fun e=>(by obtain ⟨r,y1,y2,y3,y4⟩:=x6 e; exact ⟨r,y1,y2,fun e2=>(y3 e2).below (y3 e2).lt kz,fun e2=>absurd (x5 (y4 e2).1).2.1 (by rw [hb]; decide)⟩),x7⟩⟩
  ·rintro b a wy hb hd ⟨z3,z7,z8,z9,z10,z11,z12,z13,z14,z15,z16,z17,z18,z19,z20,rfl,HV,HW,HX⟩ K hK
   obtain ⟨h0,h1,h2,h3,h6,h7,h8,h9,h10⟩:=HV.out
   clear hd
   go_simp
   exact hK _ _ ⟨_,_,_,_,_,_,_,_,_,_,_,_,_,_,_,rfl,hid ⟨h0,h1,h2,h3,fun _=>rfl,h7,h8,h9,h10⟩,HW,HX⟩
  ·rintro b a wy hb hd ⟨z3,z7,z8,z9,z10,z11,z12,z13,z14,z15,z16,z17,z18,z19,z20,rfl,HV,HW,HX⟩ K hK
   obtain ⟨h0,h1,h2,h3,h6,h7,h8,h9,h10⟩:=HV.out
   simp [Region.binds] at hd
   obtain rfl:=h6 (by simp [hd])
   clear hd
   go_simp
   exact hK _ _ ⟨_,_,_,_,_,_,_,_,_,_,_,_,_,_,_,rfl,hid ⟨h0,h1,h2,h3,h6,fun _=>rfl,h8,h9,h10⟩,HW,HX⟩
  ·rintro b a wy hb hd ⟨z3,z7,z8,z9,z10,z11,z12,z13,z14,z15,z16,z17,z18,z19,z20,rfl,HV,HW,HX⟩ K hK
   obtain ⟨h0,h1,h2,h3,h6,h7,h8,h9,h10⟩:=HV.out
   simp [Region.binds] at hd
   obtain rfl:=h7 (by simp [hd])
   clear hd
   go_simp
   exact hK _ _ ⟨_,_,_,_,_,_,_,_,_,_,_,_,_,_,_,rfl,hid ⟨h0,h1,h2,h3,h6,h7,fun _=>rfl,h9,h10⟩,HW,HX⟩
  ·rintro b a wy hb hd ⟨z3,z7,z8,z9,z10,z11,z12,z13,z14,z15,z16,z17,z18,z19,z20,rfl,HV,HW,HX⟩ K hK
   obtain ⟨h0,h1,h2,h3,h6,h7,h8,h9,h10⟩:=HV.out
   simp [Region.binds] at hd
   obtain rfl:=h8 (by simp [hd])
   clear hd
   go_simp
   exact hK _ _ ⟨_,_,_,_,_,_,_,_,_,_,_,_,_,_,_,rfl,hid ⟨h0,h1,h2,h3,h6,h7,h8,fun _=>rfl,h10⟩,HW,HX⟩
  ·rintro b a wy hb hd ⟨z3,z7,z8,z9,z10,z11,z12,z13,z14,z15,z16,z17,z18,z19,z20,rfl,HV,HW,HX⟩ K hK
   obtain ⟨h0,h1,h2,h3,h6,h7,h8,h9,h10⟩:=HV.out
   simp [Region.binds] at hd
   obtain rfl:=h9 (by simp [hd])
   clear hd
   have q0:=(H.out.row.below H.out.row.lt HW.out).cellAt (i:=2) rfl
   have q1:=(H.out.row.below H.out.row.lt HW.out).cellAt (i:=3) rfl
   go_simp
   exact hK _ _ ⟨_,_,_,_,_,_,_,_,_,_,_,_,_,_,_,rfl,hid ⟨h0,h1,h2,h3,h6,h7,h8,h9,fun _=>rfl⟩,HW,HX⟩
  ·rintro b a wy hb hd ⟨z3,z7,z8,z9,z10,z11,z12,z13,z14,z15,z16,z17,z18,z19,z20,rfl,HV,HW,HX⟩ K hK
   obtain ⟨h0,h1,h2,h3,h6,h7,h8,h9,h10⟩:=HV.out
   simp [Region.binds] at hd
   obtain rfl:=h10 (by simp [hd])
   clear hd
   obtain ⟨x1,x2,x3,x4,x5,x6,x7⟩:=HX.out
   obtain ⟨sp2,hsp2⟩:=(H.out.pg1.kept HW.out).pl
   have HPL:=hid hsp2
   clear hsp2
   go_simp
   go_at_call 199
   refine (done_eq HPL.out HG.out.fl1 HG.out.f1_le).mono ?_
   rintro e wz ⟨u,rfl,hu,kz⟩
   try go_simp
   exact hK _ _ ⟨_,_,_,_,_,_,_,_,_,_,_,_,_,_,_,rfl,hid ⟨h0,h1,h2,h3,h6,h7,h8,h9,h10⟩,hid (HW.out.trans (kz.mono HW.out.size)),hid ⟨fun e0 e=>(x1 e0 e).still kz,fun e=>(x2 e).below kz,fun _ _=>hu,fun e=>(x4 e).below kz,x5,fun e=>(by obtain ⟨r,y1,y2,y3,y4⟩:=x6 e; exact ⟨r,y1,y2,fun e2=>(y3 e2).below (y3 e2).lt kz,fun e2=>⟨(y4 e2).1,(y4 e2).2.below (y4 e2).2.lt kz⟩⟩),x7⟩⟩
  ·rintro b a wy hb hd ⟨z3,z7,z8,z9,z10,z11,z12,z13,z14,z15,z16,z17,z18,z19,z20,rfl,HV,HW,HX⟩ K hK
   obtain ⟨h0,h1,h2,h3,h6,h7,h8,h9,h10⟩:=HV.out
   simp [Region.binds] at hd
   have dd11:b 11=true:=by simp [hd]
   clear hd
   obtain ⟨x1,x2,x3,x4,x5,x6,x7⟩:=HX.out
   have f15:(b 15=true→b 12=true)→b 15=false:=fun k=>(by cases e15:b 15 with | false=>rfl | true=>exact absurd (k e15) (by rw [hb]; decide))
   have HL:=hid (x3 (f15 (fun e=>(x5 ((x6 (x7 e)).elim fun r y=>(y.2.2.2 e).1)).2.2)) dd11)
   go_simp
   go_at_call 216
   refine (has_any HL.out (done_few HG.out).1 (done_few HG.out).2).mono ?_
   rintro e wz ⟨u,rfl,hu,kz⟩
   try go_simp
   exact hK _ _ ⟨_,_,_,_,_,_,_,_,_,_,_,_,_,_,_,rfl,hid ⟨h0,h1,h2,h3,h6,h7,h8,h9,h10⟩,hid (HW.out.trans (kz.mono HW.out.size)),hid ⟨fun e0 e=>(x1 e0 e).still kz,fun e=>(x2 e).below kz,fun e0 e=>(x3 e0 e).still kz,fun _=>hu.lo HW.out.size,fun e=>absurd (x5 e).2.2 (by rw [hb]; decide),fun e=>(by obtain ⟨r,y1,y2,y3,y4⟩:=x6 e; exact ⟨r,y1,y2,fun e2=>(y3 e2).below (y3 e2).lt kz,fun e2=>absurd (x5 (y4 e2).1).2.2 (by rw [hb]; decide)⟩),x7⟩⟩
  ·rintro b a wy hb hd ⟨z3,z7,z8,z9,z10,z11,z12,z13,z14,z15,z16,z17,z18,z19,z20,rfl,HV,HW,HX⟩ K hK
   obtain ⟨h0,h1,h2,h3,h6,h7,h8,h9,h10⟩:=HV.out
   simp [Region.binds] at hd
   have dd5:b 5=true:=by simp [hd]
   have dd12:b 12=true:=by simp [hd]
   clear hd
   obtain ⟨x1,x2,x3,x4,x5,x6,x7⟩:=HX.out
   have t1:=x2 dd5
   have t2:=x4 dd12
   obtain ⟨s1,m1,n1,rfl,_,_,_,_,_⟩:=t1.out
   obtain ⟨s2,m2,n2,rfl,_,_,_,_,_⟩:=t2.out
   go_simp
   exact hK _ _ ⟨_,_,_,_,_,_,_,_,_,_,_,_,_,_,_,rfl,hid ⟨h0,h1,h2,h3,h6,h7,h8,h9,h10⟩,HW,hid ⟨x1,x2,x3,x4,fun _=>⟨rfl,dd5,dd12⟩,fun e=>(by obtain ⟨r,y1,y2,y3,y4⟩:=x6 e; exact ⟨r,y1,y2,y3,fun e2=>absurd (y4 e2).1 (by rw [hb]; decide)⟩),x7⟩⟩
  ·rintro b a wy hb hd ⟨z3,z7,z8,z9,z10,z11,z12,z13,z14,z15,z16,z17,z18,z19,z20,rfl,HV,HW,HX⟩ K hK
   obtain ⟨h0,h1,h2,h3,h6,h7,h8,h9,h10⟩:=HV.out
   simp [Region.binds] at hd
   clear hd
   obtain ⟨x1,x2,x3,x4,x5,x6,x7⟩:=HX.out
   have hz:=funs_zero wy
   go_simp
   have B2:=(Below.refl wy.heap.size wy).alloc (Nat.le_refl _) (.cells #[.nilFunc,.nilFunc] 324)
   have R2:=alloc_rowV wy 324 [.nilFunc,.nilFunc]
   exact hK _ _ ⟨_,_,_,_,_,_,_,_,_,_,_,_,_,_,_,rfl,hid ⟨h0,h1,h2,h3,h6,h7,h8,h9,h10⟩,hid (HW.out.trans (B2.mono HW.out.size)),hid ⟨fun e0 e=>(x1 e0 e).still B2,fun e=>(x2 e).below B2,fun e0 e=>(x3 e0 e).still B2,fun e=>(x4 e).below B2,x5,fun _=>⟨wy.heap.size,rfl,HW.out.size,fun _=>R2,fun e=>absurd (x7 e) (by rw [hb]; decide)⟩,fun _=>rfl⟩⟩
  ·rintro b a wy hb hd ⟨z3,z7,z8,z9,z10,z11,z12,z13,z14,z15,z16,z17,z18,z19,z20,rfl,HV,HW,HX⟩ K hK
   obtain ⟨h0,h1,h2,h3,h6,h7,h8,h9,h10⟩:=HV.out
   simp [Region.binds] at hd
   have dd14:b 14=true:=by simp [hd]
   have dd13:b 13=true:=by simp [hd]
   clear hd
   obtain ⟨x1,x2,x3,x4,x5,x6,x7⟩:=HX.out
   obtain ⟨r,rfl,hr1,hr2,_⟩:=x6 dd14
   obtain ⟨rfl,d5,d12⟩:=x5 dd13
   have hr:=hr2 hb
   have q0:=hr.cellAt (i:=0) rfl
   have q1:=hr.cellAt (i:=1) rfl
   have fz0:=hr.free 0
   have fz1:=hr.free 1
   have t1:=x2 d5
   have t2:=x4 d12
   obtain ⟨s1,m1,n1,rfl,k1,k2,k3,k4,k5⟩:=t1.out
   obtain ⟨s2,m2,n2,rfl,k6,k7,k8,k9,k10⟩:=t2.out
   have HT:=hid (And.intro t1 t2)
   have HA3:=hid ((hr.set 0 _:RowV (wy.setCell ⟨r,0,none⟩ (.func (.func 237) #[] #[.pointer (some ⟨s1,0,none⟩)])) _ _ _).set 1 (.func (.func 237) #[] #[.pointer (some ⟨s2,0,none⟩)]))
   have HU:=hid ((ButL.set wy r 0 (.func (.func 237) #[] #[.pointer (some ⟨s1,0,none⟩)])).trans (ButL.set _ r 1 (.func (.func 237) #[] #[.pointer (some ⟨s2,0,none⟩)])))
   have HN:=hid hr
   have hd2:=hid (And.intro dd14 (And.intro dd13 (And.intro d5 d12)))
   have HXX:=hid (And.intro x1 x3)
   clear x1 x2 x3 x4 x5 x6 hr hr2 t1 t2 k3 k4 k5 k8 k9 k10 k1 k2 k6 k7 dd14 dd13 d5 d12 HX
   go_simp
   have HW6:=hid (HW.out.trans (HU.out.below (B:=w.heap.size) (by simp; exact hr1) HW.out.size))
   exact hK _ _ ⟨_,_,_,_,_,_,_,_,_,_,_,_,_,_,_,rfl,hid ⟨h0,h1,h2,h3,h6,h7,h8,h9,h10⟩,HW6,hid ⟨fun e=>(by cases e),fun _=>HT.out.1.but HN.out HU.out,fun e=>(by cases e),fun _=>HT.out.2.but HN.out HU.out,fun _=>⟨rfl,hd2.out.2.2.1,hd2.out.2.2.2⟩,fun _=>⟨r,rfl,hr1,fun e=>(by cases e),fun _=>⟨hd2.out.2.1,HA3.out⟩⟩,fun _=>hd2.out.1⟩⟩
 case doneE1 =>
  rintro b a wy hb ⟨z3,z7,z8,z9,z10,z11,z12,z13,z14,z15,z16,z17,z18,z19,z20,rfl,HV,HW,HX⟩
  obtain ⟨h0,h1,h2,h3,h6,h7,h8,h9,h10⟩:=HV.out
  obtain rfl:=h0 (hb 0)
  obtain rfl:=h1 (hb 1)
  obtain rfl:=h2 (hb 2)
  obtain rfl:=h3 (hb 3)
  obtain rfl:=h6 (hb 6)
  obtain rfl:=h7 (hb 7)
  obtain rfl:=h8 (hb 8)
  obtain rfl:=h9 (hb 9)
  obtain rfl:=h10 (hb 10)
  clear HV h0 h1 h2 h3 h6 h7 h8 h9 h10
  obtain ⟨x1,x2,x3,x4,x5,x6,x7⟩:=HX.out
  obtain ⟨r,rfl,hr1,_,hr2⟩:=x6 (hb 14)
  obtain ⟨rfl,_,_⟩:=x5 (hb 13)
  have HT1:=hid (x2 (hb 5))
  have HT2:=hid (x4 (hb 12))
  have HR:=hid (hr2 (hb 15)).2
  have HRW:=hid hr1
  clear x1 x2 x3 x4 x5 x6 x7 hr1 hr2 hb HX
  go_wp2_with fail
  go_loopw [21] (fun i wr=>((i = .int .i64 0)∨(i = .int .i64 1∧Hid (noP x.l1 x.f1 x.S1))∨(i = .int .i64 2∧Hid (noP x.l1 x.f1 x.S1)∧Hid (noP x.l2 x.f2 x.S2)))∧Hid (Below w.heap.size w wr)∧Hid (RowV wr r 324 [z12,z19])∧Hid (Tells wr z12 w.heap.size x.S1)∧Hid (Tells wr z19 w.heap.size x.S2)) (fun i _=>2-(Go.RowKit.intOf i).toNat)
  case atStart=>exact ⟨.inl rfl,HW,HR,HT1,HT2⟩
  case round =>
   obtain ⟨hk,HBr,HRr,HTa,HTb⟩:=hrel
   obtain ⟨wm,hwm⟩ : ∃y,y=wr:=⟨_,rfl⟩
   subst hwm
   rcases hk with rfl | ⟨rfl,HN1⟩ | ⟨rfl,HN1,HN2⟩
   ·go_upto_region 5 with (fail)
    refine Inv2.wp_region_inv (fun b a wy => ∃z5 z6 z24 z25 z26 z27 z28 z29 z30 z31 z32 z33 z34 z35 z36,a=⟨(List.toArray (.pointer (some ⟨A.W,0,none⟩) :: undef :: u2 :: .pointer (some ⟨r,0,none⟩) :: .int .i64 0 :: z5 :: z6 :: .pointer (some ⟨A.W,0,none⟩) :: .pointer (some ⟨A.W,0,none⟩) :: .pointer (some ⟨A.W,0,none⟩) :: .pointer (some ⟨A.ta,0,none⟩) :: z11 :: z12 :: .pointer (some ⟨A.W,0,none⟩) :: .pointer (some ⟨A.W,0,none⟩) :: .pointer (some ⟨A.W,2,none⟩) :: .pointer (some ⟨A.W,2,none⟩) :: .agg #[.slice (some ⟨A.g1,0,none⟩) x.l1.length A.c1,.slice (some ⟨A.g2,0,none⟩) x.l1.length A.c2] :: z18 :: z19 :: .agg #[z12,z19] :: .int .i64 0 :: .bool true :: .int .i64 0 :: z24 :: z25 :: z26 :: z27 :: z28 :: z29 :: z30 :: z31 :: z32 :: z33 :: z34 :: z35 :: z36 :: u37 :: u38 :: u39 :: u40 :: u41 :: u42 :: u43 :: u44 :: u45 :: u46 :: [])),[]⟩∧Hid ((b 0=true→z25 = .pointer (some ⟨A.W,0,none⟩))∧(b 1=true→z26 = .int .i64 0)∧(b 2=true→z27 = .pointer (some ⟨A.W,0,none⟩))∧(b 3=true→z28 = .pointer (some ⟨A.W,2,none⟩))∧(b 4=true→z29 = .pointer (some ⟨A.W,2,none⟩))∧(b 5=true→z30 = .agg #[.slice (some ⟨A.g1,0,none⟩) x.l1.length A.c1,.slice (some ⟨A.g2,0,none⟩) x.l1.length A.c2])∧(b 6=true→z31 = .int .i64 0)∧(b 7=true→z32 = .pointer (some ⟨r,0,none⟩))∧(b 8=true→z33=z12))∧Hid (Below wm.heap.size wm wy)∧Hid (∃(i:Nat) (ok:Bool),(b 9=true→z34 = .tuple #[.int .i64 (i:Int),.bool ok]∧FirstP x.l1 x.f1 x.S1 i ok)∧(b 10=true→b 9=true∧z24 = .tuple #[.int .i64 (i:Int),.bool ok])∧(b 11=true→b 9=true∧z35 = .int .i64 (i:Int))∧(b 12=true→b 9=true∧z36 = .bool ok)∧(b 13=true→b 9=true∧z5 = .int .i64 (i:Int))∧(b 14=true→b 9=true∧z6 = .bool ok))) (by kernel_rfl) (by kernel_rfl) ?startF0 ?stepsF0 ?doneF0
    case startF0 =>
     intro b hb
     refine ⟨u5,u6,u24,u25,u26,u27,u28,u29,u30,u31,u32,u33,u34,u35,u36,rfl,hid ⟨?_,?_,?_,?_,?_,?_,?_,?_,?_⟩,hid ((show Still wm wm.drew from ⟨rfl,rfl,rfl,rfl⟩).below _),hid (⟨0,false,(fun e=>by rw [hb _ (by decide)] at e; cases e),(fun e=>by rw [hb _ (by decide)] at e; cases e),(fun e=>by rw [hb _ (by decide)] at e; cases e),(fun e=>by rw [hb _ (by decide)] at e; cases e),(fun e=>by rw [hb _ (by decide)] at e; cases e),(fun e=>by rw [hb _ (by decide)] at e; cases e)⟩)⟩
     all_goals (intro e; first | rfl | (rw [hb _ (by decide)] at e; cases e))
    case stepsF0 =>
     refine ⟨?_,?_,?_,?_,?_,?_,?_,?_,?_,?_,?_,?_,?_,?_,?_,trivial⟩
     ·rintro b a wy hb hd ⟨z5,z6,z24,z25,z26,z27,z28,z29,z30,z31,z32,z33,z34,z35,z36,rfl,HV,HW,HX⟩ K hK
      obtain ⟨h0,h1,h2,h3,h4,h5,h6,h7,h8⟩:=HV.out
      clear hd
      go_simp
      exact hK _ _ ⟨_,_,_,_,_,_,_,_,_,_,_,_,_,_,_,rfl,hid ⟨fun _=>rfl,h1,h2,h3,h4,h5,h6,h7,h8⟩,HW,HX⟩
     ·rintro b a wy hb hd ⟨z5,z6,z24,z25,z26,z27,z28,z29,z30,z31,z32,z33,z34,z35,z36,rfl,HV,HW,HX⟩ K hK
      obtain ⟨h0,h1,h2,h3,h4,h5,h6,h7,h8⟩:=HV.out
      clear hd
      go_simp
      exact hK _ _ ⟨_,_,_,_,_,_,_,_,_,_,_,_,_,_,_,rfl,hid ⟨h0,fun _=>rfl,h2,h3,h4,h5,h6,h7,h8⟩,HW,HX⟩
     ·rintro b a wy hb hd ⟨z5,z6,z24,z25,z26,z27,z28,z29,z30,z31,z32,z33,z34,z35,z36,rfl,HV,HW,HX⟩ K hK
      obtain ⟨h0,h1,h2,h3,h4,h5,h6,h7,h8⟩:=HV.out
      simp [Region.binds] at hd
      obtain rfl:=h0 (by simp [hd])
      clear hd
      go_simp
      exact hK _ _ ⟨_,_,_,_,_,_,_,_,_,_,_,_,_,_,_,rfl,hid ⟨h0,h1,fun _=>rfl,h3,h4,h5,h6,h7,h8⟩,HW,HX⟩
     ·rintro b a wy hb hd ⟨z5,z6,z24,z25,z26,z27,z28,z29,z30,z31,z32,z33,z34,z35,z36,rfl,HV,HW,HX⟩ K hK
      obtain ⟨h0,h1,h2,h3,h4,h5,h6,h7,h8⟩:=HV.out
      simp [Region.binds] at hd
      obtain rfl:=h2 (by simp [hd])
      clear hd
      go_simp
      exact hK _ _ ⟨_,_,_,_,_,_,_,_,_,_,_,_,_,_,_,rfl,hid ⟨h0,h1,h2,fun _=>rfl,h4,h5,h6,h7,h8⟩,HW,HX⟩
     ·rintro b a wy hb hd ⟨z5,z6,z24,z25,z26,z27,z28,z29,z30,z31,z32,z33,z34,z35,z36,rfl,HV,HW,HX⟩ K hK
      obtain ⟨h0,h1,h2,h3,h4,h5,h6,h7,h8⟩:=HV.out
      simp [Region.binds] at hd
      obtain rfl:=h3 (by simp [hd])
      obtain rfl:=h1 (by simp [hd])
      clear hd
      go_simp
      exact hK _ _ ⟨_,_,_,_,_,_,_,_,_,_,_,_,_,_,_,rfl,hid ⟨h0,h1,h2,h3,fun _=>rfl,h5,h6,h7,h8⟩,HW,HX⟩
     ·rintro b a wy hb hd ⟨z5,z6,z24,z25,z26,z27,z28,z29,z30,z31,z32,z33,z34,z35,z36,rfl,HV,HW,HX⟩ K hK
      obtain ⟨h0,h1,h2,h3,h4,h5,h6,h7,h8⟩:=HV.out
      simp [Region.binds] at hd
      obtain rfl:=h4 (by simp [hd])
      clear hd
      have hrow:=((H.out.kept HBr.out).kept HW.out).row
      have q0:=hrow.cellAt (i:=2) rfl
      have q1:=hrow.cellAt (i:=3) rfl
      clear hrow
      go_simp
      exact hK _ _ ⟨_,_,_,_,_,_,_,_,_,_,_,_,_,_,_,rfl,hid ⟨h0,h1,h2,h3,h4,fun _=>rfl,h6,h7,h8⟩,HW,HX⟩
     ·rintro b a wy hb hd ⟨z5,z6,z24,z25,z26,z27,z28,z29,z30,z31,z32,z33,z34,z35,z36,rfl,HV,HW,HX⟩ K hK
      obtain ⟨h0,h1,h2,h3,h4,h5,h6,h7,h8⟩:=HV.out
      clear hd
      go_simp
      exact hK _ _ ⟨_,_,_,_,_,_,_,_,_,_,_,_,_,_,_,rfl,hid ⟨h0,h1,h2,h3,h4,h5,fun _=>rfl,h7,h8⟩,HW,HX⟩
     ·rintro b a wy hb hd ⟨z5,z6,z24,z25,z26,z27,z28,z29,z30,z31,z32,z33,z34,z35,z36,rfl,HV,HW,HX⟩ K hK
      obtain ⟨h0,h1,h2,h3,h4,h5,h6,h7,h8⟩:=HV.out
      simp [Region.binds] at hd
      obtain rfl:=h6 (by simp [hd])
      clear hd
      go_simp
      exact hK _ _ ⟨_,_,_,_,_,_,_,_,_,_,_,_,_,_,_,rfl,hid ⟨h0,h1,h2,h3,h4,h5,h6,fun _=>rfl,h8⟩,HW,HX⟩
     ·rintro b a wy hb hd ⟨z5,z6,z24,z25,z26,z27,z28,z29,z30,z31,z32,z33,z34,z35,z36,rfl,HV,HW,HX⟩ K hK
      obtain ⟨h0,h1,h2,h3,h4,h5,h6,h7,h8⟩:=HV.out
      simp [Region.binds] at hd
      obtain rfl:=h7 (by simp [hd])
      clear hd
      have hrow:=HRr.out.below HRr.out.lt HW.out
      have q0:=hrow.cellAt (i:=0) rfl
      clear hrow
      go_simp
      exact hK _ _ ⟨_,_,_,_,_,_,_,_,_,_,_,_,_,_,_,rfl,hid ⟨h0,h1,h2,h3,h4,h5,h6,h7,fun _=>rfl⟩,HW,HX⟩
     ·rintro b a wy hb hd ⟨z5,z6,z24,z25,z26,z27,z28,z29,z30,z31,z32,z33,z34,z35,z36,rfl,HV,HW,HX⟩ K hK
      obtain ⟨h0,h1,h2,h3,h4,h5,h6,h7,h8⟩:=HV.out
      simp [Region.binds] at hd
      obtain rfl:=h5 (by simp [hd])
      obtain rfl:=h8 (by simp [hd])
      clear hd
      obtain ⟨⟨sp1,hs1⟩,⟨sp2,hs2⟩⟩:=((H.out.kept HBr.out).kept HW.out).pg1.row
      have HS1:=hid hs1
      have HS2:=hid hs2
      have HTT:=hid (HTa.out.below HW.out)
      have HXO:=hid (show ∀j,(b j=true→b 9=true) → ¬b j=true from fun j h e=>absurd (h e) (by rw [hb]; decide))
      clear hs1 hs2
      obtain ⟨i0,ok0,x1,x2,x3,x4,x5,x6⟩:=HX.out
      have n10:=hid (HXO.out 10 fun e=>(x2 e).1)
      have n11:=hid (HXO.out 11 fun e=>(x3 e).1)
      have n12:=hid (HXO.out 12 fun e=>(x4 e).1)
      have n13:=hid (HXO.out 13 fun e=>(x5 e).1)
      have n14:=hid (HXO.out 14 fun e=>(x6 e).1)
      clear x1 x2 x3 x4 x5 x6 HX HXO
      go_simp
      go_at_call 217
      refine (first_any HS1.out HS2.out HG.out.fl1 HG.out.l1_le HTT.out).mono ?_
      rintro e wz ⟨i,ok,rfl,hF,kz⟩
      try go_simp
      exact hK _ _ ⟨_,_,_,_,_,_,_,_,_,_,_,_,_,_,_,rfl,hid ⟨h0,h1,h2,h3,h4,h5,h6,h7,h8⟩,hid (HW.out.trans (kz.mono HW.out.size)),hid ⟨i,ok,fun _=>⟨rfl,hF⟩,fun e=>absurd e n10.out,fun e=>absurd e n11.out,fun e=>absurd e n12.out,fun e=>absurd e n13.out,fun e=>absurd e n14.out⟩⟩
     ·rintro b a wy hb hd ⟨z5,z6,z24,z25,z26,z27,z28,z29,z30,z31,z32,z33,z34,z35,z36,rfl,HV,HW,HX⟩ K hK
      obtain ⟨h0,h1,h2,h3,h4,h5,h6,h7,h8⟩:=HV.out
      simp [Region.binds] at hd
      have dd9:b 9=true:=by simp [hd]
      clear hd
      obtain ⟨i,ok,x1,x2,x3,x4,x5,x6⟩:=HX.out
      obtain ⟨rfl,hF⟩:=x1 dd9
      go_simp
      exact hK _ _ ⟨_,_,_,_,_,_,_,_,_,_,_,_,_,_,_,rfl,hid ⟨h0,h1,h2,h3,h4,h5,h6,h7,h8⟩,HW,hid ⟨i,ok,x1,fun _=>⟨dd9,rfl⟩,x3,x4,x5,x6⟩⟩
     ·rintro b a wy hb hd ⟨z5,z6,z24,z25,z26,z27,z28,z29,z30,z31,z32,z33,z34,z35,z36,rfl,HV,HW,HX⟩ K hK
      obtain ⟨h0,h1,h2,h3,h4,h5,h6,h7,h8⟩:=HV.out
      simp [Region.binds] at hd
      have dd10:b 10=true:=by simp [hd]
      clear hd
      obtain ⟨i,ok,x1,x2,x3,x4,x5,x6⟩:=HX.out
      obtain ⟨d9,rfl⟩:=x2 dd10
      obtain ⟨rfl,hF⟩:=x1 d9
      go_simp
      exact hK _ _ ⟨_,_,_,_,_,_,_,_,_,_,_,_,_,_,_,rfl,hid ⟨h0,h1,h2,h3,h4,h5,h6,h7,h8⟩,HW,hid ⟨i,ok,fun _=>⟨rfl,hF⟩,x2,fun _=>⟨d9,rfl⟩,x4,x5,x6⟩⟩
     ·rintro b a wy hb hd ⟨z5,z6,z24,z25,z26,z27,z28,z29,z30,z31,z32,z33,z34,z35,z36,rfl,HV,HW,HX⟩ K hK
      obtain ⟨h0,h1,h2,h3,h4,h5,h6,h7,h8⟩:=HV.out
      simp [Region.binds] at hd
      have dd10:b 10=true:=by simp [hd]
      clear hd
      obtain ⟨i,ok,x1,x2,x3,x4,x5,x6⟩:=HX.out
      obtain ⟨d9,rfl⟩:=x2 dd10
      obtain ⟨rfl,hF⟩:=x1 d9
      go_simp
      exact hK _ _ ⟨_,_,_,_,_,_,_,_,_,_,_,_,_,_,_,rfl,hid ⟨h0,h1,h2,h3,h4,h5,h6,h7,h8⟩,HW,hid ⟨i,ok,fun _=>⟨rfl,hF⟩,x2,x3,fun _=>⟨d9,rfl⟩,x5,x6⟩⟩
     ·rintro b a wy hb hd ⟨z5,z6,z24,z25,z26,z27,z28,z29,z30,z31,z32,z33,z34,z35,z36,rfl,HV,HW,HX⟩ K hK
      obtain ⟨h0,h1,h2,h3,h4,h5,h6,h7,h8⟩:=HV.out
      simp [Region.binds] at hd
      have dd11:b 11=true:=by simp [hd]
      clear hd
      obtain ⟨i,ok,x1,x2,x3,x4,x5,x6⟩:=HX.out
      obtain ⟨d9,rfl⟩:=x3 dd11
      obtain ⟨rfl,hF⟩:=x1 d9
      go_simp
      exact hK _ _ ⟨_,_,_,_,_,_,_,_,_,_,_,_,_,_,_,rfl,hid ⟨h0,h1,h2,h3,h4,h5,h6,h7,h8⟩,HW,hid ⟨i,ok,fun _=>⟨rfl,hF⟩,x2,x3,x4,fun _=>⟨d9,rfl⟩,x6⟩⟩
     ·rintro b a wy hb hd ⟨z5,z6,z24,z25,z26,z27,z28,z29,z30,z31,z32,z33,z34,z35,z36,rfl,HV,HW,HX⟩ K hK
      obtain ⟨h0,h1,h2,h3,h4,h5,h6,h7,h8⟩:=HV.out
      simp [Region.binds] at hd
      have dd12:b 12=true:=by simp [hd]
      clear hd
      obtain ⟨i,ok,x1,x2,x3,x4,x5,x6⟩:=HX.out
      obtain ⟨d9,rfl⟩:=x4 dd12
      obtain ⟨rfl,hF⟩:=x1 d9
      go_simp
      exact hK _ _ ⟨_,_,_,_,_,_,_,_,_,_,_,_,_,_,_,rfl,hid ⟨h0,h1,h2,h3,h4,h5,h6,h7,h8⟩,HW,hid ⟨i,ok,fun _=>⟨rfl,hF⟩,x2,x3,x4,x5,fun _=>⟨d9,rfl⟩⟩⟩
    case doneF0 =>
     rintro b a wy hb ⟨z5,z6,z24,z25,z26,z27,z28,z29,z30,z31,z32,z33,z34,z35,z36,rfl,HV,HW,HX⟩
     obtain ⟨h0,h1,h2,h3,h4,h5,h6,h7,h8⟩:=HV.out
     obtain rfl:=h0 (hb 0)
     obtain rfl:=h1 (hb 1)
     obtain rfl:=h2 (hb 2)
     obtain rfl:=h3 (hb 3)
     obtain rfl:=h4 (hb 4)
     obtain rfl:=h5 (hb 5)
     obtain rfl:=h6 (hb 6)
     obtain rfl:=h7 (hb 7)
     obtain rfl:=h8 (hb 8)
     clear HV h0 h1 h2 h3 h4 h5 h6 h7 h8
     obtain ⟨i,ok,x1,x2,x3,x4,x5,x6⟩:=HX.out
     obtain ⟨rfl,hF⟩:=x1 (hb 9)
     obtain ⟨_,rfl⟩:=x2 (hb 10)
     obtain ⟨_,rfl⟩:=x3 (hb 11)
     obtain ⟨_,rfl⟩:=x4 (hb 12)
     obtain ⟨_,rfl⟩:=x5 (hb 13)
     obtain ⟨_,rfl⟩:=x6 (hb 14)
     have HF:=hid hF
     have HY:=hid (HBr.out.trans (HW.out.mono HBr.out.size))
     have HRy:=hid (HRr.out.below HRr.out.lt HW.out)
     have HTy1:=hid (HTa.out.below HW.out)
     have HTy2:=hid (HTb.out.below HW.out)
     clear x1 x2 x3 x4 x5 x6 hb HX HW hF
     cases ok
     ·go_wp2_with fail
      go_roundw
      case rel=>exact ⟨.inr (.inl ⟨by go_num,hid HF.out.none⟩),HY,HRy,HTy1,HTy2⟩
      case measure=>simp [Go.RowKit.intOf]
     ·have HK:=hid (H.out.kept HY.out)
      go_wp2_with fail
      refine (place_any HK.out.pat HK.out.row rfl rfl rfl rfl HK.out.pg1 HF.out.lt.1 HG.out.l1_le (HG.out.may1 HF.out.lt.1 HF.out.lt.2) (HG.out.room1 HF.out.lt.1 HF.out.lt.2)).mono ?_
      rintro e w5 ⟨q',bk,rfl,hm5,hp5,hg5,hb5⟩
      have HZ:=hid (HK.out.mv1 hp5 hg5 hb5)
      have HB5:=hid (((ButL.of_below A.list HY.out (Nat.le_refl _)).trans (hb5.mono (fun x hx => .inl (by simp [Adr.list] at hx ⊢; rcases hx with h | h | h | h | h <;> simp [h])))))
      dsimp only
      go_wp2_with fail
      go_ret
      exact ⟨true,x.mv1 i bk q',rfl,fun _ => .one i bk q' HF.out hm5,fun e=>(by cases e),HZ.out,HB5.out⟩
   ·go_upto_region 5 with (fail)
    refine Inv2.wp_region_inv (fun b a wy => ∃z5 z6 z24 z25 z26 z27 z28 z29 z30 z31 z32 z33 z34 z35 z36,a=⟨(List.toArray (.pointer (some ⟨A.W,0,none⟩) :: undef :: u2 :: .pointer (some ⟨r,0,none⟩) :: .int .i64 1 :: z5 :: z6 :: .pointer (some ⟨A.W,0,none⟩) :: .pointer (some ⟨A.W,0,none⟩) :: .pointer (some ⟨A.W,0,none⟩) :: .pointer (some ⟨A.ta,0,none⟩) :: z11 :: z12 :: .pointer (some ⟨A.W,0,none⟩) :: .pointer (some ⟨A.W,0,none⟩) :: .pointer (some ⟨A.W,2,none⟩) :: .pointer (some ⟨A.W,2,none⟩) :: .agg #[.slice (some ⟨A.g1,0,none⟩) x.l1.length A.c1,.slice (some ⟨A.g2,0,none⟩) x.l1.length A.c2] :: z18 :: z19 :: .agg #[z12,z19] :: .int .i64 1 :: .bool true :: .int .i64 1 :: z24 :: z25 :: z26 :: z27 :: z28 :: z29 :: z30 :: z31 :: z32 :: z33 :: z34 :: z35 :: z36 :: u37 :: u38 :: u39 :: u40 :: u41 :: u42 :: u43 :: u44 :: u45 :: u46 :: [])),[]⟩∧Hid ((b 0=true→z25 = .pointer (some ⟨A.W,0,none⟩))∧(b 1=true→z26 = .int .i64 1)∧(b 2=true→z27 = .pointer (some ⟨A.W,0,none⟩))∧(b 3=true→z28 = .pointer (some ⟨A.W,2,none⟩))∧(b 4=true→z29 = .pointer (some ⟨A.W,4,none⟩))∧(b 5=true→z30 = .agg #[.slice (some ⟨A.g3,0,none⟩) x.l2.length A.c3,.slice (some ⟨A.g4,0,none⟩) x.l2.length A.c4])∧(b 6=true→z31 = .int .i64 1)∧(b 7=true→z32 = .pointer (some ⟨r,1,none⟩))∧(b 8=true→z33=z19))∧Hid (Below wm.heap.size wm wy)∧Hid (∃(i:Nat) (ok:Bool),(b 9=true→z34 = .tuple #[.int .i64 (i:Int),.bool ok]∧FirstP x.l2 x.f2 x.S2 i ok)∧(b 10=true→b 9=true∧z24 = .tuple #[.int .i64 (i:Int),.bool ok])∧(b 11=true→b 9=true∧z35 = .int .i64 (i:Int))∧(b 12=true→b 9=true∧z36 = .bool ok)∧(b 13=true→b 9=true∧z5 = .int .i64 (i:Int))∧(b 14=true→b 9=true∧z6 = .bool ok))) (by kernel_rfl) (by kernel_rfl) ?startF1 ?stepsF1 ?doneF1
    case startF1 =>
     intro b hb
     refine ⟨u5,u6,u24,u25,u26,u27,u28,u29,u30,u31,u32,u33,u34,u35,u36,rfl,hid ⟨?_,?_,?_,?_,?_,?_,?_,?_,?_⟩,hid ((show Still wm wm.drew from ⟨rfl,rfl,rfl,rfl⟩).below _),hid (⟨0,false,(fun e=>by rw [hb _ (by decide)] at e; cases e),(fun e=>by rw [hb _ (by decide)] at e; cases e),(fun e=>by rw [hb _ (by decide)] at e; cases e),(fun e=>by rw [hb _ (by decide)] at e; cases e),(fun e=>by rw [hb _ (by decide)] at e; cases e),(fun e=>by rw [hb _ (by decide)] at e; cases e)⟩)⟩
     all_goals (intro e; first | rfl | (rw [hb _ (by decide)] at e; cases e))
    case stepsF1 =>
     refine ⟨?_,?_,?_,?_,?_,?_,?_,?_,?_,?_,?_,?_,?_,?_,?_,trivial⟩
     ·rintro b a wy hb hd ⟨z5,z6,z24,z25,z26,z27,z28,z29,z30,z31,z32,z33,z34,z35,z36,rfl,HV,HW,HX⟩ K hK
      obtain ⟨h0,h1,h2,h3,h4,h5,h6,h7,h8⟩:=HV.out
      clear hd
      go_simp
      exact hK _ _ ⟨_,_,_,_,_,_,_,_,_,_,_,_,_,_,_,rfl,hid ⟨fun _=>rfl,h1,h2,h3,h4,h5,h6,h7,h8⟩,HW,HX⟩
     ·rintro b a wy hb hd ⟨z5,z6,z24,z25,z26,z27,z28,z29,z30,z31,z32,z33,z34,z35,z36,rfl,HV,HW,HX⟩ K hK
      obtain ⟨h0,h1,h2,h3,h4,h5,h6,h7,h8⟩:=HV.out
      clear hd
      go_simp
      exact hK _ _ ⟨_,_,_,_,_,_,_,_,_,_,_,_,_,_,_,rfl,hid ⟨h0,fun _=>rfl,h2,h3,h4,h5,h6,h7,h8⟩,HW,HX⟩
     ·rintro b a wy hb hd ⟨z5,z6,z24,z25,z26,z27,z28,z29,z30,z31,z32,z33,z34,z35,z36,rfl,HV,HW,HX⟩ K hK
      obtain ⟨h0,h1,h2,h3,h4,h5,h6,h7,h8⟩:=HV.out
      simp [Region.binds] at hd
      obtain rfl:=h0 (by simp [hd])
      clear hd
      go_simp
      exact hK _ _ ⟨_,_,_,_,_,_,_,_,_,_,_,_,_,_,_,rfl,hid ⟨h0,h1,fun _=>rfl,h3,h4,h5,h6,h7,h8⟩,HW,HX⟩
     ·rintro b a wy hb hd ⟨z5,z6,z24,z25,z26,z27,z28,z29,z30,z31,z32,z33,z34,z35,z36,rfl,HV,HW,HX⟩ K hK
      obtain ⟨h0,h1,h2,h3,h4,h5,h6,h7,h8⟩:=HV.out
      simp [Region.binds] at hd
      obtain rfl:=h2 (by simp [hd])
      clear hd
      go_simp
      exact hK _ _ ⟨_,_,_,_,_,_,_,_,_,_,_,_,_,_,_,rfl,hid ⟨h0,h1,h2,fun _=>rfl,h4,h5,h6,h7,h8⟩,HW,HX⟩
     ·rintro b a wy hb hd ⟨z5,z6,z24,z25,z26,z27,z28,z29,z30,z31,z32,z33,z34,z35,z36,rfl,HV,HW,HX⟩ K hK
      obtain ⟨h0,h1,h2,h3,h4,h5,h6,h7,h8⟩:=HV.out
      simp [Region.binds] at hd
      obtain rfl:=h3 (by simp [hd])
      obtain rfl:=h1 (by simp [hd])
      clear hd
      go_simp
      exact hK _ _ ⟨_,_,_,_,_,_,_,_,_,_,_,_,_,_,_,rfl,hid ⟨h0,h1,h2,h3,fun _=>rfl,h5,h6,h7,h8⟩,HW,HX⟩
     ·rintro b a wy hb hd ⟨z5,z6,z24,z25,z26,z27,z28,z29,z30,z31,z32,z33,z34,z35,z36,rfl,HV,HW,HX⟩ K hK
      obtain ⟨h0,h1,h2,h3,h4,h5,h6,h7,h8⟩:=HV.out
      simp [Region.binds] at hd
      obtain rfl:=h4 (by simp [hd])
      clear hd
      have hrow:=((H.out.kept HBr.out).kept HW.out).row
      have q0:=hrow.cellAt (i:=4) rfl
      have q1:=hrow.cellAt (i:=5) rfl
      clear hrow
      go_simp
      exact hK _ _ ⟨_,_,_,_,_,_,_,_,_,_,_,_,_,_,_,rfl,hid ⟨h0,h1,h2,h3,h4,fun _=>rfl,h6,h7,h8⟩,HW,HX⟩
     ·rintro b a wy hb hd ⟨z5,z6,z24,z25,z26,z27,z28,z29,z30,z31,z32,z33,z34,z35,z36,rfl,HV,HW,HX⟩ K hK
      obtain ⟨h0,h1,h2,h3,h4,h5,h6,h7,h8⟩:=HV.out
      clear hd
      go_simp
      exact hK _ _ ⟨_,_,_,_,_,_,_,_,_,_,_,_,_,_,_,rfl,hid ⟨h0,h1,h2,h3,h4,h5,fun _=>rfl,h7,h8⟩,HW,HX⟩
     ·rintro b a wy hb hd ⟨z5,z6,z24,z25,z26,z27,z28,z29,z30,z31,z32,z33,z34,z35,z36,rfl,HV,HW,HX⟩ K hK
      obtain ⟨h0,h1,h2,h3,h4,h5,h6,h7,h8⟩:=HV.out
      simp [Region.binds] at hd
      obtain rfl:=h6 (by simp [hd])
      clear hd
      go_simp
      exact hK _ _ ⟨_,_,_,_,_,_,_,_,_,_,_,_,_,_,_,rfl,hid ⟨h0,h1,h2,h3,h4,h5,h6,fun _=>rfl,h8⟩,HW,HX⟩
     ·rintro b a wy hb hd ⟨z5,z6,z24,z25,z26,z27,z28,z29,z30,z31,z32,z33,z34,z35,z36,rfl,HV,HW,HX⟩ K hK
      obtain ⟨h0,h1,h2,h3,h4,h5,h6,h7,h8⟩:=HV.out
      simp [Region.binds] at hd
      obtain rfl:=h7 (by simp [hd])
      clear hd
      have hrow:=HRr.out.below HRr.out.lt HW.out
      have q0:=hrow.cellAt (i:=1) rfl
      clear hrow
      go_simp
      exact hK _ _ ⟨_,_,_,_,_,_,_,_,_,_,_,_,_,_,_,rfl,hid ⟨h0,h1,h2,h3,h4,h5,h6,h7,fun _=>rfl⟩,HW,HX⟩
     ·rintro b a wy hb hd ⟨z5,z6,z24,z25,z26,z27,z28,z29,z30,z31,z32,z33,z34,z35,z36,rfl,HV,HW,HX⟩ K hK
      obtain ⟨h0,h1,h2,h3,h4,h5,h6,h7,h8⟩:=HV.out
      simp [Region.binds] at hd
      obtain rfl:=h5 (by simp [hd])
      obtain rfl:=h8 (by simp [hd])
      clear hd
      obtain ⟨⟨sp1,hs1⟩,⟨sp2,hs2⟩⟩:=((H.out.kept HBr.out).kept HW.out).pg2.row
      have HS1:=hid hs1
      have HS2:=hid hs2
      have HTT:=hid (HTb.out.below HW.out)
      have HXO:=hid (show ∀j,(b j=true→b 9=true) → ¬b j=true from fun j h e=>absurd (h e) (by rw [hb]; decide))
      clear hs1 hs2
      obtain ⟨i0,ok0,x1,x2,x3,x4,x5,x6⟩:=HX.out
      have n10:=hid (HXO.out 10 fun e=>(x2 e).1)
      have n11:=hid (HXO.out 11 fun e=>(x3 e).1)
      have n12:=hid (HXO.out 12 fun e=>(x4 e).1)
      have n13:=hid (HXO.out 13 fun e=>(x5 e).1)
      have n14:=hid (HXO.out 14 fun e=>(x6 e).1)
      clear x1 x2 x3 x4 x5 x6 HX HXO
      go_simp
      go_at_call 217
      refine (first_any HS1.out HS2.out HG.out.fl2 HG.out.l2_le HTT.out).mono ?_
      rintro e wz ⟨i,ok,rfl,hF,kz⟩
      try go_simp
      exact hK _ _ ⟨_,_,_,_,_,_,_,_,_,_,_,_,_,_,_,rfl,hid ⟨h0,h1,h2,h3,h4,h5,h6,h7,h8⟩,hid (HW.out.trans (kz.mono HW.out.size)),hid ⟨i,ok,fun _=>⟨rfl,hF⟩,fun e=>absurd e n10.out,fun e=>absurd e n11.out,fun e=>absurd e n12.out,fun e=>absurd e n13.out,fun e=>absurd e n14.out⟩⟩
     ·rintro b a wy hb hd ⟨z5,z6,z24,z25,z26,z27,z28,z29,z30,z31,z32,z33,z34,z35,z36,rfl,HV,HW,HX⟩ K hK
      obtain ⟨h0,h1,h2,h3,h4,h5,h6,h7,h8⟩:=HV.out
      simp [Region.binds] at hd
      have dd9:b 9=true:=by simp [hd]
      clear hd
      obtain ⟨i,ok,x1,x2,x3,x4,x5,x6⟩:=HX.out
      obtain ⟨rfl,hF⟩:=x1 dd9
      go_simp
      exact hK _ _ ⟨_,_,_,_,_,_,_,_,_,_,_,_,_,_,_,rfl,hid ⟨h0,h1,h2,h3,h4,h5,h6,h7,h8⟩,HW,hid ⟨i,ok,x1,fun _=>⟨dd9,rfl⟩,x3,x4,x5,x6⟩⟩
     ·rintro b a wy hb hd ⟨z5,z6,z24,z25,z26,z27,z28,z29,z30,z31,z32,z33,z34,z35,z36,rfl,HV,HW,HX⟩ K hK
      obtain ⟨h0,h1,h2,h3,h4,h5,h6,h7,h8⟩:=HV.out
      simp [Region.binds] at hd
      have dd10:b 10=true:=by simp [hd]
      clear hd
      obtain ⟨i,ok,x1,x2,x3,x4,x5,x6⟩:=HX.out
      obtain ⟨d9,rfl⟩:=x2 dd10
      obtain ⟨rfl,hF⟩:=x1 d9
      go_simp
      exact hK _ _ ⟨_,_,_,_,_,_,_,_,_,_,_,_,_,_,_,rfl,hid ⟨h0,h1,h2,h3,h4,h5,h6,h7,h8⟩,HW,hid ⟨i,ok,fun _=>⟨rfl,hF⟩,x2,fun _=>⟨d9,rfl⟩,x4,x5,x6⟩⟩
     ·rintro b a wy hb hd ⟨z5,z6,z24,z25,z26,z27,z28,z29,z30,z31,z32,z33,z34,z35,z36,rfl,HV,HW,HX⟩ K hK
      obtain ⟨h0,h1,h2,h3,h4,h5,h6,h7,h8⟩:=HV.out
      simp [Region.binds] at hd
      have dd10:b 10=true:=by simp [hd]
      clear hd
      obtain ⟨i,ok,x1,x2,x3,x4,x5,x6⟩:=HX.out
      obtain ⟨d9,rfl⟩:=x2 dd10
      obtain ⟨rfl,hF⟩:=x1 d9
      go_simp
      exact hK _ _ ⟨_,_,_,_,_,_,_,_,_,_,_,_,_,_,_,rfl,hid ⟨h0,h1,h2,h3,h4,h5,h6,h7,h8⟩,HW,hid ⟨i,ok,fun _=>⟨rfl,hF⟩,x2,x3,fun _=>⟨d9,rfl⟩,x5,x6⟩⟩
     ·rintro b a wy hb hd ⟨z5,z6,z24,z25,z26,z27,z28,z29,z30,z31,z32,z33,z34,z35,z36,rfl,HV,HW,HX⟩ K hK
      obtain ⟨h0,h1,h2,h3,h4,h5,h6,h7,h8⟩:=HV.out
      simp [Region.binds] at hd
      have dd11:b 11=true:=by simp [hd]
      clear hd
      obtain ⟨i,ok,x1,x2,x3,x4,x5,x6⟩:=HX.out
      obtain ⟨d9,rfl⟩:=x3 dd11
      obtain ⟨rfl,hF⟩:=x1 d9
      go_simp
      exact hK _ _ ⟨_,_,_,_,_,_,_,_,_,_,_,_,_,_,_,rfl,hid ⟨h0,h1,h2,h3,h4,h5,h6,h7,h8⟩,HW,hid ⟨i,ok,fun _=>⟨rfl,hF⟩,x2,x3,x4,fun _=>⟨d9,rfl⟩,x6⟩⟩
     ·rintro b a wy hb hd ⟨z5,z6,z24,z25,z26,z27,z28,z29,z30,z31,z32,z33,z34,z35,z36,rfl,HV,HW,HX⟩ K hK
      obtain ⟨h0,h1,h2,h3,h4,h5,h6,h7,h8⟩:=HV.out
      simp [Region.binds] at hd
      have dd12:b 12=true:=by simp [hd]
      clear hd
      obtain ⟨i,ok,x1,x2,x3,x4,x5,x6⟩:=HX.out
      obtain ⟨d9,rfl⟩:=x4 dd12
      obtain ⟨rfl,hF⟩:=x1 d9
      go_simp
      exact hK _ _ ⟨_,_,_,_,_,_,_,_,_,_,_,_,_,_,_,rfl,hid ⟨h0,h1,h2,h3,h4,h5,h6,h7,h8⟩,HW,hid ⟨i,ok,fun _=>⟨rfl,hF⟩,x2,x3,x4,x5,fun _=>⟨d9,rfl⟩⟩⟩
    case doneF1 =>
     rintro b a wy hb ⟨z5,z6,z24,z25,z26,z27,z28,z29,z30,z31,z32,z33,z34,z35,z36,rfl,HV,HW,HX⟩
     obtain ⟨h0,h1,h2,h3,h4,h5,h6,h7,h8⟩:=HV.out
     obtain rfl:=h0 (hb 0)
     obtain rfl:=h1 (hb 1)
     obtain rfl:=h2 (hb 2)
     obtain rfl:=h3 (hb 3)
     obtain rfl:=h4 (hb 4)
     obtain rfl:=h5 (hb 5)
     obtain rfl:=h6 (hb 6)
     obtain rfl:=h7 (hb 7)
     obtain rfl:=h8 (hb 8)
     clear HV h0 h1 h2 h3 h4 h5 h6 h7 h8
     obtain ⟨i,ok,x1,x2,x3,x4,x5,x6⟩:=HX.out
     obtain ⟨rfl,hF⟩:=x1 (hb 9)
     obtain ⟨_,rfl⟩:=x2 (hb 10)
     obtain ⟨_,rfl⟩:=x3 (hb 11)
     obtain ⟨_,rfl⟩:=x4 (hb 12)
     obtain ⟨_,rfl⟩:=x5 (hb 13)
     obtain ⟨_,rfl⟩:=x6 (hb 14)
     have HF:=hid hF
     have HY:=hid (HBr.out.trans (HW.out.mono HBr.out.size))
     have HRy:=hid (HRr.out.below HRr.out.lt HW.out)
     have HTy1:=hid (HTa.out.below HW.out)
     have HTy2:=hid (HTb.out.below HW.out)
     clear x1 x2 x3 x4 x5 x6 hb HX HW hF
     cases ok
     ·go_wp2_with fail
      go_roundw
      case rel=>exact ⟨.inr (.inr ⟨by go_num,HN1,hid HF.out.none⟩),HY,HRy,HTy1,HTy2⟩
      case measure=>simp [Go.RowKit.intOf]
     ·have HK:=hid (H.out.kept HY.out)
      go_wp2_with fail
      refine (place_any HK.out.pat HK.out.row rfl rfl rfl rfl HK.out.pg2 HF.out.lt.1 HG.out.l2_le (HG.out.may2 HF.out.lt.1 HF.out.lt.2) (HG.out.room2 HF.out.lt.1 HF.out.lt.2)).mono ?_
      rintro e w5 ⟨q',bk,rfl,hm5,hp5,hg5,hb5⟩
      have HZ:=hid (HK.out.mv2 hp5 hg5 hb5)
      have HB5:=hid (((ButL.of_below A.list HY.out (Nat.le_refl _)).trans (hb5.mono (fun x hx => .inl (by simp [Adr.list] at hx ⊢; rcases hx with h | h | h | h | h <;> simp [h])))))
      dsimp only
      go_wp2_with fail
      go_ret
      exact ⟨true,x.mv2 i bk q',rfl,fun _ => .two i bk q' HN1.out HF.out hm5,fun e=>(by cases e),HZ.out,HB5.out⟩
   ·go_wp2_with fail
    go_ret
    exact ⟨false,x,rfl,fun e=>(by cases e),fun _=>⟨⟨HN1.out,HN2.out⟩,rfl⟩,H.out.kept HBr.out,ButL.of_below A.list HBr.out (Nat.le_refl _)⟩
end Go.Proofs.YtogchamogbendaaGreat.Pl
namespace Go.Proofs.YtogchamogbendaaGreat.Pl
open Go.RowKit Oct Mv Tl Pk Go.Maps
theorem results_cell_four {fn:Func} {p u v x:Tmp} {ty:TypeId} (h:fn.results = #[.cell p ty,.tmp u,.tmp v,.tmp x]) (tmps:Array Value) (P:Program) (w:World) :
  (results fn tmps).run P w=((asAddr (tmps.getD p undef)).run P w).andThen fun a w₁=>((loadVar ty a).run P w₁).andThen fun y w₂ => .ok (.tuple #[y,tmps.getD u undef,tmps.getD v undef,tmps.getD x undef]) w₂:=by
 simp only [results,h]
 simp [Sem.run_bind,Result.andThen]
theorem sheet_zero (w:World):(zeroValue 65).run Tryz.prog w = .ok (.agg #[.slice none 0 0,.slice none 0 0]) w:=by kernel_rfl
theorem work_zero (w:World):(zeroValue 297).run Tryz.prog w = .ok (.agg #[.pointer none,.pointer none,.slice none 0 0,.slice none 0 0,.slice none 0 0,.slice none 0 0]) w:=by kernel_rfl
theorem two_boxes (w:World) (A1 A2:Option Addr) (n1 n2 c1 c2:Nat) (W:World) (hW:W=(w.alloc (.cells #[.slice A1 n1 c1,.slice A2 n2 c2] 65)).alloc (.cells #[.slice none 0 0,.slice none 0 0] 65)) :
  RowV W w.heap.size 65 [.slice A1 n1 c1,.slice A2 n2 c2]∧RowV W (w.heap.size+1) 65 [.slice none 0 0,.slice none 0 0]∧Below w.heap.size w W:=by
 subst hW
 have hz:(w.alloc (.cells #[.slice A1 n1 c1,.slice A2 n2 c2] 65)).heap.size=w.heap.size+1:=by simp
 have B1:=(Below.refl w.heap.size w).alloc (Nat.le_refl _) (.cells #[.slice A1 n1 c1,.slice A2 n2 c2] 65)
 have R1:=alloc_rowV w 65 [.slice A1 n1 c1,.slice A2 n2 c2]
 have B2:=(Below.refl (w.heap.size+1) (w.alloc (.cells #[.slice A1 n1 c1,.slice A2 n2 c2] 65))).alloc (by rw [hz]; exact Nat.le_refl _) (.cells #[.slice none 0 0,.slice none 0 0] 65)
 have R2:=alloc_rowV (w.alloc (.cells #[.slice A1 n1 c1,.slice A2 n2 c2] 65)) 65 [.slice none 0 0,.slice none 0 0]
 rw [hz] at R2
 exact ⟨R1.below (by omega) B2,R2,B1.trans (B2.mono (by omega))⟩
end Go.Proofs.YtogchamogbendaaGreat.Pl
