import Derived.Test.YtogchamogbendaaGreatQtc
set_option maxRecDepth 100000
set_option linter.unusedVariables false
set_option linter.unusedSimpArgs false
namespace Go.Proofs.YtogchamogbendaaGreat.Bs
open Lib (hid)
open Go.RowKit Oct Mv Tl Pk Pl Go.Maps Go.ChangeMaps
open Dsk (dT)
open Su (Sup nth scells)
inductive Stp where
 | w (p:Nat) (bs:List UInt8)
 | f
def plT (t:TypeId):Bool:=t == 180 || t == 242
def StpV (w:World) (P d:Nat) (v:Value):Stp→Prop
 | .w p bs => ∃b3 b4 b5 g c,v = .func (.func 161) #[] #[.pointer (some ⟨b3,0,none⟩),.pointer (some ⟨b4,0,none⟩),.pointer (some ⟨b5,0,none⟩)] ∧
   RowV w b3 165 [.pointer (some ⟨P,0,none⟩)]∧RowV w b4 3 [.int .i64 (p:Int)]∧RowV w b5 45 [.slice (some ⟨g,0,none⟩) 128 c]∧Byt w g bs∧bs.length=128
 | .f=>v = .func (.func 162) #[.pointer (some ⟨d,0,none⟩)] #[]
def PlnV (w:World) (B P d:Nat) (sv:Value) (vs:List Value) (l:List Stp):Prop :=
 RowV w P 180 [.pointer (some ⟨d,0,none⟩),sv]∧B≤P∧w.ownsRow B 242 1 sv l.length vs ∧ ∀i (h:i<l.length),StpV w P d (vs.getD i undef) l[i]
def Pln (w:World) (B P d:Nat) (l:List Stp):Prop := ∃sv vs,PlnV w B P d sv vs l
theorem step_info:(Tryz.prog.info? 242).map (fun i=>(i.zero,i.size,i.bytes))=some (some (.agg #[.nilFunc]),1,8):=by kernel_rfl
section
variable {T:TypeId→Bool} {Pr:Nat→Prop} {L:List Nat} {w w':World} {B P d:Nat} {l:List Stp}
theorem StpV.off {v:Value} {s:Stp} (h:StpV w P d v s) (k:Off T Pr [] w w') (h1:T 165 = false) (h2:T 3 = false) (h3:T 45 = false) (h4:T 5 = false):StpV w' P d v s:=by
 cases s with
 | f=>exact h
 | w p bs =>
  obtain ⟨b3,b4,b5,g,c,e,r3,r4,r5,rb,hl⟩:=h
  exact ⟨b3,b4,b5,g,c,e,k.rowV r3 (by simp) h1,k.rowV r4 (by simp) h2,k.rowV r5 (by simp) h3,rb.off k (by simp) h4,hl⟩
theorem Pln.off (h:Pln w B P d l) (k:Off T Pr [] w w') (h0:T 180 = false) (h01:T 242 = false) (h1:T 165 = false) (h2:T 3 = false) (h3:T 45 = false) (h4:T 5 = false):Pln w' B P d l:=by
 obtain ⟨sv,vs,r,hB,ho,hs⟩:=h
 refine ⟨sv,vs,k.rowV r (by simp) h0,hB,Dsk.own_same ho fun j hj hl => ?_,fun i hi=>(hs i hi).off k h1 h2 h3 h4⟩
 rcases ho.2 with ⟨rfl,_⟩ | ⟨g,cap,cur,rfl,_,hg,_⟩
 ·cases hj
 ·cases hj
  exact k.block g hl (by simp) (.inr fun cs t fr e=>by rw [hg] at e; cases e; exact h01)
theorem Pln.below (h:Pln w B P d l) (k:Below w.heap.size w w'):Pln w' B P d l:=h.off (T:=fun _=>false) (Pr:=fun _=>False) (Off.of_below _ _ [] k (Nat.le_refl _)) rfl rfl rfl rfl rfl rfl
theorem Pln.empty (hr:RowV w P 180 [.pointer (some ⟨d,0,none⟩),.slice none 0 0]) (hB:B≤P):Pln w B P d [] :=
 ⟨_,[],hr,hB,World.ownsRow_nil _ _ _ _,fun i h=>absurd h (by simp)⟩
theorem ne_own {sv:Value} {n:Nat} {vs cs:List Value} {U:TypeId} (h:w.ownsRow B 242 1 sv n vs) (hr:RowV w P U cs) (hU : 242 ≠ U):sv.ownBlock≠some P:=Dsk.own_ne h hr hU
theorem stp_snoc {w w':World} {B P d:Nat} {l:List Stp} {vs:List Value} {s:Stp} {v:Value} (h : ∀i (h:i<l.length),StpV w P d (vs.getD i undef) l[i]) (k:Off plT (fun k=>k<B) [] w w') (hl:vs.length=l.length) (hv:StpV w' P d v s) (i:Nat) (hi:i<(l ++ [s]).length):StpV w' P d ((vs ++ [v]).getD i undef) (l ++ [s])[i]:=by
 by_cases e:i<l.length
 ·rw [List.getElem_append_left e,List.getD_eq_getElem?_getD,List.getElem?_append_left (by omega),← List.getD_eq_getElem?_getD]
  exact (h i e).off k rfl rfl rfl rfl
 ·rw [List.length_append] at hi
  obtain rfl:i=l.length:=by simp at hi; omega
  rw [List.getElem_append_right (Nat.le_refl _),List.getD_eq_getElem?_getD,List.getElem?_append_right (by omega)]
  simp only [hl,Nat.sub_self]
  exact hv
theorem step_more {sv : Value} {vs : List Value} {n : Nat} (ho : w.ownsRow B 242 1 sv n vs) (hn : n < 100000) (hB : B ≤ w.heap.size) (fv : Value) (h1 : fv.oneCell' = true) (q : Nat) (hq : w.cell? ⟨q, 0, none⟩ = some fv) (ty : TypeId) :
    ∃sv' w',(Builtin.append_ #[178,178] ty #[sv,.slice (some ⟨q,0,none⟩) 1 1]).run Tryz.prog w = .ok sv' w'∧w'.ownsRow B 242 1 sv' (n+1) (vs ++ [fv])∧Off plT (fun k=>k<B) [] w w'∧(∀g U cs,RowV w g U cs → 242 ≠ U→RowV w' g U cs):=by
  obtain ⟨i0,hi,hz0,hz1,hz2⟩:=info_parts step_info
  obtain ⟨sv',w',hr,ho',hg,_⟩:=run_append_own (P:=Tryz.prog) w B 178 ty 242 i0 (.agg #[.nilFunc]) 1 8 Tryz.underlying178 hi hz0 hz1 hz2 rfl (by omega) sv n vs ho ⟨q,0,none⟩ 1 1 [fv] rfl
    (fun j u hj=>by
      cases j with
      | zero=>rw [add_plain]; cases hj; exact hq
      | succ j=>simp at hj)
    (fun u hu => by have : u = fv := by simpa using hu
                    rw [this]; exact h1) (by unfold maxLen; omega) (by omega) hB
  refine ⟨sv',w',hr,ho',⟨hg.os,hg.tape,hg.output,hg.size,fun k hk _ hc=>hg.block k hk fun e => ?_⟩,fun g U cs hr hU=>hr.block (hg.block g hr.lt fun e=>ne_own ho hr hU e.symm)⟩
  rcases ho.2 with ⟨rfl,_⟩ | ⟨g,cap,cur,rfl,hb,hgg,_⟩
  · cases e
  · cases e
    rcases hc with hc | hc
    · exact absurd hb (Nat.not_le.2 hc)
    · have:=hc _ _ _ hgg
      cases this
end
set_option maxHeartbeats 2000000 in
theorem pflush {w:World} {B P d:Nat} {l:List Stp} (h:Pln w B P d l) (hBB:B≤w.heap.size) (hfew:l.length<100000) :
  Calls Tryz.prog 112 #[.pointer (some ⟨P,0,none⟩)] w fun e w'=>e = .returned (.tuple #[])∧Pln w' B P d (l ++ [.f])∧Off plT (fun k=>k<B) [] w w':=by
 have HH:=hid h
 obtain ⟨sv,vs,hr,hBP,ho,hs⟩:=h
 have HP0:=hid (show RowV w.drew P 180 [.pointer (some ⟨d,0,none⟩),sv] from hr)
 have HO0:=hid (show w.drew.ownsRow B 242 1 sv l.length vs from ho)
 have HS:=hid hs
 clear hr ho hs HH
 go_enter Tryz.func112,Tryz.ntmps112
 go_upto_region 0 with (fail)
 refine Inv2.wp_region_inv (fun b a wy => ∃(z:Nat→Value) (z13:Value) (z14:Value),a=⟨#[Value.pointer (some ⟨P,0,none⟩),undef,(z 2),(z 3),(z 4),(z 5),(z 6),(z 7),(z 8),(z 9),(z 10),(z 11),(z 12),z13,z14,(z 15),(z 16)],[]⟩∧Hid ((b 0=true→(z 2)=Value.pointer (some ⟨P,0,none⟩))∧(b 1=true→(z 3)=Value.pointer (some ⟨P,0,none⟩))∧(b 2=true→(z 4) = .pointer (some ⟨P,0,none⟩))∧(b 3=true→(z 5) = .pointer (some ⟨P,1,none⟩))∧(b 4=true→(z 6)=sv)∧(b 5=true→(z 7)=Value.pointer (some ⟨P,0,none⟩))∧(b 6=true→(z 8) = .pointer (some ⟨P,0,none⟩))∧(b 7=true→(z 9) = .pointer (some ⟨P,0,none⟩))∧(b 8=true→(z 10) = .pointer (some ⟨d,0,none⟩))∧(b 9=true→(z 11) = .func (.func 162) #[.pointer (some ⟨d,0,none⟩)] #[])∧(b 10=true→(z 12) = .agg #[.func (.func 162) #[.pointer (some ⟨d,0,none⟩)] #[]])∧(b 13=true→(z 15) = .pointer (some ⟨P,0,none⟩))∧(b 14=true→(z 16) = .pointer (some ⟨P,1,none⟩)))∧Hid (Below 0 w wy)∧Hid (∃sv':Value,Off plT (fun k=>k<B) [] w wy∧(b 15=false→RowV wy P 180 [.pointer (some ⟨d,0,none⟩),sv])∧(b 12=false→wy.ownsRow B 242 1 sv l.length vs)∧(b 11=true→b 12=false → ∃q,z13 = .slice (some ⟨q,0,none⟩) 1 1∧wy.cell? ⟨q,0,none⟩=some (.func (.func 162) #[.pointer (some ⟨d,0,none⟩)] #[]))∧(b 12=true→b 11=true∧z14=sv'∧wy.ownsRow B 242 1 sv' (l.length+1) (vs ++ [.func (.func 162) #[.pointer (some ⟨d,0,none⟩)] #[]]))∧(b 15=true→b 4=true∧b 12=true∧RowV wy P 180 [.pointer (some ⟨d,0,none⟩),sv']))) (by kernel_rfl) (by kernel_rfl) ?startS ?stepsS ?doneS
 case startS =>
  intro b hb
  refine ⟨fun s=>undef,undef,undef,rfl,hid ⟨?_,?_,?_,?_,?_,?_,?_,?_,?_,?_,?_,?_,?_⟩,hid ((show Still w w.drew from ⟨rfl,rfl,rfl,rfl⟩).below _),hid (⟨undef,(Off.refl _ _ _ _).trans (Off.of_below _ _ _ ((show Still w w.drew from ⟨rfl,rfl,rfl,rfl⟩).below _) (Nat.le_refl _)),fun _=>HP0.out,fun _=>HO0.out,fun e=>absurd (e.symm.trans (hb 11 (by decide))) (by decide),fun e=>absurd (e.symm.trans (hb 12 (by decide))) (by decide),fun e=>absurd (e.symm.trans (hb 15 (by decide))) (by decide)⟩)⟩
  all_goals (intro e; first | rfl | (rw [hb _ (by decide)] at e; cases e))
 case stepsS =>
  refine ⟨?_,?_,?_,?_,?_,?_,?_,?_,?_,?_,?_,?_,?_,?_,?_,?_,trivial⟩
  ·rintro b a wy hb hd ⟨z,z13,z14,rfl,HV,HW,HX⟩ K hK
   clear hd
   go_simp
   have V:=HV.out
   exact hK _ _ ⟨fun s=>if s=2 then Value.pointer (some ⟨P,0,none⟩) else z s,_,_,rfl,hid ⟨fun _=>rfl,V.2.1,V.2.2.1,V.2.2.2.1,V.2.2.2.2.1,V.2.2.2.2.2.1,V.2.2.2.2.2.2.1,V.2.2.2.2.2.2.2.1,V.2.2.2.2.2.2.2.2.1,V.2.2.2.2.2.2.2.2.2.1,V.2.2.2.2.2.2.2.2.2.2.1,V.2.2.2.2.2.2.2.2.2.2.2.1,V.2.2.2.2.2.2.2.2.2.2.2.2⟩,HW,HX⟩
  ·rintro b a wy hb hd ⟨z,z13,z14,rfl,HV,HW,HX⟩ K hK
   clear hd
   go_simp
   have V:=HV.out
   exact hK _ _ ⟨fun s=>if s=3 then Value.pointer (some ⟨P,0,none⟩) else z s,_,_,rfl,hid ⟨V.1,fun _=>rfl,V.2.2.1,V.2.2.2.1,V.2.2.2.2.1,V.2.2.2.2.2.1,V.2.2.2.2.2.2.1,V.2.2.2.2.2.2.2.1,V.2.2.2.2.2.2.2.2.1,V.2.2.2.2.2.2.2.2.2.1,V.2.2.2.2.2.2.2.2.2.2.1,V.2.2.2.2.2.2.2.2.2.2.2.1,V.2.2.2.2.2.2.2.2.2.2.2.2⟩,HW,HX⟩
  ·rintro b a wy hb hd ⟨z,z13,z14,rfl,HV,HW,HX⟩ K hK
   simp [Region.binds] at hd
   have e1:(z 3)=Value.pointer (some ⟨P,0,none⟩):=(HV.out.2.1) (by simp [hd])
   clear hd
   go_simp
   have V:=HV.out
   exact hK _ _ ⟨fun s=>if s=4 then .pointer (some ⟨P,0,none⟩) else if s=3 then Value.pointer (some ⟨P,0,none⟩) else z s,_,_,rfl,hid ⟨V.1,fun _=>rfl,fun _=>rfl,V.2.2.2.1,V.2.2.2.2.1,V.2.2.2.2.2.1,V.2.2.2.2.2.2.1,V.2.2.2.2.2.2.2.1,V.2.2.2.2.2.2.2.2.1,V.2.2.2.2.2.2.2.2.2.1,V.2.2.2.2.2.2.2.2.2.2.1,V.2.2.2.2.2.2.2.2.2.2.2.1,V.2.2.2.2.2.2.2.2.2.2.2.2⟩,HW,HX⟩
  ·rintro b a wy hb hd ⟨z,z13,z14,rfl,HV,HW,HX⟩ K hK
   simp [Region.binds] at hd
   have e2:(z 4) = .pointer (some ⟨P,0,none⟩):=(HV.out.2.2.1) (by simp [hd])
   clear hd
   go_simp
   have V:=HV.out
   exact hK _ _ ⟨fun s=>if s=5 then .pointer (some ⟨P,1,none⟩) else if s=4 then .pointer (some ⟨P,0,none⟩) else z s,_,_,rfl,hid ⟨V.1,V.2.1,fun _=>rfl,fun _=>rfl,V.2.2.2.2.1,V.2.2.2.2.2.1,V.2.2.2.2.2.2.1,V.2.2.2.2.2.2.2.1,V.2.2.2.2.2.2.2.2.1,V.2.2.2.2.2.2.2.2.2.1,V.2.2.2.2.2.2.2.2.2.2.1,V.2.2.2.2.2.2.2.2.2.2.2.1,V.2.2.2.2.2.2.2.2.2.2.2.2⟩,HW,HX⟩
  ·rintro b a wy hb hd ⟨z,z13,z14,rfl,HV,HW,HX⟩ K hK
   simp [Region.binds] at hd
   have e3:(z 5) = .pointer (some ⟨P,1,none⟩):=(HV.out.2.2.2.1) (by simp [hd])
   clear hd
   obtain ⟨sv',X1,X2,X3,X4,X5,X6⟩:=HX.out
   have bT:b 15=false:=by
    rcases Bool.eq_false_or_eq_true (b 15) with e | e
    ·exact absurd (hb.symm.trans (X6 e).1) (by decide)
    ·exact e
   have cc:=(X2 bT).cellAt (i:=1) rfl
   have HC:=hid (And.intro X1 (And.intro X2 (And.intro X3 (And.intro X4 (And.intro X5 X6)))))
   clear X1 X2 X3 X4 X5 X6 bT HX
   go_simp
   have V:=HV.out
   exact hK _ _ ⟨fun s=>if s=6 then sv else if s=5 then .pointer (some ⟨P,1,none⟩) else z s,_,_,rfl,hid ⟨V.1,V.2.1,V.2.2.1,fun _=>rfl,fun _=>rfl,V.2.2.2.2.2.1,V.2.2.2.2.2.2.1,V.2.2.2.2.2.2.2.1,V.2.2.2.2.2.2.2.2.1,V.2.2.2.2.2.2.2.2.2.1,V.2.2.2.2.2.2.2.2.2.2.1,V.2.2.2.2.2.2.2.2.2.2.2.1,V.2.2.2.2.2.2.2.2.2.2.2.2⟩,HW,hid ⟨sv',HC.out.1,HC.out.2.1,HC.out.2.2.1,HC.out.2.2.2.1,HC.out.2.2.2.2.1,fun e=>⟨rfl,(HC.out.2.2.2.2.2 e).2⟩⟩⟩
  ·rintro b a wy hb hd ⟨z,z13,z14,rfl,HV,HW,HX⟩ K hK
   clear hd
   go_simp
   have V:=HV.out
   exact hK _ _ ⟨fun s=>if s=7 then Value.pointer (some ⟨P,0,none⟩) else z s,_,_,rfl,hid ⟨V.1,V.2.1,V.2.2.1,V.2.2.2.1,V.2.2.2.2.1,fun _=>rfl,V.2.2.2.2.2.2.1,V.2.2.2.2.2.2.2.1,V.2.2.2.2.2.2.2.2.1,V.2.2.2.2.2.2.2.2.2.1,V.2.2.2.2.2.2.2.2.2.2.1,V.2.2.2.2.2.2.2.2.2.2.2.1,V.2.2.2.2.2.2.2.2.2.2.2.2⟩,HW,HX⟩
  ·rintro b a wy hb hd ⟨z,z13,z14,rfl,HV,HW,HX⟩ K hK
   simp [Region.binds] at hd
   have e5:(z 7)=Value.pointer (some ⟨P,0,none⟩):=(HV.out.2.2.2.2.2.1) (by simp [hd])
   clear hd
   go_simp
   have V:=HV.out
   exact hK _ _ ⟨fun s=>if s=8 then .pointer (some ⟨P,0,none⟩) else if s=7 then Value.pointer (some ⟨P,0,none⟩) else z s,_,_,rfl,hid ⟨V.1,V.2.1,V.2.2.1,V.2.2.2.1,V.2.2.2.2.1,fun _=>rfl,fun _=>rfl,V.2.2.2.2.2.2.2.1,V.2.2.2.2.2.2.2.2.1,V.2.2.2.2.2.2.2.2.2.1,V.2.2.2.2.2.2.2.2.2.2.1,V.2.2.2.2.2.2.2.2.2.2.2.1,V.2.2.2.2.2.2.2.2.2.2.2.2⟩,HW,HX⟩
  ·rintro b a wy hb hd ⟨z,z13,z14,rfl,HV,HW,HX⟩ K hK
   simp [Region.binds] at hd
   have e6:(z 8) = .pointer (some ⟨P,0,none⟩):=(HV.out.2.2.2.2.2.2.1) (by simp [hd])
   clear hd
   go_simp
   have V:=HV.out
   exact hK _ _ ⟨fun s=>if s=9 then .pointer (some ⟨P,0,none⟩) else if s=8 then .pointer (some ⟨P,0,none⟩) else z s,_,_,rfl,hid ⟨V.1,V.2.1,V.2.2.1,V.2.2.2.1,V.2.2.2.2.1,V.2.2.2.2.2.1,fun _=>rfl,fun _=>rfl,V.2.2.2.2.2.2.2.2.1,V.2.2.2.2.2.2.2.2.2.1,V.2.2.2.2.2.2.2.2.2.2.1,V.2.2.2.2.2.2.2.2.2.2.2.1,V.2.2.2.2.2.2.2.2.2.2.2.2⟩,HW,HX⟩
  ·rintro b a wy hb hd ⟨z,z13,z14,rfl,HV,HW,HX⟩ K hK
   simp [Region.binds] at hd
   have e7:(z 9) = .pointer (some ⟨P,0,none⟩):=(HV.out.2.2.2.2.2.2.2.1) (by simp [hd])
   clear hd
   obtain ⟨sv',X1,X2,X3,X4,X5,X6⟩:=HX.out
   have cc:wy.cell? ⟨P,0,none⟩=some (.pointer (some ⟨d,0,none⟩)):=by
    rcases Bool.eq_false_or_eq_true (b 15) with e | e
    ·exact (X6 e).2.2.cellAt (i:=0) rfl
    ·exact (X2 e).cellAt (i:=0) rfl
   clear X1 X2 X3 X4 X5 X6
   go_simp
   have V:=HV.out
   exact hK _ _ ⟨fun s=>if s=10 then .pointer (some ⟨d,0,none⟩) else if s=9 then .pointer (some ⟨P,0,none⟩) else z s,_,_,rfl,hid ⟨V.1,V.2.1,V.2.2.1,V.2.2.2.1,V.2.2.2.2.1,V.2.2.2.2.2.1,V.2.2.2.2.2.2.1,fun _=>rfl,fun _=>rfl,V.2.2.2.2.2.2.2.2.2.1,V.2.2.2.2.2.2.2.2.2.2.1,V.2.2.2.2.2.2.2.2.2.2.2.1,V.2.2.2.2.2.2.2.2.2.2.2.2⟩,HW,HX⟩
  ·rintro b a wy hb hd ⟨z,z13,z14,rfl,HV,HW,HX⟩ K hK
   simp [Region.binds] at hd
   have e8:(z 10) = .pointer (some ⟨d,0,none⟩):=(HV.out.2.2.2.2.2.2.2.2.1) (by simp [hd])
   clear hd
   go_simp
   have V:=HV.out
   exact hK _ _ ⟨fun s=>if s=11 then .func (.func 162) #[.pointer (some ⟨d,0,none⟩)] #[] else if s=10 then .pointer (some ⟨d,0,none⟩) else z s,_,_,rfl,hid ⟨V.1,V.2.1,V.2.2.1,V.2.2.2.1,V.2.2.2.2.1,V.2.2.2.2.2.1,V.2.2.2.2.2.2.1,V.2.2.2.2.2.2.2.1,fun _=>rfl,fun _=>rfl,V.2.2.2.2.2.2.2.2.2.2.1,V.2.2.2.2.2.2.2.2.2.2.2.1,V.2.2.2.2.2.2.2.2.2.2.2.2⟩,HW,HX⟩
  ·rintro b a wy hb hd ⟨z,z13,z14,rfl,HV,HW,HX⟩ K hK
   simp [Region.binds] at hd
   have e9:(z 11) = .func (.func 162) #[.pointer (some ⟨d,0,none⟩)] #[]:=(HV.out.2.2.2.2.2.2.2.2.2.1) (by simp [hd])
   clear hd
   go_simp
   have V:=HV.out
   exact hK _ _ ⟨fun s=>if s=12 then .agg #[.func (.func 162) #[.pointer (some ⟨d,0,none⟩)] #[]] else if s=11 then .func (.func 162) #[.pointer (some ⟨d,0,none⟩)] #[] else z s,_,_,rfl,hid ⟨V.1,V.2.1,V.2.2.1,V.2.2.2.1,V.2.2.2.2.1,V.2.2.2.2.2.1,V.2.2.2.2.2.2.1,V.2.2.2.2.2.2.2.1,V.2.2.2.2.2.2.2.2.1,fun _=>rfl,fun _=>rfl,V.2.2.2.2.2.2.2.2.2.2.2.1,V.2.2.2.2.2.2.2.2.2.2.2.2⟩,HW,HX⟩
  ·rintro b a wy hb hd ⟨z,z13,z14,rfl,HV,HW,HX⟩ K hK
   simp [Region.binds] at hd
   have e10:(z 12) = .agg #[.func (.func 162) #[.pointer (some ⟨d,0,none⟩)] #[]]:=(HV.out.2.2.2.2.2.2.2.2.2.2.1) (by simp [hd])
   clear hd
   obtain ⟨sv',X1,X2,X3,X4,X5,X6⟩:=HX.out
   have bA:b 12=false:=by
    rcases Bool.eq_false_or_eq_true (b 12) with e | e
    ·exact absurd (hb.symm.trans (X5 e).1) (by decide)
    ·exact e
   have kz:=(Below.refl wy.heap.size wy).alloc (Nat.le_refl _) (.cells #[.func (.func 162) #[.pointer (some ⟨d,0,none⟩)] #[]] 242)
   have cq:(wy.alloc (.cells #[.func (.func 162) #[.pointer (some ⟨d,0,none⟩)] #[]] 242)).cell? ⟨wy.heap.size,0,none⟩=some (.func (.func 162) #[.pointer (some ⟨d,0,none⟩)] #[]):=(alloc_rowV wy 242 [.func (.func 162) #[.pointer (some ⟨d,0,none⟩)] #[]]).cellAt (i:=0) rfl
   have HC:=hid (And.intro X1 (And.intro X2 (And.intro X3 X6)))
   have HBA:=hid bA
   have HKZ:=hid kz
   have HCQ:=hid cq
   clear X1 X2 X3 X4 X5 X6 bA kz cq HX
   go_simp
   have V:=HV.out
   exact hK _ _ ⟨fun s=>if s=12 then .agg #[.func (.func 162) #[.pointer (some ⟨d,0,none⟩)] #[]] else z s,_,_,rfl,hid ⟨V.1,V.2.1,V.2.2.1,V.2.2.2.1,V.2.2.2.2.1,V.2.2.2.2.2.1,V.2.2.2.2.2.2.1,V.2.2.2.2.2.2.2.1,V.2.2.2.2.2.2.2.2.1,V.2.2.2.2.2.2.2.2.2.1,fun _=>rfl,V.2.2.2.2.2.2.2.2.2.2.2.1,V.2.2.2.2.2.2.2.2.2.2.2.2⟩,hid (HW.out.trans (HKZ.out.mono (Nat.zero_le _))),hid ⟨undef,HC.out.1.trans (Off.of_below _ _ _ HKZ.out (Nat.le_refl _)),fun e=>(HC.out.2.1 e).block (HKZ.out.block _ (HC.out.2.1 e).lt),fun e=>Dsk.own_same (HC.out.2.2.1 e) (fun j hj hl=>HKZ.out.block j hl),fun _ _=>⟨_,rfl,HCQ.out⟩,fun e=>absurd (HBA.out.symm.trans e) (by decide),fun e=>absurd (HBA.out.symm.trans (HC.out.2.2.2 e).2.1) (by decide)⟩⟩
  ·rintro b a wy hb hd ⟨z,z13,z14,rfl,HV,HW,HX⟩ K hK
   simp [Region.binds] at hd
   have e4:(z 6)=sv:=(HV.out.2.2.2.2.1) (by simp [hd])
   have dd11:b 11=true:=by simp [hd]
   clear hd
   obtain ⟨sv',X1,X2,X3,X4,X5,X6⟩:=HX.out
   obtain ⟨q,zz,hq⟩:=X4 dd11 hb
   subst zz
   have bT:b 15=false:=by
    rcases Bool.eq_false_or_eq_true (b 15) with e | e
    ·exact absurd (hb.symm.trans (X6 e).2.1) (by decide)
    ·exact e
   obtain ⟨sv2,w4,hrun,ho4,hk4,hr4⟩:=step_more (X3 hb) hfew (Nat.le_trans hBB (Nat.le_trans (by simp) X1.size)) (.func (.func 162) #[.pointer (some ⟨d,0,none⟩)] #[]) rfl q hq 178
   have H4:=hid (And.intro (X1.trans hk4) (And.intro ho4 (fun _:b 15=false=>hr4 _ _ _ (X2 bT) (by decide))))
   have HBZ:=hid (show Below 0 wy w4 from ⟨hk4.os,hk4.tape,hk4.output,hk4.size,fun k hk=>absurd hk (Nat.not_lt_zero k)⟩)
   have HBT:=hid bT
   clear X1 X2 X3 X4 X5 X6 bT hq ho4 hk4 hr4 HX
   rw [e4]
   refine if_wanted (by rfl) (wp_append_run (.tmp 6) (.tmp 13) 178 rfl _ _ rfl rfl _ w4 hrun ?_)
   have V:=HV.out
   exact hK _ _ ⟨fun s=>if s=6 then sv else z s,_,_,rfl,hid ⟨V.1,V.2.1,V.2.2.1,V.2.2.2.1,fun _=>rfl,V.2.2.2.2.2.1,V.2.2.2.2.2.2.1,V.2.2.2.2.2.2.2.1,V.2.2.2.2.2.2.2.2.1,V.2.2.2.2.2.2.2.2.2.1,V.2.2.2.2.2.2.2.2.2.2.1,V.2.2.2.2.2.2.2.2.2.2.2.1,V.2.2.2.2.2.2.2.2.2.2.2.2⟩,hid (HW.out.trans HBZ.out),hid ⟨sv2,H4.out.1,H4.out.2.2,fun e=>(by cases e),fun _ e=>(by cases e),fun _=>⟨dd11,rfl,H4.out.2.1⟩,fun e=>absurd (HBT.out.symm.trans e) (by decide)⟩⟩
  ·rintro b a wy hb hd ⟨z,z13,z14,rfl,HV,HW,HX⟩ K hK
   simp [Region.binds] at hd
   have e0:(z 2)=Value.pointer (some ⟨P,0,none⟩):=(HV.out.1) (by simp [hd])
   clear hd
   go_simp
   have V:=HV.out
   exact hK _ _ ⟨fun s=>if s=15 then .pointer (some ⟨P,0,none⟩) else if s=2 then Value.pointer (some ⟨P,0,none⟩) else z s,_,_,rfl,hid ⟨fun _=>rfl,V.2.1,V.2.2.1,V.2.2.2.1,V.2.2.2.2.1,V.2.2.2.2.2.1,V.2.2.2.2.2.2.1,V.2.2.2.2.2.2.2.1,V.2.2.2.2.2.2.2.2.1,V.2.2.2.2.2.2.2.2.2.1,V.2.2.2.2.2.2.2.2.2.2.1,fun _=>rfl,V.2.2.2.2.2.2.2.2.2.2.2.2⟩,HW,HX⟩
  ·rintro b a wy hb hd ⟨z,z13,z14,rfl,HV,HW,HX⟩ K hK
   simp [Region.binds] at hd
   have e13:(z 15) = .pointer (some ⟨P,0,none⟩):=(HV.out.2.2.2.2.2.2.2.2.2.2.2.1) (by simp [hd])
   clear hd
   go_simp
   have V:=HV.out
   exact hK _ _ ⟨fun s=>if s=16 then .pointer (some ⟨P,1,none⟩) else if s=15 then .pointer (some ⟨P,0,none⟩) else z s,_,_,rfl,hid ⟨V.1,V.2.1,V.2.2.1,V.2.2.2.1,V.2.2.2.2.1,V.2.2.2.2.2.1,V.2.2.2.2.2.2.1,V.2.2.2.2.2.2.2.1,V.2.2.2.2.2.2.2.2.1,V.2.2.2.2.2.2.2.2.2.1,V.2.2.2.2.2.2.2.2.2.2.1,fun _=>rfl,fun _=>rfl⟩,HW,HX⟩
  ·rintro b a wy hb hd ⟨z,z13,z14,rfl,HV,HW,HX⟩ K hK
   simp [Region.binds] at hd
   have e14:(z 16) = .pointer (some ⟨P,1,none⟩):=(HV.out.2.2.2.2.2.2.2.2.2.2.2.2) (by simp [hd])
   have dd12:b 12=true:=by simp [hd]
   have dd_load:b 4=true:=by simp [hd]
   clear hd
   obtain ⟨sv',X1,X2,X3,X4,X5,X6⟩:=HX.out
   obtain ⟨d8,zz,ho⟩:=X5 dd12
   subst zz
   obtain ⟨g6,cap6,hz,_,_⟩:=ho.form (by omega)
   subst hz
   have RP:=X2 hb
   have cc:=RP.cellAt (i:=1) rfl
   have ff:=RP.free 1
   have H4:=hid (RP.set 1 (.slice (some ⟨g6,0,none⟩) (l.length+1) cap6))
   have HO4:=hid (Dsk.own_same ho (fun j hj hl=>heap_setCell_other wy ⟨P,1,none⟩ j (.slice (some ⟨g6,0,none⟩) (l.length+1) cap6) (fun e=>ne_own ho RP (by decide) (by rw [hj,e]))))
   have HX1:=hid (X1.trans (show Off plT (fun k=>k<B) [] wy (wy.setCell ⟨P,1,none⟩ (.slice (some ⟨g6,0,none⟩) (l.length+1) cap6)) from ⟨rfl,rfl,rfl,by simp,fun k hk _ hc=>heap_setCell_other _ _ _ _ (fun e=>by
     subst e
     rcases hc with hc | hc
     ·exact absurd hBP (Nat.not_le.2 hc)
     ·have:=hc _ _ _ RP
      cases this)⟩))
   have HBZ:=hid (show Below 0 wy (wy.setCell ⟨P,1,none⟩ (.slice (some ⟨g6,0,none⟩) (l.length+1) cap6)) from ⟨rfl,rfl,rfl,by simp,fun k hk=>absurd hk (Nat.not_lt_zero k)⟩)
   have HD8:=hid d8
   have HD4:=hid dd_load
   clear X1 X2 X3 X4 X5 X6 ho RP d8 HX
   go_simp
   have V:=HV.out
   exact hK _ _ ⟨fun s=>if s=16 then .pointer (some ⟨P,1,none⟩) else z s,_,_,rfl,hid ⟨V.1,V.2.1,V.2.2.1,V.2.2.2.1,V.2.2.2.2.1,V.2.2.2.2.2.1,V.2.2.2.2.2.2.1,V.2.2.2.2.2.2.2.1,V.2.2.2.2.2.2.2.2.1,V.2.2.2.2.2.2.2.2.2.1,V.2.2.2.2.2.2.2.2.2.2.1,V.2.2.2.2.2.2.2.2.2.2.2.1,fun _=>rfl⟩,hid (HW.out.trans HBZ.out),hid ⟨_,HX1.out,fun e=>(by cases e),fun e=>absurd (dd12.symm.trans e) (by decide),fun _ e=>absurd (dd12.symm.trans e) (by decide),fun _=>⟨HD8.out,rfl,HO4.out⟩,fun _=>⟨HD4.out,dd12,H4.out⟩⟩⟩
 case doneS =>
  rintro b a w9 hb ⟨z,z13,z14,rfl,HV,HW,HX⟩
  have e0:=(HV.out.1) (hb 0)
  have e1:=(HV.out.2.1) (hb 1)
  have e2:=(HV.out.2.2.1) (hb 2)
  have e3:=(HV.out.2.2.2.1) (hb 3)
  have e4:=(HV.out.2.2.2.2.1) (hb 4)
  have e5:=(HV.out.2.2.2.2.2.1) (hb 5)
  have e6:=(HV.out.2.2.2.2.2.2.1) (hb 6)
  have e7:=(HV.out.2.2.2.2.2.2.2.1) (hb 7)
  have e8:=(HV.out.2.2.2.2.2.2.2.2.1) (hb 8)
  have e9:=(HV.out.2.2.2.2.2.2.2.2.2.1) (hb 9)
  have e10:=(HV.out.2.2.2.2.2.2.2.2.2.2.1) (hb 10)
  have e13:=(HV.out.2.2.2.2.2.2.2.2.2.2.2.1) (hb 13)
  have e14:=(HV.out.2.2.2.2.2.2.2.2.2.2.2.2) (hb 14)
  simp only [e0,e1,e2,e3,e4,e5,e6,e7,e8,e9,e10,e13,e14]
  clear HV e0 e1 e2 e3 e4 e5 e6 e7 e8 e9 e10 e13 e14
  obtain ⟨sv',X1,_,_,_,X5,X6⟩:=HX.out
  obtain ⟨_,zz,HO9⟩:=X5 (hb 12)
  subst zz
  have H9:=hid (And.intro X1 (And.intro HO9 (X6 (hb 15)).2.2))
  clear HX HW hb X1 X5 X6 HO9
  go_wp2_with fail
  go_end0
  refine ⟨rfl,⟨_,_,H9.out.2.2,hBP,by rw [List.length_append]; exact H9.out.2.1,fun i hi => ?_⟩,H9.out.1⟩
  exact stp_snoc (s := .f) (v := .func (.func 162) #[.pointer (some ⟨d,0,none⟩)] #[]) HS.out H9.out.1 (HO0.out.1.trans (Nat.mul_one _)) rfl i hi
set_option maxHeartbeats 2000000 in
theorem pwrite {w:World} {B P d:Nat} {l:List Stp} (h:Pln w B P d l) (hBB:B≤w.heap.size) (hfew:l.length<100000) (p g c:Nat) (bs:List UInt8) (hl:bs.length=128) (hb:Byt w g bs) :
  Calls Tryz.prog 111 #[.pointer (some ⟨P,0,none⟩),.int .i64 (p:Int),.slice (some ⟨g,0,none⟩) 128 c] w fun e w'=>e = .returned (.tuple #[])∧Pln w' B P d (l ++ [.w p bs])∧Off plT (fun k=>k<B) [] w w':=by
 have HH:=hid h
 have HBY:=hid hb
 obtain ⟨b3,hb3⟩ : ∃b,b=w.heap.size:=⟨_,rfl⟩
 have RA:=alloc_rowV w 165 [.pointer (some ⟨P,0,none⟩)]
 have BA:=(Below.refl w.heap.size w).alloc (Nat.le_refl _) (.cells #[.pointer (some ⟨P,0,none⟩)] 165)
 have SA:(w.alloc (.cells #[.pointer (some ⟨P,0,none⟩)] 165)).heap.size=b3+1:=by rw [hb3]; simp
 have RB:=alloc_rowV (w.alloc (.cells #[.pointer (some ⟨P,0,none⟩)] 165)) 3 [.int .i64 (p:Int)]
 have BB:=(Below.refl (w.alloc (.cells #[.pointer (some ⟨P,0,none⟩)] 165)).heap.size _).alloc (Nat.le_refl _) (.cells #[.int .i64 (p:Int)] 3)
 have SB:((w.alloc (.cells #[.pointer (some ⟨P,0,none⟩)] 165)).alloc (.cells #[.int .i64 (p:Int)] 3)).heap.size=b3+1+1:=by rw [hb3]; simp
 have RC:=alloc_rowV ((w.alloc (.cells #[.pointer (some ⟨P,0,none⟩)] 165)).alloc (.cells #[.int .i64 (p:Int)] 3)) 45 [.slice (some ⟨g,0,none⟩) 128 c]
 have BC:=(Below.refl ((w.alloc (.cells #[.pointer (some ⟨P,0,none⟩)] 165)).alloc (.cells #[.int .i64 (p:Int)] 3)).heap.size _).alloc (Nat.le_refl _) (.cells #[.slice (some ⟨g,0,none⟩) 128 c] 45)
 go_enter Tryz.func111,Tryz.ntmps111
 go_upto_region 1 with (fail)
 rw [← hb3] at RA BA ⊢
 rw [SA] at RB BB
 rw [SB] at RC BC
 have R3:=(RA.below (by omega) (BB.trans (BC.mono (by omega)))) 
 have R4:=(RB.below (by omega) BC)
 have BW:=hid (show Below w.heap.size w (((w.alloc (.cells #[.pointer (some ⟨P,0,none⟩)] 165)).alloc (.cells #[.int .i64 (p:Int)] 3)).alloc (.cells #[.slice (some ⟨g,0,none⟩) 128 c] 45)) from by rw [← hb3]; exact BA.trans ((BB.mono (by omega)).trans (BC.mono (by omega))))
 have H3:=hid R3
 have H4:=hid R4
 have H5:=hid RC
 clear RA RB RC BA BB BC SA SB R3 R4
 simp only [List.toArray] at *
 generalize ((w.alloc (.cells #[.pointer (some ⟨P,0,none⟩)] 165)).alloc (.cells #[.int .i64 (p:Int)] 3)).alloc (.cells #[.slice (some ⟨g,0,none⟩) 128 c] 45)=w1 at *
 obtain ⟨b4,hb4⟩ : ∃b,b=b3+1:=⟨_,rfl⟩
 obtain ⟨b5,hb5⟩ : ∃b,b=b3+1+1:=⟨_,rfl⟩
 rw [← hb5] at H5 ⊢
 rw [← hb4] at H4 ⊢
 clear hb3 hb4 hb5
 obtain ⟨sv,vs,hr,hBP,ho,hs⟩:=h.below BW.out
 have HP0:=hid (show RowV w1.drew P 180 [.pointer (some ⟨d,0,none⟩),sv] from hr)
 have HO0:=hid (show w1.drew.ownsRow B 242 1 sv l.length vs from ho)
 have HS:=hid hs
 replace hBB:B≤w1.heap.size:=Nat.le_trans hBB BW.out.size
 clear hr ho hs
 refine Inv2.wp_region_inv (fun b a wy => ∃(z:Nat→Value) (z13:Value) (z14:Value),a=⟨#[Value.pointer (some ⟨P,0,none⟩),Value.int IntKind.i64 ↑p,Value.slice (some ⟨g,0,none⟩) 128 c,Value.pointer (some ⟨b3,0,none⟩),Value.pointer (some ⟨b4,0,none⟩),Value.pointer (some ⟨b5,0,none⟩),(z 6),(z 7),(z 8),(z 9),(z 10),(z 11),(z 12),z13,z14,(z 15),(z 16)],[]⟩∧Hid ((b 0=true→(z 6) = .pointer (some ⟨P,0,none⟩))∧(b 1=true→(z 7) = .pointer (some ⟨P,0,none⟩))∧(b 2=true→(z 8) = .pointer (some ⟨P,0,none⟩))∧(b 3=true→(z 9) = .pointer (some ⟨P,1,none⟩))∧(b 4=true→(z 10)=sv)∧(b 5=true→(z 11) = .func (.func 161) #[] #[.pointer (some ⟨b3,0,none⟩),.pointer (some ⟨b4,0,none⟩),.pointer (some ⟨b5,0,none⟩)])∧(b 6=true→(z 12) = .agg #[.func (.func 161) #[] #[.pointer (some ⟨b3,0,none⟩),.pointer (some ⟨b4,0,none⟩),.pointer (some ⟨b5,0,none⟩)]])∧(b 9=true→(z 15) = .pointer (some ⟨P,0,none⟩))∧(b 10=true→(z 16) = .pointer (some ⟨P,1,none⟩)))∧Hid (Below 0 w1 wy)∧Hid (∃sv':Value,Off plT (fun k=>k<B) [] w1 wy∧(b 11=false→RowV wy P 180 [.pointer (some ⟨d,0,none⟩),sv])∧(b 8=false→wy.ownsRow B 242 1 sv l.length vs)∧(b 7=true→b 8=false → ∃q,z13 = .slice (some ⟨q,0,none⟩) 1 1∧wy.cell? ⟨q,0,none⟩=some (.func (.func 161) #[] #[.pointer (some ⟨b3,0,none⟩),.pointer (some ⟨b4,0,none⟩),.pointer (some ⟨b5,0,none⟩)]))∧(b 8=true→b 7=true∧z14=sv'∧wy.ownsRow B 242 1 sv' (l.length+1) (vs ++ [.func (.func 161) #[] #[.pointer (some ⟨b3,0,none⟩),.pointer (some ⟨b4,0,none⟩),.pointer (some ⟨b5,0,none⟩)]]))∧(b 11=true→b 4=true∧b 8=true∧RowV wy P 180 [.pointer (some ⟨d,0,none⟩),sv']))) (by kernel_rfl) (by kernel_rfl) ?startS ?stepsS ?doneS
 case startS =>
  intro b hb
  refine ⟨fun s=>undef,undef,undef,rfl,hid ⟨?_,?_,?_,?_,?_,?_,?_,?_,?_⟩,hid ((show Still w1 w1.drew from ⟨rfl,rfl,rfl,rfl⟩).below _),hid (⟨undef,(Off.refl _ _ _ _).trans (Off.of_below _ _ _ ((show Still w1 w1.drew from ⟨rfl,rfl,rfl,rfl⟩).below _) (Nat.le_refl _)),fun _=>HP0.out,fun _=>HO0.out,fun e=>absurd (e.symm.trans (hb 7 (by decide))) (by decide),fun e=>absurd (e.symm.trans (hb 8 (by decide))) (by decide),fun e=>absurd (e.symm.trans (hb 11 (by decide))) (by decide)⟩)⟩
  all_goals (intro e; first | rfl | (rw [hb _ (by decide)] at e; cases e))
 case stepsS =>
  refine ⟨?_,?_,?_,?_,?_,?_,?_,?_,?_,?_,?_,?_,trivial⟩
  ·rintro b a wy hb hd ⟨z,z13,z14,rfl,HV,HW,HX⟩ K hK
   clear hd
   obtain ⟨sv',X1,X2,X3,X4,X5,X6⟩:=HX.out
   have cc:wy.cell? ⟨b3,0,none⟩=some (Value.pointer (some ⟨P,0,none⟩)):=(X1.rowV H3.out (by simp) rfl).cellAt (i:=0) rfl
   clear X1 X2 X3 X4 X5 X6
   go_simp
   have V:=HV.out
   exact hK _ _ ⟨fun s=>if s=6 then .pointer (some ⟨P,0,none⟩) else z s,_,_,rfl,hid ⟨fun _=>rfl,V.2.1,V.2.2.1,V.2.2.2.1,V.2.2.2.2.1,V.2.2.2.2.2.1,V.2.2.2.2.2.2.1,V.2.2.2.2.2.2.2.1,V.2.2.2.2.2.2.2.2⟩,HW,HX⟩
  ·rintro b a wy hb hd ⟨z,z13,z14,rfl,HV,HW,HX⟩ K hK
   clear hd
   obtain ⟨sv',X1,X2,X3,X4,X5,X6⟩:=HX.out
   have cc:wy.cell? ⟨b3,0,none⟩=some (Value.pointer (some ⟨P,0,none⟩)):=(X1.rowV H3.out (by simp) rfl).cellAt (i:=0) rfl
   clear X1 X2 X3 X4 X5 X6
   go_simp
   have V:=HV.out
   exact hK _ _ ⟨fun s=>if s=7 then .pointer (some ⟨P,0,none⟩) else z s,_,_,rfl,hid ⟨V.1,fun _=>rfl,V.2.2.1,V.2.2.2.1,V.2.2.2.2.1,V.2.2.2.2.2.1,V.2.2.2.2.2.2.1,V.2.2.2.2.2.2.2.1,V.2.2.2.2.2.2.2.2⟩,HW,HX⟩
  ·rintro b a wy hb hd ⟨z,z13,z14,rfl,HV,HW,HX⟩ K hK
   simp [Region.binds] at hd
   have e1:(z 7) = .pointer (some ⟨P,0,none⟩):=(HV.out.2.1) (by simp [hd])
   clear hd
   go_simp
   have V:=HV.out
   exact hK _ _ ⟨fun s=>if s=8 then .pointer (some ⟨P,0,none⟩) else if s=7 then .pointer (some ⟨P,0,none⟩) else z s,_,_,rfl,hid ⟨V.1,fun _=>rfl,fun _=>rfl,V.2.2.2.1,V.2.2.2.2.1,V.2.2.2.2.2.1,V.2.2.2.2.2.2.1,V.2.2.2.2.2.2.2.1,V.2.2.2.2.2.2.2.2⟩,HW,HX⟩
  ·rintro b a wy hb hd ⟨z,z13,z14,rfl,HV,HW,HX⟩ K hK
   simp [Region.binds] at hd
   have e2:(z 8) = .pointer (some ⟨P,0,none⟩):=(HV.out.2.2.1) (by simp [hd])
   clear hd
   go_simp
   have V:=HV.out
   exact hK _ _ ⟨fun s=>if s=9 then .pointer (some ⟨P,1,none⟩) else if s=8 then .pointer (some ⟨P,0,none⟩) else z s,_,_,rfl,hid ⟨V.1,V.2.1,fun _=>rfl,fun _=>rfl,V.2.2.2.2.1,V.2.2.2.2.2.1,V.2.2.2.2.2.2.1,V.2.2.2.2.2.2.2.1,V.2.2.2.2.2.2.2.2⟩,HW,HX⟩
  ·rintro b a wy hb hd ⟨z,z13,z14,rfl,HV,HW,HX⟩ K hK
   simp [Region.binds] at hd
   have e3:(z 9) = .pointer (some ⟨P,1,none⟩):=(HV.out.2.2.2.1) (by simp [hd])
   clear hd
   obtain ⟨sv',X1,X2,X3,X4,X5,X6⟩:=HX.out
   have bT:b 11=false:=by
    rcases Bool.eq_false_or_eq_true (b 11) with e | e
    ·exact absurd (hb.symm.trans (X6 e).1) (by decide)
    ·exact e
   have cc:=(X2 bT).cellAt (i:=1) rfl
   have HC:=hid (And.intro X1 (And.intro X2 (And.intro X3 (And.intro X4 (And.intro X5 X6)))))
   clear X1 X2 X3 X4 X5 X6 bT HX
   go_simp
   have V:=HV.out
   exact hK _ _ ⟨fun s=>if s=10 then sv else if s=9 then .pointer (some ⟨P,1,none⟩) else z s,_,_,rfl,hid ⟨V.1,V.2.1,V.2.2.1,fun _=>rfl,fun _=>rfl,V.2.2.2.2.2.1,V.2.2.2.2.2.2.1,V.2.2.2.2.2.2.2.1,V.2.2.2.2.2.2.2.2⟩,HW,hid ⟨sv',HC.out.1,HC.out.2.1,HC.out.2.2.1,HC.out.2.2.2.1,HC.out.2.2.2.2.1,fun e=>⟨rfl,(HC.out.2.2.2.2.2 e).2⟩⟩⟩
  ·rintro b a wy hb hd ⟨z,z13,z14,rfl,HV,HW,HX⟩ K hK
   clear hd
   go_simp
   have V:=HV.out
   exact hK _ _ ⟨fun s=>if s=11 then .func (.func 161) #[] #[.pointer (some ⟨b3,0,none⟩),.pointer (some ⟨b4,0,none⟩),.pointer (some ⟨b5,0,none⟩)] else z s,_,_,rfl,hid ⟨V.1,V.2.1,V.2.2.1,V.2.2.2.1,V.2.2.2.2.1,fun _=>rfl,V.2.2.2.2.2.2.1,V.2.2.2.2.2.2.2.1,V.2.2.2.2.2.2.2.2⟩,HW,HX⟩
  ·rintro b a wy hb hd ⟨z,z13,z14,rfl,HV,HW,HX⟩ K hK
   simp [Region.binds] at hd
   have e5:(z 11) = .func (.func 161) #[] #[.pointer (some ⟨b3,0,none⟩),.pointer (some ⟨b4,0,none⟩),.pointer (some ⟨b5,0,none⟩)]:=(HV.out.2.2.2.2.2.1) (by simp [hd])
   clear hd
   go_simp
   have V:=HV.out
   exact hK _ _ ⟨fun s=>if s=12 then .agg #[.func (.func 161) #[] #[.pointer (some ⟨b3,0,none⟩),.pointer (some ⟨b4,0,none⟩),.pointer (some ⟨b5,0,none⟩)]] else if s=11 then .func (.func 161) #[] #[.pointer (some ⟨b3,0,none⟩),.pointer (some ⟨b4,0,none⟩),.pointer (some ⟨b5,0,none⟩)] else z s,_,_,rfl,hid ⟨V.1,V.2.1,V.2.2.1,V.2.2.2.1,V.2.2.2.2.1,fun _=>rfl,fun _=>rfl,V.2.2.2.2.2.2.2.1,V.2.2.2.2.2.2.2.2⟩,HW,HX⟩
  ·rintro b a wy hb hd ⟨z,z13,z14,rfl,HV,HW,HX⟩ K hK
   simp [Region.binds] at hd
   have e6:(z 12) = .agg #[.func (.func 161) #[] #[.pointer (some ⟨b3,0,none⟩),.pointer (some ⟨b4,0,none⟩),.pointer (some ⟨b5,0,none⟩)]]:=(HV.out.2.2.2.2.2.2.1) (by simp [hd])
   clear hd
   obtain ⟨sv',X1,X2,X3,X4,X5,X6⟩:=HX.out
   have bA:b 8=false:=by
    rcases Bool.eq_false_or_eq_true (b 8) with e | e
    ·exact absurd (hb.symm.trans (X5 e).1) (by decide)
    ·exact e
   have kz:=(Below.refl wy.heap.size wy).alloc (Nat.le_refl _) (.cells #[.func (.func 161) #[] #[.pointer (some ⟨b3,0,none⟩),.pointer (some ⟨b4,0,none⟩),.pointer (some ⟨b5,0,none⟩)]] 242)
   have cq:(wy.alloc (.cells #[.func (.func 161) #[] #[.pointer (some ⟨b3,0,none⟩),.pointer (some ⟨b4,0,none⟩),.pointer (some ⟨b5,0,none⟩)]] 242)).cell? ⟨wy.heap.size,0,none⟩=some (.func (.func 161) #[] #[.pointer (some ⟨b3,0,none⟩),.pointer (some ⟨b4,0,none⟩),.pointer (some ⟨b5,0,none⟩)]):=(alloc_rowV wy 242 [.func (.func 161) #[] #[.pointer (some ⟨b3,0,none⟩),.pointer (some ⟨b4,0,none⟩),.pointer (some ⟨b5,0,none⟩)]]).cellAt (i:=0) rfl
   have HC:=hid (And.intro X1 (And.intro X2 (And.intro X3 X6)))
   have HBA:=hid bA
   have HKZ:=hid kz
   have HCQ:=hid cq
   clear X1 X2 X3 X4 X5 X6 bA kz cq HX
   go_simp
   have V:=HV.out
   exact hK _ _ ⟨fun s=>if s=12 then .agg #[.func (.func 161) #[] #[.pointer (some ⟨b3,0,none⟩),.pointer (some ⟨b4,0,none⟩),.pointer (some ⟨b5,0,none⟩)]] else z s,_,_,rfl,hid ⟨V.1,V.2.1,V.2.2.1,V.2.2.2.1,V.2.2.2.2.1,V.2.2.2.2.2.1,fun _=>rfl,V.2.2.2.2.2.2.2.1,V.2.2.2.2.2.2.2.2⟩,hid (HW.out.trans (HKZ.out.mono (Nat.zero_le _))),hid ⟨undef,HC.out.1.trans (Off.of_below _ _ _ HKZ.out (Nat.le_refl _)),fun e=>(HC.out.2.1 e).block (HKZ.out.block _ (HC.out.2.1 e).lt),fun e=>Dsk.own_same (HC.out.2.2.1 e) (fun j hj hl=>HKZ.out.block j hl),fun _ _=>⟨_,rfl,HCQ.out⟩,fun e=>absurd (HBA.out.symm.trans e) (by decide),fun e=>absurd (HBA.out.symm.trans (HC.out.2.2.2 e).2.1) (by decide)⟩⟩
  ·rintro b a wy hb hd ⟨z,z13,z14,rfl,HV,HW,HX⟩ K hK
   simp [Region.binds] at hd
   have e4:(z 10)=sv:=(HV.out.2.2.2.2.1) (by simp [hd])
   have dd7:b 7=true:=by simp [hd]
   clear hd
   obtain ⟨sv',X1,X2,X3,X4,X5,X6⟩:=HX.out
   obtain ⟨q,zz,hq⟩:=X4 dd7 hb
   subst zz
   have bT:b 11=false:=by
    rcases Bool.eq_false_or_eq_true (b 11) with e | e
    ·exact absurd (hb.symm.trans (X6 e).2.1) (by decide)
    ·exact e
   obtain ⟨sv2,w4,hrun,ho4,hk4,hr4⟩:=step_more (X3 hb) hfew (Nat.le_trans hBB (Nat.le_trans (by simp) X1.size)) (.func (.func 161) #[] #[.pointer (some ⟨b3,0,none⟩),.pointer (some ⟨b4,0,none⟩),.pointer (some ⟨b5,0,none⟩)]) rfl q hq 178
   have H4:=hid (And.intro (X1.trans hk4) (And.intro ho4 (fun _:b 11=false=>hr4 _ _ _ (X2 bT) (by decide))))
   have HBZ:=hid (show Below 0 wy w4 from ⟨hk4.os,hk4.tape,hk4.output,hk4.size,fun k hk=>absurd hk (Nat.not_lt_zero k)⟩)
   have HBT:=hid bT
   clear X1 X2 X3 X4 X5 X6 bT hq ho4 hk4 hr4 HX
   rw [e4]
   refine if_wanted (by rfl) (wp_append_run (.tmp 10) (.tmp 13) 178 rfl _ _ rfl rfl _ w4 hrun ?_)
   have V:=HV.out
   exact hK _ _ ⟨fun s=>if s=10 then sv else z s,_,_,rfl,hid ⟨V.1,V.2.1,V.2.2.1,V.2.2.2.1,fun _=>rfl,V.2.2.2.2.2.1,V.2.2.2.2.2.2.1,V.2.2.2.2.2.2.2.1,V.2.2.2.2.2.2.2.2⟩,hid (HW.out.trans HBZ.out),hid ⟨sv2,H4.out.1,H4.out.2.2,fun e=>(by cases e),fun _ e=>(by cases e),fun _=>⟨dd7,rfl,H4.out.2.1⟩,fun e=>absurd (HBT.out.symm.trans e) (by decide)⟩⟩
  ·rintro b a wy hb hd ⟨z,z13,z14,rfl,HV,HW,HX⟩ K hK
   simp [Region.binds] at hd
   have e0:(z 6) = .pointer (some ⟨P,0,none⟩):=(HV.out.1) (by simp [hd])
   clear hd
   go_simp
   have V:=HV.out
   exact hK _ _ ⟨fun s=>if s=15 then .pointer (some ⟨P,0,none⟩) else if s=6 then .pointer (some ⟨P,0,none⟩) else z s,_,_,rfl,hid ⟨fun _=>rfl,V.2.1,V.2.2.1,V.2.2.2.1,V.2.2.2.2.1,V.2.2.2.2.2.1,V.2.2.2.2.2.2.1,fun _=>rfl,V.2.2.2.2.2.2.2.2⟩,HW,HX⟩
  ·rintro b a wy hb hd ⟨z,z13,z14,rfl,HV,HW,HX⟩ K hK
   simp [Region.binds] at hd
   have e9:(z 15) = .pointer (some ⟨P,0,none⟩):=(HV.out.2.2.2.2.2.2.2.1) (by simp [hd])
   clear hd
   go_simp
   have V:=HV.out
   exact hK _ _ ⟨fun s=>if s=16 then .pointer (some ⟨P,1,none⟩) else if s=15 then .pointer (some ⟨P,0,none⟩) else z s,_,_,rfl,hid ⟨V.1,V.2.1,V.2.2.1,V.2.2.2.1,V.2.2.2.2.1,V.2.2.2.2.2.1,V.2.2.2.2.2.2.1,fun _=>rfl,fun _=>rfl⟩,HW,HX⟩
  ·rintro b a wy hb hd ⟨z,z13,z14,rfl,HV,HW,HX⟩ K hK
   simp [Region.binds] at hd
   have e10:(z 16) = .pointer (some ⟨P,1,none⟩):=(HV.out.2.2.2.2.2.2.2.2) (by simp [hd])
   have dd8:b 8=true:=by simp [hd]
   have dd_load:b 4=true:=by simp [hd]
   clear hd
   obtain ⟨sv',X1,X2,X3,X4,X5,X6⟩:=HX.out
   obtain ⟨d8,zz,ho⟩:=X5 dd8
   subst zz
   obtain ⟨g6,cap6,hz,_,_⟩:=ho.form (by omega)
   subst hz
   have RP:=X2 hb
   have cc:=RP.cellAt (i:=1) rfl
   have ff:=RP.free 1
   have H4:=hid (RP.set 1 (.slice (some ⟨g6,0,none⟩) (l.length+1) cap6))
   have HO4:=hid (Dsk.own_same ho (fun j hj hl=>heap_setCell_other wy ⟨P,1,none⟩ j (.slice (some ⟨g6,0,none⟩) (l.length+1) cap6) (fun e=>ne_own ho RP (by decide) (by rw [hj,e]))))
   have HX1:=hid (X1.trans (show Off plT (fun k=>k<B) [] wy (wy.setCell ⟨P,1,none⟩ (.slice (some ⟨g6,0,none⟩) (l.length+1) cap6)) from ⟨rfl,rfl,rfl,by simp,fun k hk _ hc=>heap_setCell_other _ _ _ _ (fun e=>by
     subst e
     rcases hc with hc | hc
     ·exact absurd hBP (Nat.not_le.2 hc)
     ·have:=hc _ _ _ RP
      cases this)⟩))
   have HBZ:=hid (show Below 0 wy (wy.setCell ⟨P,1,none⟩ (.slice (some ⟨g6,0,none⟩) (l.length+1) cap6)) from ⟨rfl,rfl,rfl,by simp,fun k hk=>absurd hk (Nat.not_lt_zero k)⟩)
   have HD8:=hid d8
   have HD4:=hid dd_load
   clear X1 X2 X3 X4 X5 X6 ho RP d8 HX
   go_simp
   have V:=HV.out
   exact hK _ _ ⟨fun s=>if s=16 then .pointer (some ⟨P,1,none⟩) else z s,_,_,rfl,hid ⟨V.1,V.2.1,V.2.2.1,V.2.2.2.1,V.2.2.2.2.1,V.2.2.2.2.2.1,V.2.2.2.2.2.2.1,V.2.2.2.2.2.2.2.1,fun _=>rfl⟩,hid (HW.out.trans HBZ.out),hid ⟨_,HX1.out,fun e=>(by cases e),fun e=>absurd (dd8.symm.trans e) (by decide),fun _ e=>absurd (dd8.symm.trans e) (by decide),fun _=>⟨HD8.out,rfl,HO4.out⟩,fun _=>⟨HD4.out,dd8,H4.out⟩⟩⟩
 case doneS =>
  rintro b a w9 hb ⟨z,z13,z14,rfl,HV,HW,HX⟩
  have e0:=(HV.out.1) (hb 0)
  have e1:=(HV.out.2.1) (hb 1)
  have e2:=(HV.out.2.2.1) (hb 2)
  have e3:=(HV.out.2.2.2.1) (hb 3)
  have e4:=(HV.out.2.2.2.2.1) (hb 4)
  have e5:=(HV.out.2.2.2.2.2.1) (hb 5)
  have e6:=(HV.out.2.2.2.2.2.2.1) (hb 6)
  have e9:=(HV.out.2.2.2.2.2.2.2.1) (hb 9)
  have e10:=(HV.out.2.2.2.2.2.2.2.2) (hb 10)
  simp only [e0,e1,e2,e3,e4,e5,e6,e9,e10]
  clear HV e0 e1 e2 e3 e4 e5 e6 e9 e10
  obtain ⟨sv',X1,_,_,_,X5,X6⟩:=HX.out
  obtain ⟨_,zz,HO9⟩:=X5 (hb 8)
  subst zz
  have H9:=hid (And.intro X1 (And.intro HO9 (X6 (hb 11)).2.2))
  clear HX HW hb X1 X5 X6 HO9
  go_wp2_with fail
  go_end0
  refine ⟨rfl,⟨_,_,H9.out.2.2,hBP,by rw [List.length_append]; exact H9.out.2.1,fun i hi => ?_⟩,(Off.of_below _ _ _ BW.out (Nat.le_refl _)).trans H9.out.1⟩
  refine stp_snoc (s := .w p bs) (v := .func (.func 161) #[] #[.pointer (some ⟨b3,0,none⟩),.pointer (some ⟨b4,0,none⟩),.pointer (some ⟨b5,0,none⟩)]) HS.out H9.out.1 (HO0.out.1.trans (Nat.mul_one _)) ⟨b3,b4,b5,g,c,rfl,H9.out.1.rowV H3.out (by simp) rfl,H9.out.1.rowV H4.out (by simp) rfl,H9.out.1.rowV H5.out (by simp) rfl,?_,hl⟩ i hi
  exact (HBY.out.below HBY.out.lt BW.out).off H9.out.1 (by simp) rfl
end Go.Proofs.YtogchamogbendaaGreat.Bs
namespace Go.Proofs.YtogchamogbendaaGreat.Bs
open Lib (hid)
open Go.RowKit Oct Mv Tl Pk Pl Go.Maps Go.ChangeMaps
open Dsk (dT)
open Su (Sup nth scells)
open Ix (idxPage idxBody wvals Wd)
theorem seal_byt {w w':World} {g cap:Nat} {bs:List UInt8} (h:Fresh w w' g bs cap):Byt w' g bs:=⟨h.has,h.typ⟩
def More (w:World) (B P d:Nat) (l m:List Stp) (e:Ending) (w':World):Prop:=e = .returned (.tuple #[])∧Pln w' B P d (l++m)∧Off plT (fun k=>k<B) [] w w'
section
variable {w:World} {B P d:Nat} {l:List Stp}
theorem prow (h:Pln w B P d l) (hBB:B≤w.heap.size) (hfew:l.length<100000) (k:UInt8) (hk:k=4∨k=5) (p:Nat) {Ad:Option Addr} {n c:Nat} {ns:List UInt16} (hw:Wd w Ad n c ns) (hn:n≤61) :
  Calls Tryz.prog 163 #[.pointer (some ⟨P,0,none⟩),.int .u8 (k.toNat:Int),.int .i64 (p:Int),.slice Ad n c] w (More w B P d l [.w p (idxPage k ns)]):=by
 have H:=hid h
 have hf:Ix.Fit k ns:=⟨hk,by rw [hw.el]; exact hn⟩
 have HE:=hid (Ix.encode_yes k hw hf)
 have HL:=hid (Ix.length_idxPage k ns (by rw [hw.el]; exact hn))
 clear h hw hf
 go_enter Tryz.func163,Tryz.ntmps163
 go_wp2_with fail
 refine HE.out.mono ?_
 rintro e w1 ⟨g,rfl,F⟩
 have HF:=hid F
 clear F
 go_wp2_with fail
 refine (pwrite (H.out.below HF.out.below) (Nat.le_trans hBB HF.out.below.size) hfew p g 128 (idxPage k ns) HL.out (seal_byt HF.out)).mono ?_
 rintro e w2 ⟨rfl,hp,ho⟩
 have HP:=hid hp
 have HO:=hid ho
 clear hp ho
 dsimp only
 go_wp2_with fail
 go_end0
 exact ⟨rfl,HP.out,(Off.of_below _ _ _ HF.out.below (Nat.le_refl _)).trans HO.out⟩
theorem slot_any (n:Nat) (w:World) (hn:n<18446744073709551616) :
  Calls Tryz.prog 168 #[.int .u64 (n:Int)] w fun e w'=>e = .returned (.int .i64 ((n % 2:Nat):Int))∧w=w':=by
 have hn0:(0:Int)≤(n:Int):=by omega
 go_enter Tryz.func168,Tryz.ntmps168
 go_wp2_with fail
 go_ret
 exact ⟨by first | rfl | (congr 2; omega),rfl⟩
def finSteps (s:Sup):List Stp := [.f,.w (nth s 0 % 2) (Su.supPage s),.f]
set_option maxHeartbeats 1000000 in
theorem pfinish (h:Pln w B P d l) (hBB:B≤w.heap.size) (hfew:l.length<99000) (s:Sup) (hs:Su.Ok s) (hf:Su.Fit s) :
  Calls Tryz.prog 114 #[.pointer (some ⟨P,0,none⟩),Su.sval s] w (More w B P d l (finSteps s)):=by
 have H:=hid h
 have HS:=hid hs
 have hb:=(Below.refl w.heap.size w).alloc (Nat.le_refl _) (.cells (scells s).toArray 69)
 have hr:=alloc_rowV w 69 (scells s)
 have HE:=hid (fun w'=>Su.encode_yes s hs w' hf)
 unfold Su.sval at HE ⊢
 have HLP:=hid (Su.length_supPage s)
 have hg:=hs.lt 0
 clear h hs hf
 go_enter Tryz.func114,Tryz.ntmps114
 go_upto_region 1 with (fail)
 obtain ⟨g0,hg0⟩ : ∃g,g=w.heap.size:=⟨_,rfl⟩
 have hgl:g0<(w.alloc (.cells (scells s).toArray 69)).heap.size:=by rw [hg0]; simp
 rw [← hg0] at hr hb ⊢
 have HB0:=hid (show Below w.heap.size w (w.alloc (.cells (scells s).toArray 69)) from by rw [← hg0]; exact hb)
 have HG0:=hid hgl
 have HR0:=hid hr
 clear hr hb hg0 hgl
 generalize w.alloc (.cells (scells s).toArray 69)=w0 at *
 have H0:=hid (H.out.below HB0.out)
 have hBB0:B≤w0.heap.size:=Nat.le_trans hBB HB0.out.size
 clear H
 go_wp2_with (refine wpList_load_row rfl 69 (.tmp 3) rfl g0 rfl _ (scells s).toArray _ _ HR0.out Tryz.underlying69 rfl (Su.size_scells s) ?_)
 refine (HE.out w0).mono ?_
 rintro e w1 ⟨g,rfl,F⟩
 have HF:=hid F
 have H1:=hid (H0.out.below F.below)
 have HR1:=hid (HR0.out.below HG0.out F.below)
 have hBB1:B≤w1.heap.size:=Nat.le_trans hBB0 F.below.size
 have HB1:=hid (Off.of_below plT (fun k=>k<B) [] (HB0.out.trans (F.below.mono HB0.out.size)) (Nat.le_refl _))
 clear F H0 hBB0 HE
 go_wp2_with fail
 refine (pflush H1.out hBB1 (by omega)).mono ?_
 rintro e w2 ⟨rfl,hp,ho⟩
 have H2:=hid hp
 have HB2:=hid (HB1.out.trans ho)
 have HR2:=hid (ho.rowV HR1.out (by simp) rfl)
 have HY2:=hid ((seal_byt HF.out).off ho (by simp) rfl)
 have hBB2:B≤w2.heap.size:=Nat.le_trans hBB1 ho.size
 clear hp ho H1 HR1 HB1 hBB1
 have c0:=HR2.out.cellAt (i:=0) (Su.scells_at s 0 (by omega))
 rw [Su.scell_wide 0 _ (.inl rfl)] at c0
 dsimp only
 go_wp2_with fail
 refine (slot_any (nth s 0) _ hg).mono ?_
 rintro e w' ⟨rfl,rfl⟩
 clear c0
 go_wp2_with fail
 refine (pwrite H2.out hBB2 (by rw [List.length_append]; simp; omega) (nth s 0 % 2) g 128 (Su.supPage s) HLP.out HY2.out).mono ?_
 rintro e w3 ⟨rfl,hp,ho⟩
 have H3:=hid hp
 have HB3:=hid (HB2.out.trans ho)
 have hBB3:B≤w3.heap.size:=Nat.le_trans hBB2 ho.size
 clear hp ho H2 HB2 hBB2
 dsimp only
 go_wp2_with fail
 refine (pflush H3.out hBB3 (by rw [List.length_append,List.length_append]; simp; omega)).mono ?_
 rintro e w4 ⟨rfl,hp,ho⟩
 have H4:=hid hp
 have HB4:=hid (HB3.out.trans ho)
 clear hp ho H3 HB3 hBB3
 dsimp only
 go_wp2_with fail
 go_end0
 refine ⟨rfl,?_,HB4.out⟩
 have:=H4.out
 rw [List.append_assoc,List.append_assoc] at this
 exact this
end
end Go.Proofs.YtogchamogbendaaGreat.Bs
namespace Go.Proofs.YtogchamogbendaaGreat.Bs
open Lib (hid)
open Go.RowKit Oct Mv Tl Pk Pl Go.Maps Go.ChangeMaps
open Dsk (dT)
open Su (Sup nth scells)
open Ix (idxPage idxBody wvals Wd)
def dirW (m1:List Nat) (i:Nat):List UInt16:=((m1.drop (i*61)).take 61).map UInt16.ofNat
def cntSteps (s:Tl.St) (m1 k1:List Nat):List Stp:=k1.map fun i => .w (m1.getD i 0) (idxPage 5 (Pl.part s i))
def dirSteps (m1 m2 k2:List Nat):List Stp:=k2.map fun i => .w (m2.getD i 0) (idxPage 4 (dirW m1 i))
theorem part_le (s:Tl.St) (p:Nat):(Pl.part s p).length≤61:=by rw [Pl.length_part]; unfold Pl.many; omega
theorem wd_row {w:World} {g:Nat} {l:List UInt16} (h:RowV w g 34 (nums l)) (n:Nat) (hn:l.length=n) (h61:n≤4096):Wd w (some ⟨g,0,none⟩) n n l :=
 ⟨hn,Nat.le_refl _,by unfold maxLen; omega,h.has.told⟩
def lval (g1 n1 d1 g3 n3 d3:Nat) (A1:Option Addr) (c1 n:Nat) (A2:Option Addr) (c2 m:Nat):List Value := [.slice (some ⟨g1,0,none⟩) n1 d1,.slice (some ⟨g3,0,none⟩) n3 d3,.slice A1 n c1,.slice A2 m c2]
theorem prow5 {w:World} {B P d:Nat} {l:List Stp} (h:Pln w B P d l) (hBB:B≤w.heap.size) (hfew:l.length<100000) (p:Nat) {Ad:Option Addr} {n c:Nat} {ns:List UInt16} (hw:Wd w Ad n c ns) (hn:n≤61) :
  Calls Tryz.prog 163 #[.pointer (some ⟨P,0,none⟩),.int .u8 5,.int .i64 (p:Int),.slice Ad n c] w (More w B P d l [.w p (idxPage 5 ns)]):=prow h hBB hfew 5 (.inr rfl) p hw hn
theorem prow4 {w:World} {B P d:Nat} {l:List Stp} (h:Pln w B P d l) (hBB:B≤w.heap.size) (hfew:l.length<100000) (p:Nat) {Ad:Option Addr} {n c:Nat} {ns:List UInt16} (hw:Wd w Ad n c ns) (hn:n≤61) :
  Calls Tryz.prog 163 #[.pointer (some ⟨P,0,none⟩),.int .u8 4,.int .i64 (p:Int),.slice Ad n c] w (More w B P d l [.w p (idxPage 4 ns)]):=prow h hBB hfew 4 (.inl rfl) p hw hn
theorem length_cntSteps (s:Tl.St) (m1 k1:List Nat):(cntSteps s m1 k1).length=k1.length:=by simp [cntSteps]
theorem length_dirSteps (m1 m2 k2:List Nat):(dirSteps m1 m2 k2).length=k2.length:=by simp [dirSteps]
structure Src (v:World) (ta cb mb c:Nat) (s:Tl.St) (g1 d1 g3 d3 c1 c2:Nat) (A1 A2:Option Addr) (m1 m2 k1 k2:List Nat):Prop where
 ht:Tl.At v ta cb mb c s
 r1 : ∃sp,RowV v g1 3 (ints m1++sp)
 r3 : ∃sp,RowV v g3 3 (ints m2++sp)
 t1:ToldV v A1 (ints k1)
 t2:ToldV v A2 (ints k2)
 hm:m1.length≤4096
 hd1:k2 ≠ []→m1.length≤d1
 hd1m:k2 ≠ []→d1≤maxLen
 hm64 : ∀x∈m1,x<65536
 hk1 : ∀i∈k1,i<pg s.n∧i<m1.length
 hk2 : ∀i∈k2,i<m2.length∧i*61<m1.length
 hl1:k1.length≤4096
 hl2:k2.length≤4096
 hm2:m2.length≤4096
theorem Src.kept {v v':World} {ta cb mb c:Nat} {s:Tl.St} {g1 d1 g3 d3 c1 c2:Nat} {A1 A2:Option Addr} {m1 m2 k1 k2:List Nat} (h:Src v ta cb mb c s g1 d1 g3 d3 c1 c2 A1 A2 m1 m2 k1 k2) (k:Below v.heap.size v v'):Src v' ta cb mb c s g1 d1 g3 d3 c1 c2 A1 A2 m1 m2 k1 k2 :=
 ⟨h.ht.kept k,h.r1.imp fun _ r=>r.below r.lt k,h.r3.imp fun _ r=>r.below r.lt k,h.t1.below k,h.t2.below k,h.hm,h.hd1,h.hd1m,h.hm64,h.hk1,h.hk2,h.hl1,h.hl2,h.hm2⟩
theorem off_below {B:Nat} {w w':World} (h:Off plT (fun k=>k<B) [] w w') (hB:B≤w.heap.size):Below B w w':=h.below (fun _ k=>k) (by simp) hB
theorem length_dirW (m1:List Nat) (i:Nat):(dirW m1 i).length=min 61 (m1.length-i*61):=by
 unfold dirW
 rw [List.length_map,List.length_take,List.length_drop]
theorem as_part {v:World} {ta cb mb c:Nat} {s:Tl.St} {g1 d1 g3 d3 c1 c2:Nat} {A1 A2:Option Addr} {m1 m2 k1 k2:List Nat} (h:Src v ta cb mb c s g1 d1 g3 d3 c1 c2 A1 A2 m1 m2 k1 k2) {j:Nat} (hj:j*61<m1.length) :
  Calls Tryz.prog 165 #[.slice (some ⟨g1,j*61,none⟩) (min 61 (m1.length-j*61)) (d1-j*61)] v fun e w' => ∃g,e = .returned (.slice (some ⟨g,0,none⟩) (min 61 (m1.length-j*61)) (min 61 (m1.length-j*61)))∧RowV w' g 34 (nums (dirW m1 j))∧v.heap.size≤g∧Below v.heap.size v w':=by
 obtain ⟨sp,hr⟩:=h.r1
 have hl:((m1.drop (j*61)).take 61).length=min 61 (m1.length-j*61):=by rw [List.length_take,List.length_drop]
 have ht:ToldV v (some ⟨g1,j*61,none⟩) (kv .i64 ((m1.drop (j*61)).take 61)):=by
  refine .inr ⟨g1,_,rfl,fun i hi => ?_⟩
  rw [length_kv,hl] at hi
  have:=row_int hr (i:=j*61+i) (by omega)
  rw [this,← Option.some_inj,← List.getElem?_eq_getElem,kv_at _ _ (by rw [hl]; exact hi)]
  congr 3
  rw [List.getD_eq_getElem?_getD,List.getD_eq_getElem?_getD,List.getElem?_take,if_pos (by omega),List.getElem?_drop]
 have:=as_uint16_int (c:=d1-j*61) ht (by rw [hl]; omega) (fun x hx=>h.hm64 x (List.mem_of_mem_drop (List.mem_of_mem_take hx)))
 rw [hl] at this
 refine this.mono fun e w' ⟨g,he,hr',hg,hb⟩=>⟨g,he,?_,hg,hb⟩
 have e2:kv .u16 ((m1.drop (j*61)).take 61)=nums (dirW m1 j):=by
  rw [← kv_nums]
  unfold dirW
  rw [List.map_map]
  congr 1
  refine (List.map_id _).symm.trans (List.map_congr_left fun x hx => ?_)
  have:=h.hm64 x (List.mem_of_mem_drop (List.mem_of_mem_take hx))
  simp only [id,Function.comp]
  rw [UInt16.toNat_ofNat']
  omega
 rw [← e2]
 exact hr'
set_option maxHeartbeats 2000000 in
theorem ppages {v w:World} {P d:Nat} {l:List Stp} (h:Pln w v.heap.size P d l) (hv:Below v.heap.size v w) {ta cb mb c:Nat} {s:Tl.St} {g1 d1 g3 d3 c1 c2:Nat} {A1 A2:Option Addr} {m1 m2 k1 k2:List Nat}
  (hs:Src v ta cb mb c s g1 d1 g3 d3 c1 c2 A1 A2 m1 m2 k1 k2) (hfew:l.length<80000) :
  Calls Tryz.prog 113 #[.pointer (some ⟨P,0,none⟩),.pointer (some ⟨ta,0,none⟩),.agg (lval g1 m1.length d1 g3 m2.length d3 A1 c1 k1.length A2 c2 k2.length).toArray] w (More w v.heap.size P d l (cntSteps s m1 k1++dirSteps m1 m2 k2)):=by
 obtain ⟨bx,hbx⟩ : ∃b,b=w.heap.size:=⟨_,rfl⟩
 have hr:=alloc_rowV w 160 (lval g1 m1.length d1 g3 m2.length d3 A1 c1 k1.length A2 c2 k2.length)
 have hb:=(Below.refl w.heap.size w).alloc (Nat.le_refl _) (.cells (lval g1 m1.length d1 g3 m2.length d3 A1 c1 k1.length A2 c2 k2.length).toArray 160)
 have HS:=hid hs
 have HP:=hid h
 rw [← hbx] at hr
 have HB0:=hid hb
 have HR0:=hid hr
 have hl1i:(k1.length:Int)≤4096:=by have:=hs.hl1; omega
 have hl2i:(k2.length:Int)≤4096:=by have:=hs.hl2; omega
 obtain ⟨B,hB⟩ : ∃B,B=v.heap.size:=⟨_,rfl⟩
 have HVB:=hid hB
 rw [← hB] at HP ⊢
 have HV0:=hid (show Below B v w from by rw [hB]; exact hv)
 clear h hs hr hb hB hv
 go_enter Tryz.func113,Tryz.ntmps113
 go_upto_region 1 with (fail)
 rw [← hbx]
 clear hbx
 generalize w.alloc (.cells (lval g1 m1.length d1 g3 m2.length d3 A1 c1 k1.length A2 c2 k2.length).toArray 160)=w0 at *
 have c2x:=HR0.out.cellAt (i:=2) rfl
 have hvw:B≤w.heap.size:=by have:=HV0.out.size; have:=HVB.out; omega
 have HW0:=hid (show Off plT (fun k=>k<B) [] w w0 from Off.of_below _ _ _ HB0.out (Nat.le_refl _))
 have HP0:=hid (HP.out.below HB0.out)
 have HVW:=hid (show ∀wr,Off plT (fun k=>k<B) [] w wr→Src wr ta cb mb c s g1 d1 g3 d3 c1 c2 A1 A2 m1 m2 k1 k2 from fun wr k=>HS.out.kept (by rw [← HVB.out]; exact HV0.out.trans (off_below k hvw)))
 have HRW:=hid (show ∀wr,Off plT (fun k=>k<B) [] w0 wr→RowV wr bx 160 (lval g1 m1.length d1 g3 m2.length d3 A1 c1 k1.length A2 c2 k2.length) from fun wr k=>k.rowV HR0.out (by simp) rfl)
 clear HP HB0 HV0
 go_wp2_with fail
 clear c2x
 go_loopw [13] (fun i wr => ∃k:Nat,k≤k1.length∧i = .int .i64 (k:Int)∧Hid (Pln wr B P d (l++cntSteps s m1 (k1.take k)))∧Hid (Off plT (fun k=>k<B) [] w0 wr)) (fun i _=>k1.length-(Go.RowKit.intOf i).toNat)
 case atStart=>exact ⟨0,Nat.zero_le _,rfl,hid (by rw [List.take_zero]; show Pln w0 B P d (l ++ []); rw [List.append_nil]; exact HP0.out),hid (Off.refl _ _ _ _)⟩
 case round =>
  obtain ⟨k,hk,rfl,HP,HO⟩:=hrel
  have HSR:=hid (HVW.out wr (HW0.out.trans HO.out))
  have HRR:=hid (HRW.out wr HO.out)
  by_cases hlt:k<k1.length
  ·have hki:(k:Int)<(k1.length:Int):=by omega
   have hge:(0:Int)≤(k:Int):=by omega
   obtain ⟨b1,o1,rfl,hb1,hc1⟩:=told_nat HSR.out.t1 hlt
   have HI:=hid (HSR.out.hk1 _ (mem_getD hlt))
   have HNX:=hid (show cntSteps s m1 (k1.take (k+1))=cntSteps s m1 (k1.take k) ++ [.w (m1.getD (k1.getD k 0) 0) (idxPage 5 (Pl.part s (k1.getD k 0)))] by
    unfold cntSteps
    have hg:k1.getD k 0=k1[k]:=by rw [List.getD_eq_getElem?_getD,List.getElem?_eq_getElem hlt]; rfl
    rw [List.take_add_one,List.getElem?_eq_getElem hlt,List.map_append,hg]
    rfl)
   generalize k1.getD k 0=j at *
   have hji:(j:Int)<(m1.length:Int):=by have:=HI.out.2; omega
   have hj0:(0:Int)≤(j:Int):=by omega
   obtain ⟨L0,hL0⟩ : ∃L0,L0=l++cntSteps s m1 (k1.take k):=⟨_,rfl⟩
   have HL0:=HP
   rw [← hL0] at HL0
   have HLN:=hid (show L0.length≤90000 by rw [hL0,List.length_append,length_cntSteps,List.length_take]; have:=HSR.out.hl1; omega)
   have HLE:=hid hL0
   clear hL0 HP
   go_upto_region 4 with (fail)
   refine Inv2.wp_region_inv (fun b a wy => ∃(z:Nat→Value) (z26:Value),a=⟨(List.toArray (Value.pointer (some ⟨P,0,none⟩) :: Value.pointer (some ⟨ta,0,none⟩) :: Value.agg (lval g1 m1.length d1 g3 m2.length d3 (some ⟨b1,o1,none⟩) c1 k1.length A2 c2 k2.length).toArray :: undef :: undef :: Value.pointer (some ⟨bx,0,none⟩) :: undef :: Value.int IntKind.i64 ↑j :: undef :: undef :: Value.pointer (some ⟨bx,2,none⟩) :: Value.slice (some ⟨b1,o1,none⟩) k1.length c1 :: Value.int IntKind.i64 ↑k1.length :: Value.int IntKind.i64 ↑k :: Value.bool true :: Value.pointer (some ⟨b1,o1+k,none⟩) :: Value.int IntKind.i64 ↑j :: (z 17) :: (z 18) :: (z 19) :: (z 20) :: (z 21) :: (z 22) :: (z 23) :: (z 24) :: (z 25) :: z26 :: (z 27) :: u28 :: undef :: undef :: undef :: undef :: undef :: undef :: undef :: undef :: undef :: undef :: undef :: undef :: undef :: undef :: undef :: undef :: undef :: undef :: undef :: undef :: undef :: undef :: [])),[]⟩∧Hid ((b 0=true→(z 17)=Value.pointer (some ⟨P,0,none⟩))∧(b 1=true→(z 18) = .pointer (some ⟨bx,0,none⟩))∧(b 2=true→(z 19) = .pointer (some ⟨bx,0,none⟩))∧(b 3=true→(z 20) = .slice (some ⟨g1,0,none⟩) m1.length d1)∧(b 4=true→(z 21)=Value.int IntKind.i64 ↑j)∧(b 5=true→(z 22) = .pointer (some ⟨g1,j,none⟩))∧(b 6=true→(z 23) = .int .i64 ((m1.getD j 0:Nat):Int))∧(b 7=true→(z 24)=Value.pointer (some ⟨ta,0,none⟩))∧(b 8=true→(z 25)=Value.int IntKind.i64 ↑j)∧(b 10=true→(z 27) = .tuple #[]))∧Hid (Below 0 wr wy)∧Hid (Off plT (fun k=>k<B) [] wr wy∧(b 10=false→Pln wy B P d L0)∧(b 9=true→b 10=false → ∃g,z26 = .slice (some ⟨g,0,none⟩) (Pl.many s j) (Pl.many s j)∧RowV wy g 34 (nums (Pl.part s j)))∧(b 10=true→b 9=true∧Pln wy B P d (L0 ++ [.w (m1.getD j 0) (idxPage 5 (Pl.part s j))])))) (by kernel_rfl) (by kernel_rfl) ?startC ?stepsC ?doneC
   case startC =>
    intro b hb
    refine ⟨fun s=>if s=17 then u17 else if s=18 then u18 else if s=19 then u19 else if s=20 then u20 else if s=21 then u21 else if s=22 then u22 else if s=23 then u23 else if s=24 then u24 else if s=25 then u25 else if s=27 then u27 else undef,u26,rfl,hid ⟨?_,?_,?_,?_,?_,?_,?_,?_,?_,?_⟩,hid ((show Still wr wr.drew from ⟨rfl,rfl,rfl,rfl⟩).below _),hid (⟨(Off.refl _ _ _ _).trans (Off.of_below _ _ _ ((show Still wr wr.drew from ⟨rfl,rfl,rfl,rfl⟩).below _) (Nat.le_refl _)),fun _=>HL0.out.below ((show Still wr wr.drew from ⟨rfl,rfl,rfl,rfl⟩).below _),fun e=>absurd (e.symm.trans (hb 9 (by decide))) (by decide),fun e=>absurd (e.symm.trans (hb 10 (by decide))) (by decide)⟩)⟩
    all_goals (intro e; first | rfl | (rw [hb _ (by decide)] at e; cases e))
   case stepsC =>
    refine ⟨?_,?_,?_,?_,?_,?_,?_,?_,?_,?_,?_,trivial⟩
    ·rintro b a wy hb hd ⟨z,z26,rfl,HV,HW,HX⟩ K hK
     clear hd
     go_simp
     have V:=HV.out
     exact hK _ _ ⟨fun s=>if s=17 then Value.pointer (some ⟨P,0,none⟩) else z s,_,rfl,hid ⟨fun _=>rfl,V.2.1,V.2.2.1,V.2.2.2.1,V.2.2.2.2.1,V.2.2.2.2.2.1,V.2.2.2.2.2.2.1,V.2.2.2.2.2.2.2.1,V.2.2.2.2.2.2.2.2.1,V.2.2.2.2.2.2.2.2.2⟩,HW,HX⟩
    ·rintro b a wy hb hd ⟨z,z26,rfl,HV,HW,HX⟩ K hK
     clear hd
     go_simp
     have V:=HV.out
     exact hK _ _ ⟨fun s=>if s=18 then .pointer (some ⟨bx,0,none⟩) else z s,_,rfl,hid ⟨V.1,fun _=>rfl,V.2.2.1,V.2.2.2.1,V.2.2.2.2.1,V.2.2.2.2.2.1,V.2.2.2.2.2.2.1,V.2.2.2.2.2.2.2.1,V.2.2.2.2.2.2.2.2.1,V.2.2.2.2.2.2.2.2.2⟩,HW,HX⟩
    ·rintro b a wy hb hd ⟨z,z26,rfl,HV,HW,HX⟩ K hK
     simp [Region.binds] at hd
     have e1:(z 18) = .pointer (some ⟨bx,0,none⟩):=(HV.out.2.1) (by simp [hd])
     clear hd
     go_simp
     have V:=HV.out
     exact hK _ _ ⟨fun s=>if s=19 then .pointer (some ⟨bx,0,none⟩) else if s=18 then .pointer (some ⟨bx,0,none⟩) else z s,_,rfl,hid ⟨V.1,fun _=>rfl,fun _=>rfl,V.2.2.2.1,V.2.2.2.2.1,V.2.2.2.2.2.1,V.2.2.2.2.2.2.1,V.2.2.2.2.2.2.2.1,V.2.2.2.2.2.2.2.2.1,V.2.2.2.2.2.2.2.2.2⟩,HW,HX⟩
    ·rintro b a wy hb hd ⟨z,z26,rfl,HV,HW,HX⟩ K hK
     simp [Region.binds] at hd
     have e2:(z 19) = .pointer (some ⟨bx,0,none⟩):=(HV.out.2.2.1) (by simp [hd])
     clear hd
     obtain ⟨X0,X1,X2,X3⟩:=HX.out
     have cc:=(HRW.out wy (HO.out.trans X0)).cellAt (i:=0) rfl
     clear X0 X1 X2 X3
     go_simp
     have V:=HV.out
     exact hK _ _ ⟨fun s=>if s=20 then .slice (some ⟨g1,0,none⟩) m1.length d1 else if s=19 then .pointer (some ⟨bx,0,none⟩) else z s,_,rfl,hid ⟨V.1,V.2.1,fun _=>rfl,fun _=>rfl,V.2.2.2.2.1,V.2.2.2.2.2.1,V.2.2.2.2.2.2.1,V.2.2.2.2.2.2.2.1,V.2.2.2.2.2.2.2.2.1,V.2.2.2.2.2.2.2.2.2⟩,HW,HX⟩
    ·rintro b a wy hb hd ⟨z,z26,rfl,HV,HW,HX⟩ K hK
     clear hd
     go_simp
     have V:=HV.out
     exact hK _ _ ⟨fun s=>if s=21 then Value.int IntKind.i64 ↑j else z s,_,rfl,hid ⟨V.1,V.2.1,V.2.2.1,V.2.2.2.1,fun _=>rfl,V.2.2.2.2.2.1,V.2.2.2.2.2.2.1,V.2.2.2.2.2.2.2.1,V.2.2.2.2.2.2.2.2.1,V.2.2.2.2.2.2.2.2.2⟩,HW,HX⟩
    ·rintro b a wy hb hd ⟨z,z26,rfl,HV,HW,HX⟩ K hK
     simp [Region.binds] at hd
     have e3:(z 20) = .slice (some ⟨g1,0,none⟩) m1.length d1:=(HV.out.2.2.2.1) (by simp [hd])
     have e4:(z 21)=Value.int IntKind.i64 ↑j:=(HV.out.2.2.2.2.1) (by simp [hd])
     clear hd
     go_simp
     have V:=HV.out
     exact hK _ _ ⟨fun s=>if s=22 then .pointer (some ⟨g1,j,none⟩) else if s=20 then .slice (some ⟨g1,0,none⟩) m1.length d1 else if s=21 then Value.int IntKind.i64 ↑j else z s,_,rfl,hid ⟨V.1,V.2.1,V.2.2.1,fun _=>rfl,fun _=>rfl,fun _=>rfl,V.2.2.2.2.2.2.1,V.2.2.2.2.2.2.2.1,V.2.2.2.2.2.2.2.2.1,V.2.2.2.2.2.2.2.2.2⟩,HW,HX⟩
    ·rintro b a wy hb hd ⟨z,z26,rfl,HV,HW,HX⟩ K hK
     simp [Region.binds] at hd
     have e5:(z 22) = .pointer (some ⟨g1,j,none⟩):=(HV.out.2.2.2.2.2.1) (by simp [hd])
     clear hd
     obtain ⟨X0,X1,X2,X3⟩:=HX.out
     obtain ⟨sp,hr1⟩:=(HVW.out wy (HW0.out.trans (HO.out.trans X0))).r1
     have cc:=row_int hr1 HI.out.2
     clear X0 X1 X2 X3
     go_simp
     have V:=HV.out
     exact hK _ _ ⟨fun s=>if s=23 then .int .i64 ((m1.getD j 0:Nat):Int) else if s=22 then .pointer (some ⟨g1,j,none⟩) else z s,_,rfl,hid ⟨V.1,V.2.1,V.2.2.1,V.2.2.2.1,V.2.2.2.2.1,fun _=>rfl,fun _=>rfl,V.2.2.2.2.2.2.2.1,V.2.2.2.2.2.2.2.2.1,V.2.2.2.2.2.2.2.2.2⟩,HW,HX⟩
    ·rintro b a wy hb hd ⟨z,z26,rfl,HV,HW,HX⟩ K hK
     clear hd
     go_simp
     have V:=HV.out
     exact hK _ _ ⟨fun s=>if s=24 then Value.pointer (some ⟨ta,0,none⟩) else z s,_,rfl,hid ⟨V.1,V.2.1,V.2.2.1,V.2.2.2.1,V.2.2.2.2.1,V.2.2.2.2.2.1,V.2.2.2.2.2.2.1,fun _=>rfl,V.2.2.2.2.2.2.2.2.1,V.2.2.2.2.2.2.2.2.2⟩,HW,HX⟩
    ·rintro b a wy hb hd ⟨z,z26,rfl,HV,HW,HX⟩ K hK
     clear hd
     go_simp
     have V:=HV.out
     exact hK _ _ ⟨fun s=>if s=25 then Value.int IntKind.i64 ↑j else z s,_,rfl,hid ⟨V.1,V.2.1,V.2.2.1,V.2.2.2.1,V.2.2.2.2.1,V.2.2.2.2.2.1,V.2.2.2.2.2.2.1,V.2.2.2.2.2.2.2.1,fun _=>rfl,V.2.2.2.2.2.2.2.2.2⟩,HW,HX⟩
    ·rintro b a wy hb hd ⟨z,z26,rfl,HV,HW,HX⟩ K hK
     simp [Region.binds] at hd
     have e7:(z 24)=Value.pointer (some ⟨ta,0,none⟩):=(HV.out.2.2.2.2.2.2.2.1) (by simp [hd])
     have e8:(z 25)=Value.int IntKind.i64 ↑j:=(HV.out.2.2.2.2.2.2.2.2.1) (by simp [hd])
     clear hd
     obtain ⟨X0,X1,X2,X3⟩:=HX.out
     have b10:b 10=false:=by
      rcases Bool.eq_false_or_eq_true (b 10) with e | e
      ·exact absurd (hb.symm.trans (X3 e).1) (by decide)
      ·exact e
     have HC:=hid (And.intro X0 (And.intro (X1 b10) b10))
     have HSY:=hid (HVW.out wy (HW0.out.trans (HO.out.trans X0)))
     clear X0 X1 X2 X3 b10 HX
     go_simp
     go_at_call 164
     refine (counts_yes HSY.out.ht j HI.out.1).mono ?_
     rintro e wz ⟨g,rfl,hrow,hlo,kz⟩
     try go_simp
     have V:=HV.out
     exact hK _ _ ⟨fun s=>if s=24 then Value.pointer (some ⟨ta,0,none⟩) else if s=25 then Value.int IntKind.i64 ↑j else z s,_,rfl,hid ⟨V.1,V.2.1,V.2.2.1,V.2.2.2.1,V.2.2.2.2.1,V.2.2.2.2.2.1,V.2.2.2.2.2.2.1,fun _=>rfl,fun _=>rfl,V.2.2.2.2.2.2.2.2.2⟩,hid (HW.out.trans (kz.mono (Nat.zero_le _))),hid ⟨HC.out.1.trans (Off.of_below _ _ _ kz (Nat.le_refl _)),fun _=>HC.out.2.1.below kz,fun _ _=>⟨g,rfl,hrow⟩,fun e=>absurd (HC.out.2.2.symm.trans e) (by decide)⟩⟩
    ·rintro b a wy hb hd ⟨z,z26,rfl,HV,HW,HX⟩ K hK
     simp [Region.binds] at hd
     have e0:(z 17)=Value.pointer (some ⟨P,0,none⟩):=(HV.out.1) (by simp [hd])
     have e6:(z 23) = .int .i64 ((m1.getD j 0:Nat):Int):=(HV.out.2.2.2.2.2.2.1) (by simp [hd])
     have dd9:b 9=true:=by simp [hd]
     clear hd
     obtain ⟨X0,X1,X2,X3⟩:=HX.out
     obtain ⟨g,zz,hrow⟩:=X2 dd9 hb
     subst zz
     have HC:=hid (And.intro X0 (And.intro (X1 hb) hrow))
     have HSY:=hid (HVW.out wy (HW0.out.trans (HO.out.trans X0)))
     have hbw:B≤wy.heap.size:=Nat.le_trans hvw (HW0.out.trans (HO.out.trans X0)).size
     clear X0 X1 X2 X3 hrow HX
     go_simp
     go_at_call 163
     refine (prow5 HC.out.2.1 hbw (by have:=HLN.out; omega) (m1.getD j 0) (wd_row HC.out.2.2 (Pl.many s j) (Pl.length_part s j) (by unfold Pl.many; omega)) (by unfold Pl.many; omega)).mono ?_
     rintro e wz ⟨rfl,hp,ho⟩
     try go_simp
     have V:=HV.out
     exact hK _ _ ⟨fun s=>if s=27 then .tuple #[] else if s=17 then Value.pointer (some ⟨P,0,none⟩) else if s=23 then .int .i64 ((m1.getD j 0:Nat):Int) else z s,_,rfl,hid ⟨fun _=>rfl,V.2.1,V.2.2.1,V.2.2.2.1,V.2.2.2.2.1,V.2.2.2.2.2.1,fun _=>rfl,V.2.2.2.2.2.2.2.1,V.2.2.2.2.2.2.2.2.1,fun _=>rfl⟩,hid (HW.out.trans ⟨ho.os,ho.tape,ho.output,ho.size,fun k hk=>absurd hk (Nat.not_lt_zero k)⟩),hid ⟨HC.out.1.trans ho,fun e=>(by cases e),fun _ e=>(by cases e),fun _=>⟨dd9,hp⟩⟩⟩
   case doneC =>
    rintro b a w9 hb ⟨z,z26,rfl,HV,HW,HX⟩
    have e0:=(HV.out.1) (hb 0)
    have e1:=(HV.out.2.1) (hb 1)
    have e2:=(HV.out.2.2.1) (hb 2)
    have e3:=(HV.out.2.2.2.1) (hb 3)
    have e4:=(HV.out.2.2.2.2.1) (hb 4)
    have e5:=(HV.out.2.2.2.2.2.1) (hb 5)
    have e6:=(HV.out.2.2.2.2.2.2.1) (hb 6)
    have e7:=(HV.out.2.2.2.2.2.2.2.1) (hb 7)
    have e8:=(HV.out.2.2.2.2.2.2.2.2.1) (hb 8)
    have e10:=(HV.out.2.2.2.2.2.2.2.2.2) (hb 10)
    simp only [e0,e1,e2,e3,e4,e5,e6,e7,e8,e10]
    clear HV e0 e1 e2 e3 e4 e5 e6 e7 e8 e10
    obtain ⟨X0,_,_,X3⟩:=HX.out
    have H9:=hid (And.intro X0 (X3 (hb 10)).2)
    clear HX HW hb X0 X3
    go_wp2_with fail
    go_roundw
    case rel=>exact ⟨k+1,by omega,by go_num,hid (by rw [HNX.out,← List.append_assoc,← HLE.out]; exact H9.out.2),hid (HO.out.trans H9.out.1)⟩
    case measure=>simp [Go.RowKit.intOf]; omega
  ·have hki : ¬(k:Int)<(k1.length:Int):=by omega
   obtain rfl:k=k1.length:=by omega
   rw [List.take_length] at HP
   have c3x:=HRR.out.cellAt (i:=3) rfl
   obtain ⟨l',hl'⟩ : ∃l',l'=l++cntSteps s m1 k1:=⟨_,rfl⟩
   rw [← hl'] at HP
   have HLL:=hid hl'
   have HLQ:=hid (show l'.length≤85000 by rw [hl',List.length_append,length_cntSteps]; have:=HSR.out.hl1; omega)
   have HO1:=HO
   have HP1:=HP
   clear hl' HP HO hki
   obtain ⟨w1,hw1⟩ : ∃x,x=wr:=⟨_,rfl⟩
   subst hw1
   go_wp2_with fail
   clear c3x
   go_loopw [32] (fun i wr => ∃k:Nat,k≤k2.length∧i = .int .i64 (k:Int)∧Hid (Pln wr B P d (l'++dirSteps m1 m2 (k2.take k)))∧Hid (Off plT (fun k=>k<B) [] w0 wr)) (fun i _=>k2.length-(Go.RowKit.intOf i).toNat)
   case atStart=>exact ⟨0,Nat.zero_le _,rfl,hid (by rw [List.take_zero]; show Pln _ B P d (l' ++ []); rw [List.append_nil]; exact HP1.out),HO1⟩
   case round =>
    obtain ⟨k,hk,rfl,HP,HO⟩:=hrel
    have HSR:=hid (HVW.out wr (HW0.out.trans HO.out))
    have HRR:=hid (HRW.out wr HO.out)
    by_cases hlt:k<k2.length
    ·have hki:(k:Int)<(k2.length:Int):=by omega
     have hge:(0:Int)≤(k:Int):=by omega
     obtain ⟨b1,o1,rfl,hb1,hc1⟩:=told_nat HSR.out.t2 hlt
     have HI:=hid (HSR.out.hk2 _ (mem_getD hlt))
     have HK2:=hid (show k2 ≠ [] from by rintro rfl; simp at hlt)
     have HNX:=hid (show dirSteps m1 m2 (k2.take (k+1))=dirSteps m1 m2 (k2.take k) ++ [.w (m2.getD (k2.getD k 0) 0) (idxPage 4 (dirW m1 (k2.getD k 0)))] by
      unfold dirSteps
      have hg:k2.getD k 0=k2[k]:=by rw [List.getD_eq_getElem?_getD,List.getElem?_eq_getElem hlt]; rfl
      rw [List.take_add_one,List.getElem?_eq_getElem hlt,List.map_append,hg]
      rfl)
     generalize k2.getD k 0=j at *
     have hji:(j:Int)<(m2.length:Int):=by have:=HI.out.1; omega
     have hj0:(0:Int)≤(j:Int):=by omega
     obtain ⟨L0,hL0⟩ : ∃L0,L0=l'++dirSteps m1 m2 (k2.take k):=⟨_,rfl⟩
     have HL0:=HP
     rw [← hL0] at HL0
     have HLN:=hid (show L0.length≤90000 by rw [hL0,List.length_append,length_dirSteps,List.length_take]; have:=HSR.out.hl2; have:=HLQ.out; omega)
     have HLE:=hid hL0
     clear hL0 HP
     go_upto_region 9 with (fail)
     refine Inv2.wp_region_inv (fun b a wy => ∃(z:Nat→Value) (z48:Value),a=⟨(List.toArray (Value.pointer (some ⟨P,0,none⟩) :: Value.pointer (some ⟨ta,0,none⟩) :: Value.agg (lval g1 m1.length d1 g3 m2.length d3 A1 c1 k1.length (some ⟨b1,o1,none⟩) c2 k2.length).toArray :: undef :: undef :: Value.pointer (some ⟨bx,0,none⟩) :: undef :: u7 :: undef :: Value.int IntKind.i64 ↑j :: Value.pointer (some ⟨bx,2,none⟩) :: Value.slice A1 k1.length c1 :: Value.int IntKind.i64 ↑k1.length :: Value.int IntKind.i64 ↑k1.length :: Value.bool false :: u15 :: u16 :: u17 :: u18 :: u19 :: u20 :: u21 :: u22 :: u23 :: u24 :: u25 :: u26 :: u27 :: u28 :: Value.pointer (some ⟨bx,3,none⟩) :: Value.slice (some ⟨b1,o1,none⟩) k2.length c2 :: Value.int IntKind.i64 ↑k2.length :: Value.int IntKind.i64 ↑k :: Value.bool true :: Value.pointer (some ⟨b1,o1+k,none⟩) :: Value.int IntKind.i64 ↑j :: (z 36) :: (z 37) :: (z 38) :: (z 39) :: (z 40) :: (z 41) :: (z 42) :: (z 43) :: (z 44) :: (z 45) :: (z 46) :: (z 47) :: z48 :: (z 49) :: u50 :: [])),[]⟩∧Hid ((b 0=true→(z 36)=Value.pointer (some ⟨P,0,none⟩))∧(b 1=true→(z 37) = .pointer (some ⟨bx,0,none⟩))∧(b 2=true→(z 38) = .pointer (some ⟨bx,1,none⟩))∧(b 3=true→(z 39) = .slice (some ⟨g3,0,none⟩) m2.length d3)∧(b 4=true→(z 40)=Value.int IntKind.i64 ↑j)∧(b 5=true→(z 41) = .pointer (some ⟨g3,j,none⟩))∧(b 6=true→(z 42) = .int .i64 ((m2.getD j 0:Nat):Int))∧(b 7=true→(z 43) = .pointer (some ⟨bx,0,none⟩))∧(b 8=true→(z 44) = .pointer (some ⟨bx,0,none⟩))∧(b 9=true→(z 45) = .slice (some ⟨g1,0,none⟩) m1.length d1)∧(b 10=true→(z 46)=Value.int IntKind.i64 ↑j)∧(b 11=true→(z 47) = .slice (some ⟨g1,j*61,none⟩) (min 61 (m1.length-j*61)) (d1-j*61))∧(b 13=true→(z 49) = .tuple #[]))∧Hid (Below 0 wr wy)∧Hid (Off plT (fun k=>k<B) [] wr wy∧(b 13=false→Pln wy B P d L0)∧(b 12=true→b 13=false → ∃g,z48 = .slice (some ⟨g,0,none⟩) (min 61 (m1.length-j*61)) (min 61 (m1.length-j*61))∧RowV wy g 34 (nums (dirW m1 j)))∧(b 13=true→b 12=true∧Pln wy B P d (L0 ++ [.w (m2.getD j 0) (idxPage 4 (dirW m1 j))])))) (by kernel_rfl) (by kernel_rfl) ?startE ?stepsE ?doneE
     case startE =>
      intro b hb
      refine ⟨fun s=>if s=36 then u36 else if s=37 then u37 else if s=38 then u38 else if s=39 then u39 else if s=40 then u40 else if s=41 then u41 else if s=42 then u42 else if s=43 then u43 else if s=44 then u44 else if s=45 then u45 else if s=46 then u46 else if s=47 then u47 else if s=49 then u49 else undef,u48,rfl,hid ⟨?_,?_,?_,?_,?_,?_,?_,?_,?_,?_,?_,?_,?_⟩,hid ((show Still wr wr.drew from ⟨rfl,rfl,rfl,rfl⟩).below _),hid (⟨(Off.refl _ _ _ _).trans (Off.of_below _ _ _ ((show Still wr wr.drew from ⟨rfl,rfl,rfl,rfl⟩).below _) (Nat.le_refl _)),fun _=>HL0.out.below ((show Still wr wr.drew from ⟨rfl,rfl,rfl,rfl⟩).below _),fun e=>absurd (e.symm.trans (hb 12 (by decide))) (by decide),fun e=>absurd (e.symm.trans (hb 13 (by decide))) (by decide)⟩)⟩
      all_goals (intro e; first | rfl | (rw [hb _ (by decide)] at e; cases e))
     case stepsE =>
      refine ⟨?_,?_,?_,?_,?_,?_,?_,?_,?_,?_,?_,?_,?_,?_,trivial⟩
      ·rintro b a wy hb hd ⟨z,z48,rfl,HV,HW,HX⟩ K hK
       clear hd
       go_simp
       have V:=HV.out
       exact hK _ _ ⟨fun s=>if s=36 then Value.pointer (some ⟨P,0,none⟩) else z s,_,rfl,hid ⟨fun _=>rfl,V.2.1,V.2.2.1,V.2.2.2.1,V.2.2.2.2.1,V.2.2.2.2.2.1,V.2.2.2.2.2.2.1,V.2.2.2.2.2.2.2.1,V.2.2.2.2.2.2.2.2.1,V.2.2.2.2.2.2.2.2.2.1,V.2.2.2.2.2.2.2.2.2.2.1,V.2.2.2.2.2.2.2.2.2.2.2.1,V.2.2.2.2.2.2.2.2.2.2.2.2⟩,HW,HX⟩
      ·rintro b a wy hb hd ⟨z,z48,rfl,HV,HW,HX⟩ K hK
       clear hd
       go_simp
       have V:=HV.out
       exact hK _ _ ⟨fun s=>if s=37 then .pointer (some ⟨bx,0,none⟩) else z s,_,rfl,hid ⟨V.1,fun _=>rfl,V.2.2.1,V.2.2.2.1,V.2.2.2.2.1,V.2.2.2.2.2.1,V.2.2.2.2.2.2.1,V.2.2.2.2.2.2.2.1,V.2.2.2.2.2.2.2.2.1,V.2.2.2.2.2.2.2.2.2.1,V.2.2.2.2.2.2.2.2.2.2.1,V.2.2.2.2.2.2.2.2.2.2.2.1,V.2.2.2.2.2.2.2.2.2.2.2.2⟩,HW,HX⟩
      ·rintro b a wy hb hd ⟨z,z48,rfl,HV,HW,HX⟩ K hK
       simp [Region.binds] at hd
       have e1:(z 37) = .pointer (some ⟨bx,0,none⟩):=(HV.out.2.1) (by simp [hd])
       clear hd
       go_simp
       have V:=HV.out
       exact hK _ _ ⟨fun s=>if s=38 then .pointer (some ⟨bx,1,none⟩) else if s=37 then .pointer (some ⟨bx,0,none⟩) else z s,_,rfl,hid ⟨V.1,fun _=>rfl,fun _=>rfl,V.2.2.2.1,V.2.2.2.2.1,V.2.2.2.2.2.1,V.2.2.2.2.2.2.1,V.2.2.2.2.2.2.2.1,V.2.2.2.2.2.2.2.2.1,V.2.2.2.2.2.2.2.2.2.1,V.2.2.2.2.2.2.2.2.2.2.1,V.2.2.2.2.2.2.2.2.2.2.2.1,V.2.2.2.2.2.2.2.2.2.2.2.2⟩,HW,HX⟩
      ·rintro b a wy hb hd ⟨z,z48,rfl,HV,HW,HX⟩ K hK
       simp [Region.binds] at hd
       have e2:(z 38) = .pointer (some ⟨bx,1,none⟩):=(HV.out.2.2.1) (by simp [hd])
       clear hd
       obtain ⟨X0,X1,X2,X3⟩:=HX.out
       have cc:=(HRW.out wy (HO.out.trans X0)).cellAt (i:=1) rfl
       clear X0 X1 X2 X3
       go_simp
       have V:=HV.out
       exact hK _ _ ⟨fun s=>if s=39 then .slice (some ⟨g3,0,none⟩) m2.length d3 else if s=38 then .pointer (some ⟨bx,1,none⟩) else z s,_,rfl,hid ⟨V.1,V.2.1,fun _=>rfl,fun _=>rfl,V.2.2.2.2.1,V.2.2.2.2.2.1,V.2.2.2.2.2.2.1,V.2.2.2.2.2.2.2.1,V.2.2.2.2.2.2.2.2.1,V.2.2.2.2.2.2.2.2.2.1,V.2.2.2.2.2.2.2.2.2.2.1,V.2.2.2.2.2.2.2.2.2.2.2.1,V.2.2.2.2.2.2.2.2.2.2.2.2⟩,HW,HX⟩
      ·rintro b a wy hb hd ⟨z,z48,rfl,HV,HW,HX⟩ K hK
       clear hd
       go_simp
       have V:=HV.out
       exact hK _ _ ⟨fun s=>if s=40 then Value.int IntKind.i64 ↑j else z s,_,rfl,hid ⟨V.1,V.2.1,V.2.2.1,V.2.2.2.1,fun _=>rfl,V.2.2.2.2.2.1,V.2.2.2.2.2.2.1,V.2.2.2.2.2.2.2.1,V.2.2.2.2.2.2.2.2.1,V.2.2.2.2.2.2.2.2.2.1,V.2.2.2.2.2.2.2.2.2.2.1,V.2.2.2.2.2.2.2.2.2.2.2.1,V.2.2.2.2.2.2.2.2.2.2.2.2⟩,HW,HX⟩
      ·rintro b a wy hb hd ⟨z,z48,rfl,HV,HW,HX⟩ K hK
       simp [Region.binds] at hd
       have e3:(z 39) = .slice (some ⟨g3,0,none⟩) m2.length d3:=(HV.out.2.2.2.1) (by simp [hd])
       have e4:(z 40)=Value.int IntKind.i64 ↑j:=(HV.out.2.2.2.2.1) (by simp [hd])
       clear hd
       go_simp
       have V:=HV.out
       exact hK _ _ ⟨fun s=>if s=41 then .pointer (some ⟨g3,j,none⟩) else if s=39 then .slice (some ⟨g3,0,none⟩) m2.length d3 else if s=40 then Value.int IntKind.i64 ↑j else z s,_,rfl,hid ⟨V.1,V.2.1,V.2.2.1,fun _=>rfl,fun _=>rfl,fun _=>rfl,V.2.2.2.2.2.2.1,V.2.2.2.2.2.2.2.1,V.2.2.2.2.2.2.2.2.1,V.2.2.2.2.2.2.2.2.2.1,V.2.2.2.2.2.2.2.2.2.2.1,V.2.2.2.2.2.2.2.2.2.2.2.1,V.2.2.2.2.2.2.2.2.2.2.2.2⟩,HW,HX⟩
      ·rintro b a wy hb hd ⟨z,z48,rfl,HV,HW,HX⟩ K hK
       simp [Region.binds] at hd
       have e5:(z 41) = .pointer (some ⟨g3,j,none⟩):=(HV.out.2.2.2.2.2.1) (by simp [hd])
       clear hd
       obtain ⟨X0,X1,X2,X3⟩:=HX.out
       obtain ⟨sp,hr1⟩:=(HVW.out wy (HW0.out.trans (HO.out.trans X0))).r3
       have cc:=row_int hr1 HI.out.1
       clear X0 X1 X2 X3
       go_simp
       have V:=HV.out
       exact hK _ _ ⟨fun s=>if s=42 then .int .i64 ((m2.getD j 0:Nat):Int) else if s=41 then .pointer (some ⟨g3,j,none⟩) else z s,_,rfl,hid ⟨V.1,V.2.1,V.2.2.1,V.2.2.2.1,V.2.2.2.2.1,fun _=>rfl,fun _=>rfl,V.2.2.2.2.2.2.2.1,V.2.2.2.2.2.2.2.2.1,V.2.2.2.2.2.2.2.2.2.1,V.2.2.2.2.2.2.2.2.2.2.1,V.2.2.2.2.2.2.2.2.2.2.2.1,V.2.2.2.2.2.2.2.2.2.2.2.2⟩,HW,HX⟩
      ·rintro b a wy hb hd ⟨z,z48,rfl,HV,HW,HX⟩ K hK
       clear hd
       go_simp
       have V:=HV.out
       exact hK _ _ ⟨fun s=>if s=43 then .pointer (some ⟨bx,0,none⟩) else z s,_,rfl,hid ⟨V.1,V.2.1,V.2.2.1,V.2.2.2.1,V.2.2.2.2.1,V.2.2.2.2.2.1,V.2.2.2.2.2.2.1,fun _=>rfl,V.2.2.2.2.2.2.2.2.1,V.2.2.2.2.2.2.2.2.2.1,V.2.2.2.2.2.2.2.2.2.2.1,V.2.2.2.2.2.2.2.2.2.2.2.1,V.2.2.2.2.2.2.2.2.2.2.2.2⟩,HW,HX⟩
      ·rintro b a wy hb hd ⟨z,z48,rfl,HV,HW,HX⟩ K hK
       simp [Region.binds] at hd
       have e7:(z 43) = .pointer (some ⟨bx,0,none⟩):=(HV.out.2.2.2.2.2.2.2.1) (by simp [hd])
       clear hd
       go_simp
       have V:=HV.out
       exact hK _ _ ⟨fun s=>if s=44 then .pointer (some ⟨bx,0,none⟩) else if s=43 then .pointer (some ⟨bx,0,none⟩) else z s,_,rfl,hid ⟨V.1,V.2.1,V.2.2.1,V.2.2.2.1,V.2.2.2.2.1,V.2.2.2.2.2.1,V.2.2.2.2.2.2.1,fun _=>rfl,fun _=>rfl,V.2.2.2.2.2.2.2.2.2.1,V.2.2.2.2.2.2.2.2.2.2.1,V.2.2.2.2.2.2.2.2.2.2.2.1,V.2.2.2.2.2.2.2.2.2.2.2.2⟩,HW,HX⟩
      ·rintro b a wy hb hd ⟨z,z48,rfl,HV,HW,HX⟩ K hK
       simp [Region.binds] at hd
       have e8:(z 44) = .pointer (some ⟨bx,0,none⟩):=(HV.out.2.2.2.2.2.2.2.2.1) (by simp [hd])
       clear hd
       obtain ⟨X0,X1,X2,X3⟩:=HX.out
       have cc:=(HRW.out wy (HO.out.trans X0)).cellAt (i:=0) rfl
       clear X0 X1 X2 X3
       go_simp
       have V:=HV.out
       exact hK _ _ ⟨fun s=>if s=45 then .slice (some ⟨g1,0,none⟩) m1.length d1 else if s=44 then .pointer (some ⟨bx,0,none⟩) else z s,_,rfl,hid ⟨V.1,V.2.1,V.2.2.1,V.2.2.2.1,V.2.2.2.2.1,V.2.2.2.2.2.1,V.2.2.2.2.2.2.1,V.2.2.2.2.2.2.2.1,fun _=>rfl,fun _=>rfl,V.2.2.2.2.2.2.2.2.2.2.1,V.2.2.2.2.2.2.2.2.2.2.2.1,V.2.2.2.2.2.2.2.2.2.2.2.2⟩,HW,HX⟩
      ·rintro b a wy hb hd ⟨z,z48,rfl,HV,HW,HX⟩ K hK
       clear hd
       go_simp
       have V:=HV.out
       exact hK _ _ ⟨fun s=>if s=46 then Value.int IntKind.i64 ↑j else z s,_,rfl,hid ⟨V.1,V.2.1,V.2.2.1,V.2.2.2.1,V.2.2.2.2.1,V.2.2.2.2.2.1,V.2.2.2.2.2.2.1,V.2.2.2.2.2.2.2.1,V.2.2.2.2.2.2.2.2.1,V.2.2.2.2.2.2.2.2.2.1,fun _=>rfl,V.2.2.2.2.2.2.2.2.2.2.2.1,V.2.2.2.2.2.2.2.2.2.2.2.2⟩,HW,HX⟩
      ·rintro b a wy hb hd ⟨z,z48,rfl,HV,HW,HX⟩ K hK
       simp [Region.binds] at hd
       have e9:(z 45) = .slice (some ⟨g1,0,none⟩) m1.length d1:=(HV.out.2.2.2.2.2.2.2.2.2.1) (by simp [hd])
       have e10:(z 46)=Value.int IntKind.i64 ↑j:=(HV.out.2.2.2.2.2.2.2.2.2.2.1) (by simp [hd])
       clear hd
       go_simp
       go_at_call 166
       refine (part_int j HI.out.2 (HSR.out.hd1 HK2.out) (HSR.out.hd1m HK2.out) HSR.out.hm).mono ?_
       rintro e wz ⟨rfl,rfl⟩
       try go_simp
       have V:=HV.out
       exact hK _ _ ⟨fun s=>if s=47 then .slice (some ⟨g1,j*61,none⟩) (min 61 (m1.length-j*61)) (d1-j*61) else if s=45 then .slice (some ⟨g1,0,none⟩) m1.length d1 else if s=46 then Value.int IntKind.i64 ↑j else z s,_,rfl,hid ⟨V.1,V.2.1,V.2.2.1,V.2.2.2.1,V.2.2.2.2.1,V.2.2.2.2.2.1,V.2.2.2.2.2.2.1,V.2.2.2.2.2.2.2.1,V.2.2.2.2.2.2.2.2.1,fun _=>rfl,fun _=>rfl,fun _=>rfl,V.2.2.2.2.2.2.2.2.2.2.2.2⟩,HW,HX⟩
      ·rintro b a wy hb hd ⟨z,z48,rfl,HV,HW,HX⟩ K hK
       simp [Region.binds] at hd
       have e11:(z 47) = .slice (some ⟨g1,j*61,none⟩) (min 61 (m1.length-j*61)) (d1-j*61):=(HV.out.2.2.2.2.2.2.2.2.2.2.2.1) (by simp [hd])
       clear hd
       obtain ⟨X0,X1,X2,X3⟩:=HX.out
       have b13:b 13=false:=by
        rcases Bool.eq_false_or_eq_true (b 13) with e | e
        ·exact absurd (hb.symm.trans (X3 e).1) (by decide)
        ·exact e
       have HC:=hid (And.intro X0 (And.intro (X1 b13) b13))
       have HSY:=hid (HVW.out wy (HW0.out.trans (HO.out.trans X0)))
       clear X0 X1 X2 X3 b13 HX
       go_simp
       go_at_call 165
       refine (as_part HSY.out (HI.out.2)).mono ?_
       rintro e wz ⟨g,rfl,hrow,hlo,kz⟩
       try go_simp
       have V:=HV.out
       exact hK _ _ ⟨fun s=>if s=47 then .slice (some ⟨g1,j*61,none⟩) (min 61 (m1.length-j*61)) (d1-j*61) else z s,_,rfl,hid ⟨V.1,V.2.1,V.2.2.1,V.2.2.2.1,V.2.2.2.2.1,V.2.2.2.2.2.1,V.2.2.2.2.2.2.1,V.2.2.2.2.2.2.2.1,V.2.2.2.2.2.2.2.2.1,V.2.2.2.2.2.2.2.2.2.1,V.2.2.2.2.2.2.2.2.2.2.1,fun _=>rfl,V.2.2.2.2.2.2.2.2.2.2.2.2⟩,hid (HW.out.trans (kz.mono (Nat.zero_le _))),hid ⟨HC.out.1.trans (Off.of_below _ _ _ kz (Nat.le_refl _)),fun _=>HC.out.2.1.below kz,fun _ _=>⟨g,rfl,hrow⟩,fun e=>absurd (HC.out.2.2.symm.trans e) (by decide)⟩⟩
      ·rintro b a wy hb hd ⟨z,z48,rfl,HV,HW,HX⟩ K hK
       simp [Region.binds] at hd
       have e0:(z 36)=Value.pointer (some ⟨P,0,none⟩):=(HV.out.1) (by simp [hd])
       have e6:(z 42) = .int .i64 ((m2.getD j 0:Nat):Int):=(HV.out.2.2.2.2.2.2.1) (by simp [hd])
       have dd12:b 12=true:=by simp [hd]
       clear hd
       obtain ⟨X0,X1,X2,X3⟩:=HX.out
       obtain ⟨g,zz,hrow⟩:=X2 dd12 hb
       subst zz
       have HC:=hid (And.intro X0 (And.intro (X1 hb) hrow))
       have HSY:=hid (HVW.out wy (HW0.out.trans (HO.out.trans X0)))
       have hbw:B≤wy.heap.size:=Nat.le_trans hvw (HW0.out.trans (HO.out.trans X0)).size
       clear X0 X1 X2 X3 hrow HX
       go_simp
       go_at_call 163
       refine (prow4 HC.out.2.1 hbw (by have:=HLN.out; omega) (m2.getD j 0) (wd_row HC.out.2.2 (min 61 (m1.length-j*61)) (length_dirW _ _) (by omega)) (by omega)).mono ?_
       rintro e wz ⟨rfl,hp,ho⟩
       try go_simp
       have V:=HV.out
       exact hK _ _ ⟨fun s=>if s=49 then .tuple #[] else if s=36 then Value.pointer (some ⟨P,0,none⟩) else if s=42 then .int .i64 ((m2.getD j 0:Nat):Int) else z s,_,rfl,hid ⟨fun _=>rfl,V.2.1,V.2.2.1,V.2.2.2.1,V.2.2.2.2.1,V.2.2.2.2.2.1,fun _=>rfl,V.2.2.2.2.2.2.2.1,V.2.2.2.2.2.2.2.2.1,V.2.2.2.2.2.2.2.2.2.1,V.2.2.2.2.2.2.2.2.2.2.1,V.2.2.2.2.2.2.2.2.2.2.2.1,fun _=>rfl⟩,hid (HW.out.trans ⟨ho.os,ho.tape,ho.output,ho.size,fun k hk=>absurd hk (Nat.not_lt_zero k)⟩),hid ⟨HC.out.1.trans ho,fun e=>(by cases e),fun _ e=>(by cases e),fun _=>⟨dd12,hp⟩⟩⟩
     case doneE =>
      rintro b a w9 hb ⟨z,z48,rfl,HV,HW,HX⟩
      have e0:=(HV.out.1) (hb 0)
      have e1:=(HV.out.2.1) (hb 1)
      have e2:=(HV.out.2.2.1) (hb 2)
      have e3:=(HV.out.2.2.2.1) (hb 3)
      have e4:=(HV.out.2.2.2.2.1) (hb 4)
      have e5:=(HV.out.2.2.2.2.2.1) (hb 5)
      have e6:=(HV.out.2.2.2.2.2.2.1) (hb 6)
      have e7:=(HV.out.2.2.2.2.2.2.2.1) (hb 7)
      have e8:=(HV.out.2.2.2.2.2.2.2.2.1) (hb 8)
      have e9:=(HV.out.2.2.2.2.2.2.2.2.2.1) (hb 9)
      have e10:=(HV.out.2.2.2.2.2.2.2.2.2.2.1) (hb 10)
      have e11:=(HV.out.2.2.2.2.2.2.2.2.2.2.2.1) (hb 11)
      have e13:=(HV.out.2.2.2.2.2.2.2.2.2.2.2.2) (hb 13)
      simp only [e0,e1,e2,e3,e4,e5,e6,e7,e8,e9,e10,e11,e13]
      clear HV e0 e1 e2 e3 e4 e5 e6 e7 e8 e9 e10 e11 e13
      obtain ⟨X0,_,_,X3⟩:=HX.out
      have H9:=hid (And.intro X0 (X3 (hb 13)).2)
      clear HX HW hb X0 X3
      go_wp2_with fail
      go_roundw
      case rel=>exact ⟨k+1,by omega,by go_num,hid (by rw [HNX.out,← List.append_assoc,← HLE.out]; exact H9.out.2),hid (HO.out.trans H9.out.1)⟩
      case measure=>simp [Go.RowKit.intOf]; omega
    ·have hki : ¬(k:Int)<(k2.length:Int):=by omega
     obtain rfl:k=k2.length:=by omega
     rw [List.take_length] at HP
     go_wp2_with fail
     go_end0
     refine ⟨rfl,?_,HW0.out.trans HO.out⟩
     have:=HP.out
     rw [HLL.out,List.append_assoc] at this
     exact this
end Go.Proofs.YtogchamogbendaaGreat.Bs
namespace Go.Proofs.YtogchamogbendaaGreat.Bs
open Lib (hid)
open Go.RowKit Oct Mv Tl Pk Pl Go.Maps Go.ChangeMaps
open Dsk (dT)
def doStep (D:Dsk.St):Stp→Dsk.St
 | .w p bs=>D.wrote p bs
 | .f=>D.flushed
def doSteps (D:Dsk.St) (l:List Stp):Dsk.St:=l.foldl doStep D
def Stp.ok (n:Nat):Stp→Prop
 | .w p _=>p<n
 | .f=>True
theorem doStep_n {D:Dsk.St} (h:Calm D) (s:Stp):(doStep D s).n=D.n:=by
 cases s with
 | w p bs=>rfl
 | f=>exact n_flushed h
theorem doStep_calm {D:Dsk.St} (h:Calm D) (s:Stp):Calm (doStep D s):=by
 cases s with
 | w p bs=>exact h.wrote p bs
 | f=>exact h.flushed
theorem doStep_w (D:Dsk.St) (s:Stp):(doStep D s).W.length≤D.W.length+1:=by
 cases s with
 | w p bs=>simp [doStep,Dsk.St.wrote]
 | f=>simp [doStep,w_flushed]
theorem doSteps_all : ∀(l:List Stp) (D:Dsk.St),Calm D→(doSteps D l).n=D.n∧Calm (doSteps D l)∧(doSteps D l).W.length≤D.W.length+l.length
 | [],D,h=>⟨rfl,h,Nat.le_refl _⟩
 | s :: l,D,h=>by
  obtain ⟨h1,h2,h3⟩:=doSteps_all l (doStep D s) (doStep_calm h s)
  refine ⟨h1.trans (doStep_n h s),h2,Nat.le_trans h3 ?_⟩
  have:=doStep_w D s
  simp only [List.length_cons]
  omega
theorem doSteps_snoc (D:Dsk.St) (l:List Stp) (s:Stp):doSteps D (l ++ [s])=doStep (doSteps D l) s:=by simp [doSteps,List.foldl_append]
section
variable {Pr:Nat→Prop} {w:World} {B P d:Nat} {D:Dsk.St} {l:List Stp}
def StpOut (Pr:Nat→Prop) (d:Nat) (D:Dsk.St) (w:World) (e:Ending) (w':World):Prop:=e = .returned (.int .i64 0)∧DIs Pr w' d D∧Off dT Pr [] w w'
set_option maxHeartbeats 1000000 in
theorem wr1_any {us:List Value} (hp:RowV w P 180 (.pointer (some ⟨d,0,none⟩) :: us)) (hd:DIs Pr w d D) (hc:Calm D) (hP : ∀k,Pr k→k<w.heap.size) (hfew:D.W.length<1000000) {b3 b4 b5 p g c:Nat} {bs:List UInt8}
  (r3:RowV w b3 165 [.pointer (some ⟨P,0,none⟩)]) (r4:RowV w b4 3 [.int .i64 (p:Int)]) (r5:RowV w b5 45 [.slice (some ⟨g,0,none⟩) 128 c]) (hb:Byt w g bs) (hl:bs.length=128) (hpn:p<D.n) :
  Calls Tryz.prog 161 #[.pointer (some ⟨b3,0,none⟩),.pointer (some ⟨b4,0,none⟩),.pointer (some ⟨b5,0,none⟩)] w (StpOut Pr d (D.wrote p bs) w):=by
 have c0:=hp.cellAt (i:=0) rfl
 have c3:=r3.cellAt (i:=0) rfl
 have c4:=r4.cellAt (i:=0) rfl
 have c5:=r5.cellAt (i:=0) rfl
 have HD:=hid (show DIs Pr w.drew d D from hd.below ((show Still w w.drew from ⟨rfl,rfl,rfl,rfl⟩).below _))
 have HB:=hid (show Byt w.drew g bs from hb)
 have HO:=hid (show Off dT Pr [] w w.drew from Off.of_below _ _ _ ((show Still w w.drew from ⟨rfl,rfl,rfl,rfl⟩).below _) (Nat.le_refl _))
 have HP:=hid (show ∀k,Pr k→k<w.drew.heap.size from hP)
 clear hp hd r3 r4 r5 hb hP
 go_enter Tryz.func161,Tryz.ntmps161
 go_upto_region 1 with (fail)
 go_still_tail 6,(by kernel_rfl)
 change wpList _ _ _ _ _ w.drew
 clear c0 c3 c4 c5
 generalize w.drew=w1 at *
 go_wp2_with fail
 refine (dwrite HD.out hc HP.out hfew p hpn (some ⟨g,0,none⟩) c bs hl (fun w' k=>(HB.out.off k (by simp) rfl).told)).mono ?_
 rintro e w2 ⟨rfl,h1,h2⟩
 have H1:=hid h1
 have H2:=hid h2
 clear h1 h2
 go_wp2_with fail
 go_ret
 exact ⟨rfl,H1.out,HO.out.trans H2.out⟩
def RowSteps (w:World) (g:Nat) (vs:List Value) (n:Nat):Prop := ∃cur,w.heap[g]?=some (.cells cur 242 (0,0)) ∧ ∀i,i<n→cur[i]?=some (vs.getD i undef)
theorem RowSteps.off {w w':World} {g n i:Nat} {vs:List Value} (h:RowSteps w g vs n) (k:Off dT Pr [] w w') (hi:i<n):w'.cell? ⟨g,i,none⟩=some (vs.getD i undef):=by
 obtain ⟨cur,hg,hc⟩:=h
 have e:w'.heap[g]?=some (.cells cur 242 (0,0)):=(k.block g (lt_of_heap hg) (by simp) (.inr fun cs t fr e=>by rw [hg] at e; cases e; rfl)).trans hg
 rw [cell_of_row w' g i _ _ _ e]
 exact hc i hi
set_option maxHeartbeats 2000000 in
theorem prun (hp:Pln w B P d l) (hd:DIs Pr w d D) (hc:Calm D) (hP : ∀k,Pr k→k<w.heap.size) (hfew:D.W.length+l.length<900000) (hok : ∀s∈l,Stp.ok D.n s) :
  Calls Tryz.prog 88 #[.pointer (some ⟨P,0,none⟩)] w (StpOut Pr d (doSteps D l) w):=by
 obtain ⟨sv,vs,hr,hBP,ho,hs⟩:=hp
 have HP0:=hid (show Pln w B P d l from ⟨sv,vs,hr,hBP,ho,hs⟩)
 have HV:=hid (And.intro hr (And.intro ho hs))
 have HD:=hid hd
 have HPR:=hid hP
 have HOK:=hid hok
 have hln:l.length≤900000:=by omega
 have hlni:(l.length:Int)≤900000:=by omega
 have c1:=hr.cellAt (i:=1) rfl
 obtain ⟨A,cap,hv,hwc,hm,hA⟩ : ∃A cap,sv = .slice A l.length cap∧l.length≤cap∧cap≤maxLen∧(0<l.length → ∃g,A=some ⟨g,0,none⟩∧RowSteps w g vs l.length):=by
  rcases ho.2 with ⟨rfl,h0⟩ | ⟨g,cap,cur,rfl,_,hg,h1,h2,h3,h4⟩
  ·exact ⟨none,0,by rw [h0],by omega,by unfold maxLen; omega,fun h=>by omega⟩
  ·refine ⟨_,cap,rfl,h1,h2,fun _=>⟨g,rfl,cur,hg,fun i hi => ?_⟩⟩
   rw [Nat.mul_one] at h4
   have hl:=ho.1
   rw [Nat.mul_one] at hl
   rw [← h4,List.getD_eq_getElem?_getD,List.getElem?_take,if_pos hi,Array.getElem?_toList]
   have:i<cur.size:=by rw [h3]; omega
   rw [Array.getElem?_eq_getElem this]
   rfl
 subst hv
 have HA:=hid hA
 clear hr ho hs hd hP hok hA
 go_enter Tryz.func88,Tryz.ntmps88
 go_wp2_with fail
 clear c1
 go_loopw [11] (fun i wr => ∃k:Nat,k≤l.length∧i = .int .i64 (k:Int)∧Hid (DIs Pr wr d (doSteps D (l.take k)))∧Hid (Off dT Pr [] w wr)) (fun i _=>l.length-(Go.RowKit.intOf i).toNat)
 case atStart=>exact ⟨0,Nat.zero_le _,rfl,by rw [List.take_zero]; exact HD,hid (Off.refl _ _ _ _)⟩
 case round =>
  obtain ⟨k,hk,rfl,HDr,HO⟩:=hrel
  by_cases hlt:k<l.length
  ·have hki:(k:Int)<(l.length:Int):=by omega
   have hge:(0:Int)≤(k:Int):=by omega
   obtain ⟨g,rfl,hg⟩:=HA.out (by omega)
   have cv:=hg.off HO.out hlt
   have HST:=hid ((HV.out.2.2 k hlt).off HO.out rfl rfl rfl rfl)
   have HRW:=hid (HO.out.rowV HV.out.1 (by simp) rfl)
   have HTK:=hid (show doSteps D (l.take (k+1))=doStep (doSteps D (l.take k)) l[k] by
    rw [List.take_add_one,List.getElem?_eq_getElem hlt]
    exact doSteps_snoc _ _ _)
   obtain ⟨e1,e2,e3⟩:=doSteps_all (l.take k) D hc
   have HCN:=hid (And.intro e1 (And.intro e2 e3))
   have HKO:=hid (HOK.out l[k] (List.getElem_mem hlt))
   have HL:=hid (show (l.take k).length≤l.length by rw [List.length_take]; omega)
   clear hg e1 e2 e3
   have HTL:=hid (show (doSteps D (l.take k)).W.length<1000000 by have:=HCN.out.2.2; have:=HL.out; omega)
   generalize l[k]=st at *
   generalize vs.getD k undef=fv at *
   have ba:=(Below.refl wr.heap.size wr).alloc (Nat.le_refl _) (.cells #[fv] 242)
   have HBA:=hid ba
   have HDa:=hid (HDr.out.below ba)
   have HOa:=hid (HO.out.trans (Off.of_below dT Pr [] ba (Nat.le_refl _)))
   have HRa:=hid (HRW.out.below HRW.out.lt ba)
   have HPa:=hid (show ∀j,Pr j→j<(wr.alloc (.cells #[fv] 242)).heap.size from fun j hj=>Nat.lt_of_lt_of_le (HPR.out j hj) HOa.out.size)
   have HSa:=hid (HST.out.off (Off.of_below dT Pr [] ba (Nat.le_refl _)) rfl rfl rfl rfl)
   clear ba HDr HO HRW HST
   cases st with
   | f =>
    have hf:fv = .func (.func 162) #[.pointer (some ⟨d,0,none⟩)] #[]:=HSa.out
    subst hf
    go_wp2_with fail
    refine (dflush HDa.out HCN.out.2.1).mono ?_
    rintro e w2 ⟨rfl,h1,h2⟩
    have H1:=hid (show DIs Pr w2 d (doSteps D (l.take (k+1))) from by rw [HTK.out]; exact h1)
    have H2:=hid (HOa.out.trans h2)
    clear h1 h2 cv
    go_wp2_with fail
    go_roundw
    case rel=>exact ⟨k+1,by omega,by go_num,H1,H2⟩
    case measure=>simp [Go.RowKit.intOf]; omega
   | w p bs =>
    obtain ⟨b3,b4,b5,g',c,hf,r3,r4,r5,hb,hl⟩:=HSa.out
    have HRR:=hid (And.intro r3 (And.intro r4 (And.intro r5 (And.intro hb hl))))
    clear r3 r4 r5 hb hl
    subst hf
    go_wp2_with fail
    refine (wr1_any HRa.out HDa.out HCN.out.2.1 HPa.out HTL.out HRR.out.1 HRR.out.2.1 HRR.out.2.2.1 HRR.out.2.2.2.1 HRR.out.2.2.2.2 (by have:=HKO.out; rw [HCN.out.1]; exact this)).mono ?_
    rintro e w2 ⟨rfl,h1,h2⟩
    have H1:=hid (show DIs Pr w2 d (doSteps D (l.take (k+1))) from by rw [HTK.out]; exact h1)
    have H2:=hid (HOa.out.trans h2)
    clear h1 h2 cv
    go_wp2_with fail
    go_roundw
    case rel=>exact ⟨k+1,by omega,by go_num,H1,H2⟩
    case measure=>simp [Go.RowKit.intOf]; omega
  ·have hki : ¬(k:Int)<(l.length:Int):=by omega
   obtain rfl:k=l.length:=by omega
   rw [List.take_length] at HDr
   go_wp2_with fail
   go_ret
   exact ⟨rfl,HDr.out,HO.out⟩
end
end Go.Proofs.YtogchamogbendaaGreat.Bs
