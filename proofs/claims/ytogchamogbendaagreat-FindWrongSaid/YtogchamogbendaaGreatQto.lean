import Derived.Laws.StructEq
import Derived.WalkKit
import Derived.ProofKit
import Derived.Test.YtogchamogbendaaGreatQtn
set_option maxRecDepth 100000
set_option linter.unusedVariables false
set_option linter.unusedSimpArgs false
namespace Go.Proofs.YtogchamogbendaaGreat.Su
open Lib (hid)
open Go.RowKit Go.Shelf Oct Sf
def Counts (k:Nat) (ps:List UInt8):Prop:=Holds ps∧nth (sIn ps) 0 % 2=k
instance (k:Nat) (ps:List UInt8):Decidable (Counts k ps):=by unfold Counts; infer_instance
def Later (a b:List UInt8):Prop:=Counts 1 b ∧ ¬(Counts 0 a∧nth (sIn b) 0<nth (sIn a) 0)
instance (a b:List UInt8):Decidable (Later a b):=by unfold Later; infer_instance
def psup (a b:List UInt8):Sup:=if Later a b then sIn b else if Counts 0 a then sIn a else zero18
def pslot (a b:List UInt8):Int:=if Later a b then 1 else 0
def perr (a b:List UInt8):Int:=if Later a b then 0 else if Counts 0 a then 0 else 60
theorem ok_psup (a b:List UInt8):Ok (psup a b):=by unfold psup; split; exact ok_sIn b; split; exact ok_sIn a; exact ok_zero
def better (k:Nat) (ps:List UInt8) (s:Sup):Sup:=if Holds ps∧nth (sIn ps) 0 % 2=k∧nth s 0<nth (sIn ps) 0 then sIn ps else s
theorem gen_pos {ps:List UInt8} (h:Holds ps):1≤nth (sIn ps) 0:=h.2.2.1.1
theorem nth_zero:nth zero18 0=0:=rfl
theorem best_pick (a b:List UInt8):(nth (better 1 b (better 0 a zero18)) 0=0→psup a b=zero18∧pslot a b=0∧perr a b=60) ∧
  (nth (better 1 b (better 0 a zero18)) 0≠0→psup a b=better 1 b (better 0 a zero18)∧pslot a b=((nth (better 1 b (better 0 a zero18)) 0 % 2:Nat):Int)∧perr a b=0):=by
 have e0:better 0 a zero18=if Counts 0 a then sIn a else zero18:=by
  unfold better
  by_cases h:Holds a
  ·have:=gen_pos h
   by_cases h2:nth (sIn a) 0 % 2=0
   ·rw [if_pos ⟨h,h2,by rw [nth_zero]; omega⟩,if_pos (show Counts 0 a from ⟨h,h2⟩)]
   ·rw [if_neg (fun q=>h2 q.2.1),if_neg (fun q:Counts 0 a=>h2 q.2)]
  ·rw [if_neg (fun q=>h q.1),if_neg (fun q:Counts 0 a=>h q.1)]
 rw [e0]
 by_cases ha:Counts 0 a
 ·rw [if_pos ha]
  have ga:=gen_pos ha.1
  have e1:better 1 b (sIn a)=if Later a b then sIn b else sIn a:=by
   unfold better
   by_cases hl:Later a b
   ·rw [if_pos hl,if_pos]
    have h1:=hl.2
    have h2:=hl.1.2
    have h3:=ha.2
    refine ⟨hl.1.1,hl.1.2,?_⟩
    have : ¬nth (sIn b) 0<nth (sIn a) 0:=fun q=>h1 ⟨ha,q⟩
    omega
   ·rw [if_neg hl,if_neg]
    rintro ⟨h1,h2,h3⟩
    exact hl ⟨⟨h1,h2⟩,fun q=>by have:=q.2; omega⟩
  rw [e1]
  unfold psup pslot perr
  by_cases hl:Later a b
  ·rw [if_pos hl,if_pos hl,if_pos hl,if_pos hl]
   have gb:=gen_pos hl.1.1
   have:=hl.1.2
   exact ⟨fun h=>by omega,fun _=>⟨rfl,by rw [this]; rfl,rfl⟩⟩
  ·rw [if_neg hl,if_neg hl,if_neg hl,if_neg hl,if_pos ha,if_pos ha]
   have:=ha.2
   exact ⟨fun h=>by omega,fun _=>⟨rfl,by rw [this]; rfl,rfl⟩⟩
 ·rw [if_neg ha]
  have e1:better 1 b zero18=if Later a b then sIn b else zero18:=by
   unfold better
   by_cases hl:Later a b
   ·have gb:=gen_pos hl.1.1
    rw [if_pos hl,if_pos ⟨hl.1.1,hl.1.2,by rw [nth_zero]; omega⟩]
   ·rw [if_neg hl,if_neg]
    rintro ⟨h1,h2,h3⟩
    exact hl ⟨⟨h1,h2⟩,fun q=>ha q.1⟩
  rw [e1]
  unfold psup pslot perr
  by_cases hl:Later a b
  ·rw [if_pos hl,if_pos hl,if_pos hl,if_pos hl]
   have gb:=gen_pos hl.1.1
   have:=hl.1.2
   exact ⟨fun h=>by omega,fun _=>⟨rfl,by rw [this]; rfl,rfl⟩⟩
  ·rw [if_neg hl,if_neg hl,if_neg hl,if_neg hl,if_neg ha,if_neg ha]
   exact ⟨fun _=>⟨rfl,rfl,rfl⟩,fun h=>absurd nth_zero h⟩
theorem results_sup3 {fn:Func} {p u v:Tmp} (h:fn.results = #[.cell p 69,.tmp u,.tmp v]) (tmps:Array Value) (w:World) (g:Nat) (s:Sup)
  (hp:tmps.getD p undef = .pointer (some ⟨g,0,none⟩)) (R:RowV w g 69 (scells s)):(results fn tmps).run Tryz.prog w = .ok (.tuple #[sval s,tmps.getD u undef,tmps.getD v undef]) w:=by
 have hl:=run_loadVar_row w g _ _ _ _ _ R Tryz.underlying69 rfl (size_scells s)
 simp only [results,h]
 simp only [Array.getD_eq_getD_getElem?] at hp
 simp [Result.andThen,hp,asAddr,hl,sval]
def bst (a b:List UInt8) (k:Nat):Sup:=if k=0 then zero18 else if k=1 then better 0 a zero18 else better 1 b (better 0 a zero18)
structure Bts (w:World) (A:Option Addr) (n c:Nat) (ps:List UInt8):Prop where
 len:ps.length=n
 told:Oct.Told w A ps
 le:n≤c
 cap:c≤maxLen
theorem told_below {w w':World} {A:Option Addr} {ps:List UInt8} (h:Oct.Told w A ps) (k:Below w.heap.size w w'):Oct.Told w' A ps:=by
 rcases h with h | ⟨b,o,rfl,h⟩
 ·exact .inl h
 ·by_cases h0:0<ps.length
  ·exact .inr ⟨b,o,rfl,h.below (has_lt' h h0) k⟩
  ·exact .inl (List.eq_nil_of_length_eq_zero (by omega))
theorem Bts.below {w w':World} {A:Option Addr} {n c:Nat} {ps:List UInt8} (h:Bts w A n c ps) (k:Below w.heap.size w w'):Bts w' A n c ps:=⟨h.len,told_below h.told k,h.le,h.cap⟩
theorem Bts.page {w:World} {g:Nat} {ps:List UInt8} (h:Has w g 0 ps) (hl:ps.length=128):Bts w (some ⟨g,0,none⟩) 128 128 ps:=⟨hl,h.told,Nat.le_refl _,by decide⟩
theorem decode_bts {A:Option Addr} {n c:Nat} {ps:List UInt8} {w:World} (h:Bts w A n c ps) :
  Calls Tryz.prog 188 #[.slice A n c] w fun e w'=>e = .returned (.tuple #[sval (dsup ps),.int .i64 (derr ps)])∧Below w.heap.size w w':=decode_any A n c ps h.len w h.told h.le h.cap
theorem run_two (x y:Value) (k:Nat) (hk:k<2) (w:World):(Instr.index 221 (.agg #[x,y]) (.int .i64 (k:Int))).run Tryz.prog w = .ok (if k=0 then x else y) w:=by
 unfold Instr.index
 rcases (show k=0∨k=1 by omega) with rfl | rfl
 ·simp [go_sem]
 ·simp [go_sem]
set_option maxHeartbeats 4000000 in
theorem pick_any {A B:Option Addr} {n c m d:Nat} {a b:List UInt8} {w:World} (h1:Bts w A n c a) (h2:Bts w B m d b) :
  Calls Tryz.prog 136 #[.slice A n c,.slice B m d] w fun e w'=>e = .returned (.tuple #[sval (psup a b),.int .i64 (pslot a b),.int .i64 (perr a b)])∧Below w.heap.size w w':=by
 have HR:=hid (show RowV (w.alloc (.cells #[(.int .u64 0),(.int .u32 0),(.int .u32 0),(.int .u32 0),(.int .u32 0),(.int .u32 0),(.int .u32 0),(.int .u32 0),(.int .u32 0),(.int .u32 0),(.int .u64 0),(.int .u64 0),(.int .u64 0),(.int .u64 0),(.int .u64 0),(.int .u64 0),(.int .u64 0),(.int .u64 0)] 69)) w.heap.size 69 (scells zero18) from alloc_rowV w 69 (scells zero18))
 have HB:=hid ((Below.refl w.heap.size w).alloc (Nat.le_refl _) (.cells #[(.int .u64 0),(.int .u32 0),(.int .u32 0),(.int .u32 0),(.int .u32 0),(.int .u32 0),(.int .u32 0),(.int .u32 0),(.int .u32 0),(.int .u32 0),(.int .u64 0),(.int .u64 0),(.int .u64 0),(.int .u64 0),(.int .u64 0),(.int .u64 0),(.int .u64 0),(.int .u64 0)] 69))
 have HP:=hid (best_pick a b)
 have H1:=hid h1
 have H2:=hid h2
 have HIX:=hid (run_two (.slice A n c) (.slice B m d))
 clear h1 h2
 go_enter Tryz.func136,Tryz.ntmps136
 go_upto_region 1 with (fail)
 generalize w.alloc (.cells #[(.int .u64 0),(.int .u32 0),(.int .u32 0),(.int .u32 0),(.int .u32 0),(.int .u32 0),(.int .u32 0),(.int .u32 0),(.int .u32 0),(.int .u32 0),(.int .u64 0),(.int .u64 0),(.int .u64 0),(.int .u64 0),(.int .u64 0),(.int .u64 0),(.int .u64 0),(.int .u64 0)] 69)=w1 at *
 have HR2:=hid (show RowV (w1.alloc (.cells #[(.int .u64 0),(.int .u32 0),(.int .u32 0),(.int .u32 0),(.int .u32 0),(.int .u32 0),(.int .u32 0),(.int .u32 0),(.int .u32 0),(.int .u32 0),(.int .u64 0),(.int .u64 0),(.int .u64 0),(.int .u64 0),(.int .u64 0),(.int .u64 0),(.int .u64 0),(.int .u64 0)] 69)) w1.heap.size 69 (scells zero18) from alloc_rowV w1 69 (scells zero18))
 have b2:=(Below.refl w1.heap.size w1).alloc (Nat.le_refl _) (.cells #[(.int .u64 0),(.int .u32 0),(.int .u32 0),(.int .u32 0),(.int .u32 0),(.int .u32 0),(.int .u32 0),(.int .u32 0),(.int .u32 0),(.int .u32 0),(.int .u64 0),(.int .u64 0),(.int .u64 0),(.int .u64 0),(.int .u64 0),(.int .u64 0),(.int .u64 0),(.int .u64 0)] 69)
 go_upto_region 2 with (fail)
 generalize w1.alloc (.cells #[(.int .u64 0),(.int .u32 0),(.int .u32 0),(.int .u32 0),(.int .u32 0),(.int .u32 0),(.int .u32 0),(.int .u32 0),(.int .u32 0),(.int .u32 0),(.int .u64 0),(.int .u64 0),(.int .u64 0),(.int .u64 0),(.int .u64 0),(.int .u64 0),(.int .u64 0),(.int .u64 0)] 69)=w2 at *
 have HRR:=hid (HR.out.below HR.out.lt b2)
 have hpq:w.heap.size<w1.heap.size:=HR.out.lt
 have HBB:=hid (HB.out.trans (b2.mono (by omega)))
 clear b2 HB HR
 generalize w1.heap.size=p at *
 have HST:Hid (∀k,k<2 → ∃X l e ps,Bts w X l e ps∧(if k=0 then Value.slice A n c else .slice B m d) = .slice X l e∧bst a b (k+1)=better k ps (bst a b k)):=hid (by
  intro k hk
  rcases (show k=0∨k=1 by omega) with rfl | rfl
  ·exact ⟨A,n,c,a,H1.out,rfl,rfl⟩
  ·exact ⟨B,m,d,b,H2.out,rfl,rfl⟩)
 go_wp2_with fail
 go_loopw [15] (fun i wr => ∃k:Nat,∃s:Sup,k≤2∧i = .int .i64 (k:Int)∧Hid (s=bst a b k)∧Hid (Ok s)∧Hid (RowV wr p 69 (scells s))∧Hid (RowV wr w.heap.size 69 (scells zero18))∧Hid (Below w.heap.size w wr)) (fun i _=>2-(intOf i).toNat)
 case atStart=>exact ⟨0,zero18,by omega,rfl,hid rfl,hid ok_zero,HR2,HRR,HBB⟩
 case round =>
  obtain ⟨k,s,hk,rfl,HS,HO,HQ,HR,HB⟩:=hrel
  clear HR2 HRR HBB
  by_cases hlt:k<2
  ·obtain ⟨X,l,ec,ps,hb,hx,hn⟩:=HST.out k hlt
   have hix:=HIX.out k hlt
   rw [hx] at hix
   have HDE:=hid (decode_bts (hb.below HB.out))
   have hk0:(0:Int)≤(k:Int):=by omega
   have HN:=hid (show bst a b (k+1)=better k ps s by rw [HS.out]; exact hn)
   clear hb hx hn
   have hixw:=fun w=>hix w
   clear hix
   go_upto_region 5 with (fail)
   go_wp2_with fail
   refine HDE.out.mono ?_
   rintro e w3 ⟨rfl,B3⟩
   have hst:=run_storeCells_new (P:=Tryz.prog) w3 69 #[(.int .u64 0),(.int .u32 0),(.int .u32 0),(.int .u32 0),(.int .u32 0),(.int .u32 0),(.int .u32 0),(.int .u32 0),(.int .u32 0),(.int .u32 0),(.int .u64 0),(.int .u64 0),(.int .u64 0),(.int .u64 0),(.int .u64 0),(.int .u64 0),(.int .u64 0),(.int .u64 0)] (scells (dsup ps)).toArray (size_scells _) (by simp [length_scells]) (one_scells _)
   have hlc:=length_scells (dsup ps)
   unfold sval
   go_upto_region 6 with (fail)
   clear hst hlc
   have R4:=alloc_rowV w3 69 (scells (dsup ps))
   have b4:=(Below.refl w3.heap.size w3).alloc (Nat.le_refl _) (.cells (scells (dsup ps)).toArray 69)
   generalize w3.alloc (.cells (scells (dsup ps)).toArray 69)=w4 at *
   have B4:=B3.trans (b4.mono B3.size)
   have HZ:=hid R4
   have HQ4:=hid (HQ.out.below HQ.out.lt B4)
   have HR4:=hid (HR.out.below HR.out.lt B4)
   have HB4:=hid (HB.out.trans (B4.mono HB.out.size))
   have hz1 : ¬(w3.heap.size=p):=by have:=HQ.out.lt; have:=B3.size; omega
   have c1:=HZ.out.cellAt (scells_at (dsup ps) 0 (by decide))
   have c2:=HQ4.out.cellAt (scells_at s 0 (by decide))
   rw [scell_wide _ _ (.inl rfl)] at c1 c2
   have hg1:=(ok_dsup ps).lt 0
   have hg2:=HO.out.lt 0
   clear R4 b4 B4 B3 HQ HR HB HDE
   generalize w3.heap.size=z at *
   by_cases hh:Holds ps
   ·have hd0:derr ps=0:=by unfold derr; rw [if_pos hh]
    have hds:dsup ps=sIn ps:=by unfold dsup; rw [if_pos hh]
    rw [hds] at c1 hg1 HZ
    have HSL:=hid (slot_any (nth (sIn ps) 0) hg1 w4)
    rw [hd0,hds]
    by_cases hs:nth (sIn ps) 0 % 2=k
    ·by_cases hgt:nth s 0<nth (sIn ps) 0
     ·have HN:=hid (HN.out.trans (show better k ps s=sIn ps by unfold better; rw [if_pos ⟨hh,hs,hgt⟩]))
      have hgi:(nth s 0:Int)<(nth (sIn ps) 0:Int):=by omega
      have hsi:((nth (sIn ps) 0:Nat):Int) % 2=(k:Int):=by omega
      clear hh hs
      go_wp2_with fail
      refine HSL.out.mono ?_
      rintro e w5 ⟨rfl,rfl⟩
      go_wp2_with (first | (refine wpList_store_row rfl 69 (.tmp 7) (.tmp 40) rfl p (scells (sIn ps)).toArray rfl rfl _ _ HQ4.out (size_scells _) (by simp [length_scells]) (one_scells _) ?_) | (refine wpList_load_row rfl 69 (.tmp 10) rfl z rfl _ (scells (sIn ps)).toArray _ _ HZ.out Tryz.underlying69 rfl (size_scells _) ?_))
      go_roundw
      case rel=>exact ⟨k+1,sIn ps,by omega,by go_num,hid HN.out.symm,hid (ok_sIn ps),hid (row_setRow_same HQ4.out),hid (row_setRow_other HR4.out _ (by omega)),hid (HB4.out.trans (setRow_below _ (by omega)))⟩
      case measure=>simp [intOf]; omega
     ·have HN:=hid (HN.out.trans (show better k ps s=s by unfold better; rw [if_neg (fun q=>hgt q.2.2)]))
      have hgi : ¬(nth s 0:Int)<(nth (sIn ps) 0:Int):=by omega
      have hsi:((nth (sIn ps) 0:Nat):Int) % 2=(k:Int):=by omega
      clear hh hs
      go_wp2_with fail
      refine HSL.out.mono ?_
      rintro e w5 ⟨rfl,rfl⟩
      go_wp2_with fail
      go_roundw
      case rel=>exact ⟨k+1,s,by omega,by go_num,hid HN.out.symm,HO,HQ4,HR4,HB4⟩
      case measure=>simp [intOf]; omega
    ·have HN:=hid (HN.out.trans (show better k ps s=s by unfold better; rw [if_neg (fun q=>hs q.2.1)]))
     have hsi : ¬((nth (sIn ps) 0:Nat):Int) % 2=(k:Int):=by omega
     clear hh
     go_wp2_with fail
     refine HSL.out.mono ?_
     rintro e w5 ⟨rfl,rfl⟩
     go_wp2_with fail
     go_roundw
     case rel=>exact ⟨k+1,s,by omega,by go_num,hid HN.out.symm,HO,HQ4,HR4,HB4⟩
     case measure=>simp [intOf]; omega
   ·have HN:=hid (HN.out.trans (show better k ps s=s by unfold better; rw [if_neg (fun q=>hh q.1)]))
    have hd0:derr ps=60:=by unfold derr; rw [if_neg hh]
    rw [hd0]
    clear hh
    go_wp2_with fail
    go_roundw
    case rel=>exact ⟨k+1,s,by omega,by go_num,hid HN.out.symm,HO,HQ4,HR4,HB4⟩
    case measure=>simp [intOf]; omega
  ·obtain rfl:k=2:=by omega
   have HBS:=hid (show s=better 1 b (better 0 a zero18) from HS.out)
   have c2:=HQ.out.cellAt (scells_at s 0 (by decide))
   rw [scell_wide _ _ (.inl rfl)] at c2
   have hg2:=HO.out.lt 0
   have hpw:=HQ.out.lt
   by_cases h0:nth s 0=0
   ·have HX:=hid (HP.out.1 (by rw [← HBS.out]; exact h0))
    have h0i:((nth s 0:Nat):Int)=0:=by omega
    rw [h0i] at c2
    clear h0 h0i
    go_wp2_with (first | (refine wpList_store_row rfl 69 (.tmp 4) (.tmp 45) rfl w.heap.size (scells zero18).toArray rfl rfl _ _ HR.out (size_scells _) (by simp [length_scells]) (one_scells _) ?_) | (refine wpList_build_as rfl 69 #[] rfl (scells zero18).toArray ?_ ?_; (simp [Act.eval]); exact built_zero))
    refine bodyPost_ret (results_sup3 rfl _ _ w.heap.size zero18 rfl (row_setRow_same HR.out)) rfl ⟨?_,HB.out.trans (setRow_below _ (Nat.le_refl _))⟩
    rw [HX.out.1,HX.out.2.1,HX.out.2.2]
    rfl
   ·have HX:=hid (HP.out.2 (by rw [← HBS.out]; exact h0))
    have h0i:(((nth s 0:Nat):Int)==0)=false:=by rw [beq_eq_false_iff_ne]; omega
    have h0j : ¬((nth s 0:Nat):Int)=0:=by omega
    have HSL:=hid (slot_any (nth s 0) hg2)
    clear h0
    have hpd:=hpw
    go_wp2_with fail
    refine Inv.wp_region_inv (fun b a wy => ∃y5 y6 y46 y47 y48 y49,a=⟨#[.slice A n c,.slice B m d,undef,undef,.pointer (some ⟨w.heap.size,0,none⟩),y5,y6,.pointer (some ⟨p,0,none⟩),u8,u9,u10,u11,.slice A n c,.slice B m d,.agg #[.slice A n c,.slice B m d],.int .i64 ((2:Nat):Int),.bool false,u17,u18,u19,u20,u21,u22,u23,u24,u25,u26,u27,u28,u29,u30,u31,u32,u33,u34,u35,u36,u37,u38,u39,u40,u41,.pointer (some ⟨p,0,none⟩),.int .u64 (nth s 0:Int),.bool false,undef,y46,y47,y48,y49],[]⟩∧Hid ((b 0=true→y46 = .agg (scells s).toArray)∧(b 1=true→y47 = .pointer (some ⟨p,0,none⟩))∧(b 2=true→y48 = .int .u64 (nth s 0:Int))∧(b 3=true→y49 = .int .i64 ((nth s 0 % 2:Nat):Int))∧(b 5=true→y5 = .int .i64 ((nth s 0 % 2:Nat):Int))∧(b 6=true→y6 = .int .i64 0))∧Hid (RowV wy p 69 (scells s)∧Below w.heap.size w wy ∧ ∃q:Sup,RowV wy w.heap.size 69 (scells q)∧(b 4=true→q=s))) (by kernel_rfl) (by kernel_rfl) ?start ?steps ?done
    case start =>
     intro b hb
     refine ⟨.int .i64 0,.int .i64 0,undef,undef,undef,undef,rfl,hid ⟨?_,?_,?_,?_,?_,?_⟩,hid ⟨HQ.out.still ⟨rfl,rfl,rfl,rfl⟩,HB.out.trans ((show Still wr wr.drew from ⟨rfl,rfl,rfl,rfl⟩).below _),zero18,HR.out.still ⟨rfl,rfl,rfl,rfl⟩,fun e=>by rw [hb _ (by decide)] at e; cases e⟩⟩
     all_goals (intro e; first | rfl | (rw [hb _ (by decide)] at e; cases e))
    case steps =>
     refine ⟨?_,?_,?_,?_,?_,?_,?_,trivial⟩
     ·rintro b a wy hb hd ⟨y5,y6,y46,y47,y48,y49,rfl,HV,HW⟩ K hK
      obtain ⟨h0,h1,h2,h3,h5,h6⟩:=HV.out
      obtain ⟨kq,kb,q,kr,k4⟩:=HW.out
      refine if_wanted rfl (wp_load_row 69 (.tmp 7) rfl p rfl _ (scells s).toArray _ _ kq Tryz.underlying69 rfl (size_scells _) ?_)
      exact hK _ _ ⟨_,_,_,_,_,_,rfl,hid ⟨fun _=>rfl,h1,h2,h3,h5,h6⟩,HW⟩
     ·rintro b a wy hb hd ⟨y5,y6,y46,y47,y48,y49,rfl,HV,HW⟩ K hK
      obtain ⟨h0,h1,h2,h3,h5,h6⟩:=HV.out
      obtain ⟨kq,kb,q,kr,k4⟩:=HW.out
      clear hd
      go_simp
      exact hK _ _ ⟨_,_,_,_,_,_,rfl,hid ⟨h0,fun _=>rfl,h2,h3,h5,h6⟩,HW⟩
     ·rintro b a wy hb hd ⟨y5,y6,y46,y47,y48,y49,rfl,HV,HW⟩ K hK
      obtain ⟨h0,h1,h2,h3,h5,h6⟩:=HV.out
      obtain ⟨kq,kb,q,kr,k4⟩:=HW.out
      simp [Region.binds] at hd
      obtain rfl:=h1 hd
      have hc:=kq.cellAt (scells_at s 0 (by decide))
      rw [scell_wide _ _ (.inl rfl)] at hc
      clear hd
      go_simp
      exact hK _ _ ⟨_,_,_,_,_,_,rfl,hid ⟨h0,h1,fun _=>rfl,h3,h5,h6⟩,HW⟩
     ·rintro b a wy hb hd ⟨y5,y6,y46,y47,y48,y49,rfl,HV,HW⟩ K hK
      obtain ⟨h0,h1,h2,h3,h5,h6⟩:=HV.out
      obtain ⟨kq,kb,q,kr,k4⟩:=HW.out
      simp [Region.binds] at hd
      obtain rfl:=h2 hd
      clear hd
      go_simp
      go_at_call 168
      refine (HSL.out wy).mono ?_
      rintro e w9 ⟨rfl,rfl⟩
      try go_simp
      exact hK _ _ ⟨_,_,_,_,_,_,rfl,hid ⟨h0,h1,h2,fun _=>rfl,h5,h6⟩,HW⟩
     ·rintro b a wy hb hd ⟨y5,y6,y46,y47,y48,y49,rfl,HV,HW⟩ K hK
      obtain ⟨h0,h1,h2,h3,h5,h6⟩:=HV.out
      obtain ⟨kq,kb,q,kr,k4⟩:=HW.out
      simp [Region.binds] at hd
      obtain rfl:=h0 (by first | exact hd | exact hd.1)
      refine if_wanted rfl (wp_store_row 69 (.tmp 4) (.tmp 46) rfl w.heap.size (scells s).toArray rfl rfl _ _ kr (size_scells _) (by simp [length_scells]) (one_scells _) ?_)
      exact hK _ _ ⟨_,_,_,_,_,_,rfl,hid ⟨h0,h1,h2,h3,h5,h6⟩,hid ⟨row_setRow_other kq _ (by have:=kr.lt; omega),kb.trans (setRow_below _ (Nat.le_refl _)),s,row_setRow_same kr,fun _=>rfl⟩⟩
     ·rintro b a wy hb hd ⟨y5,y6,y46,y47,y48,y49,rfl,HV,HW⟩ K hK
      obtain ⟨h0,h1,h2,h3,h5,h6⟩:=HV.out
      obtain ⟨kq,kb,q,kr,k4⟩:=HW.out
      simp [Region.binds] at hd
      obtain rfl:=h3 hd.1
      clear hd
      go_simp
      exact hK _ _ ⟨_,_,_,_,_,_,rfl,hid ⟨h0,h1,h2,h3,fun _=>rfl,h6⟩,HW⟩
     ·rintro b a wy hb hd ⟨y5,y6,y46,y47,y48,y49,rfl,HV,HW⟩ K hK
      obtain ⟨h0,h1,h2,h3,h5,h6⟩:=HV.out
      obtain ⟨kq,kb,q,kr,k4⟩:=HW.out
      clear hd
      go_simp
      exact hK _ _ ⟨_,_,_,_,_,_,rfl,hid ⟨h0,h1,h2,h3,h5,fun _=>rfl⟩,HW⟩
    case done =>
     rintro b a wy hb ⟨y5,y6,y46,y47,y48,y49,rfl,HV,HW⟩
     obtain ⟨h0,h1,h2,h3,h5,h6⟩:=HV.out
     obtain ⟨kq,kb,q,kr,k4⟩:=HW.out
     obtain rfl:=h5 (hb 5)
     obtain rfl:=h6 (hb 6)
     obtain rfl:=k4 (hb 4)
     have HKR:=hid kr
     have HKB:=hid kb
     clear kr kb k4 h5 h6 h0 h1 h2 h3 kq HV HW hb
     go_wp2_with fail
     refine bodyPost_ret (results_sup3 rfl _ _ w.heap.size _ rfl HKR.out) rfl ⟨?_,HKB.out⟩
     rw [HX.out.1,HX.out.2.1,HX.out.2.2,← HBS.out]
     rfl
end Go.Proofs.YtogchamogbendaaGreat.Su
namespace Go.Proofs.YtogchamogbendaaGreat.Su
open Go.RowKit Oct Sf
end Go.Proofs.YtogchamogbendaaGreat.Su
namespace Go.Proofs.YtogchamogbendaaGreat.Su
open Go.RowKit Go.Shelf Oct Sf
def sup (l:List Nat):Sup:=l++List.replicate (18-l.length) 0
def two:Sup:=sup [2,16]
def three:Sup:=sup [3,16]
def far:Sup:=two.set 9 16
def bare:Sup:=sup [0,16]
def small:Sup:=sup [1,15]
theorem ok_all (s:Sup) (h:s.length=18) (h1:s.all (fun n=>decide (n<4294967296))=true):Ok s:=by
 have key : ∀j,nth s j<4294967296:=fun j=>by
  by_cases hj:j<s.length
  ·have:=(List.all_eq_true.1 h1) s[j] (List.getElem_mem hj)
   simpa [nth,hj] using this
  ·rw [nth_over h j (by omega)]; decide
 exact ⟨h,fun j=>Nat.lt_trans (key j) (by decide),fun j _ _=>key j⟩
theorem ok_bare:Ok bare:=ok_all _ rfl rfl
theorem fit_two:Fit two:=by decide
theorem counts_page {s:Sup} (h:Ok s) (hf:Fit s) (k:Nat):Counts k (supPage s)↔nth s 0 % 2=k:=by
 unfold Counts
 rw [sIn_page h]
 exact ⟨fun q=>q.2,fun q=>⟨holds_page h hf,q⟩⟩
theorem head_page (s:Sup):(supPage s).head?=some 6:=rfl
theorem none_zeros (c:UInt8) (h:c≠6) : ¬Holds (List.replicate 128 c):=by
 rintro ⟨_,_,_,h4⟩
 have:=congrArg List.head? h4
 rw [head_page] at this
 simp at this
 exact h this.symm
theorem pick_bts {A B:Option Addr} {n c m d:Nat} {a b:List UInt8} {w:World} (h1:Bts w A n c a) (h2:Bts w B m d b) {s:Sup} {i e:Int} (h:psup a b=s∧pslot a b=i∧perr a b=e) :
  Calls Tryz.prog 136 #[.slice A n c,.slice B m d] w fun x w'=>x = .returned (.tuple #[.agg (scells s).toArray,.int .i64 i,.int .i64 e])∧Below w.heap.size w w':=by
 obtain ⟨rfl,rfl,rfl⟩:=h
 exact pick_any h1 h2
end Go.Proofs.YtogchamogbendaaGreat.Su
