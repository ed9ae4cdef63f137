import Derived.Deep.MidRow
import Derived.Deep.WholeRow
import Derived.Deep.RegionWith
import Derived.Deep.RegionHeld3
import Derived.Deep.DeepCutAuto
import Derived.Laws.Tables
import Derived.RangeFuncNested
import Derived.RangeFuncBox
import Derived.RangeFuncLeaves
import Derived.RangeFuncCalls
import Derived.Shelf.Abstract
import Derived.Shelf.RegionOpen
import Derived.OwnWalkIn
import Derived.TacticsInMore
import Derived.LoopNIn
import Derived.LoopIn
import Derived.Laws.ResultCell
import Derived.Test.YtogchamogbendaaGreatQtl
import Derived.Test.YtogchamogbendaaGreatQtm
import Derived.Test.YtogchamogbendaaGreatQtg
set_option maxRecDepth 100000
set_option linter.unusedVariables false
set_option linter.unusedSimpArgs false
namespace Go.Proofs.YtogchamogbendaaGreat.Su
open Go.RowKit Oct Sf
abbrev Sup:=List Nat
def nth (s:Sup) (j:Nat):Nat:=s.getD j 0
def scell (j n:Nat):Value:=if 1≤j∧j<10 then .int .u32 (n:Int) else .int .u64 (n:Int)
def scells (s:Sup):List Value:=(List.range 18).map fun j=>scell j (nth s j)
def sval (s:Sup):Value := .agg (scells s).toArray
theorem length_scells (s:Sup):(scells s).length=18:=by simp [scells]
theorem scells_at (s:Sup) (j:Nat) (h:j<18):(scells s)[j]?=some (scell j (nth s j)):=by simp [scells,h]
theorem scell_wide (j n:Nat) (h:j=0∨10≤j):scell j n = .int .u64 (n:Int):=by unfold scell; rw [if_neg (by omega)]
theorem scell_small (j n:Nat) (h:1≤j) (h2:j<10):scell j n = .int .u32 (n:Int):=by unfold scell; rw [if_pos ⟨h,h2⟩]
theorem scells_one (s:Sup) : ∀v∈scells s,v.oneCell'=true:=by
 intro v hv
 simp only [scells,List.mem_map] at hv
 obtain ⟨j,_,rfl⟩:=hv
 unfold scell
 split <;> rfl
structure Ok (s:Sup):Prop where
 len:s.length=18
 lt : ∀j,nth s j<18446744073709551616
 small : ∀j,1≤j→j<10→nth s j<4294967296
def Fit (s:Sup):Prop:=1≤nth s 0∧16≤nth s 1∧nth s 1≤4096 ∧ ∀i,i<8→nth s (2+i)<nth s 1
instance (s:Sup):Decidable (Fit s):=by unfold Fit; infer_instance
theorem sup_ext {s t:Sup} (hs:s.length=18) (ht:t.length=18) (h : ∀j,j<18→nth s j=nth t j):s=t:=by
 apply List.ext_getElem
 ·rw [hs,ht]
 ·intro i h1 h2
  have:=h i (by omega)
  simpa [nth,h1,h2] using this
def zero18:Sup:=List.replicate 18 0
theorem ok_zero:Ok zero18:=⟨rfl,fun j=>by unfold nth zero18; rw [List.getD_eq_getElem?_getD,List.getElem?_replicate]; split <;> decide,fun j _ _=>by unfold nth zero18; rw [List.getD_eq_getElem?_getD,List.getElem?_replicate]; split <;> decide⟩
def cont (s:Sup) (j:Nat):Nat:=if j=18 then nth s 0 else nth s j
def size (j:Nat):Nat:=if 1≤j∧j<10 then 4 else 8
def pos (j:Nat):Nat:=if j=0 then 0 else if j=1 then 8 else if j<10 then 12+4*(j-2) else if j<18 then 44+8*(j-10) else 115
def cvals (f:Nat→Nat):List Value:=(List.range 19).map fun j => .int .u64 (f j:Int)
theorem length_cvals (f:Nat→Nat):(cvals f).length=19:=by simp [cvals]
theorem cvals_at (f:Nat→Nat) (j:Nat) (h:j<19):(cvals f)[j]?=some (.int .u64 (f j:Int)):=by simp [cvals,h]
theorem cvals_one (f:Nat→Nat) : ∀v∈cvals f,v.oneCell'=true:=by
 intro v hv
 simp only [cvals,List.mem_map] at hv
 obtain ⟨j,_,rfl⟩:=hv
 rfl
def upd (f:Nat→Nat) (j v:Nat):Nat→Nat:=fun k=>if k=j then v else f k
theorem cvals_set (f:Nat→Nat) (j v:Nat):(cvals f).set j (.int .u64 (v:Int))=cvals (upd f j v):=by
 apply List.ext_getElem
 ·simp [cvals]
 ·intro i h1 h2
  rw [List.getElem_set]
  simp only [cvals,List.getElem_map,List.getElem_range,upd]
  by_cases h:j=i
  ·subst h; simp
  ·rw [if_neg h,if_neg (fun e=>h e.symm)]
def pieces (f:Nat→Nat):List (List UInt8) :=
  [bytesOf (f 0) 8,bytesOf (f 1) 4,bytesOf (f 2) 4,bytesOf (f 3) 4,bytesOf (f 4) 4,bytesOf (f 5) 4,bytesOf (f 6) 4,bytesOf (f 7) 4,bytesOf (f 8) 4,bytesOf (f 9) 4,
   bytesOf (f 10) 8,bytesOf (f 11) 8,bytesOf (f 12) 8,bytesOf (f 13) 8,bytesOf (f 14) 8,bytesOf (f 15) 8,bytesOf (f 16) 8,bytesOf (f 17) 8,List.replicate 7 0,bytesOf (f 18) 8]
def cbody (f:Nat→Nat):List UInt8:=(pieces f).flatten
theorem length_cbody (f:Nat→Nat):(cbody f).length=123:=by simp [cbody,pieces,length_bytesOf]
theorem cbody_zero:cbody (fun _=>0)=List.replicate 123 0:=by decide
def off (L:List (List UInt8)) (j:Nat):Nat:=((L.take j).map List.length).sum
theorem flat_put (L:List (List UInt8)) (j:Nat) (X:List UInt8) (s:Nat) (h:j<L.length) (hs:(L[j]).length=s):L.flatten.take (off L j)++X++L.flatten.drop (off L j+s)=(L.set j X).flatten:=by
 subst hs
 induction L generalizing j with
 | nil=>simp at h
 | cons a L ih =>
  cases j with
  | zero=>simp [off]
  | succ j =>
   have h':=ih j (by simpa using h)
   have e:off (a :: L) (j+1)=a.length+off L j:=by simp [off]
   rw [e,List.flatten_cons,List.take_length_add_append,Nat.add_assoc,List.drop_length_add_append,List.set_cons_succ,List.flatten_cons,← h']
   simp [List.append_assoc]
theorem flat_get (L:List (List UInt8)) (j:Nat) (h:j<L.length):(L.flatten.drop (off L j)).take (L[j]).length=L[j]:=by
 induction L generalizing j with
 | nil=>simp at h
 | cons a L ih =>
  cases j with
  | zero=>simp [off]
  | succ j =>
   have h':=ih j (by simpa using h)
   have e:off (a :: L) (j+1)=a.length+off L j:=by simp [off]
   rw [e,List.flatten_cons,List.drop_length_add_append]
   exact h'
theorem cases19 {P:Nat→Prop} (j:Nat) (h:j<19) (h0:P 0) (h1:P 1) (h2:P 2) (h3:P 3) (h4:P 4) (h5:P 5) (h6:P 6) (h7:P 7) (h8:P 8) (h9:P 9) (h10:P 10) (h11:P 11) (h12:P 12) (h13:P 13) (h14:P 14) (h15:P 15) (h16:P 16) (h17:P 17) (h18:P 18):P j:=by
 match j,h with
 | 0,_=>exact h0
 | 1,_=>exact h1
 | 2,_=>exact h2
 | 3,_=>exact h3
 | 4,_=>exact h4
 | 5,_=>exact h5
 | 6,_=>exact h6
 | 7,_=>exact h7
 | 8,_=>exact h8
 | 9,_=>exact h9
 | 10,_=>exact h10
 | 11,_=>exact h11
 | 12,_=>exact h12
 | 13,_=>exact h13
 | 14,_=>exact h14
 | 15,_=>exact h15
 | 16,_=>exact h16
 | 17,_=>exact h17
 | 18,_=>exact h18
 | n+19,h=>exact absurd h (by omega)
def idx (j:Nat):Nat:=if j=18 then 19 else j
theorem pieces_idx (f:Nat→Nat) (j:Nat) (h:j<19):(pieces f)[idx j]?=some (bytesOf (f j) (size j)):=by
 apply cases19 (P:=fun j=>(pieces f)[idx j]?=some (bytesOf (f j) (size j))) j h
 all_goals rfl
theorem pieces_off (f:Nat→Nat) (j:Nat) (h:j<19):off (pieces f) (idx j)=pos j:=by
 apply cases19 (P:=fun j=>off (pieces f) (idx j)=pos j) j h
 all_goals simp [off,pieces,idx,pos,length_bytesOf]
theorem pieces_set (f:Nat→Nat) (j v:Nat) (h:j<19):(pieces f).set (idx j) (bytesOf v (size j))=pieces (upd f j v):=by
 apply cases19 (P:=fun j=>(pieces f).set (idx j) (bytesOf v (size j))=pieces (upd f j v)) j h
 all_goals simp [pieces,idx,upd,size]
theorem cbody_put (f:Nat→Nat) (j v:Nat) (h:j<19):(cbody f).take (pos j)++bytesOf v (size j)++(cbody f).drop (pos j+size j)=cbody (upd f j v):=by
 obtain ⟨h1,h2⟩:=List.getElem?_eq_some_iff.1 (pieces_idx f j h)
 have:=flat_put (pieces f) (idx j) (bytesOf v (size j)) (size j) h1 (by rw [h2,length_bytesOf])
 rwa [pieces_off f j h,pieces_set f j v h] at this
theorem cbody_get (f:Nat→Nat) (j:Nat) (h:j<19):((cbody f).drop (pos j)).take (size j)=bytesOf (f j) (size j):=by
 obtain ⟨h1,h2⟩:=List.getElem?_eq_some_iff.1 (pieces_idx f j h)
 have:=flat_get (pieces f) (idx j) h1
 rwa [pieces_off f j h,h2,length_bytesOf] at this
theorem pos_size (j:Nat) (h:j<19):pos j+size j≤123:=by
 unfold pos size; repeat' split
 all_goals omega
theorem size_range (j:Nat):1≤size j∧size j≤8:=by unfold size; split <;> omega
theorem cont_lt {s:Sup} (h:Ok s) (j:Nat):cont s j<256 ^ size j:=by
 unfold cont size
 split
 ·rename_i e; subst e; exact h.lt 0
 ·split
  ·rename_i e; exact h.small j e.1 e.2
  ·exact h.lt j
def order:List (Fin 19) := [0,1,2,10,3,11,4,12,5,13,6,14,7,15,8,16,9,17,18]
def told (l:List (Fin 19)) (f:Nat→Nat):Nat→Nat:=fun k=>if l.any (fun x=>x.val==k) then f k else 0
theorem told_nil (f:Nat→Nat):told [] f=fun _=>0:=rfl
theorem told_snoc (l:List (Fin 19)) (f:Nat→Nat) (x:Fin 19):told (l ++ [x]) f=upd (told l f) x.val (f x.val):=by
 funext k
 unfold told upd
 by_cases h:k=x.val
 ·subst h; simp
 ·rw [if_neg h,List.any_append]
  have:([x].any fun y=>y.val==k)=false:=by simp; exact fun e=>h e.symm
  rw [this,Bool.or_false]
theorem told_order (f:Nat→Nat) (k:Nat) (h:k<19):told order f k=f k:=by
 unfold told
 rw [if_pos]
 exact cases19 (P:=fun k=>(order.any fun x=>x.val==k)=true) k h (by decide) (by decide) (by decide) (by decide) (by decide) (by decide) (by decide) (by decide) (by decide) (by decide) (by decide) (by decide) (by decide) (by decide) (by decide) (by decide) (by decide) (by decide) (by decide)
theorem cbody_order (f:Nat→Nat):cbody (told order f)=cbody f:=by
 unfold cbody pieces
 repeat rw [told_order f _ (by decide)]
theorem cvals_order (f:Nat→Nat):cvals (told order f)=cvals f:=by
 unfold cvals
 apply List.map_congr_left
 intro j hj
 rw [told_order f j (by simpa using hj)]
theorem cvals_congr {f g:Nat→Nat} (h : ∀j,j<19→f j=g j):cvals f=cvals g:=by
 unfold cvals
 apply List.map_congr_left
 intro j hj
 rw [h j (by simpa using hj)]
def supPage (s:Sup):List UInt8:=page 6 (cbody (cont s))
theorem length_supPage (s:Sup):(supPage s).length=128:=length_page _ _ (by rw [length_cbody]; exact Nat.le_refl _)
def bodyIn (ps:List UInt8):List UInt8:=(ps.drop 1).take 123
def rd (bs:List UInt8) (j:Nat):Nat:=num ((bs.drop (pos j)).take (size j))
def sIn (ps:List UInt8):Sup:=(List.range 18).map (rd (bodyIn ps))
theorem rd_lt (bs:List UInt8) (j:Nat):rd bs j<256 ^ size j:=by
 unfold rd
 refine Nat.lt_of_lt_of_le (num_lt _) (Nat.pow_le_pow_right (by decide) ?_)
 simp; omega
theorem rd_lt64 (bs:List UInt8) (j:Nat):rd bs j<18446744073709551616:=by
 have h:=rd_lt bs j
 have h2:256 ^ size j≤256 ^ 8:=Nat.pow_le_pow_right (by decide) (size_range j).2
 have h3:(256:Nat) ^ 8=18446744073709551616:=by decide
 omega
theorem rd_small (bs:List UInt8) (j:Nat) (h1:1≤j) (h2:j<10):rd bs j<4294967296:=by
 have h:=rd_lt bs j
 unfold size at h
 rw [if_pos ⟨h1,h2⟩] at h
 exact h
theorem nth_sIn (ps:List UInt8) (j:Nat) (h:j<18):nth (sIn ps) j=rd (bodyIn ps) j:=by simp [nth,sIn,h]
theorem nth_over {s:Sup} (hs:s.length=18) (j:Nat) (h : ¬j<18):nth s j=0:=by
 unfold nth
 rw [List.getD_eq_getElem?_getD,List.getElem?_eq_none (by omega)]
 rfl
theorem length_sIn (ps:List UInt8):(sIn ps).length=18:=by simp [sIn]
theorem ok_sIn (ps:List UInt8):Ok (sIn ps):=by
 refine ⟨length_sIn ps,fun j => ?_,fun j h1 h2 => ?_⟩
 ·by_cases h:j<18
  ·rw [nth_sIn ps j h]; exact rd_lt64 _ _
  ·rw [nth_over (length_sIn ps) j h]; decide
 ·rw [nth_sIn ps j (by omega)]; exact rd_small _ _ h1 h2
theorem bodyIn_page (s:Sup):bodyIn (supPage s)=cbody (cont s):=by
 unfold bodyIn supPage
 rw [page_body 6 _ (by rw [length_cbody]; exact Nat.le_refl _),length_cbody]
 simp
theorem sIn_page {s:Sup} (h:Ok s):sIn (supPage s)=s:=by
 refine sup_ext (length_sIn _) h.len fun j hj => ?_
 rw [nth_sIn _ j hj,bodyIn_page]
 unfold rd
 rw [cbody_get _ j (by omega),num_bytesOf,Nat.mod_eq_of_lt (cont_lt h j)]
 unfold cont
 rw [if_neg (by omega)]
def Holds (ps:List UInt8):Prop:=ps.length=128∧Oct.Good ps∧Fit (sIn ps)∧supPage (sIn ps)=ps
theorem holds_page {s:Sup} (h:Ok s) (hf:Fit s):Holds (supPage s) :=
 ⟨length_supPage s,page_good 6 _ (by rw [length_cbody]; exact Nat.le_refl _),by rw [sIn_page h]; exact hf,by rw [sIn_page h]⟩
end Go.Proofs.YtogchamogbendaaGreat.Su
namespace Go.Proofs.YtogchamogbendaaGreat.Su
open Lib (hid)
open Go.RowKit Oct Sf
theorem slot_any (n:Nat) (h:n<18446744073709551616) (w:World) :
  Calls Tryz.prog 168 #[.int .u64 (n:Int)] w fun e w'=>e = .returned (.int .i64 ((n % 2:Nat):Int))∧w=w':=by
 have hm:(n:Int).tmod 2=((n % 2:Nat):Int):=by rw [Int.tmod_eq_emod_of_nonneg (by omega)]; rfl
 go_enter Tryz.func168,Tryz.ntmps168
 go_wp2
 go_ret
 refine ⟨?_,rfl⟩
 congr 2
def rcells (s:Sup):List Value:=(List.range 8).map fun i => .int .u32 (nth s (2+i):Int)
theorem length_rcells (s:Sup):(rcells s).length=8:=by simp [rcells]
theorem row_roots {w:World} {B:Nat} {T:TypeId} {s:Sup} (h:RowV w B T (scells s)):w.rangeAt B 2 (rcells s):=by
 intro j v hv
 have hj:j<8:=by have:=(List.getElem?_eq_some_iff.1 hv).1; rwa [length_rcells] at this
 have:v=scell (2+j) (nth s (2+j)):=by
  rw [scell_small _ _ (by omega) (by omega)]
  simpa [rcells,hj] using hv.symm
 rw [this]
 exact h.cellAt (scells_at s (2+j) (by omega))
theorem roots_size:(Tryz.prog.info? 67).map (·.size)=some 8:=by kernel_rfl
theorem run_root (s:Sup) (w:World) (i:Nat) (h:i<8):(Instr.index 67 (.agg (rcells s).toArray) (.int .i64 (i:Int))).run Tryz.prog w = .ok (.int .u32 (nth s (2+i):Int)) w:=by
 have h1:(rcells s)[i]?=some (.int .u32 (nth s (2+i):Int)):=by simp [rcells,h]
 unfold Instr.index
 simp [go_sem]
 rw [if_pos h,h1]
 rfl
set_option maxHeartbeats 1000000 in
theorem right_any (s:Sup) (hs:Ok s) (w:World) :
  Calls Tryz.prog 202 #[sval s] w fun e w'=>e = .returned (.bool (decide (Fit s)))∧Below w.heap.size w w':=by
 have R1:=alloc_rowV w 69 (scells s)
 have b1:=hid ((Below.refl w.heap.size w).alloc (Nat.le_refl _) (.cells (scells s).toArray 69))
 have c0:=R1.cellAt (scells_at s 0 (by decide))
 have c1:=R1.cellAt (scells_at s 1 (by decide))
 rw [scell_wide _ _ (.inl rfl)] at c0
 rw [scell_small _ _ (by decide) (by decide)] at c1
 have HRA:=hid (row_roots R1)
 have HIX:=hid (run_root s)
 have HF:=hid (show Fit s↔(1≤nth s 0∧16≤nth s 1∧nth s 1≤4096 ∧ ∀i,i<8→nth s (2+i)<nth s 1) from Iff.rfl)
 have hg:=hs.lt 0
 have hb:=hs.small 1 (by decide) (by decide)
 clear R1
 unfold sval
 by_cases h0:nth s 0<1
 ·go_enter Tryz.func202,Tryz.ntmps202
  have h0':((nth s 0:Nat):Int)<1:=by omega
  go_wp2_with fail
  go_ret
  exact ⟨by rw [decide_eq_false (p:=Fit s) (fun hf=>by have:=(HF.out.1 hf).1; omega)]; rfl,b1.out⟩
 ·by_cases h1:nth s 1<16
  ·go_enter Tryz.func202,Tryz.ntmps202
   have h0' : ¬((nth s 0:Nat):Int)<1:=by omega
   have h1':((nth s 1:Nat):Int)<16:=by omega
   go_wp2_with fail
   go_ret
   exact ⟨by rw [decide_eq_false (p:=Fit s) (fun hf=>by have:=(HF.out.1 hf).2.1; omega)]; rfl,b1.out⟩
  ·by_cases h2:4096<nth s 1
   ·go_enter Tryz.func202,Tryz.ntmps202
    have h0' : ¬((nth s 0:Nat):Int)<1:=by omega
    have h1' : ¬((nth s 1:Nat):Int)<16:=by omega
    have h2':(4096:Int)<((nth s 1:Nat):Int):=by omega
    go_wp2_with fail
    go_ret
    exact ⟨by rw [decide_eq_false (p:=Fit s) (fun hf=>by have:=(HF.out.1 hf).2.2.1; omega)]; rfl,b1.out⟩
   ·go_enter Tryz.func202,Tryz.ntmps202
    have h0' : ¬((nth s 0:Nat):Int)<1:=by omega
    have h1' : ¬((nth s 1:Nat):Int)<16:=by omega
    have h2' : ¬(4096:Int)<((nth s 1:Nat):Int):=by omega
    go_wp2_with (refine wpList_load_mid rfl 67 (.tmp 18) rfl w.heap.size 2 rfl (rcells s) _ HRA.out Tryz.underlying67 rfl (by rw [roots_size,length_rcells]) ?_)
    generalize w.alloc (.cells (scells s).toArray 69)=w1 at *
    go_loopw [20] (fun i wr => ∃k:Nat,k≤8∧i = .int .i64 (k:Int)∧Hid (∀i,i<k→nth s (2+i)<nth s 1)∧wr=w1) (fun i _=>8-(intOf i).toNat)
    case atStart=>exact ⟨0,by omega,rfl,hid (fun i hi=>by omega),rfl⟩
    case round =>
     obtain ⟨k,hk,rfl,HA,rfl⟩:=hrel
     by_cases hlt:k<8
     ·have hix:=HIX.out wr k hlt
      have hx:=hs.small (2+k) (by omega) (by omega)
      by_cases hge:nth s 1≤nth s (2+k)
      ·have hge':((nth s 1:Nat):Int)≤((nth s (2+k):Nat):Int):=by omega
       go_wp2_with fail
       go_ret
       exact ⟨by rw [decide_eq_false (p:=Fit s) (fun hf=>by have:=(HF.out.1 hf).2.2.2 k hlt; omega)]; rfl,b1.out⟩
      ·have hge' : ¬((nth s 1:Nat):Int)≤((nth s (2+k):Nat):Int):=by omega
       go_wp2_with fail
       go_roundw
       case rel=>exact ⟨k+1,by omega,by go_num,hid (fun i hi=>by
        by_cases e:i=k
        ·subst e; omega
        ·exact HA.out i (by omega)),by first | rfl | trivial⟩
       case measure=>simp [intOf]; omega
     ·obtain rfl:k=8:=by omega
      go_wp2_with fail
      go_ret
      exact ⟨by rw [decide_eq_true (p:=Fit s) (HF.out.2 ⟨by omega,by omega,by omega,HA.out⟩)]; rfl,b1.out⟩
end Go.Proofs.YtogchamogbendaaGreat.Su
namespace Go.Proofs.YtogchamogbendaaGreat.Su
open Lib (hid)
open Go.RowKit Oct Sf
def mcells (s:Sup):List Value:=(List.range 8).map fun i => .int .u64 (nth s (10+i):Int)
theorem length_mcells (s:Sup):(mcells s).length=8:=by simp [mcells]
theorem row_marks {w:World} {B:Nat} {T:TypeId} {s:Sup} (h:RowV w B T (scells s)):w.rangeAt B 10 (mcells s):=by
 intro j v hv
 have hj:j<8:=by have:=(List.getElem?_eq_some_iff.1 hv).1; rwa [length_mcells] at this
 have:v=scell (10+j) (nth s (10+j)):=by
  rw [scell_wide _ _ (.inr (by omega))]
  simpa [mcells,hj] using hv.symm
 rw [this]
 exact h.cellAt (scells_at s (10+j) (by omega))
theorem marks_size:(Tryz.prog.info? 31).map (·.size)=some 8:=by kernel_rfl
theorem content_size:(Tryz.prog.info? 303).map (·.size)=some 19:=by kernel_rfl
theorem super_size:(Tryz.prog.info? 69).map (·.size)=some 18:=by kernel_rfl
def contK (s:Sup) (k j:Nat):Nat:=if 2+k≤j∧j<10 then 0 else cont s j
theorem contK_all (s:Sup):cvals (contK s 8)=cvals (cont s):=cvals_congr fun j hj=>by unfold contK; rw [if_neg (by omega)]
theorem contK_next (s:Sup) (k:Nat) (h:k<8):(cvals (contK s k)).set (2+k) (.int .u64 (nth s (2+k):Int))=cvals (contK s (k+1)):=by
 rw [cvals_set]
 refine cvals_congr fun j hj => ?_
 unfold upd contK
 by_cases e:j=2+k
 ·subst e; rw [if_pos rfl,if_neg (by omega)]; unfold cont; rw [if_neg (by omega)]
 ·rw [if_neg e]
  by_cases e2:2+k≤j∧j<10
  ·rw [if_pos e2,if_pos (by omega)]
  ·rw [if_neg e2,if_neg (by omega)]
theorem built_content (s:Sup):Tryz.prog.built 303 [(0,.int .u64 (nth s 0:Int)),(1,.int .u64 (nth s 1:Int)),(3,.agg (mcells s).toArray),(4,.int .u64 (nth s 0:Int))]=some (cvals (contK s 0)).toArray:=by kernel_rfl
theorem size_cvals (f:Nat→Nat):(Tryz.prog.info? 303).map (·.size)=some (cvals f).toArray.size:=by rw [content_size]; simp [length_cvals]
theorem one_cvals (f:Nat→Nat):(cvals f).toArray.all (·.oneCell')=true:=by
 rw [Array.all_eq_true_iff_forall_mem]
 exact fun v hv=>cvals_one f v (by simpa using hv)
theorem store_cvals (w:World) (r:Nat) (f:Nat→Nat) (old:List Value) (hl:old.length=19) (R:RowV w r 303 old):(storeCells ⟨r,0,none⟩ (cvals f)).run Tryz.prog w = .ok () (w.setRow r (cvals f).toArray):=by
 have:=run_storeCells_from (P:=Tryz.prog) r 303 (cvals f) 0 old.toArray w R (by simp [length_cvals,hl]) (cvals_one f)
 simpa using this
theorem wpList_build_as {P:Program} {ops:Array Oper} {rest:List Oper} {o:Oper} {a:Act} {w:World} {Q:Exit→Act→World→Prop} (hg:o.guard=none) (t:TypeId) (parts:Array (Nat×Operand)) (ho:o.op = .build t parts)
  (cs:Array Value) (hb:P.built t (parts.map fun (i,x)=>(i,a.eval x)).toList=some cs)
  (h:wpList P ops Q rest (a.put o.dst (.agg cs)) w):wpList P ops Q (o :: rest) a w :=
 wpList_build hg t parts ho (by rw [hb]; rfl) (by rw [hb]; exact h)
set_option maxHeartbeats 1000000 in
theorem content_any (s:Sup) (hs:Ok s) (w:World) :
  Calls Tryz.prog 203 #[sval s] w fun e w'=>e = .returned (.agg (cvals (cont s)).toArray)∧Below w.heap.size w w':=by
 have HR1:=hid (alloc_rowV w 69 (scells s))
 have b1:=(Below.refl w.heap.size w).alloc (Nat.le_refl _) (.cells (scells s).toArray 69)
 have hs1:(w.alloc (.cells (scells s).toArray 69)).heap.size=w.heap.size+1:=by simp
 have HG:=hid (hs.lt 0)
 have hb:=hs.small 1 (by decide) (by decide)
 unfold sval
 go_enter Tryz.func203,Tryz.ntmps203
 obtain ⟨w1,hw1⟩ : ∃x,x=w.alloc (.cells (scells s).toArray 69):=⟨_,rfl⟩
 rw [← hw1] at HR1 b1 hs1
 have R2:=alloc_rowV w1 303 (cvals fun _=>0)
 change RowV (w1.alloc (.cells #[.int .u64 0,.int .u64 0,.int .u64 0,.int .u64 0,.int .u64 0,.int .u64 0,.int .u64 0,.int .u64 0,.int .u64 0,.int .u64 0,.int .u64 0,.int .u64 0,.int .u64 0,.int .u64 0,.int .u64 0,.int .u64 0,.int .u64 0,.int .u64 0,.int .u64 0] 303)) _ _ _ at R2
 have b2:=(Below.refl w1.heap.size w1).alloc (Nat.le_refl _) (.cells #[.int .u64 0,.int .u64 0,.int .u64 0,.int .u64 0,.int .u64 0,.int .u64 0,.int .u64 0,.int .u64 0,.int .u64 0,.int .u64 0,.int .u64 0,.int .u64 0,.int .u64 0,.int .u64 0,.int .u64 0,.int .u64 0,.int .u64 0,.int .u64 0,.int .u64 0] 303)
 have hs2:(w1.alloc (.cells #[.int .u64 0,.int .u64 0,.int .u64 0,.int .u64 0,.int .u64 0,.int .u64 0,.int .u64 0,.int .u64 0,.int .u64 0,.int .u64 0,.int .u64 0,.int .u64 0,.int .u64 0,.int .u64 0,.int .u64 0,.int .u64 0,.int .u64 0,.int .u64 0,.int .u64 0] 303)).heap.size=w1.heap.size+1:=by simp
 have HR2:=hid (HR1.out.below HR1.out.lt b2)
 have c0:=HR2.out.cellAt (scells_at s 0 (by decide))
 have c1:=HR2.out.cellAt (scells_at s 1 (by decide))
 rw [scell_wide _ _ (.inl rfl)] at c0
 rw [scell_small _ _ (by decide) (by decide)] at c1
 rw [hw1] at c0 c1 HR2
 rw [hw1] at hs1 R2 hs2 b2
 rw [hs1] at R2
 have HQ:=hid R2
 have HB2:=hid ((show Below w.heap.size w _ from hw1▸b1).trans (b2.mono (by rw [hs1]; omega)))
 clear HR1 b1 hs1 b2 R2 hs2 hw1
 go_upto_region 1 with (fail)
 generalize (w.alloc (.cells (scells s).toArray 69)).alloc (.cells #[.int .u64 0,.int .u64 0,.int .u64 0,.int .u64 0,.int .u64 0,.int .u64 0,.int .u64 0,.int .u64 0,.int .u64 0,.int .u64 0,.int .u64 0,.int .u64 0,.int .u64 0,.int .u64 0,.int .u64 0,.int .u64 0,.int .u64 0,.int .u64 0,.int .u64 0] 303)=w2 at *
 have hst:=run_storeCells_new (P:=Tryz.prog) w2 303 #[.int .u64 0,.int .u64 0,.int .u64 0,.int .u64 0,.int .u64 0,.int .u64 0,.int .u64 0,.int .u64 0,.int .u64 0,.int .u64 0,.int .u64 0,.int .u64 0,.int .u64 0,.int .u64 0,.int .u64 0,.int .u64 0,.int .u64 0,.int .u64 0,.int .u64 0] (cvals (contK s 0)).toArray (size_cvals _) (by simp [length_cvals]) (one_cvals _)
 have hlc:=length_cvals (contK s 0)
 go_upto_region 2 with (first | (refine wpList_build_as rfl 303 #[(0,.tmp 7),(1,.tmp 10),(3,.tmp 12),(4,.tmp 14)] rfl (cvals (contK s 0)).toArray ?_ ?_; (simp [Act.eval]); exact built_content s) | (refine wpList_load_mid rfl 31 (.tmp 11) rfl w.heap.size 10 rfl (mcells s) _ (row_marks HR2.out) Tryz.underlying31 rfl (by rw [marks_size,length_mcells]) ?_))
 have b3:=(Below.refl w2.heap.size w2).alloc (Nat.le_refl _) (.cells (cvals (contK s 0)).toArray 303)
 have R3:=alloc_rowV w2 303 (cvals (contK s 0))
 have HQ3:=hid (HQ.out.below HQ.out.lt b3)
 have HR3:=hid (HR2.out.below HR2.out.lt b3)
 have HB3:=hid (HB2.out.trans (b3.mono (HB2.out.size)))
 have HNE:=hid HQ.out.lt
 have HC3:=hid R3
 clear hst hlc c0 c1 HQ HR2 HB2 b3 R3
 generalize w2.alloc (.cells (cvals (contK s 0)).toArray 303)=w3 at *
 generalize w2.heap.size=q at *
 have hq1 : ¬(w.heap.size+1=q):=by have:=HNE.out; omega
 have hq2 : ¬(w.heap.size=q):=by have:=HNE.out; omega
 go_wp2_with (refine wpList_load_mid rfl 67 (.tmp 16) rfl w.heap.size 2 rfl (rcells s) _ (row_roots HR3.out) Tryz.underlying67 rfl (by rw [roots_size,length_rcells]) ?_)
 go_loopw [18] (fun i wr => ∃k:Nat,k≤8∧i = .int .i64 (k:Int)∧Hid (RowV wr q 303 (cvals (contK s k)))∧Hid (RowV wr (w.heap.size+1) 303 (cvals fun _=>0))∧Hid (Below w.heap.size w wr)) (fun i _=>8-(intOf i).toNat)
 case atStart=>exact ⟨0,by omega,rfl,HC3,HQ3,HB3⟩
 case round =>
  obtain ⟨k,hk,rfl,HC,HQ,HB⟩:=hrel
  clear HC3 HQ3 HB3 HR3
  by_cases hlt:k<8
  ·have hix:=run_root s wr k hlt
   have hx:=hs.small (2+k) (by omega) (by omega)
   have cc:=HC.out.cellAt (cvals_at (contK s k) (2+k) (by omega))
   have ff:=HC.out.free (2+k)
   have hk0:(0:Int)≤(k:Int):=by omega
   have hk8:(k:Int)<8:=by omega
   have RN:=hid (show RowV (wr.setCell ⟨q,2+k,none⟩ (.int .u64 (nth s (2+k):Int))) q 303 (cvals (contK s (k+1))) from by
    rw [← contK_next s k hlt]; exact HC.out.set _ _)
   have QN:=hid (HQ.out.other (i:=2+k) (v := .int .u64 (nth s (2+k):Int)) hq1)
   have BN:=hid (HB.out.setCell (p:=⟨q,2+k,none⟩) (show w.heap.size≤q by have:=HNE.out; omega) (.int .u64 (nth s (2+k):Int)))
   clear HC HQ HB
   go_wp2_with fail
   go_roundw
   case rel=>exact ⟨k+1,by omega,by go_num,RN,QN,BN⟩
   case measure=>simp [intOf]; omega
  ·obtain rfl:k=8:=by omega
   have hst:=store_cvals wr (w.heap.size+1) (contK s 8) _ (length_cvals _) HQ.out
   have hlc:=length_cvals (contK s 8)
   go_wp2_with (refine wpList_load_row rfl 303 (.tmp 3) rfl q rfl _ (cvals (contK s 8)).toArray _ _ HC.out Tryz.underlying303 rfl (size_cvals _) ?_)
   refine bodyPost_ret (v := .agg (cvals (contK s 8)).toArray) ?_ rfl ⟨by rw [contK_all],HB.out.trans ?_⟩
   ·exact results_cell_row rfl _ _ (w.heap.size+1) 303 _ (0,0) _ rfl (setRow_heap _ _ _ _ _ _ HQ.out) Tryz.underlying303 rfl (size_cvals _)
   ·exact ⟨rfl,rfl,rfl,by simp,fun k hk=>setRow_other _ _ _ _ (by omega)⟩
end Go.Proofs.YtogchamogbendaaGreat.Su
namespace Go.Proofs.YtogchamogbendaaGreat.Su
open Lib (hid)
open Go.RowKit Oct Sf
def supOf (f:Nat→Nat):Sup:=(List.range 18).map f
theorem nth_supOf (f:Nat→Nat) (j:Nat) (h:j<18):nth (supOf f) j=f j:=by simp [nth,supOf,h]
def supK (f:Nat→Nat) (k j:Nat):Nat:=if 2+k≤j∧j<10 then 0 else f j
theorem supOf_congr {f g:Nat→Nat} (h : ∀j,j<18→f j=g j):supOf f=supOf g:=by
 unfold supOf
 apply List.map_congr_left
 intro j hj
 exact h j (by simpa using hj)
theorem supK_all (f:Nat→Nat):supOf (supK f 8)=supOf f:=supOf_congr fun j hj=>by unfold supK; rw [if_neg (by omega)]
theorem scells_set (f:Nat→Nat) (j v:Nat) (h:j<18):(scells (supOf f)).set j (scell j v)=scells (supOf (upd f j v)):=by
 apply List.ext_getElem
 ·simp [scells]
 ·intro i h1 h2
  have hi:i<18:=by simpa [scells] using h2
  rw [List.getElem_set]
  simp only [scells,List.getElem_map,List.getElem_range]
  rw [nth_supOf _ i hi,nth_supOf _ i hi]
  unfold upd
  by_cases e:j=i
  ·subst e; simp
  ·rw [if_neg e,if_neg (fun e2=>e e2.symm)]
theorem supK_next (f:Nat→Nat) (k:Nat) (h:k<8):(scells (supOf (supK f k))).set (2+k) (.int .u32 (f (2+k):Int))=scells (supOf (supK f (k+1))):=by
 rw [← scell_small (2+k) (f (2+k)) (by omega) (by omega),scells_set _ _ _ (by omega)]
 congr 1
 refine supOf_congr fun j hj => ?_
 unfold upd supK
 by_cases e:j=2+k
 ·subst e; rw [if_pos rfl,if_neg (by omega)]
 ·rw [if_neg e]
  by_cases e2:2+k≤j∧j<10
  ·rw [if_pos e2,if_pos (by omega)]
  ·rw [if_neg e2,if_neg (by omega)]
theorem lits_supK (f:Nat→Nat) : [.int .u64 (f 0:Int),.int .u32 (f 1:Int),.int .u32 0,.int .u32 0,.int .u32 0,.int .u32 0,.int .u32 0,.int .u32 0,.int .u32 0,.int .u32 0,.int .u64 (f 10:Int),.int .u64 (f 11:Int),.int .u64 (f 12:Int),.int .u64 (f 13:Int),.int .u64 (f 14:Int),.int .u64 (f 15:Int),.int .u64 (f 16:Int),.int .u64 (f 17:Int)]=scells (supOf (supK f 0)):=by
 have e:supOf (supK f 0) = [f 0,f 1,0,0,0,0,0,0,0,0,f 10,f 11,f 12,f 13,f 14,f 15,f 16,f 17]:=rfl
 rw [e]
 rfl
theorem size_scells (s:Sup):(Tryz.prog.info? 69).map (·.size)=some (scells s).toArray.size:=by rw [super_size]; simp [length_scells]
theorem one_scells (s:Sup):(scells s).toArray.all (·.oneCell')=true:=by
 rw [Array.all_eq_true_iff_forall_mem]
 exact fun v hv=>scells_one s v (by simpa using hv)
theorem store_scells (w:World) (r:Nat) (s:Sup) (old:List Value) (hl:old.length=18) (R:RowV w r 69 old):(storeCells ⟨r,0,none⟩ (scells s)).run Tryz.prog w = .ok () (w.setRow r (scells s).toArray):=by
 have:=run_storeCells_from (P:=Tryz.prog) r 69 (scells s) 0 old.toArray w R (by simp [length_scells,hl]) (scells_one s)
 simpa using this
def croots (f:Nat→Nat):List Value:=(List.range 8).map fun i => .int .u64 (f (2+i):Int)
theorem length_croots (f:Nat→Nat):(croots f).length=8:=by simp [croots]
theorem row_croots {w:World} {B:Nat} {T:TypeId} {f:Nat→Nat} (h:RowV w B T (cvals f)):w.rangeAt B 2 (croots f):=by
 intro j v hv
 have hj:j<8:=by have:=(List.getElem?_eq_some_iff.1 hv).1; rwa [length_croots] at this
 have:v = .int .u64 (f (2+j):Int):=by simpa [croots,hj] using hv.symm
 rw [this]
 exact h.cellAt (cvals_at f (2+j) (by omega))
theorem run_croot (f:Nat→Nat) (w:World) (i:Nat) (h:i<8):(Instr.index 31 (.agg (croots f).toArray) (.int .i64 (i:Int))).run Tryz.prog w = .ok (.int .u64 (f (2+i):Int)) w:=by
 have h1:(croots f)[i]?=some (.int .u64 (f (2+i):Int)):=by simp [croots,h]
 unfold Instr.index
 simp [go_sem]
 rw [if_pos h,h1]
 rfl
theorem cell_c {w w':World} {c:Nat} {f:Nat→Nat} (RC:RowV w c 303 (cvals f)) (q:Below w.heap.size w w') (j:Nat) (h:j<19):w'.cell? ⟨c,j,none⟩=some (.int .u64 (f j:Int)):=(RC.below RC.lt q).cellAt (cvals_at f j h)
set_option maxHeartbeats 4000000 in
theorem super_any (f:Nat→Nat) (c:Nat) (w:World) (RC:RowV w c 303 (cvals f)) (hsm : ∀j,1≤j→j<10→f j<4294967296) :
  Calls Tryz.prog 210 #[.pointer (some ⟨c,0,none⟩)] w fun e w'=>e = .returned (sval (supOf f))∧Below w.heap.size w w':=by
 have R1:=alloc_rowV w 69 (scells zero18)
 change RowV (w.alloc (.cells #[(.int .u64 0),(.int .u32 0),(.int .u32 0),(.int .u32 0),(.int .u32 0),(.int .u32 0),(.int .u32 0),(.int .u32 0),(.int .u32 0),(.int .u32 0),(.int .u64 0),(.int .u64 0),(.int .u64 0),(.int .u64 0),(.int .u64 0),(.int .u64 0),(.int .u64 0),(.int .u64 0)] 69)) _ _ _ at R1
 have b1:=(Below.refl w.heap.size w).alloc (Nat.le_refl _) (.cells #[(.int .u64 0),(.int .u32 0),(.int .u32 0),(.int .u32 0),(.int .u32 0),(.int .u32 0),(.int .u32 0),(.int .u32 0),(.int .u32 0),(.int .u32 0),(.int .u64 0),(.int .u64 0),(.int .u64 0),(.int .u64 0),(.int .u64 0),(.int .u64 0),(.int .u64 0),(.int .u64 0)] 69)
 have HC:=hid RC
 have hf1:=hsm 1 (by decide) (by decide)
 have HSM:=hid hsm
 clear RC hsm
 unfold sval
 go_enter Tryz.func210,Tryz.ntmps210
 go_upto_region 1 with (fail)
 have hs1:(w.alloc (.cells #[(.int .u64 0),(.int .u32 0),(.int .u32 0),(.int .u32 0),(.int .u32 0),(.int .u32 0),(.int .u32 0),(.int .u32 0),(.int .u32 0),(.int .u32 0),(.int .u64 0),(.int .u64 0),(.int .u64 0),(.int .u64 0),(.int .u64 0),(.int .u64 0),(.int .u64 0),(.int .u64 0)] 69)).heap.size=w.heap.size+1:=by simp
 generalize w.alloc (.cells #[(.int .u64 0),(.int .u32 0),(.int .u32 0),(.int .u32 0),(.int .u32 0),(.int .u32 0),(.int .u32 0),(.int .u32 0),(.int .u32 0),(.int .u32 0),(.int .u64 0),(.int .u64 0),(.int .u64 0),(.int .u64 0),(.int .u64 0),(.int .u64 0),(.int .u64 0),(.int .u64 0)] 69)=w1 at *
 have HC1:=hid (HC.out.below HC.out.lt b1)
 have HQ:=hid R1
 have HB:=hid b1
 have HS1:=hid hs1
 clear R1 b1 hs1
 have KT:=hid (show ∀w',Below w1.heap.size w1 w'→(w'.cell? ⟨c,0,none⟩=some (.int .u64 (f 0:Int))∧w'.cell? ⟨c,1,none⟩=some (.int .u64 (f 1:Int))∧w'.cell? ⟨c,10,none⟩=some (.int .u64 (f 10:Int))∧w'.cell? ⟨c,11,none⟩=some (.int .u64 (f 11:Int))∧w'.cell? ⟨c,12,none⟩=some (.int .u64 (f 12:Int))∧w'.cell? ⟨c,13,none⟩=some (.int .u64 (f 13:Int))∧w'.cell? ⟨c,14,none⟩=some (.int .u64 (f 14:Int))∧w'.cell? ⟨c,15,none⟩=some (.int .u64 (f 15:Int))∧w'.cell? ⟨c,16,none⟩=some (.int .u64 (f 16:Int))∧w'.cell? ⟨c,17,none⟩=some (.int .u64 (f 17:Int))) from fun w' q=>let RC:=HC1.out; ⟨(cell_c RC q 0 (by decide)),(cell_c RC q 1 (by decide)),(cell_c RC q 10 (by decide)),(cell_c RC q 11 (by decide)),(cell_c RC q 12 (by decide)),(cell_c RC q 13 (by decide)),(cell_c RC q 14 (by decide)),(cell_c RC q 15 (by decide)),(cell_c RC q 16 (by decide)),(cell_c RC q 17 (by decide))⟩)
 have hst0:=run_storeCells_new (P:=Tryz.prog) w1.drew 69 #[(.int .u64 0),(.int .u32 0),(.int .u32 0),(.int .u32 0),(.int .u32 0),(.int .u32 0),(.int .u32 0),(.int .u32 0),(.int .u32 0),(.int .u32 0),(.int .u64 0),(.int .u64 0),(.int .u64 0),(.int .u64 0),(.int .u64 0),(.int .u64 0),(.int .u64 0),(.int .u64 0)] (scells (supOf (supK f 0))).toArray (size_scells _) (by simp [length_scells]) (one_scells _)
 rw [show (scells (supOf (supK f 0))).toArray.toList = [.int .u64 (f 0:Int),.int .u32 (f 1:Int),.int .u32 0,.int .u32 0,.int .u32 0,.int .u32 0,.int .u32 0,.int .u32 0,.int .u32 0,.int .u32 0,.int .u64 (f 10:Int),.int .u64 (f 11:Int),.int .u64 (f 12:Int),.int .u64 (f 13:Int),.int .u64 (f 14:Int),.int .u64 (f 15:Int),.int .u64 (f 16:Int),.int .u64 (f 17:Int)] from (lits_supK f).symm] at hst0
 have hwr1:IntKind.u32.wrap (f 1:Int)=(f 1:Int):=by simp [IntKind.wrap_u32]; omega
 have hst:=hst0
 have RN:=alloc_rowV w1.drew 69 (scells (supOf (supK f 0)))
 have BN:=((show Still w1 w1.drew from ⟨rfl,rfl,rfl,rfl⟩).below w1.heap.size).trans ((Below.refl w1.drew.heap.size w1.drew).alloc (Nat.le_refl _) (.cells (scells (supOf (supK f 0))).toArray 69))
 rw [show (scells (supOf (supK f 0))).toArray = #[.int .u64 (f 0:Int),.int .u32 (f 1:Int),.int .u32 0,.int .u32 0,.int .u32 0,.int .u32 0,.int .u32 0,.int .u32 0,.int .u32 0,.int .u32 0,.int .u64 (f 10:Int),.int .u64 (f 11:Int),.int .u64 (f 12:Int),.int .u64 (f 13:Int),.int .u64 (f 14:Int),.int .u64 (f 15:Int),.int .u64 (f 16:Int),.int .u64 (f 17:Int)] from by rw [← lits_supK f]] at RN BN
 have HN:=hid (And.intro (hid RN) (hid BN))
 clear RN BN
 go_cut [3] (fun s3 wx => ∃q:Nat,s3 = .pointer (some ⟨q,0,none⟩)∧w1.heap.size≤q∧Hid (RowV wx q 69 (scells (supOf (supK f 0))))∧Hid (Below w1.heap.size w1 wx))
 case first =>
  go_region_held3 (fun w'=>w'.cell? ⟨c,0,none⟩=some (.int .u64 (f 0:Int))∧w'.cell? ⟨c,1,none⟩=some (.int .u64 (f 1:Int))∧w'.cell? ⟨c,10,none⟩=some (.int .u64 (f 10:Int))∧w'.cell? ⟨c,11,none⟩=some (.int .u64 (f 11:Int))∧w'.cell? ⟨c,12,none⟩=some (.int .u64 (f 12:Int))∧w'.cell? ⟨c,13,none⟩=some (.int .u64 (f 13:Int))∧w'.cell? ⟨c,14,none⟩=some (.int .u64 (f 14:Int))∧w'.cell? ⟨c,15,none⟩=some (.int .u64 (f 15:Int))∧w'.cell? ⟨c,16,none⟩=some (.int .u64 (f 16:Int))∧w'.cell? ⟨c,17,none⟩=some (.int .u64 (f 17:Int))) ((refine KT.out _ ?_; (repeat' (first | with_reducible exact Below.refl _ _ | with_reducible refine Below.drew ?_ | with_reducible refine Below.alloc ?_ (by simp) _)))) (first | fail)
  all_goals
   go_wp2_with fail
   go_meet
   exact ⟨_,rfl,Nat.le_refl _,HN.out⟩
 case rest =>
  obtain ⟨q,rfl,hq,HCq,HB1⟩:=hcut
  obtain ⟨w2,hw2⟩ : ∃x,x=wc:=⟨_,rfl⟩
  subst hw2
  clear hst hst0 KT HN
  have HQ2:=hid (HQ.out.below HQ.out.lt HB1.out)
  have HC2:=hid (HC1.out.below HC1.out.lt HB1.out)
  have HB2:=hid (HB.out.trans (HB1.out.mono HB.out.size))
  have hq1 : ¬(w.heap.size=q):=by have:=HQ.out.lt; omega
  have hwq:w.heap.size≤q:=by have:=HB.out.size; omega
  clear HQ HC1 HB HB1 HC
  go_wp2_with (refine wpList_load_mid rfl 31 (.tmp 22) rfl c 2 rfl (croots f) _ (row_croots HC2.out) Tryz.underlying31 rfl (by rw [marks_size,length_croots]) ?_)
  go_loopw [24] (fun i wr => ∃k:Nat,k≤8∧i = .int .i64 (k:Int)∧Hid (RowV wr q 69 (scells (supOf (supK f k))))∧Hid (RowV wr w.heap.size 69 (scells zero18))∧Hid (Below w.heap.size w wr)) (fun i _=>8-(intOf i).toNat)
  case atStart=>exact ⟨0,by omega,rfl,HCq,HQ2,HB2⟩
  case round =>
   obtain ⟨k,hk,rfl,HC,HQ,HB⟩:=hrel
   clear HCq HQ2 HB2 HC2
   by_cases hlt:k<8
   ·have hix:=run_croot f wr k hlt
    have hx:=HSM.out (2+k) (by omega) (by omega)
    have cc:=HC.out.cellAt (scells_at (supOf (supK f k)) (2+k) (by omega))
    have ff:=HC.out.free (2+k)
    have hk0:(0:Int)≤(k:Int):=by omega
    have hk8:(k:Int)<8:=by omega
    have hwr:IntKind.u32.wrap (f (2+k):Int)=(f (2+k):Int):=by simp [IntKind.wrap_u32]; omega
    have hmd:((f (2+k):Int)) % 4294967296=(f (2+k):Int):=by omega
    have RN:=hid (show RowV (wr.setCell ⟨q,2+k,none⟩ (.int .u32 (f (2+k):Int))) q 69 (scells (supOf (supK f (k+1)))) from by
     rw [← supK_next f k hlt]; exact HC.out.set _ _)
    have QN:=hid (HQ.out.other (i:=2+k) (v := .int .u32 (f (2+k):Int)) hq1)
    have BN:=hid (HB.out.setCell (p:=⟨q,2+k,none⟩) hwq (.int .u32 (f (2+k):Int)))
    clear HC HQ HB
    go_wp2_with fail
    go_roundw
    case rel=>exact ⟨k+1,by omega,by go_num,RN,QN,BN⟩
    case measure=>simp [intOf]; omega
   ·obtain rfl:k=8:=by omega
    have hst:=store_scells wr w.heap.size (supOf (supK f 8)) _ (length_scells _) HQ.out
    have hlc:=length_scells (supOf (supK f 8))
    go_wp2_with (refine wpList_load_row rfl 69 (.tmp 3) rfl q rfl _ (scells (supOf (supK f 8))).toArray _ _ HC.out Tryz.underlying69 rfl (size_scells _) ?_)
    refine bodyPost_ret (v := .agg (scells (supOf (supK f 8))).toArray) ?_ rfl ⟨by rw [supK_all],HB.out.trans ?_⟩
    ·exact results_cell_row rfl _ _ w.heap.size 69 _ (0,0) _ rfl (setRow_heap _ _ _ _ _ _ HQ.out) Tryz.underlying69 rfl (size_scells _)
    ·exact ⟨rfl,rfl,rfl,by simp,fun k hk=>setRow_other _ _ _ _ (by omega)⟩
end Go.Proofs.YtogchamogbendaaGreat.Su
namespace Go.Proofs.YtogchamogbendaaGreat.Su
open Go.RowKit Go.Shelf Oct Sf
attribute [local go_sem] Oper.semAt_some
def encs (c:Nat) (x:Fin 19):Array Value := #[.agg #[.int .i64 (pos x.val:Int),.int .i64 (size x.val:Int)],.pointer (some ⟨c,x.val,none⟩)]
def Keep (n₀ b:Nat) (A B:World):Prop:=Below n₀ A B∧B.heap[b]?=A.heap[b]?
theorem Keep.refl (n₀ c:Nat) (A:World):Keep n₀ c A A:=⟨Below.refl _ _,rfl⟩
theorem keep_t {n₀ c:Nat} {A B C:World} (h:Keep n₀ c A B) (k:Keep n₀ c B C):Keep n₀ c A C:=⟨h.1.trans k.1,k.2.trans h.2⟩
theorem keep_b {n₀ c:Nat} {w:World} (hn:n₀≤w.heap.size) (hc:c<w.heap.size) (W:World) (l:Nat) (o o':Obj) (hl:w.heap.size≤l) (h:W.heap[l]?=some o) (h1:o.isCells=false) (h2:o.isWalk=false):Keep n₀ c W (W.putObj l o') :=
 ⟨belowK_b hn W l o o' hl h h1 h2,World.putObj_heap_other (by omega)⟩
def ahead (i:Nat):List (Fin 19):=order.take (2+2*i)
theorem ahead_order (i:Nat):ahead i <+: order:=List.take_prefix _ _
def rootAt (i:Nat):Fin 19:=if h:i<8 then ⟨2+i,by omega⟩ else 0
def markAt (i:Nat):Fin 19:=if h:i<8 then ⟨10+i,by omega⟩ else 0
theorem ahead_root (i:Nat) (h:i<8):ahead i ++ [rootAt i] ++ [markAt i]=ahead (i+1):=by
 have : ∀i:Fin 8,ahead i.val ++ [rootAt i.val] ++ [markAt i.val]=ahead (i.val+1):=by decide
 exact this ⟨i,h⟩
theorem ahead_mid (i:Nat) (h:i<8):ahead i ++ [rootAt i] <+: order:=by
 have e:=ahead_root i h
 exact List.IsPrefix.trans (List.prefix_append _ [markAt i]) (e▸ahead_order (i+1))
theorem ahead_all:ahead 8 ++ [18]=order:=by decide
theorem ahead_length (i:Nat) (h:i≤8):(ahead i).length=2+2*i:=by
 have : ∀i:Fin 9,(ahead i.val).length=2+2*i.val:=by decide
 exact this ⟨i,by omega⟩
theorem root_val (i:Nat) (h:i<8):(rootAt i).val=2+i:=by simp [rootAt,h]
theorem mark_val (i:Nat) (h:i<8):(markAt i).val=10+i:=by simp [markAt,h]
theorem encs_root (c i:Nat) (h:i<8):encs c (rootAt i) = #[.agg #[.int .i64 (12+4*(i:Int)),.int .i64 4],.pointer (some ⟨c,2+i,none⟩)]:=by
 have e1:pos (2+i)=12+4*i:=by unfold pos; rw [if_neg (by omega),if_neg (by omega),if_pos (by omega)]; omega
 have e2:size (2+i)=4:=by unfold size; rw [if_pos (by omega)]
 unfold encs
 rw [root_val i h,e1,e2]
 simp
theorem encs_mark (c i:Nat) (h:i<8):encs c (markAt i) = #[.agg #[.int .i64 (44+8*(i:Int)),.int .i64 8],.pointer (some ⟨c,10+i,none⟩)]:=by
 have e1:pos (10+i)=44+8*i:=by unfold pos; rw [if_neg (by omega),if_neg (by omega),if_neg (by omega),if_pos (by omega)]; omega
 have e2:size (10+i)=8:=by unfold size; rw [if_neg (by omega)]
 unfold encs
 rw [mark_val i h,e1,e2]
 simp
theorem encs_first (c:Nat):encs c 0 = #[.agg #[.int .i64 0,.int .i64 8],.pointer (some ⟨c,0,none⟩)]:=rfl
theorem encs_blocks (c:Nat):encs c 1 = #[.agg #[.int .i64 8,.int .i64 4],.pointer (some ⟨c,1,none⟩)]:=rfl
theorem encs_last (c:Nat):encs c 18 = #[.agg #[.int .i64 115,.int .i64 8],.pointer (some ⟨c,18,none⟩)]:=rfl
theorem ahead_zero:([]:List (Fin 19)) ++ [0] ++ [1]=ahead 0:=by decide
theorem first_prefix:([]:List (Fin 19)) ++ [0] <+: order:=by decide
theorem second_prefix:([]:List (Fin 19)) ++ [0] ++ [1] <+: order:=by decide
set_option maxHeartbeats 4000000 in
theorem numbers1 (n:Nat) (hn:1≤n) (l Bn n₀ c:Nat) (J Jx:List (Fin 19)→World→Prop)
  (hY : ∀pre x W,J pre W→pre.length<19→YieldAt Fence.wide (n-1) Tryz.prog l (encs c x) W fun e W' =>
   (e = .returned (.bool true)∧J (pre ++ [x]) W'∧Keep n₀ Bn W W')∨(e = .returned (.bool false)∧Jx (pre ++ [x]) W'))
  (W:World) (hBn:W.cell? ⟨Bn,0,none⟩=some (.pointer (some ⟨c,0,none⟩))) (h0:J [] W) (hdr : ∀pre w,J pre w→J pre w.drew) (hdx : ∀pre w,Jx pre w→Jx pre w.drew) :
  CallsIn Fence.wide n Tryz.prog 220 #[.func (.yield l) #[] #[],.pointer (some ⟨Bn,0,none⟩)] W fun e W'=>(∃v,e = .returned v) ∧
   ((∃ys,ys=order∧J ys W')∨(∃pre,pre <+: order∧Jx pre W')):=by
 refine callsIn_of_wp Tryz.func220 rfl trivial ?_ rfl
 simp only [Tryz.ntmps220,List.size_toArray,List.length_cons,List.length_nil,Nat.reduceAdd,Nat.reduceSub,Array.replicate_succ,Array.replicate_zero,List.push_toArray,List.append_toArray,List.nil_append,List.cons_append]
 obtain ⟨fn,tmps,assign,body,hy,hR⟩:=hY [] 0 W h0 (by decide)
 rw [encs_first] at hy
 gi_wp2
 refine hR.mono ?_
 rintro e W1 (⟨rfl,hJ1,hk1⟩ | ⟨rfl,hJx1⟩)
 ·clear hy hR
  obtain ⟨fn,tmps,assign,body,hy,hR⟩:=hY _ 1 W1 hJ1 (by decide)
  rw [encs_blocks] at hy
  have hB1:=(World.cell?_of_block (a:=⟨Bn,0,none⟩) hk1.2).trans hBn
  gi_wp2
  refine hR.mono ?_
  rintro e W2 (⟨rfl,hJ2,hk2⟩ | ⟨rfl,hJx2⟩)
  ·clear hy hR
   rw [ahead_zero] at hJ2
   have hk:=keep_t hk1 hk2
   clear hJ1 hk1 hk2 hB1
   gi_wp2
   gi_loopw [20] (fun i wr => ∃k:Nat,k≤8∧i = .int .i64 (k:Int)∧J (ahead k) wr∧Keep n₀ Bn W wr) (fun i _=>8-(intOf i).toNat)
   case atStart=>exact ⟨0,by omega,rfl,hJ2,hk⟩
   case round =>
    obtain ⟨k,hk8,rfl,hJs,hnx⟩:=hrel
    clear hJ2 hk
    have hc:=(World.cell?_of_block (a:=⟨Bn,0,none⟩) hnx.2).trans hBn
    by_cases hlt:k<8
    ·obtain ⟨fn,tmps,assign,body,hy,hR⟩:=hY _ (rootAt k) wr hJs (by rw [ahead_length k hk8]; omega)
     rw [encs_root c k hlt] at hy
     gi_wp2
     refine hR.mono ?_
     rintro e W3 (⟨rfl,hJ3,hk3⟩ | ⟨rfl,hJx3⟩)
     ·clear hy hR
      obtain ⟨fn,tmps,assign,body,hy,hR⟩:=hY _ (markAt k) W3 hJ3 (by rw [List.length_append,ahead_length k hk8]; simp; omega)
      rw [encs_mark c k hlt] at hy
      have hc3:=(World.cell?_of_block (a:=⟨Bn,0,none⟩) hk3.2).trans hc
      gi_wp2
      refine hR.mono ?_
      rintro e W4 (⟨rfl,hJ4,hk4⟩ | ⟨rfl,hJx4⟩)
      ·rw [ahead_root k hlt] at hJ4
       gi_wp2
       go_roundw
       case rel=>exact ⟨k+1,by omega,by go_num,hJ4,keep_t hnx (keep_t hk3 hk4)⟩
       case measure=>simp [intOf]; omega
      ·rw [ahead_root k hlt] at hJx4
       gi_wp2
       refine bodyPost_ret (results_none rfl _ _ _) rfl ?_
       exact ⟨⟨_,rfl⟩,.inr ⟨_,ahead_order _,hJx4⟩⟩
     ·gi_wp2
      refine ⟨fun _ h=>(by cases h),?_⟩
      gi_wp2
      refine bodyPost_ret (results_none rfl _ _ _) rfl ?_
      exact ⟨⟨_,rfl⟩,.inr ⟨_,ahead_mid k hlt,hJx3⟩⟩
    ·obtain rfl:k=8:=by omega
     obtain ⟨fn,tmps,assign,body,hy,hR⟩:=hY _ 18 wr hJs (by decide)
     rw [encs_last c] at hy
     gi_wp2
     refine hR.mono ?_
     rintro e W3 (⟨rfl,hJ3,hk3⟩ | ⟨rfl,hJx3⟩)
     ·rw [ahead_all] at hJ3
      gi_wp2
      go_end0
      exact ⟨⟨_,rfl⟩,.inl ⟨_,rfl,hJ3⟩⟩
     ·rw [ahead_all] at hJx3
      gi_wp2
      go_end0
      exact ⟨⟨_,rfl⟩,.inr ⟨_,List.prefix_refl _,hJx3⟩⟩
  ·gi_wp2
   refine bodyPost_ret (results_none rfl _ _ _) rfl ?_
   exact ⟨⟨_,rfl⟩,.inr ⟨_,second_prefix,hJx2⟩⟩
 ·gi_wp2
  refine ⟨fun _ h=>(by cases h),?_⟩
  gi_wp2
  refine bodyPost_ret (results_none rfl _ _ _) rfl ?_
  exact ⟨⟨_,rfl⟩,.inr ⟨_,first_prefix,hJx1⟩⟩
theorem numbers_any (n:Nat) (c:Nat) (w:World) :
  CallsIn Fence.wide n Tryz.prog 204 #[.pointer (some ⟨c,0,none⟩)] w fun e w'=>e = .returned (.func (.func 220) #[] #[.pointer (some ⟨w.heap.size,0,none⟩)])∧w'=w.alloc (.cells #[.pointer (some ⟨c,0,none⟩)] 328):=by
 refine callsIn_of_wp Tryz.func204 rfl trivial ?_ rfl
 simp only [Tryz.ntmps204,List.size_toArray,List.length_cons,List.length_nil,Nat.reduceAdd,Nat.reduceSub,Array.replicate_succ,Array.replicate_zero,List.push_toArray,List.append_toArray,List.nil_append,List.cons_append]
 gi_wp2
 go_ret
 exact ⟨rfl,rfl⟩
theorem drew_grown (w:World):w.grownBy w.drew none:=⟨rfl,rfl,rfl,Nat.le_refl _,fun _ _ _=>rfl⟩
theorem abides_drew {β:Type} {B:Nat} {J:β→World→Prop} (h:AbidesFrom B J) (s:β) (w:World) (hs:J s w):J s w.drew:=h s w _ none hs (drew_grown w) (fun r e=>by cases e)
theorem numbers_stops (n:Nat) (hn:1≤n) (Bn n₀ c:Nat) (w:World) (hB:Bn<w.heap.size) (hn₀:n₀≤w.heap.size)
  (hBn:w.cell? ⟨Bn,0,none⟩=some (.pointer (some ⟨c,0,none⟩))) :
  SeqStopsK Fence.wide n Tryz.prog 220 #[.pointer (some ⟨Bn,0,none⟩)] (encs c) (Keep n₀ Bn) (fun ys=>ys=order) (fun pre=>pre <+: order) 19 w:=fun l J Jx W hW hJ hJx hY h0 =>
 numbers1 n hn l Bn n₀ c J Jx hY W ((hW.cell (p:=⟨Bn,0,none⟩) hB).trans hBn) h0 (fun s w' hs=>abides_drew hJ s w' hs) (fun s w' hs=>abides_drew hJx s w' hs)
end Go.Proofs.YtogchamogbendaaGreat.Su
namespace Go.Proofs.YtogchamogbendaaGreat.Su
open Lib (hid)
open Go.RowKit Go.Shelf Oct Sf
attribute [local go_sem] Oper.semAt_some
set_option maxHeartbeats 1000000 in
theorem encode_no (s:Sup) (hs:Ok s) (w:World) (hf : ¬Fit s) :
  Calls Tryz.prog 167 #[sval s] w fun e w'=>e = .returned (.tuple #[.slice none 0 0,.int .i64 60])∧Below w.heap.size w w':=by
 have HR1:=hid (alloc_rowV w 69 (scells s))
 have HB1:=hid ((Below.refl w.heap.size w).alloc (Nat.le_refl _) (.cells (scells s).toArray 69))
 have HF:=hid hf
 clear hf
 refine (callsIn_wide (n:=5)).1 ?_
 refine callsIn_of_wp_marks Tryz.func167 rfl trivial ?_ rfl
 simp only [Tryz.ntmps167,List.size_toArray,List.length_cons,List.length_nil,Nat.reduceAdd,Nat.reduceSub,Array.replicate_succ,Array.replicate_zero,List.push_toArray,List.append_toArray,List.nil_append,List.cons_append]
 refine wpIn_wide.2 ?_
 unfold sval
 go_upto_region 1 with (fail)
 generalize w.alloc (.cells (scells s).toArray 69)=w1 at *
 go_wp2_with (refine wpList_load_row rfl 69 (.tmp 1) rfl w.heap.size rfl _ (scells s).toArray _ _ HR1.out Tryz.underlying69 rfl (size_scells _) ?_)
 refine (right_any s hs w1).mono ?_
 rintro e w2 ⟨rfl,B2⟩
 rw [decide_eq_false HF.out]
 have HB2:=hid (HB1.out.trans (B2.mono HB1.out.size))
 clear B2
 go_wp2_with fail
 exact ⟨_,results_tmp2 rfl _ _ _,rfl,HB2.out⟩
structure Laid (w0 w:World) (b:Nat→Bool) (s:Sup) (v4 v5 v11 v12 v13:Value):Prop where
 below:Below w0.heap.size w0 w
 x:b 0=true→v11 = .agg (scells s).toArray
 c:b 1=true→v12 = .agg (cvals (cont s)).toArray
 m:b 2=true → ∃g,v13 = .slice (some ⟨g,0,none⟩) 123 123∧w0.heap.size≤g∧RowV w g 5 (vals (List.replicate 123 0))
 p:b 3=true → ∃q,v4 = .pointer (some ⟨q,0,none⟩)∧w0.heap.size≤q ∧ ∃f,RowV w q 303 (cvals f)∧(b 5=true→f=cont s)
 r:b 4=true → ∃r v,v5 = .pointer (some ⟨r,0,none⟩)∧w0.heap.size≤r∧RowV w r 45 [v]∧(b 6=true→v=v13)
 i5:b 5=true→b 3=true
 i6:b 6=true→b 4=true∧b 2=true
theorem Laid.grow {w0 w w':World} {b:Nat→Bool} {s:Sup} {v4 v5 v11 v12 v13:Value} (h:Laid w0 w b s v4 v5 v11 v12 v13) (k:Below w.heap.size w w'):Laid w0 w' b s v4 v5 v11 v12 v13 :=
  ⟨h.below.trans (k.mono h.below.size),h.x,h.c,fun e=>let ⟨g,h1,h2,h3⟩:=h.m e; ⟨g,h1,h2,h3.below h3.lt k⟩,fun e=>let ⟨q,h1,h2,f,h3,h4⟩:=h.p e; ⟨q,h1,h2,f,h3.below h3.lt k,h4⟩,
   fun e=>let ⟨r,v,h1,h2,h3,h4⟩:=h.r e; ⟨r,v,h1,h2,h3.below h3.lt k,h4⟩,h.i5,h.i6⟩
theorem row_ne {w:World} {g q:Nat} {T U:TypeId} {vs us:List Value} (h:RowV w g T vs) (k:RowV w q U us) (hTU:T≠U):g≠q:=by
 rintro rfl
 unfold RowV at h k
 rw [h] at k
 exact hTU (by injection (Option.some.inj k))
theorem row_setRow_other {w:World} {g q:Nat} {T:TypeId} {vs:List Value} (h:RowV w g T vs) (cs:Array Value) (hq:g≠q):RowV (w.setRow q cs) g T vs:=by
 unfold RowV at h ⊢
 rw [setRow_other _ _ _ _ hq,h]
theorem row_setRow_same {w:World} {g:Nat} {T:TypeId} {vs us:List Value} (h:RowV w g T vs):RowV (w.setRow g us.toArray) g T us:=by
 unfold RowV at h ⊢
 exact setRow_heap _ _ _ _ _ _ h
theorem setRow_below {w:World} {B q:Nat} (cs:Array Value) (h:B≤q):Below B w (w.setRow q cs):=⟨rfl,rfl,rfl,by simp,fun k hk=>setRow_other _ _ _ _ (by omega)⟩
theorem wp_make {P:Program} {o:Oper} {a:Act} {w:World} {K:Act→World→Prop} {Q:Exit→Act→World→Prop} (ty:TypeId) (l c:Operand) (ho:o.op = .makeSlice ty l c) (v:Value) (w':World)
  (hrun:(Instr.makeSlice ty (a.eval l) (a.eval c)).run P w = .ok v w') (h:K (a.put o.dst v) w'):o.wp P a w K Q:=by
 unfold Oper.wp
 simp [execOp,ho,hrun,Result.andThen]
 exact h
theorem has_lt' {w:World} {b o:Nat} {bs:List UInt8} (h:Has w b o bs) (h0:0<bs.length):b<w.heap.size:=World.block_lt_of_cell? w _ (h 0 h0)
structure Pen (w:World) (g:Nat) (bs:List UInt8):Prop where
 has:Has w g 0 bs
 free:Free w g 0 123
 len:bs.length=123
theorem pen_own {β:Type} (g:Nat) (f:β→List UInt8):Own (fun s W=>Pen W g (f s)):=fun s X Y row hs hg hr =>
 ⟨fun i hi=>cell_kept (hs.has i hi) hg hr,fun i hi=>(frozen_kept (hs.has i (by rw [hs.len]; exact hi)) hg hr).trans (hs.free i hi),hs.len⟩
theorem rowV_own {β:Type} (g:Nat) (T:TypeId) (f:β→List Value):Own (fun s W=>RowV W g T (f s)):=fun s X Y row hs hg hr =>
 (hg.block g hs.lt (fun e=>by obtain ⟨o,ho,hc⟩:=hr g e.symm; rw [show X.heap[g]?=_ from hs] at ho; cases ho; cases hc)).trans hs
theorem put_pen {w:World} {g:Nat} {bs:List UInt8} (h:Pen w g bs) (o s n:Nat) (h1:1≤s) (h8:s≤8) (hs:o+s≤123) (hn:n<256 ^ s) :
  Calls Tryz.prog 124 #[.slice (some ⟨g,0,none⟩) 123 123,.int .i64 (o:Int),.int .i64 (s:Int),.int .u64 (n:Int)] w fun e w'=>e = .returned (.bool true)∧Pen w' g (bs.take o++bytesOf n s++bs.drop (o+s))∧Wrote w w' g o (o+s):=by
 have hp:=put_yes g 0 123 bs o s n w (by rw [h.len]; decide) h.has (by rw [h.len]; exact h.free) h1 h8 (by rw [h.len]; exact hs) hn
 rw [h.len] at hp
 refine hp.mono fun e w' ⟨he,D⟩=>⟨he,⟨D.has,fun i hi=>(D.wrote.frz _).trans (h.free i hi),?_⟩,by simpa using D.wrote⟩
 have:=h.len
 simp [length_bytesOf]
 omega
theorem wrote_keeps {w w':World} {b lo hi B:Nat} (W:Wrote w w' b lo hi) (h:b<B):KeepsFrom B w w' :=
 ⟨by rw [W.size]; exact Nat.le_refl _,fun k o hk ho _=>(W.block k (by omega)).trans ho⟩
theorem if_wanted {c:Bool} {A B:Prop} (h:c=true) (a:A):if c=true then A else B:=by rw [if_pos h]; exact a
set_option maxHeartbeats 1000000 in
theorem encode_yes (s:Sup) (hs:Ok s) (w:World) (hf:Fit s) :
  Calls Tryz.prog 167 #[sval s] w (SealPost w 6 (cbody (cont s))):=by
 have HR1:=hid (alloc_rowV w 69 (scells s))
 have HB1:=hid ((Below.refl w.heap.size w).alloc (Nat.le_refl _) (.cells (scells s).toArray 69))
 have HF:=hid hf
 have HO:=hid hs
 clear hf
 refine (callsIn_wide (n:=5)).1 ?_
 refine callsIn_of_wp_marks Tryz.func167 rfl trivial ?_ rfl
 simp only [Tryz.ntmps167,List.size_toArray,List.length_cons,List.length_nil,Nat.reduceAdd,Nat.reduceSub,Array.replicate_succ,Array.replicate_zero,List.push_toArray,List.append_toArray,List.nil_append,List.cons_append]
 refine wpIn_wide.2 ?_
 unfold sval
 go_upto_region 1 with (fail)
 generalize w.alloc (.cells (scells s).toArray 69)=w1 at *
 go_wp2_with (refine wpList_load_row rfl 69 (.tmp 1) rfl w.heap.size rfl _ (scells s).toArray _ _ HR1.out Tryz.underlying69 rfl (size_scells _) ?_)
 refine (right_any s hs w1).mono ?_
 rintro e w2 ⟨rfl,B2⟩
 rw [decide_eq_true HF.out]
 have HB2:=hid (HB1.out.trans (B2.mono HB1.out.size))
 have HR2:=hid (HR1.out.below HR1.out.lt B2)
 clear B2 HR1 HB1
 go_wp2_with fail
 refine Inv.wp_region_inv (fun b a wx => ∃v4 v5 v11 v12 v13,a=⟨#[.agg (scells s).toArray,.pointer (some ⟨w.heap.size,0,none⟩),.slice none 0 0,.int .i64 0,v4,v5,undef,undef,.agg (scells s).toArray,.bool true,.bool false,v11,v12,v13,undef,undef,undef,undef,undef,undef,undef,undef,undef,undef,undef,undef,undef,undef,undef,undef],[]⟩∧Hid (Laid w2 wx b s v4 v5 v11 v12 v13)) (by kernel_rfl) (by kernel_rfl) ?start ?steps ?done
 case start =>
  intro b hb
  refine ⟨undef,undef,undef,undef,undef,rfl,hid ⟨(show Still w2 w2.drew from ⟨rfl,rfl,rfl,rfl⟩).below _,?_,?_,?_,?_,?_,?_,?_⟩⟩
  all_goals (intro e; rw [hb _ (by decide)] at e; cases e)
 case steps =>
  refine ⟨?_,?_,?_,?_,?_,?_,?_,trivial⟩
  ·rintro b a wx hb hd ⟨v4,v5,v11,v12,v13,rfl,HL⟩ K hK
   have HR3:=HR2.out.below HR2.out.lt HL.out.below
   refine if_wanted rfl (wp_load_row 69 (.tmp 1) rfl w.heap.size rfl _ (scells s).toArray _ _ HR3 Tryz.underlying69 rfl (size_scells _) ?_)
   refine hK _ _ ⟨v4,v5,_,v12,v13,rfl,hid ⟨HL.out.below,fun _=>rfl,HL.out.c,HL.out.m,HL.out.p,HL.out.r,HL.out.i5,HL.out.i6⟩⟩
  ·rintro b a wx hb hd ⟨v4,v5,v11,v12,v13,rfl,HL⟩ K hK
   simp [Region.binds] at hd
   obtain rfl:=HL.out.x hd
   go_simp
   go_at_call 203
   refine (content_any s HO.out wx).mono ?_
   rintro e wy ⟨rfl,By⟩
   have HM:=hid (HL.out.grow By)
   try go_simp
   refine hK _ _ ⟨v4,v5,_,_,v13,rfl,hid ⟨HM.out.below,HM.out.x,fun _=>rfl,HM.out.m,HM.out.p,HM.out.r,HM.out.i5,HM.out.i6⟩⟩
  ·rintro b a wx hb hd ⟨v4,v5,v11,v12,v13,rfl,HL⟩ K hK
   have hmk:=run_make_bytes wx 123 (by omega)
   have RN:=alloc_row wx (List.replicate 123 0)
   have BN:=(Below.refl wx.heap.size wx).alloc (Nat.le_refl _) (.cells (vals (List.replicate 123 0)).toArray 5)
   have HM:=hid (And.intro RN (HL.out.grow BN))
   clear RN BN
   generalize wx.alloc (.cells (vals (List.replicate 123 0)).toArray 5)=wy at *
   refine if_wanted rfl (wp_make 45 (.const (.int .i64 123)) (.const (.int .i64 123)) rfl _ _ hmk ?_)
   refine hK _ _ ⟨v4,v5,v11,v12,_,rfl,hid ⟨HM.out.2.below,HM.out.2.x,HM.out.2.c,fun _=>⟨_,rfl,HL.out.below.size,HM.out.1⟩,HM.out.2.p,fun e => ?_,HM.out.2.i5,fun e=>⟨(HM.out.2.i6 e).1,rfl⟩⟩⟩
   obtain ⟨r,v,h1,h2,h3,h4⟩:=HM.out.2.r e
   exact ⟨r,v,h1,h2,h3,fun e6=>by have:=(HM.out.2.i6 e6).2; rw [hb] at this; cases this⟩
  ·rintro b a wx hb hd ⟨v4,v5,v11,v12,v13,rfl,HL⟩ K hK
   have RN:=alloc_rowV wx 303 (cvals fun _=>0)
   change RowV (wx.alloc (.cells #[.int .u64 0,.int .u64 0,.int .u64 0,.int .u64 0,.int .u64 0,.int .u64 0,.int .u64 0,.int .u64 0,.int .u64 0,.int .u64 0,.int .u64 0,.int .u64 0,.int .u64 0,.int .u64 0,.int .u64 0,.int .u64 0,.int .u64 0,.int .u64 0,.int .u64 0] 303)) _ _ _ at RN
   have HM:=hid (And.intro RN (HL.out.grow ((Below.refl wx.heap.size wx).alloc (Nat.le_refl _) (.cells #[.int .u64 0,.int .u64 0,.int .u64 0,.int .u64 0,.int .u64 0,.int .u64 0,.int .u64 0,.int .u64 0,.int .u64 0,.int .u64 0,.int .u64 0,.int .u64 0,.int .u64 0,.int .u64 0,.int .u64 0,.int .u64 0,.int .u64 0,.int .u64 0,.int .u64 0] 303))))
   clear RN
   go_simp
   generalize wx.alloc (.cells #[.int .u64 0,.int .u64 0,.int .u64 0,.int .u64 0,.int .u64 0,.int .u64 0,.int .u64 0,.int .u64 0,.int .u64 0,.int .u64 0,.int .u64 0,.int .u64 0,.int .u64 0,.int .u64 0,.int .u64 0,.int .u64 0,.int .u64 0,.int .u64 0,.int .u64 0] 303)=wy at *
   refine hK _ _ ⟨_,v5,v11,v12,v13,rfl,hid ⟨HM.out.2.below,HM.out.2.x,HM.out.2.c,HM.out.2.m,fun _=>⟨_,rfl,HL.out.below.size,_,HM.out.1,fun e5=>by have:=HM.out.2.i5 e5; rw [hb] at this; cases this⟩,HM.out.2.r,fun _=>rfl,HM.out.2.i6⟩⟩
  ·rintro b a wx hb hd ⟨v4,v5,v11,v12,v13,rfl,HL⟩ K hK
   have RN:=alloc_rowV wx 45 [.slice none 0 0]
   change RowV (wx.alloc (.cells #[.slice none 0 0] 45)) _ _ _ at RN
   have HM:=hid (And.intro RN (HL.out.grow ((Below.refl wx.heap.size wx).alloc (Nat.le_refl _) (.cells #[.slice none 0 0] 45))))
   clear RN
   go_simp
   generalize wx.alloc (.cells #[.slice none 0 0] 45)=wy at *
   refine hK _ _ ⟨v4,_,v11,v12,v13,rfl,hid ⟨HM.out.2.below,HM.out.2.x,HM.out.2.c,HM.out.2.m,HM.out.2.p,fun _=>⟨_,_,rfl,HL.out.below.size,HM.out.1,fun e6=>by have:=(HM.out.2.i6 e6).1; rw [hb] at this; cases this⟩,HM.out.2.i5,fun e=>⟨rfl,(HM.out.2.i6 e).2⟩⟩⟩
  ·rintro b a wx hb hd ⟨v4,v5,v11,v12,v13,rfl,HL⟩ K hK
   simp [Region.binds] at hd
   obtain ⟨h3,h1,-⟩:=hd
   obtain rfl:=HL.out.c h1
   obtain ⟨q,rfl,hq,f,hrow,-⟩:=HL.out.p h3
   have HQ:=hid (And.intro hq hrow)
   clear hq hrow
   refine if_wanted rfl (wp_store_row 303 (.tmp 4) (.tmp 12) rfl q (cvals (cont s)).toArray rfl rfl _ _ HQ.out.2 (size_cvals _) (by simp [length_cvals]) (one_cvals _) ?_)
   refine hK _ _ ⟨_,v5,v11,_,v13,rfl,hid ⟨HL.out.below.trans (setRow_below _ HQ.out.1),HL.out.x,HL.out.c,fun e => ?_,fun _=>⟨q,rfl,HQ.out.1,cont s,row_setRow_same HQ.out.2,fun _=>rfl⟩,fun e => ?_,fun _=>h3,HL.out.i6⟩⟩
   ·obtain ⟨g,k1,k2,k3⟩:=HL.out.m e
    exact ⟨g,k1,k2,row_setRow_other k3 _ (row_ne k3 HQ.out.2 (by decide))⟩
   ·obtain ⟨r,v,k1,k2,k3,k4⟩:=HL.out.r e
    exact ⟨r,v,k1,k2,row_setRow_other k3 _ (row_ne k3 HQ.out.2 (by decide)),k4⟩
  ·rintro b a wx hb hd ⟨v4,v5,v11,v12,v13,rfl,HL⟩ K hK
   simp [Region.binds] at hd
   obtain ⟨h4,h2,-⟩:=hd
   obtain ⟨g,rfl,hg,hgrow⟩:=HL.out.m h2
   obtain ⟨r,v,rfl,hr,hrow,-⟩:=HL.out.r h4
   have HQ:=hid (And.intro hr hrow)
   have hc:=hrow.cellAt (i:=0) rfl
   have hfz:=hrow.free 0
   clear hr hrow hg hgrow
   go_simp
   refine hK _ _ ⟨v4,_,v11,v12,_,rfl,hid ⟨HL.out.below.setCell (p:=⟨r,0,none⟩) HQ.out.1 _,HL.out.x,HL.out.c,fun e => ?_,fun e => ?_,fun _=>⟨r,_,rfl,HQ.out.1,(show RowV _ r _ _ from HQ.out.2.set 0 _),fun _=>rfl⟩,HL.out.i5,fun _=>⟨h4,h2⟩⟩⟩
   ·obtain ⟨g,k1,k2,k3⟩:=HL.out.m e
    exact ⟨g,k1,k2,k3.other (row_ne k3 HQ.out.2 (by decide))⟩
   ·obtain ⟨q,k1,k2,f,k3,k4⟩:=HL.out.p e
    exact ⟨q,k1,k2,f,k3.other (row_ne k3 HQ.out.2 (by decide)),k4⟩
 case done =>
  rintro b a wx hb ⟨v4,v5,v11,v12,v13,rfl,HL⟩
  obtain rfl:=HL.out.x (hb 0)
  obtain rfl:=HL.out.c (hb 1)
  obtain ⟨g,rfl,hg,hgrow⟩:=HL.out.m (hb 2)
  obtain ⟨q,rfl,hq,f,hqrow,hfc⟩:=HL.out.p (hb 3)
  obtain ⟨r,v,rfl,hr,hrrow,hvc⟩:=HL.out.r (hb 4)
  obtain rfl:=hfc (hb 5)
  obtain rfl:=hvc (hb 6)
  have HX:=hid (And.intro hg (And.intro hq hr))
  have HG:=hid hgrow
  have HQ:=hid hqrow
  have HRr:=hid hrrow
  have HB:=hid (HB2.out.trans (HL.out.below.mono HB2.out.size))
  clear hg hgrow hq hqrow hfc hr hrrow hvc HL hb HR2
  go_wp2_with fail
  refine (callsIn_wide.1 (numbers_any 5 q _)).mono ?_
  rintro e w' ⟨rfl,rfl⟩
  go_wp2_with fail
  have bN:=alloc_rowV wx 328 [.pointer (some ⟨q,0,none⟩)]
  have kN:=(Below.refl wx.heap.size wx).alloc (Nat.le_refl _) (.cells #[.pointer (some ⟨q,0,none⟩)] 328)
  have sN:(wx.alloc (.cells #[.pointer (some ⟨q,0,none⟩)] 328)).heap.size=wx.heap.size+1:=by simp
  change RowV (wx.alloc (.cells #[.pointer (some ⟨q,0,none⟩)] 328)) _ _ _ at bN
  generalize wx.alloc (.cells #[.pointer (some ⟨q,0,none⟩)] 328)=W0 at *
  have hg0:Pen W0 g (cbody (told [] (cont s))):=by
   have:=HG.out.below HG.out.lt kN
   have hrow:Row W0 g (List.replicate 123 0):=this
   exact ⟨by rw [told_nil,cbody_zero]; exact hrow.has,hrow.free 0 123,length_cbody _⟩
  have hq0:=HQ.out.below HQ.out.lt kN
  have hr0:=HRr.out.below HRr.out.lt kN
  have hlt:=And.intro HG.out.lt (And.intro HQ.out.lt HRr.out.lt)
  have HB0:=HB.out.trans (kN.mono HB.out.size)
  have HY:=hid (And.intro hlt sN)
  obtain ⟨hgw,hqw,hrw⟩:=HX.out
  have hc0:=bN.cellAt (i:=0) rfl
  have h2w:=HB2.out.size
  have HY0:=hid (And.intro hlt.1 hgw)
  have HNE:=hid (And.intro (row_ne hq0 (show RowV W0 g 5 _ from HG.out.below HG.out.lt kN) (by decide)) (row_ne hr0 (show RowV W0 g 5 _ from HG.out.below HG.out.lt kN) (by decide)))
  refine (wpIn_wide (n:=5)).1 ?_
  refine wpIn_rangeFunc_ownH rfl (by decide) (gf := 220) (lb := #[.pointer (some ⟨wx.heap.size,0,none⟩)]) rfl trivial (enters_of Tryz.func220 (by kernel_rfl) rfl)
   (numbers_stops (5-1) (by decide) wx.heap.size w.heap.size q W0 (by omega) (by omega) hc0) keep_t (keep_b (by omega) (by omega)) (Below.refl _ _) (fun _=>rfl)
   (fun pre W=>((Pen W g (cbody (told pre (cont s)))∧RowV W q 303 (cvals (cont s)))∧RowV W r 45 [.slice (some ⟨g,0,none⟩) 123 123])∧Below w.heap.size W0 W)
   (fun _ _ _=>False)
   (OwnFrom.and (OwnFrom.and (OwnFrom.and (Own.from (pen_own g (fun pre=>cbody (told pre (cont s)))) _) (Own.from (rowV_own q _ (fun _=>cvals (cont s))) _)) (Own.from (rowV_own r _ (fun _ => [.slice (some ⟨g,0,none⟩) 123 123])) _)) (ownFrom_below (by omega) (by omega)))
   (fun _ _ _ _ _ hs _ _=>hs)
   ⟨⟨⟨hg0,hq0⟩,hr0⟩,Below.refl _ _⟩
   (fun x a' W => ∃Bx,wx.heap.size<Bx∧RowV W Bx 309 [.int .i64 (pos x.val:Int),.int .i64 (size x.val:Int)]∧a'=⟨#[.agg (scells s).toArray,.pointer (some ⟨w.heap.size,0,none⟩),.slice none 0 0,.int .i64 0,.pointer (some ⟨q,0,none⟩),.pointer (some ⟨r,0,none⟩),.pointer (some ⟨Bx,0,none⟩),.pointer (some ⟨q,x.val,none⟩),.agg (scells s).toArray,.bool true,.bool false,.agg (scells s).toArray,.agg (cvals (cont s)).toArray,.slice (some ⟨g,0,none⟩) 123 123,.func (.func 220) #[] #[.pointer (some ⟨wx.heap.size,0,none⟩)],.agg #[.int .i64 (pos x.val:Int),.int .i64 (size x.val:Int)],.pointer (some ⟨q,x.val,none⟩),undef,undef,undef,undef,undef,undef,undef,undef,undef,undef,undef,undef,undef],[]⟩)
   ?hax ?assign ?body ?done ?stop
  case hax =>
   rintro x a' _ X Y row ⟨Bx,h1,h2,h3⟩ hg hr
   exact ⟨Bx,h1,rowV_own (β:=Unit) Bx _ (fun _=>_) () X Y row h2 hg (fun r e=>(hr r e).2),h3⟩
  case assign =>
   intro l pre x W K hI hK
   unfold encs
   gi_wp2
   obtain ⟨⟨⟨hp,hqr⟩,hrr⟩,hB⟩:=hI
   have kA:=(Below.refl W.heap.size W).alloc (Nat.le_refl _) (.cells #[.int .i64 (pos x.val:Int),.int .i64 (size x.val:Int)] 309)
   have hgW:=has_lt' hp.has (by rw [hp.len]; decide)
   refine hK _ _ ((KeepsOthers.alloc _ _).from _) ⟨kA.mono (by have:=hB.size; omega),kA.block _ ?_⟩ ⟨⟨⟨⟨hp.has.below hgW kA,fun i hi=>(kA.frozen (p:=⟨g,0+i,none⟩) hgW).trans (hp.free i hi),hp.len⟩,hqr.below hqr.lt kA⟩,hrr.below hrr.lt kA⟩,hB.trans (kA.mono (by have:=hB.size; omega))⟩ ⟨W.heap.size,?_,alloc_rowV W 309 [.int .i64 (pos x.val:Int),.int .i64 (size x.val:Int)],rfl⟩
   ·have:=hB.size; omega
   ·have:=hB.size; omega
  case body =>
   rintro l pre x a' W hl ⟨r',hr'⟩ ⟨⟨⟨hp,hqr⟩,hrr⟩,hB⟩ ⟨Bx,hBx,bX,rfl⟩ hlt
   have x0:=bX.cellAt (i:=0) rfl
   have x1:=bX.cellAt (i:=1) rfl
   have y0:=hrr.cellAt (i:=0) rfl
   have z0:=hqr.cellAt (cvals_at (cont s) x.val x.isLt)
   have hmx:Tryz.prog.follows .mixedOrders=true:=by kernel_rfl
   have HPP:=hid hp
   have HPN:=hid (show Calls Tryz.prog 124 #[.slice (some ⟨g,0,none⟩) 123 123,.int .i64 (pos x.val:Int),.int .i64 (size x.val:Int),.int .u64 (cont s x.val:Int)] W.drew _ from put_pen (w:=W.drew) (g:=g) (bs:=cbody (told pre (cont s))) ⟨hp.has.still ⟨rfl,rfl,rfl,rfl⟩,hp.free,hp.len⟩ (pos x.val) (size x.val) (cont s x.val) (size_range _).1 (size_range _).2 (pos_size _ x.isLt) (cont_lt HO.out x.val))
   have hmt:(cbody (told pre (cont s))).take (pos x.val)++bytesOf (cont s x.val) (size x.val)++(cbody (told pre (cont s))).drop (pos x.val+size x.val)=cbody (told (pre ++ [x]) (cont s)):=by rw [cbody_put _ _ _ x.isLt,told_snoc]
   rw [hmt] at HPN
   clear hp hmt
   gi_wp2
   refine InvIn.wpIn_region_inv (fun b a wy => ∃u17 u18 u19 u20 u21 u22 u23 u24 u25,a=⟨#[.agg (scells s).toArray,.pointer (some ⟨w.heap.size,0,none⟩),.slice none 0 0,.int .i64 0,.pointer (some ⟨q,0,none⟩),.pointer (some ⟨r,0,none⟩),.pointer (some ⟨Bx,0,none⟩),.pointer (some ⟨q,x.val,none⟩),.agg (scells s).toArray,.bool true,.bool false,.agg (scells s).toArray,.agg (cvals (cont s)).toArray,.slice (some ⟨g,0,none⟩) 123 123,.func (.func 220) #[] #[.pointer (some ⟨wx.heap.size,0,none⟩)],.agg #[.int .i64 (pos x.val:Int),.int .i64 (size x.val:Int)],.pointer (some ⟨q,x.val,none⟩),u17,u18,u19,u20,u21,u22,u23,u24,u25,undef,undef,undef,undef],[]⟩∧Hid ((b 0=true→u17 = .slice (some ⟨g,0,none⟩) 123 123)∧(b 1=true→u18 = .pointer (some ⟨Bx,0,none⟩))∧(b 2=true→u19 = .int .i64 (pos x.val:Int))∧(b 3=true→u20 = .pointer (some ⟨Bx,1,none⟩))∧(b 4=true→u21 = .int .i64 (size x.val:Int))∧(b 5=true→u22 = .pointer (some ⟨q,x.val,none⟩))∧(b 6=true→u23 = .pointer (some ⟨q,x.val,none⟩))∧(b 7=true→u24 = .int .u64 (cont s x.val:Int)))∧Hid (b 8=true→b 0=true∧b 2=true∧b 4=true∧b 7=true)∧Hid (b 8=false→wy=W.drew)∧Hid (b 8=true→Pen wy g (cbody (told (pre ++ [x]) (cont s)))∧Wrote W.drew wy g (pos x.val) (pos x.val+size x.val))) hmx (by kernel_rfl) ?start2 ?steps2 ?done2
   case start2 =>
    intro b hb
    refine ⟨undef,undef,undef,undef,undef,undef,undef,undef,undef,rfl,hid ⟨?_,?_,?_,?_,?_,?_,?_,?_⟩,hid ?_,hid (fun _=>rfl),hid ?_⟩
    all_goals (intro e; rw [hb _ (by decide)] at e; cases e)
   case steps2 =>
    refine ⟨?_,?_,?_,?_,?_,?_,?_,?_,?_,trivial⟩
    ·rintro b a wy hb hd ⟨u17,u18,u19,u20,u21,u22,u23,u24,u25,rfl,HV,HD,HN,HY⟩ K hK
     obtain ⟨h0,h1,h2,h3,h4,h5,h6,h7⟩:=HV.out
     have h8f:b 8=false:=by
      cases e8:b 8 with
      | false=>rfl
      | true=>have:=(HD.out e8).1; rw [hb] at this; cases this
     obtain rfl:=HN.out h8f
     go_simp
     exact hK _ _ ⟨_,_,_,_,_,_,_,_,_,rfl,hid ⟨fun _=>rfl,h1,h2,h3,h4,h5,h6,h7⟩,hid (fun e=>⟨rfl,(HD.out e).2.1,(HD.out e).2.2.1,(HD.out e).2.2.2⟩),HN,HY⟩
    ·rintro b a wy hb hd ⟨u17,u18,u19,u20,u21,u22,u23,u24,u25,rfl,HV,HD,HN,HY⟩ K hK
     obtain ⟨h0,h1,h2,h3,h4,h5,h6,h7⟩:=HV.out
     go_simp
     exact hK _ _ ⟨_,_,_,_,_,_,_,_,_,rfl,hid ⟨h0,fun _=>rfl,h2,h3,h4,h5,h6,h7⟩,HD,HN,HY⟩
    ·rintro b a wy hb hd ⟨u17,u18,u19,u20,u21,u22,u23,u24,u25,rfl,HV,HD,HN,HY⟩ K hK
     simp [Region.binds] at hd
     obtain ⟨h0,h1,h2,h3,h4,h5,h6,h7⟩:=HV.out
     obtain rfl:=h1 hd
     have h8f:b 8=false:=by
      cases e8:b 8 with
      | false=>rfl
      | true=>have:=(HD.out e8).2.1; rw [hb] at this; cases this
     obtain rfl:=HN.out h8f
     go_simp
     exact hK _ _ ⟨_,_,_,_,_,_,_,_,_,rfl,hid ⟨h0,h1,fun _=>rfl,h3,h4,h5,h6,h7⟩,hid (fun e=>⟨(HD.out e).1,rfl,(HD.out e).2.2.1,(HD.out e).2.2.2⟩),HN,HY⟩
    ·rintro b a wy hb hd ⟨u17,u18,u19,u20,u21,u22,u23,u24,u25,rfl,HV,HD,HN,HY⟩ K hK
     obtain ⟨h0,h1,h2,h3,h4,h5,h6,h7⟩:=HV.out
     go_simp
     exact hK _ _ ⟨_,_,_,_,_,_,_,_,_,rfl,hid ⟨h0,h1,h2,fun _=>rfl,h4,h5,h6,h7⟩,HD,HN,HY⟩
    ·rintro b a wy hb hd ⟨u17,u18,u19,u20,u21,u22,u23,u24,u25,rfl,HV,HD,HN,HY⟩ K hK
     simp [Region.binds] at hd
     obtain ⟨h0,h1,h2,h3,h4,h5,h6,h7⟩:=HV.out
     obtain rfl:=h3 hd
     have h8f:b 8=false:=by
      cases e8:b 8 with
      | false=>rfl
      | true=>have:=(HD.out e8).2.2.1; rw [hb] at this; cases this
     obtain rfl:=HN.out h8f
     go_simp
     exact hK _ _ ⟨_,_,_,_,_,_,_,_,_,rfl,hid ⟨h0,h1,h2,h3,fun _=>rfl,h5,h6,h7⟩,hid (fun e=>⟨(HD.out e).1,(HD.out e).2.1,rfl,(HD.out e).2.2.2⟩),HN,HY⟩
    ·rintro b a wy hb hd ⟨u17,u18,u19,u20,u21,u22,u23,u24,u25,rfl,HV,HD,HN,HY⟩ K hK
     obtain ⟨h0,h1,h2,h3,h4,h5,h6,h7⟩:=HV.out
     go_simp
     exact hK _ _ ⟨_,_,_,_,_,_,_,_,_,rfl,hid ⟨h0,h1,h2,h3,h4,fun _=>rfl,h6,h7⟩,HD,HN,HY⟩
    ·rintro b a wy hb hd ⟨u17,u18,u19,u20,u21,u22,u23,u24,u25,rfl,HV,HD,HN,HY⟩ K hK
     simp [Region.binds] at hd
     obtain ⟨h0,h1,h2,h3,h4,h5,h6,h7⟩:=HV.out
     obtain rfl:=h5 hd
     go_simp
     exact hK _ _ ⟨_,_,_,_,_,_,_,_,_,rfl,hid ⟨h0,h1,h2,h3,h4,h5,fun _=>rfl,h7⟩,HD,HN,HY⟩
    ·rintro b a wy hb hd ⟨u17,u18,u19,u20,u21,u22,u23,u24,u25,rfl,HV,HD,HN,HY⟩ K hK
     simp [Region.binds] at hd
     obtain ⟨h0,h1,h2,h3,h4,h5,h6,h7⟩:=HV.out
     obtain rfl:=h6 hd
     have h8f:b 8=false:=by
      cases e8:b 8 with
      | false=>rfl
      | true=>have:=(HD.out e8).2.2.2; rw [hb] at this; cases this
     obtain rfl:=HN.out h8f
     go_simp
     exact hK _ _ ⟨_,_,_,_,_,_,_,_,_,rfl,hid ⟨h0,h1,h2,h3,h4,h5,h6,fun _=>rfl⟩,hid (fun e=>⟨(HD.out e).1,(HD.out e).2.1,(HD.out e).2.2.1,rfl⟩),HN,HY⟩
    ·rintro b a wy hb hd ⟨u17,u18,u19,u20,u21,u22,u23,u24,u25,rfl,HV,HD,HN,HY⟩ K hK
     simp [Region.binds] at hd
     obtain ⟨h0,h1,h2,h3,h4,h5,h6,h7⟩:=HV.out
     obtain rfl:=h0 hd.1
     obtain rfl:=h2 hd.2.1
     obtain rfl:=h4 hd.2.2.1
     obtain rfl:=h7 hd.2.2.2
     obtain rfl:=HN.out hb
     go_simp
     refine ⟨trivial,?_⟩
     gi_at_call 124
     refine (CallsIn.inRound l (callsIn_wide.2 HPN.out)).mono ?_
     rintro e w9 ⟨rfl,P9,D9⟩
     try go_simp
     exact hK _ _ ⟨_,_,_,_,_,_,_,_,_,rfl,hid ⟨h0,h1,h2,h3,h4,h5,h6,h7⟩,hid (fun _=>hd),hid (fun e=>by simp [Inv.mark] at e),hid (fun _=>⟨P9,D9⟩)⟩
   case done2 =>
    rintro b a wy hb ⟨u17,u18,u19,u20,u21,u22,u23,u24,u25,rfl,HV,HD,HN,HY⟩
    obtain ⟨P9,D9⟩:=HY.out (hb 8)
    have kd:=(show Still W W.drew from ⟨rfl,rfl,rfl,rfl⟩)
    have hBg:=hB.size
    have hgx:=HY0.out
    gi_wp2
    refine ⟨(KeepsFrom.trans ((KeepsOthers.drew W).from _) (wrote_keeps D9 (by omega))),⟨(kd.below _).trans (D9.below (by omega)),?_⟩,⟨⟨P9,?_⟩,?_⟩,hB.trans ((kd.below _).trans (D9.below (by omega)))⟩
    ·exact (D9.block _ (by omega)).trans rfl
    ·exact (hqr.still kd).block (D9.block _ HNE.out.1)
    ·exact (hrr.still kd).block (D9.block _ HNE.out.2)
  case done =>
   rintro D ys W hD rfl ⟨⟨⟨hp,hqr⟩,hrr⟩,hB⟩ hK
   have c0:=hrr.cellAt (i:=0) rfl
   rw [cbody_order] at hp
   have hDw:w.heap.size≤D:=by omega
   have hDl:D<W.heap.size:=(Array.getElem?_eq_some_iff.1 hK).1
   have HPP:=hid hp
   have HKK:=hid (And.intro hK hDl)
   have HBW:=hid (HB0.trans hB)
   clear hp hqr hK hrr
   go_wp2_with fail
   refine (seal_any 6 _ 123 123 (cbody (cont s)) (length_cbody _) W (by decide) HPP.out.has.told).mono ?_
   rintro e w20 ⟨g2,rfl,F⟩
   have HFR:=hid F
   clear F
   go_wp2_with fail
   have hK6:=(HFR.out.below.block D HKK.out.2).trans HKK.out.1
   refine ⟨by simp,.inl ⟨_,_,rfl,run_takeDeferred hK6,?_⟩⟩
   refine ⟨_,results_tmp2 rfl _ _ _,g2,rfl,?_⟩
   have hlo:=HFR.out.lo
   have hne:(w20.putObj D (.deferred none)).heap[g2]?=w20.heap[g2]?:=World.putObj_heap_other (by have:=HKK.out.2; omega)
   refine ⟨(HBW.out.trans (HFR.out.below.mono HBW.out.size)).trans (belowK_b (w:=w) (Nat.le_refl _) _ D _ _ hDw hK6 rfl rfl),Nat.le_trans HBW.out.size hlo,by simpa using HFR.out.hi,fun i hi=>(World.cell?_of_block (a:=⟨g2,0+i,none⟩) hne).trans (HFR.out.has i hi),fun i hi => ?_,HFR.out.len,HFR.out.cap,(by obtain ⟨cs,fr,e⟩:=HFR.out.typ; exact ⟨cs,fr,hne.trans e⟩)⟩
   have:=HFR.out.free i hi
   unfold World.frozen? at this ⊢
   simp only [hne]
   exact this
  case stop =>
   rintro D c pre W _ _ h _
   exact h.elim
end Go.Proofs.YtogchamogbendaaGreat.Su
namespace Go.Proofs.YtogchamogbendaaGreat.Su
open Lib (hid)
open Go.RowKit Go.Shelf Oct Sf
attribute [local go_sem] Oper.semAt_some
instance (ps:List UInt8):Decidable (Oct.Good ps):=by unfold Oct.Good; infer_instance
instance (ps:List UInt8):Decidable (Holds ps):=by unfold Holds; infer_instance
def dsup (ps:List UInt8):Sup:=if Holds ps then sIn ps else zero18
def derr (ps:List UInt8):Int:=if Holds ps then 0 else 60
theorem ok_dsup (ps:List UInt8):Ok (dsup ps):=by unfold dsup; split; exact ok_sIn ps; exact ok_zero
theorem results_sup {fn:Func} {p u:Tmp} (h:fn.results = #[.cell p 69,.tmp u]) (tmps:Array Value) (w:World) (g:Nat) (s:Sup)
  (hp:tmps.getD p undef = .pointer (some ⟨g,0,none⟩)) (R:RowV w g 69 (scells s)):(results fn tmps).run Tryz.prog w = .ok (.tuple #[sval s,tmps.getD u undef]) w:=by
 rw [results_cell_tmp h,hp]
 simp only [asAddr,Sem.run_pure,Result.andThen_ok]
 rw [run_loadVar_row w g _ _ _ _ _ R Tryz.underlying69 rfl (size_scells s)]
 rfl
theorem built_zero:Tryz.prog.built 69 []=some (scells zero18).toArray:=by kernel_rfl
theorem bytes_equal (a c:Option Addr) (len len' cap cap':Nat) (xs ys:List UInt8) (hx':xs.length=len) (hy':ys.length=len') (w:World) (hx:Oct.Told w a xs) (hy:Oct.Told w c ys) :
  Calls Tryz.prog 178 #[.slice a len cap,.slice c len' cap'] w fun e w'=>e = .returned (.bool (xs==ys))∧w=w':=by
 subst hx' hy'
 have k1:=conv_told (P:=Tryz.prog) hx cap 45 9 5 Tryz.underlying45 Tryz.underlying5 Tryz.underlying9
 have k2:=conv_told (P:=Tryz.prog) hy cap' 45 9 5 Tryz.underlying45 Tryz.underlying5 Tryz.underlying9
 clear hx hy
 go_enter Tryz.func178,Tryz.ntmps178
 go_wp2
 go_ret
 exact ⟨rfl,rfl⟩
set_option maxHeartbeats 1000000 in
theorem decode_len (a:Option Addr) (len cap:Nat) (w:World) (h:len≠128) (hm:len≤maxLen) :
  Calls Tryz.prog 188 #[.slice a len cap] w fun e w'=>e = .returned (.tuple #[sval zero18,.int .i64 60])∧Below w.heap.size w w':=by
 have HR:=hid (show RowV (w.alloc (.cells #[(.int .u64 0),(.int .u32 0),(.int .u32 0),(.int .u32 0),(.int .u32 0),(.int .u32 0),(.int .u32 0),(.int .u32 0),(.int .u32 0),(.int .u32 0),(.int .u64 0),(.int .u64 0),(.int .u64 0),(.int .u64 0),(.int .u64 0),(.int .u64 0),(.int .u64 0),(.int .u64 0)] 69)) w.heap.size 69 (scells zero18) from alloc_rowV w 69 (scells zero18))
 have HB:=hid ((Below.refl w.heap.size w).alloc (Nat.le_refl _) (.cells #[(.int .u64 0),(.int .u32 0),(.int .u32 0),(.int .u32 0),(.int .u32 0),(.int .u32 0),(.int .u32 0),(.int .u32 0),(.int .u32 0),(.int .u32 0),(.int .u64 0),(.int .u64 0),(.int .u64 0),(.int .u64 0),(.int .u64 0),(.int .u64 0),(.int .u64 0),(.int .u64 0)] 69))
 refine (callsIn_wide (n:=5)).1 ?_
 refine callsIn_of_wp_marks Tryz.func188 rfl trivial ?_ rfl
 simp only [Tryz.ntmps188,List.size_toArray,List.length_cons,List.length_nil,Nat.reduceAdd,Nat.reduceSub,Array.replicate_succ,Array.replicate_zero,List.push_toArray,List.append_toArray,List.nil_append,List.cons_append]
 refine wpIn_wide.2 ?_
 go_upto_region 1 with (fail)
 generalize w.alloc (.cells #[(.int .u64 0),(.int .u32 0),(.int .u32 0),(.int .u32 0),(.int .u32 0),(.int .u32 0),(.int .u32 0),(.int .u32 0),(.int .u32 0),(.int .u32 0),(.int .u64 0),(.int .u64 0),(.int .u64 0),(.int .u64 0),(.int .u64 0),(.int .u64 0),(.int .u64 0),(.int .u64 0)] 69)=w1 at *
 go_wp2_with fail
 refine (open_len a len cap w1 h hm).mono ?_
 rintro e w' ⟨rfl,rfl⟩
 have HR2:=hid (HR.out.below HR.out.lt ((Below.refl w1.heap.size w1).trans ((Below.refl w1.heap.size w1).alloc (Nat.le_refl _) (.cells #[.slice none 0 0] 45))))
 have HB2:=hid (HB.out.trans (((Below.refl w1.heap.size w1).trans ((Below.refl w1.heap.size w1).alloc (Nat.le_refl _) (.cells #[.slice none 0 0] 45))).mono HB.out.size))
 go_upto_region 3 with (fail)
 generalize w1.alloc (.cells #[.slice none 0 0] 45)=w2 at *
 go_wp2_with (first | (refine wpList_store_row rfl 69 (.tmp 2) (.tmp 21) rfl w.heap.size (scells zero18).toArray rfl rfl _ _ HR2.out (size_scells _) (by simp [length_scells]) (one_scells _) ?_) | (refine wpList_build_as rfl 69 #[] rfl (scells zero18).toArray ?_ ?_; (simp [Act.eval]); exact built_zero))
 exact ⟨_,results_sup rfl _ _ w.heap.size zero18 rfl (row_setRow_same HR2.out),rfl,HB2.out.trans (setRow_below _ (Nat.le_refl _))⟩
set_option maxHeartbeats 1000000 in
theorem decode_sum (b o cap:Nat) (ps:List UInt8) (w:World) (hb:Has w b o ps) (hlen:ps.length=128) (hc:128≤cap) (hm:cap≤maxLen) (hs : ¬Oct.Good ps) :
  Calls Tryz.prog 188 #[.slice (some ⟨b,o,none⟩) 128 cap] w fun e w'=>e = .returned (.tuple #[sval zero18,.int .i64 60])∧Below w.heap.size w w':=by
 have HH:=hid (hb.below (has_lt' hb (by omega)) ((Below.refl w.heap.size w).alloc (Nat.le_refl _) (.cells #[(.int .u64 0),(.int .u32 0),(.int .u32 0),(.int .u32 0),(.int .u32 0),(.int .u32 0),(.int .u32 0),(.int .u32 0),(.int .u32 0),(.int .u32 0),(.int .u64 0),(.int .u64 0),(.int .u64 0),(.int .u64 0),(.int .u64 0),(.int .u64 0),(.int .u64 0),(.int .u64 0)] 69)))
 clear hb
 have HR:=hid (show RowV (w.alloc (.cells #[(.int .u64 0),(.int .u32 0),(.int .u32 0),(.int .u32 0),(.int .u32 0),(.int .u32 0),(.int .u32 0),(.int .u32 0),(.int .u32 0),(.int .u32 0),(.int .u64 0),(.int .u64 0),(.int .u64 0),(.int .u64 0),(.int .u64 0),(.int .u64 0),(.int .u64 0),(.int .u64 0)] 69)) w.heap.size 69 (scells zero18) from alloc_rowV w 69 (scells zero18))
 have HB:=hid ((Below.refl w.heap.size w).alloc (Nat.le_refl _) (.cells #[(.int .u64 0),(.int .u32 0),(.int .u32 0),(.int .u32 0),(.int .u32 0),(.int .u32 0),(.int .u32 0),(.int .u32 0),(.int .u32 0),(.int .u32 0),(.int .u64 0),(.int .u64 0),(.int .u64 0),(.int .u64 0),(.int .u64 0),(.int .u64 0),(.int .u64 0),(.int .u64 0)] 69))
 refine (callsIn_wide (n:=5)).1 ?_
 refine callsIn_of_wp_marks Tryz.func188 rfl trivial ?_ rfl
 simp only [Tryz.ntmps188,List.size_toArray,List.length_cons,List.length_nil,Nat.reduceAdd,Nat.reduceSub,Array.replicate_succ,Array.replicate_zero,List.push_toArray,List.append_toArray,List.nil_append,List.cons_append]
 refine wpIn_wide.2 ?_
 go_upto_region 1 with (fail)
 generalize w.alloc (.cells #[(.int .u64 0),(.int .u32 0),(.int .u32 0),(.int .u32 0),(.int .u32 0),(.int .u32 0),(.int .u32 0),(.int .u32 0),(.int .u32 0),(.int .u32 0),(.int .u64 0),(.int .u64 0),(.int .u64 0),(.int .u64 0),(.int .u64 0),(.int .u64 0),(.int .u64 0),(.int .u64 0)] 69)=w1 at *
 go_wp2_with fail
 refine (open_bad b o cap ps w1 HH.out hlen hc hm (fun e=>hs e)).mono ?_
 rintro e w' ⟨rfl,S2⟩
 have HS:=hid S2
 clear S2
 have HR2:=hid (HR.out.below HR.out.lt ((HS.out.below w1.heap.size).trans ((Below.refl w1.heap.size w').alloc (by rw [HS.out.heap]; exact Nat.le_refl _) (.cells #[.slice none 0 0] 45))))
 have HB2:=hid (HB.out.trans (((HS.out.below w1.heap.size).trans ((Below.refl w1.heap.size w').alloc (by rw [HS.out.heap]; exact Nat.le_refl _) (.cells #[.slice none 0 0] 45))).mono HB.out.size))
 go_upto_region 3 with (fail)
 generalize w'.alloc (.cells #[.slice none 0 0] 45)=w2 at *
 go_wp2_with (first | (refine wpList_store_row rfl 69 (.tmp 2) (.tmp 21) rfl w.heap.size (scells zero18).toArray rfl rfl _ _ HR2.out (size_scells _) (by simp [length_scells]) (one_scells _) ?_) | (refine wpList_build_as rfl 69 #[] rfl (scells zero18).toArray ?_ ?_; (simp [Act.eval]); exact built_zero))
 exact ⟨_,results_sup rfl _ _ w.heap.size zero18 rfl (row_setRow_same HR2.out),rfl,HB2.out.trans (setRow_below _ (Nat.le_refl _))⟩
set_option maxHeartbeats 2000000 in
theorem decode_good (b o cap:Nat) (ps:List UInt8) (w:World) (hb:Has w b o ps) (hlen:ps.length=128) (hc:128≤cap) (hm:cap≤maxLen) (hs:Oct.Good ps) :
  Calls Tryz.prog 188 #[.slice (some ⟨b,o,none⟩) 128 cap] w fun e w'=>e = .returned (.tuple #[sval (dsup ps),.int .i64 (derr ps)])∧Below w.heap.size w w':=by
 have HBP:=hid (hb.below (has_lt' hb (by omega)) ((Below.refl w.heap.size w).alloc (Nat.le_refl _) (.cells #[(.int .u64 0),(.int .u32 0),(.int .u32 0),(.int .u32 0),(.int .u32 0),(.int .u32 0),(.int .u32 0),(.int .u32 0),(.int .u32 0),(.int .u32 0),(.int .u64 0),(.int .u64 0),(.int .u64 0),(.int .u64 0),(.int .u64 0),(.int .u64 0),(.int .u64 0),(.int .u64 0)] 69)))
 have HL:=hid hlen
 have HS:=hid hs
 clear hb hs
 have HR:=hid (show RowV (w.alloc (.cells #[(.int .u64 0),(.int .u32 0),(.int .u32 0),(.int .u32 0),(.int .u32 0),(.int .u32 0),(.int .u32 0),(.int .u32 0),(.int .u32 0),(.int .u32 0),(.int .u64 0),(.int .u64 0),(.int .u64 0),(.int .u64 0),(.int .u64 0),(.int .u64 0),(.int .u64 0),(.int .u64 0)] 69)) w.heap.size 69 (scells zero18) from alloc_rowV w 69 (scells zero18))
 have HB:=hid ((Below.refl w.heap.size w).alloc (Nat.le_refl _) (.cells #[(.int .u64 0),(.int .u32 0),(.int .u32 0),(.int .u32 0),(.int .u32 0),(.int .u32 0),(.int .u32 0),(.int .u32 0),(.int .u32 0),(.int .u32 0),(.int .u64 0),(.int .u64 0),(.int .u64 0),(.int .u64 0),(.int .u64 0),(.int .u64 0),(.int .u64 0),(.int .u64 0)] 69))
 refine (callsIn_wide (n:=5)).1 ?_
 refine callsIn_of_wp_marks Tryz.func188 rfl trivial ?_ rfl
 simp only [Tryz.ntmps188,List.size_toArray,List.length_cons,List.length_nil,Nat.reduceAdd,Nat.reduceSub,Array.replicate_succ,Array.replicate_zero,List.push_toArray,List.append_toArray,List.nil_append,List.cons_append]
 refine wpIn_wide.2 ?_
 go_upto_region 1 with (fail)
 generalize w.alloc (.cells #[(.int .u64 0),(.int .u32 0),(.int .u32 0),(.int .u32 0),(.int .u32 0),(.int .u32 0),(.int .u32 0),(.int .u32 0),(.int .u32 0),(.int .u32 0),(.int .u64 0),(.int .u64 0),(.int .u64 0),(.int .u64 0),(.int .u64 0),(.int .u64 0),(.int .u64 0),(.int .u64 0)] 69)=w1 at *
 have HO:=hid (open_good b o cap ps w1 HBP.out hlen hc hm HS.out)
 have hbl:(bodyIn ps).length=123:=by simp [bodyIn,hlen]
 generalize (ps[0]'(by omega))=kd at HO
 clear hlen
 go_wp2_with fail
 refine HO.out.mono ?_
 rintro e w2 ⟨g,rfl,F⟩
 have HF:=hid (show Fresh w1 w2 g (bodyIn ps) 123 from F)
 clear F HO
 go_upto_region 4 with (fail)
 have R3:=alloc_rowV w2 45 [.slice (some ⟨g,0,none⟩) 123 123]
 have b3:=(Below.refl w2.heap.size w2).alloc (Nat.le_refl _) (.cells #[.slice (some ⟨g,0,none⟩) 123 123] 45)
 change RowV (w2.alloc (.cells #[.slice (some ⟨g,0,none⟩) 123 123] 45)) _ _ _ at R3
 have sR3:=hid (show (w2.alloc (.cells #[.slice (some ⟨g,0,none⟩) 123 123] 45)).heap.size=w2.heap.size+1 by simp)
 generalize w2.alloc (.cells #[.slice (some ⟨g,0,none⟩) 123 123] 45)=w3 at *
 have C4:RowV (w3.alloc (.cells #[(.int .u64 0),(.int .u64 0),(.int .u64 0),(.int .u64 0),(.int .u64 0),(.int .u64 0),(.int .u64 0),(.int .u64 0),(.int .u64 0),(.int .u64 0),(.int .u64 0),(.int .u64 0),(.int .u64 0),(.int .u64 0),(.int .u64 0),(.int .u64 0),(.int .u64 0),(.int .u64 0),(.int .u64 0)] 303)) w3.heap.size 303 (cvals (told [] (rd (bodyIn ps)))):=alloc_rowV w3 303 (cvals fun _=>0)
 have b4:=(Below.refl w3.heap.size w3).alloc (Nat.le_refl _) (.cells #[(.int .u64 0),(.int .u64 0),(.int .u64 0),(.int .u64 0),(.int .u64 0),(.int .u64 0),(.int .u64 0),(.int .u64 0),(.int .u64 0),(.int .u64 0),(.int .u64 0),(.int .u64 0),(.int .u64 0),(.int .u64 0),(.int .u64 0),(.int .u64 0),(.int .u64 0),(.int .u64 0),(.int .u64 0)] 303)
 have sR4:=hid (show (w3.alloc (.cells #[(.int .u64 0),(.int .u64 0),(.int .u64 0),(.int .u64 0),(.int .u64 0),(.int .u64 0),(.int .u64 0),(.int .u64 0),(.int .u64 0),(.int .u64 0),(.int .u64 0),(.int .u64 0),(.int .u64 0),(.int .u64 0),(.int .u64 0),(.int .u64 0),(.int .u64 0),(.int .u64 0),(.int .u64 0)] 303)).heap.size=w3.heap.size+1 by simp)
 go_upto_region 5 with (fail)
 generalize w3.alloc (.cells #[(.int .u64 0),(.int .u64 0),(.int .u64 0),(.int .u64 0),(.int .u64 0),(.int .u64 0),(.int .u64 0),(.int .u64 0),(.int .u64 0),(.int .u64 0),(.int .u64 0),(.int .u64 0),(.int .u64 0),(.int .u64 0),(.int .u64 0),(.int .u64 0),(.int .u64 0),(.int .u64 0),(.int .u64 0)] 303)=w4 at *
 generalize hq:w3.heap.size=q at *
 generalize hr:w2.heap.size=r at *
 have hq:=hid hq
 have hr:=hid hr
 go_wp2_with fail
 refine (callsIn_wide.1 (numbers_any 5 q _)).mono ?_
 rintro e w' ⟨rfl,rfl⟩
 have bN:=alloc_rowV w4 328 [.pointer (some ⟨q,0,none⟩)]
 have kN:=(Below.refl w4.heap.size w4).alloc (Nat.le_refl _) (.cells #[.pointer (some ⟨q,0,none⟩)] 328)
 have sN:=hid (show (w4.alloc (.cells #[.pointer (some ⟨q,0,none⟩)] 328)).heap.size=w4.heap.size+1 by simp)
 change RowV (w4.alloc (.cells #[.pointer (some ⟨q,0,none⟩)] 328)) _ _ _ at bN
 go_wp2_with fail
 generalize w4.alloc (.cells #[.pointer (some ⟨q,0,none⟩)] 328)=W0 at *
 have hq:=hq.out
 have hr:=hr.out
 have sR3:=sR3.out
 have sR4:=sR4.out
 have sN:=sN.out
 have hw1s:=HB.out.size
 have hres:=HR.out.lt
 have hf1:=HF.out.below.size
 have hglo:=HF.out.lo
 have hghi:=HF.out.hi
 have hpl:=has_lt' HBP.out (by rw [HL.out]; decide)
 have HRES:=hid (((((HR.out.below hres HF.out.below).below (by omega) b3).below (by omega) b4).below (by omega) kN))
 have HGG:=hid (show Has W0 g 0 (bodyIn ps) from (((HF.out.has.below (B:=r) (by omega) b3).below (B:=q) (by omega) b4).below (B:=w4.heap.size) (by omega) kN))
 have HPG:=hid (show Has W0 b o ps from (((HBP.out.below (B:=w1.heap.size) hpl HF.out.below).below (B:=r) (by omega) b3).below (B:=q) (by omega) b4).below (B:=w4.heap.size) (by omega) kN)
 have HRR:=hid ((R3.below (B:=q) (by omega) b4).below (B:=w4.heap.size) (by omega) kN)
 have C0:=C4.below (B:=w4.heap.size) (by omega) kN
 have HBW:=hid (show Below w.heap.size w W0 from (((HB.out.trans (HF.out.below.mono hw1s)).trans (b3.mono (by omega))).trans (b4.mono (by omega))).trans (kN.mono (by omega)))
 have hc0:=bN.cellAt (i:=0) rfl
 have HBL:=hid hbl
 clear HR HB HF HBP R3 C4 b3 b4 kN hbl bN
 have hqw:q<W0.heap.size:=by omega
 have hrq:r<q:=by omega
 have hgq:g<q:=by omega
 have hbq:b<q:=by omega
 have hwq:w.heap.size<q:=by omega
 have hbn:w4.heap.size<W0.heap.size:=by omega
 have hqn:q<w4.heap.size:=by omega
 clear hq hr sN sR3 sR4 hf1 hglo hghi hpl hw1s hres
 generalize w4.heap.size=Bn at *
 refine (wpIn_wide (n:=5)).1 ?_
 refine wpIn_rangeFunc_ownH rfl (by decide) (gf := 220) (lb := #[.pointer (some ⟨Bn,0,none⟩)]) rfl trivial (enters_of Tryz.func220 (by kernel_rfl) rfl)
  (numbers_stops (5-1) (by decide) Bn q q W0 hbn (by omega) hc0) keep_t (keep_b (by omega) hbn) (Below.refl _ _) (fun _=>rfl)
  (fun pre W=>RowV W q 303 (cvals (told pre (rd (bodyIn ps))))∧Below q W0 W)
  (fun _ _ _=>False)
  (OwnFrom.and (Own.from (rowV_own q _ (fun pre=>cvals (told pre (rd (bodyIn ps))))) _) (ownFrom_below (by omega) (by omega)))
  (fun _ _ _ _ _ hs _ _=>hs)
  ⟨C0,Below.refl _ _⟩
  (fun x a' W => ∃Bx,Bn<Bx∧RowV W Bx 309 [.int .i64 (pos x.val:Int),.int .i64 (size x.val:Int)]∧a'=⟨#[.slice (some ⟨b,o,none⟩) 128 cap,undef,.pointer (some ⟨w.heap.size,0,none⟩),.int .i64 0,.int .u8 (kd.toNat:Int),.pointer (some ⟨r,0,none⟩),.int .i64 0,.pointer (some ⟨q,0,none⟩),.pointer (some ⟨Bx,0,none⟩),.pointer (some ⟨q,x.val,none⟩),undef,undef,undef,.tuple #[.int .u8 (kd.toNat:Int),.slice (some ⟨g,0,none⟩) 123 123,.int .i64 0],.slice (some ⟨b,o,none⟩) 128 cap,.tuple #[.int .u8 (kd.toNat:Int),.slice (some ⟨g,0,none⟩) 123 123,.int .i64 0],.int .u8 (kd.toNat:Int),.slice (some ⟨g,0,none⟩) 123 123,.int .i64 0,.int .i64 0,.bool false,undef,.func (.func 220) #[] #[.pointer (some ⟨Bn,0,none⟩)],.agg #[.int .i64 (pos x.val:Int),.int .i64 (size x.val:Int)],.pointer (some ⟨q,x.val,none⟩),undef,undef,undef,undef,undef,undef,undef,undef,undef,undef,undef,undef,undef,undef,undef,undef,undef,undef,undef,undef,undef,undef,undef,undef,undef,undef,undef],[]⟩)
  ?hax ?assign ?body ?done ?stop
 case hax =>
  rintro x a' _ X Y row ⟨Bx,h1,h2,h3⟩ hg hr
  exact ⟨Bx,h1,rowV_own (β:=Unit) Bx _ (fun _=>_) () X Y row h2 hg (fun r e=>(hr r e).2),h3⟩
 case assign =>
  intro l pre x W K hI hK
  unfold encs
  gi_wp2
  obtain ⟨hqr,hB⟩:=hI
  have kA:=(Below.refl W.heap.size W).alloc (Nat.le_refl _) (.cells #[.int .i64 (pos x.val:Int),.int .i64 (size x.val:Int)] 309)
  refine hK _ _ ((KeepsOthers.alloc _ _).from _) ⟨kA.mono (by have:=hB.size; omega),kA.block _ (by have:=hB.size; omega)⟩ ⟨hqr.below hqr.lt kA,hB.trans (kA.mono (by have:=hB.size; omega))⟩ ⟨W.heap.size,by have:=hB.size; omega,alloc_rowV W 309 [.int .i64 (pos x.val:Int),.int .i64 (size x.val:Int)],rfl⟩
 case body =>
  rintro l pre x a' W hl ⟨r',hr'⟩ ⟨hqr,hB⟩ ⟨Bx,hBx,bX,rfl⟩ hlt
  have x0:=bX.cellAt (i:=0) rfl
  have x1:=bX.cellAt (i:=1) rfl
  have y0:=(HRR.out.below hrq hB).cellAt (i:=0) rfl
  have z0:=hqr.cellAt (cvals_at (told pre (rd (bodyIn ps))) x.val x.isLt)
  have zf:=hqr.free x.val
  have HGN:=hid (show Calls Tryz.prog 176 #[.slice (some ⟨g,0,none⟩) 123 123,.int .i64 (pos x.val:Int),.int .i64 (size x.val:Int)] W fun e w'=>e = .returned (.tuple #[.int .u64 (rd (bodyIn ps) x.val:Int),.bool true])∧W=w' by
   have:=get_yes g 0 123 (bodyIn ps) (pos x.val) (size x.val) W (by rw [HBL.out]; decide) (HGG.out.below hgq hB) (size_range _).1 (size_range _).2 (by rw [HBL.out]; exact pos_size _ x.isLt)
   rw [HBL.out] at this
   exact this)
  have hv:=rd_lt64 (bodyIn ps) x.val
  have HNX:=hid (show RowV (W.setCell ⟨q,x.val,none⟩ (.int .u64 (rd (bodyIn ps) x.val:Int))) q 303 (cvals (told (pre ++ [x]) (rd (bodyIn ps)))) by
   rw [told_snoc,← cvals_set]; exact hqr.set _ _)
  clear hqr
  gi_wp2_with (refine ⟨trivial,?_⟩; gi_at_call 176; refine (CallsIn.inRound l (callsIn_wide.2 HGN.out)).mono ?_; rintro e w9 ⟨rfl,rfl⟩)
  refine ⟨(KeepsOthers.setCell _ _ _).from _,⟨(Below.refl q W).setCell (p:=⟨q,x.val,none⟩) (Nat.le_refl _) _,heap_setCell_other _ _ _ _ (by show Bn≠q; omega)⟩,HNX.out,hB.setCell (p:=⟨q,x.val,none⟩) (Nat.le_refl _) _⟩
 case done =>
  rintro D ys W hD rfl ⟨hqr,hB⟩ hK
  rw [cvals_order] at hqr
  have hDl:D<W.heap.size:=(Array.getElem?_eq_some_iff.1 hK).1
  have HKK:=hid (And.intro hK hDl)
  have HRES2:=hid (HRES.out.below hwq hB)
  have HPG2:=hid (HPG.out.below hbq hB)
  have HBW2:=hid (HBW.out.trans (hB.mono (by omega)))
  have HSU:=hid (super_any (rd (bodyIn ps)) q W hqr (rd_small (bodyIn ps)))
  have hres2:=HRES2.out.lt
  have hpg2:=has_lt' HPG2.out (by rw [HL.out]; decide)
  clear hqr hB hK HRES HPG HBW HRR HGG C0 hc0
  go_wp2_with fail
  refine HSU.out.mono ?_
  rintro e w5 ⟨rfl,B5⟩
  have hst:=run_storeCells_new (P:=Tryz.prog) w5 69 #[(.int .u64 0),(.int .u32 0),(.int .u32 0),(.int .u32 0),(.int .u32 0),(.int .u32 0),(.int .u32 0),(.int .u32 0),(.int .u32 0),(.int .u32 0),(.int .u64 0),(.int .u64 0),(.int .u64 0),(.int .u64 0),(.int .u64 0),(.int .u64 0),(.int .u64 0),(.int .u64 0)] (scells (sIn ps)).toArray (size_scells _) (by simp [length_scells]) (one_scells _)
  have hlc:=length_scells (sIn ps)
  have HSI:=hid (show sval (supOf (rd (bodyIn ps))) = .agg (scells (sIn ps)).toArray from rfl)
  rw [HSI.out]
  go_upto_region 10 with (fail)
  clear hst hlc
  have R6:=alloc_rowV w5 69 (scells (sIn ps))
  have b6:=(Below.refl w5.heap.size w5).alloc (Nat.le_refl _) (.cells (scells (sIn ps)).toArray 69)
  generalize w5.alloc (.cells (scells (sIn ps)).toArray 69)=w6 at *
  have B6:=B5.trans (b6.mono B5.size)
  have HR6:=hid R6
  have HK6:=hid (And.intro ((B6.block D HKK.out.2).trans HKK.out.1) B6.size)
  have HRES6:=hid (HRES2.out.below hres2 B6)
  have HPG6:=hid (HPG2.out.below hpg2 B6)
  have HBW6:=hid (HBW2.out.trans (B6.mono HBW2.out.size))
  have hDw:w.heap.size≤D:=by omega
  have hDne : ¬(w.heap.size=D):=by omega
  clear R6 b6 B5 B6 HRES2 HPG2 HBW2 HSU HSI
  generalize w5.heap.size=z at *
  by_cases hfit:Fit (sIn ps)
  ·have HEY:=hid (encode_yes (sIn ps) (ok_sIn ps) w6 hfit)
   have HFT:=hid hfit
   clear hfit
   go_wp2_with (refine wpList_load_row rfl 69 (.tmp 10) rfl z rfl _ (scells (sIn ps)).toArray _ _ HR6.out Tryz.underlying69 rfl (size_scells _) ?_)
   refine HEY.out.mono ?_
   rintro e w7 ⟨g2,rfl,F7⟩
   have HF7:=hid (show Fresh w6 w7 g2 (supPage (sIn ps)) 128 from F7)
   clear F7 HEY
   have HR7:=hid (HR6.out.below HR6.out.lt HF7.out.below)
   have HRES7:=hid (HRES6.out.below HRES6.out.lt HF7.out.below)
   have HK7:=hid ((HF7.out.below.block D (by have:=HKK.out.2; have:=HK6.out.2; omega)).trans HK6.out.1)
   have HBW7:=hid (HBW6.out.trans (HF7.out.below.mono HBW6.out.size))
   have HEQ:=hid (bytes_equal (some ⟨g2,0,none⟩) (some ⟨b,o,none⟩) 128 128 128 cap (supPage (sIn ps)) ps (length_supPage _) HL.out w7 HF7.out.has.told (HPG6.out.below (has_lt' HPG6.out (by rw [HL.out]; decide)) HF7.out.below).told)
   clear HRES6 HR6 HPG6 HBW6
   by_cases heq:supPage (sIn ps)=ps
   ·have HDS:=hid (show dsup ps=sIn ps∧derr ps=0 by
     have:Holds ps:=⟨HL.out,HS.out,HFT.out,heq⟩
     unfold dsup derr; rw [if_pos this,if_pos this]; exact ⟨rfl,rfl⟩)
    rw [show (supPage (sIn ps)==ps)=true from by rw [beq_iff_eq]; exact heq] at HEQ
    clear heq
    go_wp2_with fail
    refine HEQ.out.mono ?_
    rintro e w8 ⟨rfl,rfl⟩
    go_wp2_with (first | (refine wpList_store_row rfl 69 (.tmp 2) (.tmp 51) rfl w.heap.size (scells (sIn ps)).toArray rfl rfl _ _ HRES7.out (size_scells _) (by simp [length_scells]) (one_scells _) ?_) | (refine wpList_load_row rfl 69 (.tmp 10) rfl z rfl _ (scells (sIn ps)).toArray _ _ HR7.out Tryz.underlying69 rfl (size_scells _) ?_))
    refine ⟨by simp,.inl ⟨_,_,rfl,run_takeDeferred (show (World.setRow _ _ _).heap[D]?=_ from (setRow_other _ _ _ _ (fun e=>hDne e.symm)).trans HK7.out),?_⟩⟩
    have hDlt:=hDne
    refine ⟨_,results_sup rfl _ _ w.heap.size (sIn ps) rfl ?_,by rw [HDS.out.1,HDS.out.2]; rfl,(HBW7.out.trans (setRow_below _ (Nat.le_refl _))).trans (belowK_b (w:=w) (Nat.le_refl _) _ D _ _ hDw ((setRow_other _ _ _ _ (fun e=>hDne e.symm)).trans HK7.out) rfl rfl)⟩
    exact (show RowV _ _ _ _ from RowV.block (row_setRow_same HRES7.out) (World.putObj_heap_other (fun e=>hDne e)))
   ·have HDS:=hid (show dsup ps=zero18∧derr ps=60 by
     have : ¬Holds ps:=fun h=>heq h.2.2.2
     unfold dsup derr; rw [if_neg this,if_neg this]; exact ⟨rfl,rfl⟩)
    rw [show (supPage (sIn ps)==ps)=false from by rw [beq_eq_false_iff_ne]; exact heq] at HEQ
    clear heq
    go_wp2_with fail
    refine HEQ.out.mono ?_
    rintro e w8 ⟨rfl,rfl⟩
    go_wp2_with (first | (refine wpList_store_row rfl 69 (.tmp 2) (.tmp 50) rfl w.heap.size (scells zero18).toArray rfl rfl _ _ HRES7.out (size_scells _) (by simp [length_scells]) (one_scells _) ?_) | (refine wpList_build_as rfl 69 #[] rfl (scells zero18).toArray ?_ ?_; (simp [Act.eval]); exact built_zero))
    refine ⟨by simp,.inl ⟨_,_,rfl,run_takeDeferred (show (World.setRow _ _ _).heap[D]?=_ from (setRow_other _ _ _ _ (fun e=>hDne e.symm)).trans HK7.out),?_⟩⟩
    have hDlt:=hDne
    refine ⟨_,results_sup rfl _ _ w.heap.size zero18 rfl ?_,by rw [HDS.out.1,HDS.out.2]; rfl,(HBW7.out.trans (setRow_below _ (Nat.le_refl _))).trans (belowK_b (w:=w) (Nat.le_refl _) _ D _ _ hDw ((setRow_other _ _ _ _ (fun e=>hDne e.symm)).trans HK7.out) rfl rfl)⟩
    exact (show RowV _ _ _ _ from RowV.block (row_setRow_same HRES7.out) (World.putObj_heap_other (fun e=>hDne e)))
  ·have HEN:=hid (encode_no (sIn ps) (ok_sIn ps) w6 hfit)
   have HDS:=hid (show dsup ps=zero18∧derr ps=60 by
     have : ¬Holds ps:=fun h=>hfit h.2.2.1
     unfold dsup derr; rw [if_neg this,if_neg this]; exact ⟨rfl,rfl⟩)
   clear hfit
   go_wp2_with (refine wpList_load_row rfl 69 (.tmp 10) rfl z rfl _ (scells (sIn ps)).toArray _ _ HR6.out Tryz.underlying69 rfl (size_scells _) ?_)
   refine HEN.out.mono ?_
   rintro e w7 ⟨rfl,F7⟩
   have HRES7:=hid (HRES6.out.below HRES6.out.lt F7)
   have HK7:=hid ((F7.block D (by have:=HKK.out.2; have:=HK6.out.2; omega)).trans HK6.out.1)
   have HBW7:=hid (HBW6.out.trans (F7.mono HBW6.out.size))
   clear F7
   go_wp2_with (first | (refine wpList_store_row rfl 69 (.tmp 2) (.tmp 50) rfl w.heap.size (scells zero18).toArray rfl rfl _ _ HRES7.out (size_scells _) (by simp [length_scells]) (one_scells _) ?_) | (refine wpList_build_as rfl 69 #[] rfl (scells zero18).toArray ?_ ?_; (simp [Act.eval]); exact built_zero))
   refine ⟨by simp,.inl ⟨_,_,rfl,run_takeDeferred (show (World.setRow _ _ _).heap[D]?=_ from (setRow_other _ _ _ _ (fun e=>hDne e.symm)).trans HK7.out),?_⟩⟩
   have hDlt:=hDne
   refine ⟨_,results_sup rfl _ _ w.heap.size zero18 rfl ?_,by rw [HDS.out.1,HDS.out.2]; rfl,(HBW7.out.trans (setRow_below _ (Nat.le_refl _))).trans (belowK_b (w:=w) (Nat.le_refl _) _ D _ _ hDw ((setRow_other _ _ _ _ (fun e=>hDne e.symm)).trans HK7.out) rfl rfl)⟩
   exact (show RowV _ _ _ _ from RowV.block (row_setRow_same HRES7.out) (World.putObj_heap_other (fun e=>hDne e)))
 case stop =>
  rintro D c pre W _ _ h _
  exact h.elim
theorem decode_any (a:Option Addr) (len cap:Nat) (ps:List UInt8) (hlen:ps.length=len) (w:World) (hb:Oct.Told w a ps) (hc:len≤cap) (hm:cap≤maxLen) :
  Calls Tryz.prog 188 #[.slice a len cap] w fun e w'=>e = .returned (.tuple #[sval (dsup ps),.int .i64 (derr ps)])∧Below w.heap.size w w':=by
 have hno : ¬Holds ps→dsup ps=zero18∧derr ps=60:=fun h=>by unfold dsup derr; rw [if_neg h,if_neg h]; exact ⟨rfl,rfl⟩
 by_cases h:len=128
 ·subst h
  rcases hb with rfl | ⟨b,o,rfl,hb⟩
  ·simp at hlen
  ·by_cases hs:Oct.Good ps
   ·exact decode_good b o cap ps w hb hlen hc hm hs
   ·obtain ⟨e1,e2⟩:=hno fun H=>hs H.2.1
    rw [e1,e2]
    exact decode_sum b o cap ps w hb hlen hc hm hs
 ·obtain ⟨e1,e2⟩:=hno fun H=>h (hlen▸H.1)
  rw [e1,e2]
  exact decode_len a len cap w h (Nat.le_trans hc hm)
end Go.Proofs.YtogchamogbendaaGreat.Su
