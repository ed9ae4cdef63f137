import Derived.Laws.ResultCell
import Derived.Deep.RegionLaw
import Derived.Deep.AppendLies
import Derived.Test.YtogchamogbendaaGreatQtu
set_option maxRecDepth 100000
set_option linter.unusedVariables false
set_option linter.unusedSimpArgs false
namespace Go.Proofs.YtogchamogbendaaGreat.Lf
open Go.RowKit Oct
def OwnN (w:World) (base:Nat) (v:Value) (ns:List UInt64):Prop:=w.ownsRow base 30 1 v ns.length (nvals ns)
theorem OwnN.same {w w':World} {base:Nat} {v:Value} {ns:List UInt64} (h:OwnN w base v ns) (hk : ∀k,v.ownBlock=some k→k<w.heap.size→w'.heap[k]?=w.heap[k]?):OwnN w' base v ns:=by
 refine ⟨h.1,?_⟩
 rcases h.2 with hn | ⟨g,cap,cur,rfl,hb,hgg,rest⟩
 ·exact .inl hn
 ·refine .inr ⟨g,cap,cur,rfl,hb,?_,rest⟩
  rw [hk g rfl (Array.getElem?_eq_some_iff.1 hgg).1]
  exact hgg
theorem OwnN.below {w w':World} {base B:Nat} {v:Value} {ns:List UInt64} (h:OwnN w base v ns) (k:Below B w w') (hB:w.heap.size≤B):OwnN w' base v ns:=h.same fun i _ hi=>k.block i (by omega)
theorem OwnN.slice {w:World} {base:Nat} {v:Value} {ns:List UInt64} (h:OwnN w base v ns) : ∃a cap,v = .slice a ns.length cap∧ToldN w a ns∧ns.length≤cap∧cap≤maxLen:=by
 rcases h.2 with ⟨rfl,h0⟩ | ⟨g,cap,cur,rfl,hb,hg,hn,hm,hs,ht⟩
 ·have:ns = []:=List.eq_nil_of_length_eq_zero h0
  subst this
  exact ⟨none,0,rfl,.inl rfl,Nat.le_refl _,Nat.zero_le _⟩
 ·have hh:HasN w g 0 ns:=fun i hi=>by
   rw [Nat.zero_add]
   have:=World.ownsRow.cellAt h i (by omega)
   rw [this]
   simp [nvals,hi]
  exact ⟨_,cap,rfl,hh.told,hn,hm⟩
theorem nums_info:(Tryz.prog.info? 30).map (fun i=>(i.zero,i.size,i.bytes))=some (some (.int .u64 0),1,8):=by kernel_rfl
theorem step_app_num {ops:Array Oper} {o:Oper} {a:Act} {w:World} {K:Act→World→Prop} {Q:Exit→Act→World→Prop} {E:Prop} (hgd:o.guard=none) (s x:Operand)
  (ho:o.op = .call { callee := .builtin .append,args := #[s,x],argTypes := #[84,84] }) (base:Nat) (v:Value) (ns:List UInt64) (hs:a.eval s=v) (hown:OwnN w base v ns) (hn:ns.length≤1000)
  (b:Nat) (y:UInt64) (hx:a.eval x = .slice (some ⟨b,0,none⟩) 1 1) (hc:w.cell? ⟨b,0,none⟩=some (.int .u64 (y.toNat:Int))) (hbase:base≤w.heap.size)
  (h : ∀g cap w',OwnN w' base (.slice (some ⟨g,0,none⟩) (ns.length+1) cap) (ns ++ [y])→w.grownBy w' v.ownBlock→(v.ownBlock=some g∨g=w.heap.size)→K (a.put o.dst (.slice (some ⟨g,0,none⟩) (ns.length+1) cap)) w') :
  if Region.wanted o (yielded ops a.tmps)=true then Oper.wp Tryz.prog o a w K Q else E:=by
 obtain ⟨i0,hi,hz0,hz1,hz2⟩:=info_parts nums_info
 refine step_append_lies w hgd s x 84 ho base 30 i0 (.int .u64 0) 1 8 Tryz.underlying84 hi hz0 hz1 hz2 rfl (by omega) v ns.length (nvals ns) hs hown ⟨b,0,none⟩ 1 1 (nvals [y]) hx rfl
  (fun j u hj => ?_) (fun u hu=>by simp [nvals] at hu; subst hu; rfl) (by omega) (by unfold maxLen; omega) (by omega) hbase w.heap.size rfl (fun g cap w' h1 h2 h3 h4=>h g cap w' ?_ h2 h3)
 ·cases j with
  | zero=>simp [nvals] at hj; subst hj; rw [add_plain]; exact hc
  | succ j=>simp [nvals] at hj
 ·unfold OwnN
  rw [List.length_append,show nvals (ns ++ [y])=nvals ns++nvals [y] by simp [nvals]]
  exact h1
end Go.Proofs.YtogchamogbendaaGreat.Lf
