/- A thousand pairs and one: the list that TableLimits makes. -/
import Derived.Test.YtbhajmecaemafaaTbJ
namespace Go.Proofs.Ytbhajmecaemafaa.Tb
open Go.RowKit Go.Proofs.Ytbhajmecaemafaa.Oct
set_option linter.unusedVariables false

def limB (i : Nat) : List UInt8 := UInt8.ofNat (i / 256) :: 77 :: List.replicate 126 (UInt8.ofNat i)
theorem limB_len (i : Nat) : (limB i).length = 128 := by simp [limB]
theorem limB_inj {i j : Nat} (hi : i < 1001) (hj : j < 1001) (h : limB i = limB j) : i = j := by
  unfold limB at h
  simp only [List.replicate_succ, List.cons.injEq, true_and] at h
  have h1 := congrArg UInt8.toNat h.1
  have h2 := congrArg UInt8.toNat h.2.1
  simp at h1 h2
  omega
theorem limB_set (c a : UInt8) (i : Nat) (hc : c = UInt8.ofNat i) (ha : a = UInt8.ofNat (i / 256)) : ((List.replicate 128 c).set 0 a).set 1 77 = limB i := by
  subst hc ha
  rfl
def lim (i : Nat) : Pr := (limB i, UInt64.ofNat i)
theorem lim_good (s n : Nat) (h : s + n ≤ 1001) : Good ((List.range' s n).map lim) := by
  refine ⟨fun p hp => ?_, ?_⟩
  · obtain ⟨i, _, rfl⟩ := List.mem_map.1 hp
    exact limB_len i
  · rw [List.map_map]
    unfold List.Nodup
    rw [List.pairwise_map]
    refine (List.pairwise_lt_range' (s := s) (n := n)).imp_of_mem fun {a b} ha hb hlt e => ?_
    have h1 := (List.mem_range'_1.1 ha)
    have h2 := (List.mem_range'_1.1 hb)
    have := limB_inj (i := a) (j := b) (by omega) (by omega) e
    omega
theorem lim_drop : ((List.range 1001).map lim).drop 1 = (List.range' 1 1000).map lim := by
  rw [← List.map_drop, List.range_eq_range', show (1001 : Nat) = 1000 + 1 from rfl, List.range'_succ, List.drop_succ_cons, List.drop_zero]
theorem lim_err : newErr ((List.range' 1 1000).map lim) = 0 := by
  unfold newErr
  rw [if_neg (by simp), if_pos (lim_good 1 1000 (by omega))]
theorem lim_long : newErr ((List.range 1001).map lim) = 3 := by
  unfold newErr
  rw [if_pos (by simp)]
theorem lim_unlike (rest : UInt64) : unlike ((List.range' 1 1000).map lim) rest = decide ((rest.toNat : Int) = 0 ∨ (1000 : Int) < (rest.toNat : Int)) := by
  unfold unlike
  rw [Bool.eq_iff_iff, decide_eq_true_eq, decide_eq_true_eq, List.map_map, List.nodup_cons]
  have hn : ((List.range' 1 1000).map ((fun x => x.2) ∘ lim)).Nodup := by
    unfold List.Nodup
    rw [List.pairwise_map]
    refine (List.pairwise_lt_range' (s := 1) (n := 1000)).imp_of_mem fun {a b} ha hb hlt e => ?_
    have h1 := (List.mem_range'_1.1 ha)
    have h2 := (List.mem_range'_1.1 hb)
    have := congrArg UInt64.toNat e
    simp [lim] at this
    omega
  constructor
  · rintro ⟨h1, _⟩
    by_cases h : (rest.toNat : Int) = 0 ∨ (1000 : Int) < (rest.toNat : Int)
    · exact h
    · refine absurd (List.mem_map.2 ⟨rest.toNat, List.mem_range'_1.2 (by omega), ?_⟩) h1
      simp [lim]
  · intro h
    refine ⟨fun hm => ?_, hn⟩
    obtain ⟨i, hi, e⟩ := List.mem_map.1 hm
    have h2 := List.mem_range'_1.1 hi
    have := congrArg UInt64.toNat e
    simp [lim] at this
    omega

theorem Blk.grown {w w' : World} {base : Nat} {v : Value} {l : List Pair} {g : Nat} {bs : List UInt8} (h : Blk w g bs) (own : OwnP w base v l) (k : w.grownBy w' v.ownBlock) : Blk w' g bs := by
  refine ⟨?_, h.len⟩
  have hr := h.row
  unfold Row at hr ⊢
  rw [k.block g h.row.lt ?_, hr]
  intro e
  rcases own.2 with ⟨rfl, _⟩ | ⟨q, cap, cur, rfl, _, hq, _⟩
  · cases e
  · have e2 : q = g := (by simpa [Value.ownBlock] using e : g = q).symm
    subst e2
    rw [hr] at hq
    simp at hq
structure LimL (w : World) (base : Nat) (v : Value) (l : List Pair) (k : Nat) : Prop where
  own : OwnP w base v l
  blk : ∀ p ∈ l, ∃ g, p.A = some ⟨g, 0, none⟩ ∧ p.n = 128 ∧ Blk w g p.bs
  tel : tells l = (List.range k).map lim
theorem LimL.len {w : World} {base : Nat} {v : Value} {l : List Pair} {k : Nat} (h : LimL w base v l k) : l.length = k := by
  have := congrArg List.length h.tel
  simpa [length_tells] using this
theorem LimL.zero (w : World) (base : Nat) : LimL w base (.slice none 0 0) [] 0 := ⟨OwnP.bare w base, by simp, rfl⟩
theorem LimL.step {wr v2 : World} {base : Nat} {v : Value} {l : List Pair} {k g c : Nat} (h : LimL wr base v l k) (kk : Below wr.heap.size wr v2) (hb : Blk v2 g (limB k)) (hk : k < 1001) (hbase : base ≤ wr.heap.size) :
    ∃ v' w', (Builtin.append_ #[22, 22] 22 #[v, .slice (some ⟨v2.heap.size, 0, none⟩) 1 1]).run Try.prog (v2.alloc (.cells #[.slice (some ⟨g, 0, none⟩) 128 c, .int .u64 (k : Int)] 28)) = .ok v' w' ∧
      LimL w' base v' (l ++ [⟨some ⟨g, 0, none⟩, 128, c, limB k, UInt64.ofNat k⟩]) (k + 1) ∧ Below base wr w' := by
  have hl := h.len
  have o2 := h.own.kept kk (Nat.le_refl _)
  obtain ⟨v', w', hr, ho, hg, hb2⟩ := push_pair v2 22 base v l o2 (some ⟨g, 0, none⟩) 128 c (limB k) (UInt64.ofNat k) (k : Int) (by simp; omega) (by omega) (Nat.le_trans hbase kk.size)
  refine ⟨v', w', hr, ⟨ho, fun p hp => ?_, ?_⟩, (kk.mono hbase).trans hb2⟩
  · rcases List.mem_append.1 hp with hp | hp
    · obtain ⟨g', h1, h2, h3⟩ := h.blk p hp
      exact ⟨g', h1, h2, (h3.kept kk).grown o2 hg⟩
    · obtain rfl : p = _ := by simpa using hp
      exact ⟨g, rfl, rfl, hb.grown o2 hg⟩
  · rw [List.range_succ, List.map_append, ← h.tel]
    simp [tells, Pair.tell, lim]
theorem LimL.ok {w : World} {base : Nat} {v : Value} {l : List Pair} {k : Nat} (h : LimL w base v l k) : ∀ p ∈ l, p.Ok w := by
  intro p hp
  obtain ⟨g, h1, h2, h3⟩ := h.blk p hp
  exact ⟨by rw [h2]; exact h3.len, by rw [h1]; exact h3.told, by rw [h2]; decide⟩
theorem LimL.pin {w : World} {base : Nat} {v : Value} {l : List Pair} (h : LimL w base v l 1001) : ∃ g c, v = .slice (some ⟨g, 0, none⟩) 1001 c ∧ PIn w (some ⟨g, 0, none⟩) 1001 c l ∧ PIn w (some ⟨g, 2, none⟩) 1000 (c - 1) (l.drop 1) := by
  have hl := h.len
  rcases h.own.2 with ⟨rfl, h0⟩ | ⟨g, cap, cur, rfl, hb, hg, hn, hm, hs, ht⟩
  · omega
  obtain ⟨A, c, e, P⟩ := h.own.pin h.ok
  rw [hl] at e P
  simp only [Value.slice.injEq] at e
  obtain ⟨rfl, _, rfl⟩ := e
  have hv := length_pvals l
  have hk := P.km
  obtain ⟨b, o, e, hh⟩ := P.lies.has (by omega)
  simp only [Option.some.injEq, Addr.mk.injEq, and_true] at e
  obtain ⟨rfl, rfl⟩ := e
  refine ⟨_, _, by rw [hl], P, ⟨by rw [List.length_drop, hl], by have := P.kc; omega, by omega, fun p hp => P.ok p (List.mem_of_mem_drop hp), ?_, fun e => by cases e⟩⟩
  have := (hh.from 2).told
  rw [show pvals (l.drop 1) = (pvals l).drop 2 from (pvals_drop l 1).symm]
  exact this
theorem LimL.tells1 {w : World} {base : Nat} {v : Value} {l : List Pair} (h : LimL w base v l 1001) : tells (l.drop 1) = (List.range' 1 1000).map lim := by
  rw [← lim_drop, ← h.tel]
  simp [tells]
theorem LimL.err {w : World} {base : Nat} {v : Value} {l : List Pair} (h : LimL w base v l 1001) : newErr (tells (l.drop 1)) = 0 := h.tells1 ▸ lim_err
theorem LimL.long {w : World} {base : Nat} {v : Value} {l : List Pair} (h : LimL w base v l 1001) : newErr (tells l) = 3 := h.tel ▸ lim_long
theorem LimL.unl {w : World} {base : Nat} {v : Value} {l : List Pair} (h : LimL w base v l 1001) (rest : UInt64) : unlike (tells (l.drop 1)) rest = decide ((rest.toNat : Int) = 0 ∨ (1000 : Int) < (rest.toNat : Int)) := h.tells1 ▸ lim_unlike rest
theorem LimL.many {w : World} {base : Nat} {v : Value} {l : List Pair} (h : LimL w base v l 1001) : ((tells (l.drop 1)).length : Int) = 1000 := by
  rw [length_tells, List.length_drop, h.len]
  rfl
end Go.Proofs.Ytbhajmecaemafaa.Tb
