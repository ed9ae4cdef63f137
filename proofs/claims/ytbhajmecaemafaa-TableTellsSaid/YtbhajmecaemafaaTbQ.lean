/- Pairs whose bytes are copies, each in memory of its own: how such a list grows, and how they are written over, one after another. -/
import Derived.Test.YtbhajmecaemafaaTbP
namespace Go.Proofs.Ytbhajmecaemafaa.Tb
open Go.RowKit Go.Proofs.Ytbhajmecaemafaa.Oct
set_option linter.unusedVariables false

/-- Block g is of bytes; from its head on they are bs; these may be written. -/
structure Room (w : World) (g : Nat) (bs : List UInt8) : Prop where
  blk : ∃ cs fr, w.heap[g]? = some (.cells cs 5 fr)
  has : Has w g 0 bs
  free : Free w g 0 bs.length
theorem Room.lt {w : World} {g : Nat} {bs : List UInt8} (h : Room w g bs) : g < w.heap.size := by
  obtain ⟨cs, fr, e⟩ := h.blk
  exact (Array.getElem?_eq_some_iff.1 e).1
theorem Room.at {w w' : World} {g : Nat} {bs : List UInt8} (h : Room w g bs) (k : w'.heap[g]? = w.heap[g]?) : Room w' g bs := by
  obtain ⟨cs, fr, e⟩ := h.blk
  refine ⟨⟨cs, fr, k.trans e⟩, fun i hi => ?_, fun i hi => ?_⟩
  · exact (World.cell?_of_block (a := ⟨g, 0 + i, none⟩) k).trans (h.has i hi)
  · have := h.free i hi
    simp only [World.frozen?, k] at this ⊢
    exact this
theorem Room.kept {w w' : World} {g : Nat} {bs : List UInt8} (h : Room w g bs) (k : Below w.heap.size w w') : Room w' g bs := h.at (k.block g h.lt)
theorem Room.told {w : World} {g : Nat} {bs : List UInt8} (h : Room w g bs) : Oct.Told w (some ⟨g, 0, none⟩) bs := h.has.told
theorem Room.apart {w : World} {base : Nat} {v : Value} {l : List Pair} {g : Nat} {bs : List UInt8} (h : Room w g bs) (own : OwnP w base v l) : v.ownBlock ≠ some g := by
  obtain ⟨cs, fr, hr⟩ := h.blk
  intro e
  rcases own.2 with ⟨rfl, _⟩ | ⟨q, cap, cur, rfl, _, hq, _⟩
  · cases e
  · have e2 : q = g := by simpa [Value.ownBlock] using e
    subst e2
    rw [hr] at hq
    simp at hq
theorem Room.grown {w w' : World} {base : Nat} {v : Value} {l : List Pair} {g : Nat} {bs : List UInt8} (h : Room w g bs) (own : OwnP w base v l) (k : w.grownBy w' v.ownBlock) : Room w' g bs :=
  h.at (k.block g h.lt (fun e => h.apart own e.symm))
theorem again_room (a : Option Addr) (len cap : Nat) (bs : List UInt8) (hlen : bs.length = len) (w : World) (hl : len ≤ maxLen) (hb : Oct.Told w a bs) :
    Calls Try.prog 9 #[.slice a len cap] w fun e w' => ∃ g c, e = .returned (.slice (some ⟨g, 0, none⟩) len c) ∧ Room w' g bs ∧ w.heap.size ≤ g ∧ Below w.heap.size w w' := by
  subst hlen
  have k1 := conv_told (P := Try.prog) hb cap 26 9 5 Try.underlying26 Try.underlying5 Try.underlying9
  have k2 := Lib.run_convert_string_bytes (P := Try.prog) w 9 26 5 ⟨bs.toArray⟩ Try.underlying9 Try.underlying26 Try.underlying5
  have F0 := fresh_bytes w 5 bs hl
  have F := Lib.hid (And.intro F0.below (show Room (Lib.bytesWorld w 5 ⟨bs.toArray⟩) w.heap.size bs from ⟨⟨_, _, Lib.bytesWorld_at_new w 5 ⟨bs.toArray⟩⟩, F0.has, F0.free⟩))
  clear hb F0
  generalize Lib.bytesWorld w 5 ⟨bs.toArray⟩ = w1 at k2 F
  rw [show (ByteArray.mk bs.toArray).size = bs.length from rfl] at k2
  go_enter Try.func9, Try.ntmps9
  go_wp2
  go_ret
  exact ⟨_, _, rfl, F.out.2, Nat.le_refl _, F.out.1⟩

theorem OwnP.at {w w' : World} {base : Nat} {v : Value} {l : List Pair} (h : OwnP w base v l) (hs : w.heap.size ≤ w'.heap.size) (k : ∀ q, v.ownBlock = some q → w'.heap[q]? = w.heap[q]?) : OwnP w' base v l := by
  refine ⟨h.1, ?_⟩
  rcases h.2 with hn | ⟨g, cap, cur, rfl, hb, hgg, rest⟩
  · exact .inl hn
  · refine .inr ⟨g, cap, cur, rfl, hb, ?_, rest⟩
    rw [k g (by simp [Value.ownBlock])]
    exact hgg
/-- The pairs m: of their own bytes, each apart; they tell what l does. -/
structure InL (w : World) (base : Nat) (v : Value) (m l : List Pair) : Prop where
  own : OwnP w base v m
  tel : tells m = tells l
  room : ∀ p ∈ m, ∃ g, p.A = some ⟨g, 0, none⟩ ∧ p.bs.length = p.n ∧ p.n ≤ maxLen ∧ base ≤ g ∧ Room w g p.bs
  dis : m.Pairwise fun p q => p.A ≠ q.A
theorem InL.len {w : World} {base : Nat} {v : Value} {m l : List Pair} (h : InL w base v m l) : m.length = l.length := by
  have := congrArg List.length h.tel
  simpa [length_tells] using this
theorem InL.nil (w : World) (base : Nat) (l : List Pair) : InL w base (.slice none 0 0) [] (l.take 0) := ⟨OwnP.bare w base, rfl, by simp, .nil⟩
theorem InL.kept {w w' : World} {base : Nat} {v : Value} {m l : List Pair} (h : InL w base v m l) (k : Below w.heap.size w w') : InL w' base v m l :=
  ⟨h.own.kept k (Nat.le_refl _), h.tel, fun p hp => let ⟨g, a, b, c, d, e⟩ := h.room p hp; ⟨g, a, b, c, d, e.kept k⟩, h.dis⟩
theorem InL.pin {w : World} {base : Nat} {v : Value} {m l : List Pair} (h : InL w base v m l) : ∃ A c, v = .slice A m.length c ∧ PIn w A m.length c m :=
  h.own.pin fun p hp => let ⟨g, a, b, c, d, e⟩ := h.room p hp; ⟨b, by rw [a]; exact e.told, c⟩
theorem InL.step {wr wy : World} {base : Nat} {v : Value} {m l : List Pair} {p : Pair} {g q n c : Nat} {bs : List UInt8} {pr : UInt64} (h : InL wr base v m l) (hb : base ≤ wr.heap.size) (kk : Below wr.heap.size wr wy)
    (hR : Room wy g bs) (hg : wr.heap.size ≤ g) (hV : RowV wy q 28 [.slice (some ⟨g, 0, none⟩) n c, .int .u64 (pr.toNat : Int)]) (hn : bs.length = n) (hm : n ≤ maxLen) (hs : m.length ≤ 1000) (hp : p.tell = (bs, pr)) :
    ∃ v' w', (Builtin.append_ #[22, 22] 22 #[v, .slice (some ⟨q, 0, none⟩) 1 1]).run Try.prog wy = .ok v' w' ∧ InL w' base v' (m ++ [⟨some ⟨g, 0, none⟩, n, c, bs, pr⟩]) (l ++ [p]) ∧ Below base wy w' := by
  have o := h.own.kept kk (Nat.le_refl _)
  obtain ⟨v', w', hr, ho, hg2, hb2⟩ := run_append_pairs wy 22 base v m [⟨some ⟨g, 0, none⟩, n, c, bs, pr⟩] o (some ⟨q, 0, none⟩) 1 1 rfl (hV.has.told) (fun e => by cases e) (by omega) (Nat.le_trans hb kk.size)
  refine ⟨v', w', hr, ⟨ho, ?_, fun x hx => ?_, ?_⟩, hb2⟩
  · have := h.tel
    simp only [tells, List.map_append, List.map_cons, List.map_nil] at this ⊢
    rw [this, hp]
    rfl
  · rcases List.mem_append.1 hx with hx | hx
    · obtain ⟨g', a, b, c', d, e⟩ := h.room x hx
      exact ⟨g', a, b, c', d, (e.kept kk).grown o hg2⟩
    · obtain rfl : x = _ := by simpa using hx
      exact ⟨g, rfl, hn, hm, Nat.le_trans hb hg, hR.grown o hg2⟩
  · rw [List.pairwise_append]
    refine ⟨h.dis, by simp, fun x hx y hy e => ?_⟩
    obtain rfl : y = _ := by simpa using hy
    obtain ⟨g', a, _, _, _, e'⟩ := h.room x hx
    rw [a] at e
    simp only [Option.some.injEq, Addr.mk.injEq, and_true] at e
    have := e'.lt
    omega

/-- A table of these, if they are right, beyond block lo. -/
def Beyond (w : World) (lo : Nat) (tp : Option Addr) (ps : List Pr) (rest : UInt64) : Prop := (newErr ps = 0 → ∃ a b, tp = some ⟨a, 0, none⟩ ∧ lo ≤ a ∧ lo ≤ b ∧ Tab w a b ps rest) ∧ (newErr ps ≠ 0 → tp = none)
theorem Tab.at {w w' : World} {a b : Nat} {ps : List Pr} {rest : UInt64} (h : Tab w a b ps rest) (ka : w'.heap[a]? = w.heap[a]?) (kb : w'.heap[b]? = w.heap[b]?) : Tab w' a b ps rest := ⟨h.row.block ka, h.mp.at kb, h.few⟩
theorem Beyond.at {w w' : World} {lo : Nat} {tp : Option Addr} {ps : List Pr} {rest : UInt64} (h : Beyond w lo tp ps rest) (k : ∀ q, lo ≤ q → q < w.heap.size → w'.heap[q]? = w.heap[q]?) : Beyond w' lo tp ps rest :=
  ⟨fun e => let ⟨a, b, h1, h2, h3, h4⟩ := h.1 e; ⟨a, b, h1, h2, h3, h4.at (k a h2 h4.row.lt) (k b h3 h4.mp.lt)⟩, h.2⟩
theorem Beyond.kept {w w' : World} {lo : Nat} {tp : Option Addr} {ps : List Pr} {rest : UInt64} (h : Beyond w lo tp ps rest) (k : Below w.heap.size w w') : Beyond w' lo tp ps rest := h.at fun q _ hq => k.block q hq
theorem new_beyond {w : World} {A : Option Addr} {n c : Nat} {l : List Pair} (h : PIn w A n c l) (rest : UInt64) :
    Calls Try.prog 10 #[.slice A n c, .int .u64 (rest.toNat : Int)] w fun e w' => ∃ tp, e = .returned (.tuple #[.pointer tp, .int .i64 (newErr (tells l))]) ∧ Beyond w' w.heap.size tp (tells l) rest ∧ Below w.heap.size w w' := by
  refine (new_any h rest).mono fun e w' hp => ?_
  unfold NewPost at hp
  by_cases hg : newErr (tells l) = 0
  · rw [if_pos hg] at hp
    obtain ⟨a, b, h1, h2, h3, h4, h5⟩ := hp
    rw [hg]
    exact ⟨some ⟨a, 0, none⟩, h1, ⟨fun _ => ⟨a, b, rfl, h2, h3, h4⟩, fun e => absurd hg e⟩, h5⟩
  · rw [if_neg hg] at hp
    exact ⟨none, hp.1, ⟨fun e => absurd e hg, fun _ => rfl⟩, hp.2⟩

/-- The pairs of m are written over, but for those from i on. -/
structure Mid (w : World) (base lo : Nat) (v : Value) (m m' : List Pair) (i : Nat) : Prop where
  own : OwnP w base v m'
  len : m'.length = m.length
  rest : m'.drop i = m.drop i
  room : ∀ j (h : j < m.length), i ≤ j → ∃ g, m[j].A = some ⟨g, 0, none⟩ ∧ base ≤ g ∧ g < lo ∧ Room w g m[j].bs
  low : ∀ q, v.ownBlock = some q → base ≤ q ∧ q < lo
  lens : ∀ p ∈ m, p.bs.length = p.n
  dis : m.Pairwise fun p q => p.A ≠ q.A
theorem InL.mid {w w' : World} {base : Nat} {v : Value} {m l : List Pair} (h : InL w base v m l) (k : Below w.heap.size w w') : Mid w' base w.heap.size v m m 0 :=
  ⟨h.own.kept k (Nat.le_refl _), rfl, rfl, fun j hj _ => let ⟨g, a, b, c, d, e⟩ := h.room m[j] (List.getElem_mem hj); ⟨g, a, d, e.lt, e.kept k⟩, fun q hq => World.ownsRow.lt h.own q hq, fun p hp => let ⟨_, _, b, _⟩ := h.room p hp; b, h.dis⟩
theorem Mid.kept {w w' : World} {base lo : Nat} {v : Value} {m m' : List Pair} {i : Nat} (h : Mid w base lo v m m' i) (k : Below w.heap.size w w') : Mid w' base lo v m m' i :=
  ⟨h.own.kept k (Nat.le_refl _), h.len, h.rest, fun j hj hi => let ⟨g, a, b, c, d⟩ := h.room j hj hi; ⟨g, a, b, c, d.kept k⟩, h.low, h.lens, h.dis⟩
theorem Mid.here {w : World} {base lo : Nat} {v : Value} {m m' : List Pair} {i : Nat} (h : Mid w base lo v m m' i) (hi : i < m.length) : m'[i]'(by rw [h.len]; exact hi) = m[i] := by
  have h1 := List.drop_eq_getElem_cons hi
  have h2 := List.drop_eq_getElem_cons (l := m') (i := i) (by rw [h.len]; exact hi)
  rw [h.rest, h1] at h2
  exact (List.cons.inj h2).1.symm
/-- Where the pair i stands, and its bytes. -/
theorem Mid.cells {w : World} {base lo : Nat} {v : Value} {m m' : List Pair} {i : Nat} (h : Mid w base lo v m m' i) (hi : i < m.length) :
    ∃ q c g, v = .slice (some ⟨q, 0, none⟩) m.length c ∧ base ≤ q ∧ q < lo ∧ q < w.heap.size ∧ q ≠ g ∧ m[i].A = some ⟨g, 0, none⟩ ∧ base ≤ g ∧ g < lo ∧ Room w g m[i].bs ∧
      w.cell? ⟨q, i * 2, none⟩ = some (.slice m[i].A m[i].n m[i].c) ∧ w.cell? ⟨q, i * 2 + 1, none⟩ = some (.int .u64 (m[i].pr.toNat : Int)) ∧ w.frozen? ⟨q, i * 2 + 1, none⟩ = false := by
  obtain ⟨g, hA, hg1, hg2, hR⟩ := h.room i hi (Nat.le_refl _)
  have hap := hR.apart h.own
  have hl := h.len
  have hlow := h.low
  have hown := h.own
  rcases h.own.2 with ⟨rfl, h0⟩ | ⟨q, cap, cur, rfl, hb, hq, hn, hm, hs, ht⟩
  · omega
  have hv := length_pvals m'
  refine ⟨q, cap, g, by rw [hl], hb, (hlow q (by simp [Value.ownBlock])).2, (Array.getElem?_eq_some_iff.1 hq).1, fun e => hap (by subst e; simp [Value.ownBlock]), hA, hg1, hg2, hR, ?_, ?_, World.ownsRow.frozenAt hown _⟩
  · have h1 := World.ownsRow.cellAt hown (i * 2) (by omega)
    have h2 := pvals_bytes m' i (by omega)
    rw [h1, show i * 2 = 2 * i by omega, h2, h.here hi]
  · have h1 := World.ownsRow.cellAt hown (i * 2 + 1) (by omega)
    have h2 := pvals_print m' i (by omega)
    rw [h1, show i * 2 + 1 = 2 * i + 1 by omega, h2, h.here hi]
theorem pvals_set (l : List Pair) (i : Nat) (x : UInt64) (h : i < l.length) : pvals (l.set i ⟨l[i].A, l[i].n, l[i].c, l[i].bs, x⟩) = (pvals l).set (2 * i + 1) (.int .u64 (x.toNat : Int)) := by
  induction l generalizing i with
  | nil => simp at h
  | cons e es ih =>
    cases i with
    | zero => rfl
    | succ i =>
      simp only [List.length_cons, Nat.add_lt_add_iff_right] at h
      have := ih i h
      rw [show 2 * (i + 1) + 1 = (2 * i + 1) + 2 by omega]
      simp only [List.set_cons_succ, List.getElem_cons_succ, pvals, List.set_cons_succ]
      rw [this]
theorem Mid.step {w wx : World} {base lo : Nat} {v : Value} {m m' : List Pair} {i q c g N : Nat} (h : Mid w base lo v m m' i) (hi : i < m.length) (hv : v = .slice (some ⟨q, 0, none⟩) m.length c) (hqg : q ≠ g) (hA : m[i].A = some ⟨g, 0, none⟩) (W : Wrote w wx g 0 N) (x : UInt64) :
    ∃ m'', Mid (wx.setCell ⟨q, i * 2 + 1, none⟩ (.int .u64 (x.toNat : Int))) base lo v m m'' (i + 1) := by
  subst hv
  have hl := h.len
  have hi' : i < m'.length := by omega
  have o1 : OwnP wx base (.slice (some ⟨q, 0, none⟩) m.length c) m' := h.own.at (by rw [W.size]; exact Nat.le_refl _) (fun k hk => W.block k (fun e => by subst e; simp [Value.ownBlock] at hk; exact hqg hk))
  have o2 : OwnP (wx.setCell ⟨q, i * 2 + 1, none⟩ (.int .u64 (x.toNat : Int))) base (.slice (some ⟨q, 0, none⟩) m.length c) (m'.set i ⟨m'[i].A, m'[i].n, m'[i].c, m'[i].bs, x⟩) := by
    unfold OwnP at o1 ⊢
    rw [List.length_set, pvals_set m' i x hi', hl, show 2 * i + 1 = i * 2 + 1 by omega]
    rw [hl] at o1
    exact (World.ownsRow.stored o1 (i * 2 + 1) (.int .u64 (x.toNat : Int))).1
  refine ⟨_, o2, by rw [List.length_set, hl], ?_, fun j hj hij => ?_, h.low, h.lens, h.dis⟩
  · rw [List.drop_set_of_lt (by omega)]
    have := congrArg (List.drop 1) h.rest
    simpa [List.drop_drop, Nat.add_comm] using this
  · obtain ⟨g', hA', b1, b2, R⟩ := h.room j hj (by omega)
    have hne : g' ≠ g := fun e => by
      subst e
      have := List.pairwise_iff_getElem.1 h.dis i j hi hj (by omega)
      exact this (by rw [hA, hA'])
    have R2 : Room wx g' m[j].bs := R.at (W.block g' hne)
    have hq2 : g' ≠ q := fun e => R2.apart o1 (by subst e; simp [Value.ownBlock])
    exact ⟨g', hA', b1, b2, R2.at (heap_setCell_other _ _ _ _ hq2)⟩
theorem Beyond.step {w wx : World} {lo : Nat} {tp : Option Addr} {ps : List Pr} {rest : UInt64} {q k g N : Nat} {u : Value} (h : Beyond w lo tp ps rest) (W : Wrote w wx g 0 N) (hg : g < lo) (hq : q < lo) : Beyond (wx.setCell ⟨q, k, none⟩ u) lo tp ps rest :=
  h.at fun b hb _ => (heap_setCell_other _ _ _ _ (by show b ≠ q; omega)).trans (W.block b (by omega))
end Go.Proofs.Ytbhajmecaemafaa.Tb
