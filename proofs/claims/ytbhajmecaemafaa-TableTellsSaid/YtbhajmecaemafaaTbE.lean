/- Whether a table is unlike. -/
import Derived.Test.YtbhajmecaemafaaTbD
namespace Go.Proofs.Ytbhajmecaemafaa.Tb
open Go.RowKit Go.Proofs.Ytbhajmecaemafaa.Oct Go.Maps
set_option linter.unusedVariables false

/-! ### How many unlike numbers -/
def nlit (c : UInt64) : Lit := .int .u64 (c.toNat : Int)
theorem nlit_inj {a b : UInt64} (h : nlit a = nlit b) : a = b := by
  simp only [nlit, Lit.int.injEq, true_and] at h
  exact UInt64.toNat_inj.1 (by omega)
theorem nlit_of (c : UInt64) : keyOf Try.prog 23 (.int .u64 (c.toNat : Int)) = some (nlit c) := keyOf_int_mk Try.underlying23 (word_wf c)
theorem nlit_key (c : UInt64) : WideAt.IsKeyLit (nlit c) := num_law.key (nlit_of c)
theorem any_same {acc : List Lit} {x : Lit} (hx : WideAt.IsKeyLit x) : acc.any (fun y => y.sameKey x) = true ↔ x ∈ acc := by
  rw [List.any_eq_true]
  constructor
  · rintro ⟨y, hy, e⟩
    rw [← WideAt.sameKey_eq e]
    exact hy
  · exact fun h => ⟨x, h, WideAt.sameKey_self hx⟩
theorem fold_addKey : ∀ (xs acc : List Lit), (∀ x ∈ xs, WideAt.IsKeyLit x) → (xs.foldl addKey acc).length ≤ acc.length + xs.length ∧ ((xs.foldl addKey acc).length = acc.length + xs.length ↔ xs.Nodup ∧ ∀ x ∈ xs, x ∉ acc)
  | [], acc, _ => by simp
  | x :: r, acc, h => by
    have hx := h x (by simp)
    have hr := fun y hy => h y (List.mem_cons_of_mem x hy)
    rw [List.foldl_cons]
    by_cases hin : x ∈ acc
    · have e : addKey acc x = acc := by unfold addKey; rw [if_pos ((any_same hx).2 hin)]
      obtain ⟨h1, h2⟩ := fold_addKey r acc hr
      rw [e]
      refine ⟨by simp only [List.length_cons]; omega, ?_⟩
      constructor
      · intro e2
        simp only [List.length_cons] at e2
        omega
      · rintro ⟨-, h4⟩
        exact absurd hin (h4 x (by simp))
    · have e : addKey acc x = acc ++ [x] := by unfold addKey; rw [if_neg (fun q => hin ((any_same hx).1 q))]
      obtain ⟨h1, h2⟩ := fold_addKey r (acc ++ [x]) hr
      rw [e]
      simp only [List.length_append, List.length_cons, List.length_nil] at h1 h2 ⊢
      refine ⟨by omega, ?_⟩
      rw [show acc.length + (r.length + 1) = acc.length + (0 + 1) + r.length by omega, h2, List.nodup_cons]
      constructor
      · rintro ⟨h3, h4⟩
        refine ⟨⟨fun hxr => h4 x hxr (by simp), h3⟩, fun y hy => ?_⟩
        rcases List.mem_cons.1 hy with rfl | hy
        · exact hin
        · exact fun q => h4 y hy (by simp [q])
      · rintro ⟨⟨h3, h4⟩, h5⟩
        refine ⟨h4, fun y hy q => ?_⟩
        rcases List.mem_append.1 q with q | q
        · exact h5 y (by simp [hy]) q
        · obtain rfl : y = x := by simpa using q
          exact h3 hy
def unitD : DataW Unit := .agg []
def Met (vs : List UInt64) : DataW Unit := setOf unitD (vs.map nlit)
theorem Met_snoc (vs : List UInt64) (c : UInt64) : Met (vs ++ [c]) = (Met vs).put (nlit c) unitD := by
  unfold Met
  rw [List.map_append, List.map_singleton, setOf_snoc]
theorem size_Met (vs : List UInt64) : Maps.size (Met vs) ≤ vs.length ∧ (Maps.size (Met vs) = vs.length ↔ vs.Nodup) := by
  have hk : ∀ x ∈ vs.map nlit, WideAt.IsKeyLit x := fun x hx => by
    obtain ⟨c, _, rfl⟩ := List.mem_map.1 hx
    exact nlit_key c
  obtain ⟨h1, h2⟩ := fold_addKey (vs.map nlit) [] hk
  unfold Met
  rw [size_setOf _ _ hk]
  simp only [List.length_nil, Nat.zero_add, List.length_map] at h1 h2
  refine ⟨h1, h2.trans ?_⟩
  constructor
  · rintro ⟨h3, -⟩
    exact List.Pairwise.of_map _ (fun a b hab e => hab (by rw [e])) h3
  · intro h3
    refine ⟨List.Pairwise.map _ (fun a b hab e => hab (nlit_inj e)) h3, by simp⟩
/-- What the set's size tells, once all values are in it. -/
theorem unlike_of {ps : List Pr} {rest : UInt64} {vs : List UInt64} (h : vs.Perm (ps.map (·.2))) : decide (Maps.size (Met (rest :: vs)) = ps.length + 1) = unlike ps rest := by
  have h2 := (size_Met (rest :: vs)).2
  have hl : vs.length = ps.length := by rw [h.length_eq, List.length_map]
  rw [List.length_cons, hl] at h2
  unfold unlike
  rw [decide_eq_decide, h2]
  exact (h.cons rest).nodup_iff

/-! ### The pairs that are still to come -/
def ahead (ps : List Pr) (left : Lit → Bool) : List Pr := ps.filter fun p => left (bkey p.1)
theorem has_mem {ps : List Pr} {kl : Lit} (h : ∀ p ∈ ps, p.1.length = 128) (hh : Maps.has (Dm ps) kl = true) : ∃ p ∈ ps, kl = bkey p.1 := by
  induction ps using snoc_ind with
  | h0 => cases hh
  | h1 l a ih =>
    rw [Dm_snoc] at hh
    by_cases e : kl = bkey a.1
    · exact ⟨a, by simp, e⟩
    · rw [has_put_other e] at hh
      obtain ⟨p, hp, e2⟩ := ih (fun p hp => h p (by simp [hp])) hh
      exact ⟨p, by simp [hp], e2⟩
theorem seek_mem {ps : List Pr} (h : Good ps) {p : Pr} (hp : p ∈ ps) : seek ps p.1 = some p.2 := by
  induction ps using snoc_ind with
  | h0 => simp at hp
  | h1 l a ih =>
    obtain ⟨g, ha, hn⟩ := good_snoc.1 h
    rw [seek_snoc _ _ _ hn]
    rcases List.mem_append.1 hp with hp | hp
    · rw [if_neg, ih g hp]
      intro e
      have : isIn l a.1 = true := isIn_iff.2 (e ▸ List.mem_map_of_mem hp)
      rw [hn] at this
      cases this
    · obtain rfl : p = a := by simpa using hp
      rw [if_pos rfl]
theorem ahead_all (ps : List Pr) (h : ∀ p ∈ ps, p.1.length = 128) : ahead ps (Maps.has (Dm ps)) = ps := by
  unfold ahead
  rw [List.filter_eq_self]
  intro p hp
  rw [has_Dm h (h p hp)]
  exact isIn_iff.2 (List.mem_map_of_mem hp)
theorem ahead_none (ps : List Pr) {left : Lit → Bool} (h : ∀ kl, left kl = false) : ahead ps left = [] := by
  unfold ahead
  rw [List.filter_eq_nil_iff]
  intro p _
  rw [h]
  simp
theorem ahead_step : ∀ {ps : List Pr} (left : Lit → Bool) (p : Pr), (∀ q ∈ ps, q.1.length = 128) → (ps.map (·.1)).Nodup → p ∈ ps → left (bkey p.1) = true →
    (ahead ps left).Perm (p :: ahead ps (fun z => left z && !z.sameKey (bkey p.1)))
  | [], _, _, _, _, hp, _ => by simp at hp
  | q :: r, left, p, h, hn, hp, hl => by
    have hq := h q (by simp)
    have hr := fun x hx => h x (List.mem_cons_of_mem q hx)
    rw [List.map_cons, List.nodup_cons] at hn
    by_cases e : q.1 = p.1
    · have hpq : p = q := by
        rcases List.mem_cons.1 hp with e2 | hp
        · exact e2
        · exact absurd (e ▸ List.mem_map_of_mem hp) hn.1
      subst hpq
      have e1 : ahead r (fun z => left z && !z.sameKey (bkey p.1)) = ahead r left := by
        unfold ahead
        refine List.filter_congr fun x hx => ?_
        have : (bkey x.1).sameKey (bkey p.1) = false := sameKey_ne fun e3 => hn.1 (bkey_inj (hr x hx) hq e3 ▸ List.mem_map_of_mem hx)
        show (left (bkey x.1) && !(bkey x.1).sameKey (bkey p.1)) = left (bkey x.1)
        rw [this]
        simp
      have e2 : ahead (p :: r) (fun z => left z && !z.sameKey (bkey p.1)) = ahead r left := by
        rw [← e1]
        unfold ahead
        rw [List.filter_cons_of_neg]
        simp [WideAt.sameKey_self (bkey_key hq)]
      have e3 : ahead (p :: r) left = p :: ahead r left := by
        unfold ahead
        exact List.filter_cons_of_pos (by exact hl)
      rw [e2, e3]
    · have hpr : p ∈ r := by
        rcases List.mem_cons.1 hp with e2 | hp
        · exact absurd (by rw [e2]) e
        · exact hp
      have ih := ahead_step left p hr hn.2 hpr hl
      have hs : (bkey q.1).sameKey (bkey p.1) = false := sameKey_ne fun e3 => e (bkey_inj hq (hr p hpr) e3)
      cases hlq : left (bkey q.1)
      · have a1 : ahead (q :: r) left = ahead r left := List.filter_cons_of_neg (by simp [hlq])
        have a2 : ahead (q :: r) (fun z => left z && !z.sameKey (bkey p.1)) = ahead r (fun z => left z && !z.sameKey (bkey p.1)) := List.filter_cons_of_neg (by simp [hlq])
        rw [a1, a2]
        exact ih
      · have a1 : ahead (q :: r) left = q :: ahead r left := List.filter_cons_of_pos (by simp [hlq])
        have a2 : ahead (q :: r) (fun z => left z && !z.sameKey (bkey p.1)) = q :: ahead r (fun z => left z && !z.sameKey (bkey p.1)) := List.filter_cons_of_pos (by simp [hlq, hs])
        rw [a1, a2]
        exact (ih.cons q).trans (List.Perm.swap _ _ _)
/-- One more value met. -/
theorem met_step {ps : List Pr} (h : Good ps) {left : Lit → Bool} {vs : List UInt64} {kl : Lit} {c : Int} (hp : (vs ++ (ahead ps left).map (·.2)).Perm (ps.map (·.2))) (hl : left kl = true)
    (hat : ∀ zd, (Dm ps).atKey kl zd = .lit (.int .u64 c)) : ∃ x : UInt64, c = (x.toNat : Int) ∧ ((vs ++ [x]) ++ (ahead ps (fun z => left z && !z.sameKey kl)).map (·.2)).Perm (ps.map (·.2)) ∧ vs.length < ps.length := by
  obtain ⟨p, hpm, rfl⟩ := has_mem h.len (has_true_of_atKey hat)
  have h1 := at_Dm h (h.len p hpm)
  rw [hat, seek_mem h hpm] at h1
  have h2 := ahead_step left p h.len h.nodup hpm hl
  refine ⟨p.2, pdat_of h1.symm, ?_, ?_⟩
  · refine List.Perm.trans ?_ hp
    rw [List.append_assoc]
    refine List.Perm.append_left vs ?_
    exact ((h2.map (·.2)).symm)
  · have := hp.length_eq
    rw [List.length_append, List.length_map, List.length_map, h2.length_eq, List.length_cons] at this
    omega

/-! ### Unlike -/
theorem wpList_insert_own {H : Type} {P : Program} (w : World) {ops : Array Oper} {rest : List Oper} {o : Oper} {a : Act} {Q : Exit → Act → World → Prop}
    (hg : o.guard = none) (m x v : Operand) (t : TypeId) (hop : o.op = Op.insert t m x v)
    (k e : TypeId) (K : Keyed P k) (ht : P.underlying t = some (.map k e)) (R : Value → Option (DataW H × List MemPlace)) (b n : Nat) (D : DataW H)
    (hm : a.eval m = .map (some b)) (hown : w.ownsMap P k R b n D) (hn : n < maxLen) (key val : Value) (kl : Lit) (hx : a.eval x = key) (hv : a.eval v = val) (hkey : keyOf P k key = some kl)
    (d : DataW H) (ps : List MemPlace) (hval : R val = some (d, ps))
    (hK : ∀ w', w'.ownsMap P k R b (n + 1) (D.put kl d) → w.grownBy w' (some b) → wpList P ops Q rest (a.put o.dst undef) w') :
    wpList P ops Q (o :: rest) a w := by
  refine wpList_plain hg fun K' hK' => ?_
  obtain ⟨w', hrun, r1, r2⟩ := hown.update K ht hn hkey hval
  unfold Oper.wp
  simp [execOp, hop, hm, hx, hv, hrun, Result.andThen]
  exact hK' _ _ (hK w' r1 r2)
theorem unlike_none (w : World) :
    Calls Try.prog 16 #[.pointer none] w fun e w' => e = .returned (.bool false) ∧ w = w' := by
  go_enter Try.func16, Try.ntmps16
  go_wp2_with fail
  refine (made_none _).mono ?_
  rintro e w' ⟨rfl, rfl⟩
  go_wp2_with fail
  go_ret
  exact ⟨rfl, rfl⟩
theorem unlike_bare (a : Nat) (w : World) (h : w.cell? ⟨a, 2, none⟩ = some (.pointer none)) :
    Calls Try.prog 16 #[.pointer (some ⟨a, 0, none⟩)] w fun e w' => e = .returned (.bool false) ∧ w = w' := by
  go_enter Try.func16, Try.ntmps16
  go_wp2_with fail
  refine (made_bare a _ h).mono ?_
  rintro e w' ⟨rfl, rfl⟩
  go_wp2_with fail
  go_ret
  exact ⟨rfl, rfl⟩
theorem int_nat_succ (s n : Nat) : ((s : Int) == (n : Int) + 1) = decide (s = n + 1) := by
  rw [Bool.eq_iff_iff, beq_iff_eq, decide_eq_true_eq]
  omega
theorem built_unit : Try.prog.built 55 [] = some #[] := by kernel_rfl
set_option maxRecDepth 100000 in
set_option maxHeartbeats 1000000 in
theorem unlike_tab {w : World} {a b : Nat} {ps : List Pr} {rest : UInt64} (h : Tab w a b ps rest) :
    Calls Try.prog 16 #[.pointer (some ⟨a, 0, none⟩)] w fun e w' => e = .returned (.bool (unlike ps rest)) ∧ Below w.heap.size w w' := by
  have c2 := h.c2
  have hmm := @run_makeMap Try.prog
  have HH := Lib.hid h
  have M1 := World.ownsMap_made w Try.prog 23 (unitElem (H := Unit))
  have B1 := (Below.refl w.heap.size w).alloc (Nat.le_refl _) (.map #[] 0)
  have T1 := h.kept B1
  clear h
  go_enter Try.func16, Try.ntmps16
  go_wp2_with fail
  refine (made_self a _ c2).mono ?_
  rintro e w' ⟨rfl, rfl⟩
  have c1 := T1.c1
  have HM1 := Lib.hid M1
  have HB1 := Lib.hid B1
  clear T1 M1 B1 c2
  go_upto_region 4 with (refine wpList_insert_own _ rfl _ _ _ 56 rfl 23 55 num_law Try.underlying56 _ w.heap.size 0 _ rfl HM1.out (by decide) _ _ (nlit rest) rfl rfl (nlit_of rest) unitD [] unitElem_mk ?_; intro w2 hown2 hg2)
  have B2 := HB1.out.grown hg2 (by simp) (fun j hj => by cases hj; exact Nat.le_refl _)
  have T2 := HH.out.kept B2
  have HM2 := Lib.hid (show w2.ownsMap Try.prog 23 (unitElem (H := Unit)) w.heap.size 1 (Met [rest]) from hown2)
  have HB2 := Lib.hid B2
  have HT2 := Lib.hid T2
  have c0 := T2.c0
  clear hown2 hg2 B2 T2 HM1 HB1 c1 hmm
  go_wp2_with (at_range; refine wpList_range_own _ rfl _ 45 rfl 51 23 block_law Try.underlying45 (plainElem Try.prog 23) b ps.length (Dm ps) rfl HT2.out.mp.own ?_; intro w3 hrg3 hg3 hs3)
  go_frame
  have B23 := (Below.refl w2.heap.size w2).grown hg3 (Nat.le_refl _) (fun j hj => by cases hj)
  have HT3 := Lib.hid (HT2.out.kept B23)
  have HM3 := Lib.hid (HM2.out.kept hg3 (by simp))
  have HB3 := Lib.hid (HB2.out.trans (B23.mono HB2.out.size))
  have HR3 := Lib.hid hrg3
  have HS3 := Lib.hid (show w.heap.size < w2.heap.size from HM2.out.lt)
  have HPS := Lib.hid (show ps.length ≤ 1000 from HT2.out.few)
  have HG := Lib.hid (show Good ps from HT2.out.mp.good)
  clear B23 hg3 hs3 hrg3 HT2 HM2 HB2 c0
  generalize w2.heap.size = r at *
  go_loopw [21] (fun _ wr => ∃ (vs : List UInt64) (left : Lit → Bool) (cnt : Nat), Hid (wr.ranges Try.prog 51 (plainElem Try.prog 23) b r ps.length (Dm ps) left cnt) ∧ Hid (wr.ownsMap Try.prog 23 (unitElem (H := Unit)) w.heap.size (vs.length + 1) (Met (rest :: vs))) ∧ Hid ((vs ++ (ahead ps left).map (·.2)).Perm (ps.map (·.2))) ∧ Hid (Tab wr a b ps rest) ∧ Hid (Below w.heap.size w wr)) (fun _ wr => wr.rangeLeft b r)
  case atStart => exact ⟨[], Maps.has (Dm ps), Maps.size (Dm ps), HR3, HM3, Lib.hid (by rw [List.nil_append, ahead_all ps HG.out.len]), HT3, HB3⟩
  case round =>
    obtain ⟨vs, left, cnt, HRr, HMr, HPr, HTr, HBr⟩ := hrel
    clear HR3 HM3 HT3 HB3
    have hbl := Lib.hid HH.out.mp.lt
    have hal := Lib.hid HH.out.row.lt
    go_wp2_with (at_next; refine wpList_next_ranges _ rfl _ rfl 51 block_law (plainElem Try.prog 23) (id : Value → Value) (Value.int .u64) (fun key kl _ => ⟨key, rfl⟩) (fun v y hv => (let ⟨c, e, _⟩ := plainElem_int_inv Try.underlying23 hv; ⟨c, e⟩)) b r ps.length (Dm ps) left cnt rfl HRr.out ?_ ?_)
    · intro hc0 hl0
      have HV := Lib.hid (show vs.Perm (ps.map (·.2)) from by
        have := HPr.out
        rwa [ahead_none ps hl0, List.map_nil, List.append_nil] at this)
      have HU := Lib.hid (unlike_of (rest := rest) HV.out)
      have hlen1 : ∀ n ty, (Builtin.len_ #[56] ty #[.map (some w.heap.size)]).run Try.prog (wr.drewN n) = .ok (.int .i64 (Maps.size (Met (rest :: vs)) : Int)) (wr.drewN n) := fun n ty =>
        World.ownsMap.len (w := wr.drewN n) HMr.out Try.underlying56 ty
      have hlen2 : ∀ n ty, (Builtin.len_ #[45] ty #[.map (some b)]).run Try.prog (wr.drewN n) = .ok (.int .i64 (ps.length : Int)) (wr.drewN n) := fun n ty =>
        (HTr.out.mp.at (w' := wr.drewN n) rfl).len ty
      have c0 := HTr.out.c0
      have hps := HPS.out
      have HBn := fun n => Lib.hid (HBr.out.trans ((Still.drewN wr n).below _))
      clear hl0 hc0
      go_wp2_with fail
      go_quiet (fail)
      go_wp2_with fail
      go_ret
      refine ⟨?_, (HBn _).out⟩
      rw [← HU.out]
      refine congrArg (fun x => Ending.returned (.bool x)) ?_
      exact int_nat_succ _ _
    · intro x c kl yd yp w4 cnt' hkey hlk hv hat hrg4 hcl hg4 hs4 hen
      obtain ⟨c', ec, ey, _⟩ := plainElem_int_inv Try.underlying23 hv
      injection ec with _ ec
      subst ec
      have ed : yd = .lit (.int .u64 c) := congrArg Prod.fst ey
      subst ed
      obtain ⟨z, rfl, HPn, hvl⟩ := met_step HG.out HPr.out hlk hat
      have hps := HPS.out
      have h3 := HS3.out
      have hb := hbl.out
      have hne := HRr.out.ne
      have HM4 := Lib.hid (HMr.out.kept hg4 (fun e => by have := Option.some.inj e; omega))
      have B4 := HBr.out.grown hg4 HBr.out.size (fun j hj => by cases hj; exact Nat.le_of_lt h3)
      have HB4 := Lib.hid B4
      have HT4 := Lib.hid (show Tab w4 a b ps rest from ⟨HTr.out.row.block (hg4.block a HTr.out.row.lt (fun e => by have := Option.some.inj e; have := hal.out; omega)), HTr.out.mp.at (hg4.block b HTr.out.mp.lt (fun e => by have := Option.some.inj e; omega)), hps⟩)
      have HR4 := Lib.hid hrg4
      have HP4 := Lib.hid HPn
      clear hrg4 HPn hg4 hs4 B4 hkey hlk hv hat ey
      go_wp2_with (at_mapUpdate; refine wpList_mapUpdate_own _ rfl _ _ _ 56 rfl 23 55 num_law Try.underlying56 _ w.heap.size (vs.length + 1) _ rfl HM4.out (by unfold maxLen; omega) _ _ (nlit z) rfl rfl (nlit_of z) unitD [] unitElem_mk ?_; intro w5 hown5 hg5; go_frame)
      have hrg5 := HR4.out.kept hg5 (fun e => by have := Option.some.inj e; omega) (fun e => by have := Option.some.inj e; omega)
      have HM5 := Lib.hid (show w5.ownsMap Try.prog 23 (unitElem (H := Unit)) w.heap.size ((vs ++ [z]).length + 1) (Met (rest :: (vs ++ [z]))) from by
        rw [List.length_append, ← List.cons_append, Met_snoc]
        exact hown5)
      have HT5 := Lib.hid (show Tab w5 a b ps rest from ⟨HT4.out.row.block (hg5.block a HT4.out.row.lt (fun e => by have := Option.some.inj e; have := hal.out; omega)), HT4.out.mp.at (hg5.block b HT4.out.mp.lt (fun e => by have := Option.some.inj e; omega)), hps⟩)
      have HB5 := Lib.hid (HB4.out.grown hg5 HB4.out.size (fun j hj => by cases hj; exact Nat.le_refl _))
      have hle := HRr.out.left_eq
      have hle5 := hrg5.left_eq
      have HR5 := Lib.hid hrg5
      clear hrg5 hown5 hg5
      go_roundw
      case rel => exact ⟨vs ++ [z], _, cnt', HR5, HM5, HP4, HT5, HB5⟩
      case measure => rw [hle5, hle]; exact hcl
end Go.Proofs.Ytbhajmecaemafaa.Tb
