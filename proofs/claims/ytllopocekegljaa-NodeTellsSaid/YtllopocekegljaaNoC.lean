/- Layer 12: contracts of slices.Grow (of nil) and slices.Concat of lists of numbers. -/
import Derived.Test.YtllopocekegljaaNoB
import Derived.Lib.AppendZerosOnto
import Derived.Lib.SliceRun
import Derived.Laws.OwnMore
import Derived.Maps.AppendAt
namespace Go.Proofs.Ytllopocekegljaa.No
open Go.RowKit Go.Proofs.Ytllopocekegljaa.Oct Go.Proofs.Ytllopocekegljaa.Lf
set_option linter.unusedVariables false

theorem own_nil (w : World) (base : Nat) : OwnN w base (.slice none 0 0) [] := by
  unfold OwnN
  simpa [nvals] using World.ownsRow_nil w base 25 1

set_option maxHeartbeats 4000000 in
set_option maxRecDepth 100000 in
theorem grow_any (w : World) (n : Nat) (hn : n ≤ 1000000) :
    Calls Try.prog 44 #[.slice none 0 0, .int .i64 n] w fun e w' => ∃ v, e = .returned v ∧ OwnN w' w.heap.size v [] ∧ Below w.heap.size w w' := by
  obtain ⟨i0, hi0, hz0, hz1, hz2⟩ := info_parts nums_info
  by_cases h0 : n = 0
  · subst h0
    go_enter Try.func44, Try.ntmps44
    go_wp2_with fail
    go_ret
    exact ⟨_, rfl, own_nil _ _, Below.refl _ _⟩
  · have hpos : 0 < n := by omega
    have hrz : ∀ ty, (Builtin.append_ #[22, 3] ty #[.slice none 0 0, .int .i64 (n : Int)]).run Try.prog w = _ := fun ty =>
      Lib.run_append_grow_zeros w 22 3 ty 25 i0 (.int .u64 0) .i64 .i64 Try.underlying22 Try.underlying3 hi0 hz0 none 0 0 [] (run_firstCells_none w.drew i0.size 0 0 0) n hpos (by rw [hz1]; omega) (by omega) (by omega) (by rw [hz2]; omega)
        (by rw [Nat.zero_add, hz2]; exact growslice_fits (bytes := 8) (by omega) (by omega))
    rw [Nat.zero_add] at hrz
    have hcap := grownCap_ge w n 0 25
    have hmax := grownCap_le_maxLen w n 0 25 (by unfold maxLen; omega)
    generalize grownCap w n 0 25 = cp at hrz hcap hmax
    have hown := World.ownsRow_made (base := w.heap.size) (size := 1) (e := 25) w.drew (([] : List Value).toArray ++ Builtin.zeroCells (Value.int .u64 0).cells n ++ Builtin.zeroCells (Value.int .u64 0).cells (cp - n)) cp (by exact Nat.le_refl _) hmax (by simp [size_zeroCells, Value.cells]; omega)
    have hbel := ((show Still w w.drew from ⟨rfl, rfl, rfl, rfl⟩).below w.heap.size).trans ((Below.refl w.heap.size w.drew).alloc (Nat.le_refl _) (.cells (([] : List Value).toArray ++ Builtin.zeroCells (Value.int .u64 0).cells n ++ Builtin.zeroCells (Value.int .u64 0).cells (cp - n)) 25))
    have H1 := Lib.hid hown
    have H2 := Lib.hid hbel
    generalize w.drew.alloc (.cells (([] : List Value).toArray ++ Builtin.zeroCells (Value.int .u64 0).cells n ++ Builtin.zeroCells (Value.int .u64 0).cells (cp - n)) 25) = w1 at hrz H1 H2
    unfold maxLen at hmax
    clear hown hbel
    go_enter Try.func44, Try.ntmps44
    go_wp2_with (at_builtin; refine Lib.wpList_append_run _ rfl _ _ _ _ rfl _ _ rfl rfl _ _ (hrz _) ?_)
    go_ret
    exact ⟨_, rfl, by unfold OwnN; exact H1.out, H2.out⟩

/-- Nothing is appended: nothing turns. -/
theorem run_append_zero (w : World) (base : Nat) (ty : TypeId) (v : Value) (xs : List UInt64) (hown : OwnN w base v xs) (A : Option Addr) (c : Nat) :
    (Builtin.append_ #[22, 22] ty #[v, .slice A 0 c]).run Try.prog w = .ok v w := by
  obtain ⟨i0, hi0, hz0, hz1, hz2⟩ := info_parts nums_info
  have ht := Try.underlying22
  cases A with
  | none =>
    rcases hown.2 with ⟨rfl, hx⟩ | ⟨g, cap, cur, rfl, _, _, hnc, _⟩
    · simp [Builtin.append_, run_underlying ht, sizeOf, typeInfo, hi0, Builtin.lenOf, Builtin.firstCells]
    · simp [Builtin.append_, run_underlying ht, sizeOf, typeInfo, hi0, Builtin.lenOf, Builtin.firstCells, hnc, storeCells]
  | some a =>
    rcases hown.2 with ⟨rfl, hx⟩ | ⟨g, cap, cur, rfl, _, _, hnc, _⟩
    · simp [Builtin.append_, run_underlying ht, sizeOf, typeInfo, hi0, Builtin.lenOf, Builtin.firstCells, loadCells, loadCellsFrom]
    · simp [Builtin.append_, run_underlying ht, sizeOf, typeInfo, hi0, Builtin.lenOf, Builtin.firstCells, hnc, storeCells, loadCells, loadCellsFrom]

theorem own_below {w w' : World} {base : Nat} {v : Value} {xs : List UInt64} (h : OwnN w base v xs) (hb : base ≤ w.heap.size) (hg : w.grownBy w' v.ownBlock) : Below base w w' := by
  refine ⟨hg.os, hg.tape, hg.output, hg.size, fun k hk => ?_⟩
  refine hg.block k (by omega) (fun e => ?_)
  have := World.ownsRow.lt h k e.symm
  omega

theorem run_append_any (w : World) (base : Nat) (ty : TypeId) (v : Value) (xs : List UInt64) (hown : OwnN w base v xs) (A : Option Addr) (n c : Nat) (ns : List UInt64) (hlen : ns.length = n) (hT : ToldN w A ns) (hbase : base ≤ w.heap.size) (hsz : xs.length + n ≤ 1000000) :
    ∃ v' w', (Builtin.append_ #[22, 22] ty #[v, .slice A n c]).run Try.prog w = .ok v' w' ∧ OwnN w' base v' (xs ++ ns) ∧ w.grownBy w' v.ownBlock ∧ (v'.ownBlock = v.ownBlock ∨ v'.ownBlock = some w.heap.size) := by
  obtain ⟨i0, hi, hz0, hz1, hz2⟩ := info_parts nums_info
  rcases hT with rfl | ⟨b, o, rfl, hT⟩
  · obtain rfl : n = 0 := by simpa using hlen.symm
    exact ⟨v, w, run_append_zero w base ty v xs hown A c, by rw [List.append_nil]; exact hown, ⟨rfl, rfl, rfl, Nat.le_refl _, fun _ _ _ => rfl⟩, .inl rfl⟩
  · obtain ⟨v', w', h1, h2, h3, _, h5⟩ := run_append_own_at (P := Try.prog) w base 22 ty 25 i0 (.int .u64 0) 1 8 Try.underlying22 hi hz0 hz1 hz2 rfl (by omega) v xs.length (nvals xs) hown ⟨b, o, none⟩ n c (nvals ns) (by rw [length_nvals, hlen, Nat.mul_one])
      (fun j u hj => by
        have hjl : j < ns.length := by
          rcases Nat.lt_or_ge j ns.length with h | h
          · exact h
          · rw [List.getElem?_eq_none (by rw [length_nvals]; exact h)] at hj; cases hj
        have hv : u = .int .u64 (ns[j].toNat : Int) := by simpa [nvals, hjl] using hj.symm
        rw [hv, add_plain]
        exact hT j hjl) (fun u hu => by simp [nvals] at hu; obtain ⟨x, _, rfl⟩ := hu; rfl) (by unfold maxLen; omega) (by omega) hbase
    refine ⟨v', w', h1, ?_, h3, h5⟩
    unfold OwnN
    rw [List.length_append, hlen, show nvals (xs ++ ns) = nvals xs ++ nvals ns by simp [nvals]]
    exact h2
/-- A list of numbers somewhere. -/
structure Src where
  a : Option Addr
  n : Nat
  c : Nat
  ns : List UInt64
def Src.Told (w : World) (r : Src) : Prop := ToldN w r.a r.ns ∧ r.ns.length = r.n
def flat (rs : List Src) : List UInt64 := rs.flatMap (·.ns)
def total (rs : List Src) : Nat := (rs.map (·.n)).sum
theorem flat_take {rs : List Src} {i : Nat} (h : i < rs.length) : flat (rs.take (i + 1)) = flat (rs.take i) ++ rs[i].ns := by
  unfold flat
  rw [List.take_succ_eq_append_getElem h, List.flatMap_append]
  simp
theorem total_take {rs : List Src} {i : Nat} (h : i < rs.length) : total (rs.take (i + 1)) = total (rs.take i) + rs[i].n := by
  unfold total
  rw [List.take_succ_eq_append_getElem h, List.map_append, List.sum_append]
  simp
theorem total_take_le (rs : List Src) (i : Nat) : total (rs.take i) ≤ total rs := by
  have e : total rs = total (rs.take i) + total (rs.drop i) := by
    unfold total
    rw [← List.sum_append, ← List.map_append, List.take_append_drop]
  omega
theorem length_flat {w : World} {rs : List Src} (h : ∀ r ∈ rs, Src.Told w r) : (flat rs).length = total rs := by
  induction rs with
  | nil => rfl
  | cons r rs ih =>
    have := ih (fun x hx => h x (List.mem_cons_of_mem _ hx))
    have h1 := (h r List.mem_cons_self).2
    simp only [flat, total, List.flatMap_cons, List.length_append, List.map_cons, List.sum_cons] at this ⊢
    omega

set_option maxHeartbeats 4000000 in
set_option maxRecDepth 100000 in
theorem concat_any (w : World) (g k : Nat) (rs : List Src) (hk : rs.length = k) (hc : ∀ i (h : i < rs.length), w.cell? ⟨g, i, none⟩ = some (.slice rs[i].a rs[i].n rs[i].c)) (hT : ∀ r ∈ rs, Src.Told w r) (hsum : total rs ≤ 1000) (hk9 : k ≤ 1000) :
    Calls Try.prog 40 #[.slice (some ⟨g, 0, none⟩) k k] w fun e w' => ∃ v, e = .returned v ∧ OwnN w' w.heap.size v (flat rs) ∧ Below w.heap.size w w' := by
  have HC := Lib.hid hc
  have HT := Lib.hid hT
  have HK := Lib.hid hk
  clear hc hT hk
  go_enter Try.func40, Try.ntmps40
  go_wp2_with fail
  go_loopw [3, 11] (fun s i wr => ∃ j : Nat, j ≤ k ∧ i = .int .i64 (j : Int) ∧ s = .int .i64 (total (rs.take j) : Int) ∧ Still w wr) (fun s i _ => k - (intOf i).toNat)
  case atStart => exact ⟨0, Nat.zero_le _, rfl, rfl, ⟨rfl, rfl, rfl, rfl⟩⟩
  case round =>
    obtain ⟨j, hj, rfl, rfl, HS⟩ := hrel
    by_cases hlt : j < k
    · have hjl : j < rs.length := by rw [HK.out]; exact hlt
      have c1 := (HS.cell _).trans (HC.out j hjl)
      have e1 := total_take hjl
      have e2 := total_take_le rs (j + 1)
      have e3 := (HT.out _ (List.getElem_mem hjl)).2
      have HSt := Lib.hid HS
      generalize rs[j] = r at c1 e1 e3
      have hge : (0 : Int) ≤ (total (rs.take j) : Int) := by omega
      have hnn : ¬ ((total (rs.take j) : Int) + (r.n : Int) < 0) := by omega
      clear HS
      go_wp2_with fail
      go_roundw
      case rel => exact ⟨j + 1, by omega, by go_num, by rw [e1]; go_num, ⟨HSt.out.os, HSt.out.tape, HSt.out.output, HSt.out.heap⟩⟩
      case measure => simp [intOf]; omega
    · obtain rfl : j = k := by omega
      have HSt := Lib.hid HS
      have et : rs.take j = rs := List.take_of_length_le (by rw [HK.out]; exact Nat.le_refl _)
      rw [et]
      clear HS et
      go_wp2_with fail
      refine (grow_any _ (total rs) (by omega)).mono ?_
      rintro e w1 ⟨v1, rfl, O1, B1⟩
      have HS1 := Lib.hid (show Below w.heap.size w w1 from (HSt.out.below _).trans (B1.mono (by rw [HSt.out.heap]; exact Nat.le_refl _)))
      have hO : OwnN w1 w.heap.size v1 [] := by rw [HSt.out.heap] at O1; exact O1
      have HO := Lib.hid hO
      clear O1 B1 hO HSt
      go_wp2_with fail
      go_loopw [6, 27] (fun v i wr => ∃ j2 : Nat, j2 ≤ j ∧ i = .int .i64 (j2 : Int) ∧ Hid (OwnN wr w.heap.size v (flat (rs.take j2))) ∧ Hid (Below w.heap.size w wr)) (fun v i _ => j - (intOf i).toNat)
      case atStart => exact ⟨0, Nat.zero_le _, rfl, HO, HS1⟩
      case round =>
        obtain ⟨j2, hj2, rfl, HO2, HB2⟩ := hrel
        by_cases hlt2 : j2 < j
        · have hjl : j2 < rs.length := by rw [HK.out]; exact hlt2
          have hgl := World.block_lt_of_cell? w _ (HC.out j2 hjl)
          have c1 := (HB2.out.cell (p := ⟨g, j2, none⟩) hgl).trans (HC.out j2 hjl)
          have hT3 := HT.out _ (List.getElem_mem hjl)
          have ef := flat_take hjl
          have e1 := total_take hjl
          have e2 := total_take_le rs (j2 + 1)
          have hfl := length_flat (w := w) (rs := rs.take j2) (fun r hr => HT.out r (List.mem_of_mem_take hr))
          obtain ⟨vn, wn, hrun, O3, G3, _⟩ := run_append_any wr w.heap.size 3 _ _ HO2.out rs[j2].a rs[j2].n rs[j2].c rs[j2].ns hT3.2 (by
            rcases hT3.1 with h | ⟨b, o, ha, hh⟩
            · exact .inl h
            · by_cases h0 : 0 < rs[j2].ns.length
              · exact .inr ⟨b, o, ha, hh.below (hh.lt h0) HB2.out⟩
              · exact .inl (List.eq_nil_of_length_eq_zero (by omega))) HB2.out.size (by omega)
          rw [← ef] at O3
          have HO3 := Lib.hid O3
          have HB3 := Lib.hid (HB2.out.trans (own_below HO2.out HB2.out.size G3))
          generalize rs[j2] = r at c1 hrun
          clear O3 G3 hT3 ef e1 e2 hfl hgl
          go_wp2_with (at_builtin; refine Lib.wpList_append_run _ rfl _ _ _ _ rfl _ _ rfl rfl _ _ hrun ?_)
          go_roundw
          case rel => exact ⟨j2 + 1, by omega, by go_num, HO3, HB3⟩
          case measure => simp [intOf]; omega
        · obtain rfl : j2 = j := by omega
          have et : rs.take j2 = rs := List.take_of_length_le (by rw [HK.out]; exact Nat.le_refl _)
          rw [et] at HO2
          go_wp2_with fail
          go_ret
          exact ⟨_, rfl, HO2.out, HB2.out⟩
end Go.Proofs.Ytllopocekegljaa.No
