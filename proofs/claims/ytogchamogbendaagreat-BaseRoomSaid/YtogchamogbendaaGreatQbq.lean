/- Several texts in one: BsG BsH BsI BsJ. (Written by bin/prune.py.) -/
import Derived.Test.YtogchamogbendaaGreatQbj
/- A base of which one part has turned; Read, Put, Over. -/
namespace Go.Proofs.YtogchamogbendaaGreat.Bs
set_option maxRecDepth 100000
open Go.RowKit Go.Proofs.YtogchamogbendaaGreat.Oct Go.Proofs.YtogchamogbendaaGreat.Mv Go.Proofs.YtogchamogbendaaGreat.Tl Go.Proofs.YtogchamogbendaaGreat.Pk Go.Proofs.YtogchamogbendaaGreat.Pl Go.Maps Go.ChangeMaps
open Go.Proofs.YtogchamogbendaaGreat.Dsk (dT)
open Go.Proofs.YtogchamogbendaaGreat.Su (Sup nth scells)
set_option linter.unusedVariables false
set_option linter.unusedSimpArgs false

def BS.setQ (x : BS) (q : Q) : BS := ⟨q, x.l1, x.l2, x.kept, x.now, x.fr, x.D⟩
def BS.setF (x : BS) (fr : Nat → Option (List UInt8)) : BS := ⟨x.q, x.l1, x.l2, x.kept, x.now, fr, x.D⟩
def BS.setN (x : BS) (now : Sup) : BS := ⟨x.q, x.l1, x.l2, x.kept, now, x.fr, x.D⟩
def BS.put (x : BS) (b : Nat) (bs : List UInt8) : BS := (x.setQ (x.q.took b)).setF (upd x.fr b (some bs))
def BS.over (x : BS) (b : Nat) (bs : List UInt8) : BS := x.setF (upd x.fr b (some bs))
section
variable {Pr : Nat → Prop} {w w' : World} {A : Adr} {x : BS}
theorem map_ne {g fm : Nat} {T : TypeId} {vs : List Value} {es : Array MapEntry} {cl : Nat} (h : RowV w g T vs) (k : w.heap[fm]? = some (.map es cl)) : g ≠ fm := by
  rintro rfl
  rw [show w.heap[g]? = _ from h] at k
  cases k
theorem FMap.map {fm : Nat} {fr : Nat → Option (List UInt8)} (h : FMap w fm fr) : ∃ es cl, w.heap[fm]? = some (.map es cl) := by
  obtain ⟨nn, D, h, _⟩ := h
  exact own_map h
/-- Its pick and its tally have turned. -/
theorem BAt.turnL (h : BAt Pr w A x) {q : Q} (hp : PAt w' A.p A.ta A.cb A.mb A.c q) (k : ButL w w' [A.cb, A.mb, A.p]) : BAt Pr w' A (x.setQ q) := by
  obtain ⟨s1, d1, s2, d2, h1, ⟨sp1, h2⟩, ⟨sp2, h3⟩⟩ := h.row
  obtain ⟨es, cl, hm⟩ := h.fm.map
  obtain ⟨spc, hcb⟩ := h.pat.tally.nums
  have off : ∀ {g : Nat} {T : TypeId} {vs : List Value}, RowV w g T vs → T ≠ 235 → T ≠ 34 → w'.heap[g]? = w.heap[g]? := by
    intro g T vs hr t1 t2
    refine k.block g hr.lt fun hg => ?_
    simp only [List.mem_cons, List.not_mem_nil, or_false] at hg
    rcases hg with rfl | rfl | rfl
    · exact row_ne hr hcb t2 rfl
    · obtain ⟨nn, D, ho, _⟩ := h.pat.tally.mp
      exact own_row ho hr rfl
    · exact row_ne hr h.pat.row t1 rfl
  have offB : ∀ {g : Nat} {cs : Array Value} {fr : Nat × Nat}, w.heap[g]? = some (.cells cs 5 fr) → w'.heap[g]? = w.heap[g]? := by
    intro g cs fr e
    refine k.block g (lt_of_heap e) fun hg => ?_
    simp only [List.mem_cons, List.not_mem_nil, or_false] at hg
    rcases hg with rfl | rfl | rfl
    · rw [show w.heap[A.cb]? = _ from hcb] at e; cases e
    · obtain ⟨nn, D, ⟨es, cl, ho, _⟩, _⟩ := h.pat.tally.mp
      rw [ho] at e; cases e
    · rw [show w.heap[A.p]? = _ from h.pat.row] at e; cases e
  have hfm : w'.heap[A.fm]? = w.heap[A.fm]? := by
    refine k.block A.fm h.fm.lt fun hg => ?_
    simp only [List.mem_cons, List.not_mem_nil, or_false] at hg
    rcases hg with hg | hg | hg
    · exact map_ne hcb hm hg.symm
    · exact h.ne hg.symm
    · exact map_ne h.pat.row hm hg.symm
  refine ⟨⟨s1, d1, s2, d2, h1.block (off h1 (by decide) (by decide)), ⟨sp1, h2.block (off h2 (by decide) (by decide))⟩, ⟨sp2, h3.block (off h3 (by decide) (by decide))⟩⟩, hp, h.fm.keep hfm fun g bs hb => hb.block fun cs fr e => offB e, h.dk.butL k ?_, h.ne, h.np, fun j hj => Nat.lt_of_lt_of_le (h.lt j hj) k.size⟩
  intro g hg cs t fr e
  simp only [List.mem_cons, List.not_mem_nil, or_false] at hg
  rcases hg with rfl | rfl | rfl
  · rw [show w.heap[A.cb]? = _ from hcb] at e; cases e; rfl
  · obtain ⟨nn, D, ⟨es, cl, ho, _⟩, _⟩ := h.pat.tally.mp
    rw [ho] at e; cases e
  · rw [show w.heap[A.p]? = _ from h.pat.row] at e; cases e; rfl
theorem BAt.turn3 (h : BAt Pr w A x) {q : Q} (hp : PAt w' A.p A.ta A.cb A.mb A.c q) (k : But3 w w' A.cb A.mb A.p) : BAt Pr w' A (x.setQ q) := h.turnL hp (ButL.of_but3 k)
/-- Its tally has turned. -/
theorem BAt.turn2 (h : BAt Pr w A x) {s : Tl.St} (hp : Tl.At w' A.ta A.cb A.mb A.c s) (k : But w w' A.cb A.mb) (hn : s.n = x.q.s.n) : BAt Pr w' A (x.setQ ⟨s, x.q.first, x.q.next, x.q.asked⟩) :=
  h.turn3 (h.pat.turned hp k hn) (But3.of_but A.p k)
/-- What is fresh has turned. -/
theorem BAt.turnF (h : BAt Pr w A x) {fr : Nat → Option (List UInt8)} (hf : FMap w' A.fm fr) (k : ButL w w' [A.fm]) : BAt Pr w' A (x.setF fr) := by
  obtain ⟨s1, d1, s2, d2, h1, ⟨sp1, h2⟩, ⟨sp2, h3⟩⟩ := h.row
  obtain ⟨es, cl, hm⟩ := h.fm.map
  obtain ⟨spc, hcb⟩ := h.pat.tally.nums
  have off : ∀ {g : Nat} {T : TypeId} {vs : List Value}, RowV w g T vs → w'.heap[g]? = w.heap[g]? := fun {g T vs} hr => k.block g hr.lt fun hg => map_ne hr hm (by simpa using hg)
  have hmb : w'.heap[A.mb]? = w.heap[A.mb]? := k.block A.mb h.pat.tally.mp.lt fun hg => h.ne (by simpa using hg)
  refine ⟨⟨s1, d1, s2, d2, h1.block (off h1), ⟨sp1, h2.block (off h2)⟩, ⟨sp2, h3.block (off h3)⟩⟩, h.pat.blocks (off h.pat.row) (off h.pat.tally.row) (off hcb) hmb, hf, h.dk.butL k ?_, h.ne, h.np, fun j hj => Nat.lt_of_lt_of_le (h.lt j hj) k.size⟩
  intro g hg cs t fr e
  have : g = A.fm := by simpa using hg
  subst this
  rw [hm] at e; cases e
/-- A cell of its super has turned. -/
theorem BAt.turnN (h : BAt Pr w A x) (j n : Nat) (hj : j < 18) (hl : x.now.length = 18) : BAt Pr (w.setCell ⟨A.b, 23 + j, none⟩ (Su.scell j n)) A (x.setN (x.now.set j n)) := by
  obtain ⟨s1, d1, s2, d2, h1, ⟨sp1, h2⟩, ⟨sp2, h3⟩⟩ := h.row
  obtain ⟨es, cl, hm⟩ := h.fm.map
  obtain ⟨spc, hcb⟩ := h.pat.tally.nums
  have off : ∀ {g : Nat} {T : TypeId} {vs : List Value}, RowV w g T vs → T ≠ 72 → (w.setCell ⟨A.b, 23 + j, none⟩ (Su.scell j n)).heap[g]? = w.heap[g]? := fun {g T vs} hr ht => heap_setCell_other _ _ _ _ (row_ne hr h1 ht)
  have hmap : ∀ {g : Nat} {es : Array MapEntry} {cl : Nat}, w.heap[g]? = some (.map es cl) → (w.setCell ⟨A.b, 23 + j, none⟩ (Su.scell j n)).heap[g]? = w.heap[g]? := fun {g es cl} hg => heap_setCell_other _ _ _ _ (fun e => map_ne h1 hg e.symm)
  refine ⟨⟨s1, d1, s2, d2, ?_, ⟨sp1, h2.block (off h2 (by decide))⟩, ⟨sp2, h3.block (off h3 (by decide))⟩⟩, h.pat.blocks (off h.pat.row (by decide)) (off h.pat.tally.row (by decide)) (off hcb (by decide)) ?_, h.fm.keep (hmap hm) fun g bs hb => hb.block fun cs fr e => heap_setCell_other _ _ _ _ (fun hg => by rw [hg, show w.heap[A.b]? = _ from h1] at e; cases e), h.dk.keep fun i cs t fr e ht => ?_, h.ne, h.np, fun k hk => by simpa using h.lt k hk⟩
  · have := h1.set (23 + j) (Su.scell j n)
    have e : (bcells A x.l1.length x.l2.length s1 d1 s2 d2 x.kept x.now).set (23 + j) (Su.scell j n) = bcells A x.l1.length x.l2.length s1 d1 s2 d2 x.kept (x.now.set j n) := by
      unfold bcells
      rw [List.set_append_right _ _ (by simp; omega), List.set_append_right _ _ (by rw [Su.length_scells]; simp; omega), List.set_append_left _ _ (by rw [Su.length_scells, Su.length_scells]; simp; omega)]
      rw [Su.length_scells]
      congr 3
      rw [show 23 + j - [Value.pointer (some ⟨A.d, 0, none⟩), .pointer (some ⟨A.ta, 0, none⟩), .pointer (some ⟨A.p, 0, none⟩), .slice (some ⟨s1, 0, none⟩) x.l1.length d1, .slice (some ⟨s2, 0, none⟩) x.l2.length d2].length - 18 = j by simp; omega]
      refine List.ext_getElem? fun i => ?_
      rw [List.getElem?_set]
      by_cases hi : i < 18
      · by_cases hij : j = i
        · subst hij
          rw [if_pos rfl, if_pos (by rw [Su.length_scells]; exact hj), Su.scells_at _ _ hj]
          congr 2
          simp [nth, hl, hj]
        · rw [if_neg hij, Su.scells_at _ _ hi, Su.scells_at _ _ hi]
          congr 2
          unfold nth
          rw [List.getD_eq_getElem?_getD, List.getD_eq_getElem?_getD, List.getElem?_set_ne hij]
      · rw [List.getElem?_eq_none (by rw [Su.length_scells]; omega), List.getElem?_eq_none (by rw [Su.length_scells]; omega)]
        split
        · split
          · omega
          · rfl
        · rfl
    rw [e] at this
    exact this
  · obtain ⟨nn, D, ⟨es, cl, ho, _⟩, _⟩ := h.pat.tally.mp
    exact hmap ho
  · refine heap_setCell_other _ _ _ _ fun hi => ?_
    subst hi
    rw [show w.heap[A.b]? = _ from h1] at e
    cases e
    cases ht
/-! ### Fresh, Read -/
theorem fresh_at (h : BAt Pr w A x) (i : Nat) (hi : i ≤ 4096) :
    Calls Tryz.prog 41 #[.pointer (some ⟨A.b, 0, none⟩), .int .i64 (i : Int)] w fun e w' => e = .returned (.bool (x.fr i).isSome) ∧ w = w' := by
  have c43 := h.c43
  have c41 := h.c41
  obtain ⟨v, hrun, _, _⟩ := fm_look h.fm i hi
  clear h
  go_enter Tryz.func41, Tryz.ntmps41
  go_wp2_with fail
  refine (bmade_self A.b _ c43).mono ?_
  rintro e w' ⟨rfl, rfl⟩
  go_wp2_with fail
  go_ret
  exact ⟨rfl, rfl⟩
/-- What a block has: what was put, or what the disk says. -/
def BS.has (x : BS) (i : Nat) : List UInt8 := (x.fr i).getD (x.D.says i)
def ReadB (w : World) (bs : List UInt8) (e : Ending) (w' : World) : Prop := ∃ g c, e = .returned (.tuple #[.slice (some ⟨g, 0, none⟩) 128 c, .int .i64 0]) ∧ Byt w' g bs ∧ bs.length = 128 ∧ 128 ≤ c ∧ c ≤ maxLen ∧ w.heap.size ≤ g ∧ Below w.heap.size w w'
theorem read_at (h : BAt Pr w A x) (hn : nth x.now 1 ≤ 4096) (hc : x.D.gone = false) (i : Nat) (hi : i < nth x.now 1) (hd : x.D.n = nth x.now 1) :
    Calls Tryz.prog 36 #[.pointer (some ⟨A.b, 0, none⟩), .int .i64 (i : Int)] w (ReadB w (x.has i)) := by
  have c43 := h.c43
  have c41 := h.c41
  have c0 := h.c0
  have H := Lib.hid h
  have HD := Lib.hid hd
  have HC := Lib.hid hc
  obtain ⟨v, _, hrun, hv⟩ := fm_look h.fm i (by omega)
  have HV := Lib.hid hv
  have HI := Lib.hid hi
  clear h hv hd hc
  go_enter Tryz.func36, Tryz.ntmps36
  go_wp2_with fail
  refine (bmade_self A.b _ c43).mono ?_
  rintro e w' ⟨rfl, rfl⟩
  go_wp2_with fail
  refine (has_yes H.out hn i (by omega) (by have := HI.out; omega)).mono ?_
  rintro e w' ⟨rfl, rfl⟩
  go_wp2_with fail
  refine (fresh_at H.out i (by have := HI.out; omega)).mono ?_
  rintro e w' ⟨rfl, rfl⟩
  cases hf : x.fr i with
  | none =>
    have HF := Lib.hid hf
    rw [show (none : Option (List UInt8)).isSome = false from rfl]
    clear hf
    go_wp2_with fail
    refine (Dsk.read_yes H.out.dk.is HC.out i (by rw [HD.out]; exact HI.out)).mono ?_
    rintro e w1 ⟨g, rfl, hg, hr, hb⟩
    have HR := Lib.hid hr
    have HB := Lib.hid hb
    have HL := Lib.hid (H.out.dk.is.says_len i (by rw [HD.out]; exact HI.out))
    clear hr hb hrun c41 c43 c0
    go_wp2_with fail
    go_ret2
    refine ⟨g, 128, rfl, ?_, ?_, Nat.le_refl _, by unfold maxLen; omega, hg, HB.out⟩
    · rw [show x.has i = x.D.says i by unfold BS.has; rw [HF.out]; rfl]
      exact ⟨HR.out.has, _, _, HR.out⟩
    · rw [show x.has i = x.D.says i by unfold BS.has; rw [HF.out]; rfl]
      exact HL.out
  | some bs =>
    obtain ⟨hl, g, c, rfl, hb, h1, h2⟩ := HV.out bs hf
    have HF := Lib.hid hf
    have HBY := Lib.hid hb
    rw [show (some bs).isSome = true from rfl]
    clear hf hb
    go_wp2_with fail
    refine (clone_any (c := c) hl HBY.out.told).mono ?_
    rintro e w1 ⟨g', c', rfl, hb', k1, k2, k3, k4⟩
    have HB' := Lib.hid hb'
    have HK := Lib.hid k4
    clear hb' k4 hrun c41 c43 c0
    go_wp2_with fail
    go_ret2
    have e1 : x.has i = bs := by unfold BS.has; rw [HF.out]; rfl
    rw [e1]
    exact ⟨g', c', rfl, HB'.out, hl, k1, k2, k3, HK.out⟩
/-! ### Put -/
def PutB (Pr : Nat → Prop) (A : Adr) (x : BS) (bs : List UInt8) (w : World) (e : Ending) (w' : World) : Prop := ∃ b, e = .returned (.tuple #[.int .i64 ((b : Nat) : Int), .int .i64 0]) ∧ x.q.Found b ∧ BAt Pr w' A (x.put b bs) ∧ ButL w w' A.list
theorem put_full (h : BAt Pr w A x) (hn : nth x.now 1 ≤ 4096) (he : nth x.now 1 = x.n) (hr : x.q.room = need x.n) (Ad : Option Addr) (c : Nat) :
    Calls Tryz.prog 25 #[.pointer (some ⟨A.b, 0, none⟩), .slice Ad 128 c] w fun e w' => e = .returned (.tuple #[.int .i64 0, .int .i64 90]) ∧ w = w' := by
  have H := Lib.hid h
  have HE := Lib.hid he
  have HR := Lib.hid hr
  clear h he hr
  go_enter Tryz.func25, Tryz.ntmps25
  go_wp2_with fail
  refine (stop_at H.out).mono ?_
  rintro e w' ⟨rfl, rfl⟩
  go_wp2_with fail
  refine (room_at H.out hn HE.out (by rw [HR.out]; exact Nat.le_refl _)).mono ?_
  rintro e w' ⟨rfl, rfl⟩
  rw [show x.q.room - need x.n = 0 by rw [HR.out]; omega]
  go_wp2_with fail
  go_ret2
  exact ⟨rfl, rfl⟩
set_option maxHeartbeats 1000000 in
theorem put_at (h : BAt Pr w A x) (hn : nth x.now 1 ≤ 4096) (he : nth x.now 1 = x.n) (hr : need x.n < x.q.room) {Ad : Option Addr} {c : Nat} {bs : List UInt8} (hl : bs.length = 128) (hT : ∀ w', ButL w w' [A.cb, A.mb, A.p] → Oct.Told w' Ad bs) :
    Calls Tryz.prog 25 #[.pointer (some ⟨A.b, 0, none⟩), .slice Ad 128 c] w (PutB Pr A x bs w) := by
  have H := Lib.hid h
  have HE := Lib.hid he
  have HR := Lib.hid hr
  have HT := Lib.hid hT
  have c2 := h.c2
  have HN4 := Lib.hid (show x.q.s.n ≤ 4096 from h.pat.ok.s.hi)
  obtain ⟨k, hk⟩ : ∃ k : Nat, x.q.room - need x.n = k + 1 := ⟨x.q.room - need x.n - 1, by omega⟩
  have HK := Lib.hid hk
  clear h he hr hT hk
  go_enter Tryz.func25, Tryz.ntmps25
  go_wp2_with fail
  refine (stop_at H.out).mono ?_
  rintro e w' ⟨rfl, rfl⟩
  go_wp2_with fail
  refine (room_at H.out hn HE.out (Nat.le_of_lt HR.out)).mono ?_
  rintro e w' ⟨rfl, rfl⟩
  rw [HK.out]
  have hk1 : ¬ (((k + 1 : Nat) : Int) = 0) := by omega
  have hk2 : (((k + 1 : Nat) : Int) == 0) = false := by rw [beq_eq_false_iff_ne]; exact hk1
  go_wp2_with fail
  refine (take_some H.out.pat (by have := HR.out; omega)).mono ?_
  rintro e w1 ⟨bk, rfl, hb, hp, hk⟩
  have H1 := Lib.hid (H.out.turn3 hp hk)
  have HB := Lib.hid hb
  have HK1 := Lib.hid (ButL.of_but3 hk)
  have hb4 : bk ≤ 4096 := by have := hb.1; have := HN4.out; omega
  clear hp hk hb c2 hk1 hk2 H
  go_upto_region 9 with (fail)
  refine Inv2.wp_region_inv (fun b a wy => ∃ (z : Nat → Value) (z36 : Value), a = ⟨(List.toArray (Value.pointer (some ⟨A.b, 0, none⟩) :: Value.slice Ad 128 c :: undef :: undef :: Value.int IntKind.i64 0 :: Value.int IntKind.i64 0 :: Value.int IntKind.i64 0 :: Value.int IntKind.i64 ↑bk :: Value.int IntKind.i64 0 :: Value.pointer (some ⟨A.b, 0, none⟩) :: Value.int IntKind.i64 0 :: Value.int IntKind.i64 0 :: Value.bool false :: undef :: Value.bool false :: Value.slice Ad 128 c :: Value.int IntKind.i64 128 :: Value.bool false :: Value.bool false :: Value.pointer (some ⟨A.b, 0, none⟩) :: Value.int IntKind.i64 (↑k + 1) :: Value.bool false :: Value.tuple #[Value.int IntKind.i64 ↑bk, Value.int IntKind.i64 0] :: Value.pointer (some ⟨A.b, 0, none⟩) :: Value.pointer (some ⟨A.b, 0, none⟩) :: Value.pointer (some ⟨A.b, 2, none⟩) :: Value.pointer (some ⟨A.p, 0, none⟩) :: Value.tuple #[Value.int IntKind.i64 ↑bk, Value.int IntKind.i64 0] :: Value.int IntKind.i64 ↑bk :: Value.int IntKind.i64 0 :: (z 30) :: (z 31) :: (z 32) :: (z 33) :: (z 34) :: (z 35) :: z36 :: undef :: [])), []⟩ ∧ Hid ((b 0 = true → (z 30) = Value.pointer (some ⟨A.b, 0, none⟩)) ∧ (b 1 = true → (z 31) = Value.pointer (some ⟨A.b, 0, none⟩)) ∧ (b 2 = true → (z 32) = Value.pointer (some ⟨A.b, 41, none⟩)) ∧ (b 3 = true → (z 33) = Value.map (some A.fm)) ∧ (b 4 = true → (z 34) = Value.int IntKind.i64 ↑bk) ∧ (b 5 = true → (z 35) = Value.slice Ad 128 c)) ∧ Hid (Below 0 w1 wy) ∧ Hid ((b 7 = false → BAt Pr wy A (x.setQ (x.q.took bk)) ∧ ButL w1 wy []) ∧ (b 7 = true → b 6 = true ∧ BAt Pr wy A (x.put bk bs) ∧ ButL w1 wy [A.fm]) ∧ (b 6 = true → b 7 = false → ∃ g c', z36 = .slice (some ⟨g, 0, none⟩) 128 c' ∧ Byt wy g bs ∧ 128 ≤ c' ∧ c' ≤ maxLen))) (by kernel_rfl) (by kernel_rfl) ?startM ?stepsM ?doneM
  case startM =>
    intro b hb
    refine ⟨fun s => undef, undef, rfl, Lib.hid ⟨?_, ?_, ?_, ?_, ?_, ?_⟩, Lib.hid ((show Still w1 w1.drew from ⟨rfl, rfl, rfl, rfl⟩).below _), Lib.hid (⟨fun _ => ⟨H1.out.still ⟨rfl, rfl, rfl, rfl⟩, ButL.still _ ⟨rfl, rfl, rfl, rfl⟩⟩, fun e => absurd (e.symm.trans (hb 7 (by decide))) (by decide), fun e => absurd (e.symm.trans (hb 6 (by decide))) (by decide)⟩)⟩
    all_goals (intro e; first | rfl | (rw [hb _ (by decide)] at e; cases e))
  case stepsM =>
    refine ⟨?_, ?_, ?_, ?_, ?_, ?_, ?_, ?_, trivial⟩
    · rintro b a wy hb hd ⟨z, z36, rfl, HV, HW, HX⟩ K hK
      clear hd
      go_simp
      have V := HV.out
      exact hK _ _ ⟨fun s => if s = 30 then Value.pointer (some ⟨A.b, 0, none⟩) else z s, _, rfl, Lib.hid ⟨fun _ => rfl, V.2.1, V.2.2.1, V.2.2.2.1, V.2.2.2.2.1, V.2.2.2.2.2⟩, HW, HX⟩
    · rintro b a wy hb hd ⟨z, z36, rfl, HV, HW, HX⟩ K hK
      simp [Region.binds] at hd
      have e0 : (z 30) = Value.pointer (some ⟨A.b, 0, none⟩) := (HV.out.1) (by simp [hd])
      clear hd
      go_simp
      have V := HV.out
      exact hK _ _ ⟨fun s => if s = 31 then Value.pointer (some ⟨A.b, 0, none⟩) else if s = 30 then Value.pointer (some ⟨A.b, 0, none⟩) else z s, _, rfl, Lib.hid ⟨fun _ => rfl, fun _ => rfl, V.2.2.1, V.2.2.2.1, V.2.2.2.2.1, V.2.2.2.2.2⟩, HW, HX⟩
    · rintro b a wy hb hd ⟨z, z36, rfl, HV, HW, HX⟩ K hK
      simp [Region.binds] at hd
      have e1 : (z 31) = Value.pointer (some ⟨A.b, 0, none⟩) := (HV.out.2.1) (by simp [hd])
      clear hd
      go_simp
      have V := HV.out
      exact hK _ _ ⟨fun s => if s = 32 then Value.pointer (some ⟨A.b, 41, none⟩) else if s = 31 then Value.pointer (some ⟨A.b, 0, none⟩) else z s, _, rfl, Lib.hid ⟨V.1, fun _ => rfl, fun _ => rfl, V.2.2.2.1, V.2.2.2.2.1, V.2.2.2.2.2⟩, HW, HX⟩
    · rintro b a wy hb hd ⟨z, z36, rfl, HV, HW, HX⟩ K hK
      simp [Region.binds] at hd
      have e2 : (z 32) = Value.pointer (some ⟨A.b, 41, none⟩) := (HV.out.2.2.1) (by simp [hd])
      clear hd
      have c41 : wy.cell? ⟨A.b, 41, none⟩ = some (.map (some A.fm)) := by
        rcases Bool.eq_false_or_eq_true (b 7) with b7 | b7
        · exact (HX.out.2.1 b7).2.1.c41
        · exact (HX.out.1 b7).1.c41
      go_simp
      have V := HV.out
      exact hK _ _ ⟨fun s => if s = 33 then Value.map (some A.fm) else if s = 32 then Value.pointer (some ⟨A.b, 41, none⟩) else z s, _, rfl, Lib.hid ⟨V.1, V.2.1, fun _ => rfl, fun _ => rfl, V.2.2.2.2.1, V.2.2.2.2.2⟩, HW, HX⟩
    · rintro b a wy hb hd ⟨z, z36, rfl, HV, HW, HX⟩ K hK
      clear hd
      go_simp
      have V := HV.out
      exact hK _ _ ⟨fun s => if s = 34 then Value.int IntKind.i64 ↑bk else z s, _, rfl, Lib.hid ⟨V.1, V.2.1, V.2.2.1, V.2.2.2.1, fun _ => rfl, V.2.2.2.2.2⟩, HW, HX⟩
    · rintro b a wy hb hd ⟨z, z36, rfl, HV, HW, HX⟩ K hK
      clear hd
      go_simp
      have V := HV.out
      exact hK _ _ ⟨fun s => if s = 35 then Value.slice Ad 128 c else z s, _, rfl, Lib.hid ⟨V.1, V.2.1, V.2.2.1, V.2.2.2.1, V.2.2.2.2.1, fun _ => rfl⟩, HW, HX⟩
    · rintro b a wy hb hd ⟨z, z36, rfl, HV, HW, HX⟩ K hK
      simp [Region.binds] at hd
      have e5 : (z 35) = Value.slice Ad 128 c := (HV.out.2.2.2.2.2) (by simp [hd])
      clear hd
      have b7 : b 7 = false := by
        rcases Bool.eq_false_or_eq_true (b 7) with b7 | b7
        · exact absurd (hb.symm.trans (HX.out.2.1 b7).1) (by decide)
        · exact b7
      go_simp
      go_at_call 97
      refine (clone_any (c := c) hl (HT.out _ (HK1.out.trans ((HX.out.1 b7).2.mono (by simp))))).mono ?_
      rintro e wz ⟨g, c', rfl, hby, k1, k2, k3, kz⟩
      try go_simp
      have V := HV.out
      exact hK _ _ ⟨fun s => if s = 35 then Value.slice Ad 128 c else z s, _, rfl, Lib.hid ⟨V.1, V.2.1, V.2.2.1, V.2.2.2.1, V.2.2.2.2.1, fun _ => rfl⟩, Lib.hid (HW.out.trans (kz.mono (Nat.zero_le _))), Lib.hid ⟨fun _ => ⟨(HX.out.1 b7).1.below kz, (HX.out.1 b7).2.trans (ButL.of_below _ kz (Nat.le_refl _))⟩, fun e => absurd (e.symm.trans b7) (by decide), fun _ _ => ⟨g, c', rfl, hby, k1, k2⟩⟩⟩
    · rintro b a wy hb hd ⟨z, z36, rfl, HV, HW, HX⟩ K hK
      simp [Region.binds] at hd
      have e3 : (z 33) = Value.map (some A.fm) := (HV.out.2.2.2.1) (by simp [hd])
      have e4 : (z 34) = Value.int IntKind.i64 ↑bk := (HV.out.2.2.2.2.1) (by simp [hd])
      have dd6 : b 6 = true := by simp [hd]
      clear hd
      obtain ⟨HA7, HK7⟩ := HX.out.1 hb
      obtain ⟨g, c', zz, hby, k1, k2⟩ := HX.out.2.2 dd6 hb
      subst zz
      obtain ⟨w4, hrun, hf4, hk4⟩ := fm_put HA7.fm bk hb4 bs hl g c' hby k1 k2
      have H4 := Lib.hid (show BAt Pr w4 A (x.put bk bs) from HA7.turnF hf4 hk4)
      have HK4 := Lib.hid (show ButL w1 w4 [A.fm] from (HK7.mono (by simp)).trans hk4)
      have HBZ := Lib.hid (show Below 0 wy w4 from hk4.below (fun _ _ => Nat.zero_le _) (Nat.zero_le _))
      clear hf4 hk4 HA7 HK7 hby
      go_simp
      have V := HV.out
      exact hK _ _ ⟨fun s => if s = 33 then Value.map (some A.fm) else if s = 34 then Value.int IntKind.i64 ↑bk else z s, _, rfl, Lib.hid ⟨V.1, V.2.1, V.2.2.1, fun _ => rfl, fun _ => rfl, V.2.2.2.2.2⟩, Lib.hid (HW.out.trans HBZ.out), Lib.hid ⟨fun e => (by cases e), fun _ => ⟨dd6, H4.out, HK4.out⟩, fun _ e => (by cases e)⟩⟩
  case doneM =>
    rintro b a w9 hb ⟨z, z36, rfl, HV, HW, HX⟩
    have e0 := (HV.out.1) (hb 0)
    have e1 := (HV.out.2.1) (hb 1)
    have e2 := (HV.out.2.2.1) (hb 2)
    have e3 := (HV.out.2.2.2.1) (hb 3)
    have e4 := (HV.out.2.2.2.2.1) (hb 4)
    have e5 := (HV.out.2.2.2.2.2) (hb 5)
    simp only [e0, e1, e2, e3, e4, e5]
    clear HV e0 e1 e2 e3 e4 e5
    obtain ⟨h6, HA9, HK9⟩ := HX.out.2.1 (hb 7)
    have H9 := Lib.hid HA9
    have HL9 := Lib.hid HK9
    clear HX HW hb h6 HA9 HK9
    go_wp2_with fail
    go_ret2
    exact ⟨bk, rfl, HB.out, H9.out, (HK1.out.mono (M := A.list) (by simp [Adr.list])).join HL9.out (by simp [Adr.list])⟩
/-! ### Over -/
theorem over_kept (h : BAt Pr w A x) (hn : nth x.now 1 ≤ 4096) (i : Nat) (hi : i < nth x.now 1) (hf : x.fr i = none) (Ad : Option Addr) (c : Nat) :
    Calls Tryz.prog 37 #[.pointer (some ⟨A.b, 0, none⟩), .int .i64 (i : Int), .slice Ad 128 c] w fun e w' => e = .returned (.int .i64 110) ∧ w = w' := by
  have H := Lib.hid h
  have HF := Lib.hid hf
  have HI := Lib.hid hi
  clear h hf hi
  go_enter Tryz.func37, Tryz.ntmps37
  go_wp2_with fail
  refine (stop_at H.out).mono ?_
  rintro e w' ⟨rfl, rfl⟩
  go_wp2_with fail
  refine (has_yes H.out hn i (by omega) (by have := HI.out; omega)).mono ?_
  rintro e w' ⟨rfl, rfl⟩
  go_wp2_with fail
  refine (fresh_at H.out i (by have := HI.out; omega)).mono ?_
  rintro e w' ⟨rfl, rfl⟩
  rw [HF.out, show (none : Option (List UInt8)).isSome = false from rfl]
  go_wp2_with fail
  go_ret
  exact ⟨rfl, rfl⟩
end
end Go.Proofs.YtogchamogbendaaGreat.Bs
/- Up, Down, SetRoot, SetMark, Back. -/
namespace Go.Proofs.YtogchamogbendaaGreat.Bs
set_option maxRecDepth 100000
open Go.RowKit Go.Proofs.YtogchamogbendaaGreat.Oct Go.Proofs.YtogchamogbendaaGreat.Mv Go.Proofs.YtogchamogbendaaGreat.Tl Go.Proofs.YtogchamogbendaaGreat.Pk Go.Proofs.YtogchamogbendaaGreat.Pl Go.Maps Go.ChangeMaps
open Go.Proofs.YtogchamogbendaaGreat.Dsk (dT)
open Go.Proofs.YtogchamogbendaaGreat.Su (Sup nth scells)
set_option linter.unusedVariables false
set_option linter.unusedSimpArgs false

theorem index_any {w : World} {Ad : Option Addr} {c : Nat} {l : List Nat} (h : ToldV w Ad (ints l)) (hl : l.length ≤ 4096) (z : Nat) :
    Calls Tryz.prog 196 #[.slice Ad l.length c, .int .i64 (z : Int)] w fun e w' => ∃ r : Int, e = .returned (.int .i64 r) ∧ (0 ≤ r ↔ z ∈ l) ∧ w = w' := by
  have H := Lib.hid h
  have hl2 : (l.length : Int) ≤ 4096 := by omega
  clear h
  go_enter Tryz.func196, Tryz.ntmps196
  go_wp2_with fail
  go_loopw [8] (fun i wr => ∃ k : Nat, k ≤ l.length ∧ i = .int .i64 (k : Int) ∧ Hid (∀ j, j < k → l.getD j 0 ≠ z) ∧ wr = w) (fun i _ => l.length - (Go.RowKit.intOf i).toNat)
  case atStart => exact ⟨0, Nat.zero_le _, rfl, Lib.hid (fun j hj => by omega), rfl⟩
  case round =>
    obtain ⟨k, hk, rfl, HE, rfl⟩ := hrel
    by_cases hlt : k < l.length
    · have hki : (k : Int) < (l.length : Int) := by omega
      have hge : (0 : Int) ≤ (k : Int) := by omega
      obtain ⟨b1, o1, rfl, hb1, hc1⟩ := told_nat H.out hlt
      have HZ := Lib.hid (mem_getD hlt)
      have HN := Lib.hid (show l.getD k 0 ≠ z → ∀ j, j < k + 1 → l.getD j 0 ≠ z from fun e j hj => (Nat.lt_or_ge j k).elim (HE.out j) (fun h => by rw [show j = k by omega]; exact e))
      generalize l.getD k 0 = y at *
      by_cases hy : z = y
      · have hyi : (z : Int) = (y : Int) := by omega
        have hyb : ((z : Int) == (y : Int)) = true := by rw [hyi]; simp
        go_wp2_with fail
        go_ret
        exact ⟨_, rfl, ⟨fun _ => by rw [hy]; exact HZ.out, fun _ => by omega⟩, rfl⟩
      · have hyi : ¬ ((z : Int) = (y : Int)) := by omega
        have hyb : ((z : Int) == (y : Int)) = false := by rw [beq_eq_false_iff_ne]; exact hyi
        go_wp2_with fail
        go_roundw
        case rel => exact ⟨k + 1, by omega, by go_num, Lib.hid (HN.out (fun e => hy e.symm)), trivial⟩
        case measure => simp [Go.RowKit.intOf]; omega
    · have hki : ¬ (k : Int) < (l.length : Int) := by omega
      obtain rfl : k = l.length := by omega
      go_wp2_with fail
      go_ret
      refine ⟨-1, rfl, ⟨fun h => by omega, fun hm => ?_⟩, rfl⟩
      obtain ⟨i, hi, he⟩ := List.getElem_of_mem hm
      exact (HE.out i hi (by rw [List.getD_eq_getElem?_getD, List.getElem?_eq_getElem hi]; exact he)).elim
theorem contains_any {w : World} {Ad : Option Addr} {c : Nat} {l : List Nat} (h : ToldV w Ad (ints l)) (hl : l.length ≤ 4096) (z : Nat) (hz : z ∉ l) :
    Calls Tryz.prog 155 #[.slice Ad l.length c, .int .i64 (z : Int)] w fun e w' => e = .returned (.bool false) ∧ w = w' := by
  have H := Lib.hid h
  have HZ := Lib.hid hz
  clear h hz
  go_enter Tryz.func155, Tryz.ntmps155
  go_wp2_with fail
  refine (index_any H.out hl z).mono ?_
  rintro e w' ⟨r, rfl, hr, rfl⟩
  have hr2 : ¬ 0 ≤ r := fun h => HZ.out (hr.1 h)
  have hr3 : decide (0 ≤ r) = false := decide_eq_false hr2
  clear hr
  go_wp2_with fail
  go_ret
  exact ⟨rfl, rfl⟩
section
variable {Pr : Nat → Prop} {w w' : World} {A : Adr} {x : BS}
def BS.cnt (x : BS) (i : Nat) (c : UInt16) : BS := x.setQ ⟨x.q.s.put i c, x.q.first, x.q.next, x.q.asked⟩
def BS.up (x : BS) (i : Nat) : BS := x.cnt i (x.q.s.cnt i + 1)
def BS.down (x : BS) (i : Nat) : BS := if x.q.s.cnt i = 1 then (x.cnt i 0).setF (upd x.fr i none) else x.cnt i (x.q.s.cnt i - 1)
/-- A block that may be counted. -/
structure BS.May (x : BS) (i : Nat) : Prop where
  n1 : nth x.now 1 = x.n
  lo : 2 ≤ i
  hi : i < x.n
  one : i ∉ x.l1
  two : i ∉ x.l2
  cnt : x.q.s.cnt i ≠ 0
  l1 : x.l1.length ≤ 4096
  l2 : x.l2.length ≤ 4096
theorem BAt.told1 (h : BAt Pr w A x) : ∃ s1 d1 s2 d2, w.cell? ⟨A.b, 3, none⟩ = some (.slice (some ⟨s1, 0, none⟩) x.l1.length d1) ∧ w.cell? ⟨A.b, 4, none⟩ = some (.slice (some ⟨s2, 0, none⟩) x.l2.length d2) ∧ ToldV w (some ⟨s1, 0, none⟩) (ints x.l1) ∧ ToldV w (some ⟨s2, 0, none⟩) (ints x.l2) := by
  obtain ⟨s1, d1, s2, d2, h1, h2, h3⟩ := h.row
  exact ⟨s1, d1, s2, d2, h1.cellAt (bc3 ..), h1.cellAt (bc4 ..), has_told h2, has_told h3⟩
theorem refer_up (h : BAt Pr w A x) {i : Nat} (hm : x.May i) (hx : x.q.s.cnt i ≠ 65535) :
    Calls Tryz.prog 99 #[.pointer (some ⟨A.b, 0, none⟩), .int .i64 (i : Int), .func (.func 104) #[] #[]] w fun e w' => e = .returned (.int .i64 0) ∧ BAt Pr w' A (x.up i) ∧ ButL w w' A.list := by
  have H := Lib.hid h
  have HM := Lib.hid hm
  have hn4 : x.n ≤ 4096 := h.pat.ok.s.hi
  have hn : nth x.now 1 ≤ 4096 := by rw [hm.n1]; exact hn4
  obtain ⟨s1, d1, s2, d2, c3, c4, t1, t2⟩ := h.told1
  have HT := Lib.hid (And.intro t1 t2)
  have c1 := h.c1
  have hlo : (2 : Int) ≤ (i : Int) := by have := hm.lo; omega
  obtain ⟨k, hk⟩ : ∃ k : Nat, (x.q.s.cnt i).toNat = k + 1 := ⟨(x.q.s.cnt i).toNat - 1, by
    have : (x.q.s.cnt i).toNat ≠ 0 := fun e => hm.cnt (UInt16.toNat_inj.1 e)
    omega⟩
  have HK := Lib.hid hk
  clear h hm t1 t2 hk
  go_enter Tryz.func99, Tryz.ntmps99
  go_wp2_with fail
  refine (stop_at H.out).mono ?_
  rintro e w' ⟨rfl, rfl⟩
  go_wp2_with fail
  refine (behind_yes H.out hn i hlo (by have := HM.out.hi; have := HM.out.n1; omega)).mono ?_
  rintro e w' ⟨rfl, rfl⟩
  go_wp2_with fail
  refine (contains_any HT.out.1 HM.out.l1 i HM.out.one).mono ?_
  rintro e w' ⟨rfl, rfl⟩
  go_wp2_with fail
  refine (contains_any HT.out.2 HM.out.l2 i HM.out.two).mono ?_
  rintro e w' ⟨rfl, rfl⟩
  go_wp2_with fail
  refine (count_at H.out i HM.out.hi).mono ?_
  rintro e w' ⟨rfl, rfl⟩
  rw [HK.out]
  have hk1 : ¬ (((k + 1 : Nat) : Int) = 0) := by omega
  have hk2 : (((k + 1 : Nat) : Int) == 0) = false := by rw [beq_eq_false_iff_ne]; exact hk1
  clear c3 c4
  go_wp2_with fail
  refine (up_at H.out.pat.tally (i : Int)).mono ?_
  rintro e w1 ⟨rfl, az, bz⟩
  have hu : x.q.s.up (i : Int) = (0, x.q.s.put i (x.q.s.cnt i + 1)) := by
    unfold St.up
    rw [if_pos ⟨by omega, by have := HM.out.hi; unfold BS.n at this; omega⟩, Int.toNat_natCast, if_neg hx]
  rw [hu] at az ⊢
  have H1 := Lib.hid (show BAt Pr w1 A (x.up i) from H.out.turn2 az bz (n_put _ _ _))
  have HB := Lib.hid (ButL.of_but bz)
  clear az bz hu hk1 hk2 c1
  dsimp only
  go_wp2_with fail
  refine (count_at H1.out i (by rw [show (x.up i).n = x.n from n_put _ _ _]; exact HM.out.hi)).mono ?_
  rintro e w' ⟨rfl, rfl⟩
  have hc : ((x.up i).q.s.cnt i).toNat = k + 2 := by
    show ((x.q.s.put i (x.q.s.cnt i + 1)).cnt i).toNat = k + 2
    rw [cnt_put HM.out.hi, if_pos rfl]
    have := up_num _ hx
    have h3 := HK.out
    have h4 : ((x.q.s.cnt i).toNat : Int) ≠ 65535 := fun e => hx (UInt16.toNat_inj.1 (by show _ = 65535; omega))
    have h5 := u16_lt (x.q.s.cnt i)
    omega
  rw [hc]
  clear hc
  have hk1 : ¬ (((k + 2 : Nat) : Int) = 0) := by omega
  have hk2 : (((k + 2 : Nat) : Int) == 0) = false := by rw [beq_eq_false_iff_ne]; exact hk1
  go_wp2_with fail
  go_ret
  exact ⟨rfl, H1.out, HB.out.mono (by simp [Adr.list])⟩
theorem refer_down (h : BAt Pr w A x) {i : Nat} (hm : x.May i) :
    Calls Tryz.prog 99 #[.pointer (some ⟨A.b, 0, none⟩), .int .i64 (i : Int), .func (.func 100) #[] #[]] w fun e w' => e = .returned (.int .i64 0) ∧ BAt Pr w' A (x.down i) ∧ ButL w w' A.list := by
  have H := Lib.hid h
  have HM := Lib.hid hm
  have hn4 : x.n ≤ 4096 := h.pat.ok.s.hi
  have hn : nth x.now 1 ≤ 4096 := by rw [hm.n1]; exact hn4
  obtain ⟨s1, d1, s2, d2, c3, c4, t1, t2⟩ := h.told1
  have HT := Lib.hid (And.intro t1 t2)
  have c1 := h.c1
  have hlo : (2 : Int) ≤ (i : Int) := by have := hm.lo; omega
  obtain ⟨k, hk⟩ : ∃ k : Nat, (x.q.s.cnt i).toNat = k + 1 := ⟨(x.q.s.cnt i).toNat - 1, by
    have : (x.q.s.cnt i).toNat ≠ 0 := fun e => hm.cnt (UInt16.toNat_inj.1 e)
    omega⟩
  have HK := Lib.hid hk
  clear h hm t1 t2 hk
  go_enter Tryz.func99, Tryz.ntmps99
  go_wp2_with fail
  refine (stop_at H.out).mono ?_
  rintro e w' ⟨rfl, rfl⟩
  go_wp2_with fail
  refine (behind_yes H.out hn i hlo (by have := HM.out.hi; have := HM.out.n1; omega)).mono ?_
  rintro e w' ⟨rfl, rfl⟩
  go_wp2_with fail
  refine (contains_any HT.out.1 HM.out.l1 i HM.out.one).mono ?_
  rintro e w' ⟨rfl, rfl⟩
  go_wp2_with fail
  refine (contains_any HT.out.2 HM.out.l2 i HM.out.two).mono ?_
  rintro e w' ⟨rfl, rfl⟩
  go_wp2_with fail
  refine (count_at H.out i HM.out.hi).mono ?_
  rintro e w' ⟨rfl, rfl⟩
  rw [HK.out]
  have hk1 : ¬ (((k + 1 : Nat) : Int) = 0) := by omega
  have hk2 : (((k + 1 : Nat) : Int) == 0) = false := by rw [beq_eq_false_iff_ne]; exact hk1
  clear c3 c4
  go_wp2_with fail
  refine (down_at H.out.pat.tally (i : Int)).mono ?_
  rintro e w1 ⟨rfl, az, bz⟩
  have hu : x.q.s.down (i : Int) = (0, x.q.s.put i (x.q.s.cnt i - 1)) := down_is HM.out.hi HM.out.cnt
  rw [hu] at az ⊢
  have H1 := Lib.hid (show BAt Pr w1 A (x.cnt i (x.q.s.cnt i - 1)) from H.out.turn2 az bz (n_put _ _ _))
  have HB := Lib.hid (ButL.of_but bz)
  clear az bz hu hk1 hk2 c1
  dsimp only
  go_wp2_with fail
  refine (count_at H1.out i (by rw [show (x.cnt i (x.q.s.cnt i - 1)).n = x.n from n_put _ _ _]; exact HM.out.hi)).mono ?_
  rintro e w' ⟨rfl, rfl⟩
  have hc : ((x.cnt i (x.q.s.cnt i - 1)).q.s.cnt i).toNat = k := by
    show ((x.q.s.put i (x.q.s.cnt i - 1)).cnt i).toNat = k
    rw [cnt_put HM.out.hi, if_pos rfl]
    have := down_num _ HM.out.cnt
    have h3 := HK.out
    have h5 := u16_lt (x.q.s.cnt i)
    have h6 : IntKind.u16.wrap (((x.q.s.cnt i).toNat : Int) - 1) = ((x.q.s.cnt i).toNat : Int) - 1 := by simp [IntKind.wrap, IntKind.signed, IntKind.bits]; omega
    omega
  rw [hc]
  clear hc
  cases k with
  | zero =>
    have h1 : x.q.s.cnt i = 1 := UInt16.toNat_inj.1 HK.out
    have HX := Lib.hid (show x.down i = (x.cnt i (x.q.s.cnt i - 1)).setF (upd x.fr i none) by unfold BS.down; rw [if_pos h1, h1]; rfl)
    have c41 := H1.out.c41
    obtain ⟨w2, hrun, hf, hk⟩ := fm_del H1.out.fm i (by have := HM.out.hi; omega) 0
    have H2 := Lib.hid (H1.out.turnF hf hk)
    have HK2 := Lib.hid hk
    clear hf hk h1
    go_wp2_with fail
    go_ret
    refine ⟨rfl, ?_, (HB.out.mono (M := A.list) (by simp [Adr.list])).join HK2.out (by simp [Adr.list])⟩
    rw [HX.out]
    exact H2.out
  | succ k =>
    have h1 : x.q.s.cnt i ≠ 1 := fun e => by
      have h2 := HK.out
      rw [e] at h2
      have : (1 : UInt16).toNat = 1 := rfl
      omega
    have HX := Lib.hid (show x.down i = x.cnt i (x.q.s.cnt i - 1) by unfold BS.down; rw [if_neg h1])
    have hk1 : ¬ (((k + 1 : Nat) : Int) = 0) := by omega
    have hk2 : (((k + 1 : Nat) : Int) == 0) = false := by rw [beq_eq_false_iff_ne]; exact hk1
    clear h1
    go_wp2_with fail
    go_ret
    refine ⟨rfl, ?_, HB.out.mono (by simp [Adr.list])⟩
    rw [HX.out]
    exact H1.out
theorem down_ok (h : BAt Pr w A x) {i : Nat} (hm : x.May i) :
    Calls Tryz.prog 29 #[.pointer (some ⟨A.b, 0, none⟩), .int .i64 (i : Int)] w fun e w' => e = .returned (.int .i64 0) ∧ BAt Pr w' A (x.down i) ∧ ButL w w' A.list := by
  go_enter Tryz.func29, Tryz.ntmps29
  go_wp2_with fail
  refine (refer_down h hm).mono ?_
  rintro e w1 ⟨rfl, h1, h2⟩
  have H1 := Lib.hid h1
  have H2 := Lib.hid h2
  clear h h1 h2
  go_wp2_with fail
  go_ret
  exact ⟨rfl, H1.out, H2.out⟩
/-! ### SetRoot, SetMark -/
def BS.root (x : BS) (i k : Nat) : BS := x.setN (x.now.set (2 + i) k)
def BS.mark (x : BS) (i k : Nat) : BS := x.setN (x.now.set (10 + i) k)
theorem BAt.butN (i : Nat) (v : Value) : ButL w (w.setCell ⟨A.b, i, none⟩ v) A.list := (ButL.set w A.b i v).mono (by simp [Adr.list])
theorem setroot_ok (h : BAt Pr w A x) (hl : x.now.length = 18) (hn : nth x.now 1 ≤ 4096) (i : Nat) (h2 : 2 ≤ i) (hi : i < 8) (k : Nat) (hk : k = 0 ∨ (2 ≤ k ∧ k < nth x.now 1)) :
    Calls Tryz.prog 39 #[.pointer (some ⟨A.b, 0, none⟩), .int .i64 (i : Int), .int .i64 (k : Int)] w fun e w' => e = .returned (.int .i64 0) ∧ BAt Pr w' A (x.root i k) ∧ ButL w w' A.list := by
  have H := Lib.hid h
  have cr := h.root i hi
  have fr := h.free (25 + i)
  have HS := Lib.hid (h.turnN (2 + i) k (by omega) hl)
  rw [Su.scell_small _ _ (by omega) (by omega), show 23 + (2 + i) = 25 + i by omega] at HS
  have HB := Lib.hid (BAt.butN (w := w) (A := A) (25 + i) (.int .u32 (k : Int)))
  have hk4 : k < 4294967296 := by omega
  have hki : (k : Int) < 4294967296 := by omega
  have hii : (i : Int) < 8 := by omega
  have h2i : (2 : Int) ≤ (i : Int) := by omega
  clear h
  rcases hk with rfl | ⟨k2, kn⟩
  · go_enter Tryz.func39, Tryz.ntmps39
    go_wp2_with fail
    refine (stop_at H.out).mono ?_
    rintro e w' ⟨rfl, rfl⟩
    go_wp2_with fail
    refine (slot_yes i (by omega) (by omega) _).mono ?_
    rintro e w' ⟨rfl, rfl⟩
    go_wp2_with fail
    go_ret
    exact ⟨rfl, HS.out, HB.out⟩
  · have kn0 : ¬ ((k : Int) = 0) := by omega
    have kn1 : ((k : Int) != 0) = true := by rw [bne_iff_ne]; omega
    go_enter Tryz.func39, Tryz.ntmps39
    go_wp2_with fail
    refine (stop_at H.out).mono ?_
    rintro e w' ⟨rfl, rfl⟩
    go_wp2_with fail
    refine (slot_yes i (by omega) (by omega) _).mono ?_
    rintro e w' ⟨rfl, rfl⟩
    go_wp2_with fail
    refine (behind_yes H.out hn k (by omega) (by omega)).mono ?_
    rintro e w' ⟨rfl, rfl⟩
    have hw : IntKind.u32.wrap (k : Int) = (k : Int) := by simp [IntKind.wrap, IntKind.signed, IntKind.bits]; omega
    have hk0 : (0 : Int) ≤ (k : Int) := by omega
    have HWH := Lib.hid (And.intro hw (And.intro hk0 hki))
    clear hk4 kn k2 hn hw hk0 hki cr
    go_upto_region 6 with (fail)
    obtain ⟨hw, hk0, hki⟩ := HWH.out
    have cr := H.out.root i hi
    clear kn1 kn0
    go_wp2_with fail
    go_ret
    exact ⟨rfl, HS.out, HB.out⟩
/-! ### Back -/
def BS.back (x : BS) : BS := ⟨⟨x.q.s.back, x.q.first, x.q.next, x.q.asked⟩, x.l1, x.l2, x.kept, x.kept, fun _ => none, x.D⟩
theorem row_range {w : World} {b : Nat} {T : TypeId} {vs cs : List Value} (o : Nat) (h : RowV w b T vs) (k : ∀ j, j < cs.length → vs[o + j]? = cs[j]?) : w.rangeAt b o cs := fun j v hv => by
  have hj : j < cs.length := (List.getElem?_eq_some_iff.1 hv).1
  exact h.cellAt ((k j hj).trans hv)
theorem BAt.rk (h : BAt Pr w A x) : w.rangeAt A.b 5 (scells x.kept) := by
  obtain ⟨s1, d1, s2, d2, h1⟩ := h.cells
  refine row_range 5 h1 fun j hj => ?_
  rw [Su.length_scells] at hj
  rw [bck _ _ _ _ _ _ _ _ _ j hj, Su.scells_at _ _ hj]
theorem BAt.rn (h : BAt Pr w A x) : w.rangeAt A.b 23 (scells x.now) := by
  obtain ⟨s1, d1, s2, d2, h1⟩ := h.cells
  refine row_range 23 h1 fun j hj => ?_
  rw [Su.length_scells] at hj
  rw [bcn _ _ _ _ _ _ _ _ _ j hj, Su.scells_at _ _ hj]
theorem sup_size : (Tryz.prog.info? 69).map (·.size) = some 18 := by kernel_rfl
theorem setCells_other : ∀ (cs : List Value) (w : World) (b o k : Nat), k ≠ b → (w.setCells b o cs).heap[k]? = w.heap[k]?
  | [], _, _, _, _, _ => rfl
  | v :: r, w, b, o, k, h => by
    rw [World.setCells, setCells_other r _ b (o + 1) k h]
    exact heap_setCell_other _ _ _ _ h
theorem setCells_size : ∀ (cs : List Value) (w : World) (b o : Nat), (w.setCells b o cs).heap.size = w.heap.size
  | [], _, _, _ => rfl
  | v :: r, w, b, o => by
    rw [World.setCells, setCells_size r _ b (o + 1)]
    simp
theorem setCells_but : ∀ (cs : List Value) (w : World) (b o : Nat), ButL w (w.setCells b o cs) [b]
  | [], w, b, _ => ButL.refl w [b]
  | v :: r, w, b, o => (ButL.set w b o v).trans (setCells_but r (w.setCell ⟨b, o, none⟩ v) b (o + 1))
theorem row_setCells {T : TypeId} {b : Nat} : ∀ (cs : List Value) (w : World) (o : Nat) (vs : List Value), RowV w b T vs → RowV (w.setCells b o cs) b T (cs.foldl (fun (p : Nat × List Value) v => (p.1 + 1, p.2.set p.1 v)) (o, vs)).2
  | [], _, _, _, h => h
  | v :: r, w, o, vs, h => row_setCells r (w.setCell ⟨b, o, none⟩ v) (o + 1) (vs.set o v) (h.set o v)
theorem fold_set (A1 B1 : List Value) : ∀ (cs old : List Value) (A1 : List Value), old.length = cs.length → (cs.foldl (fun (p : Nat × List Value) v => (p.1 + 1, p.2.set p.1 v)) (A1.length, A1 ++ (old ++ B1))).2 = A1 ++ (cs ++ B1)
  | [], old, A1, h => by
    have : old = [] := List.eq_nil_of_length_eq_zero h
    rw [this]
    rfl
  | v :: r, [], A1, h => by simp at h
  | v :: r, u :: old, A1, h => by
    have e : (A1 ++ (u :: old ++ B1)).set A1.length v = (A1 ++ [v]) ++ (old ++ B1) := by
      rw [List.set_append_right _ _ (Nat.le_refl _), Nat.sub_self]
      simp
    rw [List.foldl_cons, e, show A1.length + 1 = (A1 ++ [v]).length by simp, fold_set A1 B1 r old (A1 ++ [v]) (by simpa using h)]
    simp
/-- Its super is written anew. -/
theorem BAt.turnS (h : BAt Pr w A x) (s : Sup) : BAt Pr (w.setCells A.b 23 (scells s)) A (x.setN s) ∧ ButL w (w.setCells A.b 23 (scells s)) A.list := by
  have hb := setCells_but (scells s) w A.b 23
  refine ⟨?_, hb.mono (by simp [Adr.list])⟩
  obtain ⟨s1, d1, s2, d2, h1, ⟨sp1, h2⟩, ⟨sp2, h3⟩⟩ := h.row
  obtain ⟨es, cl, hm⟩ := h.fm.map
  obtain ⟨spc, hcb⟩ := h.pat.tally.nums
  have off : ∀ {g : Nat} {T : TypeId} {vs : List Value}, RowV w g T vs → T ≠ 72 → (w.setCells A.b 23 (scells s)).heap[g]? = w.heap[g]? := fun {g T vs} hr ht => setCells_other _ _ _ _ _ (row_ne hr h1 ht)
  have hmap : ∀ {g : Nat} {es : Array MapEntry} {cl : Nat}, w.heap[g]? = some (.map es cl) → (w.setCells A.b 23 (scells s)).heap[g]? = w.heap[g]? := fun {g es cl} hg => setCells_other _ _ _ _ _ (fun e => map_ne h1 hg e.symm)
  refine ⟨⟨s1, d1, s2, d2, ?_, ⟨sp1, h2.block (off h2 (by decide))⟩, ⟨sp2, h3.block (off h3 (by decide))⟩⟩, h.pat.blocks (off h.pat.row (by decide)) (off h.pat.tally.row (by decide)) (off hcb (by decide)) ?_, h.fm.keep (hmap hm) fun g bs hb => hb.block fun cs fr e => setCells_other _ _ _ _ _ (fun hg => by rw [hg, show w.heap[A.b]? = _ from h1] at e; cases e), h.dk.keep fun i cs t fr e ht => ?_, h.ne, h.np, fun k hk => by rw [setCells_size]; exact h.lt k hk⟩
  · have := row_setCells (scells s) w 23 _ h1
    have e : ((scells s).foldl (fun (p : Nat × List Value) v => (p.1 + 1, p.2.set p.1 v)) (23, bcells A x.l1.length x.l2.length s1 d1 s2 d2 x.kept x.now)).2 = bcells A x.l1.length x.l2.length s1 d1 s2 d2 x.kept s := by
      unfold bcells
      rw [← List.append_assoc, ← List.append_assoc]
      have := fold_set [] [.map (some A.fm), .bool false, .pointer (some ⟨A.b, 0, none⟩)] (scells s) (scells x.now) ([.pointer (some ⟨A.d, 0, none⟩), .pointer (some ⟨A.ta, 0, none⟩), .pointer (some ⟨A.p, 0, none⟩), .slice (some ⟨s1, 0, none⟩) x.l1.length d1, .slice (some ⟨s2, 0, none⟩) x.l2.length d2] ++ scells x.kept) (by rw [Su.length_scells, Su.length_scells])
      rw [show ([Value.pointer (some ⟨A.d, 0, none⟩), .pointer (some ⟨A.ta, 0, none⟩), .pointer (some ⟨A.p, 0, none⟩), .slice (some ⟨s1, 0, none⟩) x.l1.length d1, .slice (some ⟨s2, 0, none⟩) x.l2.length d2] ++ scells x.kept).length = 23 by rw [List.length_append, Su.length_scells]; rfl] at this
      exact this
    rw [e] at this
    exact this
  · obtain ⟨nn, D, ⟨es, cl, ho, _⟩, _⟩ := h.pat.tally.mp
    exact hmap ho
  · refine setCells_other _ _ _ _ _ fun hi => ?_
    subst hi
    rw [show w.heap[A.b]? = _ from h1] at e
    cases e
    cases ht
theorem BAt.there (h : BAt Pr w A x) (o n : Nat) (ho : o + n ≤ 44) : w.there A.b o n := by
  obtain ⟨s1, d1, s2, d2, h1⟩ := h.cells
  intro j hj
  refine ⟨?_, h1.free _⟩
  have hlt : o + j < (bcells A x.l1.length x.l2.length s1 d1 s2 d2 x.kept x.now).length := by rw [length_bcells]; omega
  rw [h1.cellAt (List.getElem?_eq_getElem hlt)]
  rfl
theorem back_ok (h : BAt Pr w A x) :
    Calls Tryz.prog 34 #[.pointer (some ⟨A.b, 0, none⟩)] w fun e w' => e = .returned (.int .i64 0) ∧ BAt Pr w' A x.back ∧ ButL w w' A.list := by
  have H := Lib.hid h
  have c1 := h.c1
  clear h
  go_enter Tryz.func34, Tryz.ntmps34
  go_wp2_with fail
  refine (stop_at H.out).mono ?_
  rintro e w' ⟨rfl, rfl⟩
  go_wp2_with fail
  refine (Tl.back_at H.out.pat.tally).mono ?_
  rintro e w1 ⟨rfl, az, bz⟩
  have H1 := Lib.hid (H.out.turn2 az bz (show x.q.s.kept.length = x.q.s.now.length from H.out.pat.tally.ok.len))
  have HB := Lib.hid ((ButL.of_but bz).mono (M := A.list) (by simp [Adr.list]))
  obtain ⟨w2, hrun, hf, hk⟩ := fm_clear H1.out.fm
  have c41 := H1.out.c41
  have H2 := Lib.hid (H1.out.turnF hf hk)
  have HB2 := Lib.hid (HB.out.join hk (by simp [Adr.list]))
  obtain ⟨h3, k3⟩ := H2.out.turnS x.kept
  have HR := Lib.hid H2.out.rk
  have HTH := Lib.hid (H2.out.there 23 18 (by omega))
  have H3 := Lib.hid h3
  have HB3 := Lib.hid (HB2.out.trans k3)
  clear az bz c1 hf hk h3 k3
  dsimp only
  go_wp2_with (first | (refine wpList_load_mid rfl 69 (.tmp 21) rfl A.b 5 rfl (scells x.kept) _ HR.out Tryz.underlying69 rfl (by rw [sup_size, Su.length_scells]) ?_) | (refine wpList_store_mid rfl 69 (.tmp 24) (.tmp 22) rfl A.b 23 (scells x.kept).toArray rfl rfl (by rw [List.size_toArray, Su.length_scells]; exact HTH.out) (by rw [sup_size, List.size_toArray, Su.length_scells]) (Su.one_scells _) ?_; rw [List.toList_toArray]))
  go_ret
  exact ⟨rfl, H3.out, HB3.out⟩
end
end Go.Proofs.YtogchamogbendaaGreat.Bs
/- A plan: steps that are written down. (Written by bin/gen_bsi.py.) -/
namespace Go.Proofs.YtogchamogbendaaGreat.Bs
set_option maxRecDepth 100000
open Go.RowKit Go.Proofs.YtogchamogbendaaGreat.Oct Go.Proofs.YtogchamogbendaaGreat.Mv Go.Proofs.YtogchamogbendaaGreat.Tl Go.Proofs.YtogchamogbendaaGreat.Pk Go.Proofs.YtogchamogbendaaGreat.Pl Go.Maps Go.ChangeMaps
open Go.Proofs.YtogchamogbendaaGreat.Dsk (dT)
open Go.Proofs.YtogchamogbendaaGreat.Su (Sup nth scells)
set_option linter.unusedVariables false
set_option linter.unusedSimpArgs false

/-- A step of a plan: a block is written, or all is flushed. -/
inductive Stp where
  | w (p : Nat) (bs : List UInt8)
  | f
/-- The types of a plan's own blocks. -/
def plT (t : TypeId) : Bool := t == 180 || t == 242
def StpV (w : World) (P d : Nat) (v : Value) : Stp → Prop
  | .w p bs => ∃ b3 b4 b5 g c, v = .func (.func 161) #[] #[.pointer (some ⟨b3, 0, none⟩), .pointer (some ⟨b4, 0, none⟩), .pointer (some ⟨b5, 0, none⟩)] ∧
      RowV w b3 165 [.pointer (some ⟨P, 0, none⟩)] ∧ RowV w b4 3 [.int .i64 (p : Int)] ∧ RowV w b5 45 [.slice (some ⟨g, 0, none⟩) 128 c] ∧ Byt w g bs ∧ bs.length = 128
  | .f => v = .func (.func 162) #[.pointer (some ⟨d, 0, none⟩)] #[]
/-- A plan, all of whose steps are in memory. -/
def PlnV (w : World) (B P d : Nat) (sv : Value) (vs : List Value) (l : List Stp) : Prop :=
  RowV w P 180 [.pointer (some ⟨d, 0, none⟩), sv] ∧ B ≤ P ∧ w.ownsRow B 242 1 sv l.length vs ∧ ∀ i (h : i < l.length), StpV w P d (vs.getD i undef) l[i]
def Pln (w : World) (B P d : Nat) (l : List Stp) : Prop := ∃ sv vs, PlnV w B P d sv vs l
theorem step_info : (Tryz.prog.info? 242).map (fun i => (i.zero, i.size, i.bytes)) = some (some (.agg #[.nilFunc]), 1, 8) := by kernel_rfl
section
variable {T : TypeId → Bool} {Pr : Nat → Prop} {L : List Nat} {w w' : World} {B P d : Nat} {l : List Stp}
theorem StpV.off {v : Value} {s : Stp} (h : StpV w P d v s) (k : Off T Pr [] w w') (h1 : T 165 = false) (h2 : T 3 = false) (h3 : T 45 = false) (h4 : T 5 = false) : StpV w' P d v s := by
  cases s with
  | f => exact h
  | w p bs =>
    obtain ⟨b3, b4, b5, g, c, e, r3, r4, r5, rb, hl⟩ := h
    exact ⟨b3, b4, b5, g, c, e, k.rowV r3 (by simp) h1, k.rowV r4 (by simp) h2, k.rowV r5 (by simp) h3, rb.off k (by simp) h4, hl⟩
/-- Neither plans nor their steps have turned. -/
theorem Pln.off (h : Pln w B P d l) (k : Off T Pr [] w w') (h0 : T 180 = false) (h01 : T 242 = false) (h1 : T 165 = false) (h2 : T 3 = false) (h3 : T 45 = false) (h4 : T 5 = false) : Pln w' B P d l := by
  obtain ⟨sv, vs, r, hB, ho, hs⟩ := h
  refine ⟨sv, vs, k.rowV r (by simp) h0, hB, Dsk.own_same ho fun j hj hl => ?_, fun i hi => (hs i hi).off k h1 h2 h3 h4⟩
  rcases ho.2 with ⟨rfl, _⟩ | ⟨g, cap, cur, rfl, _, hg, _⟩
  · cases hj
  · cases hj
    exact k.block g hl (by simp) (.inr fun cs t fr e => by rw [hg] at e; cases e; exact h01)
theorem Pln.below (h : Pln w B P d l) (k : Below w.heap.size w w') : Pln w' B P d l := h.off (T := fun _ => false) (Pr := fun _ => False) (Off.of_below _ _ [] k (Nat.le_refl _)) rfl rfl rfl rfl rfl rfl
theorem Pln.lt (h : Pln w B P d l) : P < w.heap.size := by obtain ⟨sv, vs, r, _⟩ := h; exact r.lt
theorem Pln.empty (hr : RowV w P 180 [.pointer (some ⟨d, 0, none⟩), .slice none 0 0]) (hB : B ≤ P) : Pln w B P d [] :=
  ⟨_, [], hr, hB, World.ownsRow_nil _ _ _ _, fun i h => absurd h (by simp)⟩
theorem ne_own {sv : Value} {n : Nat} {vs cs : List Value} {U : TypeId} (h : w.ownsRow B 242 1 sv n vs) (hr : RowV w P U cs) (hU : 242 ≠ U) : sv.ownBlock ≠ some P := Dsk.own_ne h hr hU
theorem stp_snoc {w w' : World} {B P d : Nat} {l : List Stp} {vs : List Value} {s : Stp} {v : Value} (h : ∀ i (h : i < l.length), StpV w P d (vs.getD i undef) l[i]) (k : Off plT (fun k => k < B) [] w w') (hl : vs.length = l.length) (hv : StpV w' P d v s) (i : Nat) (hi : i < (l ++ [s]).length) : StpV w' P d ((vs ++ [v]).getD i undef) (l ++ [s])[i] := by
  by_cases e : i < l.length
  · rw [List.getElem_append_left e, List.getD_eq_getElem?_getD, List.getElem?_append_left (by omega), ← List.getD_eq_getElem?_getD]
    exact (h i e).off k rfl rfl rfl rfl
  · rw [List.length_append] at hi
    obtain rfl : i = l.length := by simp at hi; omega
    rw [List.getElem_append_right (Nat.le_refl _), List.getD_eq_getElem?_getD, List.getElem?_append_right (by omega)]
    simp only [hl, Nat.sub_self]
    exact hv
/-- A step more. -/
theorem step_more {sv : Value} {vs : List Value} {n : Nat} (ho : w.ownsRow B 242 1 sv n vs) (hn : n < 100000) (hB : B ≤ w.heap.size) (fv : Value) (h1 : fv.oneCell' = true) (q : Nat) (hq : w.cell? ⟨q, 0, none⟩ = some fv) (ty : TypeId) :
    ∃ sv' w', (Builtin.append_ #[178, 178] ty #[sv, .slice (some ⟨q, 0, none⟩) 1 1]).run Tryz.prog w = .ok sv' w' ∧ w'.ownsRow B 242 1 sv' (n + 1) (vs ++ [fv]) ∧ Off plT (fun k => k < B) [] w w' ∧ (∀ g U cs, RowV w g U cs → 242 ≠ U → RowV w' g U cs) := by
  obtain ⟨i0, hi, hz0, hz1, hz2⟩ := info_parts step_info
  obtain ⟨sv', w', hr, ho', hg, _⟩ := run_append_own (P := Tryz.prog) w B 178 ty 242 i0 (.agg #[.nilFunc]) 1 8 Tryz.underlying178 hi hz0 hz1 hz2 rfl (by omega) sv n vs ho ⟨q, 0, none⟩ 1 1 [fv] rfl
    (fun j u hj => by
      cases j with
      | zero => rw [add_plain]; cases hj; exact hq
      | succ j => simp at hj)
    (fun u hu => by have : u = fv := by simpa using hu
                    rw [this]; exact h1) (by unfold maxLen; omega) (by omega) hB
  refine ⟨sv', w', hr, ho', ⟨hg.os, hg.tape, hg.output, hg.size, fun k hk _ hc => hg.block k hk fun e => ?_⟩, fun g U cs hr hU => hr.block (hg.block g hr.lt fun e => ne_own ho hr hU e.symm)⟩
  rcases ho.2 with ⟨rfl, _⟩ | ⟨g, cap, cur, rfl, hb, hgg, _⟩
  · cases e
  · cases e
    rcases hc with hc | hc
    · exact absurd hb (Nat.not_le.2 hc)
    · have := hc _ _ _ hgg
      cases this
end

set_option maxHeartbeats 2000000 in
theorem pflush {w : World} {B P d : Nat} {l : List Stp} (h : Pln w B P d l) (hBB : B ≤ w.heap.size) (hfew : l.length < 100000) :
    Calls Tryz.prog 112 #[.pointer (some ⟨P, 0, none⟩)] w fun e w' => e = .returned (.tuple #[]) ∧ Pln w' B P d (l ++ [.f]) ∧ Off plT (fun k => k < B) [] w w' := by
  have HH := Lib.hid h
  obtain ⟨sv, vs, hr, hBP, ho, hs⟩ := h
  have HP0 := Lib.hid (show RowV w.drew P 180 [.pointer (some ⟨d, 0, none⟩), sv] from hr)
  have HO0 := Lib.hid (show w.drew.ownsRow B 242 1 sv l.length vs from ho)
  have HS := Lib.hid hs
  clear hr ho hs HH
  go_enter Tryz.func112, Tryz.ntmps112
  go_upto_region 0 with (fail)

  refine Inv2.wp_region_inv (fun b a wy => ∃ (z : Nat → Value) (z13 : Value) (z14 : Value), a = ⟨#[Value.pointer (some ⟨P, 0, none⟩), undef, (z 2), (z 3), (z 4), (z 5), (z 6), (z 7), (z 8), (z 9), (z 10), (z 11), (z 12), z13, z14, (z 15), (z 16)], []⟩ ∧ Hid ((b 0 = true → (z 2) = Value.pointer (some ⟨P, 0, none⟩)) ∧ (b 1 = true → (z 3) = Value.pointer (some ⟨P, 0, none⟩)) ∧ (b 2 = true → (z 4) = .pointer (some ⟨P, 0, none⟩)) ∧ (b 3 = true → (z 5) = .pointer (some ⟨P, 1, none⟩)) ∧ (b 4 = true → (z 6) = sv) ∧ (b 5 = true → (z 7) = Value.pointer (some ⟨P, 0, none⟩)) ∧ (b 6 = true → (z 8) = .pointer (some ⟨P, 0, none⟩)) ∧ (b 7 = true → (z 9) = .pointer (some ⟨P, 0, none⟩)) ∧ (b 8 = true → (z 10) = .pointer (some ⟨d, 0, none⟩)) ∧ (b 9 = true → (z 11) = .func (.func 162) #[.pointer (some ⟨d, 0, none⟩)] #[]) ∧ (b 10 = true → (z 12) = .agg #[.func (.func 162) #[.pointer (some ⟨d, 0, none⟩)] #[]]) ∧ (b 13 = true → (z 15) = .pointer (some ⟨P, 0, none⟩)) ∧ (b 14 = true → (z 16) = .pointer (some ⟨P, 1, none⟩))) ∧ Hid (Below 0 w wy) ∧ Hid (∃ sv' : Value, Off plT (fun k => k < B) [] w wy ∧ (b 15 = false → RowV wy P 180 [.pointer (some ⟨d, 0, none⟩), sv]) ∧ (b 12 = false → wy.ownsRow B 242 1 sv l.length vs) ∧ (b 11 = true → b 12 = false → ∃ q, z13 = .slice (some ⟨q, 0, none⟩) 1 1 ∧ wy.cell? ⟨q, 0, none⟩ = some (.func (.func 162) #[.pointer (some ⟨d, 0, none⟩)] #[])) ∧ (b 12 = true → b 11 = true ∧ z14 = sv' ∧ wy.ownsRow B 242 1 sv' (l.length + 1) (vs ++ [.func (.func 162) #[.pointer (some ⟨d, 0, none⟩)] #[]])) ∧ (b 15 = true → b 4 = true ∧ b 12 = true ∧ RowV wy P 180 [.pointer (some ⟨d, 0, none⟩), sv']))) (by kernel_rfl) (by kernel_rfl) ?startS ?stepsS ?doneS
  case startS =>
    intro b hb
    refine ⟨fun s => undef, undef, undef, rfl, Lib.hid ⟨?_, ?_, ?_, ?_, ?_, ?_, ?_, ?_, ?_, ?_, ?_, ?_, ?_⟩, Lib.hid ((show Still w w.drew from ⟨rfl, rfl, rfl, rfl⟩).below _), Lib.hid (⟨undef, (Off.refl _ _ _ _).trans (Off.of_below _ _ _ ((show Still w w.drew from ⟨rfl, rfl, rfl, rfl⟩).below _) (Nat.le_refl _)), fun _ => HP0.out, fun _ => HO0.out, fun e => absurd (e.symm.trans (hb 11 (by decide))) (by decide), fun e => absurd (e.symm.trans (hb 12 (by decide))) (by decide), fun e => absurd (e.symm.trans (hb 15 (by decide))) (by decide)⟩)⟩
    all_goals (intro e; first | rfl | (rw [hb _ (by decide)] at e; cases e))
  case stepsS =>
    refine ⟨?_, ?_, ?_, ?_, ?_, ?_, ?_, ?_, ?_, ?_, ?_, ?_, ?_, ?_, ?_, ?_, trivial⟩
    · rintro b a wy hb hd ⟨z, z13, z14, rfl, HV, HW, HX⟩ K hK
      clear hd
      go_simp
      have V := HV.out
      exact hK _ _ ⟨fun s => if s = 2 then Value.pointer (some ⟨P, 0, none⟩) else z s, _, _, rfl, Lib.hid ⟨fun _ => rfl, V.2.1, V.2.2.1, V.2.2.2.1, V.2.2.2.2.1, V.2.2.2.2.2.1, V.2.2.2.2.2.2.1, V.2.2.2.2.2.2.2.1, V.2.2.2.2.2.2.2.2.1, V.2.2.2.2.2.2.2.2.2.1, V.2.2.2.2.2.2.2.2.2.2.1, V.2.2.2.2.2.2.2.2.2.2.2.1, V.2.2.2.2.2.2.2.2.2.2.2.2⟩, HW, HX⟩
    · rintro b a wy hb hd ⟨z, z13, z14, rfl, HV, HW, HX⟩ K hK
      clear hd
      go_simp
      have V := HV.out
      exact hK _ _ ⟨fun s => if s = 3 then Value.pointer (some ⟨P, 0, none⟩) else z s, _, _, rfl, Lib.hid ⟨V.1, fun _ => rfl, V.2.2.1, V.2.2.2.1, V.2.2.2.2.1, V.2.2.2.2.2.1, V.2.2.2.2.2.2.1, V.2.2.2.2.2.2.2.1, V.2.2.2.2.2.2.2.2.1, V.2.2.2.2.2.2.2.2.2.1, V.2.2.2.2.2.2.2.2.2.2.1, V.2.2.2.2.2.2.2.2.2.2.2.1, V.2.2.2.2.2.2.2.2.2.2.2.2⟩, HW, HX⟩
    · rintro b a wy hb hd ⟨z, z13, z14, rfl, HV, HW, HX⟩ K hK
      simp [Region.binds] at hd
      have e1 : (z 3) = Value.pointer (some ⟨P, 0, none⟩) := (HV.out.2.1) (by simp [hd])
      clear hd
      go_simp
      have V := HV.out
      exact hK _ _ ⟨fun s => if s = 4 then .pointer (some ⟨P, 0, none⟩) else if s = 3 then Value.pointer (some ⟨P, 0, none⟩) else z s, _, _, rfl, Lib.hid ⟨V.1, fun _ => rfl, fun _ => rfl, V.2.2.2.1, V.2.2.2.2.1, V.2.2.2.2.2.1, V.2.2.2.2.2.2.1, V.2.2.2.2.2.2.2.1, V.2.2.2.2.2.2.2.2.1, V.2.2.2.2.2.2.2.2.2.1, V.2.2.2.2.2.2.2.2.2.2.1, V.2.2.2.2.2.2.2.2.2.2.2.1, V.2.2.2.2.2.2.2.2.2.2.2.2⟩, HW, HX⟩
    · rintro b a wy hb hd ⟨z, z13, z14, rfl, HV, HW, HX⟩ K hK
      simp [Region.binds] at hd
      have e2 : (z 4) = .pointer (some ⟨P, 0, none⟩) := (HV.out.2.2.1) (by simp [hd])
      clear hd
      go_simp
      have V := HV.out
      exact hK _ _ ⟨fun s => if s = 5 then .pointer (some ⟨P, 1, none⟩) else if s = 4 then .pointer (some ⟨P, 0, none⟩) else z s, _, _, rfl, Lib.hid ⟨V.1, V.2.1, fun _ => rfl, fun _ => rfl, V.2.2.2.2.1, V.2.2.2.2.2.1, V.2.2.2.2.2.2.1, V.2.2.2.2.2.2.2.1, V.2.2.2.2.2.2.2.2.1, V.2.2.2.2.2.2.2.2.2.1, V.2.2.2.2.2.2.2.2.2.2.1, V.2.2.2.2.2.2.2.2.2.2.2.1, V.2.2.2.2.2.2.2.2.2.2.2.2⟩, HW, HX⟩
    · rintro b a wy hb hd ⟨z, z13, z14, rfl, HV, HW, HX⟩ K hK
      simp [Region.binds] at hd
      have e3 : (z 5) = .pointer (some ⟨P, 1, none⟩) := (HV.out.2.2.2.1) (by simp [hd])
      clear hd
      obtain ⟨sv', X1, X2, X3, X4, X5, X6⟩ := HX.out
      have bT : b 15 = false := by
        rcases Bool.eq_false_or_eq_true (b 15) with e | e
        · exact absurd (hb.symm.trans (X6 e).1) (by decide)
        · exact e
      have cc := (X2 bT).cellAt (i := 1) rfl
      have HC := Lib.hid (And.intro X1 (And.intro X2 (And.intro X3 (And.intro X4 (And.intro X5 X6)))))
      clear X1 X2 X3 X4 X5 X6 bT HX
      go_simp
      have V := HV.out
      exact hK _ _ ⟨fun s => if s = 6 then sv else if s = 5 then .pointer (some ⟨P, 1, none⟩) else z s, _, _, rfl, Lib.hid ⟨V.1, V.2.1, V.2.2.1, fun _ => rfl, fun _ => rfl, V.2.2.2.2.2.1, V.2.2.2.2.2.2.1, V.2.2.2.2.2.2.2.1, V.2.2.2.2.2.2.2.2.1, V.2.2.2.2.2.2.2.2.2.1, V.2.2.2.2.2.2.2.2.2.2.1, V.2.2.2.2.2.2.2.2.2.2.2.1, V.2.2.2.2.2.2.2.2.2.2.2.2⟩, HW, Lib.hid ⟨sv', HC.out.1, HC.out.2.1, HC.out.2.2.1, HC.out.2.2.2.1, HC.out.2.2.2.2.1, fun e => ⟨rfl, (HC.out.2.2.2.2.2 e).2⟩⟩⟩
    · rintro b a wy hb hd ⟨z, z13, z14, rfl, HV, HW, HX⟩ K hK
      clear hd
      go_simp
      have V := HV.out
      exact hK _ _ ⟨fun s => if s = 7 then Value.pointer (some ⟨P, 0, none⟩) else z s, _, _, rfl, Lib.hid ⟨V.1, V.2.1, V.2.2.1, V.2.2.2.1, V.2.2.2.2.1, fun _ => rfl, V.2.2.2.2.2.2.1, V.2.2.2.2.2.2.2.1, V.2.2.2.2.2.2.2.2.1, V.2.2.2.2.2.2.2.2.2.1, V.2.2.2.2.2.2.2.2.2.2.1, V.2.2.2.2.2.2.2.2.2.2.2.1, V.2.2.2.2.2.2.2.2.2.2.2.2⟩, HW, HX⟩
    · rintro b a wy hb hd ⟨z, z13, z14, rfl, HV, HW, HX⟩ K hK
      simp [Region.binds] at hd
      have e5 : (z 7) = Value.pointer (some ⟨P, 0, none⟩) := (HV.out.2.2.2.2.2.1) (by simp [hd])
      clear hd
      go_simp
      have V := HV.out
      exact hK _ _ ⟨fun s => if s = 8 then .pointer (some ⟨P, 0, none⟩) else if s = 7 then Value.pointer (some ⟨P, 0, none⟩) else z s, _, _, rfl, Lib.hid ⟨V.1, V.2.1, V.2.2.1, V.2.2.2.1, V.2.2.2.2.1, fun _ => rfl, fun _ => rfl, V.2.2.2.2.2.2.2.1, V.2.2.2.2.2.2.2.2.1, V.2.2.2.2.2.2.2.2.2.1, V.2.2.2.2.2.2.2.2.2.2.1, V.2.2.2.2.2.2.2.2.2.2.2.1, V.2.2.2.2.2.2.2.2.2.2.2.2⟩, HW, HX⟩
    · rintro b a wy hb hd ⟨z, z13, z14, rfl, HV, HW, HX⟩ K hK
      simp [Region.binds] at hd
      have e6 : (z 8) = .pointer (some ⟨P, 0, none⟩) := (HV.out.2.2.2.2.2.2.1) (by simp [hd])
      clear hd
      go_simp
      have V := HV.out
      exact hK _ _ ⟨fun s => if s = 9 then .pointer (some ⟨P, 0, none⟩) else if s = 8 then .pointer (some ⟨P, 0, none⟩) else z s, _, _, rfl, Lib.hid ⟨V.1, V.2.1, V.2.2.1, V.2.2.2.1, V.2.2.2.2.1, V.2.2.2.2.2.1, fun _ => rfl, fun _ => rfl, V.2.2.2.2.2.2.2.2.1, V.2.2.2.2.2.2.2.2.2.1, V.2.2.2.2.2.2.2.2.2.2.1, V.2.2.2.2.2.2.2.2.2.2.2.1, V.2.2.2.2.2.2.2.2.2.2.2.2⟩, HW, HX⟩
    · rintro b a wy hb hd ⟨z, z13, z14, rfl, HV, HW, HX⟩ K hK
      simp [Region.binds] at hd
      have e7 : (z 9) = .pointer (some ⟨P, 0, none⟩) := (HV.out.2.2.2.2.2.2.2.1) (by simp [hd])
      clear hd
      obtain ⟨sv', X1, X2, X3, X4, X5, X6⟩ := HX.out
      have cc : wy.cell? ⟨P, 0, none⟩ = some (.pointer (some ⟨d, 0, none⟩)) := by
        rcases Bool.eq_false_or_eq_true (b 15) with e | e
        · exact (X6 e).2.2.cellAt (i := 0) rfl
        · exact (X2 e).cellAt (i := 0) rfl
      clear X1 X2 X3 X4 X5 X6
      go_simp
      have V := HV.out
      exact hK _ _ ⟨fun s => if s = 10 then .pointer (some ⟨d, 0, none⟩) else if s = 9 then .pointer (some ⟨P, 0, none⟩) else z s, _, _, rfl, Lib.hid ⟨V.1, V.2.1, V.2.2.1, V.2.2.2.1, V.2.2.2.2.1, V.2.2.2.2.2.1, V.2.2.2.2.2.2.1, fun _ => rfl, fun _ => rfl, V.2.2.2.2.2.2.2.2.2.1, V.2.2.2.2.2.2.2.2.2.2.1, V.2.2.2.2.2.2.2.2.2.2.2.1, V.2.2.2.2.2.2.2.2.2.2.2.2⟩, HW, HX⟩
    · rintro b a wy hb hd ⟨z, z13, z14, rfl, HV, HW, HX⟩ K hK
      simp [Region.binds] at hd
      have e8 : (z 10) = .pointer (some ⟨d, 0, none⟩) := (HV.out.2.2.2.2.2.2.2.2.1) (by simp [hd])
      clear hd
      go_simp
      have V := HV.out
      exact hK _ _ ⟨fun s => if s = 11 then .func (.func 162) #[.pointer (some ⟨d, 0, none⟩)] #[] else if s = 10 then .pointer (some ⟨d, 0, none⟩) else z s, _, _, rfl, Lib.hid ⟨V.1, V.2.1, V.2.2.1, V.2.2.2.1, V.2.2.2.2.1, V.2.2.2.2.2.1, V.2.2.2.2.2.2.1, V.2.2.2.2.2.2.2.1, fun _ => rfl, fun _ => rfl, V.2.2.2.2.2.2.2.2.2.2.1, V.2.2.2.2.2.2.2.2.2.2.2.1, V.2.2.2.2.2.2.2.2.2.2.2.2⟩, HW, HX⟩
    · rintro b a wy hb hd ⟨z, z13, z14, rfl, HV, HW, HX⟩ K hK
      simp [Region.binds] at hd
      have e9 : (z 11) = .func (.func 162) #[.pointer (some ⟨d, 0, none⟩)] #[] := (HV.out.2.2.2.2.2.2.2.2.2.1) (by simp [hd])
      clear hd
      go_simp
      have V := HV.out
      exact hK _ _ ⟨fun s => if s = 12 then .agg #[.func (.func 162) #[.pointer (some ⟨d, 0, none⟩)] #[]] else if s = 11 then .func (.func 162) #[.pointer (some ⟨d, 0, none⟩)] #[] else z s, _, _, rfl, Lib.hid ⟨V.1, V.2.1, V.2.2.1, V.2.2.2.1, V.2.2.2.2.1, V.2.2.2.2.2.1, V.2.2.2.2.2.2.1, V.2.2.2.2.2.2.2.1, V.2.2.2.2.2.2.2.2.1, fun _ => rfl, fun _ => rfl, V.2.2.2.2.2.2.2.2.2.2.2.1, V.2.2.2.2.2.2.2.2.2.2.2.2⟩, HW, HX⟩
    · rintro b a wy hb hd ⟨z, z13, z14, rfl, HV, HW, HX⟩ K hK
      simp [Region.binds] at hd
      have e10 : (z 12) = .agg #[.func (.func 162) #[.pointer (some ⟨d, 0, none⟩)] #[]] := (HV.out.2.2.2.2.2.2.2.2.2.2.1) (by simp [hd])
      clear hd
      obtain ⟨sv', X1, X2, X3, X4, X5, X6⟩ := HX.out
      have bA : b 12 = false := by
        rcases Bool.eq_false_or_eq_true (b 12) with e | e
        · exact absurd (hb.symm.trans (X5 e).1) (by decide)
        · exact e
      have kz := (Below.refl wy.heap.size wy).alloc (Nat.le_refl _) (.cells #[.func (.func 162) #[.pointer (some ⟨d, 0, none⟩)] #[]] 242)
      have cq : (wy.alloc (.cells #[.func (.func 162) #[.pointer (some ⟨d, 0, none⟩)] #[]] 242)).cell? ⟨wy.heap.size, 0, none⟩ = some (.func (.func 162) #[.pointer (some ⟨d, 0, none⟩)] #[]) := (alloc_rowV wy 242 [.func (.func 162) #[.pointer (some ⟨d, 0, none⟩)] #[]]).cellAt (i := 0) rfl
      have HC := Lib.hid (And.intro X1 (And.intro X2 (And.intro X3 X6)))
      have HBA := Lib.hid bA
      have HKZ := Lib.hid kz
      have HCQ := Lib.hid cq
      clear X1 X2 X3 X4 X5 X6 bA kz cq HX
      go_simp
      have V := HV.out
      exact hK _ _ ⟨fun s => if s = 12 then .agg #[.func (.func 162) #[.pointer (some ⟨d, 0, none⟩)] #[]] else z s, _, _, rfl, Lib.hid ⟨V.1, V.2.1, V.2.2.1, V.2.2.2.1, V.2.2.2.2.1, V.2.2.2.2.2.1, V.2.2.2.2.2.2.1, V.2.2.2.2.2.2.2.1, V.2.2.2.2.2.2.2.2.1, V.2.2.2.2.2.2.2.2.2.1, fun _ => rfl, V.2.2.2.2.2.2.2.2.2.2.2.1, V.2.2.2.2.2.2.2.2.2.2.2.2⟩, Lib.hid (HW.out.trans (HKZ.out.mono (Nat.zero_le _))), Lib.hid ⟨undef, HC.out.1.trans (Off.of_below _ _ _ HKZ.out (Nat.le_refl _)), fun e => (HC.out.2.1 e).block (HKZ.out.block _ (HC.out.2.1 e).lt), fun e => Dsk.own_same (HC.out.2.2.1 e) (fun j hj hl => HKZ.out.block j hl), fun _ _ => ⟨_, rfl, HCQ.out⟩, fun e => absurd (HBA.out.symm.trans e) (by decide), fun e => absurd (HBA.out.symm.trans (HC.out.2.2.2 e).2.1) (by decide)⟩⟩
    · rintro b a wy hb hd ⟨z, z13, z14, rfl, HV, HW, HX⟩ K hK
      simp [Region.binds] at hd
      have e4 : (z 6) = sv := (HV.out.2.2.2.2.1) (by simp [hd])
      have dd11 : b 11 = true := by simp [hd]
      clear hd
      obtain ⟨sv', X1, X2, X3, X4, X5, X6⟩ := HX.out
      obtain ⟨q, zz, hq⟩ := X4 dd11 hb
      subst zz
      have bT : b 15 = false := by
        rcases Bool.eq_false_or_eq_true (b 15) with e | e
        · exact absurd (hb.symm.trans (X6 e).2.1) (by decide)
        · exact e
      obtain ⟨sv2, w4, hrun, ho4, hk4, hr4⟩ := step_more (X3 hb) hfew (Nat.le_trans hBB (Nat.le_trans (by simp) X1.size)) (.func (.func 162) #[.pointer (some ⟨d, 0, none⟩)] #[]) rfl q hq 178
      have H4 := Lib.hid (And.intro (X1.trans hk4) (And.intro ho4 (fun _ : b 15 = false => hr4 _ _ _ (X2 bT) (by decide))))
      have HBZ := Lib.hid (show Below 0 wy w4 from ⟨hk4.os, hk4.tape, hk4.output, hk4.size, fun k hk => absurd hk (Nat.not_lt_zero k)⟩)
      have HBT := Lib.hid bT
      clear X1 X2 X3 X4 X5 X6 bT hq ho4 hk4 hr4 HX
      rw [e4]
      refine if_wanted (by rfl) (wp_append_run (.tmp 6) (.tmp 13) 178 rfl _ _ rfl rfl _ w4 hrun ?_)
      have V := HV.out
      exact hK _ _ ⟨fun s => if s = 6 then sv else z s, _, _, rfl, Lib.hid ⟨V.1, V.2.1, V.2.2.1, V.2.2.2.1, fun _ => rfl, V.2.2.2.2.2.1, V.2.2.2.2.2.2.1, V.2.2.2.2.2.2.2.1, V.2.2.2.2.2.2.2.2.1, V.2.2.2.2.2.2.2.2.2.1, V.2.2.2.2.2.2.2.2.2.2.1, V.2.2.2.2.2.2.2.2.2.2.2.1, V.2.2.2.2.2.2.2.2.2.2.2.2⟩, Lib.hid (HW.out.trans HBZ.out), Lib.hid ⟨sv2, H4.out.1, H4.out.2.2, fun e => (by cases e), fun _ e => (by cases e), fun _ => ⟨dd11, rfl, H4.out.2.1⟩, fun e => absurd (HBT.out.symm.trans e) (by decide)⟩⟩
    · rintro b a wy hb hd ⟨z, z13, z14, rfl, HV, HW, HX⟩ K hK
      simp [Region.binds] at hd
      have e0 : (z 2) = Value.pointer (some ⟨P, 0, none⟩) := (HV.out.1) (by simp [hd])
      clear hd
      go_simp
      have V := HV.out
      exact hK _ _ ⟨fun s => if s = 15 then .pointer (some ⟨P, 0, none⟩) else if s = 2 then Value.pointer (some ⟨P, 0, none⟩) else z s, _, _, rfl, Lib.hid ⟨fun _ => rfl, V.2.1, V.2.2.1, V.2.2.2.1, V.2.2.2.2.1, V.2.2.2.2.2.1, V.2.2.2.2.2.2.1, V.2.2.2.2.2.2.2.1, V.2.2.2.2.2.2.2.2.1, V.2.2.2.2.2.2.2.2.2.1, V.2.2.2.2.2.2.2.2.2.2.1, fun _ => rfl, V.2.2.2.2.2.2.2.2.2.2.2.2⟩, HW, HX⟩
    · rintro b a wy hb hd ⟨z, z13, z14, rfl, HV, HW, HX⟩ K hK
      simp [Region.binds] at hd
      have e13 : (z 15) = .pointer (some ⟨P, 0, none⟩) := (HV.out.2.2.2.2.2.2.2.2.2.2.2.1) (by simp [hd])
      clear hd
      go_simp
      have V := HV.out
      exact hK _ _ ⟨fun s => if s = 16 then .pointer (some ⟨P, 1, none⟩) else if s = 15 then .pointer (some ⟨P, 0, none⟩) else z s, _, _, rfl, Lib.hid ⟨V.1, V.2.1, V.2.2.1, V.2.2.2.1, V.2.2.2.2.1, V.2.2.2.2.2.1, V.2.2.2.2.2.2.1, V.2.2.2.2.2.2.2.1, V.2.2.2.2.2.2.2.2.1, V.2.2.2.2.2.2.2.2.2.1, V.2.2.2.2.2.2.2.2.2.2.1, fun _ => rfl, fun _ => rfl⟩, HW, HX⟩
    · rintro b a wy hb hd ⟨z, z13, z14, rfl, HV, HW, HX⟩ K hK
      simp [Region.binds] at hd
      have e14 : (z 16) = .pointer (some ⟨P, 1, none⟩) := (HV.out.2.2.2.2.2.2.2.2.2.2.2.2) (by simp [hd])
      have dd12 : b 12 = true := by simp [hd]
      have dd_load : b 4 = true := by simp [hd]
      clear hd
      obtain ⟨sv', X1, X2, X3, X4, X5, X6⟩ := HX.out
      obtain ⟨d8, zz, ho⟩ := X5 dd12
      subst zz
      obtain ⟨g6, cap6, hz, _, _⟩ := ho.form (by omega)
      subst hz
      have RP := X2 hb
      have cc := RP.cellAt (i := 1) rfl
      have ff := RP.free 1
      have H4 := Lib.hid (RP.set 1 (.slice (some ⟨g6, 0, none⟩) (l.length + 1) cap6))
      have HO4 := Lib.hid (Dsk.own_same ho (fun j hj hl => heap_setCell_other wy ⟨P, 1, none⟩ j (.slice (some ⟨g6, 0, none⟩) (l.length + 1) cap6) (fun e => ne_own ho RP (by decide) (by rw [hj, e]))))
      have HX1 := Lib.hid (X1.trans (show Off plT (fun k => k < B) [] wy (wy.setCell ⟨P, 1, none⟩ (.slice (some ⟨g6, 0, none⟩) (l.length + 1) cap6)) from ⟨rfl, rfl, rfl, by simp, fun k hk _ hc => heap_setCell_other _ _ _ _ (fun e => by
          subst e
          rcases hc with hc | hc
          · exact absurd hBP (Nat.not_le.2 hc)
          · have := hc _ _ _ RP
            cases this)⟩))
      have HBZ := Lib.hid (show Below 0 wy (wy.setCell ⟨P, 1, none⟩ (.slice (some ⟨g6, 0, none⟩) (l.length + 1) cap6)) from ⟨rfl, rfl, rfl, by simp, fun k hk => absurd hk (Nat.not_lt_zero k)⟩)
      have HD8 := Lib.hid d8
      have HD4 := Lib.hid dd_load
      clear X1 X2 X3 X4 X5 X6 ho RP d8 HX
      go_simp
      have V := HV.out
      exact hK _ _ ⟨fun s => if s = 16 then .pointer (some ⟨P, 1, none⟩) else z s, _, _, rfl, Lib.hid ⟨V.1, V.2.1, V.2.2.1, V.2.2.2.1, V.2.2.2.2.1, V.2.2.2.2.2.1, V.2.2.2.2.2.2.1, V.2.2.2.2.2.2.2.1, V.2.2.2.2.2.2.2.2.1, V.2.2.2.2.2.2.2.2.2.1, V.2.2.2.2.2.2.2.2.2.2.1, V.2.2.2.2.2.2.2.2.2.2.2.1, fun _ => rfl⟩, Lib.hid (HW.out.trans HBZ.out), Lib.hid ⟨_, HX1.out, fun e => (by cases e), fun e => absurd (dd12.symm.trans e) (by decide), fun _ e => absurd (dd12.symm.trans e) (by decide), fun _ => ⟨HD8.out, rfl, HO4.out⟩, fun _ => ⟨HD4.out, dd12, H4.out⟩⟩⟩
  case doneS =>
    rintro b a w9 hb ⟨z, z13, z14, rfl, HV, HW, HX⟩
    have e0 := (HV.out.1) (hb 0)
    have e1 := (HV.out.2.1) (hb 1)
    have e2 := (HV.out.2.2.1) (hb 2)
    have e3 := (HV.out.2.2.2.1) (hb 3)
    have e4 := (HV.out.2.2.2.2.1) (hb 4)
    have e5 := (HV.out.2.2.2.2.2.1) (hb 5)
    have e6 := (HV.out.2.2.2.2.2.2.1) (hb 6)
    have e7 := (HV.out.2.2.2.2.2.2.2.1) (hb 7)
    have e8 := (HV.out.2.2.2.2.2.2.2.2.1) (hb 8)
    have e9 := (HV.out.2.2.2.2.2.2.2.2.2.1) (hb 9)
    have e10 := (HV.out.2.2.2.2.2.2.2.2.2.2.1) (hb 10)
    have e13 := (HV.out.2.2.2.2.2.2.2.2.2.2.2.1) (hb 13)
    have e14 := (HV.out.2.2.2.2.2.2.2.2.2.2.2.2) (hb 14)
    simp only [e0, e1, e2, e3, e4, e5, e6, e7, e8, e9, e10, e13, e14]
    clear HV e0 e1 e2 e3 e4 e5 e6 e7 e8 e9 e10 e13 e14
    obtain ⟨sv', X1, _, _, _, X5, X6⟩ := HX.out
    obtain ⟨_, zz, HO9⟩ := X5 (hb 12)
    subst zz
    have H9 := Lib.hid (And.intro X1 (And.intro HO9 (X6 (hb 15)).2.2))
    clear HX HW hb X1 X5 X6 HO9

    go_wp2_with fail
    go_end0
    refine ⟨rfl, ⟨_, _, H9.out.2.2, hBP, by rw [List.length_append]; exact H9.out.2.1, fun i hi => ?_⟩, H9.out.1⟩
    exact stp_snoc (s := .f) (v := .func (.func 162) #[.pointer (some ⟨d, 0, none⟩)] #[]) HS.out H9.out.1 (HO0.out.1.trans (Nat.mul_one _)) rfl i hi

set_option maxHeartbeats 2000000 in
theorem pwrite {w : World} {B P d : Nat} {l : List Stp} (h : Pln w B P d l) (hBB : B ≤ w.heap.size) (hfew : l.length < 100000) (p g c : Nat) (bs : List UInt8) (hl : bs.length = 128) (hb : Byt w g bs) :
    Calls Tryz.prog 111 #[.pointer (some ⟨P, 0, none⟩), .int .i64 (p : Int), .slice (some ⟨g, 0, none⟩) 128 c] w fun e w' => e = .returned (.tuple #[]) ∧ Pln w' B P d (l ++ [.w p bs]) ∧ Off plT (fun k => k < B) [] w w' := by
  have HH := Lib.hid h
  have HBY := Lib.hid hb
  obtain ⟨b3, hb3⟩ : ∃ b, b = w.heap.size := ⟨_, rfl⟩
  have RA := alloc_rowV w 165 [.pointer (some ⟨P, 0, none⟩)]
  have BA := (Below.refl w.heap.size w).alloc (Nat.le_refl _) (.cells #[.pointer (some ⟨P, 0, none⟩)] 165)
  have SA : (w.alloc (.cells #[.pointer (some ⟨P, 0, none⟩)] 165)).heap.size = b3 + 1 := by rw [hb3]; simp
  have RB := alloc_rowV (w.alloc (.cells #[.pointer (some ⟨P, 0, none⟩)] 165)) 3 [.int .i64 (p : Int)]
  have BB := (Below.refl (w.alloc (.cells #[.pointer (some ⟨P, 0, none⟩)] 165)).heap.size _).alloc (Nat.le_refl _) (.cells #[.int .i64 (p : Int)] 3)
  have SB : ((w.alloc (.cells #[.pointer (some ⟨P, 0, none⟩)] 165)).alloc (.cells #[.int .i64 (p : Int)] 3)).heap.size = b3 + 1 + 1 := by rw [hb3]; simp
  have RC := alloc_rowV ((w.alloc (.cells #[.pointer (some ⟨P, 0, none⟩)] 165)).alloc (.cells #[.int .i64 (p : Int)] 3)) 45 [.slice (some ⟨g, 0, none⟩) 128 c]
  have BC := (Below.refl ((w.alloc (.cells #[.pointer (some ⟨P, 0, none⟩)] 165)).alloc (.cells #[.int .i64 (p : Int)] 3)).heap.size _).alloc (Nat.le_refl _) (.cells #[.slice (some ⟨g, 0, none⟩) 128 c] 45)
  go_enter Tryz.func111, Tryz.ntmps111
  go_upto_region 1 with (fail)
  rw [← hb3] at RA BA ⊢
  rw [SA] at RB BB
  rw [SB] at RC BC
  have R3 := (RA.below (by omega) (BB.trans (BC.mono (by omega)))) 
  have R4 := (RB.below (by omega) BC)
  have BW := Lib.hid (show Below w.heap.size w (((w.alloc (.cells #[.pointer (some ⟨P, 0, none⟩)] 165)).alloc (.cells #[.int .i64 (p : Int)] 3)).alloc (.cells #[.slice (some ⟨g, 0, none⟩) 128 c] 45)) from by rw [← hb3]; exact BA.trans ((BB.mono (by omega)).trans (BC.mono (by omega))))
  have H3 := Lib.hid R3
  have H4 := Lib.hid R4
  have H5 := Lib.hid RC
  clear RA RB RC BA BB BC SA SB R3 R4
  simp only [List.toArray] at *
  generalize ((w.alloc (.cells #[.pointer (some ⟨P, 0, none⟩)] 165)).alloc (.cells #[.int .i64 (p : Int)] 3)).alloc (.cells #[.slice (some ⟨g, 0, none⟩) 128 c] 45) = w1 at *
  obtain ⟨b4, hb4⟩ : ∃ b, b = b3 + 1 := ⟨_, rfl⟩
  obtain ⟨b5, hb5⟩ : ∃ b, b = b3 + 1 + 1 := ⟨_, rfl⟩
  rw [← hb5] at H5 ⊢
  rw [← hb4] at H4 ⊢
  clear hb3 hb4 hb5
  obtain ⟨sv, vs, hr, hBP, ho, hs⟩ := h.below BW.out
  have HP0 := Lib.hid (show RowV w1.drew P 180 [.pointer (some ⟨d, 0, none⟩), sv] from hr)
  have HO0 := Lib.hid (show w1.drew.ownsRow B 242 1 sv l.length vs from ho)
  have HS := Lib.hid hs
  replace hBB : B ≤ w1.heap.size := Nat.le_trans hBB BW.out.size
  clear hr ho hs

  refine Inv2.wp_region_inv (fun b a wy => ∃ (z : Nat → Value) (z13 : Value) (z14 : Value), a = ⟨#[Value.pointer (some ⟨P, 0, none⟩), Value.int IntKind.i64 ↑p, Value.slice (some ⟨g, 0, none⟩) 128 c, Value.pointer (some ⟨b3, 0, none⟩), Value.pointer (some ⟨b4, 0, none⟩), Value.pointer (some ⟨b5, 0, none⟩), (z 6), (z 7), (z 8), (z 9), (z 10), (z 11), (z 12), z13, z14, (z 15), (z 16)], []⟩ ∧ Hid ((b 0 = true → (z 6) = .pointer (some ⟨P, 0, none⟩)) ∧ (b 1 = true → (z 7) = .pointer (some ⟨P, 0, none⟩)) ∧ (b 2 = true → (z 8) = .pointer (some ⟨P, 0, none⟩)) ∧ (b 3 = true → (z 9) = .pointer (some ⟨P, 1, none⟩)) ∧ (b 4 = true → (z 10) = sv) ∧ (b 5 = true → (z 11) = .func (.func 161) #[] #[.pointer (some ⟨b3, 0, none⟩), .pointer (some ⟨b4, 0, none⟩), .pointer (some ⟨b5, 0, none⟩)]) ∧ (b 6 = true → (z 12) = .agg #[.func (.func 161) #[] #[.pointer (some ⟨b3, 0, none⟩), .pointer (some ⟨b4, 0, none⟩), .pointer (some ⟨b5, 0, none⟩)]]) ∧ (b 9 = true → (z 15) = .pointer (some ⟨P, 0, none⟩)) ∧ (b 10 = true → (z 16) = .pointer (some ⟨P, 1, none⟩))) ∧ Hid (Below 0 w1 wy) ∧ Hid (∃ sv' : Value, Off plT (fun k => k < B) [] w1 wy ∧ (b 11 = false → RowV wy P 180 [.pointer (some ⟨d, 0, none⟩), sv]) ∧ (b 8 = false → wy.ownsRow B 242 1 sv l.length vs) ∧ (b 7 = true → b 8 = false → ∃ q, z13 = .slice (some ⟨q, 0, none⟩) 1 1 ∧ wy.cell? ⟨q, 0, none⟩ = some (.func (.func 161) #[] #[.pointer (some ⟨b3, 0, none⟩), .pointer (some ⟨b4, 0, none⟩), .pointer (some ⟨b5, 0, none⟩)])) ∧ (b 8 = true → b 7 = true ∧ z14 = sv' ∧ wy.ownsRow B 242 1 sv' (l.length + 1) (vs ++ [.func (.func 161) #[] #[.pointer (some ⟨b3, 0, none⟩), .pointer (some ⟨b4, 0, none⟩), .pointer (some ⟨b5, 0, none⟩)]])) ∧ (b 11 = true → b 4 = true ∧ b 8 = true ∧ RowV wy P 180 [.pointer (some ⟨d, 0, none⟩), sv']))) (by kernel_rfl) (by kernel_rfl) ?startS ?stepsS ?doneS
  case startS =>
    intro b hb
    refine ⟨fun s => undef, undef, undef, rfl, Lib.hid ⟨?_, ?_, ?_, ?_, ?_, ?_, ?_, ?_, ?_⟩, Lib.hid ((show Still w1 w1.drew from ⟨rfl, rfl, rfl, rfl⟩).below _), Lib.hid (⟨undef, (Off.refl _ _ _ _).trans (Off.of_below _ _ _ ((show Still w1 w1.drew from ⟨rfl, rfl, rfl, rfl⟩).below _) (Nat.le_refl _)), fun _ => HP0.out, fun _ => HO0.out, fun e => absurd (e.symm.trans (hb 7 (by decide))) (by decide), fun e => absurd (e.symm.trans (hb 8 (by decide))) (by decide), fun e => absurd (e.symm.trans (hb 11 (by decide))) (by decide)⟩)⟩
    all_goals (intro e; first | rfl | (rw [hb _ (by decide)] at e; cases e))
  case stepsS =>
    refine ⟨?_, ?_, ?_, ?_, ?_, ?_, ?_, ?_, ?_, ?_, ?_, ?_, trivial⟩
    · rintro b a wy hb hd ⟨z, z13, z14, rfl, HV, HW, HX⟩ K hK
      clear hd
      obtain ⟨sv', X1, X2, X3, X4, X5, X6⟩ := HX.out
      have cc : wy.cell? ⟨b3, 0, none⟩ = some (Value.pointer (some ⟨P, 0, none⟩)) := (X1.rowV H3.out (by simp) rfl).cellAt (i := 0) rfl
      clear X1 X2 X3 X4 X5 X6
      go_simp
      have V := HV.out
      exact hK _ _ ⟨fun s => if s = 6 then .pointer (some ⟨P, 0, none⟩) else z s, _, _, rfl, Lib.hid ⟨fun _ => rfl, V.2.1, V.2.2.1, V.2.2.2.1, V.2.2.2.2.1, V.2.2.2.2.2.1, V.2.2.2.2.2.2.1, V.2.2.2.2.2.2.2.1, V.2.2.2.2.2.2.2.2⟩, HW, HX⟩
    · rintro b a wy hb hd ⟨z, z13, z14, rfl, HV, HW, HX⟩ K hK
      clear hd
      obtain ⟨sv', X1, X2, X3, X4, X5, X6⟩ := HX.out
      have cc : wy.cell? ⟨b3, 0, none⟩ = some (Value.pointer (some ⟨P, 0, none⟩)) := (X1.rowV H3.out (by simp) rfl).cellAt (i := 0) rfl
      clear X1 X2 X3 X4 X5 X6
      go_simp
      have V := HV.out
      exact hK _ _ ⟨fun s => if s = 7 then .pointer (some ⟨P, 0, none⟩) else z s, _, _, rfl, Lib.hid ⟨V.1, fun _ => rfl, V.2.2.1, V.2.2.2.1, V.2.2.2.2.1, V.2.2.2.2.2.1, V.2.2.2.2.2.2.1, V.2.2.2.2.2.2.2.1, V.2.2.2.2.2.2.2.2⟩, HW, HX⟩
    · rintro b a wy hb hd ⟨z, z13, z14, rfl, HV, HW, HX⟩ K hK
      simp [Region.binds] at hd
      have e1 : (z 7) = .pointer (some ⟨P, 0, none⟩) := (HV.out.2.1) (by simp [hd])
      clear hd
      go_simp
      have V := HV.out
      exact hK _ _ ⟨fun s => if s = 8 then .pointer (some ⟨P, 0, none⟩) else if s = 7 then .pointer (some ⟨P, 0, none⟩) else z s, _, _, rfl, Lib.hid ⟨V.1, fun _ => rfl, fun _ => rfl, V.2.2.2.1, V.2.2.2.2.1, V.2.2.2.2.2.1, V.2.2.2.2.2.2.1, V.2.2.2.2.2.2.2.1, V.2.2.2.2.2.2.2.2⟩, HW, HX⟩
    · rintro b a wy hb hd ⟨z, z13, z14, rfl, HV, HW, HX⟩ K hK
      simp [Region.binds] at hd
      have e2 : (z 8) = .pointer (some ⟨P, 0, none⟩) := (HV.out.2.2.1) (by simp [hd])
      clear hd
      go_simp
      have V := HV.out
      exact hK _ _ ⟨fun s => if s = 9 then .pointer (some ⟨P, 1, none⟩) else if s = 8 then .pointer (some ⟨P, 0, none⟩) else z s, _, _, rfl, Lib.hid ⟨V.1, V.2.1, fun _ => rfl, fun _ => rfl, V.2.2.2.2.1, V.2.2.2.2.2.1, V.2.2.2.2.2.2.1, V.2.2.2.2.2.2.2.1, V.2.2.2.2.2.2.2.2⟩, HW, HX⟩
    · rintro b a wy hb hd ⟨z, z13, z14, rfl, HV, HW, HX⟩ K hK
      simp [Region.binds] at hd
      have e3 : (z 9) = .pointer (some ⟨P, 1, none⟩) := (HV.out.2.2.2.1) (by simp [hd])
      clear hd
      obtain ⟨sv', X1, X2, X3, X4, X5, X6⟩ := HX.out
      have bT : b 11 = false := by
        rcases Bool.eq_false_or_eq_true (b 11) with e | e
        · exact absurd (hb.symm.trans (X6 e).1) (by decide)
        · exact e
      have cc := (X2 bT).cellAt (i := 1) rfl
      have HC := Lib.hid (And.intro X1 (And.intro X2 (And.intro X3 (And.intro X4 (And.intro X5 X6)))))
      clear X1 X2 X3 X4 X5 X6 bT HX
      go_simp
      have V := HV.out
      exact hK _ _ ⟨fun s => if s = 10 then sv else if s = 9 then .pointer (some ⟨P, 1, none⟩) else z s, _, _, rfl, Lib.hid ⟨V.1, V.2.1, V.2.2.1, fun _ => rfl, fun _ => rfl, V.2.2.2.2.2.1, V.2.2.2.2.2.2.1, V.2.2.2.2.2.2.2.1, V.2.2.2.2.2.2.2.2⟩, HW, Lib.hid ⟨sv', HC.out.1, HC.out.2.1, HC.out.2.2.1, HC.out.2.2.2.1, HC.out.2.2.2.2.1, fun e => ⟨rfl, (HC.out.2.2.2.2.2 e).2⟩⟩⟩
    · rintro b a wy hb hd ⟨z, z13, z14, rfl, HV, HW, HX⟩ K hK
      clear hd
      go_simp
      have V := HV.out
      exact hK _ _ ⟨fun s => if s = 11 then .func (.func 161) #[] #[.pointer (some ⟨b3, 0, none⟩), .pointer (some ⟨b4, 0, none⟩), .pointer (some ⟨b5, 0, none⟩)] else z s, _, _, rfl, Lib.hid ⟨V.1, V.2.1, V.2.2.1, V.2.2.2.1, V.2.2.2.2.1, fun _ => rfl, V.2.2.2.2.2.2.1, V.2.2.2.2.2.2.2.1, V.2.2.2.2.2.2.2.2⟩, HW, HX⟩
    · rintro b a wy hb hd ⟨z, z13, z14, rfl, HV, HW, HX⟩ K hK
      simp [Region.binds] at hd
      have e5 : (z 11) = .func (.func 161) #[] #[.pointer (some ⟨b3, 0, none⟩), .pointer (some ⟨b4, 0, none⟩), .pointer (some ⟨b5, 0, none⟩)] := (HV.out.2.2.2.2.2.1) (by simp [hd])
      clear hd
      go_simp
      have V := HV.out
      exact hK _ _ ⟨fun s => if s = 12 then .agg #[.func (.func 161) #[] #[.pointer (some ⟨b3, 0, none⟩), .pointer (some ⟨b4, 0, none⟩), .pointer (some ⟨b5, 0, none⟩)]] else if s = 11 then .func (.func 161) #[] #[.pointer (some ⟨b3, 0, none⟩), .pointer (some ⟨b4, 0, none⟩), .pointer (some ⟨b5, 0, none⟩)] else z s, _, _, rfl, Lib.hid ⟨V.1, V.2.1, V.2.2.1, V.2.2.2.1, V.2.2.2.2.1, fun _ => rfl, fun _ => rfl, V.2.2.2.2.2.2.2.1, V.2.2.2.2.2.2.2.2⟩, HW, HX⟩
    · rintro b a wy hb hd ⟨z, z13, z14, rfl, HV, HW, HX⟩ K hK
      simp [Region.binds] at hd
      have e6 : (z 12) = .agg #[.func (.func 161) #[] #[.pointer (some ⟨b3, 0, none⟩), .pointer (some ⟨b4, 0, none⟩), .pointer (some ⟨b5, 0, none⟩)]] := (HV.out.2.2.2.2.2.2.1) (by simp [hd])
      clear hd
      obtain ⟨sv', X1, X2, X3, X4, X5, X6⟩ := HX.out
      have bA : b 8 = false := by
        rcases Bool.eq_false_or_eq_true (b 8) with e | e
        · exact absurd (hb.symm.trans (X5 e).1) (by decide)
        · exact e
      have kz := (Below.refl wy.heap.size wy).alloc (Nat.le_refl _) (.cells #[.func (.func 161) #[] #[.pointer (some ⟨b3, 0, none⟩), .pointer (some ⟨b4, 0, none⟩), .pointer (some ⟨b5, 0, none⟩)]] 242)
      have cq : (wy.alloc (.cells #[.func (.func 161) #[] #[.pointer (some ⟨b3, 0, none⟩), .pointer (some ⟨b4, 0, none⟩), .pointer (some ⟨b5, 0, none⟩)]] 242)).cell? ⟨wy.heap.size, 0, none⟩ = some (.func (.func 161) #[] #[.pointer (some ⟨b3, 0, none⟩), .pointer (some ⟨b4, 0, none⟩), .pointer (some ⟨b5, 0, none⟩)]) := (alloc_rowV wy 242 [.func (.func 161) #[] #[.pointer (some ⟨b3, 0, none⟩), .pointer (some ⟨b4, 0, none⟩), .pointer (some ⟨b5, 0, none⟩)]]).cellAt (i := 0) rfl
      have HC := Lib.hid (And.intro X1 (And.intro X2 (And.intro X3 X6)))
      have HBA := Lib.hid bA
      have HKZ := Lib.hid kz
      have HCQ := Lib.hid cq
      clear X1 X2 X3 X4 X5 X6 bA kz cq HX
      go_simp
      have V := HV.out
      exact hK _ _ ⟨fun s => if s = 12 then .agg #[.func (.func 161) #[] #[.pointer (some ⟨b3, 0, none⟩), .pointer (some ⟨b4, 0, none⟩), .pointer (some ⟨b5, 0, none⟩)]] else z s, _, _, rfl, Lib.hid ⟨V.1, V.2.1, V.2.2.1, V.2.2.2.1, V.2.2.2.2.1, V.2.2.2.2.2.1, fun _ => rfl, V.2.2.2.2.2.2.2.1, V.2.2.2.2.2.2.2.2⟩, Lib.hid (HW.out.trans (HKZ.out.mono (Nat.zero_le _))), Lib.hid ⟨undef, HC.out.1.trans (Off.of_below _ _ _ HKZ.out (Nat.le_refl _)), fun e => (HC.out.2.1 e).block (HKZ.out.block _ (HC.out.2.1 e).lt), fun e => Dsk.own_same (HC.out.2.2.1 e) (fun j hj hl => HKZ.out.block j hl), fun _ _ => ⟨_, rfl, HCQ.out⟩, fun e => absurd (HBA.out.symm.trans e) (by decide), fun e => absurd (HBA.out.symm.trans (HC.out.2.2.2 e).2.1) (by decide)⟩⟩
    · rintro b a wy hb hd ⟨z, z13, z14, rfl, HV, HW, HX⟩ K hK
      simp [Region.binds] at hd
      have e4 : (z 10) = sv := (HV.out.2.2.2.2.1) (by simp [hd])
      have dd7 : b 7 = true := by simp [hd]
      clear hd
      obtain ⟨sv', X1, X2, X3, X4, X5, X6⟩ := HX.out
      obtain ⟨q, zz, hq⟩ := X4 dd7 hb
      subst zz
      have bT : b 11 = false := by
        rcases Bool.eq_false_or_eq_true (b 11) with e | e
        · exact absurd (hb.symm.trans (X6 e).2.1) (by decide)
        · exact e
      obtain ⟨sv2, w4, hrun, ho4, hk4, hr4⟩ := step_more (X3 hb) hfew (Nat.le_trans hBB (Nat.le_trans (by simp) X1.size)) (.func (.func 161) #[] #[.pointer (some ⟨b3, 0, none⟩), .pointer (some ⟨b4, 0, none⟩), .pointer (some ⟨b5, 0, none⟩)]) rfl q hq 178
      have H4 := Lib.hid (And.intro (X1.trans hk4) (And.intro ho4 (fun _ : b 11 = false => hr4 _ _ _ (X2 bT) (by decide))))
      have HBZ := Lib.hid (show Below 0 wy w4 from ⟨hk4.os, hk4.tape, hk4.output, hk4.size, fun k hk => absurd hk (Nat.not_lt_zero k)⟩)
      have HBT := Lib.hid bT
      clear X1 X2 X3 X4 X5 X6 bT hq ho4 hk4 hr4 HX
      rw [e4]
      refine if_wanted (by rfl) (wp_append_run (.tmp 10) (.tmp 13) 178 rfl _ _ rfl rfl _ w4 hrun ?_)
      have V := HV.out
      exact hK _ _ ⟨fun s => if s = 10 then sv else z s, _, _, rfl, Lib.hid ⟨V.1, V.2.1, V.2.2.1, V.2.2.2.1, fun _ => rfl, V.2.2.2.2.2.1, V.2.2.2.2.2.2.1, V.2.2.2.2.2.2.2.1, V.2.2.2.2.2.2.2.2⟩, Lib.hid (HW.out.trans HBZ.out), Lib.hid ⟨sv2, H4.out.1, H4.out.2.2, fun e => (by cases e), fun _ e => (by cases e), fun _ => ⟨dd7, rfl, H4.out.2.1⟩, fun e => absurd (HBT.out.symm.trans e) (by decide)⟩⟩
    · rintro b a wy hb hd ⟨z, z13, z14, rfl, HV, HW, HX⟩ K hK
      simp [Region.binds] at hd
      have e0 : (z 6) = .pointer (some ⟨P, 0, none⟩) := (HV.out.1) (by simp [hd])
      clear hd
      go_simp
      have V := HV.out
      exact hK _ _ ⟨fun s => if s = 15 then .pointer (some ⟨P, 0, none⟩) else if s = 6 then .pointer (some ⟨P, 0, none⟩) else z s, _, _, rfl, Lib.hid ⟨fun _ => rfl, V.2.1, V.2.2.1, V.2.2.2.1, V.2.2.2.2.1, V.2.2.2.2.2.1, V.2.2.2.2.2.2.1, fun _ => rfl, V.2.2.2.2.2.2.2.2⟩, HW, HX⟩
    · rintro b a wy hb hd ⟨z, z13, z14, rfl, HV, HW, HX⟩ K hK
      simp [Region.binds] at hd
      have e9 : (z 15) = .pointer (some ⟨P, 0, none⟩) := (HV.out.2.2.2.2.2.2.2.1) (by simp [hd])
      clear hd
      go_simp
      have V := HV.out
      exact hK _ _ ⟨fun s => if s = 16 then .pointer (some ⟨P, 1, none⟩) else if s = 15 then .pointer (some ⟨P, 0, none⟩) else z s, _, _, rfl, Lib.hid ⟨V.1, V.2.1, V.2.2.1, V.2.2.2.1, V.2.2.2.2.1, V.2.2.2.2.2.1, V.2.2.2.2.2.2.1, fun _ => rfl, fun _ => rfl⟩, HW, HX⟩
    · rintro b a wy hb hd ⟨z, z13, z14, rfl, HV, HW, HX⟩ K hK
      simp [Region.binds] at hd
      have e10 : (z 16) = .pointer (some ⟨P, 1, none⟩) := (HV.out.2.2.2.2.2.2.2.2) (by simp [hd])
      have dd8 : b 8 = true := by simp [hd]
      have dd_load : b 4 = true := by simp [hd]
      clear hd
      obtain ⟨sv', X1, X2, X3, X4, X5, X6⟩ := HX.out
      obtain ⟨d8, zz, ho⟩ := X5 dd8
      subst zz
      obtain ⟨g6, cap6, hz, _, _⟩ := ho.form (by omega)
      subst hz
      have RP := X2 hb
      have cc := RP.cellAt (i := 1) rfl
      have ff := RP.free 1
      have H4 := Lib.hid (RP.set 1 (.slice (some ⟨g6, 0, none⟩) (l.length + 1) cap6))
      have HO4 := Lib.hid (Dsk.own_same ho (fun j hj hl => heap_setCell_other wy ⟨P, 1, none⟩ j (.slice (some ⟨g6, 0, none⟩) (l.length + 1) cap6) (fun e => ne_own ho RP (by decide) (by rw [hj, e]))))
      have HX1 := Lib.hid (X1.trans (show Off plT (fun k => k < B) [] wy (wy.setCell ⟨P, 1, none⟩ (.slice (some ⟨g6, 0, none⟩) (l.length + 1) cap6)) from ⟨rfl, rfl, rfl, by simp, fun k hk _ hc => heap_setCell_other _ _ _ _ (fun e => by
          subst e
          rcases hc with hc | hc
          · exact absurd hBP (Nat.not_le.2 hc)
          · have := hc _ _ _ RP
            cases this)⟩))
      have HBZ := Lib.hid (show Below 0 wy (wy.setCell ⟨P, 1, none⟩ (.slice (some ⟨g6, 0, none⟩) (l.length + 1) cap6)) from ⟨rfl, rfl, rfl, by simp, fun k hk => absurd hk (Nat.not_lt_zero k)⟩)
      have HD8 := Lib.hid d8
      have HD4 := Lib.hid dd_load
      clear X1 X2 X3 X4 X5 X6 ho RP d8 HX
      go_simp
      have V := HV.out
      exact hK _ _ ⟨fun s => if s = 16 then .pointer (some ⟨P, 1, none⟩) else z s, _, _, rfl, Lib.hid ⟨V.1, V.2.1, V.2.2.1, V.2.2.2.1, V.2.2.2.2.1, V.2.2.2.2.2.1, V.2.2.2.2.2.2.1, V.2.2.2.2.2.2.2.1, fun _ => rfl⟩, Lib.hid (HW.out.trans HBZ.out), Lib.hid ⟨_, HX1.out, fun e => (by cases e), fun e => absurd (dd8.symm.trans e) (by decide), fun _ e => absurd (dd8.symm.trans e) (by decide), fun _ => ⟨HD8.out, rfl, HO4.out⟩, fun _ => ⟨HD4.out, dd8, H4.out⟩⟩⟩
  case doneS =>
    rintro b a w9 hb ⟨z, z13, z14, rfl, HV, HW, HX⟩
    have e0 := (HV.out.1) (hb 0)
    have e1 := (HV.out.2.1) (hb 1)
    have e2 := (HV.out.2.2.1) (hb 2)
    have e3 := (HV.out.2.2.2.1) (hb 3)
    have e4 := (HV.out.2.2.2.2.1) (hb 4)
    have e5 := (HV.out.2.2.2.2.2.1) (hb 5)
    have e6 := (HV.out.2.2.2.2.2.2.1) (hb 6)
    have e9 := (HV.out.2.2.2.2.2.2.2.1) (hb 9)
    have e10 := (HV.out.2.2.2.2.2.2.2.2) (hb 10)
    simp only [e0, e1, e2, e3, e4, e5, e6, e9, e10]
    clear HV e0 e1 e2 e3 e4 e5 e6 e9 e10
    obtain ⟨sv', X1, _, _, _, X5, X6⟩ := HX.out
    obtain ⟨_, zz, HO9⟩ := X5 (hb 8)
    subst zz
    have H9 := Lib.hid (And.intro X1 (And.intro HO9 (X6 (hb 11)).2.2))
    clear HX HW hb X1 X5 X6 HO9

    go_wp2_with fail
    go_end0
    refine ⟨rfl, ⟨_, _, H9.out.2.2, hBP, by rw [List.length_append]; exact H9.out.2.1, fun i hi => ?_⟩, (Off.of_below _ _ _ BW.out (Nat.le_refl _)).trans H9.out.1⟩
    refine stp_snoc (s := .w p bs) (v := .func (.func 161) #[] #[.pointer (some ⟨b3, 0, none⟩), .pointer (some ⟨b4, 0, none⟩), .pointer (some ⟨b5, 0, none⟩)]) HS.out H9.out.1 (HO0.out.1.trans (Nat.mul_one _)) ⟨b3, b4, b5, g, c, rfl, H9.out.1.rowV H3.out (by simp) rfl, H9.out.1.rowV H4.out (by simp) rfl, H9.out.1.rowV H5.out (by simp) rfl, ?_, hl⟩ i hi
    exact (HBY.out.below HBY.out.lt BW.out).off H9.out.1 (by simp) rfl

end Go.Proofs.YtogchamogbendaaGreat.Bs
/- Pages and a super as steps of a plan; a plan is done. (Written by bin/gen_bsj.py.) -/
namespace Go.Proofs.YtogchamogbendaaGreat.Bs
set_option maxRecDepth 100000
open Go.RowKit Go.Proofs.YtogchamogbendaaGreat.Oct Go.Proofs.YtogchamogbendaaGreat.Mv Go.Proofs.YtogchamogbendaaGreat.Tl Go.Proofs.YtogchamogbendaaGreat.Pk Go.Proofs.YtogchamogbendaaGreat.Pl Go.Maps Go.ChangeMaps
open Go.Proofs.YtogchamogbendaaGreat.Dsk (dT)
open Go.Proofs.YtogchamogbendaaGreat.Su (Sup nth scells)
open Go.Proofs.YtogchamogbendaaGreat.Ix (idxPage idxBody wvals Wd)
set_option linter.unusedVariables false
set_option linter.unusedSimpArgs false

theorem seal_byt {w w' : World} {g cap : Nat} {bs : List UInt8} (h : Fresh w w' g bs cap) : Byt w' g bs := ⟨h.has, h.typ⟩
/-- What a step of a plan leaves: one step more. -/
def More (w : World) (B P d : Nat) (l m : List Stp) (e : Ending) (w' : World) : Prop := e = .returned (.tuple #[]) ∧ Pln w' B P d (l ++ m) ∧ Off plT (fun k => k < B) [] w w'
section
variable {w : World} {B P d : Nat} {l : List Stp}
theorem prow (h : Pln w B P d l) (hBB : B ≤ w.heap.size) (hfew : l.length < 100000) (k : UInt8) (hk : k = 4 ∨ k = 5) (p : Nat) {Ad : Option Addr} {n c : Nat} {ns : List UInt16} (hw : Wd w Ad n c ns) (hn : n ≤ 61) :
    Calls Tryz.prog 163 #[.pointer (some ⟨P, 0, none⟩), .int .u8 (k.toNat : Int), .int .i64 (p : Int), .slice Ad n c] w (More w B P d l [.w p (idxPage k ns)]) := by
  have H := Lib.hid h
  have hf : Ix.Fit k ns := ⟨hk, by rw [hw.el]; exact hn⟩
  have HE := Lib.hid (Ix.encode_yes k hw hf)
  have HL := Lib.hid (Ix.length_idxPage k ns (by rw [hw.el]; exact hn))
  clear h hw hf
  go_enter Tryz.func163, Tryz.ntmps163
  go_wp2_with fail
  refine HE.out.mono ?_
  rintro e w1 ⟨g, rfl, F⟩
  have HF := Lib.hid F
  clear F
  go_wp2_with fail
  refine (pwrite (H.out.below HF.out.below) (Nat.le_trans hBB HF.out.below.size) hfew p g 128 (idxPage k ns) HL.out (seal_byt HF.out)).mono ?_
  rintro e w2 ⟨rfl, hp, ho⟩
  have HP := Lib.hid hp
  have HO := Lib.hid ho
  clear hp ho
  dsimp only
  go_wp2_with fail
  go_end0
  exact ⟨rfl, HP.out, (Off.of_below _ _ _ HF.out.below (Nat.le_refl _)).trans HO.out⟩
theorem slot_any (n : Nat) (w : World) (hn : n < 18446744073709551616) :
    Calls Tryz.prog 168 #[.int .u64 (n : Int)] w fun e w' => e = .returned (.int .i64 ((n % 2 : Nat) : Int)) ∧ w = w' := by
  have hn0 : (0 : Int) ≤ (n : Int) := by omega
  go_enter Tryz.func168, Tryz.ntmps168
  go_wp2_with fail
  go_ret
  exact ⟨by first | rfl | (congr 2; omega), rfl⟩
/-- The steps that let a super count. -/
def finSteps (s : Sup) : List Stp := [.f, .w (nth s 0 % 2) (Su.supPage s), .f]
set_option maxHeartbeats 1000000 in
theorem pfinish (h : Pln w B P d l) (hBB : B ≤ w.heap.size) (hfew : l.length < 99000) (s : Sup) (hs : Su.Ok s) (hf : Su.Fit s) :
    Calls Tryz.prog 114 #[.pointer (some ⟨P, 0, none⟩), Su.sval s] w (More w B P d l (finSteps s)) := by
  have H := Lib.hid h
  have HS := Lib.hid hs
  have hb := (Below.refl w.heap.size w).alloc (Nat.le_refl _) (.cells (scells s).toArray 69)
  have hr := alloc_rowV w 69 (scells s)
  have HE := Lib.hid (fun w' => Su.encode_yes s hs w' hf)
  unfold Su.sval at HE ⊢
  have HLP := Lib.hid (Su.length_supPage s)
  have hg := hs.lt 0
  clear h hs hf
  go_enter Tryz.func114, Tryz.ntmps114
  go_upto_region 1 with (fail)
  obtain ⟨g0, hg0⟩ : ∃ g, g = w.heap.size := ⟨_, rfl⟩
  have hgl : g0 < (w.alloc (.cells (scells s).toArray 69)).heap.size := by rw [hg0]; simp
  rw [← hg0] at hr hb ⊢
  have HB0 := Lib.hid (show Below w.heap.size w (w.alloc (.cells (scells s).toArray 69)) from by rw [← hg0]; exact hb)
  have HG0 := Lib.hid hgl
  have HR0 := Lib.hid hr
  clear hr hb hg0 hgl
  generalize w.alloc (.cells (scells s).toArray 69) = w0 at *
  have H0 := Lib.hid (H.out.below HB0.out)
  have hBB0 : B ≤ w0.heap.size := Nat.le_trans hBB HB0.out.size
  clear H
  go_wp2_with (refine wpList_load_row rfl 69 (.tmp 3) rfl g0 rfl _ (scells s).toArray _ _ HR0.out Tryz.underlying69 rfl (Su.size_scells s) ?_)
  refine (HE.out w0).mono ?_
  rintro e w1 ⟨g, rfl, F⟩
  have HF := Lib.hid F
  have H1 := Lib.hid (H0.out.below F.below)
  have HR1 := Lib.hid (HR0.out.below HG0.out F.below)
  have hBB1 : B ≤ w1.heap.size := Nat.le_trans hBB0 F.below.size
  have HB1 := Lib.hid (Off.of_below plT (fun k => k < B) [] (HB0.out.trans (F.below.mono HB0.out.size)) (Nat.le_refl _))
  clear F H0 hBB0 HE
  go_wp2_with fail
  refine (pflush H1.out hBB1 (by omega)).mono ?_
  rintro e w2 ⟨rfl, hp, ho⟩
  have H2 := Lib.hid hp
  have HB2 := Lib.hid (HB1.out.trans ho)
  have HR2 := Lib.hid (ho.rowV HR1.out (by simp) rfl)
  have HY2 := Lib.hid ((seal_byt HF.out).off ho (by simp) rfl)
  have hBB2 : B ≤ w2.heap.size := Nat.le_trans hBB1 ho.size
  clear hp ho H1 HR1 HB1 hBB1
  have c0 := HR2.out.cellAt (i := 0) (Su.scells_at s 0 (by omega))
  rw [Su.scell_wide 0 _ (.inl rfl)] at c0
  dsimp only
  go_wp2_with fail
  refine (slot_any (nth s 0) _ hg).mono ?_
  rintro e w' ⟨rfl, rfl⟩
  clear c0
  go_wp2_with fail
  refine (pwrite H2.out hBB2 (by rw [List.length_append]; simp; omega) (nth s 0 % 2) g 128 (Su.supPage s) HLP.out HY2.out).mono ?_
  rintro e w3 ⟨rfl, hp, ho⟩
  have H3 := Lib.hid hp
  have HB3 := Lib.hid (HB2.out.trans ho)
  have hBB3 : B ≤ w3.heap.size := Nat.le_trans hBB2 ho.size
  clear hp ho H2 HB2 hBB2
  dsimp only
  go_wp2_with fail
  refine (pflush H3.out hBB3 (by rw [List.length_append, List.length_append]; simp; omega)).mono ?_
  rintro e w4 ⟨rfl, hp, ho⟩
  have H4 := Lib.hid hp
  have HB4 := Lib.hid (HB3.out.trans ho)
  clear hp ho H3 HB3 hBB3
  dsimp only
  go_wp2_with fail
  go_end0
  refine ⟨rfl, ?_, HB4.out⟩
  have := H4.out
  rw [List.append_assoc, List.append_assoc] at this
  exact this

end
end Go.Proofs.YtogchamogbendaaGreat.Bs
