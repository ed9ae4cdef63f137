/- TallyFree's walk. (Written by bin/gen_tlfree.py.) -/
import Derived.Test.YtigmgaedpdeleaaTlP
namespace Go.Proofs.Ytigmgaedpdeleaa.Tl
open Go.RowKit Go.Proofs.Ytigmgaedpdeleaa.Oct Go.Proofs.Ytigmgaedpdeleaa.Mv Go.Maps
set_option linter.unusedVariables false

/-! ### What an operation makes of a tally -/
theorem n_up (s : St) (b : Int) : (s.up b).2.n = s.n := by
  unfold St.up
  split
  · split
    · rfl
    · exact n_put _ _ _
  · rfl
theorem n_down (s : St) (b : Int) : (s.down b).2.n = s.n := by
  unfold St.down
  split
  · split
    · rfl
    · exact n_put _ _ _
  · rfl
theorem n_did {s : St} (h : s.Ok) (x : Opr) : (s.did x).n = s.n := by
  unfold St.did
  split
  · exact n_up _ _
  · split
    · exact n_down _ _
    · split
      · rfl
      · exact h.len
theorem free_up {s : St} {x : Opr} (hx : x.what.toNat % 4 = 0) {j : Nat} (hf : (s.did x).free j = true) : s.free j = true := by
  unfold St.did at hf
  rw [if_pos hx] at hf
  unfold St.up at hf
  by_cases hb : s.isIn (spot s.n x.b : Int)
  · rw [if_pos hb, Int.toNat_natCast] at hf
    by_cases hc : s.cnt (spot s.n x.b) = 65535
    · rw [if_pos hc] at hf
      exact hf
    · rw [if_neg hc] at hf
      have hp : spot s.n x.b < s.n := by have := hb.2; omega
      have h2 : (s.put (spot s.n x.b) (s.cnt (spot s.n x.b) + 1)).free j = true := hf
      unfold St.free at h2 ⊢
      rw [cnt_put hp, was_put] at h2
      by_cases e : j = spot s.n x.b
      · rw [if_pos e] at h2
        have h3 : s.cnt (spot s.n x.b) + 1 = 0 := by
          have := (Bool.and_eq_true _ _ ▸ h2).1
          simpa using this
        have h4 := congrArg UInt16.toNat h3
        rw [UInt16.toNat_add] at h4
        have h5 : (s.cnt (spot s.n x.b)).toNat ≠ 65535 := fun e' => hc (UInt16.toNat_inj.1 (by rw [e']; rfl))
        have h6 := u16_lt (s.cnt (spot s.n x.b))
        have h7 : ((s.cnt (spot s.n x.b)).toNat + 1) % 65536 = 0 := h4
        omega
      · rw [if_neg e] at h2
        exact h2
  · rw [if_neg hb] at hf
    exact hf
def St.nought (s : St) (j : Nat) : Bool := s.cnt j == 0
theorem nought_split (s : St) (k : Nat) : (List.range k).countP s.nought = (List.range k).countP s.free + (List.range k).countP s.waits := by
  induction k with
  | zero => rfl
  | succ k ih =>
    rw [countP_succ, countP_succ, countP_succ, ih]
    unfold St.nought St.free St.waits
    cases s.cnt k == 0 <;> cases e : (s.was k == 0) <;> simp [bne, e] <;> omega
theorem idle_same (l : List UInt16) : (St.mk l l).idle = 0 := by
  unfold St.idle
  rw [List.countP_eq_zero]
  intro j _
  simp [St.waits, St.cnt, St.was]
theorem changed_same (l : List UInt16) : (St.mk l l).changed = [] := by
  unfold St.changed
  rw [List.filter_eq_nil_iff]
  intro j _
  rw [moved_same]
  simp
theorem idle_keep (s : St) : s.keep.idle = 0 := idle_same _
theorem changed_keep (s : St) : s.keep.changed = [] := changed_same _
theorem changed_back (s : St) : s.back.changed = [] := changed_same _
theorem did_keep {s : St} {x : Opr} (h : x.what.toNat % 4 = 2) : s.did x = s.keep := by
  unfold St.did
  rw [if_neg (by omega), if_neg (by omega), if_pos h]
theorem did_back {s : St} {x : Opr} (h : x.what.toNat % 4 = 3) : s.did x = s.back := by
  unfold St.did
  rw [if_neg (by omega), if_neg (by omega), if_neg (by omega)]
theorem cnt_of_free {s : St} {j : Nat} (h : s.free j = true) : ((s.cnt j).toNat : Int) = 0 := by
  unfold St.free at h
  have := (Bool.and_eq_true _ _ ▸ h).1
  have h2 : s.cnt j = 0 := by simpa using this
  rw [h2]
  rfl

/-! ### A row of flags -/
def bools (l : List Bool) : List Value := l.map .bool
theorem bool_info : (Try.prog.info? 4).map (fun i => (i.zero, i.size, i.bytes)) = some (some (.bool false), 1, 1) := by kernel_rfl
theorem made_flags (n : Nat) : madeCells (Value.bool false).cells n = (bools (List.replicate n false)).toArray := by
  apply Array.ext
  · simp [madeCells, bools]
  · intro i h1 h2
    simp [madeCells, bools, Value.cells, Nat.mod_one]
theorem run_make_flags (w : World) (n : Nat) (hn : n ≤ 4096) :
    (Instr.makeSlice 50 (.int .i64 (n : Int)) (.int .i64 (n : Int))).run Try.prog w = .ok (.slice (some ⟨w.heap.size, 0, none⟩) n n) (w.alloc (.cells (bools (List.replicate n false)).toArray 4)) := by
  obtain ⟨i0, hi, hz0, hz1, hz2⟩ := info_parts bool_info
  have h := run_make (P := Try.prog) w 50 4 i0 (.bool false) Try.underlying50 hi hz0 .i64 .i64 n n (by omega) (by omega) (by rw [hz2]; omega) (by omega)
  rw [hz1, Nat.mul_one, Int.toNat_natCast, made_flags] at h
  exact h
/-- The flags of the first k of n. -/
def flags (p : Nat → Bool) (n k : Nat) : List Value := (List.range n).map fun j => .bool (decide (j < k) && p j)
theorem flags_zero (p : Nat → Bool) (n : Nat) : flags p n 0 = bools (List.replicate n false) := by
  unfold flags bools
  refine List.ext_getElem (by simp) fun i h1 h2 => by simp
theorem flags_succ (p : Nat → Bool) {n k : Nat} (hk : k < n) : (flags p n k).set k (.bool (p k)) = flags p n (k + 1) := by
  unfold flags
  refine List.ext_getElem (by simp) fun i h1 h2 => ?_
  rw [List.getElem_set]
  by_cases e : k = i
  · subst e; simp
  · have : (i < k) = (i < k + 1) := propext ⟨fun h => by omega, fun h => by omega⟩
    simp [e, this]
theorem flags_at (p : Nat → Bool) {n i : Nat} (hi : i < n) : (flags p n n)[i]? = some (.bool (p i)) := by
  unfold flags
  simp [hi]
theorem At.setOther {w : World} {a cb mb c : Nat} {s : St} (h : At w a cb mb c s) {q : Nat} (h1 : a ≠ q) (h2 : cb ≠ q) (h3 : mb ≠ q) (i : Nat) (v : Value) : At (w.setCell ⟨q, i, none⟩ v) a cb mb c s :=
  h.blocks (heap_setCell_other _ _ _ _ h1) (heap_setCell_other _ _ _ _ h2) (heap_setCell_other _ _ _ _ h3)
theorem At.lts {w : World} {a cb mb c : Nat} {s : St} (h : At w a cb mb c s) : a < w.heap.size ∧ cb < w.heap.size ∧ mb < w.heap.size := ⟨h.row.lt, h.cb_lt, h.mp.lt⟩
theorem row_but {w w' : World} {g p q : Nat} {T : TypeId} {vs : List Value} (h : RowV w g T vs) (k : But w w' p q) (h1 : g ≠ p) (h2 : g ≠ q) : RowV w' g T vs := h.block (k.block g h.lt h1 h2)

set_option maxRecDepth 100000 in
set_option maxHeartbeats 4000000 in
theorem free_walk (a0 : Int) (A : Option Addr) (len cap : Nat) (l : List Opr) (w : World) (h0 : (Lit.int .u8 a0).wf = true) (ho : OpsIn w A len cap l) : Calls Try.prog 5 #[.int .u8 a0, .slice A len cap] w fun e w' => e = .returned (.bool true) ∧ Below w.heap.size w w' := by
  obtain ⟨x0, rfl⟩ := u8_of h0
  clear h0
  have hx0 := u8_lt x0
  obtain ⟨q, hq⟩ : ∃ q : Nat, q = x0.toNat % 60 := ⟨_, rfl⟩
  have hmi : (x0.toNat : Int) % 60 = (q : Int) := by omega
  obtain ⟨n, hn⟩ : ∃ n : Nat, n = 1 + q := ⟨_, rfl⟩
  have e1 : (1 : Int) + (q : Int) = (n : Int) := by omega
  have h1n : 1 ≤ n := by omega
  have hn2 : n ≤ 60 := by omega
  have hq60 : q < 60 := by omega
  obtain ⟨m, hm⟩ : ∃ m : Nat, m = min len 150 := ⟨_, rfl⟩
  have hmin : min (len : Int) 150 = (m : Int) := by omega
  have hml : m ≤ len := by omega
  have hm150 : m ≤ 150 := by omega
  have hle := ho.le
  have hcap := ho.cap
  unfold maxLen at hcap
  have HO := Lib.hid ho
  clear hq hn hm ho
  go_enter Try.func5, Try.ntmps5
  go_wp2_with fail
  refine (new_yes n h1n (by omega) w).mono ?_
  rintro e w0 ⟨a, cb, mb, rfl, hf⟩
  have HA0 := Lib.hid (show ∃ s, s.n = n ∧ At w0 a cb mb n s from ⟨_, by simp [St.n, St.new], hf.at'⟩)
  have HB0 := Lib.hid hf.below
  have HC := Lib.hid hf.hc
  have HM := Lib.hid hf.hm
  clear hf
  go_wp2_with fail
  go_loopw [32] (fun c wr => ∃ k : Nat, k ≤ m ∧ c = .int .i64 (k : Int) ∧ Hid (∃ s, s.n = n ∧ At wr a cb mb n s) ∧ Hid (Below w.heap.size w wr)) (fun c _ => m - (Go.RowKit.intOf c).toNat)
  case atStart => exact ⟨0, by omega, rfl, HA0, HB0⟩
  case round =>
    obtain ⟨k, hk, rfl, HS, HB⟩ := hrel
    obtain ⟨s, hsn, hat⟩ := HS.out
    have HA := Lib.hid hat
    have HSN := Lib.hid hsn
    clear hat hsn HS
    by_cases hlt : k < m
    · have hki : (k : Int) < (m : Int) := by omega
      have hge : (0 : Int) ≤ (k : Int) := by omega
      obtain ⟨b, o, x, rfl, hxk, hlies, hwf⟩ := HO.out.at (k := k) (by omega)
      have HX := Lib.hid hwf
      have hl2 := hlies.below HB.out
      have d0 := hl2.c0
      have d1 := hl2.c1
      clear hlies hl2 hwf hxk
      go_upto_region 8 with (fail)
      have B1 := (Below.refl wr.heap.size wr).alloc (Nat.le_refl _) (.cells #[.int .u8 (x.what.toNat : Int), .int .i64 x.b] 36)
      have R1 := alloc_rowV wr 36 [.int .u8 (x.what.toNat : Int), .int .i64 x.b]
      have HA1 := Lib.hid (HA.out.kept B1)
      have HB1 := Lib.hid (HB.out.trans (B1.mono HB.out.size))
      have HL1 := Lib.hid HA.out.lts
      clear d0 d1 B1
      generalize wr.alloc (.cells #[.int .u8 (x.what.toNat : Int), .int .i64 x.b] 36) = w1 at *
      obtain ⟨r, hr⟩ : ∃ r, r = wr.heap.size := ⟨_, rfl⟩
      rw [← hr] at R1 HL1 ⊢
      have HR1 := Lib.hid R1
      clear hr R1 HA
      have hmk := run_make_flags w1 n (by omega)
      have B2 := (Below.refl w1.heap.size w1).alloc (Nat.le_refl _) (.cells (bools (List.replicate n false)).toArray 4)
      have R2 := alloc_rowV w1 4 (bools (List.replicate n false))
      have HA2 := Lib.hid (HA1.out.kept B2)
      have HB2 := Lib.hid (HB1.out.trans (B2.mono HB1.out.size))
      have HL2 := Lib.hid HA1.out.lts
      have HR2 := Lib.hid (HR1.out.below HR1.out.lt B2)
      have hrw : r < w1.heap.size := HR1.out.lt
      clear B2
      generalize w1.alloc (.cells (bools (List.replicate n false)).toArray 4) = w2 at *
      obtain ⟨g, hg⟩ : ∃ g, g = w1.heap.size := ⟨_, rfl⟩
      rw [← hg] at R2 HL2 hrw hmk
      have HF2 := Lib.hid R2
      have HRG := Lib.hid hrw
      have HG := Lib.hid (show w.heap.size ≤ g by rw [hg]; exact HB1.out.size)
      clear hg R2 HA1 HB1 HR1 hrw
      go_upto_region 10 with (fail)
      clear hmk
      go_loopw [39] (fun c wz => ∃ j : Nat, j ≤ n ∧ c = .int .i64 (j : Int) ∧ Hid (At wz a cb mb n s) ∧ Hid (Below w.heap.size w wz) ∧ Hid (RowV wz r 36 [.int .u8 (x.what.toNat : Int), .int .i64 x.b]) ∧ Hid (RowV wz g 4 (flags s.free n j))) (fun c _ => n - (Go.RowKit.intOf c).toNat)
      case atStart => exact ⟨0, by omega, rfl, HA2, HB2, HR2, Lib.hid (by rw [flags_zero]; exact HF2.out)⟩
      case round =>
        obtain ⟨j, hj, rfl, HAz, HBz, HRz, HFz⟩ := hrel
        by_cases hlj : j < n
        · have hji : (j : Int) < (n : Int) := by omega
          have hgj : (0 : Int) ≤ (j : Int) := by omega
          have hfl : (flags s.free n j).length = n := by simp [flags]
          have c0 := HFz.out.cellAt (i := j) (v := (flags s.free n j)[j]'(by rw [hfl]; exact hlj)) (by simp)
          have f0 := HFz.out.free j
          have HFL := Lib.hid (flags_succ s.free hlj)
          have hL := HL2.out
          have hrg := HRG.out
          go_wp2_with fail
          refine (free_yes HAz.out j (by rw [HSN.out]; exact hlj)).mono ?_
          rintro e w' ⟨rfl, rfl⟩
          have HA3 := Lib.hid (HAz.out.setOther (q := g) (by omega) (by omega) (by omega) j (.bool (s.free j)))
          have HB3 := Lib.hid (HBz.out.trans ((Below.refl w.heap.size wr).setCell (p := ⟨g, j, none⟩) HG.out (.bool (s.free j))))
          have HR3 := Lib.hid (HRz.out.other (q := g) (i := j) (v := .bool (s.free j)) (by omega))
          have HF3 := Lib.hid (show RowV (wr.setCell ⟨g, j, none⟩ (.bool (s.free j))) g 4 (flags s.free n (j + 1)) by rw [← HFL.out]; exact HFz.out.set j (.bool (s.free j)))
          clear hL hrg
          go_wp2_with fail
          go_roundw
          case rel => exact ⟨j + 1, by omega, by go_num, HA3, HB3, HR3, HF3⟩
          case measure => simp [Go.RowKit.intOf]; omega
        · obtain rfl : j = n := by omega
          have d0 := HRz.out.cellAt (i := 0) rfl
          have d1 := HRz.out.cellAt (i := 1) rfl
          have HX2 := HX
          have hL := HL2.out
          have hrg := HRG.out
          have HNE := Lib.hid (show r ≠ cb ∧ r ≠ mb ∧ g ≠ cb ∧ g ≠ mb from by have := HL1.out; omega)
          clear hL hrg
          go_upto_region 14 with (fail)
          go_wp2_with fail
          refine (done_at HAz.out x HX.out).mono ?_
          rintro e w3 ⟨rfl, az, bz⟩
          have HA3 := Lib.hid az
          have HB3 := Lib.hid (HBz.out.trans (bz.below HC.out HM.out HBz.out.size))
          have HR3 := Lib.hid (row_but HRz.out bz HNE.out.1 HNE.out.2.1)
          have HF3 := Lib.hid (row_but HFz.out bz HNE.out.2.2.1 HNE.out.2.2.2)
          have HN3 := Lib.hid (show (s.did x).n = j by rw [n_did HAz.out.ok, HSN.out])
          have HOK := Lib.hid HAz.out.ok
          clear az bz d0 d1 HAz HBz HRz HFz
          dsimp only
          go_wp2_with fail
          have hq4 := u8_lt x.what
          obtain ⟨s2, hs2⟩ : ∃ s2, s2 = s.did x := ⟨_, rfl⟩
          rw [← hs2] at HA3 HN3
          have HS2 := Lib.hid hs2
          clear hs2
          go_loopw [53, 12, 13] (fun c z f wz => ∃ i : Nat, i ≤ j ∧ c = .int .i64 (i : Int) ∧ z = .int .i64 ((List.range i).countP s2.nought : Int) ∧ f = .int .i64 ((List.range i).countP s2.free : Int) ∧ Hid (At wz a cb mb j s2) ∧ Hid (Below w.heap.size w wz) ∧ Hid (RowV wz r 36 [.int .u8 (x.what.toNat : Int), .int .i64 x.b]) ∧ Hid (RowV wz g 4 (flags s.free j j))) (fun c _ _ _ => j - (Go.RowKit.intOf c).toNat)
          case atStart => exact ⟨0, by omega, rfl, rfl, rfl, HA3, HB3, HR3, HF3⟩
          case round =>
            obtain ⟨i, hi, rfl, rfl, rfl, HAz, HBz, HRz, HFz⟩ := hrel
            have hle1 := countP_le s2.nought i
            have hle2 := countP_le s2.free i
            by_cases hli : i < j
            · have hii : (i : Int) < (j : Int) := by omega
              have hgi : (0 : Int) ≤ (i : Int) := by omega
              cases hz : s2.nought i
              · have hf : s2.free i = false := by unfold St.free; unfold St.nought at hz; rw [hz]; rfl
                have hS1 := countP_succ s2.nought i
                have hS2 := countP_succ s2.free i
                rw [hz] at hS1
                rw [hf] at hS2
                have HS1' := Lib.hid hS1
                have HS2' := Lib.hid hS2
                clear hS1 hS2
                have hc0 : ¬ (((s2.cnt i).toNat : Int) = 0) := by have := cnt_some (s := s2) (i := i) hz; omega
                have hin2 : i < s2.n := by have := HN3.out; omega
                go_wp2_with fail
                refine (get_yes HAz.out i hin2).mono ?_
                rintro e w' ⟨rfl, rfl⟩
                go_wp2_with fail
                refine (free_eq HAz.out i hin2 false hf).mono ?_
                rintro e w' ⟨rfl, rfl⟩
                go_wp2_with fail
                refine (free_eq HAz.out i hin2 false hf).mono ?_
                rintro e w' ⟨rfl, rfl⟩
                go_wp2_with fail
                go_roundw
                case rel => exact ⟨i + 1, by omega, by go_num, by rw [HS1'.out]; first | rfl | (congr 1), by rw [HS2'.out]; first | rfl | (congr 1), HAz, HBz, HRz, HFz⟩
                case measure => simp [Go.RowKit.intOf]; omega
              · cases hf : s2.free i
                · have hS1 := countP_succ s2.nought i
                  have hS2 := countP_succ s2.free i
                  rw [hz] at hS1
                  rw [hf] at hS2
                  have HS1' := Lib.hid hS1
                  have HS2' := Lib.hid hS2
                  clear hS1 hS2
                  have hc0 : ((s2.cnt i).toNat : Int) = 0 := by have := cnt_zero (s := s2) (i := i) hz; omega
                  have hin2 : i < s2.n := by have := HN3.out; omega
                  go_wp2_with fail
                  refine (get_eq HAz.out i hin2 0 hc0).mono ?_
                  rintro e w' ⟨rfl, rfl⟩
                  go_wp2_with fail
                  refine (free_eq HAz.out i hin2 false hf).mono ?_
                  rintro e w' ⟨rfl, rfl⟩
                  go_wp2_with fail
                  refine (free_eq HAz.out i hin2 false hf).mono ?_
                  rintro e w' ⟨rfl, rfl⟩
                  go_wp2_with fail
                  go_roundw
                  case rel => exact ⟨i + 1, by omega, by go_num, by rw [HS1'.out]; first | rfl | (congr 1), by rw [HS2'.out]; first | rfl | (congr 1), HAz, HBz, HRz, HFz⟩
                  case measure => simp [Go.RowKit.intOf]; omega
                · cases hw : s.free i
                  · have hS1 := countP_succ s2.nought i
                    have hS2 := countP_succ s2.free i
                    rw [hz] at hS1
                    rw [hf] at hS2
                    have HS1' := Lib.hid hS1
                    have HS2' := Lib.hid hS2
                    clear hS1 hS2
                    have hc0 : ((s2.cnt i).toNat : Int) = 0 := by have := cnt_zero (s := s2) (i := i) hz; omega
                    have hin2 : i < s2.n := by have := HN3.out; omega
                    go_wp2_with fail
                    refine (get_eq HAz.out i hin2 0 hc0).mono ?_
                    rintro e w' ⟨rfl, rfl⟩
                    go_wp2_with fail
                    refine (free_eq HAz.out i hin2 true hf).mono ?_
                    rintro e w' ⟨rfl, rfl⟩
                    go_wp2_with fail
                    refine (free_eq HAz.out i hin2 true hf).mono ?_
                    rintro e w' ⟨rfl, rfl⟩
                    go_wp2_with fail
                    refine (get_eq HAz.out i hin2 0 hc0).mono ?_
                    rintro e w' ⟨rfl, rfl⟩
                    have cf := HFz.out.cellAt (flags_at s.free hli)
                    rw [hw] at cf
                    have d0 := HRz.out.cellAt (i := 0) rfl
                    have hm4 : ¬ ((x.what.toNat : Int) % 4 = 0) := fun e => by
                      have e' : x.what.toNat % 4 = 0 := by omega
                      have := free_up e' (HS2.out ▸ hf)
                      rw [hw] at this
                      cases this
                    go_wp2_with fail
                    go_roundw
                    case rel => exact ⟨i + 1, by omega, by go_num, by rw [HS1'.out]; first | rfl | (congr 1), by rw [HS2'.out]; first | rfl | (congr 1), HAz, HBz, HRz, HFz⟩
                    case measure => simp [Go.RowKit.intOf]; omega
                  · have hS1 := countP_succ s2.nought i
                    have hS2 := countP_succ s2.free i
                    rw [hz] at hS1
                    rw [hf] at hS2
                    have HS1' := Lib.hid hS1
                    have HS2' := Lib.hid hS2
                    clear hS1 hS2
                    have hc0 : ((s2.cnt i).toNat : Int) = 0 := by have := cnt_zero (s := s2) (i := i) hz; omega
                    have hin2 : i < s2.n := by have := HN3.out; omega
                    go_wp2_with fail
                    refine (get_eq HAz.out i hin2 0 hc0).mono ?_
                    rintro e w' ⟨rfl, rfl⟩
                    go_wp2_with fail
                    refine (free_eq HAz.out i hin2 true hf).mono ?_
                    rintro e w' ⟨rfl, rfl⟩
                    go_wp2_with fail
                    refine (free_eq HAz.out i hin2 true hf).mono ?_
                    rintro e w' ⟨rfl, rfl⟩
                    go_wp2_with fail
                    refine (get_eq HAz.out i hin2 0 hc0).mono ?_
                    rintro e w' ⟨rfl, rfl⟩
                    have cf := HFz.out.cellAt (flags_at s.free hli)
                    rw [hw] at cf
                    go_wp2_with fail
                    go_roundw
                    case rel => exact ⟨i + 1, by omega, by go_num, by rw [HS1'.out]; first | rfl | (congr 1), by rw [HS2'.out]; first | rfl | (congr 1), HAz, HBz, HRz, HFz⟩
                    case measure => simp [Go.RowKit.intOf]; omega
            · obtain rfl : i = j := by omega
              have HFR := Lib.hid (show s2.frees = (List.range i).countP s2.free by unfold St.frees; rw [HN3.out])
              have HSP := Lib.hid (show (((List.range i).countP s2.nought : Nat) : Int) = ((List.range i).countP s2.free : Int) + (s2.idle : Int) by rw [nought_split]; unfold St.idle; rw [HN3.out]; omega)
              have hid60 : s2.idle ≤ 60 := by have := HSP.out; omega
              rcases (show x.what.toNat % 4 = 0 ∨ x.what.toNat % 4 = 1 ∨ x.what.toNat % 4 = 2 ∨ x.what.toNat % 4 = 3 by omega) with hm | hm | hm | hm
              · have hm4 : (x.what.toNat : Int) % 4 = 0 := by omega
                clear hm
                go_wp2_with fail
                refine (frees_eq HAz.out _ rfl).mono ?_
                rintro e w4 ⟨rfl, bz⟩
                have HA4 := Lib.hid (HAz.out.kept bz)
                have HB4 := Lib.hid (HBz.out.trans (bz.mono HBz.out.size))
                have HR4 := Lib.hid (HRz.out.below HRz.out.lt bz)
                clear bz HAz
                rw [HFR.out]
                go_wp2_with fail
                refine (idle_eq HA4.out _ rfl).mono ?_
                rintro e w5 ⟨rfl, bz⟩
                have HA5 := Lib.hid (HA4.out.kept bz)
                have HB5 := Lib.hid (HB4.out.trans (bz.mono HB4.out.size))
                have d0 := (HR4.out.below HR4.out.lt bz).cellAt (i := 0) rfl
                clear bz HA4
                have hsum := HSP.out
                go_wp2_with fail
                go_roundw
                case rel => exact ⟨k + 1, by omega, by go_num, Lib.hid ⟨_, HN3.out, HA5.out⟩, HB5⟩
                case measure => simp [Go.RowKit.intOf]; omega
              · have hm4 : (x.what.toNat : Int) % 4 = 1 := by omega
                clear hm
                go_wp2_with fail
                refine (frees_eq HAz.out _ rfl).mono ?_
                rintro e w4 ⟨rfl, bz⟩
                have HA4 := Lib.hid (HAz.out.kept bz)
                have HB4 := Lib.hid (HBz.out.trans (bz.mono HBz.out.size))
                have HR4 := Lib.hid (HRz.out.below HRz.out.lt bz)
                clear bz HAz
                rw [HFR.out]
                go_wp2_with fail
                refine (idle_eq HA4.out _ rfl).mono ?_
                rintro e w5 ⟨rfl, bz⟩
                have HA5 := Lib.hid (HA4.out.kept bz)
                have HB5 := Lib.hid (HB4.out.trans (bz.mono HB4.out.size))
                have d0 := (HR4.out.below HR4.out.lt bz).cellAt (i := 0) rfl
                clear bz HA4
                have hsum := HSP.out
                go_wp2_with fail
                go_roundw
                case rel => exact ⟨k + 1, by omega, by go_num, Lib.hid ⟨_, HN3.out, HA5.out⟩, HB5⟩
                case measure => simp [Go.RowKit.intOf]; omega
              · have hm4 : (x.what.toNat : Int) % 4 = 2 := by omega
                have HDK := Lib.hid (show s2 = s.keep from HS2.out.trans (did_keep hm))
                clear hm
                go_wp2_with fail
                refine (frees_eq HAz.out _ rfl).mono ?_
                rintro e w4 ⟨rfl, bz⟩
                have HA4 := Lib.hid (HAz.out.kept bz)
                have HB4 := Lib.hid (HBz.out.trans (bz.mono HBz.out.size))
                have HR4 := Lib.hid (HRz.out.below HRz.out.lt bz)
                clear bz HAz
                rw [HFR.out]
                go_wp2_with fail
                refine (idle_eq HA4.out _ rfl).mono ?_
                rintro e w5 ⟨rfl, bz⟩
                have HA5 := Lib.hid (HA4.out.kept bz)
                have HB5 := Lib.hid (HB4.out.trans (bz.mono HB4.out.size))
                have d0 := (HR4.out.below HR4.out.lt bz).cellAt (i := 0) rfl
                clear bz HA4
                have hsum := HSP.out
                go_wp2_with fail
                refine (idle_eq HA5.out 0 (by rw [HDK.out, idle_keep]; rfl)).mono ?_
                rintro e w6 ⟨rfl, bz⟩
                have HA6 := Lib.hid (HA5.out.kept bz)
                have HB6 := Lib.hid (HB5.out.trans (bz.mono HB5.out.size))
                have d0 := (bz.cell (p := ⟨r, 0, none⟩) (World.block_lt_of_cell? _ _ d0)).trans d0
                clear bz HA5
                go_wp2_with fail
                refine (list_eq HA6.out [] (by rw [HDK.out, changed_keep])).mono ?_
                rintro e w7 ⟨v, rfl, lz, bz⟩
                obtain ⟨VA, vc, rfl, _⟩ := lz
                have HA7 := Lib.hid (HA6.out.kept bz)
                have HB7 := Lib.hid (HB6.out.trans (bz.mono HB6.out.size))
                clear bz HA6
                go_wp2_with fail
                go_roundw
                case rel => exact ⟨k + 1, by omega, by go_num, Lib.hid ⟨_, HN3.out, HA7.out⟩, HB7⟩
                case measure => simp [Go.RowKit.intOf]; omega
              · have hm4 : (x.what.toNat : Int) % 4 = 3 := by omega
                have HDK := Lib.hid (show s2 = s.back from HS2.out.trans (did_back hm))
                clear hm
                go_wp2_with fail
                refine (frees_eq HAz.out _ rfl).mono ?_
                rintro e w4 ⟨rfl, bz⟩
                have HA4 := Lib.hid (HAz.out.kept bz)
                have HB4 := Lib.hid (HBz.out.trans (bz.mono HBz.out.size))
                have HR4 := Lib.hid (HRz.out.below HRz.out.lt bz)
                clear bz HAz
                rw [HFR.out]
                go_wp2_with fail
                refine (idle_eq HA4.out _ rfl).mono ?_
                rintro e w5 ⟨rfl, bz⟩
                have HA5 := Lib.hid (HA4.out.kept bz)
                have HB5 := Lib.hid (HB4.out.trans (bz.mono HB4.out.size))
                have d0 := (HR4.out.below HR4.out.lt bz).cellAt (i := 0) rfl
                clear bz HA4
                have hsum := HSP.out
                go_wp2_with fail
                refine (list_eq HA5.out [] (by rw [HDK.out, changed_back])).mono ?_
                rintro e w7 ⟨v, rfl, lz, bz⟩
                obtain ⟨VA, vc, rfl, _⟩ := lz
                have HA7 := Lib.hid (HA5.out.kept bz)
                have HB7 := Lib.hid (HB5.out.trans (bz.mono HB5.out.size))
                clear bz HA5
                go_wp2_with fail
                go_roundw
                case rel => exact ⟨k + 1, by omega, by go_num, Lib.hid ⟨_, HN3.out, HA7.out⟩, HB7⟩
                case measure => simp [Go.RowKit.intOf]; omega
    · obtain rfl : k = m := by omega
      go_wp2_with fail
      refine (awake_any _).mono ?_
      rintro e w1 ⟨rfl, bz⟩
      have HB1 := Lib.hid (HB.out.trans (bz.mono HB.out.size))
      clear bz
      go_wp2_with fail
      go_ret
      exact ⟨rfl, HB1.out⟩
end Go.Proofs.Ytigmgaedpdeleaa.Tl
