/-
  YtffdkniahdekjaaDoorLeaf
  · YtffdkniahdekjaaDoorTake
  · YtffdkniahdekjaaDoorBlocks
  · YtffdkniahdekjaaDoorAggIn
  · 'for x := range seq' WITH ONE LOOP VARIABLE THAT IS ASSIGNED AS IT COMES: the frame of a round need not be typed. Over any program.
  · YtffdkniahdekjaaDoorWritten
  · YtffdkniahdekjaaDoorDigest
  · WHAT A ROW's POST ASKS, from 'nothing that was there has turned'; the program's table of constants as the row lists it; a world that holds it.
  · THE TABLE OF CONSTANTS as the rows list it, and a world that holds it.
  · YtffdkniahdekjaaDoorOf
  · YtffdkniahdekjaaDoorDigit
-/
import Derived.Test.YtffdkniahdekjaaDoorMBa
import Derived.StillTailTactics
import Derived.RangeFuncNested
import Derived.RangeFuncBound
import Derived.RangeFuncCalls
import Derived.RangeFuncLeaves
import Derived.RangeFuncFrom
import Derived.Shelf.Abstract
import Derived.Shelf.RegionOpen
import Derived.OwnWalkIn
import Derived.TacticsInMore
import Derived.LoopNIn
import Derived.LoopIn
import Derived.WalkKit
import Derived.Laws.EntriesVeiled
import Derived.Deep.RegionHeld3
import Derived.Deep.DeepCutAuto
import Derived.Test.YtffdkniahdekjaaDoorCards
import Derived.Test.YtffdkniahdekjaaDoorTie
import Derived.ProofKit
import Derived.OpenShut
import Derived.Deep.DeepHandedRow
import Derived.Lib.LaidTab
import Derived.Below
import Derived.Carry
import Derived.SizedLaws
import Derived.ChangeMaps5
section
namespace Go.Proofs.YtffdkniahdekjaaDoor
open Go.RowKit Go.Hoar
/-- The table of the constants, as it lies. -/
def ConstAt (w : World) : Prop := ∀ i, i < 64 → w.cell? ⟨0, i, none⟩ = some (.int .u32 ((Sha.consts.getD i 0 : Nat) : Int))
/-- The cells of a state at work: its words, the rest, how long; the eight words; what a round does. -/
def workCells (h e : List Nat) (r l f : Value) : Array Value := ((h.map WV ++ [r, l]) ++ e.map WV ++ [f]).toArray
theorem len8 {l : List Nat} (h : l.length = 8) : ∃ a b c d e f g i, l = [a, b, c, d, e, f, g, i] := by
  match l, h with
  | [a, b, c, d, e, f, g, i], _ => exact ⟨a, b, c, d, e, f, g, i, rfl⟩
/-- 'round' over the cells of a state at work. -/
theorem round_work (b : Nat) (h e : List Nat) (r l f : Value) (k x : Nat) (t : TypeId) (w : World) (hh : h.length = 8) (he : e.length = 8) (hw : Sha.Words e) (hH : Has w b t (workCells h e r l f)) :
    Calls Tryd.prog 88 #[.pointer (some ⟨b, 10, none⟩), .int .u32 (k : Int), .int .u32 (x : Int)] w fun r' w' => r' = .returned (.tuple #[]) ∧ But b w w' ∧
      Has w' b t (workCells h (Sha.round e k x) r l f) := by
  obtain ⟨h0, h1, h2, h3, h4, h5, h6, h7, rfl⟩ := len8 hh
  obtain ⟨a0, a1, a2, a3, a4, a5, a6, a7, rfl⟩ := len8 he
  have m : ∀ y ∈ [a0, a1, a2, a3, a4, a5, a6, a7], y < 4294967296 := hw
  simp only [List.mem_cons, List.not_mem_nil, or_false, forall_eq_or_imp, forall_eq] at m
  obtain ⟨m0, m1, m2, _, m4, m5, m6, m7⟩ := m
  exact round_any b a0 a1 a2 a3 a4 a5 a6 a7 k x t _ _ _ _ _ _ _ _ _ _ _ w hH m0 m1 m2 m4 m5 m6 m7
/-- The words when the first k of them have been added to. -/
def part (h e : List Nat) (k : Nat) : List Nat := (List.zipWith Sha.add h e).take k ++ h.drop k
theorem part_length (h e : List Nat) (k : Nat) (hh : h.length = 8) (he : e.length = 8) : (part h e k).length = 8 := by
  simp [part]
  omega
theorem work_low (h e : List Nat) (r l f : Value) (k : Nat) (hh : h.length = 8) (he : e.length = 8) (hk : k < 8) : (workCells (part h e k) e r l f)[k]? = some (.int .u32 ((h.getD k 0 : Nat) : Int)) := by
  obtain ⟨h0, h1, h2, h3, h4, h5, h6, h7, rfl⟩ := len8 hh
  obtain ⟨a0, a1, a2, a3, a4, a5, a6, a7, rfl⟩ := len8 he
  match k, hk with
  | 0, _ => exact Eq.refl _
  | 1, _ => exact Eq.refl _
  | 2, _ => exact Eq.refl _
  | 3, _ => exact Eq.refl _
  | 4, _ => exact Eq.refl _
  | 5, _ => exact Eq.refl _
  | 6, _ => exact Eq.refl _
  | 7, _ => exact Eq.refl _
theorem work_eight (h e : List Nat) (r l f : Value) (k : Nat) (hh : h.length = 8) (he : e.length = 8) (hk : k < 8) : (workCells h e r l f)[10 + k]? = some (.int .u32 ((e.getD k 0 : Nat) : Int)) := by
  obtain ⟨h0, h1, h2, h3, h4, h5, h6, h7, rfl⟩ := len8 hh
  obtain ⟨a0, a1, a2, a3, a4, a5, a6, a7, rfl⟩ := len8 he
  match k, hk with
  | 0, _ => exact Eq.refl _
  | 1, _ => exact Eq.refl _
  | 2, _ => exact Eq.refl _
  | 3, _ => exact Eq.refl _
  | 4, _ => exact Eq.refl _
  | 5, _ => exact Eq.refl _
  | 6, _ => exact Eq.refl _
  | 7, _ => exact Eq.refl _
theorem work_func (h e : List Nat) (r l f : Value) (hh : h.length = 8) (he : e.length = 8) : (workCells h e r l f)[18]? = some f := by
  obtain ⟨h0, h1, h2, h3, h4, h5, h6, h7, rfl⟩ := len8 hh
  obtain ⟨a0, a1, a2, a3, a4, a5, a6, a7, rfl⟩ := len8 he
  exact Eq.refl _
theorem work_set (h e : List Nat) (r l f : Value) (k : Nat) (hh : h.length = 8) (he : e.length = 8) (hk : k < 8) :
    (workCells (part h e k) e r l f).setIfInBounds k (.int .u32 ((Sha.add (h.getD k 0) (e.getD k 0) : Nat) : Int)) = workCells (part h e (k + 1)) e r l f := by
  obtain ⟨h0, h1, h2, h3, h4, h5, h6, h7, rfl⟩ := len8 hh
  obtain ⟨a0, a1, a2, a3, a4, a5, a6, a7, rfl⟩ := len8 he
  match k, hk with
  | 0, _ => simp [workCells, part, WV]
  | 1, _ => simp [workCells, part, WV]
  | 2, _ => simp [workCells, part, WV]
  | 3, _ => simp [workCells, part, WV]
  | 4, _ => simp [workCells, part, WV]
  | 5, _ => simp [workCells, part, WV]
  | 6, _ => simp [workCells, part, WV]
  | 7, _ => simp [workCells, part, WV]
theorem part_zero (h e : List Nat) : part h e 0 = h := by simp [part]
theorem part_eight (h e : List Nat) (hh : h.length = 8) (he : e.length = 8) : part h e 8 = List.zipWith Sha.add h e := by
  simp only [part]
  rw [List.drop_eq_nil_of_le (by omega), List.append_nil, List.take_of_length_le (by simp; omega)]
set_option maxRecDepth 100000 in
set_option maxHeartbeats 2000000 in
theorem take_any (b g off cap : Nat) (h e bs : List Nat) (r l : Value) (w : World) (hc : ConstAt w) (hcap : 64 ≤ cap) (hcap' : cap ≤ maxLen) (hg : g < w.heap.size) (hgb : g ≠ b) (h0b : 0 ≠ b) (hb : BytesAt w g off 64 bs) (hbl : Sha.Bytes bs)
    (hh : h.length = 8) (he : e.length = 8) (hw : Sha.Words h) (hH : Has w b 131 (workCells h e r l (.func (.func 88) #[] #[]))) (h' : List Nat) (hh' : Hid (h' = Sha.take h bs)) :
    Calls Tryd.prog 89 #[.pointer (some ⟨b, 0, none⟩), .slice (some ⟨g, off, none⟩) 64 cap] w fun r' w' => r' = .returned (.tuple #[]) ∧ But b w w' ∧
      ∃ e', e'.length = 8 ∧ Has w' b 131 (workCells h' e' r l (.func (.func 88) #[] #[])) := by
  obtain ⟨h0, h1, h2, h3, h4, h5, h6, h7, rfl⟩ := len8 hh
  obtain ⟨e0, e1, e2, e3, e4, e5, e6, e7, rfl⟩ := len8 he
  have hH' : Has w b 131 #[.int .u32 (h0 : Int), .int .u32 (h1 : Int), .int .u32 (h2 : Int), .int .u32 (h3 : Int), .int .u32 (h4 : Int), .int .u32 (h5 : Int), .int .u32 (h6 : Int), .int .u32 (h7 : Int), r, l, .int .u32 (e0 : Int), .int .u32 (e1 : Int), .int .u32 (e2 : Int), .int .u32 (e3 : Int), .int .u32 (e4 : Int), .int .u32 (e5 : Int), .int .u32 (e6 : Int), .int .u32 (e7 : Int), .func (.func 88) #[] #[]] := hH
  have c0 := hH'.cell 0
  have c1 := hH'.cell 1
  have c2 := hH'.cell 2
  have c3 := hH'.cell 3
  have c4 := hH'.cell 4
  have c5 := hH'.cell 5
  have c6 := hH'.cell 6
  have c7 := hH'.cell 7
  have d0 := hH'.cell 10
  have d1 := hH'.cell 11
  have d2 := hH'.cell 12
  have d3 := hH'.cell 13
  have d4 := hH'.cell 14
  have d5 := hH'.cell 15
  have d6 := hH'.cell 16
  have d7 := hH'.cell 17
  have f0 := hH'.free 10
  have f1 := hH'.free 11
  have f2 := hH'.free 12
  have f3 := hH'.free 13
  have f4 := hH'.free 14
  have f5 := hH'.free 15
  have f6 := hH'.free 16
  have f7 := hH'.free 17
  have HH := Lib.hid hH'
  clear hH hH'
  go_enter Tryd.func89, Tryd.ntmps89
  have HC := Lib.hid hc
  clear hc
  obtain ⟨L, hL⟩ : ∃ L, L = Sha.sched bs 64 := ⟨_, rfl⟩
  have HL0 := Lib.hid hL
  have hLl : L.length = 64 := by rw [hL, Sha.sched_length]
  clear hL
  go_wp2_with fail
  refine gen_world (P := fun W => Calls _ _ _ W _) (I := fun W => But b w W ∧ Has W b 131 (workCells [h0, h1, h2, h3, h4, h5, h6, h7] [h0, h1, h2, h3, h4, h5, h6, h7] r l (.func (.func 88) #[] #[]))) _
    ⟨((((((((But.refl b w).put _ _).put _ _).put _ _).put _ _).put _ _).put _ _).put _ _).put _ _, ((((((((HH.out.put _ _).put _ _).put _ _).put _ _).put _ _).put _ _).put _ _).put _ _).of_eq (by simp [workCells, WV])⟩ ?_
  clear c0 c1 c2 c3 c4 c5 c6 c7 d0 d1 d2 d3 d4 d5 d6 d7 f0 f1 f2 f3 f4 f5 f6 f7 HH
  rintro W0 ⟨hbut, hW⟩
  refine (schedule_any g off cap bs W0 hcap hcap' (Nat.lt_of_lt_of_le hg hbut.size) (fun i hi => (hbut.cell hg hgb).trans (hb i hi)) hbl L HL0).mono ?_
  rintro e w1 ⟨rfl, hbel⟩
  have hbut1 := hbut.trans (But.of_below (b := b) hbel)
  have hW1 := hW.below hbel hW.lt
  clear hbut hW hbel W0 hb
  have HB := Lib.hid hbut1
  have HW := Lib.hid hW1
  have HI := Lib.hid (arr64_info L (by omega))
  have HS := Lib.hid (arr64_sizes [] L (by simp) (by omega))
  have hsz := hW1.lt
  clear hbut1 hW1
  go_wp2_with ((with_reducible refine arm_store w1.heap.size (arr64 L) 151 (arr64 []) (Has.fresh_at _ _ _ _ ?h0) HS.out HI.out (arr64_one _) ?h1 ?h2 ?_); (case h0 => rfl); (case h1 => rfl); (case h2 => rfl))
  obtain ⟨F, hF⟩ : ∃ F, F = Value.func (.func 88) #[] #[] := ⟨_, rfl⟩
  obtain ⟨H, hH0⟩ : ∃ H, H = [h0, h1, h2, h3, h4, h5, h6, h7] := ⟨_, rfl⟩
  have hHl : H.length = 8 := by rw [hH0]; rfl
  rw [← hH0] at hw
  have HH0 := Lib.hid hH0
  clear hH0
  go_loopw [17] (fun i wr => ∃ k : Nat, k ≤ 64 ∧ i = .int .i64 k ∧ But b w wr ∧ Has wr b 131 (workCells H (Sha.rounds H L k) r l (.func (.func 88) #[] #[])) ∧ Has wr w1.heap.size 151 (arr64 L)) (fun i _ => 64 - (intOf i).toNat)
  case atStart => exact ⟨0, Nat.zero_le _, rfl, (HB.out.alloc _).newRow HB.out.size _, by rw [HH0.out]; exact (HW.out.alloc _).setRow_apart (by omega), (Has.fresh_at _ _ _ _ rfl).setRow⟩
  case round =>
    obtain ⟨k, hk, rfl, hB, hW, hL⟩ := hrel
    by_cases hlt : k < 64
    · have hwl := Sha.rounds_length H L k
      rw [hHl] at hwl
      have hww := Sha.rounds_words hw L k
      have d0 : wr.cell? ⟨b, 18, none⟩ = some (.func (.func 88) #[] #[]) := by rw [hW.cell]; exact work_func _ _ _ _ _ hHl hwl
      have d1 : wr.cell? ⟨0, k, none⟩ = some (.int .u32 ((Sha.consts.getD k 0 : Nat) : Int)) := (hB.cell (block_lt_of_cell (HC.out k hlt)) h0b).trans (HC.out k hlt)
      have d2 : wr.cell? ⟨w1.heap.size, k, none⟩ = some (.int .u32 ((L.getD k 0 : Nat) : Int)) := by rw [hL.cell]; exact arr64_get _ _ (by omega)
      have hround : Sha.round (Sha.rounds H L k) (Sha.consts.getD k 0) (L.getD k 0) = Sha.rounds H L (k + 1) := by rw [Sha.rounds]
      generalize Sha.consts.getD k 0 = kc at *
      generalize L.getD k 0 = x at *
      have HR := Lib.hid hround
      have HB := Lib.hid hB
      have HW := Lib.hid hW
      have HL := Lib.hid hL
      clear hB hW hL hround
      go_wp2
      go_still_tail 13, (by kernel_rfl)
      go_wp2_with (go_at_call 88; refine (round_work b H (Sha.rounds H L k) r l _ kc x _ _ hHl hwl hww HW.out.drew).mono ?_; rintro e w' ⟨rfl, hb2, hw2⟩)
      go_roundw
      case rel => exact ⟨k + 1, by omega, by go_num, (HB.out.drew).trans hb2, by rw [← HR.out]; exact hw2, hb2.has HL.out.drew (by have := HL.out.lt; omega)⟩
      case measure => simp [intOf]; omega
    · obtain rfl : k = 64 := by omega
      obtain ⟨E, hE⟩ : ∃ E, E = Sha.rounds H L 64 := ⟨_, rfl⟩
      have hEl : E.length = 8 := by rw [hE, Sha.rounds_length, hHl]
      rw [← hE] at hW
      have HE := Lib.hid hE
      clear hE hL
      obtain ⟨wa, rfl⟩ : ∃ wa : World, wa = wr := ⟨_, rfl⟩
      have HB := Lib.hid hB
      have HW := Lib.hid hW
      clear hB hW
      go_wp2
      go_loopw [35] (fun i wr => ∃ k : Nat, k ≤ 8 ∧ i = .int .i64 k ∧ But b w wr ∧ Has wr b 131 (workCells (part H E k) E r l (.func (.func 88) #[] #[]))) (fun i _ => 8 - (intOf i).toNat)
      case atStart => exact ⟨0, Nat.zero_le _, rfl, HB.out, by rw [part_zero]; exact HW.out⟩
      case round =>
        obtain ⟨k, hk, rfl, hB, hW⟩ := hrel
        by_cases hlt : k < 8
        · have d0 : wr.cell? ⟨b, k, none⟩ = some (.int .u32 ((H.getD k 0 : Nat) : Int)) := by rw [hW.cell]; exact work_low _ _ _ _ _ k hHl hEl hlt
          have d1 : wr.cell? ⟨b, 10 + k, none⟩ = some (.int .u32 ((E.getD k 0 : Nat) : Int)) := by rw [hW.cell]; exact work_eight _ _ _ _ _ k (part_length _ _ _ hHl hEl) hEl hlt
          have f0 := hW.free k
          have hset := (hW.put k (.int .u32 ((Sha.add (H.getD k 0) (E.getD k 0) : Nat) : Int))).of_eq (work_set H E r l _ k hHl hEl hlt)
          have hlt0 : (0 : Int) ≤ (k : Int) := by omega
          have hlt8 : (k : Int) < 8 := by omega
          generalize H.getD k 0 = x at *
          generalize E.getD k 0 = y at *
          have HS1 := Lib.hid hset
          have HB1 := Lib.hid hB
          clear hset hB hW
          go_wp2
          go_region
          go_wp2
          go_roundw
          case rel => exact ⟨k + 1, by omega, by go_num, (HB1.out.put _ _).drew, by rw [add_cast]; exact HS1.out.drew⟩
          case measure => simp [intOf]; omega
        · obtain rfl : k = 8 := by omega
          have HB1 := Lib.hid hB
          have HW1 := Lib.hid hW
          clear hB hW
          go_wp2
          go_end0
          refine ⟨rfl, HB1.out, E, hEl, ?_⟩
          rw [hh'.out, Sha.take, ← HL0.out, ← HH0.out, ← HE.out, ← part_eight H E hHl hEl]
          exact HW1.out
end Go.Proofs.YtffdkniahdekjaaDoor
end
section
namespace Go.Proofs.YtffdkniahdekjaaDoor
open Go.RowKit Go.Hoar Go.Shelf
attribute [local go_sem] Oper.semAt_some
theorem blocks_any (v : Option Addr) (n c : Nat) (w : World) :
    Calls Tryd.prog 91 #[.slice v n c] w fun e w' => e = .returned (.func (.func 106) #[] #[.pointer (some ⟨w.heap.size, 0, none⟩)]) ∧ w.alloc (.cells #[.slice v n c] 22) = w' := by
  go_enter Tryd.func91, Tryd.ntmps91
  go_wp2
  go_ret
  exact ⟨rfl, rfl⟩
/-- The blocks that have come when k rounds are over. -/
def firsts (N k : Nat) : List (Fin N) := (List.finRange N).take k
theorem firsts_length (N k : Nat) (h : k ≤ N) : (firsts N k).length = k := by simp [firsts, h]
theorem firsts_succ (N k : Nat) (h : k < N) : firsts N (k + 1) = firsts N k ++ [⟨k, h⟩] := by
  rw [firsts, firsts, List.take_succ_eq_append_getElem (by simpa using h)]
  simp
theorem firsts_all (N : Nat) : firsts N N = List.finRange N := by
  rw [firsts, List.take_of_length_le (by simp)]
set_option maxRecDepth 100000 in
set_option maxHeartbeats 2000000 in
theorem blocks1_in (F : Fence) (n : Nat) (hF : F.fn 106) (hro : F.round = none) (hn : 1 ≤ n) (l Bs b off len cap N : Nat) (hN : N = len / 64) (hreach : len ≤ 140737488355328) (hcap : len ≤ cap) (_hcap' : cap ≤ maxLen)
    (Kp : World → World → Prop) (hKp : ∀ A B : World, Kp A B → B.heap[Bs]? = A.heap[Bs]?) (J Jx : List (Fin N) → World → Prop)
    (hY : ∀ pre (x : Fin N) W, J pre W → pre.length < N → YieldAt F (n - 1) Tryd.prog l #[.slice (some ⟨b, off + 64 * x.val, none⟩) 64 (cap - 64 * x.val)] W fun e W' =>
      (e = .returned (.bool true) ∧ J (pre ++ [x]) W' ∧ Kp W W') ∨ (e = .returned (.bool false) ∧ Jx (pre ++ [x]) W'))
    (W : World) (hBs : Has W Bs 22 #[.slice (some ⟨b, off, none⟩) len cap]) (h0 : J [] W) :
    CallsIn F n Tryd.prog 106 #[.func (.yield l) #[] #[], .pointer (some ⟨Bs, 0, none⟩)] W fun e W' => (∃ v, e = .returned v) ∧
      ((∃ ys, ys = List.finRange N ∧ J ys W') ∨ (∃ pre, True ∧ Jx pre W')) := by
  unfold maxLen at _hcap'
  refine callsIn_of_wp Tryd.func106 rfl hF ?_ hro
  simp only [Tryd.ntmps106, List.size_toArray, List.length_cons, List.length_nil, Nat.reduceAdd, Nat.reduceSub, Array.replicate_succ, Array.replicate_zero, List.push_toArray, List.append_toArray, List.nil_append, List.cons_append]
  gi_wp2
  gi_loopw [3] (fun i wr => ∃ k : Nat, k ≤ N ∧ i = .int .i64 (64 * (k : Int)) ∧ J (firsts N k) wr ∧ Has wr Bs 22 #[.slice (some ⟨b, off, none⟩) len cap])
    (fun i _ => len + 64 - (intOf i).toNat)
  case atStart => exact ⟨0, Nat.zero_le _, rfl, h0, hBs⟩
  case round =>
    obtain ⟨k, hk, rfl, hJs, hB⟩ := hrel
    have hcell : wr.cell? ⟨Bs, 0, none⟩ = some (.slice (some ⟨b, off, none⟩) len cap) := hB.cell 0
    have HB := Lib.hid hB
    clear hB
    by_cases hlt : k < N
    · have hle : 64 * k + 64 ≤ len := by omega
      obtain ⟨fn, tmps, assign, body, hy, hR⟩ := hY _ ⟨k, hlt⟩ wr hJs (by rw [firsts_length _ _ hk]; exact hlt)
      dsimp only at hy
      have e64 : 64 * k + 64 - 64 * k = 64 := by omega
      have HN := Lib.hid hN
      clear hN
      gi_wp2
      refine hR.mono ?_
      rintro e W3 (⟨rfl, hJ3, hk3⟩ | ⟨rfl, hJx3⟩)
      · gi_wp2
        go_roundw
        case rel => exact ⟨k + 1, by omega, by go_num, by rw [firsts_succ _ _ hlt]; exact hJ3, (hKp _ _ hk3).trans HB.out⟩
        case measure => simp [intOf]; omega
      · gi_wp2
        refine bodyPost_ret (results_none rfl _ _ _) rfl ?_
        exact ⟨⟨_, rfl⟩, .inr ⟨_, trivial, hJx3⟩⟩
    · have hkN : k = N := by omega
      have hle : ¬ 64 * k + 64 ≤ len := by omega
      have hle' : len < 64 * k + 64 := by omega
      have hle2 : 64 * k ≤ len := by omega
      rw [hkN, firsts_all] at hJs
      clear hN hkN
      gi_wp2
      go_end0
      exact ⟨⟨_, rfl⟩, .inl ⟨_, rfl, hJs⟩⟩
set_option maxRecDepth 100000 in
set_option maxHeartbeats 1000000 in
/-- At fewer than 64 bytes, nil too: no round. -/
theorem blocks1_none (F : Fence) (n : Nat) (hF : F.fn 106) (hro : F.round = none) (l Bs : Nat) (a : Option Addr) (len cap : Nat) (hlen : len < 64) {α : Type} (J : List α → World → Prop) (W : World) (hBs : Has W Bs 22 #[.slice a len cap]) (h0 : J [] W) :
    CallsIn F n Tryd.prog 106 #[.func (.yield l) #[] #[], .pointer (some ⟨Bs, 0, none⟩)] W fun e W' => (∃ v, e = .returned v) ∧ J [] W' := by
  have hcell : W.cell? ⟨Bs, 0, none⟩ = some (.slice a len cap) := hBs.cell 0
  refine callsIn_of_wp Tryd.func106 rfl hF ?_ hro
  simp only [Tryd.ntmps106, List.size_toArray, List.length_cons, List.length_nil, Nat.reduceAdd, Nat.reduceSub, Array.replicate_succ, Array.replicate_zero, List.push_toArray, List.append_toArray, List.nil_append, List.cons_append]
  gi_wp2
  gi_loopw [3] (fun i wr => i = .int .i64 0 ∧ J [] wr ∧ wr.cell? ⟨Bs, 0, none⟩ = some (.slice a len cap)) (fun _ _ => 0)
  case atStart => exact ⟨rfl, h0, hcell⟩
  case round =>
    obtain ⟨rfl, hJs, hcell⟩ := hrel
    gi_wp2
    go_end0
    exact ⟨⟨_, rfl⟩, hJs⟩
theorem blocks1_stops (F : Fence) (n : Nat) (hF : F.fn 106) (hro : F.round = none) (hn : 1 ≤ n) (Bx b off len cap N : Nat) (hN : N = len / 64) (hreach : len ≤ 140737488355328) (hcap : len ≤ cap) (hcap' : cap ≤ maxLen)
    (w : World) (hBx : Has w Bx 22 #[.slice (some ⟨b, off, none⟩) len cap]) :
    SeqStopsK F n Tryd.prog 106 #[.pointer (some ⟨Bx, 0, none⟩)] (fun x : Fin N => #[Value.slice (some ⟨b, off + 64 * x.val, none⟩) 64 (cap - 64 * x.val)]) (fun A B => B.heap[Bx]? = A.heap[Bx]?) (fun ys => ys = List.finRange N) (fun _ => True) N w := fun l J Jx W hW _ _ hY h0 =>
  blocks1_in F n hF hro hn l Bx b off len cap N hN hreach hcap hcap' (fun A B => B.heap[Bx]? = A.heap[Bx]?) (fun _ _ h => h) J Jx hY W (hBx.below hW hBx.lt) h0
theorem blocks1_stops_none (F : Fence) (n : Nat) (hF : F.fn 106) (hro : F.round = none) (Bx : Nat) (a : Option Addr) (len cap : Nat) (hlen : len < 64) (w : World) (hBx : Has w Bx 22 #[.slice a len cap]) (enc : Fin 0 → Array Value) (Kp : World → World → Prop) :
    SeqStopsK F n Tryd.prog 106 #[.pointer (some ⟨Bx, 0, none⟩)] enc Kp (fun ys => ys = List.finRange 0) (fun _ => True) 0 w := fun l J _ W hW _ _ _ h0 =>
  (blocks1_none F n hF hro l Bx a len cap hlen J W (hBx.below hW hBx.lt) h0).mono fun _ _ ⟨he, hj⟩ => ⟨he, .inl ⟨_, rfl, hj⟩⟩
end Go.Proofs.YtffdkniahdekjaaDoor
end
section
namespace Go.Hoar
open Go Go.RowKit
section
variable {P : Program} {F : Fence} {n : Nat}
theorem armIn_load {ops : Array Oper} {rest : List Oper} {a : Act} {w : World} {Q : Exit → Act → World → Prop} {dst : Option Tmp} {ty T : TypeId} {x : Operand} {pos : String} {af : Array Edge}
    (ad : Addr) (cs : Array Value) (d : TypeDesc) (hc : ∀ j u, cs[j]? = some u → w.cell? (ad.add j) = some u) (hu : P.underlying ty = some d)
    (hi : (P.info? ty).map (·.size) = some cs.size) (hx : a.eval x = .pointer (some ad))
    (hd : (match d with | .struct _ | .array _ _ => true | _ => false) = true)
    (h : wpListIn F n P ops Q rest (a.put dst (.agg cs)) w) : wpListIn F n P ops Q (⟨dst, .load ty x, T, pos, af, none⟩ :: rest) a w :=
  wpListIn_plain rfl fun K hK => by
    unfold Oper.wpIn
    refine ⟨by simp [Oper.about], ?_⟩
    rw [Oper.semAt_plain F _ _ (by intro c hc'; cases hc')]
    unfold execOp
    simp only [hx, Instr.loadAt, Instr.sureAddr, Sem.run_bind, Sem.run_pure, Result.andThen_ok, run_loadVar_at w ad ty cs d hc hu hd hi]
    exact hK _ _ h
theorem armIn_store {ops : Array Oper} {rest : List Oper} {a : Act} {w : World} {Q : Exit → Act → World → Prop} {ty T : TypeId} {x y : Operand} {pos : String} {af : Array Edge}
    (g : Nat) (cs : Array Value) (t : TypeId) (old : Array Value) (hg : Has w g t old) (ho : old.size = cs.size) (hi : (P.info? ty).map (·.size) = some cs.size) (h1 : cs.all (·.oneCell') = true)
    (hx : a.eval x = .pointer (some ⟨g, 0, none⟩)) (hy : a.eval y = .agg cs)
    (h : wpListIn F n P ops Q rest a (w.setRow g cs)) : wpListIn F n P ops Q (⟨none, .store ty x y, T, pos, af, none⟩ :: rest) a w :=
  wpListIn_plain rfl fun K hK => by
    unfold Oper.wpIn
    refine ⟨by simp [Oper.about], ?_⟩
    rw [Oper.semAt_plain F _ _ (by intro c hc'; cases hc')]
    unfold execOp
    simp only [hx, hy, Instr.storeAt, Instr.sureAddr, Sem.run_bind, Sem.run_pure, Result.andThen_ok, run_storeVar_row w g t ty old cs hg hi ho h1]
    exact hK _ _ h
/-- Where a walk is to stand before a store of this type. -/
def HeldUp (p : Prop) : Prop := p
theorem stopIn {ops : Array Oper} {rest : List Oper} {a : Act} {w : World} {Q : Exit → Act → World → Prop} {ty T : TypeId} {x y : Operand} {pos : String} {af : Array Edge}
    (h : HeldUp (wpListIn F n P ops Q (⟨none, .store ty x y, T, pos, af, none⟩ :: rest) a w)) : wpListIn F n P ops Q (⟨none, .store ty x y, T, pos, af, none⟩ :: rest) a w := h
theorem stopInL {ops : Array Oper} {rest : List Oper} {a : Act} {w : World} {Q : Exit → Act → World → Prop} {dst : Option Tmp} {ty T : TypeId} {x : Operand} {pos : String} {af : Array Edge}
    (h : HeldUp (wpListIn F n P ops Q (⟨dst, .load ty x, T, pos, af, none⟩ :: rest) a w)) : wpListIn F n P ops Q (⟨dst, .load ty x, T, pos, af, none⟩ :: rest) a w := h
end
end Go.Hoar
end
section
namespace Go.Hoar
open Go Go.RowKit
attribute [local go_sem] Oper.semAt_some
variable {F : Fence} {n : Nat} {P : Program}
def roundTmps (p q : Tmp) (A : Array Value) (v : Value) : Array Value := (A.setIfInBounds p v).setIfInBounds q v
theorem rangeFunc_one {α : Type} {g : Operand} {p q : Tmp} {id : Nat} {T : TypeId} {pos : String} {af : Array Edge} {body : Code} {Q : Exit → Act → World → Prop} {a : Act} {w : World}
    (hp : p < a.tmps.size) (hro : F.round = none) (h1 : 1 ≤ n) {gf : Nat} {lb : Array Value} (hg : a.eval g = .func (.func gf) #[] lb) (hFg : F.fn gf) (eg : ∀ args w, (callFunc gf args).run P w = .ok (.enter gf args) w)
    {V : α → Value} {Kp : World → World → Prop} {S Sp : List α → Prop} {N : Nat} {w0 : World} (hseq : SeqStopsK F (n - 1) P gf lb (fun x => #[V x]) Kp S Sp N w0)
    (hKt : ∀ {A B C : World}, Kp A B → Kp B C → Kp A C) (hKb : ∀ (W : World) (l : Nat) (o o' : Obj), w.heap.size ≤ l → W.heap[l]? = some o → o.isCells = false → o.isWalk = false → Kp W (W.putObj l o')) (hb0 : Below w0.heap.size w0 w)
    (I : List α → World → Prop) (Ix : Code → List α → World → Prop) (hI : OwnFrom w.heap.size I) (hIx : ∀ c, OwnFrom w.heap.size (Ix c)) (h0 : I [] w)
    (hbody : ∀ (l : Nat) (pre : List α) (x : α) (W : World), I pre W → pre.length < N → body.wpIn (F.inRound l) (n - 1 - 1) P (ownPostK Kp I Ix (pre ++ [x]) W) { tmps := roundTmps p q a.tmps (V x), defers := [] } W)
    (hdone : ∀ (D : Nat) (xs : List α) (W : World), w.heap.size ≤ D → S xs → I xs W → W.heap[D]? = some (.deferred (some [])) → Q .normal { a with defers := { target := .collected D, args := #[] } :: a.defers } W)
    (hstop : ∀ (D : Nat) (c : Code) (pre : List α) (W : World), w.heap.size ≤ D → Sp pre → Ix c pre W → W.heap[D]? = some (.deferred (some [])) → c.wpIn F n P Q { a with defers := { target := .collected D, args := #[] } :: a.defers } W) :
    (Code.rangeFunc g #[p] (Code.region id #[⟨some q, .assign (.tmp p), T, pos, af, none⟩] false) body).wpIn F n P Q a w := by
  refine wpIn_rangeFunc_ownF hro h1 hg hFg eg hseq hKt hKb hb0 (fun x => rfl) I Ix hI hIx h0 (fun x => { tmps := roundTmps p q a.tmps (V x), defers := [] }) ?_ hbody hdone hstop
  intro l x W K hK
  gi_wp2
  all_goals first | exact hK | (exfalso; simp_all)
end Go.Hoar
end
section
namespace Go.Proofs.YtffdkniahdekjaaDoor
open Go.RowKit Go.Hoar Go.Shelf
attribute [local go_sem] Oper.semAt_some
def stateCells (h : List Nat) (r : Value) (long : Int) : Array Value := (h.map WV ++ [r, .int .i64 long]).toArray
theorem part_own {w : World} {base n c : Nat} {a : Option Addr} {bs : List Nat} (h : w.ownsRow base 5 1 (.slice a n c) n (bs.map BV)) : PartOk w a c bs ∧ n = bs.length ∧ (a = none ∨ n ≤ c ∧ c ≤ maxLen) := by
  obtain ⟨hl, h⟩ := h
  simp only [List.length_map, Nat.mul_one] at hl
  rcases h with ⟨hv, hn⟩ | ⟨g, cap, cur, hv, _, hb, hnc, hcm, _, ht⟩
  · injection hv with e1 e2 e3
    subst e1 e2 e3
    exact ⟨.inl ⟨rfl, List.length_eq_zero_iff.1 hl, rfl⟩, hl.symm, .inl rfl⟩
  · injection hv with e1 _ e3
    subst e1 e3
    refine ⟨.inr ⟨g, 0, rfl, lt_of_block hb, fun i hi => ?_⟩, hl.symm, .inr ⟨hnc, hcm⟩⟩
    have hcur : Has w g 5 cur := hb
    rw [Nat.zero_add, hcur.cell]
    have h1 : (cur.toList.take (n * 1))[i]? = (bs.map BV)[i]? := by rw [ht]
    rw [Nat.mul_one, List.getElem?_take_of_lt (by omega), List.getElem?_map, List.getElem?_eq_getElem hi] at h1
    rw [List.getD_eq_getElem?_getD, List.getElem?_eq_getElem hi]
    simpa [BV] using h1
theorem own_form {w : World} {base n : Nat} {v : Value} {bs : List Nat} (h : w.ownsRow base 5 1 v n (bs.map BV)) : ∃ a c, v = .slice a n c := by
  rcases h.2 with ⟨rfl, rfl⟩ | ⟨g, cap, cur, rfl, _⟩
  · exact ⟨_, _, rfl⟩
  · exact ⟨_, _, rfl⟩
theorem own_cap {w : World} {base n c : Nat} {a : Option Addr} {bs : List Nat} (h : w.ownsRow base 5 1 (.slice a n c) n (bs.map BV)) : ∀ g off, a = some ⟨g, off, none⟩ → n ≤ c ∧ c ≤ maxLen ∧ base ≤ g := by
  intro g off ha
  rcases h.2 with ⟨hv, _⟩ | ⟨g', cap, cur, hv, hb, _, hnc, hcm, _, _⟩
  · injection hv with e1 _ _
    rw [ha] at e1
    cases e1
  · injection hv with e1 _ e3
    rw [ha] at e1
    injection e1 with e1
    injection e1 with e4 _ _
    subst e3 e4
    exact ⟨hnc, hcm, hb⟩
/-- The bytes that are no whole block. -/
def restOf (b : List Nat) : List Nat := b.drop (64 * (b.length / 64))
/-- What is asked of a slice that is cut: its bounds. -/
def CapOk (a : Option Addr) (n c : Nat) : Prop := ∀ g off, a = some ⟨g, off, none⟩ → n ≤ c ∧ c ≤ maxLen
theorem info19 : (Tryd.prog.info? 131).map (·.size) = some 19 := by kernel_rfl
theorem work_size (h e : List Nat) (r l f : Value) (hh : h.length = 8) (he : e.length = 8) : (workCells h e r l f).size = 19 := by
  simp [workCells]
  omega
theorem work_info (h e : List Nat) (r l f : Value) (hh : h.length = 8) (he : e.length = 8) : (Tryd.prog.info? 131).map (·.size) = some (workCells h e r l f).size := by
  rw [work_size h e r l f hh he]; exact info19
theorem work_one (h e : List Nat) (r l f : Value) (hr : r.oneCell' = true) (hl : l.oneCell' = true) (hf : f.oneCell' = true) : (workCells h e r l f).all (·.oneCell') = true := by
  rw [Array.all_eq_true_iff_forall_mem]
  intro v hv
  simp only [workCells, List.mem_toArray, List.mem_append, List.mem_map, List.mem_cons, List.not_mem_nil, or_false] at hv
  rcases hv with ((⟨x, _, rfl⟩ | rfl | rfl) | ⟨x, _, rfl⟩) | rfl
  · rfl
  · exact hr
  · exact hl
  · rfl
  · exact hf
def zero19 : Array Value := #[.int .u32 0, .int .u32 0, .int .u32 0, .int .u32 0, .int .u32 0, .int .u32 0, .int .u32 0, .int .u32 0, .slice none 0 0, .int .i64 0, .int .u32 0, .int .u32 0, .int .u32 0, .int .u32 0, .int .u32 0, .int .u32 0, .int .u32 0, .int .u32 0, .nilFunc]
/-- What is known where the blocks are made: the state's box, the result's, the state at work, the method's value, and all bytes. -/
structure Ready (w : World) (H : List Nat) (r : Value) (long : Int) (AA : Option Addr) (CC : Nat) (al : List Nat) (W : World) : Prop where
  bel : Below w.heap.size w W
  res : Has W (w.heap.size + 1) 33 (stateCells [0, 0, 0, 0, 0, 0, 0, 0] (.slice none 0 0) 0)
  work : Has W (w.heap.size + 2) 131 (workCells H [0, 0, 0, 0, 0, 0, 0, 0] r (.int .i64 long) (.func (.func 88) #[] #[]))
  fn : Has W (w.heap.size + 3) 132 #[.func (.func 89) #[.pointer (some ⟨w.heap.size + 2, 0, none⟩)] #[]]
  part : PartOk W AA CC al
  cap : CapOk AA al.length CC
  apart : ∀ g off, AA = some ⟨g, off, none⟩ → g ≠ w.heap.size + 2
theorem PartOk.alloc {w : World} {a : Option Addr} {c : Nat} {bs : List Nat} (h : PartOk w a c bs) (o : Obj) : PartOk (w.alloc o) a c bs := h.below ((Below.refl _ _).alloc (Nat.le_refl _) o)
theorem Ready.alloc {w W : World} {H al : List Nat} {r : Value} {long : Int} {AA : Option Addr} {CC : Nat} (h : Ready w H r long AA CC al W) (o : Obj) : Ready w H r long AA CC al (W.alloc o) :=
  ⟨h.bel.alloc h.bel.size _, h.res.alloc _, h.work.alloc _, h.fn.alloc _, h.part.alloc _, h.cap, h.apart⟩
theorem PartOk.lt {w : World} {g off c : Nat} {bs : List Nat} (h : PartOk w (some ⟨g, off, none⟩) c bs) : g < w.heap.size := by
  rcases h with ⟨h, _⟩ | ⟨g', off', h, hg, _⟩
  · cases h
  · cases h; exact hg
/-- The block x of some bytes; the words behind some blocks. -/
def blk (al : List Nat) (x : Nat) : List Nat := (al.drop (64 * x)).take 64
def after {N : Nat} (al H : List Nat) (pre : List (Fin N)) : List Nat := pre.foldl (fun h x => Sha.take h (blk al x.val)) H
theorem after_snoc {N : Nat} (al H : List Nat) (pre : List (Fin N)) (x : Fin N) : after al H (pre ++ [x]) = Sha.take (after al H pre) (blk al x.val) := by simp [after]
theorem after_length {N : Nat} (al H : List Nat) (pre : List (Fin N)) (hH : H.length = 8) : (after al H pre).length = 8 := by
  induction pre generalizing H with
  | nil => exact hH
  | cons x pre ih => exact ih (Sha.take H (blk al x.val)) (by rw [Sha.take_length, hH])
theorem after_words {N : Nat} (al H : List Nat) (pre : List (Fin N)) (hH : Sha.Words H) : Sha.Words (after al H pre) := by
  induction pre generalizing H with
  | nil => exact hH
  | cons x pre ih => exact ih (Sha.take H (blk al x.val)) (Sha.take_words _ _)
theorem after_firsts (N : Nat) (al H : List Nat) (k : Nat) (hk : k ≤ N) : after al H (firsts N k) = Sha.takes H al k := by
  induction k with
  | zero => simp [firsts, after, Sha.takes]
  | succ k ih => rw [firsts_succ _ _ (by omega), after_snoc, ih (by omega), Sha.takes]; exact Eq.refl _
theorem after_all (al H : List Nat) : after al H (List.finRange (al.length / 64)) = Sha.all H al := by
  rw [← firsts_all, after_firsts _ _ _ _ (Nat.le_refl _)]; exact Eq.refl _
theorem bytes_drop {b : List Nat} (h : Sha.Bytes b) (n : Nat) : Sha.Bytes (b.drop n) := fun x hx => h x (List.mem_of_mem_drop hx)
theorem bytes_take {b : List Nat} (h : Sha.Bytes b) (n : Nat) : Sha.Bytes (b.take n) := fun x hx => h x (List.mem_of_mem_take hx)
theorem bytes_append {a b : List Nat} (h : Sha.Bytes a) (k : Sha.Bytes b) : Sha.Bytes (a ++ b) := fun x hx => (List.mem_append.1 hx).elim (h x) (k x)
/-- What the rounds need of the blocks: a contract of the iterator, and where each block lies. -/
theorem blocks_ready {AA : Option Addr} {CC Bx wk : Nat} {al : List Nat} {W : World} (hp : PartOk W AA CC al) (hc : CapOk AA al.length CC) (hlen : al.length ≤ 140737488355328) (hap : ∀ g off, AA = some ⟨g, off, none⟩ → g ≠ wk) (hBx : Has W Bx 22 #[.slice AA al.length CC]) :
    ∃ G OFF, (∀ n, 1 ≤ n → SeqStopsK Fence.wide n Tryd.prog 106 #[.pointer (some ⟨Bx, 0, none⟩)] (fun x : Fin (al.length / 64) => #[Value.slice (some ⟨G, OFF + 64 * x.val, none⟩) 64 (CC - 64 * x.val)]) (fun A B => B.heap[Bx]? = A.heap[Bx]?) (fun ys => ys = List.finRange (al.length / 64)) (fun _ => True) (al.length / 64) W) ∧
      ∀ x : Fin (al.length / 64), G < W.heap.size ∧ 64 ≤ CC - 64 * x.val ∧ CC - 64 * x.val ≤ maxLen ∧ G ≠ wk ∧ BytesAt W G (OFF + 64 * x.val) 64 (blk al x.val) := by
  rcases hp with ⟨rfl, rfl, rfl⟩ | ⟨g, off, rfl, hg, hb⟩
  · exact ⟨0, 0, fun n _ => blocks1_stops_none Fence.wide n trivial rfl Bx none 0 0 (by omega) W hBx _ _, fun x => x.elim0⟩
  · obtain ⟨h1, h2⟩ := hc g off rfl
    refine ⟨g, off, fun n hn => blocks1_stops Fence.wide n trivial rfl hn Bx g off al.length CC _ rfl hlen h1 h2 W hBx, fun x => ?_⟩
    have hx : 64 * x.val + 64 ≤ al.length := by have := x.isLt; omega
    refine ⟨hg, by omega, by omega, hap g off rfl, fun i hi => ?_⟩
    · have := hb (64 * x.val + i) (by omega)
      rw [Nat.add_assoc, this]
      congr 3
      simp only [blk, List.getD_eq_getElem?_getD]
      rw [List.getElem?_take_of_lt hi, List.getElem?_drop]
theorem keepsOthers_of_but {b : Nat} {W W' : World} {t : TypeId} {cs : Array Value} (h : But b W W') (hb : Has W b t cs) : KeepsOthers W W' :=
  ⟨h.size, fun k o hk ho => by
    by_cases e : k = b
    · subst e
      have hb' : W.heap[k]? = some (.cells cs t (0, 0)) := hb
      rw [hb'] at hk
      cases hk
      cases ho
    · exact (h.block k (Array.getElem?_eq_some_iff.1 hk).1 e).trans hk⟩
theorem but_grown {b : Nat} {W A B : World} {row : Option Nat} (h : But b W A) (hg : A.grownBy B row) (hr : ∀ r, row = some r → W.heap.size ≤ r) : But b W B :=
  ⟨hg.os.trans h.os, hg.tape.trans h.tape, hg.output.trans h.output, Nat.le_trans h.size hg.size, fun k hk hb =>
    (hg.block k (Nat.lt_of_lt_of_le hk h.size) (fun e => by have := hr _ e.symm; omega)).trans (h.block k hk hb)⟩
theorem has_grown {g : Nat} {t : TypeId} {cs : Array Value} {A B : World} {row : Option Nat} (h : Has A g t cs) (hg : A.grownBy B row) (hr : some g ≠ row) : Has B g t cs := (hg.block g h.lt hr).trans h
theorem clone_part {A : Option Addr} {c : Nat} {bs : List Nat} {w : World} (h : PartOk w A c bs) (hlen : bs.length ≤ 140737488355328) :
    Calls Tryd.prog 16 #[.slice A bs.length c] w fun e w' => ∃ a' c', e = .returned (.slice a' bs.length c') ∧ w'.ownsRow w.heap.size 5 1 (.slice a' bs.length c') bs.length (bs.map BV) ∧ Below w.heap.size w w' := by
  rcases h with ⟨rfl, rfl, rfl⟩ | ⟨g, off, rfl, _, hb⟩
  · refine (Tryd.bytes_Clone_nil 0 0 w).mono ?_
    rintro e w' ⟨rfl, rfl⟩
    exact ⟨none, 0, rfl, World.ownsRow_nil _ _ _ _, Below.refl _ _⟩
  · refine (Tryd.bytes_Clone_at ⟨g, off, none⟩ bs.length c (bs.map fun (x : Nat) => (x : Int)) w (by simp) hlen (fun i hi => ?_)).mono ?_
    · have hadd : (⟨g, off, none⟩ : Addr).add i = ⟨g, off + i, none⟩ := by unfold Addr.add; split <;> simp_all
      rw [hadd, hb i hi, List.getD_eq_getElem?_getD, List.getD_eq_getElem?_getD, List.getElem?_map, List.getElem?_eq_getElem hi]
      rfl
    · rintro e w' ⟨v, rfl, hown, _, hbel⟩
      rw [List.map_map] at hown
      obtain ⟨a', c', rfl⟩ := own_form (bs := bs) hown
      exact ⟨a', c', rfl, hown, hbel⟩
theorem part_cut {w : World} {A : Option Addr} {c : Nat} {bs : List Nat} {lo : Nat} (h : PartOk w A c bs) (hlo : lo ≤ bs.length) (hc : bs.length ≤ c) :
    (c = lo → PartOk w A (c - lo) (bs.drop lo)) ∧ (c ≠ lo → PartOk w (A.map fun x => x.add lo) (c - lo) (bs.drop lo)) := by
  rcases h with ⟨rfl, rfl, rfl⟩ | ⟨g, off, rfl, hg, hb⟩
  · obtain rfl : lo = 0 := by simpa using hlo
    exact ⟨fun _ => .inl ⟨rfl, rfl, rfl⟩, fun h => absurd rfl h⟩
  · refine ⟨fun e => ?_, fun _ => ?_⟩
    · have : bs.drop lo = [] := List.drop_eq_nil_of_le (by omega)
      rw [this]
      exact .inr ⟨g, off, rfl, hg, fun i hi => by simp at hi⟩
    · have hadd : (⟨g, off, none⟩ : Addr).add lo = ⟨g, off + lo, none⟩ := by unfold Addr.add; split <;> simp_all
      refine .inr ⟨g, off + lo, by simp [hadd], hg, fun i hi => ?_⟩
      rw [List.length_drop] at hi
      have := hb (lo + i) (by omega)
      rw [Nat.add_assoc, this, List.getD_eq_getElem?_getD, List.getD_eq_getElem?_getD, List.getElem?_drop]
theorem PartOk.but {b : Nat} {w w' : World} {a : Option Addr} {c : Nat} {bs : List Nat} (h : PartOk w a c bs) (hb : But b w w') (hap : ∀ g off, a = some ⟨g, off, none⟩ → g ≠ b) : PartOk w' a c bs := by
  rcases h with h | ⟨g, off, rfl, hg, hc⟩
  · exact .inl h
  · exact .inr ⟨g, off, rfl, Nat.lt_of_lt_of_le hg hb.size, fun i hi => (hb.cell hg (hap g off rfl)).trans (hc i hi)⟩
theorem cap_le {w : World} {a : Option Addr} {c : Nat} {bs : List Nat} (h : PartOk w a c bs) (hc : CapOk a bs.length c) : bs.length ≤ c ∧ c ≤ maxLen := by
  rcases h with ⟨rfl, rfl, rfl⟩ | ⟨g, off, rfl, _, _⟩
  · exact ⟨Nat.le_refl _, Nat.zero_le _⟩
  · exact hc g off rfl
theorem own_base {w : World} {base base' n size : Nat} {e : TypeId} {v : Value} {xs : List Value} (h : w.ownsRow base e size v n xs) (hb : base' ≤ base) : w.ownsRow base' e size v n xs := by
  obtain ⟨h1, h2⟩ := h
  refine ⟨h1, ?_⟩
  rcases h2 with h2 | ⟨g, cap, cur, hv, hg, r⟩
  · exact .inl h2
  · exact .inr ⟨g, cap, cur, hv, Nat.le_trans hb hg, r⟩
theorem info10 : (Tryd.prog.info? 33).map (·.size) = some 10 := by kernel_rfl
theorem state_size (h : List Nat) (r : Value) (l : Int) (hh : h.length = 8) : (stateCells h r l).size = 10 := by
  simp [stateCells]
  omega
theorem state_info (h : List Nat) (r : Value) (l : Int) (hh : h.length = 8) : (Tryd.prog.info? 33).map (·.size) = some (stateCells h r l).size := by
  rw [state_size h r l hh]; exact info10
theorem state_one (h : List Nat) (r : Value) (l : Int) (hr : r.oneCell' = true) : (stateCells h r l).all (·.oneCell') = true := by
  rw [Array.all_eq_true_iff_forall_mem]
  intro v hv
  simp only [stateCells, List.mem_toArray, List.mem_append, List.mem_map, List.mem_cons, List.not_mem_nil, or_false] at hv
  rcases hv with ⟨x, _, rfl⟩ | rfl | rfl
  · rfl
  · exact hr
  · rfl
/-- The first ten cells of a state at work are a state's. -/
theorem work_state {h e : List Nat} {r f : Value} {l : Int} (hh : h.length = 8) (j : Nat) (u : Value) (hj : (stateCells h r l)[j]? = some u) : (workCells h e r (.int .i64 l) f)[j]? = some u := by
  have hlt : j < 10 := by
    have := (Array.getElem?_eq_some_iff.1 hj).1
    rw [state_size h r l hh] at this
    exact this
  rw [← hj]
  simp only [workCells, stateCells, List.getElem?_toArray]
  rw [List.append_assoc, List.getElem?_append_left (by simp; omega)]
theorem work_put {h e : List Nat} {r r' l l' f : Value} (hh : h.length = 8) : ((workCells h e r l f).setIfInBounds 8 r').setIfInBounds 9 l' = workCells h e r' l' f := by
  obtain ⟨h0, h1, h2, h3, h4, h5, h6, h7, rfl⟩ := len8 hh
  simp [workCells]
theorem work_eighth {h e : List Nat} {r l f : Value} (hh : h.length = 8) : (workCells h e r l f)[8]? = some r ∧ (workCells h e r l f)[9]? = some l := by
  obtain ⟨h0, h1, h2, h3, h4, h5, h6, h7, rfl⟩ := len8 hh
  exact ⟨rfl, rfl⟩
set_option maxRecDepth 100000 in
set_option maxHeartbeats 4000000 in
theorem written_any (h rb bs : List Nat) (ra a : Option Addr) (rc c : Nat) (long : Int) (w : World) (hh : h.length = 8) (hw : Sha.Words h) (hr : PartOk w ra rc rb) (hb : PartOk w a c bs) (hrb : Sha.Bytes rb) (hbs : Sha.Bytes bs)
    (hlen : rb.length + bs.length ≤ 140737488355328) (hcap : CapOk a bs.length c) (hl0 : 0 ≤ long) (hl1 : long ≤ 1152921504606846976) (hc : ConstAt w) (al : List Nat) (hal0 : Hid (al = rb ++ bs)) :
    Calls Tryd.prog 58 #[.agg (stateCells h (.slice ra rb.length rc) long), .slice a bs.length c] w fun e w' => ∃ a' c', e = .returned (.agg (stateCells (Sha.all h al) (.slice a' (restOf al).length c') (long + bs.length))) ∧ w'.ownsRow w.heap.size 5 1 (.slice a' (restOf al).length c') (restOf al).length ((restOf al).map BV) ∧ Below w.heap.size w w' := by
  obtain ⟨h0, h1, h2, h3, h4, h5, h6, h7, rfl⟩ := len8 hh
  have hs : stateCells [h0, h1, h2, h3, h4, h5, h6, h7] (.slice ra rb.length rc) long = #[.int .u32 (h0 : Int), .int .u32 (h1 : Int), .int .u32 (h2 : Int), .int .u32 (h3 : Int), .int .u32 (h4 : Int), .int .u32 (h5 : Int), .int .u32 (h6 : Int), .int .u32 (h7 : Int), .slice ra rb.length rc, .int .i64 long] := rfl
  rw [hs]
  clear hs
  refine (callsIn_wide (n := 3)).1 ?_
  refine callsIn_of_wp_marks Tryd.func58 rfl trivial ?_ rfl
  simp only [Tryd.ntmps58, List.size_toArray, List.length_cons, List.length_nil, Nat.reduceAdd, Nat.reduceSub, Array.replicate_succ, Array.replicate_zero, List.push_toArray, List.append_toArray, List.nil_append, List.cons_append]
  gi_wp2_with ((with_reducible refine stopIn (ty := 131) ?_))
  refine armIn_store (ty := 131) (w.heap.size + 1 + 1) (workCells [h0, h1, h2, h3, h4, h5, h6, h7] [0, 0, 0, 0, 0, 0, 0, 0] (.slice ra rb.length rc) (.int .i64 long) (.func (.func 88) #[] #[])) 131 _ (Has.fresh_at _ _ _ _ ?h0) ?h1 (work_info _ _ _ _ _ rfl rfl) (work_one _ _ _ _ _ rfl rfl rfl) ?h4 ?h5 ?_
  case h5 => rfl
  case h0 => simp
  case h1 => rfl
  case h4 => rfl
  refine gen_world (P := fun W => wpListIn _ _ _ _ _ _ _ W) (I := fun W => Below w.heap.size w W ∧ W.heap.size = w.heap.size + 3 ∧ Has W w.heap.size 33 (stateCells [h0, h1, h2, h3, h4, h5, h6, h7] (.slice ra rb.length rc) long) ∧ Has W (w.heap.size + 1) 33 (stateCells [0, 0, 0, 0, 0, 0, 0, 0] (.slice none 0 0) 0) ∧ Has W (w.heap.size + 2) 131 (workCells [h0, h1, h2, h3, h4, h5, h6, h7] [0, 0, 0, 0, 0, 0, 0, 0] (.slice ra rb.length rc) (.int .i64 long) (.func (.func 88) #[] #[]))) _ ⟨?g1, ?g2, ?g3, ?g4, ?g5⟩ ?_
  case g1 => exact below_setRow ((((Below.refl _ w).alloc (Nat.le_refl _) _).alloc (by simp) _).alloc (by simp; omega) _) (by omega) _
  case g2 => simp
  case g3 => exact (((Has.fresh_at _ _ _ _ rfl).alloc _).alloc _).setRow_apart (by omega)
  case g4 => exact ((Has.fresh_at _ _ _ _ (by simp)).alloc _).setRow_apart (by omega)
  case g5 => exact (Has.fresh_at _ _ _ _ (by simp only [World.size_alloc])).setRow
  rintro W ⟨hbel, hsz, hS, hR, hW⟩
  have s8 : W.cell? ⟨w.heap.size, 8, none⟩ = some (.slice ra rb.length rc) := hS.cell 8
  have HE := Lib.hid hbel
  have HSt := Lib.hid hS
  have HRs := Lib.hid hR
  have HWk := Lib.hid hW
  have HC := Lib.hid hc
  clear hbel hS hR hW hc
  have hal := hal0.out
  have hala : al.length = rb.length + bs.length := by rw [hal, List.length_append]
  have hr' := hr.below HE.out
  have hb' := hb.below HE.out
  rcases Nat.eq_zero_or_pos rb.length with hz | hpos
  have hz2 : ¬ 0 < rb.length := by omega
  have hal2 : al = bs := by rw [hal, List.length_eq_zero_iff.1 hz]; rfl
  have HA := Lib.hid hal2
  have HA2 := Lib.hid hala
  clear hal hal2 hala hz
  gi_wp2_with (fail)
  refine gen_world (P := fun W => Fence.wide.fn _ ∧ CallsIn _ _ _ _ _ W _) (I := Ready w [h0, h1, h2, h3, h4, h5, h6, h7] (.slice ra rb.length rc) long a c al) _ ⟨HE.out.alloc HE.out.size _, HRs.out.alloc _, HWk.out.alloc _, Has.fresh_at _ _ _ _ hsz.symm, by rw [HA.out]; exact hb'.alloc _, by rw [HA.out]; exact hcap, fun g off e => by subst e; have := hb.lt; omega⟩ ?_
  rw [show bs.length = al.length by rw [HA.out]]
  generalize a = AA
  generalize c = CC0
  rotate_left
  have HA2 := Lib.hid hala
  have HA := Lib.hid hal
  clear hala hal
  gi_wp2_with (fail)
  refine ⟨trivial, ?_⟩
  refine (callsIn_wide.2 (concat_any [(ra, rc, rb), (a, c, bs)] (w.heap.size + 3 + 1) _ (by simp) ?q1 ?q2 ?q3)).mono ?_
  case q1 => simpa [joinedB] using hlen
  case q2 => exact Has.fresh_at _ _ _ _ (by simp [hsz])
  case q3 =>
    intro p hp
    simp only [List.mem_cons, List.not_mem_nil, or_false] at hp
    rcases hp with rfl | rfl
    · exact (hr'.alloc _).alloc _
    · exact (hb'.alloc _).alloc _
  rintro e w1 ⟨v, rfl, hown, hbel2⟩
  have hj : joinedB [(ra, rc, rb), (a, c, bs)] = al := by rw [HA.out]; simp [joinedB]
  rw [hj] at hown
  obtain ⟨AA, CC0, rfl⟩ := own_form hown
  have hpart := part_own hown
  have hcp := own_cap hown
  have HO := Lib.hid hown
  have HJ := Lib.hid hj
  clear hown hj
  gi_wp2_with (fail)
  refine gen_world (P := fun W => Fence.wide.fn _ ∧ CallsIn _ _ _ _ _ W _) (I := Ready w [h0, h1, h2, h3, h4, h5, h6, h7] (.slice ra rb.length rc) long AA CC0 al) _ ⟨((HE.out.alloc HE.out.size _).alloc (by have := HE.out.size; simp; omega) _).trans (hbel2.mono (by have := HE.out.size; simp; omega)), ((HRs.out.alloc _).alloc _).below hbel2 (by simp; omega), ((HWk.out.alloc _).alloc _).below hbel2 (by simp; omega), ((Has.fresh_at _ _ _ _ hsz.symm).alloc _).below hbel2 (by simp; omega), hpart.1, fun g off e => ⟨(hcp g off e).1, (hcp g off e).2.1⟩, fun g off e => by have := (hcp g off e).2.2; simp at this; omega⟩ ?_
  all_goals (
      rintro W2 hT
      refine ⟨trivial, ?_⟩
      refine (callsIn_wide.2 (blocks_any _ _ _ _)).mono ?_
      rintro e W3 ⟨rfl, hW3⟩
      have hBx : Has W3 W2.heap.size 22 _ := hW3 ▸ Has.fresh W2 _ _
      have hT3 := hW3 ▸ hT.alloc (.cells #[.slice _ al.length _] 22)
      have hC3 : ConstAt W3 := fun i hi => (hT3.bel.cell (block_lt_of_cell (HC.out i hi))).trans (HC.out i hi)
      obtain ⟨G, OFF, hseq, hblk⟩ := blocks_ready hT3.part hT3.cap (by have := HA2.out; omega) hT3.apart hBx
      have hbytes : Sha.Bytes al := by rw [hal0.out]; exact bytes_append hrb hbs
      have hW2sz := hT.fn.lt
      clear hW3 hT
      gi_wp2_with (fail)
      refine rangeFunc_one (by simp) rfl (by omega) (gf := 106) (lb := #[.pointer (some ⟨W2.heap.size, 0, none⟩)]) rfl trivial (enters_of Tryd.func106 (by kernel_rfl) rfl) (hseq _ (by omega)) (fun h k => k.trans h) (fun A l' o o' hl ho _ _ => World.putObj_heap_other (by have := hBx.lt; omega)) (Below.refl _ _)
        (fun pre A => (∃ e, e.length = 8 ∧ Has A (w.heap.size + 2) 131 (workCells (after al [h0, h1, h2, h3, h4, h5, h6, h7] pre) e (.slice ra rb.length rc) (.int .i64 long) (.func (.func 88) #[] #[]))) ∧ But (w.heap.size + 2) W3 A)
        (fun _ _ _ => False) ?own (fun _ _ _ _ _ hs _ _ => hs) ⟨⟨_, rfl, hT3.work⟩, But.refl _ _⟩ ?body ?done ?stop
      case own =>
        intro pre A B row hs hg hr
        obtain ⟨⟨e, he, hw2⟩, hb2⟩ := hs
        have hlt := hT3.work.lt
        exact ⟨⟨e, he, has_grown hw2 hg (fun h => by have := (hr _ h.symm).1; omega)⟩, but_grown hb2 hg (fun r h => (hr r h).1)⟩
      case stop =>
        rintro D c pre A _ _ h _
        exact h.elim
      case body =>
        rintro l pre x A ⟨⟨e, he, hw2⟩, hb2⟩ _
        obtain ⟨k1, k2, k3, k4, k5⟩ := hblk x
        have hfn : A.cell? ⟨w.heap.size + 3, 0, none⟩ = some (.func (.func 89) #[.pointer (some ⟨w.heap.size + 2, 0, none⟩)] #[]) := ((hb2.has hT3.fn (by omega)).cell 0)
        have hCA : ConstAt A := fun i hi => (hb2.cell (Nat.lt_of_lt_of_le (block_lt_of_cell (HC.out i hi)) hT3.bel.size) (by show (0 : Nat) ≠ w.heap.size + 2; omega)).trans (hC3 i hi)
        have htake := take_any (w.heap.size + 2) G (OFF + 64 * x.val) _ (after al [h0, h1, h2, h3, h4, h5, h6, h7] pre) e (blk al x.val) (.slice ra rb.length rc) (.int .i64 long) A hCA k2 k3 (Nat.lt_of_lt_of_le k1 hb2.size) k4 (by omega) (fun i hi => (hb2.cell k1 k4).trans (k5 i hi)) (bytes_take (bytes_drop hbytes _) _) (after_length _ _ _ rfl) he (after_words _ _ _ hw) hw2 _ (Lib.hid rfl)
        have HT := Lib.hid htake
        have HK := Lib.hid hw2
        have HB2 := Lib.hid hb2
        clear htake hw2 hb2 hCA
        simp only [roundTmps, List.setIfInBounds_toArray, List.set_cons_succ, List.set_cons_zero]
        gi_wp2_with (refine ⟨trivial, ?_⟩; gi_at_call 89; refine (CallsIn.inRound l (callsIn_wide.2 HT.out)).mono ?_; rintro e' A' ⟨rfl, hb3, e2, he2, hw3⟩)
        exact ⟨keepsOthers_of_but hb3 HK.out, hb3.block _ (Nat.lt_of_lt_of_le hBx.lt HB2.out.size) (by omega), ⟨⟨e2, he2, by rw [after_snoc]; exact hw3⟩, HB2.out.trans hb3⟩⟩
      case done =>
        rintro D xs A hD rfl ⟨⟨e, he, hw2⟩, hb2⟩ hK
        rw [after_all] at hw2
        have hcl := cap_le hT3.part hT3.cap
        obtain ⟨lo, hlo⟩ : ∃ lo, lo = 64 * (al.length / 64) := ⟨_, rfl⟩
        have hlo1 : lo ≤ al.length := by omega
        have hlo2 : ((al.length : Int) - (al.length : Int) % 64) = (lo : Int) := by omega
        have hal47 : al.length ≤ 140737488355328 := by have := HA2.out; omega
        have hcl1 := hcl.1
        have hcl2 : (CC0 : Nat) ≤ 9223372036854775807 := by have := hcl.2; unfold maxLen at this; omega
        have hcutp := part_cut (hT3.part.but hb2 hT3.apart) hlo1 hcl.1
        have hrest : al.drop lo = restOf al := by rw [hlo]; exact Eq.refl _
        have hrl : (restOf al).length = al.length - lo := by rw [← hrest, List.length_drop]
        have HK := Lib.hid hK
        have HW2 := Lib.hid hw2
        have HB2 := Lib.hid hb2
        clear hK hw2 hb2 hlo hcl
        have hsz2 : w.heap.size + 1 ≠ w.heap.size + 2 := by omega
        have hres := HB2.out.has hT3.res hsz2
        have HRes := Lib.hid hres
        clear hres
        have fin : ∀ (aX : Option Addr) (nX cX : Nat) (wX : World), PartOk A aX cX (restOf al) → nX = (restOf al).length → wX = A → Calls Tryd.prog 16 #[.slice aX nX cX] wX fun e' w' => ∃ a' c', e' = .returned (.slice a' (restOf al).length c') ∧ w'.ownsRow A.heap.size 5 1 (.slice a' (restOf al).length c') (restOf al).length ((restOf al).map BV) ∧ Below A.heap.size A w' := fun aX nX cX wX hp hn hw' => by
          subst hn hw'
          exact clone_part hp (by omega)
        have HF := Lib.hid fin
        clear fin
        have hAl : (Sha.all [h0, h1, h2, h3, h4, h5, h6, h7] al).length = 8 := by rw [Sha.all, Sha.takes_length]; exact rfl
        have hbs47 : bs.length ≤ 140737488355328 := by omega
        obtain ⟨HN, hHN⟩ : ∃ HN, HN = Sha.all [h0, h1, h2, h3, h4, h5, h6, h7] al := ⟨_, rfl⟩
        rw [← hHN] at hAl
        have HW3 : Hid (Has A (w.heap.size + 2) 131 (workCells HN e (.slice ra rb.length rc) (.int .i64 long) (.func (.func 88) #[] #[]))) := by rw [hHN]; exact HW2.out
        have HHN := Lib.hid hHN
        clear hHN HW2
        have hDA : D < A.heap.size := (Array.getElem?_eq_some_iff.1 HK.out).1
        have hDne : D ≠ w.heap.size + 2 := by have := hBx.lt; omega
        have hDne1 : D ≠ w.heap.size + 1 := by have := hBx.lt; omega
        have hbA : w.heap.size + 2 < A.heap.size := HW3.out.lt
        by_cases hcut : CC0 = lo
        all_goals (
          have hp2 : PartOk A (if CC0 = lo then AA else AA.map fun x => x.add lo) (CC0 - lo) (restOf al) := by
            rw [← hrest]
            by_cases hz3 : CC0 = lo
            · rw [if_pos hz3]; exact hcutp.1 hz3
            · rw [if_neg hz3]; exact hcutp.2 hz3
          have HP2 := Lib.hid hp2
          have HRL := Lib.hid hrl
          clear hp2 hcutp hrl hrest
          gi_wp2_with (fail)
          refine ⟨trivial, ?_⟩
          refine (callsIn_wide.2 (HF.out _ _ _ _ (by have := HP2.out; simp only [hcut, if_true, if_false, Nat.sub_self] at this; exact this) HRL.out.symm rfl)).mono ?_
          rintro e' w4 ⟨a', c', rfl, hown4, hbel4⟩
          have hW4 := HW3.out.below hbel4 hbA
          have x8 := (hW4.cell 8).trans (work_eighth hAl).1
          have x9 := (hW4.cell 9).trans (work_eighth hAl).2
          have f8 := hW4.free 8
          have f9 := hW4.free 9
          have HO4 := Lib.hid hown4
          have HB4 := Lib.hid hbel4
          have HW4 := Lib.hid hW4
          have hlw4 := hW4.lt
          clear hown4 hbel4 hW4
          gi_wp2_with ((with_reducible refine stopInL (ty := 33) ?_))
          refine gen_world (P := fun W => HeldUp (wpListIn _ _ _ _ _ _ _ W)) (I := fun W => Has W (w.heap.size + 2) 131 (workCells HN e (.slice a' (restOf al).length c') (.int .i64 (long + bs.length)) (.func (.func 88) #[] #[])) ∧ Has W (w.heap.size + 1) 33 (stateCells [0, 0, 0, 0, 0, 0, 0, 0] (.slice none 0 0) 0) ∧ W.heap[D]? = some (.deferred (some [])) ∧ W.ownsRow A.heap.size 5 1 (.slice a' (restOf al).length c') (restOf al).length ((restOf al).map BV) ∧ Below w.heap.size w W) _ ⟨?i1, ?i2, ?i3, ?i4, ?i5⟩ ?_
          case i1 => exact ((HW4.out.put 8 _).put 9 _).of_eq (by first | exact work_put hAl | (have e3 : al.length = bs.length := (by have := HA2.out; omega); rw [e3]; exact work_put hAl))
          case i2 => exact ((HRes.out.below HB4.out HRes.out.lt).apart (by simp) _).apart (by simp) _
          case i3 =>
            rw [Below.heap_setCell _ _ _ _ (by simpa using hDne), Below.heap_setCell _ _ _ _ (by simpa using hDne)]
            exact (HB4.out.block D hDA).trans HK.out
          case i4 =>
            have hne : Value.ownBlock (.slice a' (restOf al).length c') ≠ some (w.heap.size + 2) := fun h => by have := (HO4.out.lt _ h).1; omega
            exact ownsRow_setCell_other (ownsRow_setCell_other HO4.out hne _) hne _
          case i5 => exact (((hT3.bel.trans (HB2.out.below (by omega) hT3.bel.size)).trans (HB4.out.mono (by omega))).setCell (by simp; omega) _).setCell (by simp; omega) _
          rintro W5 ⟨hW5, hR5, hD5, hO5, hB5⟩
          refine armIn_load (ty := 33) ⟨w.heap.size + 2, 0, none⟩ (stateCells HN (.slice a' (restOf al).length c') (long + bs.length)) _ (fun j u hj => hW5.row j u (work_state hAl j u hj)) Tryd.underlying33 (state_info _ _ _ hAl) ?j1 ?j2 ?_
          case j1 => rfl
          case j2 => rfl
          refine armIn_store (ty := 33) (w.heap.size + 1) (stateCells HN (.slice a' (restOf al).length c') (long + bs.length)) 33 _ hR5 (by rw [state_size _ _ _ rfl, state_size _ _ _ hAl]) (state_info _ _ _ hAl) (state_one _ _ _ rfl) ?k1 ?k2 ?_
          case k1 => rfl
          case k2 => rfl
          have hRow := hR5.setRow (cs' := stateCells HN (.slice a' (restOf al).length c') (long + bs.length))
          have HRow := Lib.hid hRow
          have HD5 := Lib.hid hD5
          have HO5 := Lib.hid hO5
          have HB5 := Lib.hid hB5
          clear hRow hD5 hO5 hB5 hR5 hW5
          gi_wp2
          have hD6 : (W5.setRow (w.heap.size + 1) (stateCells HN (.slice a' (restOf al).length c') (long + bs.length))).heap[D]? = some (.deferred (some [])) := (setRow_heap_other _ _ _ _ hDne1).trans HD5.out
          refine ⟨by simp, .inl ⟨_, _, rfl, run_takeDeferred hD6, ?_⟩⟩
          have hRow7 : Has ((W5.setRow (w.heap.size + 1) (stateCells HN (.slice a' (restOf al).length c') (long + bs.length))).putObj D (.deferred none)) (w.heap.size + 1) 33 (stateCells HN (.slice a' (restOf al).length c') (long + bs.length)) := (World.putObj_heap_other (Ne.symm hDne1)).trans HRow.out
          have hne1 : Value.ownBlock (.slice a' (restOf al).length c') ≠ some (w.heap.size + 1) := fun h => by have := (HO5.out.lt _ h).1; omega
          have hne2 : Value.ownBlock (.slice a' (restOf al).length c') ≠ some D := fun h => by have := (HO5.out.lt _ h).1; omega
          have hgr : W5.grownBy (W5.setRow (w.heap.size + 1) (stateCells HN (.slice a' (restOf al).length c') (long + bs.length))) (some (w.heap.size + 1)) := ⟨rfl, rfl, rfl, by simp, fun k _ hk => setRow_heap_other _ _ _ _ (fun e => hk (by rw [e]))⟩
          refine ⟨_, results_cell_row (P := Tryd.prog) rfl _ _ (w.heap.size + 1) 33 _ (0, 0) _ rfl hRow7 Tryd.underlying33 rfl (state_info _ _ _ hAl), a', c', ?_, ?_, ?_⟩
          · rw [HHN.out]
          · exact own_base ((HO5.out.kept hgr (.inr hne1)).kept (grownBy_putObj' _ D (.deferred none)) (.inr hne2)) (by omega)
          · exact (below_setRow HB5.out (by omega) _).grown (grownBy_putObj' _ D (.deferred none)) (by have := HB5.out.size; simpa using this) (fun k e => by cases e; have := hT3.bel.size; omega)))
end Go.Proofs.YtffdkniahdekjaaDoor
end
section
namespace Go.Proofs.YtffdkniahdekjaaDoor
open Go.RowKit Go.Hoar
/-- Thirty-two bytes of which the first are written. -/
def arr32 (l : List Nat) : Array Value := (l.map BV ++ List.replicate (32 - l.length) (Value.int IntKind.u8 0)).toArray
theorem arr32_size (l : List Nat) (h : l.length ≤ 32) : (arr32 l).size = 32 := by
  simp only [arr32, List.size_toArray, List.length_append, List.length_map, List.length_replicate]
  omega
theorem arr32_set (l : List Nat) (x : Nat) (h : l.length < 32) : (arr32 l).setIfInBounds l.length (BV x) = arr32 (l ++ [x]) := by
  have e : 32 - l.length = (32 - (l.length + 1)) + 1 := by omega
  simp only [arr32, List.setIfInBounds_toArray, List.length_append, List.length_cons, List.length_nil, Nat.zero_add, e, List.replicate_succ]
  congr 1
  rw [List.set_append_right _ _ (by simp)]
  simp
theorem arr32_one (l : List Nat) : (arr32 l).all (·.oneCell') = true := by
  simp only [arr32, List.all_toArray, List.all_append, List.all_map, Bool.and_eq_true]
  refine ⟨List.all_eq_true.2 fun _ _ => rfl, List.all_eq_true.2 fun x hx => ?_⟩
  rw [List.eq_of_mem_replicate hx]; rfl
theorem arr32_end (l : List Nat) (h : l.length < 32) : (arr32 l)[l.length]? = some (.int .u8 0) := by
  rw [arr32, List.getElem?_toArray, List.getElem?_append_right (by simp), List.length_map, Nat.sub_self, List.getElem?_replicate]
  rw [if_pos (by omega)]
theorem info32 : (Tryd.prog.info? 26).map (·.size) = some 32 := by kernel_rfl
theorem arr32_info (l : List Nat) (h : l.length ≤ 32) : (Tryd.prog.info? 26).map (·.size) = some (arr32 l).size := by rw [arr32_size l h]; exact info32
/-- The bytes of the first i words, and k bytes of the next. -/
def outB (H : List Nat) (i k : Nat) : List Nat := Sha.bytes (H.take i) ++ (Sha.bytes [H.getD i 0]).take k
theorem bytes_length (H : List Nat) : (Sha.bytes H).length = 4 * H.length := by
  induction H with
  | nil => rfl
  | cons x H ih =>
    have e : Sha.bytes (x :: H) = [x / 16777216, x / 65536 % 256, x / 256 % 256, x % 256] ++ Sha.bytes H := by unfold Sha.bytes; rw [List.flatMap_cons]
    rw [e, List.length_append, ih]
    simp
    omega
theorem outB_length (H : List Nat) (i k : Nat) (hi : i ≤ H.length) (hk : k ≤ 4) : (outB H i k).length = 4 * i + k := by
  rw [outB, List.length_append, bytes_length, List.length_take, List.length_take, bytes_length]
  simp
  omega
theorem outB_start (H : List Nat) : outB H 0 0 = [] := by simp [outB, Sha.bytes]
theorem outB_word (H : List Nat) (i : Nat) (hi : i < H.length) : outB H i 4 = outB H (i + 1) 0 := by
  rw [outB, outB, List.take_zero, List.append_nil, List.take_succ_eq_append_getElem hi, Sha.bytes, Sha.bytes, Sha.bytes, List.flatMap_append, List.getD_eq_getElem?_getD, List.getElem?_eq_getElem hi]
  congr 1
theorem outB_all (H : List Nat) (h : H.length = 8) : outB H 8 0 = Sha.bytes H := by
  rw [outB, List.take_zero, List.append_nil, List.take_of_length_le (by omega)]
/-- The byte k of a word. -/
def byteOf (x k : Nat) : Nat := x / 2 ^ (24 - 8 * k) % 256
theorem outB_step (H : List Nat) (i k : Nat) (hk : k < 4) (hx : H.getD i 0 < 4294967296) : outB H i (k + 1) = outB H i k ++ [byteOf (H.getD i 0) k] := by
  rw [outB, outB, List.append_assoc]
  congr 1
  generalize H.getD i 0 = x at *
  have e : Sha.bytes [x] = [x / 16777216, x / 65536 % 256, x / 256 % 256, x % 256] := by unfold Sha.bytes; rw [List.flatMap_cons, List.flatMap_nil, List.append_nil]
  rw [e]
  match k, hk with
  | 0, _ =>
    have e0 : byteOf x 0 = x / 16777216 := by unfold byteOf; simp only [Nat.mul_zero, Nat.sub_zero, show (2 : Nat) ^ 24 = 16777216 from by decide]; omega
    rw [e0]; exact Eq.refl _
  | 1, _ =>
    have e0 : byteOf x 1 = x / 65536 % 256 := by unfold byteOf; simp only [show (2 : Nat) ^ (24 - 8 * 1) = 65536 from by decide]
    rw [e0]; exact Eq.refl _
  | 2, _ =>
    have e0 : byteOf x 2 = x / 256 % 256 := by unfold byteOf; simp only [show (2 : Nat) ^ (24 - 8 * 2) = 256 from by decide]
    rw [e0]; exact Eq.refl _
  | 3, _ =>
    have e0 : byteOf x 3 = x % 256 := by unfold byteOf; simp only [show (2 : Nat) ^ (24 - 8 * 3) = 1 from by decide, Nat.div_one]
    rw [e0]; exact Eq.refl _
theorem pad_bytes (long : Nat) : Sha.Bytes (Sha.pad long) := by
  intro x hx
  simp only [Sha.pad, List.mem_cons, List.mem_append, List.mem_replicate, List.mem_map] at hx
  rcases hx with rfl | ⟨_, rfl⟩ | ⟨k, _, rfl⟩
  · decide
  · decide
  · exact Nat.mod_lt _ (by decide)
theorem pad_part {V : World} {g : Nat} {t : TypeId} {bs : List Nat} (h : Has V g t (bs.map BV).toArray) : PartOk V (some ⟨g, 0, none⟩) bs.length bs :=
  .inr ⟨g, 0, rfl, h.lt, fun i hi => by
    rw [h.cell, Nat.zero_add, List.getElem?_toArray, List.getElem?_map, List.getD_eq_getElem?_getD, List.getElem?_eq_getElem hi]
    exact Eq.refl _⟩
theorem ConstAt.below {w w' : World} {B : Nat} (h : ConstAt w) (hb : Below B w w') (hB : B = w.heap.size) : ConstAt w' := fun i hi => (hb.cell (by have := block_lt_of_cell (h i hi); omega)).trans (h i hi)
theorem ten_of {V : World} {g : Nat} {t : TypeId} {v0 v1 v2 v3 v4 v5 v6 v7 v8 v9 : Value} (h : Has V g t #[v0, v1, v2, v3, v4, v5, v6, v7, v8, v9]) :
    (V.cell? ⟨g, 0, none⟩ = some v0 ∧ V.cell? ⟨g, 1, none⟩ = some v1 ∧ V.cell? ⟨g, 2, none⟩ = some v2 ∧ V.cell? ⟨g, 3, none⟩ = some v3 ∧ V.cell? ⟨g, 4, none⟩ = some v4 ∧ V.cell? ⟨g, 5, none⟩ = some v5 ∧ V.cell? ⟨g, 6, none⟩ = some v6 ∧ V.cell? ⟨g, 7, none⟩ = some v7 ∧ V.cell? ⟨g, 8, none⟩ = some v8 ∧ V.cell? ⟨g, 9, none⟩ = some v9) ∧
      V.frozen? ⟨g, 0, none⟩ = false ∧ V.frozen? ⟨g, 1, none⟩ = false ∧ V.frozen? ⟨g, 2, none⟩ = false ∧ V.frozen? ⟨g, 3, none⟩ = false ∧ V.frozen? ⟨g, 4, none⟩ = false ∧ V.frozen? ⟨g, 5, none⟩ = false ∧ V.frozen? ⟨g, 6, none⟩ = false ∧ V.frozen? ⟨g, 7, none⟩ = false ∧ V.frozen? ⟨g, 8, none⟩ = false ∧ V.frozen? ⟨g, 9, none⟩ = false :=
  ⟨⟨h.cell 0, h.cell 1, h.cell 2, h.cell 3, h.cell 4, h.cell 5, h.cell 6, h.cell 7, h.cell 8, h.cell 9⟩, h.free 0, h.free 1, h.free 2, h.free 3, h.free 4, h.free 5, h.free 6, h.free 7, h.free 8, h.free 9⟩
abbrev zeroState : Array Value := #[.int .u32 0, .int .u32 0, .int .u32 0, .int .u32 0, .int .u32 0, .int .u32 0, .int .u32 0, .int .u32 0, .slice none 0 0, .int .i64 0]
theorem written_lit (h rb bs : List Nat) (ra a : Option Addr) (rc c : Nat) (long : Int) (w : World) (hh : h.length = 8) (hw : Sha.Words h) (hr : PartOk w ra rc rb) (hb : PartOk w a c bs) (hrb : Sha.Bytes rb) (hbs : Sha.Bytes bs)
    (hlen : rb.length + bs.length ≤ 140737488355328) (hcap : CapOk a bs.length c) (hl0 : 0 ≤ long) (hl1 : long ≤ 1152921504606846976) (hc : ConstAt w) (a0 a1 a2 a3 a4 a5 a6 a7 : Nat) (hH : Hid ([a0, a1, a2, a3, a4, a5, a6, a7] = Sha.all h (rb ++ bs))) :
    Calls Tryd.prog 58 #[.agg (stateCells h (.slice ra rb.length rc) long), .slice a bs.length c] w fun e w' => ∃ (a' : Option Addr) (n' c' : Nat) (l' : Int), e = .returned (.agg #[.int .u32 (a0 : Int), .int .u32 (a1 : Int), .int .u32 (a2 : Int), .int .u32 (a3 : Int), .int .u32 (a4 : Int), .int .u32 (a5 : Int), .int .u32 (a6 : Int), .int .u32 (a7 : Int), .slice a' n' c', .int .i64 l']) ∧ Below w.heap.size w w' := by
  refine (written_any h rb bs ra a rc c long w hh hw hr hb hrb hbs hlen hcap hl0 hl1 hc _ (Lib.hid rfl)).mono ?_
  rintro e w' ⟨a', c', rfl, _, hB⟩
  rw [← hH.out]
  exact ⟨a', _, c', _, rfl, hB⟩
theorem index8_0 (a0 a1 a2 a3 a4 a5 a6 a7 : Nat) (w : World) : (Instr.index 31 (.agg #[WV a0, WV a1, WV a2, WV a3, WV a4, WV a5, WV a6, WV a7]) (.int .i64 0)).run Tryd.prog w = .ok (WV a0) w := by kernel_rfl
theorem index8_1 (a0 a1 a2 a3 a4 a5 a6 a7 : Nat) (w : World) : (Instr.index 31 (.agg #[WV a0, WV a1, WV a2, WV a3, WV a4, WV a5, WV a6, WV a7]) (.int .i64 1)).run Tryd.prog w = .ok (WV a1) w := by kernel_rfl
theorem index8_2 (a0 a1 a2 a3 a4 a5 a6 a7 : Nat) (w : World) : (Instr.index 31 (.agg #[WV a0, WV a1, WV a2, WV a3, WV a4, WV a5, WV a6, WV a7]) (.int .i64 2)).run Tryd.prog w = .ok (WV a2) w := by kernel_rfl
theorem index8_3 (a0 a1 a2 a3 a4 a5 a6 a7 : Nat) (w : World) : (Instr.index 31 (.agg #[WV a0, WV a1, WV a2, WV a3, WV a4, WV a5, WV a6, WV a7]) (.int .i64 3)).run Tryd.prog w = .ok (WV a3) w := by kernel_rfl
theorem index8_4 (a0 a1 a2 a3 a4 a5 a6 a7 : Nat) (w : World) : (Instr.index 31 (.agg #[WV a0, WV a1, WV a2, WV a3, WV a4, WV a5, WV a6, WV a7]) (.int .i64 4)).run Tryd.prog w = .ok (WV a4) w := by kernel_rfl
theorem index8_5 (a0 a1 a2 a3 a4 a5 a6 a7 : Nat) (w : World) : (Instr.index 31 (.agg #[WV a0, WV a1, WV a2, WV a3, WV a4, WV a5, WV a6, WV a7]) (.int .i64 5)).run Tryd.prog w = .ok (WV a5) w := by kernel_rfl
theorem index8_6 (a0 a1 a2 a3 a4 a5 a6 a7 : Nat) (w : World) : (Instr.index 31 (.agg #[WV a0, WV a1, WV a2, WV a3, WV a4, WV a5, WV a6, WV a7]) (.int .i64 6)).run Tryd.prog w = .ok (WV a6) w := by kernel_rfl
theorem index8_7 (a0 a1 a2 a3 a4 a5 a6 a7 : Nat) (w : World) : (Instr.index 31 (.agg #[WV a0, WV a1, WV a2, WV a3, WV a4, WV a5, WV a6, WV a7]) (.int .i64 7)).run Tryd.prog w = .ok (WV a7) w := by kernel_rfl
theorem index8 (H : List Nat) (hl : H.length = 8) (i : Nat) (hi : i < 8) (w : World) :
    (Instr.index 31 (.agg (H.map WV).toArray) (.int .i64 (i : Int))).run Tryd.prog w = .ok (.int .u32 ((H.getD i 0 : Nat) : Int)) w := by
  obtain ⟨a0, a1, a2, a3, a4, a5, a6, a7, rfl⟩ := len8 hl
  have h : i = 0 ∨ i = 1 ∨ i = 2 ∨ i = 3 ∨ i = 4 ∨ i = 5 ∨ i = 6 ∨ i = 7 := by omega
  rcases h with rfl | rfl | rfl | rfl | rfl | rfl | rfl | rfl
  · exact index8_0 _ _ _ _ _ _ _ _ _
  · exact index8_1 _ _ _ _ _ _ _ _ _
  · exact index8_2 _ _ _ _ _ _ _ _ _
  · exact index8_3 _ _ _ _ _ _ _ _ _
  · exact index8_4 _ _ _ _ _ _ _ _ _
  · exact index8_5 _ _ _ _ _ _ _ _ _
  · exact index8_6 _ _ _ _ _ _ _ _ _
  · exact index8_7 _ _ _ _ _ _ _ _ _
set_option maxRecDepth 100000 in
set_option maxHeartbeats 2000000 in
theorem digest_any (h rb : List Nat) (ra : Option Addr) (rc long : Nat) (w : World) (hh : h.length = 8) (hw : Sha.Words h) (hr : PartOk w ra rc rb) (hrb : Sha.Bytes rb)
    (hlen : rb.length ≤ 140737488355000) (hl1 : long ≤ 1152921504606846976) (hc : ConstAt w) (H : List Nat) (hHl : H.length = 8) (hHw : Sha.Words H) (hH0 : Hid (H = Sha.all h (rb ++ Sha.pad long))) :
    Calls Tryd.prog 57 #[.agg (stateCells h (.slice ra rb.length rc) (long : Int))] w fun e w' => e = .returned (.agg (arr32 (Sha.bytes H))) ∧ Below w.heap.size w w' := by
  go_enter Tryd.func57, Tryd.ntmps57
  go_wp2
  refine gen_world (P := fun W => Code.wp _ _ _ _ W) (I := fun W => Below w.heap.size w W ∧ Has W w.heap.size 33 (stateCells h (.slice ra rb.length rc) long) ∧ Has W (w.heap.size + 1) 26 (arr32 [])) _ ⟨((Below.refl _ w).alloc (Nat.le_refl _) _).alloc (by simp) _, (Has.fresh_at _ _ _ _ rfl).alloc _, Has.fresh_at _ _ _ _ (by simp)⟩ ?_
  rintro W ⟨hB, hS, hR⟩
  have hr2 := hr.below hB
  have hlp : rb.length + (Sha.pad long).length ≤ 140737488355328 := by
    have : (Sha.pad long).length ≤ 200 := by rw [← padK_end, padK_length _ _ _ (Nat.le_refl _)]; omega
    omega
  obtain ⟨h0, h1, h2, h3, h4, h5, h6, h7, rfl⟩ := len8 hh
  have c0 : W.cell? ⟨w.heap.size, 0, none⟩ = some (.int .u32 (h0 : Int)) := (hS.cell 0).trans (Eq.refl _)
  have c1 : W.cell? ⟨w.heap.size, 1, none⟩ = some (.int .u32 (h1 : Int)) := (hS.cell 1).trans (Eq.refl _)
  have c2 : W.cell? ⟨w.heap.size, 2, none⟩ = some (.int .u32 (h2 : Int)) := (hS.cell 2).trans (Eq.refl _)
  have c3 : W.cell? ⟨w.heap.size, 3, none⟩ = some (.int .u32 (h3 : Int)) := (hS.cell 3).trans (Eq.refl _)
  have c4 : W.cell? ⟨w.heap.size, 4, none⟩ = some (.int .u32 (h4 : Int)) := (hS.cell 4).trans (Eq.refl _)
  have c5 : W.cell? ⟨w.heap.size, 5, none⟩ = some (.int .u32 (h5 : Int)) := (hS.cell 5).trans (Eq.refl _)
  have c6 : W.cell? ⟨w.heap.size, 6, none⟩ = some (.int .u32 (h6 : Int)) := (hS.cell 6).trans (Eq.refl _)
  have c7 : W.cell? ⟨w.heap.size, 7, none⟩ = some (.int .u32 (h7 : Int)) := (hS.cell 7).trans (Eq.refl _)
  have c8 : W.cell? ⟨w.heap.size, 8, none⟩ = some (.slice ra rb.length rc) := (hS.cell 8).trans (Eq.refl _)
  have c9 : W.cell? ⟨w.heap.size, 9, none⟩ = some (.int .i64 (long : Int)) := (hS.cell 9).trans (Eq.refl _)
  have hlt := hS.lt
  have hW2 : w.heap.size + 2 ≤ W.heap.size := by have := hR.lt; omega
  have hcapp : ∀ g : Nat, CapOk (some ⟨g, 0, none⟩) (Sha.pad long).length (Sha.pad long).length := fun _ _ _ _ => ⟨Nat.le_refl _, by unfold maxLen; omega⟩
  have HCW := Lib.hid (hc.below hB rfl)
  have HI := Lib.hid (state_info [h0, h1, h2, h3, h4, h5, h6, h7] (.slice ra rb.length rc) long hh)
  have HB := Lib.hid hB
  have HR := Lib.hid hR
  have HC := Lib.hid hc
  have HP := Lib.hid hr2
  clear hB hR hc hr2 hr
  obtain ⟨a0, a1, a2, a3, a4, a5, a6, a7, rfl⟩ := len8 hHl
  go_cut [3] (fun s3 wx => ∃ (g : Nat) (r : Value) (l : Int), s3 = .pointer (some ⟨g, 0, none⟩) ∧ w.heap.size + 2 ≤ g ∧ Has wx g 33 (stateCells [a0, a1, a2, a3, a4, a5, a6, a7] r l) ∧ Has wx (w.heap.size + 1) 26 (arr32 []) ∧ Below w.heap.size w wx)
  case first =>
    go_region_held3 (fun W' => W'.cell? ⟨w.heap.size, 0, none⟩ = some (.int .u32 (h0 : Int)) ∧ W'.cell? ⟨w.heap.size, 1, none⟩ = some (.int .u32 (h1 : Int)) ∧ W'.cell? ⟨w.heap.size, 2, none⟩ = some (.int .u32 (h2 : Int)) ∧ W'.cell? ⟨w.heap.size, 3, none⟩ = some (.int .u32 (h3 : Int)) ∧ W'.cell? ⟨w.heap.size, 4, none⟩ = some (.int .u32 (h4 : Int)) ∧ W'.cell? ⟨w.heap.size, 5, none⟩ = some (.int .u32 (h5 : Int)) ∧ W'.cell? ⟨w.heap.size, 6, none⟩ = some (.int .u32 (h6 : Int)) ∧ W'.cell? ⟨w.heap.size, 7, none⟩ = some (.int .u32 (h7 : Int)) ∧ W'.cell? ⟨w.heap.size, 8, none⟩ = some (.slice ra rb.length rc) ∧ W'.cell? ⟨w.heap.size, 9, none⟩ = some (.int .i64 (long : Int)))
      (first | with_reducible exact ⟨c0, c1, c2, c3, c4, c5, c6, c7, c8, c9⟩ | with_reducible exact (fun hb : Below W.heap.size W _ => ⟨(hb.cell hlt).trans c0, (hb.cell hlt).trans c1, (hb.cell hlt).trans c2, (hb.cell hlt).trans c3, (hb.cell hlt).trans c4, (hb.cell hlt).trans c5, (hb.cell hlt).trans c6, (hb.cell hlt).trans c7, (hb.cell hlt).trans c8, (hb.cell hlt).trans c9⟩) (by repeat (first | with_reducible assumption | with_reducible exact Below.refl _ _ | with_reducible refine Below.drew ?_ | with_reducible refine Below.setCell ?_ (by first | (with_reducible assumption) | (dsimp only; omega) | (simp; done)) _ | with_reducible refine Below.alloc ?_ (by first | omega | (simp; done) | (simp; omega)) _)))
      (first
        | (go_at_call 87; refine (padding_any long hl1 _).mono ?_; rintro e w1 ⟨g, n, rfl, rfl, hg, hpad, hbp⟩; have hb1 : Below W.heap.size W w1 := Below.trans (by (repeat (first | with_reducible assumption | with_reducible exact Below.refl _ _ | with_reducible refine Below.drew ?_ | with_reducible refine Below.setCell ?_ (by first | (with_reducible assumption) | (dsimp only; omega) | (simp; done)) _ | with_reducible refine Below.alloc ?_ (by first | omega | (simp; done) | (simp; omega)) _))) (hbp.mono (by simp)); have hs1 := hb1.size; try (have hz1 : Has w1 W.heap.size 33 zeroState := Has.below (by (first | assumption | exact Has.fresh_at _ _ _ _ rfl | (refine Has.drew ?_; exact Has.fresh_at _ _ _ _ rfl))) hbp (by simp)))
        | (go_at_call 58; refine (written_lit [h0, h1, h2, h3, h4, h5, h6, h7] rb (Sha.pad long) ra _ rc _ long _ rfl hw (HP.out.below (by (repeat (first | with_reducible assumption | with_reducible exact Below.refl _ _ | with_reducible refine Below.drew ?_ | with_reducible refine Below.setCell ?_ (by first | (with_reducible assumption) | (dsimp only; omega) | (simp; done)) _ | with_reducible refine Below.alloc ?_ (by first | omega | (simp; done) | (simp; omega)) _)))) (pad_part (t := 5) (by (repeat (first | with_reducible assumption | with_reducible refine Has.drew ?_ | with_reducible refine Has.alloc ?_ _)))) hrb (pad_bytes long) hlp (hcapp _) (by omega) (by omega) (HCW.out.below (B := W.heap.size) (by (repeat (first | with_reducible assumption | with_reducible exact Below.refl _ _ | with_reducible refine Below.drew ?_ | with_reducible refine Below.setCell ?_ (by first | (with_reducible assumption) | (dsimp only; omega) | (simp; done)) _ | with_reducible refine Below.alloc ?_ (by first | omega | (simp; done) | (simp; omega)) _))) rfl) a0 a1 a2 a3 a4 a5 a6 a7 hH0).mono ?_; rintro e w2 ⟨a', n', c', l', rfl, hbw⟩; have hb2 : Below W.heap.size W w2 := Below.trans (by (repeat (first | with_reducible assumption | with_reducible exact Below.refl _ _ | with_reducible refine Below.drew ?_ | with_reducible refine Below.setCell ?_ (by first | (with_reducible assumption) | (dsimp only; omega) | (simp; done)) _ | with_reducible refine Below.alloc ?_ (by first | omega | (simp; done) | (simp; omega)) _))) (hbw.mono (by first | omega | (simp; done) | (simp; omega))); have hs2 := hb2.size; (first | (have hz : Has w2 W.heap.size 33 zeroState := Has.below hz1 hbw hz1.lt; obtain ⟨⟨z0, z1, z2, z3, z4, z5, z6, z7, z8, z9⟩, f0, f1, f2, f3, f4, f5, f6, f7, f8, f9⟩ := ten_of hz) | (have hz : Has w2 w1.heap.size 33 zeroState := Has.below (by (first | assumption | exact Has.fresh_at _ _ _ _ rfl | (refine Has.drew ?_; exact Has.fresh_at _ _ _ _ rfl))) hbw (by simp); obtain ⟨⟨z0, z1, z2, z3, z4, z5, z6, z7, z8, z9⟩, f0, f1, f2, f3, f4, f5, f6, f7, f8, f9⟩ := ten_of hz) | skip)))
    all_goals (go_wp2_with fail; go_meet)
    all_goals (refine ⟨_, .slice a' n' c', l', rfl, by omega, ?_, HR.out.below (B := W.heap.size) (by (repeat (first | with_reducible assumption | with_reducible exact Below.refl _ _ | with_reducible refine Below.drew ?_ | with_reducible refine Below.setCell ?_ (by first | (with_reducible assumption) | (dsimp only; omega) | (simp; done)) _ | with_reducible refine Below.alloc ?_ (by first | omega | (simp; done) | (simp; omega)) _))) HR.out.lt, HB.out.trans ((show Below W.heap.size W _ by (repeat (first | with_reducible assumption | with_reducible exact Below.refl _ _ | with_reducible refine Below.drew ?_ | with_reducible refine Below.setCell ?_ (by first | (with_reducible assumption) | (dsimp only; omega) | (simp; done)) _ | with_reducible refine Below.alloc ?_ (by first | omega | (simp; done) | (simp; omega)) _))).mono HB.out.size)⟩)
    · exact Has.fresh_at _ _ _ _ rfl
    · exact ((((((((((hz.put 0 _).put 1 _).put 2 _).put 3 _).put 4 _).put 5 _).put 6 _).put 7 _).put 8 _).put 9 _).of_eq (by simp [stateCells, WV])
    · exact ((((((((((hz.put 0 _).put 1 _).put 2 _).put 3 _).put 4 _).put 5 _).put 6 _).put 7 _).put 8 _).put 9 _).of_eq (by simp [stateCells, WV])
  case rest =>
    obtain ⟨g, r, l, rfl, hg, hS2, hR2, hB2⟩ := hcut
    obtain ⟨H, hH⟩ : ∃ H, H = [a0, a1, a2, a3, a4, a5, a6, a7] := ⟨_, rfl⟩
    rw [← hH] at hS2 hHw hHl
    have HHH := Lib.hid hH
    have hlen8 : H.length = 8 := hHl
    clear hH hH0 c0 c1 c2 c3 c4 c5 c6 c7 c8 c9
    have hcs : ∀ j u, ((H.map WV).toArray)[j]? = some u → (stateCells H r l)[j]? = some u := fun j u hj => by
      have hj' : j < 8 := by
        have := (Array.getElem?_eq_some_iff.1 hj).1
        simpa [hlen8] using this
      rw [← hj, stateCells, List.getElem?_toArray, List.getElem?_toArray, List.getElem?_append_left (by simp; omega)]
    have h31 : (Tryd.prog.info? 31).map (·.size) = some ((H.map WV).toArray).size := by rw [List.size_toArray, List.length_map, hlen8]; kernel_rfl
    have hget := index8 H hlen8
    generalize hcsE : (H.map WV).toArray = cs at *
    clear hcsE
    go_upto_region 3 with (fail)
    refine gen_world (P := fun W => Code.wp _ _ _ _ W) (I := fun W => Below w.heap.size w W ∧ Has W g 33 (stateCells H r l) ∧ Has W (w.heap.size + 1) 26 (arr32 []) ∧ Has W wc.heap.size 26 (arr32 [])) _ ⟨hB2.alloc hB2.size _, hS2.alloc _, hR2.alloc _, Has.fresh_at _ _ _ _ rfl⟩ ?_
    rintro V ⟨hB3, hS3, hR3, hT3⟩
    have hrow : ∀ j u, cs[j]? = some u → V.cell? ((⟨g, 0, none⟩ : Addr).add j) = some u := fun j u hj => hS3.row j u (hcs j u hj)
    have HRow := Lib.hid hrow
    have HSz := Lib.hid h31
    have HGet := Lib.hid hget
    have hwlt : w.heap.size + 1 < wc.heap.size := hR2.lt
    clear hrow h31 hget hcs hB2 hS2 hR2 hS
    have HB3 := Lib.hid hB3
    have HR3 := Lib.hid hR3
    have HT3 := Lib.hid hT3
    clear hB3 hR3 hT3 hS3
    go_wp2_with ((with_reducible refine arm_load ⟨g, 0, none⟩ cs _ HRow.out Tryd.underlying31 HSz.out ?h1 ?h2 ?_); (case h1 => rfl); (case h2 => rfl))
    go_loopw [15] (fun i wr => ∃ k : Nat, k ≤ 8 ∧ i = .int .i64 k ∧ Has wr wc.heap.size 26 (arr32 (outB H k 0)) ∧ Has wr (w.heap.size + 1) 26 (arr32 []) ∧ Below w.heap.size w wr) (fun i _ => 8 - (intOf i).toNat)
    case atStart => exact ⟨0, Nat.zero_le _, rfl, by rw [outB_start]; exact HT3.out, HR3.out, HB3.out⟩
    case round =>
      obtain ⟨k, hk, rfl, hT, hR, hB⟩ := hrel
      by_cases hlt8 : k < 8
      · have hg1 := HGet.out k hlt8
        have hw1 := Sha.getD_lt hHw (by decide) k
        have hst := fun m (hm : m < 4) => outB_step H k m hm hw1
        generalize H.getD k 0 = x at *
        have HST := Lib.hid hst
        clear hst
        have HT := Lib.hid hT
        have HR4 := Lib.hid hR
        have HB4 := Lib.hid hB
        clear hT hR hB
        go_wp2
        go_loopw [19] (fun i wr2 => ∃ m : Nat, m ≤ 4 ∧ i = .int .i64 m ∧ Has wr2 wc.heap.size 26 (arr32 (outB H k m)) ∧ Has wr2 (w.heap.size + 1) 26 (arr32 []) ∧ Below w.heap.size w wr2) (fun i _ => 4 - (intOf i).toNat)
        case atStart => exact ⟨0, Nat.zero_le _, rfl, HT.out, HR4.out, HB4.out⟩
        case round =>
          obtain ⟨m, hm, rfl, hT, hR, hB⟩ := hrel
          by_cases hlt4 : m < 4
          · have hlenO := outB_length H k m (by omega) (by omega)
            have hold := hT.cell (4 * k + m)
            rw [← hlenO, arr32_end _ (by omega), hlenO] at hold
            have hfree := hT.free (4 * k + m)
            have hstep := (hT.put (4 * k + m) (BV (byteOf x m))).of_eq (by rw [← hlenO, arr32_set _ _ (by omega), ← HST.out m hlt4])
            have HV : Hid (Value.int IntKind.u8 ((x : Int) / 2 ^ (24 - 8 * m) % 256) = BV (byteOf x m)) := by
              show Value.int IntKind.u8 _ = Value.int IntKind.u8 _
              rw [byteOf]
              simp
            have HT5 := Lib.hid hstep
            have HR5 := Lib.hid hR
            have HB5 := Lib.hid hB
            clear hT hR hB hstep hlenO
            go_wp2
            go_roundw
            case rel => exact ⟨m + 1, by omega, by go_num, by rw [HV.out]; exact HT5.out, HR5.out.apart (by simp; omega) _, HB5.out.setCell (by simp; omega) _⟩
            case measure => simp [intOf]; omega
          · obtain rfl : m = 4 := by omega
            have HT5 := Lib.hid (outB_word H k (by omega) ▸ hT)
            have HR5 := Lib.hid hR
            have HB5 := Lib.hid hB
            clear hT hR hB
            go_wp2
            go_roundw
            case rel => exact ⟨k + 1, by omega, by go_num, HT5.out, HR5.out, HB5.out⟩
            case measure => simp [intOf]; omega
      · obtain rfl : k = 8 := by omega
        have HT5 := Lib.hid hT
        have HR5 := Lib.hid hR
        have HB5 := Lib.hid hB
        clear hT hR hB
        rw [outB_all H hlen8] at HT5
        have hbl : (Sha.bytes H).length = 32 := by rw [bytes_length, hlen8]
        have HI32 := Lib.hid (arr32_info (Sha.bytes H) (by omega))
        have HS32 := Lib.hid ((arr32_size [] (by simp)).trans (arr32_size (Sha.bytes H) (by omega)).symm)
        have hrow2 := HT5.out.row
        have HW2 := Lib.hid hrow2
        clear hrow2
        go_wp2_with (first | ((with_reducible refine arm_load ⟨wc.heap.size, 0, none⟩ _ _ HW2.out Tryd.underlying26 HI32.out ?h3 ?h4 ?_); (case h3 => rfl); (case h4 => rfl)) | ((with_reducible refine arm_store (w.heap.size + 1) _ _ _ HR5.out HS32.out HI32.out (arr32_one _) ?h5 ?h6 ?_); (case h5 => rfl); (case h6 => rfl)))
        exact bodyPost_ret (results_cell_row (P := Tryd.prog) rfl _ _ (w.heap.size + 1) 26 (arr32 (Sha.bytes H)) (0, 0) _ rfl HR5.out.setRow Tryd.underlying26 rfl HI32.out) rfl ⟨by rw [HHH.out], below_setRow HB5.out (by omega) _⟩
end Go.Proofs.YtffdkniahdekjaaDoor
end
section
namespace Go.Hoar
open Go.ChangeShapes Go.WideShapes Go.ChangeAt Go.RowKit
/-- The post of a call that turns nothing which was there. -/
theorem post_of_below {H : Type} {enc : TypeId × Value → H} {P : Program} {f : Func} {s : ChangeSpec} {apart fresh handsOn again : Bool} {W W' : World} {args : Array Value} {v : Value} {ds gs : List (DataW H)} {before pa pv : List MemPlace}
    (hW : DataW.Whole enc P f.params.toList s.vars apart W args.toList ds gs before)
    (hres : ∀ (b : Nat) (sp : Nat → Bool) (hd : Bool), DataW.TrodAll enc P W' b sp hd f.resultTypes.toList (v.resultList f.resultTypes.size) (s.fn H (ds ++ gs)).results [])
    (hargs : ∀ sp : Nat → Bool, (∀ p ∈ before, sp p.block = true) → DataW.TrodAll enc P W' 0 sp true f.params.toList args.toList (s.fn H (ds ++ gs)).args pa)
    (hvars : ∀ sp : Nat → Bool, (∀ p ∈ before, sp p.block = true) → DataW.TrodVars enc P W' sp s.vars (s.fn H (ds ++ gs)).vars pv)
    (hps : before = pa ++ pv) (hb : Below W.heap.size W W')
    (hok : ∀ (j : Nat) (t : TypeId) (r : Value), f.resultTypes[j]? = some t → (v.resultList f.resultTypes.size)[j]? = some r → Value.okWide P W' .any 0 t r) :
    s.post enc P f apart fresh handsOn again W args v W' := by
  have hold : ∀ p ∈ before, (fun b => decide (b < W.heap.size)) p.block = true := fun p hp => by simpa using hW.lt p hp
  refine ⟨ds, gs, before, [], pa, pv, hW, hres _ _ _, hargs _ hold, hvars _ hold, World.keptBut_mono (fun p hp => ⟨hp, ?_⟩) (hb.frame (· ∈ before)), fun _ => ?_⟩
  · rw [hps, List.mem_append] at hp
    exact Or.inr hp
  · have hlt := fun p hp => hW.lt p hp
    obtain ⟨_, _, _, _, _, hz, hn⟩ := hW
    refine ⟨hok, _, _, ([] ++ pa) ++ pv, ⟨[] ++ pa, pv, trodAll_append (hargs _ (fun _ _ => rfl)) (hres _ _ _), hvars _ (fun _ _ => rfl), rfl, ?_, ?_⟩, ?_⟩
    · intro b off hp
      have hp' : MemPlace.cell b off ∈ before := by rw [hps]; simpa using hp
      rw [hb.frozen (p := ⟨b, off, none⟩) (hlt _ hp')]
      exact hz b off hp'
    · intro ha
      have := hn ha
      rw [hps] at this
      simpa using this
    · intro p hp _
      rw [hps]
      simpa using hp
/-- A value of an array's type, if it may be passed, holds cells. -/
theorem okWide_agg {P : Program} {w : World} {r : Reach} {b : Nat} {t e : TypeId} {n : Nat} {v : Value} (ht : P.underlying t = some (.array n e)) (h : Value.okWide P w r b t v) : ∃ cs : Array Value, v = .agg cs := by
  unfold Value.okWide at h
  rw [ht] at h
  obtain ⟨cs, hc, _⟩ := h
  exact ⟨cs, hc⟩
/-- Integers of a byte's kind are bytes. -/
theorem bytes_of_ints : ∀ zs : List Int, (∀ z ∈ zs, (Lit.int .u8 z).wf = true) → ∃ l : List Nat, zs = l.map (fun n : Nat => (n : Int)) ∧ ∀ x ∈ l, x < 256
  | [], _ => ⟨[], rfl, fun _ h => by cases h⟩
  | z :: zs, h => by
    obtain ⟨l, rfl, hl⟩ := bytes_of_ints zs (fun x hx => h x (by simp [hx]))
    have hz := h z (by simp)
    simp only [Lit.wf, Bool.and_eq_true, decide_eq_true_eq] at hz
    have h0 : 0 ≤ z := hz.1
    have h1 : z ≤ 255 := hz.2
    refine ⟨z.toNat :: l, by simp [Int.toNat_of_nonneg h0], fun x hx => ?_⟩
    rcases List.mem_cons.1 hx with rfl | hx
    · omega
    · exact hl x hx
end Go.Hoar
end
section
namespace Go.Proofs.YtffdkniahdekjaaDoor
open Go.ChangeShapes Go.WideShapes Go.ChangeAt Go.RowKit Go.Hoar
theorem ownK : ownKnob Tryd.prog.godebug = none := by kernel_rfl
theorem gConst : Tryd.prog.globalNamed "hoarstone/sum.constants" = some 0 := by kernel_rfl
theorem gConstType : (Tryd.prog.globals[0]?).map (·.type) = some 151 := by kernel_rfl
theorem cellsConst : Tryd.prog.cellsOf 151 = 64 := by kernel_rfl
theorem cellsU8 : Tryd.prog.cellsOf 5 = 1 := by kernel_rfl
theorem cellsSum : Tryd.prog.cellsOf 26 = 32 := by kernel_rfl
theorem cellsU32 : Tryd.prog.cellsOf 30 = 1 := by kernel_rfl
def laidHere : List (String × DataW Unit) := [("hoarstone/sum.constants", Rows.laid_hoarstone_sum_constants)]
theorem constAt_of_laid {W : World} (h : laidMet Tryd.prog laidHere W) : ConstAt W := by
  have ht : Lib.TabIs Tryd.prog W "hoarstone/sum.constants" .u32 (Sha.consts.map fun n : Nat => (n : Int)) :=
    Lib.tabIs_of_head (rest := []) gConst gConstType Tryd.underlying151 Tryd.underlying30 cellsU32 cellsConst h
  intro i hi
  have := ht.cell gConst i (by rw [List.length_map]; exact hi)
  rw [this]
  simp only [List.getD, List.getElem?_map]
  cases Sha.consts[i]? <;> rfl
/-- A world for a witness: the table's block holds what its initialiser lays. -/
noncomputable def laidWorld (os : Os) : World :=
  { World.holding Tryd.prog os ⟨#[], #[], []⟩ with heap := (World.holding Tryd.prog os ⟨#[], #[], []⟩).heap.modify 0 fun
      | .cells _ t frozen => .cells (Sha.consts.map fun n : Nat => Value.int .u32 (n : Int)).toArray t frozen
      | o => o }
theorem laid_met (os : Os) (vs : Array Value) : laidMet Tryd.prog laidHere ((laidWorld os).forCall (fun _ _ => 0) ⟨#[], vs, []⟩).memory :=
  laidMet_of_run' 8 (by kernel_rfl) (by kernel_rfl)
end Go.Proofs.YtffdkniahdekjaaDoor
end
section
namespace Go.Proofs.YtffdkniahdekjaaDoor
open Go.RowKit Go.Hoar
theorem info31 : (Tryd.prog.info? 31).map (·.size) = some 8 := by kernel_rfl
set_option maxRecDepth 100000 in
theorem start_any (w : World) :
    Calls Tryd.prog 24 #[] w fun e w' => e = .returned (.agg (stateCells Sha.first (.slice none 0 0) 0)) ∧ Below w.heap.size w w' := by
  go_enter Tryd.func24, Tryd.ntmps24
  go_wp2
  obtain ⟨cs, hcs⟩ : ∃ cs, cs = stateCells Sha.first (.slice none 0 0) 0 := ⟨_, rfl⟩
  have hi : (Tryd.prog.info? 33).map (·.size) = some cs.size := by rw [hcs]; exact state_info _ _ _ rfl
  have hlit : stateCells Sha.first (.slice none 0 0) 0 = #[.int .u32 1779033703, .int .u32 3144134277, .int .u32 1013904242, .int .u32 2773480762, .int .u32 1359893119, .int .u32 2600822924, .int .u32 528734635, .int .u32 1541459225, .slice none 0 0, .int .i64 0] := by simp [stateCells, Sha.first, WV]
  rw [← hlit, ← hcs]
  have HI := Lib.hid hi
  clear hi hlit hcs
  exact bodyPost_ret (results_cell_row (P := Tryd.prog) rfl _ _ w.heap.size 33 cs (0, 0) _ rfl (Has.fresh_at _ _ _ _ rfl) Tryd.underlying33 rfl HI.out) rfl ⟨rfl, (Below.refl _ _).alloc (Nat.le_refl _) _⟩
set_option maxRecDepth 100000 in
set_option maxHeartbeats 2000000 in
theorem of_any (bs : List Nat) (a : Option Addr) (c : Nat) (w : World) (hb : PartOk w a c bs) (hbs : Sha.Bytes bs) (hlen : bs.length ≤ 140737488355328) (hcap : CapOk a bs.length c) (hc : ConstAt w) (out : List Nat) (hout : Hid (out = Sha.sha bs)) :
    Calls Tryd.prog 17 #[.slice a bs.length c] w fun e w' => e = .returned (.agg (arr32 out)) ∧ out.length = 32 ∧ Below w.heap.size w w' := by
  go_enter Tryd.func17, Tryd.ntmps17
  go_upto_region 1 with (fail)
  refine gen_world (P := fun W => Code.wp _ _ _ _ W) (I := fun W => Below w.heap.size w W ∧ Has W w.heap.size 26 (arr32 [])) _ ⟨(Below.refl _ w).alloc (Nat.le_refl _) _, Has.fresh_at _ _ _ _ rfl⟩ ?_
  rintro W ⟨hB, hR⟩
  have hb1 := hb.below hB
  have hc1 := hc.below hB rfl
  have HB := Lib.hid hB
  have HR := Lib.hid hR
  have HC := Lib.hid hc1
  have HP := Lib.hid hb1
  clear hB hR hc1 hb1 hb hc
  go_wp2_with (go_at_call 24; refine (start_any _).mono ?_; rintro e w1 ⟨rfl, hbel⟩; have HB1 := Lib.hid hbel; clear hbel)
  have hw1 : W.heap.size ≤ w1.heap.size := HB1.out.size
  refine (written_any Sha.first [] bs none a 0 c 0 w1 rfl Sha.first_words (.inl ⟨rfl, rfl, rfl⟩) (HP.out.below HB1.out) (fun x hx => by cases hx) hbs (by simpa using hlen) hcap (by omega) (by omega) (HC.out.below HB1.out rfl) bs (Lib.hid rfl)).mono ?_
  rintro e w2 ⟨a', c', rfl, hown, hbel2⟩
  rw [Int.zero_add]
  have hpart := (part_own hown).1
  have hrl : (restOf bs).length ≤ 140737488355000 := by rw [restOf, List.length_drop]; omega
  have hrb : Sha.Bytes (restOf bs) := bytes_drop hbs _
  have h8 : (Sha.all Sha.first bs).length = 8 := by rw [Sha.all, Sha.takes_length]; rfl
  have hww : Sha.Words (Sha.all Sha.first bs) := Sha.takes_words Sha.first_words _ _
  obtain ⟨H, hH⟩ : ∃ H, H = Sha.all (Sha.all Sha.first bs) (restOf bs ++ Sha.pad bs.length) := ⟨_, rfl⟩
  have hH8 : H.length = 8 := by rw [hH, Sha.all, Sha.takes_length, h8]
  have hHw : Sha.Words H := by rw [hH]; exact Sha.takes_words hww _ _
  have hfin : out = Sha.bytes H := by rw [hout.out, hH]; exact Eq.refl _
  have HH := Lib.hid hH
  have HF := Lib.hid hfin
  have HPt := Lib.hid hpart
  have HB2 := Lib.hid hbel2
  have hw2 : w1.heap.size ≤ w2.heap.size := hbel2.size
  clear hH hpart hown hbel2 hfin hout
  generalize Sha.all Sha.first bs = h1 at *
  generalize restOf bs = r at *
  have HC2 := Lib.hid ((HC.out.below HB1.out rfl).below HB2.out rfl)
  have hbl : (Sha.bytes H).length = 32 := by rw [bytes_length, hH8]
  have HI32 := Lib.hid (arr32_info (Sha.bytes H) (by omega))
  have HS32 := Lib.hid ((arr32_size [] (by simp)).trans (arr32_size (Sha.bytes H) (by omega)).symm)
  have HR2 := Lib.hid ((HR.out.below HB1.out HR.out.lt).below HB2.out (Nat.lt_of_lt_of_le HR.out.lt hw1))
  go_wp2_with (first
    | (go_at_call 57; refine (digest_any h1 r a' c' bs.length w2 h8 hww HPt.out hrb hrl (by omega) HC2.out H hH8 hHw HH).mono ?_; rintro e w3 ⟨rfl, hbel3⟩; have HB3 := Lib.hid hbel3; have HR3 := Lib.hid (HR2.out.below hbel3 HR2.out.lt); clear hbel3)
    | ((with_reducible refine arm_store w.heap.size _ _ _ HR3.out HS32.out HI32.out (arr32_one _) ?h5 ?h6 ?_); (case h5 => rfl); (case h6 => rfl)))
  have hw3 : w2.heap.size ≤ w3.heap.size := HB3.out.size
  have hwW : w.heap.size ≤ W.heap.size := HB.out.size
  exact bodyPost_ret (results_cell_row (P := Tryd.prog) rfl _ _ w.heap.size 26 (arr32 (Sha.bytes H)) (0, 0) _ rfl HR3.out.setRow Tryd.underlying26 rfl HI32.out) rfl ⟨by rw [HF.out], by rw [HF.out, hbl], below_setRow (((HB.out.trans (HB1.out.mono hwW)).trans (HB2.out.mono (by omega))).trans (HB3.out.mono (by omega))) (Nat.le_refl _) _⟩
end Go.Proofs.YtffdkniahdekjaaDoor
end
section
namespace Go.Proofs.YtffdkniahdekjaaDoor
open Go.RowKit Go.Hoar
/-- What the digit i of a digest is worth. -/
def nib (l : List Nat) (i : Nat) : Nat := if i % 2 = 0 then l.getD (i / 2) 0 / 16 else l.getD (i / 2) 0 % 16
theorem arr32_get (l : List Nat) (h : l.length = 32) (i : Nat) (hi : i < 32) : (arr32 l)[i]? = some (.int .u8 ((l.getD i 0 : Nat) : Int)) := by
  rw [arr32, List.getElem?_toArray, List.getElem?_append_left (by simp; omega), List.getElem?_map, List.getD_eq_getElem?_getD, List.getElem?_eq_getElem (by omega)]
  exact Eq.refl _
set_option maxRecDepth 100000 in
theorem digit_any (l : List Nat) (hl : l.length = 32) (hlb : Sha.Bytes l) (i : Nat) (hi : i < 64) (w : World) :
    Calls Tryd.prog 65 #[.agg (arr32 l), .int .i64 (i : Int)] w fun e w' => e = .returned (.int .u8 ((nib l i : Nat) : Int)) ∧ Below w.heap.size w w' := by
  have hx := Sha.getD_lt hlb (by decide) (i / 2)
  have HG := Lib.hid (arr32_get l hl (i / 2) (by omega))
  have HN : Hid (nib l i = if i % 2 = 0 then l.getD (i / 2) 0 / 16 else l.getD (i / 2) 0 % 16) := Lib.hid rfl
  generalize l.getD (i / 2) 0 = x at *
  go_enter Tryd.func65, Tryd.ntmps65
  go_upto_region 1 with (fail)
  refine gen_world (P := fun W => Code.wp _ _ _ _ W) (I := fun W => Below w.heap.size w W ∧ Has W w.heap.size 26 (arr32 l)) _ ⟨(Below.refl _ w).alloc (Nat.le_refl _) _, Has.fresh_at _ _ _ _ rfl⟩ ?_
  rintro W ⟨hB, hS⟩
  have hc := (hS.cell (i / 2)).trans HG.out
  have HB := Lib.hid hB
  clear hB hS
  have h2 : i / 2 < 32 := by omega
  have h3 : ((i : Int) / 2).toNat = i / 2 := by omega
  by_cases hp : (i : Int) % 2 = 0
  · have hn : nib l i = x / 16 := by rw [HN.out, if_pos (by omega)]
    have HX := Lib.hid hn
    clear hn
    go_wp2
    rw [HX.out]
    go_ret
    exact ⟨rfl, HB.out⟩
  · have hn : nib l i = x % 16 := by rw [HN.out, if_neg (by omega)]
    have HX := Lib.hid hn
    clear hn
    go_wp2
    rw [HX.out]
    go_ret
    exact ⟨rfl, HB.out⟩
end Go.Proofs.YtffdkniahdekjaaDoor
end
section
namespace Go.Proofs.YtffdkniahdekjaaDoor
open Go.RowKit Go.Hoar
theorem own_row {W : World} {g base : Nat} {bs : List Nat} (h : Has W g 5 (bs.map BV).toArray) (hb : base ≤ g) (hn : bs.length ≤ maxLen) :
    W.ownsRow base 5 1 (.slice (some ⟨g, 0, none⟩) bs.length bs.length) bs.length (bs.map BV) :=
  ⟨by simp, .inr ⟨g, bs.length, _, rfl, hb, h, Nat.le_refl _, hn, by simp, by simp [List.take_of_length_le]⟩⟩
theorem arr32_whole (l : List Nat) (h : l.length = 32) : arr32 l = (l.map BV).toArray := by simp [arr32, h]
/-- What a digest holds is bytes in memory. -/
theorem sum_part {W : World} {g : Nat} {t : TypeId} {l : List Nat} (h : Has W g t (arr32 l)) (hl : l.length = 32) : PartOk W (some ⟨g, 0, none⟩) 32 l :=
  .inr ⟨g, 0, rfl, h.lt, fun i hi => by rw [h.cell, Nat.zero_add]; exact arr32_get l hl i (by omega)⟩
set_option maxRecDepth 100000 in
set_option maxHeartbeats 1000000 in
theorem leaf_any (l : List Nat) (hl : l.length = 32) (hlb : Sha.Bytes l) (w : World) (hc : ConstAt w) (out : List Nat) (hout : Hid (out = Sha.sha (1 :: l))) :
    Calls Tryd.prog 67 #[.agg (arr32 l)] w fun e w' => e = .returned (.agg (arr32 out)) ∧ out.length = 32 ∧ Below w.heap.size w w' := by
  obtain ⟨i0, hi, hz0, hz1, hz2⟩ := info_parts info8
  go_enter Tryd.func67, Tryd.ntmps67
  go_upto_region 1 with (fail)
  refine gen_world (P := fun W => Code.wp _ _ _ _ W) (I := fun W => Below w.heap.size w W ∧ Has W w.heap.size 26 (arr32 l) ∧ Has W (w.heap.size + 1) 26 (arr32 []) ∧ W.heap.size = w.heap.size + 2) _ ⟨((Below.refl _ w).alloc (Nat.le_refl _) _).alloc (by simp) _, (Has.fresh_at _ _ _ _ rfl).alloc _, Has.fresh_at _ _ _ _ (by simp), by simp⟩ ?_
  rintro W ⟨hB, hS, hR, hsz⟩
  have HB := Lib.hid hB
  have HS := Lib.hid hS
  have HR := Lib.hid hR
  have HC := Lib.hid hc
  have hone : ∀ u ∈ l.map BV, u.oneCell' = true := by
    intro u hu
    obtain ⟨x, _, rfl⟩ := List.mem_map.1 hu
    rfl
  have h33 : (1 :: l).length = 33 := by simp [hl]
  have hby : Sha.Bytes (1 :: l) := fun x hx => (List.mem_cons.1 hx).elim (fun e => by omega) (hlb x)
  have hof : ∀ (a : Option Addr) (c : Nat) (V : World), V.ownsRow w.heap.size 5 1 (.slice a 33 c) 33 ((1 :: l).map BV) → ConstAt V → Calls Tryd.prog 17 #[.slice a 33 c] V fun e w' => e = .returned (.agg (arr32 out)) ∧ out.length = 32 ∧ Below V.heap.size V w' := fun a c V ho hcv => by
    have hcap : CapOk a (1 :: l).length c := fun g off e => by rw [h33]; have := own_cap ho g off e; exact ⟨this.1, this.2.1⟩
    have := of_any (1 :: l) a c V (part_own ho).1 hby (by rw [h33]; omega) hcap hcv out hout
    rwa [h33] at this
  have HOf := Lib.hid hof
  have HO : Hid ((W.alloc (.cells #[.int .u8 1] 5)).ownsRow w.heap.size 5 1 (.slice (some ⟨w.heap.size + 2, 0, none⟩) 1 1) 1 [.int .u8 1]) := Lib.hid (own_row (bs := [1]) (Has.fresh_at W 5 _ (w.heap.size + 2) hsz.symm) (by omega) (by decide))
  have HN : Hid (∀ j u, (l.map BV)[j]? = some u → (W.alloc (.cells #[.int .u8 1] 5)).cell? ((⟨w.heap.size, 0, none⟩ : Addr).add j) = some u) := Lib.hid fun j u hj => (hS.alloc _).row j u (by rw [arr32_whole l hl, List.getElem?_toArray]; exact hj)
  have HRa := Lib.hid (hR.alloc (.cells #[.int .u8 1] 5))
  have HBa := Lib.hid (hB.alloc hB.size (.cells #[.int .u8 1] 5))
  have hbase : w.heap.size ≤ (W.alloc (.cells #[.int .u8 1] 5)).heap.size := HBa.out.size
  have hl32 : (l.map BV).length = 32 * 1 := by simp [hl]
  clear hB hS hR hc hof
  go_wp2_with (at_builtin; refine wpList_append_own _ rfl _ _ 22 rfl w.heap.size 5 i0 (.int .u8 0) 1 1 Tryd.underlying22 hi hz0 hz1 hz2 rfl (by decide) _ _ _ rfl HO.out ⟨w.heap.size, 0, none⟩ 32 32 (l.map BV) rfl hl32 HN.out hone (by decide) (by decide) hbase ?_; intro v' w2 hown2 hgrow _)
  have hown3 : w2.ownsRow w.heap.size 5 1 v' 33 ((1 :: l).map BV) := hown2
  obtain ⟨a', c', rfl⟩ := own_form hown3
  have hB2 : Below w.heap.size w w2 := HBa.out.grown hgrow hbase (fun r hr => by cases hr; exact Nat.le_add_right _ _)
  have HB2 := Lib.hid hB2
  have hne : some (w.heap.size + 1) ≠ Value.ownBlock (.slice (some ⟨w.heap.size + 2, 0, none⟩) 1 1) := fun e => by
    have e2 : w.heap.size + 1 = w.heap.size + 2 := Option.some.inj e
    omega
  have HR2 := Lib.hid (has_grown HRa.out hgrow hne)
  have hw2 : w.heap.size ≤ w2.heap.size := hB2.size
  have HC2 := Lib.hid (HC.out.below hB2 rfl)
  have HO3 := Lib.hid hown3
  clear hown2 hown3 hgrow hB2
  refine (HOf.out a' c' w2 HO3.out HC2.out).mono ?_
  rintro e w3 ⟨rfl, hol, hbel⟩
  have HB3 := Lib.hid hbel
  have HR3 := Lib.hid (HR2.out.below hbel HR2.out.lt)
  have HI32 := Lib.hid (arr32_info out (by omega))
  have HS32 := Lib.hid ((arr32_size [] (by simp)).trans (arr32_size out (by omega)).symm)
  clear hbel
  go_wp2_with ((with_reducible refine arm_store (w.heap.size + 1) _ _ _ HR3.out HS32.out HI32.out (arr32_one _) ?h5 ?h6 ?_); (case h5 => rfl); (case h6 => rfl))
  exact bodyPost_ret (results_cell_row (P := Tryd.prog) rfl _ _ (w.heap.size + 1) 26 (arr32 out) (0, 0) _ rfl HR3.out.setRow Tryd.underlying26 rfl HI32.out) rfl ⟨rfl, hol, below_setRow (HB2.out.trans (HB3.out.mono hw2)) (by omega) _⟩
end Go.Proofs.YtffdkniahdekjaaDoor
end
