/-
  YtffdkniahdekjaaDoorUnhex
  · YtffdkniahdekjaaDoorPair
  · YtffdkniahdekjaaDoorHalf
  · YtffdkniahdekjaaDoorSpan
  · YtffdkniahdekjaaDoorSpans
  · ROWS OF ELEMENTS OF k CELLS: from a row that a call owns to the words of the library's contracts and back. It speaks of no program.
  · YtffdkniahdekjaaDoorEq
  · YtffdkniahdekjaaDoorBeside
  · YtffdkniahdekjaaDoorCut
  · YtffdkniahdekjaaDoorList
  · YtffdkniahdekjaaDoorDigs
  · YtffdkniahdekjaaDoorState
  · YtffdkniahdekjaaDoorWrite
-/
import Derived.Test.YtffdkniahdekjaaDoorMBb
import Derived.Deep.RegionHeld3
import Derived.Lib.ItoaNum
import Derived.IntWalk
import Derived.Test.YtffdkniahdekjaaDoorMBa
import Derived.Shelf.GgSortFunc.RowK
import Derived.Stop.BytesEq
import Derived.BigQuiet
import Derived.StillTailTactics
import Derived.Deep.LoopGhost
import Derived.OwnWalk
import Derived.Deep.Cut
import Derived.Laws.RangeAny
import Derived.Lib.OthersKept
import Derived.Deep.DeepAppendRoom
section
namespace Go.Proofs.YtffdkniahdekjaaDoor
open Go.RowKit Go.Hoar
theorem has_setCells {g : Nat} {t : TypeId} : ∀ (vs pre old : List Value) (w : World), old.length = vs.length → Has w g t (pre ++ old).toArray → Has (w.setCells g pre.length vs) g t (pre ++ vs).toArray
  | [], pre, old, w, hl, h => by
    have e : old = [] := List.length_eq_zero_iff.1 hl
    subst e
    exact h
  | v :: r, pre, [], w, hl, h => by simp at hl
  | v :: r, pre, x :: old, w, hl, h => by
    have h1 := h.put pre.length v
    have e : (pre ++ x :: old).toArray.setIfInBounds pre.length v = ((pre ++ [v]) ++ old).toArray := by
      rw [List.setIfInBounds_toArray, List.set_append_right _ _ (Nat.le_refl _), Nat.sub_self, List.set_cons_zero, List.append_assoc]
      rfl
    rw [e] at h1
    have h2 := has_setCells r (pre ++ [v]) old _ (by simpa using hl) h1
    rw [List.length_append, List.append_assoc] at h2
    exact h2
theorem below_setCells {B g : Nat} {a : World} (hB : B ≤ g) : ∀ (vs : List Value) (o : Nat) (w : World), Below B a w → Below B a (w.setCells g o vs)
  | [], _, _, h => h
  | v :: r, o, _w, h => below_setCells hB r (o + 1) _ (h.setCell hB v)
theorem has_there {w : World} {g : Nat} {t : TypeId} {cs : Array Value} (h : Has w g t cs) : w.there g 0 cs.size := fun j hj => ⟨by rw [h.cell, Nat.zero_add, Array.getElem?_eq_getElem hj]; rfl, h.free _⟩
theorem of_own (bs : List Nat) (n : Nat) (hn : n = bs.length) (hbs : Sha.Bytes bs) (hlen : n ≤ 140737488355328) {V : World} {base : Nat} {a : Option Addr} {c : Nat} (ho : V.ownsRow base 5 1 (.slice a n c) n (bs.map BV)) (hc : ConstAt V) (out : List Nat) (hout : Hid (out = Sha.sha bs)) :
    Calls Tryd.prog 17 #[.slice a n c] V fun e w' => e = .returned (.agg (arr32 out)) ∧ out.length = 32 ∧ Below V.heap.size V w' := by
  subst hn
  have hcap : CapOk a bs.length c := fun g off e => by have := own_cap ho g off e; exact ⟨this.1, this.2.1⟩
  exact of_any bs a c V (part_own ho).1 hbs hlen hcap hc out hout
theorem cat3 (l m : List Nat) (hl : l.length = 32) (hm : m.length = 32) (g5 g8 gl gm : Nat) (V : World) (h5 : Has V g5 5 #[.int .u8 2]) (hL : Has V gl 26 (arr32 l)) (hM : Has V gm 26 (arr32 m))
    (h8 : Has V g8 22 #[.slice (some ⟨g5, 0, none⟩) 1 1, .slice (some ⟨gl, 0, none⟩) 32 32, .slice (some ⟨gm, 0, none⟩) 32 32]) :
    Calls Tryd.prog 90 #[.slice (some ⟨g8, 0, none⟩) 3 3] V fun e w' => ∃ a c, e = .returned (.slice a 65 c) ∧ w'.ownsRow V.heap.size 5 1 (.slice a 65 c) 65 ((2 :: (l ++ m)).map BV) ∧ Below V.heap.size V w' := by
  have hj : joinedB [(some ⟨g5, 0, none⟩, 1, [2]), (some ⟨gl, 0, none⟩, 32, l), (some ⟨gm, 0, none⟩, 32, m)] = 2 :: (l ++ m) := by simp [joinedB]
  have hjl : (2 :: (l ++ m)).length = 65 := by simp [hl, hm]
  refine (concat_any [(some ⟨g5, 0, none⟩, 1, [2]), (some ⟨gl, 0, none⟩, 32, l), (some ⟨gm, 0, none⟩, 32, m)] g8 V (by simp) (by rw [hj, hjl]; omega) (h8.of_eq (by simp [partV, hl, hm])) (fun p hp => ?_)).mono ?_
  · simp only [List.mem_cons, List.not_mem_nil, or_false] at hp
    rcases hp with rfl | rfl | rfl
    · exact pad_part (bs := [2]) h5
    · exact sum_part hL hl
    · exact sum_part hM hm
  · rintro e w' ⟨v, rfl, ho, hb⟩
    rw [hj, hjl] at ho
    obtain ⟨a, c, rfl⟩ := own_form ho
    exact ⟨a, c, rfl, ho, hb⟩
set_option maxRecDepth 100000 in
set_option maxHeartbeats 2000000 in
theorem pair_any (l m : List Nat) (hl : l.length = 32) (hm : m.length = 32) (hlb : Sha.Bytes l) (hmb : Sha.Bytes m) (w : World) (hc : ConstAt w) (out : List Nat) (hout : Hid (out = Sha.sha (2 :: (l ++ m)))) :
    Calls Tryd.prog 69 #[.agg (arr32 l), .agg (arr32 m)] w fun e w' => e = .returned (.agg (arr32 out)) ∧ out.length = 32 ∧ Below w.heap.size w w' := by
  go_enter Tryd.func69, Tryd.ntmps69
  go_upto_region 1 with (fail)
  refine gen_world (P := fun W => Code.wp _ _ _ _ W) (I := fun W => Below w.heap.size w W ∧ Has W w.heap.size 26 (arr32 l) ∧ Has W (w.heap.size + 1) 26 (arr32 m) ∧ Has W (w.heap.size + 2) 26 (arr32 []) ∧ W.heap.size = w.heap.size + 3) _ ⟨(((Below.refl _ w).alloc (Nat.le_refl _) _).alloc (by simp) _).alloc (by simp; omega) _, ((Has.fresh_at _ _ _ _ rfl).alloc _).alloc _, (Has.fresh_at _ _ _ _ (by simp)).alloc _, Has.fresh_at _ _ _ _ (by simp), by simp⟩ ?_
  rintro W ⟨hB, hL, hM, hR, hsz⟩
  have HB := Lib.hid hB
  have HL := Lib.hid hL
  have HM := Lib.hid hM
  have HR := Lib.hid hR
  have HC := Lib.hid (hc.below hB rfl)
  have hby : Sha.Bytes (2 :: (l ++ m)) := fun x hx => (List.mem_cons.1 hx).elim (fun e => by omega) (bytes_append hlb hmb x)
  have h65 : 65 = (2 :: (l ++ m)).length := by simp [hl, hm]
  clear hB hL hM hR hc
  have hbV : ∀ o o', Below W.heap.size W ((W.alloc o).alloc o').drew := fun o o' => (((Below.refl _ W).alloc (Nat.le_refl _) _).alloc (by simp) _).drew
  go_region_held3 (fun W' => True) (exact trivial)
    (first
      | (go_at_call 90; refine (cat3 l m hl hm (w.heap.size + 3) (w.heap.size + 3 + 1) w.heap.size (w.heap.size + 1) _ ((Has.fresh_at W _ _ (w.heap.size + 3) hsz.symm).alloc _).drew ((HL.out.alloc _).alloc _).drew ((HM.out.alloc _).alloc _).drew (Has.fresh_at _ _ _ _ (by simp [hsz])).drew).mono ?_; rintro e w1 ⟨a, c, rfl, ho, hb1⟩; have hbw1 : Below W.heap.size W w1 := (hbV _ _).trans (hb1.mono (by simp; omega)))
      | (go_at_call 17; refine (of_own (2 :: (l ++ m)) 65 h65 hby (by omega) ho (HC.out.below hbw1 rfl) out hout).mono ?_; rintro e w3 ⟨rfl, hol, hbel⟩; obtain ⟨cs, hcs⟩ : ∃ cs : List Value, cs = out.map BV ++ List.replicate (32 - out.length) (Value.int IntKind.u8 0) := ⟨_, rfl⟩; have hcl : cs.length = 32 := (by simp [hcs, hol]); have hone : ∀ v ∈ cs, v.oneCell' = true := (by rw [hcs]; intro v hv; rcases List.mem_append.1 hv with hv | hv; (obtain ⟨x, _, rfl⟩ := List.mem_map.1 hv; rfl); (rw [List.eq_of_mem_replicate hv]; rfl)); have hcs2 : arr32 out = cs.toArray := (by rw [hcs]; rfl); rw [hcs2]; have HCS := Lib.hid hcs2; have hinfo : (Tryd.prog.info? 26).map (·.size) = some cs.length := (by rw [hcl]; exact info32); have hR3 := (HR.out.below hbw1 HR.out.lt).below hbel (Nat.lt_of_lt_of_le HR.out.lt hbw1.size); have hthere : w3.there (w.heap.size + 1 + 1) 0 cs.length := (by have h := has_there hR3; rw [arr32_size [] (by simp)] at h; rw [hcl]; exact h); clear hcs hcs2))
  have hR4 : Has (w3.setCells (w.heap.size + 1 + 1) 0 cs) (w.heap.size + 1 + 1) 26 cs.toArray := has_setCells cs [] ([].map BV ++ List.replicate (32 - ([] : List Nat).length) (Value.int .u8 0)) w3 (by simp [hcl]) hR3
  have hw1 : W.heap.size ≤ w1.heap.size := hbw1.size
  have hwW : w.heap.size ≤ W.heap.size := by omega
  have hB4 : Below w.heap.size w (w3.setCells (w.heap.size + 1 + 1) 0 cs) := below_setCells (by omega) cs 0 w3 ((HB.out.trans (hbw1.mono hwW)).trans (hbel.mono (by omega)))
  generalize w3.setCells (w.heap.size + 1 + 1) 0 cs = V at *
  have HR4 := Lib.hid hR4
  have HB4 := Lib.hid hB4
  have HI32 : Hid ((Tryd.prog.info? 26).map (·.size) = some cs.toArray.size) := Lib.hid (by rw [List.size_toArray]; exact hinfo)
  clear hR4 hB4 hbel hR3 hthere ho hbw1 hinfo hone
  go_wp2
  exact bodyPost_ret (results_cell_row (P := Tryd.prog) rfl _ _ (w.heap.size + 1 + 1) 26 cs.toArray (0, 0) _ rfl HR4.out Tryd.underlying26 rfl HI32.out) rfl ⟨by rw [HCS.out], hol, HB4.out⟩
end Go.Proofs.YtffdkniahdekjaaDoor
end
section
namespace Go.Proofs.YtffdkniahdekjaaDoor
open Go.RowKit Go.Hoar
/-- The greatest power of 2 below n. -/
def halfOf (n : Nat) : Nat := 2 ^ (Lib.bitLen (n - 1) - 1)
theorem halfOf_bounds {n : Nat} (h2 : 2 ≤ n) (hn : n ≤ 140737488355328) : 1 ≤ Lib.bitLen (n - 1) ∧ halfOf n ≤ n - 1 ∧ n - 1 < 2 * halfOf n := by
  have h := Lib.bitLenAux_bounds 64 (n - 1) (by omega) (by omega)
  refine ⟨h.1, h.2.1, ?_⟩
  have e : 2 * halfOf n = 2 ^ Lib.bitLen (n - 1) := by
    have h1 : 1 ≤ Lib.bitLen (n - 1) := h.1
    rw [halfOf, ← Nat.pow_succ', Nat.succ_eq_add_one, Nat.sub_add_cancel h1]
  rw [e]
  exact h.2.2
theorem wrap_pow (d : Nat) (hd : d ≤ 47) : wrap64 ((2 : Int) ^ d) = ((2 ^ d : Nat) : Int) := by
  have h2 : (2 : Nat) ^ d ≤ 2 ^ 47 := Nat.pow_le_pow_right (by decide) hd
  have e : (2 : Int) ^ d = ((2 ^ d : Nat) : Int) := by simp
  rw [e]
  generalize (2 : Nat) ^ d = p at *
  unfold wrap64
  omega
theorem half_any (n : Nat) (h2 : 2 ≤ n) (hn : n ≤ 140737488355328) (w : World) :
    Calls Tryd.prog 94 #[.int .i64 (n : Int)] w fun e w' => e = .returned (.int .i64 ((halfOf n : Nat) : Int)) ∧ w' = w := by
  obtain ⟨b1, b2, _⟩ := halfOf_bounds h2 hn
  have hd : Lib.bitLen (n - 1) - 1 ≤ 47 := by
    by_cases k : Lib.bitLen (n - 1) - 1 ≤ 47
    · exact k
    · have : 2 ^ 48 ≤ halfOf n := Nat.pow_le_pow_right (by decide) (by omega)
      omega
  obtain ⟨d, hde⟩ : ∃ d, Lib.bitLen (n - 1) = d + 1 := ⟨Lib.bitLen (n - 1) - 1, by omega⟩
  have hh : halfOf n = 2 ^ d := by rw [halfOf, hde, Nat.add_sub_cancel]
  have hd2 : d ≤ 47 := by omega
  have HW := Lib.hid (wrap_pow d hd2)
  have hlen : ∀ w, Calls Tryd.prog 109 #[.int .u64 ((n : Int) - 1)] w fun e w' => e = .returned (.int .i64 ((d : Int) + 1)) ∧ w' = w := fun w => by
    have h := Tryd.bits_Len ((n : Int) - 1) w (by omega) (by omega)
    have e : ((n : Int) - 1).toNat = n - 1 := by omega
    rw [e, hde] at h
    exact h
  rw [hh]
  have HLen := Lib.hid hlen
  clear hlen hh hde b1 b2 hd
  go_enter Tryd.func94, Tryd.ntmps94
  go_wp2_with (go_at_call 109; refine (HLen.out _).mono ?_; rintro e w' ⟨rfl, rfl⟩)
  go_ret
  exact ⟨congrArg (fun x => Ending.returned (.int .i64 x)) HW.out, rfl⟩
end Go.Proofs.YtffdkniahdekjaaDoor
end
section
namespace Go.Proofs.YtffdkniahdekjaaDoor
open Go.RowKit Go.Hoar
/-- The places from one on, up to, and without, another one. -/
def spanV (a b : Nat) : Value := .agg #[.int .i64 (a : Int), .int .i64 (b : Int)]
/-- Two results, each a struct in a block of its own. -/
theorem results_row_row {fn : Func} {p q : Tmp} {ty : TypeId} (h : fn.results = #[.cell p ty, .cell q ty]) (tmps : Array Value) (w : World) (g k : Nat) (t t' : TypeId) (cs ds : Array Value) (fr fr' : Nat × Nat) (d : TypeDesc)
    (hp : tmps.getD p undef = .pointer (some ⟨g, 0, none⟩)) (hq : tmps.getD q undef = .pointer (some ⟨k, 0, none⟩)) (hg : w.heap[g]? = some (.cells cs t fr)) (hk : w.heap[k]? = some (.cells ds t' fr'))
    (hd : (match d with | .struct _ | .array _ _ => true | _ => false) = true) (hu : Tryd.prog.underlying ty = some d) (hi : (Tryd.prog.info? ty).map (·.size) = some cs.size) (hj : (Tryd.prog.info? ty).map (·.size) = some ds.size) :
    (results fn tmps).run Tryd.prog w = .ok (.tuple #[.agg cs, .agg ds]) w := by
  have hp' : tmps[p]?.getD undef = .pointer (some ⟨g, 0, none⟩) := by simpa using hp
  have hq' : tmps[q]?.getD undef = .pointer (some ⟨k, 0, none⟩) := by simpa using hq
  simp [results, h, hp', hq', asAddr, run_loadVar_row w g t ty cs fr d hg hu (by cases d <;> simp_all) hi, run_loadVar_row w k t' ty ds fr' d hk hu (by cases d <;> simp_all) hj]
theorem spanInfo {x y : Value} : (Tryd.prog.info? 108).map (·.size) = some (#[x, y] : Array Value).size := by
  have h : (Tryd.prog.info? 108).map (·.size) = some 2 := by kernel_rfl
  exact h
set_option maxRecDepth 100000 in
set_option maxHeartbeats 1000000 in
theorem spancut_any (a b : Nat) (h2 : a + 2 ≤ b) (hb : b ≤ 140737488355328) (w : World) (mid : Nat) (hm : Hid (mid = a + halfOf (b - a))) :
    Calls Tryd.prog 95 #[spanV a b] w fun e w' => e = .returned (.tuple #[spanV a mid, spanV mid b]) ∧ Below w.heap.size w w' := by
  obtain ⟨_, b2, _⟩ := halfOf_bounds (n := b - a) (by omega) (by omega)
  have hh := half_any (b - a) (by omega) (by omega)
  obtain ⟨h, hhe⟩ : ∃ h, h = halfOf (b - a) := ⟨_, rfl⟩
  have hm2 : mid = a + h := by rw [hm.out, hhe]
  rw [← hhe] at b2 hh
  have e : ((b - a : Nat) : Int) = (b : Int) - (a : Int) := by omega
  rw [e] at hh
  subst hm2
  clear hm hhe
  have HH := Lib.hid hh
  clear hh e
  go_enter Tryd.func95, Tryd.ntmps95
  unfold spanV
  go_upto_region 1 with (fail)
  refine gen_world (P := fun W => Code.wp _ _ _ _ W) (I := fun W => Below w.heap.size w W ∧ Has W w.heap.size 108 #[.int .i64 (a : Int), .int .i64 (b : Int)] ∧ Has W (w.heap.size + 1) 108 #[.int .i64 0, .int .i64 0] ∧ Has W (w.heap.size + 1 + 1) 108 #[.int .i64 0, .int .i64 0]) _ ⟨(((Below.refl _ w).alloc (Nat.le_refl _) _).alloc (by simp) _).alloc (by simp; omega) _, ((Has.fresh_at _ _ _ _ rfl).alloc _).alloc _, (Has.fresh_at _ _ _ _ (by simp)).alloc _, Has.fresh_at _ _ _ _ (by simp)⟩ ?_
  rintro W ⟨hB, hS, hR1, hR2⟩
  have c0 := hS.cell 0
  have c1 := hS.cell 1
  have HB := Lib.hid hB
  have HS := Lib.hid hS
  have HR1 := Lib.hid hR1
  have HR2 := Lib.hid hR2
  clear hB hS hR1 hR2
  have i1 : IntKind.i64.wrap ((b : Int) - (a : Int)) = (b : Int) - (a : Int) := IntWalk.i64_in _ (by omega)
  have i2 : IntKind.i64.wrap ((a : Int) + (h : Int)) = (a : Int) + (h : Int) := IntWalk.i64_in _ (by omega)
  go_region_held3 (fun W' => W'.cell? ⟨w.heap.size, 0, none⟩ = some (.int .i64 (a : Int)) ∧ W'.cell? ⟨w.heap.size, 1, none⟩ = some (.int .i64 (b : Int))) (first | exact ⟨c0, c1⟩ | go_keep)
    (first | (go_at_call 94; refine (HH.out _).mono ?_; rintro e w' ⟨rfl, rfl⟩))
  go_upto_region 2 with (fail)
  have r10 : W.drew.cell? ⟨w.heap.size + 1, 0, none⟩ = some (.int .i64 0) := HR1.out.cell 0
  have r11 : W.drew.cell? ⟨w.heap.size + 1, 1, none⟩ = some (.int .i64 0) := HR1.out.cell 1
  have r20 : W.drew.cell? ⟨w.heap.size + 1 + 1, 0, none⟩ = some (.int .i64 0) := HR2.out.cell 0
  have r21 : W.drew.cell? ⟨w.heap.size + 1 + 1, 1, none⟩ = some (.int .i64 0) := HR2.out.cell 1
  have f10 : W.drew.frozen? ⟨w.heap.size + 1, 0, none⟩ = false := HR1.out.free 0
  have f11 : W.drew.frozen? ⟨w.heap.size + 1, 1, none⟩ = false := HR1.out.free 1
  have f20 : W.drew.frozen? ⟨w.heap.size + 1 + 1, 0, none⟩ = false := HR2.out.free 0
  have f21 : W.drew.frozen? ⟨w.heap.size + 1 + 1, 1, none⟩ = false := HR2.out.free 1
  have b0 : W.drew.cell? ⟨w.heap.size, 0, none⟩ = some (.int .i64 (a : Int)) := c0
  have b1 : W.drew.cell? ⟨w.heap.size, 1, none⟩ = some (.int .i64 (b : Int)) := c1
  have HB2 := Lib.hid HB.out.drew
  have H1 := Lib.hid HR1.out.drew
  have H2 := Lib.hid HR2.out.drew
  clear c0 c1 HB HR1 HR2 HS
  generalize W.drew = V at *
  go_region
  have hcast : ((a + h : Nat) : Int) = (a : Int) + (h : Int) := by omega
  have K1 := Lib.hid (((((H1.out.put 0 (.int .i64 (a : Int))).put 1 (.int .i64 ((a : Int) + (h : Int)))).apart (a := ⟨w.heap.size + 1 + 1, 0, none⟩) (by simp) (.int .i64 ((a : Int) + (h : Int)))).apart (a := ⟨w.heap.size + 1 + 1, 1, none⟩) (by simp) (.int .i64 (b : Int))).drew)
  have K2 := Lib.hid (((((H2.out.apart (a := ⟨w.heap.size + 1, 0, none⟩) (by simp) (.int .i64 (a : Int))).apart (a := ⟨w.heap.size + 1, 1, none⟩) (by simp) (.int .i64 ((a : Int) + (h : Int)))).put 0 (.int .i64 ((a : Int) + (h : Int)))).put 1 (.int .i64 (b : Int))).drew)
  have KB := Lib.hid (((((HB2.out.setCell (p := ⟨w.heap.size + 1, 0, none⟩) (by simp) (.int .i64 (a : Int))).setCell (p := ⟨w.heap.size + 1, 1, none⟩) (by simp) (.int .i64 ((a : Int) + (h : Int)))).setCell (p := ⟨w.heap.size + 1 + 1, 0, none⟩) (by simp; omega) (.int .i64 ((a : Int) + (h : Int)))).setCell (p := ⟨w.heap.size + 1 + 1, 1, none⟩) (by simp; omega) (.int .i64 (b : Int))).drew)
  clear r10 r11 r20 r21 f10 f11 f20 f21 b0 b1 H1 H2 HB2
  go_wp2
  exact bodyPost_ret (results_row_row rfl _ _ (w.heap.size + 1) (w.heap.size + 1 + 1) 108 108 #[.int .i64 (a : Int), .int .i64 ((a : Int) + (h : Int))] #[.int .i64 ((a : Int) + (h : Int)), .int .i64 (b : Int)] (0, 0) (0, 0) _ rfl rfl K1.out K2.out rfl Tryd.underlying108 spanInfo spanInfo) rfl ⟨by rw [hcast], KB.out⟩
end Go.Proofs.YtffdkniahdekjaaDoor
end
section
namespace Go.Proofs.YtffdkniahdekjaaDoor
open Go.RowKit Go.Hoar
/-- The spans beside the way from the root down to a place, from the root on. -/
def spansF : Nat → Nat → Nat → Nat → List (Nat × Nat)
  | 0, _, _, _ => []
  | f + 1, a, b, i => if b ≤ a + 1 then [] else if i < a + halfOf (b - a) then (a + halfOf (b - a), b) :: spansF f a (a + halfOf (b - a)) i else (a, a + halfOf (b - a)) :: spansF f (a + halfOf (b - a)) b i
/-- The spans whose digests are the way of a place. -/
def waysOf (n i : Nat) : List (Nat × Nat) := (spansF n 0 n i).reverse
def encSpan (p : Nat × Nat) : List Value := [.int .i64 (p.1 : Int), .int .i64 (p.2 : Int)]
theorem spansF_one (f a i : Nat) : spansF f a (a + 1) i = [] := by
  cases f with
  | zero => rfl
  | succ f => rw [spansF, if_pos (Nat.le_refl _)]
theorem spansF_left {f a b i : Nat} (h : a + 2 ≤ b) (hi : i < a + halfOf (b - a)) : spansF (f + 1) a b i = (a + halfOf (b - a), b) :: spansF f a (a + halfOf (b - a)) i := by
  rw [spansF, if_neg (by omega), if_pos hi]
theorem spansF_right {f a b i : Nat} (h : a + 2 ≤ b) (hi : ¬ i < a + halfOf (b - a)) : spansF (f + 1) a b i = (a, a + halfOf (b - a)) :: spansF f (a + halfOf (b - a)) b i := by
  rw [spansF, if_neg (by omega), if_neg hi]
/-- Each of them lies in the list, and is not empty. -/
theorem spansF_in : ∀ (f a b i : Nat), b ≤ 140737488355328 → ∀ p ∈ spansF f a b i, a ≤ p.1 ∧ p.1 < p.2 ∧ p.2 ≤ b
  | 0, _, _, _, _, p, hp => by cases hp
  | f + 1, a, b, i, hb, p, hp => by
    by_cases h : a + 2 ≤ b
    · obtain ⟨_, b2, _⟩ := halfOf_bounds (n := b - a) (by omega) (by omega)
      have b0 : 0 < halfOf (b - a) := Nat.two_pow_pos _
      by_cases hi : i < a + halfOf (b - a)
      · rw [spansF_left h hi] at hp
        rcases List.mem_cons.1 hp with rfl | hp
        · exact ⟨by dsimp only; omega, by dsimp only; omega, by dsimp only; omega⟩
        · have := spansF_in f _ _ i (by omega) p hp
          omega
      · rw [spansF_right h hi] at hp
        rcases List.mem_cons.1 hp with rfl | hp
        · exact ⟨by dsimp only; omega, by dsimp only; omega, by dsimp only; omega⟩
        · have := spansF_in f _ _ i (by omega) p hp
          omega
    · rw [spansF, if_pos (by omega)] at hp
      cases hp
theorem spansF_length : ∀ (f a b i : Nat), b ≤ 140737488355328 → a < b → (spansF f a b i).length + 1 ≤ b - a
  | 0, _, _, _, _, _ => by simp [spansF]; omega
  | f + 1, a, b, i, hb, hab => by
    by_cases h : a + 2 ≤ b
    · obtain ⟨_, b2, _⟩ := halfOf_bounds (n := b - a) (by omega) (by omega)
      have b0 : 0 < halfOf (b - a) := Nat.two_pow_pos _
      by_cases hi : i < a + halfOf (b - a)
      · rw [spansF_left h hi, List.length_cons]
        have := spansF_length f a (a + halfOf (b - a)) i (by omega) (by omega)
        omega
      · rw [spansF_right h hi, List.length_cons]
        have := spansF_length f (a + halfOf (b - a)) b i (by omega) (by omega)
        omega
    · rw [spansF, if_pos (by omega)]
      simp
      omega
theorem encSpans_length (l : List (Nat × Nat)) : (l.flatMap encSpan).length = l.length * 2 := by
  induction l with
  | nil => rfl
  | cons p l ih => rw [List.flatMap_cons, List.length_append, ih, List.length_cons]; simp [encSpan]; omega
end Go.Proofs.YtffdkniahdekjaaDoor
end
section
namespace Go.Hoar
open Go Go.RowKit Go.Sort
section
variable {α : Type} [Inhabited α] {enc : α → List Value} {k : Nat}
theorem flat_get (hk : ∀ x, (enc x).length = k) (k0 : 0 < k) : ∀ (L : List α) (i : Nat), i < L.length * k → (L.flatMap enc)[i]? = some ((enc L[i / k]!)[i % k]!)
  | [], i, h => by simp at h
  | x :: L, i, h => by
    rw [List.flatMap_cons]
    by_cases hi : i < k
    · have hi' : i < (enc x).length := by rw [hk]; exact hi
      rw [List.getElem?_append_left hi', Nat.div_eq_of_lt hi, Nat.mod_eq_of_lt hi, List.getElem?_eq_getElem hi']
      simp [hi']
    · have hik : k ≤ i := by omega
      have hl : i - k < L.length * k := by rw [List.length_cons, Nat.add_mul, Nat.one_mul] at h; omega
      have e1 : i / k = (i - k) / k + 1 := Nat.div_eq_sub_div k0 hik
      have e2 : i % k = (i - k) % k := Nat.mod_eq_sub_mod hik
      rw [List.getElem?_append_right (by rw [hk]; exact hik), hk, flat_get hk k0 L (i - k) hl, e1, e2]
      simp
omit [Inhabited α] in
theorem flat_len (hk : ∀ x, (enc x).length = k) : ∀ (L : List α), (L.flatMap enc).length = L.length * k
  | [] => by simp
  | x :: L => by rw [List.flatMap_cons, List.length_append, hk, flat_len hk L, List.length_cons, Nat.add_mul, Nat.one_mul, Nat.add_comm]
theorem flatK_at (hk : ∀ x, (enc x).length = k) (k0 : 0 < k) (d : Array α) (i : Nat) (hi : i < d.size * k) : (d.toList.flatMap enc)[i]? = some (flatK enc k d)[i]! := by
  have hl : i < d.toList.length * k := by simpa using hi
  rw [flat_get hk k0 d.toList i hl, get_flatK enc k d i hi]
  have hd : i / k < d.size := (Nat.div_lt_iff_lt_mul k0).2 hi
  have e : d.toList[i / k]! = d[i / k]! := by
    rw [getElem!_pos d.toList (i / k) (by simpa using hd), getElem!_pos d (i / k) hd, Array.getElem_toList]
  rw [e]
theorem own_holdsK (hk : ∀ x, (enc x).length = k) (k0 : 0 < k) {w : World} {base : Nat} {e : TypeId} {g n cap : Nat} {d : Array α} (h : w.ownsRow base e k (.slice (some ⟨g, 0, none⟩) n cap) n (d.toList.flatMap enc)) : HoldsK enc k w g 0 d := by
  have hn : d.size * k = n * k := by rw [← h.1, flat_len hk]; simp
  obtain ⟨h1, ⟨h0, _⟩ | ⟨g', cap', cur, hv, hb, hh, hc, hm, hs, ht⟩⟩ := h
  · cases h0
  · cases hv
    intro j hj
    rw [size_flatK] at hj
    have hj2 : j < n * k := by omega
    refine ⟨?_, by simp [World.frozen?, hh]⟩
    have hx := flatK_at hk k0 d j hj
    rw [← ht, List.getElem?_take, if_pos hj2] at hx
    rw [Nat.zero_add, cell_of_row w g j cur e (0, 0) hh]
    simpa using hx
theorem own_putK (hk : ∀ x, (enc x).length = k) (k0 : 0 < k) {w : World} {base : Nat} {e : TypeId} {g n cap : Nat} {d d' : Array α} (h : w.ownsRow base e k (.slice (some ⟨g, 0, none⟩) n cap) n (d.toList.flatMap enc)) (hd : d'.size = d.size) (m : Nat) :
    (putRowK enc k (Sort.ahead w m) g 0 d').ownsRow base e k (.slice (some ⟨g, 0, none⟩) n cap) n (d'.toList.flatMap enc) ∧ Go.RowKit.Below base w (putRowK enc k (Sort.ahead w m) g 0 d') := by
  have hn : d.size * k = n * k := by rw [← h.1, flat_len hk]; simp
  obtain ⟨h1, ⟨h0, _⟩ | ⟨g', cap', cur, hv, hb, hh, hc, hm, hs, ht⟩⟩ := h
  · cases h0
  · cases hv
    have hlen : (d'.toList.flatMap enc).length = n * k := by rw [flat_len hk, ← hn, ← hd]; simp
    have hle : n * k ≤ cap * k := Nat.mul_le_mul_right k hc
    refine ⟨⟨hlen, .inr ⟨g, cap, putCells id 0 (flatK enc k d') cur, rfl, hb, ?_, hc, hm, by simpa [putCells] using hs, ?_⟩⟩, ⟨rfl, rfl, rfl, by simp [putRowK, Sort.ahead], fun j hj => ?_⟩⟩
    · simp [putRowK, putRow, mapBlock, Sort.ahead, Array.getElem?_modify, hh, onCells]
    · apply List.ext_getElem?
      intro i
      rw [List.getElem?_take]
      split
      · next hi =>
        have hi' : i < d'.size * k := by rw [hd, hn]; exact hi
        rw [flatK_at hk k0 d' i hi', Array.getElem?_toList, putCells, Array.getElem?_mapIdx, Array.getElem?_eq_getElem (by omega)]
        simp only [Option.map_some]
        rw [if_pos ⟨Nat.zero_le _, by rw [size_flatK]; omega⟩]
        rfl
      · next hi => rw [List.getElem?_eq_none (by omega)]
    · simp [putRowK, putRow, mapBlock, Sort.ahead, Array.getElem?_modify, show ¬ g = j by omega]
end
theorem own_below {w w' : World} {base : Nat} {e : TypeId} {size : Nat} {v : Value} {n : Nat} {xs : List Value} (h : w.ownsRow base e size v n xs) (hb : Go.RowKit.Below w.heap.size w w') : w'.ownsRow base e size v n xs :=
  h.kept (row := none) ⟨hb.os, hb.tape, hb.output, hb.size, fun k hk _ => hb.block k hk⟩ (by cases hv : v.ownBlock <;> simp)
theorem own_setCell {w : World} {base : Nat} {e : TypeId} {size : Nat} {v : Value} {n : Nat} {xs : List Value} (h : w.ownsRow base e size v n xs) {p : Addr} (hp : p.block < base) (u : Value) : (w.setCell p u).ownsRow base e size v n xs :=
  h.kept (row := some p.block) ⟨rfl, rfl, rfl, by simp [World.setCell], fun k _ hb => Below.heap_setCell _ _ _ _ (fun e => hb (by rw [e]))⟩ (.inr (fun e => by have := (h.lt _ e).1; omega))
theorem Has.grown {w w' : World} {g : Nat} {t : TypeId} {cs : Array Value} {row : Option Nat} (h : Has w g t cs) (hg : w.grownBy w' row) (hne : some g ≠ row) : Has w' g t cs := (hg.block g h.lt hne).trans h
theorem cell_two_new (w : World) (a b : Value) (t : TypeId) : ∀ j u, [a, b][j]? = some u → (w.alloc (.cells #[a, b] t)).cell? ((⟨w.heap.size, 0, none⟩ : Addr).add j) = some u := by
  intro j u hj
  match j, hj with
  | 0, hj => simp at hj; subst hj; simp [Addr.add]
  | 1, hj => simp at hj; subst hj; simp [Addr.add]
  | j + 2, hj => simp at hj
theorem ints_one2 (a b : Int) : ∀ u ∈ [Value.int IntKind.i64 a, Value.int IntKind.i64 b], u.oneCell' = true := by
  intro u hu
  simp only [List.mem_cons, List.not_mem_nil, or_false] at hu
  rcases hu with rfl | rfl <;> rfl
end Go.Hoar
end
section
namespace Go.Proofs.YtffdkniahdekjaaDoor
open Go.RowKit Go.Hoar
theorem all_range_nats : ∀ (xs ys : List Nat), xs.length = ys.length → ((List.range xs.length).all fun i => xs.getD i 0 == ys.getD i 0) = decide (xs = ys)
  | [], [], _ => rfl
  | x :: xs, y :: ys, h => by
    have ih := all_range_nats xs ys (by simpa using h)
    rw [List.length_cons, List.range_succ_eq_map, List.all_cons, List.all_map]
    simp only [List.getD_cons_zero, Function.comp_def, List.getD_cons_succ, ih]
    by_cases h1 : x = y <;> by_cases h2 : xs = ys <;> simp [h1, h2]
  | [], _ :: _, h => by simp at h
  | _ :: _, [], h => by simp at h
section
variable {P : Program} (w : World)
theorem run_equalIn_nats (d : Nat) (t e : TypeId) (n : Nat) (ht : P.underlying t = some (.array n e)) (he : P.underlying e = some (.int .u8)) (hsz : ∀ w, (sizeOf e).run P w = .ok 1 w)
    (xs ys : List Nat) (hx : xs.length = n) (hy : ys.length = n) :
    (Op.equalIn (d + 2) t (.agg (xs.map BV).toArray) (.agg (ys.map BV).toArray)).run P w = .ok (decide (xs = ys)) w := by
  rw [← all_range_nats xs ys (hx.trans hy.symm), hx, List.range_eq_range', Op.equalIn]
  simp only [Sem.run_bind, run_underlying ht, Result.andThen_ok, hsz, Std.Legacy.Range.forIn_eq_forIn_range', Std.Legacy.Range.size, Nat.sub_zero, Nat.add_sub_cancel, Nat.div_one]
  have hl : ∀ i ∈ List.range' 0 n 1, i < n := fun i hi => by simpa using (List.mem_range'_1.1 hi).2
  generalize List.range' 0 n 1 = l at hl ⊢
  induction l with
  | nil => simp
  | cons i l ih =>
    have hi : i < n := hl i (by simp)
    have px : (_root_.Go.part e (xs.map BV).toArray (i * 1)).run P w = .ok (BV (xs.getD i 0)) w := by
      simp [_root_.Go.part, isAgg, run_underlying he, List.getD, List.getElem?_eq_getElem (show i < xs.length by omega)]
    have py : (_root_.Go.part e (ys.map BV).toArray (i * 1)).run P w = .ok (BV (ys.getD i 0)) w := by
      simp [_root_.Go.part, isAgg, run_underlying he, List.getD, List.getElem?_eq_getElem (show i < ys.length by omega)]
    have pe : (Op.equalIn (d + 1) e (BV (xs.getD i 0)) (BV (ys.getD i 0))).run P w = .ok (xs.getD i 0 == ys.getD i 0) w := by
      rw [BV, BV, run_equalIn_int w d e .u8 .u8 _ _ he]
      congr 1
      rw [Bool.eq_iff_iff]
      simp
      omega
    simp only [List.forIn_cons, Sem.run_bind, px, py, pe, Result.andThen_ok, List.all_cons]
    cases hb : (xs.getD i 0 == ys.getD i 0)
    · simp
    · simp only [Bool.not_true, Bool.false_eq_true, if_false, Sem.run_pure, Result.andThen_ok, Bool.true_and]
      exact ih fun j hj => hl j (by simp [hj])
end
section
variable {P : Program}
/-- A load of an array or a struct in a region that only reads, in the form of an arm. -/
theorem quiet_load {K : Act → Prop} {a : Act} {w0 : World} {dst : Option Tmp} {ty T : TypeId} {x : Operand} {pos : String} {af : Array Edge}
    (ad : Addr) (cs : Array Value) (d : TypeDesc) (hc : ∀ j u, cs[j]? = some u → w0.cell? (ad.add j) = some u) (hu : P.underlying ty = some d)
    (hi : (P.info? ty).map (·.size) = some cs.size) (hx : a.eval x = .pointer (some ad))
    (hd : (match d with | .struct _ | .array _ _ => true | _ => false) = true) (hk : K (a.put dst (.agg cs))) :
    Oper.quiet P ⟨dst, .load ty x, T, pos, af, none⟩ a (fun w' => ∃ n, w' = w0.drewN n) K :=
  ⟨.agg cs, fun w hw => by
    obtain ⟨n, rfl⟩ := hw
    have hr := run_loadVar_at (P := P) (w0.drewN n) ad ty cs d (fun j u hj => hc j u hj) hu hd hi
    unfold Oper.quietAt execOp
    simp only [hx, Instr.loadAt, Instr.sureAddr, Sem.run_bind, Sem.run_pure, Result.andThen_ok, hr]
    exact ⟨rfl, rfl⟩, hk⟩
/-- The same at any class of worlds. -/
theorem quietC_load {C : World → Prop} {K : Act → Prop} {a : Act} {dst : Option Tmp} {ty T : TypeId} {x : Operand} {pos : String} {af : Array Edge}
    (ad : Addr) (cs : Array Value) (d : TypeDesc) (hc : ∀ w', C w' → ∀ j u, cs[j]? = some u → w'.cell? (ad.add j) = some u) (hu : P.underlying ty = some d)
    (hi : (P.info? ty).map (·.size) = some cs.size) (hx : a.eval x = .pointer (some ad))
    (hd : (match d with | .struct _ | .array _ _ => true | _ => false) = true) (hk : K (a.put dst (.agg cs))) :
    Oper.quiet P ⟨dst, .load ty x, T, pos, af, none⟩ a C K :=
  ⟨.agg cs, fun w hw => by
    have hr := run_loadVar_at (P := P) w ad ty cs d (hc w hw) hu hd hi
    unfold Oper.quietAt execOp
    simp only [hx, Instr.loadAt, Instr.sureAddr, Sem.run_bind, Sem.run_pure, Result.andThen_ok, hr]
    exact ⟨rfl, rfl⟩, hk⟩
/-- What looks at no world. -/
theorem quietC_value {C : World → Prop} {K : Act → Prop} {a : Act} {o : Oper} (v : Value) (h : ∀ w, (execOp a.eval o).run P w = .ok (.value v) w) (hk : K (a.put o.dst v)) : o.quiet P a C K :=
  ⟨v, fun w _ => by unfold Oper.quietAt; rw [h]; exact ⟨rfl, rfl⟩, hk⟩
/-- A call whose end is again in the class. -/
theorem quietC_call2 {C : World → Prop} {K : Act → Prop} {a : Act} {dst : Option Tmp} {f : FuncId} {T : TypeId} {x y : Operand} {ts : Array TypeId} {pos : String} {af : Array Edge}
    (eg : ∀ args w, (callFunc f args).run P w = .ok (.enter f args) w) (u1 u2 v : Value) (hx : a.eval x = u1) (hy : a.eval y = u2)
    (hc : ∀ w', C w' → Calls P f #[u1, u2] w' fun e w'' => e = .returned v ∧ C w'') (hk : K (a.put dst v)) :
    Oper.quiet P ⟨dst, .call { callee := .value (.func f), args := #[x, y], argTypes := ts }, T, pos, af, none⟩ a C K :=
  ⟨v, fun w hw => by
    have hf : a.eval (.func f) = .func (.func f) #[] #[] := rfl
    unfold Oper.quietAt
    simp [execOp, resolve, Deferred.ofValue, invoke, hx, hy, hf, eg, Oper.quietUpon, hc w hw], hk⟩
theorem wp_region_quietC {id : Nat} {Q : Exit → Act → World → Prop} {a : Act} {w : World} {l : List Oper} (C : World → Prop) (hm : P.follows .mixedOrders = true) (hB : Region.lexB .any l.toArray = true) (hC : C { w with drawn := w.drawn + 1 })
    (h : wpQuiet P l.toArray C (fun a' => ∀ w', C w' → Q .normal a' w') l a) : (Code.region id l.toArray true).wp P Q a w :=
  wp_region_quiet (C := C) hm hB hC (by simpa using h)
theorem still_load {ops : Array Oper} {Q : Act → Prop} {a : Act} {w : World} {dst : Option Tmp} {ty T : TypeId} {x : Operand} {pos : String} {af : Array Edge} {rest : List Oper}
    (ad : Addr) (cs : Array Value) (d : TypeDesc) (hc : ∀ j u, cs[j]? = some u → w.cell? (ad.add j) = some u) (hu : P.underlying ty = some d)
    (hi : (P.info? ty).map (·.size) = some cs.size) (hx : a.eval x = .pointer (some ad))
    (hd : (match d with | .struct _ | .array _ _ => true | _ => false) = true) (h : wpStill P ops w Q rest (a.put dst (.agg cs))) :
    wpStill P ops w Q (⟨dst, .load ty x, T, pos, af, none⟩ :: rest) a :=
  wpStill_step fun K hK => by
    have hr := run_loadVar_at (P := P) w ad ty cs d hc hu hd hi
    rw [if_pos (show Region.wanted ⟨dst, .load ty x, T, pos, af, none⟩ (yielded ops a.tmps) = true from rfl)]
    unfold Oper.still execOp
    simp only [hx, Instr.loadAt, Instr.sureAddr, Sem.run_bind, Sem.run_pure, Result.andThen_ok, hr]
    exact ⟨rfl, hK _ h⟩
end
theorem arr32_full (l : List Nat) (h : l.length = 32) : arr32 l = (l.map BV).toArray := by
  rw [arr32, h]
  simp
theorem sum_equal (d : Nat) (l m : List Nat) (hl : l.length = 32) (hm : m.length = 32) (w : World) : (Op.equalIn (d + 2) 26 (.agg (arr32 l)) (.agg (arr32 m))).run Tryd.prog w = .ok (decide (l = m)) w := by
  rw [arr32_full l hl, arr32_full m hm]
  exact run_equalIn_nats w d 26 5 32 Tryd.underlying26 Tryd.underlying5 Tryd.sizeOf5 l m hl hm
theorem sum_eql (l m : List Nat) (hl : l.length = 32) (hm : m.length = 32) (w : World) : (binOp .eql 26 (.agg (arr32 l)) (.agg (arr32 m))).run Tryd.prog w = .ok (.bool (decide (l = m))) w := by
  rw [run_eql_struct, show (10000 : Nat) = 9998 + 2 from rfl, sum_equal 9998 l m hl hm]
  rfl
theorem sum_neq (l m : List Nat) (hl : l.length = 32) (hm : m.length = 32) (w : World) : (binOp .neq 26 (.agg (arr32 l)) (.agg (arr32 m))).run Tryd.prog w = .ok (.bool (!decide (l = m))) w := by
  rw [run_neq_struct, show (10000 : Nat) = 9998 + 2 from rfl, sum_equal 9998 l m hl hm]
  rfl
theorem sum_guard : Tryd.prog.eqGuardType Tryd.prog.depth 26 = false := by kernel_rfl
theorem span_guard : Tryd.prog.eqGuardType Tryd.prog.depth 108 = false := by kernel_rfl
theorem span_neq (a b c d : Int) (w : World) : (binOp .neq 108 (.agg #[.int .i64 a, .int .i64 b]) (.agg #[.int .i64 c, .int .i64 d])).run Tryd.prog w = .ok (.bool (!(decide (a = c ∧ b = d)))) w := by
  have u3 := Tryd.underlying3
  have a3 := Tryd.isAgg3
  have z3 := Tryd.sizeOf3
  have hS : Tryd.prog.underlying 108 = some (.struct (Tryd.prog.fieldsOf 108)) := by kernel_rfl
  have hp : Tryd.prog.stoodInHeld 108 = false := by kernel_rfl
  rw [run_neq_struct, show (10000 : Nat) = 9999 + 1 from rfl, run_equalIn_agg w 9999 108 _ _ hS hp]
  simp only [Program.fieldsOf, Tryd.underlying108]
  go_simp
  by_cases h1 : a = c <;> by_cases h2 : b = d <;> simp [h1, h2]
end Go.Proofs.YtffdkniahdekjaaDoor
end
section
namespace Go.Proofs.YtffdkniahdekjaaDoor
open Go.RowKit Go.Hoar
theorem spanInfo3 : (Tryd.prog.info? 108).map (fun i => (i.zero, i.size, i.bytes)) = some (some (.agg #[.int .i64 0, .int .i64 0]), 2, 16) := by kernel_rfl
theorem encSpan_len (p : Nat × Nat) : (encSpan p).length = 2 := rfl
theorem encSpan_one (p : Nat × Nat) : ∀ v ∈ encSpan p, v.oneCell' = true := ints_one2 _ _
theorem reverse_any (L : List (Nat × Nat)) (hL : L.length ≤ 1073741824) (base : Nat) (v : Value) (w : World) (ho : w.ownsRow base 108 2 v L.length (L.flatMap encSpan)) :
    Calls Tryd.prog 96 #[v] w fun e w' => e = .returned (.tuple #[]) ∧ w'.ownsRow base 108 2 v L.length (L.reverse.flatMap encSpan) ∧ Below base w w' := by
  rcases ho.2 with ⟨hv, hn⟩ | ⟨g, cap, cur, hv, hb, hh, hc, hm, hs, ht⟩
  · have hL0 : L = [] := List.length_eq_zero_iff.1 hn
    subst hL0 hv
    refine (AnyQ.slices_Reverse_empty Tryd.reverseSpan none 0 w).mono ?_
    rintro e w' ⟨rfl, rfl⟩
    exact ⟨rfl, ho, Below.refl _ _⟩
  · subst hv
    have hd : L.toArray.size = L.length := by simp
    have ho2 : w.ownsRow base 108 2 (.slice (some ⟨g, 0, none⟩) L.length cap) L.length (L.toArray.toList.flatMap encSpan) := by simpa using ho
    have h := AnyQ.slices_Reverse Tryd.reverseSpan 2 Tryd.isAgg108 Tryd.sizeOf108 encSpan encSpan_len encSpan_one g 0 cap L.toArray w (own_holdsK encSpan_len (by decide) ho2) (by rw [hd]; omega)
    rw [hd] at h
    refine h.mono ?_
    rintro e w' ⟨rfl, m, rfl⟩
    have hp := own_putK encSpan_len (by decide) ho2 (d' := L.toArray.reverse) (by simp) m
    refine ⟨rfl, ?_, hp.2⟩
    simpa using hp.1
set_option maxRecDepth 100000 in
set_option maxHeartbeats 1000000 in
theorem beside_any (n i : Nat) (hi : i < n) (hn : n ≤ 1073741824) (w : World) :
    Calls Tryd.prog 70 #[.int .i64 (n : Int), .int .i64 (i : Int)] w fun e w' => ∃ v, e = .returned v ∧ w'.ownsRow (w.heap.size + 2) 108 2 v (waysOf n i).length ((waysOf n i).flatMap encSpan) ∧ Below w.heap.size w w' := by
  obtain ⟨i0, hi0, hz0, hz1, hz2⟩ := info_parts spanInfo3
  have hguard := span_guard
  go_enter Tryd.func70, Tryd.ntmps70
  go_wp2
  go_loopg [5] n (fun kk v wr => ∃ (vv : Value) (a b f : Nat) (L : List (Nat × Nat)), vv = v ∧ a ≤ i ∧ i < b ∧ b ≤ n ∧ b - a ≤ kk ∧ b - a ≤ f ∧ L.length + (b - a) ≤ n ∧ Hid (L ++ spansF f a b i = spansF n 0 n i) ∧
    Has wr w.heap.size 108 #[.int .i64 (a : Int), .int .i64 (b : Int)] ∧ Has wr (w.heap.size + 1) 108 #[.int .i64 (i : Int), .int .i64 ((i : Int) + 1)] ∧ wr.ownsRow (w.heap.size + 2) 108 2 v L.length (L.flatMap encSpan) ∧ Below w.heap.size w wr)
  case atStart =>
    exact ⟨_, 0, n, n, [], rfl, Nat.zero_le _, hi, Nat.le_refl _, Nat.le_refl _, Nat.le_refl _, by simp, Lib.hid rfl, (Has.fresh_at _ _ _ _ rfl).alloc _, Has.fresh_at _ _ _ _ (by simp), World.ownsRow_nil _ _ _ _, ((Below.refl _ w).alloc (Nat.le_refl _) _).alloc (by simp) _⟩
  case round =>
    obtain ⟨vv, a, b, f, L, hvv, hai, hib, hbn, hkk, hf, hLn, HL, hA, hP, hown, hB⟩ := hrel
    subst hvv
    have c0 : wr.cell? ⟨w.heap.size, 0, none⟩ = some (.int .i64 (a : Int)) := hA.cell 0
    have c1 : wr.cell? ⟨w.heap.size, 1, none⟩ = some (.int .i64 (b : Int)) := hA.cell 1
    have p0 : wr.cell? ⟨w.heap.size + 1, 0, none⟩ = some (.int .i64 (i : Int)) := hP.cell 0
    have p1 : wr.cell? ⟨w.heap.size + 1, 1, none⟩ = some (.int .i64 ((i : Int) + 1)) := hP.cell 1
    have hszA := hA.lt
    have hszP := hP.lt
    have HA := Lib.hid hA
    have HP := Lib.hid hP
    have HO := Lib.hid hown
    have HB := Lib.hid hB
    have hne := span_neq (a : Int) (b : Int) (i : Int) ((i : Int) + 1)
    clear hA hP hown hB
    by_cases hone : b = a + 1
    · have hia : a = i := by omega
      rw [show (!decide ((a : Int) = i ∧ (b : Int) = (i : Int) + 1)) = false by simp; omega] at hne
      have HE : Hid (L = spansF n 0 n i) := Lib.hid (by rw [← HL.out, hone, spansF_one, List.append_nil])
      have hLl : L.length ≤ 1073741824 := by omega
      have hrev := reverse_any L hLl (w.heap.size + 2)
      have HR := Lib.hid hrev
      clear hrev hia
      go_wp2_with (first
        | (go_at_call 96; refine (HR.out _ _ HO.out).mono ?_; rintro e w3 ⟨rfl, ho3, hb3⟩; have HO3 := Lib.hid ho3; have HB3 := Lib.hid hb3; clear ho3 hb3))
      go_ret
      refine ⟨_, rfl, ?_, HB.out.trans (HB3.out.mono (by omega))⟩
      rw [waysOf, ← HE.out, List.length_reverse]
      exact HO3.out
    · have h2 : a + 2 ≤ b := by omega
      obtain ⟨_, b2, _⟩ := halfOf_bounds (n := b - a) (by omega) (by omega)
      have b0 : 0 < halfOf (b - a) := Nat.two_pow_pos _
      obtain ⟨mid, hm⟩ : ∃ mid, mid = a + halfOf (b - a) := ⟨_, rfl⟩
      have hm1 : a < mid := by omega
      have hm2 : mid < b := by omega
      obtain ⟨f, rfl⟩ : ∃ f', f = f' + 1 := ⟨f - 1, by omega⟩
      rw [show (!decide ((a : Int) = i ∧ (b : Int) = (i : Int) + 1)) = true by rw [decide_eq_false (by omega)]; rfl] at hne
      have hcut := fun V => spancut_any a b h2 (by omega) V mid (Lib.hid hm)
      unfold spanV at hcut
      have HC := Lib.hid hcut
      have HLt := Lib.hid HO.out.lt
      have hsw : w.heap.size + 2 ≤ wr.heap.size := by omega
      have HM := Lib.hid hm
      clear hcut b2 b0 hone hm
      go_upto_region 5 with (first
        | (go_at_call 95; refine (HC.out _).mono ?_; rintro e w1 ⟨rfl, hb1⟩; have hsz1 := hb1.size; have HA1 := Lib.hid (HA.out.below hb1 hszA); have HP1 := Lib.hid (HP.out.below hb1 hszP); have HO1 := Lib.hid (own_below HO.out hb1); have HB1 := Lib.hid (HB.out.trans (hb1.mono HB.out.size)); clear hb1))
      refine gen_world (P := fun W => Code.wp _ _ _ _ W) (I := fun W => Has W w.heap.size 108 #[.int .i64 (a : Int), .int .i64 (b : Int)] ∧ Has W (w.heap.size + 1) 108 #[.int .i64 (i : Int), .int .i64 ((i : Int) + 1)] ∧ Has W w1.heap.size 108 #[.int .i64 (a : Int), .int .i64 (mid : Int)] ∧ Has W (w1.heap.size + 1) 108 #[.int .i64 (mid : Int), .int .i64 (b : Int)] ∧ W.ownsRow (w.heap.size + 2) 108 2 vv L.length (L.flatMap encSpan) ∧ Below w.heap.size w W) _ ⟨(HA1.out.alloc _).alloc _, (HP1.out.alloc _).alloc _, (Has.fresh_at _ _ _ _ rfl).alloc _, Has.fresh_at _ _ _ _ (by simp), (HO1.out.alloc _).alloc _, (HB1.out.alloc (by omega) _).alloc (by simp; omega) _⟩ ?_
      rintro W ⟨hAW, hPW, hQ1, hQ2, hOW, hBW⟩
      have q10 : W.cell? ⟨w1.heap.size, 0, none⟩ = some (.int .i64 (a : Int)) := hQ1.cell 0
      have q11 : W.cell? ⟨w1.heap.size, 1, none⟩ = some (.int .i64 (mid : Int)) := hQ1.cell 1
      have q20 : W.cell? ⟨w1.heap.size + 1, 0, none⟩ = some (.int .i64 (mid : Int)) := hQ2.cell 0
      have q21 : W.cell? ⟨w1.heap.size + 1, 1, none⟩ = some (.int .i64 (b : Int)) := hQ2.cell 1
      have hszW := hQ2.lt
      have HAW := Lib.hid hAW
      have HPW := Lib.hid hPW
      have HQ1 := Lib.hid hQ1
      have HQ2 := Lib.hid hQ2
      have HOW := Lib.hid hOW
      have HBW := Lib.hid hBW
      clear hAW hPW hQ1 hQ2 hOW hBW HA1 HP1 HO1 HB1 HA HP HO HB HC c0 c1 p0 p1
      have hm := HM.out
      by_cases hside : i < mid
      · have hdec : (i : Int) < (mid : Int) := by omega
        have HStep : Hid ((L ++ [(mid, b)]) ++ spansF f a mid i = spansF n 0 n i) := Lib.hid (by
          rw [← HL.out, spansF_left (by omega) (by rw [← hm]; exact hside), ← hm, List.append_assoc]
          rfl)
        clear hm hside
        go_wp2_with (first
          | (at_builtin; refine wpList_append_own _ rfl _ _ 105 rfl (w.heap.size + 2) 108 i0 _ 2 16 Tryd.underlying105 hi0 hz0 hz1 hz2 rfl (by decide) _ _ _ rfl (HOW.out.alloc _) ⟨W.heap.size, 0, none⟩ 1 1 [.int .i64 (mid : Int), .int .i64 (b : Int)] rfl rfl (cell_two_new _ _ _ _) (ints_one2 _ _) (by unfold maxLen; omega) (by omega) (by simp; omega) ?_; intro v' w3 hown3 hgrow3 _
             have hA3 := (HAW.out.alloc (.cells #[.int .i64 (mid : Int), .int .i64 (b : Int)] 108)).grown hgrow3 (fun e => by have := HLt.out _ e.symm; omega)
             have hP3 := (HPW.out.alloc (.cells #[.int .i64 (mid : Int), .int .i64 (b : Int)] 108)).grown hgrow3 (fun e => by have := HLt.out _ e.symm; omega)
             have hQ3 := (HQ1.out.alloc (.cells #[.int .i64 (mid : Int), .int .i64 (b : Int)] 108)).grown hgrow3 (fun e => by have := HLt.out _ e.symm; omega)
             have hB3 : Below w.heap.size w w3 := (HBW.out.alloc (by omega) _).grown hgrow3 (by simp; omega) (fun j hj => by have := HLt.out _ hj; omega)
             have k0 : w3.cell? ⟨w1.heap.size, 0, none⟩ = some (.int .i64 (a : Int)) := hQ3.cell 0
             have k1 : w3.cell? ⟨w1.heap.size, 1, none⟩ = some (.int .i64 (mid : Int)) := hQ3.cell 1
             have m0 : w3.cell? ⟨w.heap.size, 0, none⟩ = some (.int .i64 (a : Int)) := hA3.cell 0
             have m1 : w3.cell? ⟨w.heap.size, 1, none⟩ = some (.int .i64 (b : Int)) := hA3.cell 1
             have f0 : w3.frozen? ⟨w.heap.size, 0, none⟩ = false := hA3.free 0
             have f1 : w3.frozen? ⟨w.heap.size, 1, none⟩ = false := hA3.free 1
             have HA3 := Lib.hid hA3
             have HP3 := Lib.hid hP3
             have HO3 := Lib.hid hown3
             have HB3 := Lib.hid hB3
             clear hA3 hP3 hQ3 hown3 hgrow3 hB3))
        go_roundg (mid - a)
        case measure => omega
        case rel =>
          refine ⟨_, a, mid, f, L ++ [(mid, b)], rfl, by omega, by omega, by omega, Nat.le_refl _, by omega, by simp; omega, HStep, ?_, ?_, ?_, ?_⟩
          · exact ((HA3.out.put 0 (.int .i64 (a : Int))).put 1 (.int .i64 (mid : Int))).of_eq rfl
          · exact (HP3.out.apart (by simp) _).apart (by simp) _
          · rw [List.length_append, List.flatMap_append]
            exact own_setCell (own_setCell HO3.out (by simp) _) (by simp) _
          · exact (HB3.out.setCell (by simp) _).setCell (by simp) _
      · have hdec : ¬ (i : Int) < (mid : Int) := by omega
        have HStep : Hid ((L ++ [(a, mid)]) ++ spansF f mid b i = spansF n 0 n i) := Lib.hid (by
          rw [← HL.out, spansF_right (by omega) (by rw [← hm]; exact hside), ← hm, List.append_assoc]
          rfl)
        clear hm hside
        go_wp2_with (first
          | (at_builtin; refine wpList_append_own _ rfl _ _ 105 rfl (w.heap.size + 2) 108 i0 _ 2 16 Tryd.underlying105 hi0 hz0 hz1 hz2 rfl (by decide) _ _ _ rfl (HOW.out.alloc _) ⟨W.heap.size, 0, none⟩ 1 1 [.int .i64 (a : Int), .int .i64 (mid : Int)] rfl rfl (cell_two_new _ _ _ _) (ints_one2 _ _) (by unfold maxLen; omega) (by omega) (by simp; omega) ?_; intro v' w3 hown3 hgrow3 _
             have hA3 := (HAW.out.alloc (.cells #[.int .i64 (a : Int), .int .i64 (mid : Int)] 108)).grown hgrow3 (fun e => by have := HLt.out _ e.symm; omega)
             have hP3 := (HPW.out.alloc (.cells #[.int .i64 (a : Int), .int .i64 (mid : Int)] 108)).grown hgrow3 (fun e => by have := HLt.out _ e.symm; omega)
             have hQ3 := (HQ2.out.alloc (.cells #[.int .i64 (a : Int), .int .i64 (mid : Int)] 108)).grown hgrow3 (fun e => by have := HLt.out _ e.symm; omega)
             have hB3 : Below w.heap.size w w3 := (HBW.out.alloc (by omega) _).grown hgrow3 (by simp; omega) (fun j hj => by have := HLt.out _ hj; omega)
             have k0 : w3.cell? ⟨w1.heap.size + 1, 0, none⟩ = some (.int .i64 (mid : Int)) := hQ3.cell 0
             have k1 : w3.cell? ⟨w1.heap.size + 1, 1, none⟩ = some (.int .i64 (b : Int)) := hQ3.cell 1
             have m0 : w3.cell? ⟨w.heap.size, 0, none⟩ = some (.int .i64 (a : Int)) := hA3.cell 0
             have m1 : w3.cell? ⟨w.heap.size, 1, none⟩ = some (.int .i64 (b : Int)) := hA3.cell 1
             have f0 : w3.frozen? ⟨w.heap.size, 0, none⟩ = false := hA3.free 0
             have f1 : w3.frozen? ⟨w.heap.size, 1, none⟩ = false := hA3.free 1
             have HA3 := Lib.hid hA3
             have HP3 := Lib.hid hP3
             have HO3 := Lib.hid hown3
             have HB3 := Lib.hid hB3
             clear hA3 hP3 hQ3 hown3 hgrow3 hB3))
        go_roundg (b - mid)
        case measure => omega
        case rel =>
          refine ⟨_, mid, b, f, L ++ [(a, mid)], rfl, by omega, by omega, by omega, Nat.le_refl _, by omega, by simp; omega, HStep, ?_, ?_, ?_, ?_⟩
          · exact ((HA3.out.put 0 (.int .i64 (mid : Int))).put 1 (.int .i64 (b : Int))).of_eq rfl
          · exact (HP3.out.apart (by simp) _).apart (by simp) _
          · rw [List.length_append, List.flatMap_append]
            exact own_setCell (own_setCell HO3.out (by simp) _) (by simp) _
          · exact (HB3.out.setCell (by simp) _).setCell (by simp) _
end Go.Proofs.YtffdkniahdekjaaDoor
end
section
namespace Go.Proofs.YtffdkniahdekjaaDoor
open Go.RowKit Go.Hoar
set_option maxHeartbeats 1000000 in
theorem cut_any (g off n c : Nat) (h2 : 2 ≤ n) (hn : n ≤ 140737488355328) (hnc : n ≤ c) (_hcm : c ≤ maxLen) (h : Nat) (hh : Hid (h = halfOf n)) (w : World) :
    Calls Tryd.prog 68 #[.slice (some ⟨g, off, none⟩) n c] w fun e w' => e = .returned (.tuple #[.slice (some ⟨g, off, none⟩) h c, .slice (some ⟨g, off + h * 32, none⟩) (n - h) (c - h)]) ∧ Below w.heap.size w w' := by
  obtain ⟨_, b2, _⟩ := halfOf_bounds h2 hn
  rw [← hh.out] at b2
  have hhalf := half_any n h2 hn
  rw [← hh.out] at hhalf
  unfold maxLen at _hcm
  have hlt : h < c := by omega
  have hlt2 : h ≤ n := by omega
  have hne : ¬ c = h := by omega
  go_enter Tryd.func68, Tryd.ntmps68
  go_wp2_with (go_at_call 94; refine (hhalf _).mono ?_; rintro e w' ⟨rfl, rfl⟩)
  go_quiet (fail)
  go_wp2
  exact bodyPost_ret (results_tmp2 rfl _ _ _) rfl ⟨rfl, below_drewN (Below.refl _ _) _⟩
end Go.Proofs.YtffdkniahdekjaaDoor
end
section
namespace Go.Proofs.YtffdkniahdekjaaDoor
open Go.RowKit Go.Hoar
/-- The digest of a list of digests. -/
def listOf : Nat → List (List Nat) → List Nat
  | 0, _ => []
  | f + 1, ls =>
    match ls with
    | [] => Sha.sha [0]
    | [x] => Sha.sha (1 :: x)
    | x :: y :: r => Sha.sha (2 :: (listOf f ((x :: y :: r).take (halfOf (r.length + 2))) ++ listOf f ((x :: y :: r).drop (halfOf (r.length + 2)))))
/-- So many digests at an address. -/
def SumsAt (w : World) (g off : Nat) (ls : List (List Nat)) : Prop := ∀ i, ∀ l, ls[i]? = some l → l.length = 32 ∧ Sha.Bytes l ∧ ∀ j, j < 32 → w.cell? ⟨g, off + i * 32 + j, none⟩ = some (.int .u8 ((l.getD j 0 : Nat) : Int))
theorem SumsAt.below {w w' : World} {g off : Nat} {ls : List (List Nat)} (h : SumsAt w g off ls) (hg : g < w.heap.size) (hb : Below w.heap.size w w') : SumsAt w' g off ls := fun i l hi => ⟨(h i l hi).1, (h i l hi).2.1, fun j hj => (hb.cell hg).trans ((h i l hi).2.2 j hj)⟩
theorem SumsAt.take {w : World} {g off : Nat} {ls : List (List Nat)} (h : SumsAt w g off ls) (n : Nat) : SumsAt w g off (ls.take n) := fun i l hi => h i l (by rw [List.getElem?_take] at hi; split at hi; exact hi; cases hi)
theorem SumsAt.drop {w : World} {g off : Nat} {ls : List (List Nat)} (h : SumsAt w g off ls) (n : Nat) : SumsAt w g (off + n * 32) (ls.drop n) := fun i l hi => by
  rw [List.getElem?_drop] at hi
  have := h (n + i) l hi
  refine ⟨this.1, this.2.1, fun j hj => ?_⟩
  rw [show off + n * 32 + i * 32 + j = off + (n + i) * 32 + j by omega]
  exact this.2.2 j hj
/-- What lies at a place is read whole. -/
theorem SumsAt.row {w : World} {g off : Nat} {ls : List (List Nat)} (h : SumsAt w g off ls) {i : Nat} {l : List Nat} (hi : ls[i]? = some l) : ∀ j u, (arr32 l)[j]? = some u → w.cell? ((⟨g, off + i * 32, none⟩ : Addr).add j) = some u := fun j u hj => by
  obtain ⟨hl, _, hc⟩ := h i l hi
  have hj' : j < 32 := by
    have := (Array.getElem?_eq_some_iff.1 hj).1
    rwa [arr32_size l (by omega)] at this
  have hadd : (⟨g, off + i * 32, none⟩ : Addr).add j = ⟨g, off + i * 32 + j, none⟩ := by unfold Addr.add; split <;> simp_all
  rw [hadd, hc j hj', ← hj, arr32_get l hl j hj']
theorem sha_bytes (b : List Nat) : (Sha.sha b).length = 32 ∧ Sha.Bytes (Sha.sha b) := by
  have hw : Sha.Words (Sha.all (Sha.all Sha.first b) (b.drop (64 * (b.length / 64)) ++ Sha.pad b.length)) := Sha.takes_words (Sha.takes_words Sha.first_words _ _) _ _
  have hl : (Sha.all (Sha.all Sha.first b) (b.drop (64 * (b.length / 64)) ++ Sha.pad b.length)).length = 8 := by rw [Sha.all, Sha.takes_length, Sha.all, Sha.takes_length]; rfl
  have e : Sha.sha b = Sha.bytes (Sha.all (Sha.all Sha.first b) (b.drop (64 * (b.length / 64)) ++ Sha.pad b.length)) := Eq.refl _
  rw [e]
  generalize Sha.all (Sha.all Sha.first b) (b.drop (64 * (b.length / 64)) ++ Sha.pad b.length) = H at *
  refine ⟨by rw [bytes_length, hl], fun x hx => ?_⟩
  rw [Sha.bytes, List.mem_flatMap] at hx
  obtain ⟨y, hy, hx⟩ := hx
  have := hw y hy
  simp only [List.mem_cons, List.not_mem_nil, or_false] at hx
  rcases hx with rfl | rfl | rfl | rfl <;> omega
set_option maxRecDepth 100000 in
set_option maxHeartbeats 1000000 in
theorem list_none (a : Option Addr) (c : Nat) (w : World) (hc : ConstAt w) (out : List Nat) (hout : Hid (out = Sha.sha [0])) :
    Calls Tryd.prog 33 #[.slice a 0 c] w fun e w' => e = .returned (.agg (arr32 out)) ∧ out.length = 32 ∧ Below w.heap.size w w' := by
  have hof : ∀ (V : World) (g : Nat), Has V g 5 #[.int .u8 0] → ConstAt V → Calls Tryd.prog 17 #[.slice (some ⟨g, 0, none⟩) 1 1] V fun e w' => e = .returned (.agg (arr32 out)) ∧ out.length = 32 ∧ Below V.heap.size V w' := fun V g h hcv =>
    of_any [0] (some ⟨g, 0, none⟩) 1 V (pad_part (bs := [0]) h) (fun x hx => by rw [List.mem_singleton.1 hx]; decide) (by decide) (fun _ _ _ => ⟨Nat.le_refl _, by decide⟩) hcv out hout
  have HOf := Lib.hid hof
  clear hof
  go_enter Tryd.func33, Tryd.ntmps33
  go_upto_region 1 with (fail)
  refine gen_world (P := fun W => Code.wp _ _ _ _ W) (I := fun W => Below w.heap.size w W ∧ Has W w.heap.size 26 (arr32 []) ∧ W.heap.size = w.heap.size + 1) _ ⟨(Below.refl _ w).alloc (Nat.le_refl _) _, Has.fresh_at _ _ _ _ rfl, by simp⟩ ?_
  rintro W ⟨hB, hR, hsz⟩
  have HC := Lib.hid (hc.below (hB.alloc hB.size (.cells #[.int .u8 0] 5)) rfl)
  have HBa := Lib.hid (hB.alloc hB.size (.cells #[.int .u8 0] 5))
  have HRa := Lib.hid (hR.alloc (.cells #[.int .u8 0] 5))
  clear hB hR hc
  go_wp2_with (first
    | (go_at_call 17; refine (HOf.out _ _ (Has.fresh_at W 5 _ (w.heap.size + 1) hsz.symm) HC.out).mono ?_; rintro e w3 ⟨rfl, hol, hbel⟩; have HB3 := Lib.hid hbel; have HR3 := Lib.hid (HRa.out.below hbel HRa.out.lt); have HI32 := Lib.hid (arr32_info out (by omega)); have HS32 := Lib.hid ((arr32_size [] (by simp)).trans (arr32_size out (by omega)).symm); clear hbel)
    | ((with_reducible refine arm_store w.heap.size _ _ _ HR3.out HS32.out HI32.out (arr32_one _) ?h5 ?h6 ?_); (case h5 => rfl); (case h6 => rfl)))
  exact bodyPost_ret (results_cell_row (P := Tryd.prog) rfl _ _ w.heap.size 26 (arr32 out) (0, 0) _ rfl HR3.out.setRow Tryd.underlying26 rfl HI32.out) rfl ⟨rfl, hol, below_setRow (HBa.out.trans (HB3.out.mono HBa.out.size)) (Nat.le_refl _) _⟩
set_option maxRecDepth 100000 in
set_option maxHeartbeats 1000000 in
theorem list_one (l : List Nat) (g off c : Nat) (w : World) (hc : ConstAt w) (hs : SumsAt w g off [l]) (hg : g < w.heap.size) (_hcm : c ≤ maxLen) (_h1c : 1 ≤ c) (out : List Nat) (hout : Hid (out = Sha.sha (1 :: l))) :
    Calls Tryd.prog 33 #[.slice (some ⟨g, off, none⟩) 1 c] w fun e w' => e = .returned (.agg (arr32 out)) ∧ out.length = 32 ∧ Below w.heap.size w w' := by
  obtain ⟨hl, hlb, _⟩ := hs 0 l rfl
  unfold maxLen at _hcm
  have HI := Lib.hid (arr32_info l (by omega))
  go_enter Tryd.func33, Tryd.ntmps33
  go_upto_region 1 with (fail)
  refine gen_world (P := fun W => Code.wp _ _ _ _ W) (I := fun W => Below w.heap.size w W ∧ Has W w.heap.size 26 (arr32 [])) _ ⟨(Below.refl _ w).alloc (Nat.le_refl _) _, Has.fresh_at _ _ _ _ rfl⟩ ?_
  rintro W ⟨hB, hR⟩
  have HC := Lib.hid (hc.below hB rfl)
  have hrow := (hs.below hg hB).row (i := 0) (l := l) rfl
  rw [Nat.zero_mul, Nat.add_zero] at hrow
  have HRow := Lib.hid hrow
  have HB := Lib.hid hB
  have HR := Lib.hid hR
  clear hB hR hc hs hrow
  go_wp2_with (first
    | ((with_reducible refine arm_load ⟨g, off, none⟩ _ _ HRow.out Tryd.underlying26 HI.out ?h1 ?h2 ?_); (case h1 => rfl); (case h2 => rfl))
    | (go_at_call 67; refine (leaf_any l hl hlb _ HC.out out hout).mono ?_; rintro e w3 ⟨rfl, hol, hbel⟩; have HB3 := Lib.hid hbel; have HR3 := Lib.hid (HR.out.below hbel HR.out.lt); have HI32 := Lib.hid (arr32_info out (by omega)); have HS32 := Lib.hid ((arr32_size [] (by simp)).trans (arr32_size out (by omega)).symm); clear hbel)
    | ((with_reducible refine arm_store w.heap.size _ _ _ HR3.out HS32.out HI32.out (arr32_one _) ?h5 ?h6 ?_); (case h5 => rfl); (case h6 => rfl)))
  exact bodyPost_ret (results_cell_row (P := Tryd.prog) rfl _ _ w.heap.size 26 (arr32 out) (0, 0) _ rfl HR3.out.setRow Tryd.underlying26 rfl HI32.out) rfl ⟨rfl, hol, below_setRow (HB.out.trans (HB3.out.mono HB.out.size)) (Nat.le_refl _) _⟩
theorem listOf_bytes (f : Nat) (ls : List (List Nat)) : Sha.Bytes (listOf f ls) := by
  match f, ls with
  | 0, _ => intro x hx; rw [listOf] at hx; cases hx
  | f + 1, [] => rw [listOf]; exact (sha_bytes _).2
  | f + 1, [x] => rw [listOf]; exact (sha_bytes _).2
  | f + 1, x :: y :: r => rw [listOf]; exact (sha_bytes _).2
theorem halfOf_pos (n : Nat) : 0 < halfOf n := Nat.two_pow_pos _
def ListOk (f : Nat) : Prop := ∀ (ls : List (List Nat)) (g off c : Nat) (w : World), ls.length < f → 0 < ls.length → ls.length ≤ c → c ≤ maxLen → ls.length ≤ 140737488355328 → SumsAt w g off ls → g < w.heap.size → ConstAt w → ∀ out, Hid (out = listOf f ls) →
    Calls Tryd.prog 33 #[.slice (some ⟨g, off, none⟩) ls.length c] w fun e w' => e = .returned (.agg (arr32 out)) ∧ out.length = 32 ∧ Below w.heap.size w w'
set_option maxRecDepth 100000 in
set_option maxHeartbeats 2000000 in
theorem list_step (f : Nat) (ih : ListOk f) (ls : List (List Nat)) (n : Nat) (hnl : n = ls.length) (h2 : 2 ≤ n) (g off c : Nat) (w : World) (hf : n < f + 1) (hnc : n ≤ c) (hcm : c ≤ maxLen) (hn : n ≤ 140737488355328) (hs : SumsAt w g off ls) (hg : g < w.heap.size) (hc : ConstAt w) (out : List Nat)
    (hlo : out = Sha.sha (2 :: (listOf f (ls.take (halfOf n)) ++ listOf f (ls.drop (halfOf n))))) :
    Calls Tryd.prog 33 #[.slice (some ⟨g, off, none⟩) n c] w fun e w' => e = .returned (.agg (arr32 out)) ∧ out.length = 32 ∧ Below w.heap.size w w' := by
  obtain ⟨_, b2, _⟩ := halfOf_bounds h2 hn
  have b0 := halfOf_pos n
  obtain ⟨h, hh⟩ : ∃ h, h = halfOf n := ⟨_, rfl⟩
  rw [← hh] at b2 b0 hlo
  have lt1 : (ls.take h).length = h := by rw [List.length_take]; omega
  have lt2 : (ls.drop h).length = n - h := by rw [List.length_drop]; omega
  obtain ⟨A, hA⟩ : ∃ A, A = listOf f (ls.take h) := ⟨_, rfl⟩
  obtain ⟨B, hB⟩ : ∃ B, B = listOf f (ls.drop h) := ⟨_, rfl⟩
  have hAb : Sha.Bytes A := by rw [hA]; exact listOf_bytes _ _
  have hBb : Sha.Bytes B := by rw [hB]; exact listOf_bytes _ _
  rw [← hA, ← hB] at hlo
  have hfirst : ∀ V, Below w.heap.size w V → Calls Tryd.prog 33 #[.slice (some ⟨g, off, none⟩) h c] V fun e w' => e = .returned (.agg (arr32 A)) ∧ A.length = 32 ∧ Below V.heap.size V w' := fun V hv => by
    have k := ih (ls.take h) g off c V (by rw [lt1]; omega) (by rw [lt1]; omega) (by rw [lt1]; omega) hcm (by rw [lt1]; omega) ((hs.below hg hv).take h) (Nat.lt_of_lt_of_le hg hv.size) (hc.below hv rfl) A (Lib.hid hA)
    rwa [lt1] at k
  have hrest : ∀ V, Below w.heap.size w V → Calls Tryd.prog 33 #[.slice (some ⟨g, off + h * 32, none⟩) (n - h) (c - h)] V fun e w' => e = .returned (.agg (arr32 B)) ∧ B.length = 32 ∧ Below V.heap.size V w' := fun V hv => by
    have k := ih (ls.drop h) g (off + h * 32) (c - h) V (by rw [lt2]; omega) (by rw [lt2]; omega) (by rw [lt2]; omega) (by omega) (by rw [lt2]; omega) ((hs.below hg hv).drop h) (Nat.lt_of_lt_of_le hg hv.size) (hc.below hv rfl) B (Lib.hid hB)
    rwa [lt2] at k
  have hpair : ∀ V, Below w.heap.size w V → A.length = 32 → B.length = 32 → Calls Tryd.prog 69 #[.agg (arr32 A), .agg (arr32 B)] V fun e w' => e = .returned (.agg (arr32 out)) ∧ out.length = 32 ∧ Below V.heap.size V w' := fun V hv ha hb => pair_any A B ha hb hAb hBb V (hc.below hv rfl) out (Lib.hid hlo)
  have hcut := cut_any g off n c h2 hn hnc hcm h (Lib.hid hh)
  unfold maxLen at hcm
  have HF := Lib.hid hfirst
  have HS := Lib.hid hrest
  have HP := Lib.hid hpair
  have HK := Lib.hid hcut
  have n0 : ¬ n = 0 := by omega
  have n1 : ¬ n = 1 := by omega
  clear hfirst hrest hpair hcut hs hc hA hB hlo lt1 lt2 hnl hh ih
  go_enter Tryd.func33, Tryd.ntmps33
  go_upto_region 1 with (fail)
  refine gen_world (P := fun W => Code.wp _ _ _ _ W) (I := fun W => Below w.heap.size w W ∧ Has W w.heap.size 26 (arr32 [])) _ ⟨(Below.refl _ w).alloc (Nat.le_refl _) _, Has.fresh_at _ _ _ _ rfl⟩ ?_
  rintro W ⟨hBW, hRW⟩
  have HB := Lib.hid hBW
  have HR := Lib.hid hRW
  clear hBW hRW
  go_wp2_with (first
    | (go_at_call 68; refine (HK.out _).mono ?_; rintro e w1 ⟨rfl, hb1⟩; have HB1 := Lib.hid (HB.out.trans (hb1.mono HB.out.size)); have HR1 := Lib.hid (HR.out.below hb1 HR.out.lt); clear hb1)
    | (go_at_call_of 33 (Value.slice (some ⟨g, off, none⟩) h c); refine (HF.out _ HB1.out).mono ?_; rintro e w2 ⟨rfl, hal, hb2⟩; have HB2 := Lib.hid (HB1.out.trans (hb2.mono HB1.out.size)); have HR2 := Lib.hid (HR1.out.below hb2 HR1.out.lt); clear hb2)
    | (go_at_call 33; refine (HS.out _ HB2.out).mono ?_; rintro e w3 ⟨rfl, hbl, hb3⟩; have HB3 := Lib.hid (HB2.out.trans (hb3.mono HB2.out.size)); have HR3 := Lib.hid (HR2.out.below hb3 HR2.out.lt); clear hb3)
    | (go_at_call 69; refine (HP.out _ HB3.out hal hbl).mono ?_; rintro e w4 ⟨rfl, hol, hb4⟩; have HB4 := Lib.hid (HB3.out.trans (hb4.mono HB3.out.size)); have HR4 := Lib.hid (HR3.out.below hb4 HR3.out.lt); have HI32 := Lib.hid (arr32_info out (by omega)); have HS32 := Lib.hid ((arr32_size [] (by simp)).trans (arr32_size out (by omega)).symm); clear hb4)
    | ((with_reducible refine arm_store w.heap.size _ _ _ HR4.out HS32.out HI32.out (arr32_one _) ?h5 ?h6 ?_); (case h5 => rfl); (case h6 => rfl)))
  exact bodyPost_ret (results_cell_row (P := Tryd.prog) rfl _ _ w.heap.size 26 (arr32 out) (0, 0) _ rfl HR4.out.setRow Tryd.underlying26 rfl HI32.out) rfl ⟨rfl, hol, below_setRow HB4.out (Nat.le_refl _) _⟩
theorem list_any : ∀ (f : Nat), ListOk f
  | 0 => fun _ _ _ _ _ h _ _ _ _ _ _ _ _ _ => absurd h (Nat.not_lt_zero _)
  | f + 1 => fun ls g off c w hf hp hnc hcm hn hs hg hc out hout => by
    match ls, hf, hp, hnc, hn, hs, hout with
    | [], _, hp, _, _, _, _ => exact absurd hp (Nat.lt_irrefl _)
    | [x], _, _, h1, _, hs, hout => exact list_one x g off c w hc hs hg hcm h1 out (Lib.hid (hout.out.trans (by rw [listOf])))
    | x :: y :: r, hf, _, hnc, hn, hs, hout => exact list_step f (list_any f) (x :: y :: r) _ rfl (by simp) g off c w hf hnc hcm hn hs hg hc out (hout.out.trans (by rw [listOf]; exact Eq.refl _))
end Go.Proofs.YtffdkniahdekjaaDoor
end
section
namespace Go.Proofs.YtffdkniahdekjaaDoor
open Go.RowKit Go.Hoar
def byteAt (s : ByteArray) (i : Nat) : Nat := (s.get! i).toNat
/-- Is a letter a digit? -/
def IsDig (c : Nat) : Prop := (48 ≤ c ∧ c ≤ 57) ∨ (97 ≤ c ∧ c ≤ 102)
instance (c : Nat) : Decidable (IsDig c) := by unfold IsDig; infer_instance
/-- What a digit is worth. -/
def valOf (c : Nat) : Nat := if c ≤ 57 then c - 48 else c - 87
def AllDig (s : ByteArray) : Prop := ∀ i, i < s.size → IsDig (byteAt s i)
instance (s : ByteArray) : Decidable (AllDig s) := by unfold AllDig; infer_instance
def digsK (s : ByteArray) (k : Nat) : List Nat := (List.range k).map fun i => valOf (byteAt s i)
theorem digsK_succ (s : ByteArray) (k : Nat) : digsK s (k + 1) = digsK s k ++ [valOf (byteAt s k)] := by simp [digsK, List.range_succ]
theorem digsK_length (s : ByteArray) (k : Nat) : (digsK s k).length = k := by simp [digsK]
theorem byteAt_eq (s : ByteArray) (i : Nat) (h : i < s.size) : (s[i]'h).toNat = byteAt s i := by
  have e := get_at s i h
  rw [Nat.add_zero] at e
  rw [byteAt, e]
/-- A rune that is a digit is its byte. -/
theorem rune_dig (s : ByteArray) (i : Nat) (h : i < s.size) (r n : Nat) (hr : Utf8.decode s i = (r, n)) : r ≤ 2147483647 ∧ ((r = byteAt s i ∧ n = 1 ∧ r < 128) ∨ (128 ≤ r ∧ 1 ≤ n ∧ 128 ≤ byteAt s i)) := by
  have hle := decode_le s i
  rw [hr] at hle
  by_cases ha : (s[i]'h).toNat < 128
  · have := decode_ascii s i h ha
    rw [hr] at this
    have h1 : r = (s[i]'h).toNat := congrArg Prod.fst this
    have h2 : n = 1 := congrArg Prod.snd this
    exact ⟨hle, .inl ⟨by rw [h1, byteAt_eq], h2, by omega⟩⟩
  · have := decode_high s i h (by omega)
    rw [hr] at this
    exact ⟨hle, .inr ⟨this.1, this.2, by rw [← byteAt_eq s i h]; omega⟩⟩
theorem ownsRow_iterAt {w : World} {base : Nat} {e : TypeId} {size g n cap k : Nat} {xs : List Value} (h : w.ownsRow base e size (.slice (some ⟨g, 0, none⟩) n cap) n xs) (hk : k ≠ g) (s : ByteArray) (p : Nat) : (w.iterAt k s p).ownsRow base e size (.slice (some ⟨g, 0, none⟩) n cap) n xs := by
  obtain ⟨h1, h2⟩ := h
  refine ⟨h1, ?_⟩
  rcases h2 with ⟨h2, _⟩ | ⟨g', cap', cur, a, b, c, d⟩
  · cases h2
  · cases a
    exact .inr ⟨g, cap, cur, rfl, b, by rw [Lib.iterAt_other _ _ _ _ _ (Ne.symm hk)]; exact c, d⟩
theorem iterPos_of {w : World} {k : Nat} {s : ByteArray} {p : Nat} (h : w.heap[k]? = some (.stringIter s p)) : w.iterPos k = p := by simp [World.iterPos, h]
theorem iter_lt {w : World} {k : Nat} {o : Obj} (h : w.heap[k]? = some o) : k < w.heap.size := (Array.getElem?_eq_some_iff.1 h).1
theorem bytes_one (x : Nat) : ∀ u ∈ [BV x], u.oneCell' = true := by
  intro u hu
  rw [List.mem_singleton.1 hu]
  rfl
set_option maxRecDepth 100000 in
set_option maxHeartbeats 2000000 in
theorem digits_any (s : ByteArray) (hsz : s.size ≤ 1099511627776) (w : World) :
    Calls Tryd.prog 63 #[.string s] w fun e w' => ((AllDig s ∧ e = .returned (.tuple #[.slice (some ⟨w.heap.size, 0, none⟩) s.size s.size, .bool true]) ∧ w'.ownsRow w.heap.size 5 1 (.slice (some ⟨w.heap.size, 0, none⟩) s.size s.size) s.size ((digsK s s.size).map BV)) ∨ (¬ AllDig s ∧ e = .returned (.tuple #[.slice none 0 0, .bool false]))) ∧ Below w.heap.size w w' := by
  obtain ⟨i0, hi, hz0, hz1, hz2⟩ := info_parts info8
  go_enter Tryd.func63, Tryd.ntmps63
  go_wp2_with (first
    | (at_make; refine wpList_make_own _ rfl _ _ 22 rfl w.heap.size 5 i0 _ 1 Tryd.underlying22 hi hz0 hz1 .i64 .i64 _ s.size rfl rfl (by first | rfl | simp | omega) (by rw [hz2]; omega) (by unfold maxLen; omega) (Nat.le_refl _) ?_; intro w0 hown0 hgrow0))
  go_loopw [4] (fun v wr => ∃ pos : Nat, v = .slice (some ⟨w.heap.size, 0, none⟩) pos s.size ∧ pos ≤ s.size ∧ wr.heap[w0.heap.size]? = some (.stringIter s pos) ∧ wr.ownsRow w.heap.size 5 1 (.slice (some ⟨w.heap.size, 0, none⟩) pos s.size) pos ((digsK s pos).map BV) ∧ Below w.heap.size w wr ∧ Hid (∀ i, i < pos → IsDig (byteAt s i))) (fun _ wr => s.size - wr.iterPos w0.heap.size)
  case atStart => exact ⟨0, rfl, Nat.zero_le _, World.iter_heap w0 s 0, hown0.alloc _, ((Below.refl _ w).grown hgrow0 (Nat.le_refl _) (fun k h => by cases h)).alloc (by have := hgrow0.size; omega) _, Lib.hid (fun i hi => absurd hi (Nat.not_lt_zero _))⟩
  case round =>
    obtain ⟨pos, rfl, hpl, hit, hown, hbw, HD⟩ := hrel
    have hw0 : w.heap.size < w0.heap.size := by have := hown0.lt _ rfl; exact this.2
    have hpos0 := iterPos_of hit
    by_cases hp : pos < s.size
    · obtain ⟨r, n, hr⟩ : ∃ r n, Utf8.decode s pos = (r, n) := ⟨_, _, rfl⟩
      obtain ⟨hr1, hcase⟩ := rune_dig s pos hp r n hr
      have hnx : ∀ ty, (Instr.next (.pointer (some ⟨w0.heap.size, 0, none⟩)) true ty).run Tryd.prog wr = .ok (.tuple #[.bool true, .int .i64 pos, .int .i32 (r : Int)]) (wr.iterAt w0.heap.size s (pos + n)) := fun ty => by
        have := Lib.run_next_any_at (P := Tryd.prog) wr w0.heap.size s pos ty hit hp
        rwa [hr] at this
      have hit2 := Lib.iterAt_heap wr w0.heap.size s pos (pos + n) hit
      have hbw2 := Lib.below_iterAt hbw (k := w0.heap.size) (by omega) s (pos + n)
      have hown2 := ownsRow_iterAt hown (k := w0.heap.size) (by omega) s (pos + n)
      obtain ⟨W1, hW1⟩ : ∃ W1, W1 = wr.iterAt w0.heap.size s (pos + n) := ⟨_, rfl⟩
      rw [← hW1] at hnx hit2 hbw2 hown2
      have hBlt := iter_lt hit2
      have HNo : Hid (¬ IsDig (byteAt s pos) → ¬ AllDig s) := Lib.hid fun h k => h (k pos hp)
      have HYes : Hid (IsDig (byteAt s pos) → ∀ i, i < pos + 1 → IsDig (byteAt s i)) := Lib.hid fun h i hi => by
        by_cases e : i = pos
        · rw [e]; exact h
        · exact HD.out i (by omega)
      have HS := Lib.hid (digsK_succ s pos)
      clear hW1 hit hown hbw hown0 hgrow0
      by_cases hd1 : 48 ≤ r ∧ r ≤ 57
      · obtain ⟨d1, d2⟩ := hd1
        obtain ⟨hrb, rfl, _⟩ : r = byteAt s pos ∧ n = 1 ∧ r < 128 := by omega
        have HV : Hid (valOf (byteAt s pos) = r - 48) := Lib.hid (by rw [← hrb, valOf, if_pos d2])
        have HIs : Hid (IsDig (byteAt s pos)) := Lib.hid (by rw [← hrb]; exact .inl ⟨d1, d2⟩)
        have hx : (r : Int) - 48 = ((r - 48 : Nat) : Int) := by omega
        clear hrb hr
        go_wp2_with (first
          | (at_builtin; refine wpList_append_own_spare _ rfl _ _ 22 rfl w.heap.size 5 i0 1 Tryd.underlying22 hi hz1 w.heap.size pos s.size _ rfl (hown2.alloc _) ⟨W1.heap.size, 0, none⟩ 1 1 [BV (r - 48)] rfl rfl (by simp only [BV, ← hx]; exact cell_one_new _ _ _) (bytes_one _) (by omega) ?_; intro w3 hown3 hgrow3))
        go_roundw
        case rel => exact ⟨pos + 1, rfl, by omega, by rw [hgrow3.block w0.heap.size (by simp; omega) (by simp; omega), Below.heap_alloc _ _ _ hBlt]; exact hit2, by rw [HS.out, HV.out, List.map_append]; exact hown3, (hbw2.alloc (by omega) _).grown hgrow3 (by simp; omega) (fun j hj => by cases hj; exact Nat.le_refl _), Lib.hid (HYes.out HIs.out)⟩
        case measure => rw [iterPos_of (by rw [hgrow3.block w0.heap.size (by simp; omega) (by simp; omega), Below.heap_alloc _ _ _ hBlt]; exact hit2), hpos0]; omega
      · by_cases hd2 : 97 ≤ r ∧ r ≤ 102
        · obtain ⟨d1, d2⟩ := hd2
          obtain ⟨hrb, rfl, _⟩ : r = byteAt s pos ∧ n = 1 ∧ r < 128 := by omega
          have HV : Hid (valOf (byteAt s pos) = r - 87) := Lib.hid (by rw [← hrb, valOf, if_neg (by omega)])
          have HIs : Hid (IsDig (byteAt s pos)) := Lib.hid (by rw [← hrb]; exact .inr ⟨d1, d2⟩)
          have hx : (r : Int) - 97 + 10 = ((r - 87 : Nat) : Int) := by omega
          clear hrb hr
          go_wp2_with (first
            | (at_builtin; refine wpList_append_own_spare _ rfl _ _ 22 rfl w.heap.size 5 i0 1 Tryd.underlying22 hi hz1 w.heap.size pos s.size _ rfl (hown2.alloc _) ⟨W1.heap.size, 0, none⟩ 1 1 [BV (r - 87)] rfl rfl (by simp only [BV, ← hx]; exact cell_one_new _ _ _) (bytes_one _) (by omega) ?_; intro w3 hown3 hgrow3))
          go_roundw
          case rel => exact ⟨pos + 1, rfl, by omega, by rw [hgrow3.block w0.heap.size (by simp; omega) (by simp; omega), Below.heap_alloc _ _ _ hBlt]; exact hit2, by rw [HS.out, HV.out, List.map_append]; exact hown3, (hbw2.alloc (by omega) _).grown hgrow3 (by simp; omega) (fun j hj => by cases hj; exact Nat.le_refl _), Lib.hid (HYes.out HIs.out)⟩
          case measure => rw [iterPos_of (by rw [hgrow3.block w0.heap.size (by simp; omega) (by simp; omega), Below.heap_alloc _ _ _ hBlt]; exact hit2), hpos0]; omega
        · have HN : Hid (¬ AllDig s) := Lib.hid (HNo.out (fun k => by unfold IsDig at k; omega))
          have hthree : r < 48 ∨ (57 < r ∧ r < 97) ∨ 102 < r := by omega
          clear hr HNo HYes HS hcase hd1 hd2
          rcases hthree with h3 | ⟨h3, h4⟩ | h3
          · go_wp2
            go_ret2
            exact ⟨.inr ⟨HN.out, rfl⟩, hbw2⟩
          · go_wp2
            go_ret2
            exact ⟨.inr ⟨HN.out, rfl⟩, hbw2⟩
          · go_wp2
            go_ret2
            exact ⟨.inr ⟨HN.out, rfl⟩, hbw2⟩
    · obtain rfl : pos = s.size := by omega
      have hnx : ∀ ty, (Instr.next (.pointer (some ⟨w0.heap.size, 0, none⟩)) true ty).run Tryd.prog wr = _ := fun ty => Lib.run_next_end_at wr w0.heap.size s s.size ty hit hp
      go_wp2
      go_ret2
      exact ⟨.inl ⟨HD.out, rfl, hown⟩, hbw⟩
end Go.Proofs.YtffdkniahdekjaaDoor
end
section
namespace Go.Proofs.YtffdkniahdekjaaDoor
open Go.RowKit Go.Hoar
/-- Two results, the first an array or a struct in a block of its own. -/
theorem results_row_tmp {fn : Func} {p u : Tmp} {ty : TypeId} (h : fn.results = #[.cell p ty, .tmp u]) (tmps : Array Value) (w : World) (g : Nat) (t : TypeId) (cs : Array Value) (fr : Nat × Nat) (d : TypeDesc)
    (hp : tmps.getD p undef = .pointer (some ⟨g, 0, none⟩)) (hg : w.heap[g]? = some (.cells cs t fr))
    (hd : (match d with | .struct _ | .array _ _ => true | _ => false) = true) (hu : Tryd.prog.underlying ty = some d) (hi : (Tryd.prog.info? ty).map (·.size) = some cs.size) :
    (results fn tmps).run Tryd.prog w = .ok (.tuple #[.agg cs, tmps.getD u undef]) w := by
  have hp' : tmps[p]?.getD undef = .pointer (some ⟨g, 0, none⟩) := by simpa using hp
  simp [results, h, hp', asAddr, run_loadVar_row w g t ty cs fr d hg hu (by cases d <;> simp_all) hi]
/-- Can a state be that of bytes, as far as its numbers tell? -/
def Sound (n : Nat) (long : Int) : Prop := 0 ≤ long ∧ long ≤ 1099511627776 ∧ (n : Int) = long % 64
instance (n : Nat) (long : Int) : Decidable (Sound n long) := by unfold Sound; infer_instance
set_option maxRecDepth 100000 in
set_option maxHeartbeats 1000000 in
theorem sound_any (h : List Nat) (a : Option Addr) (n c : Nat) (long : Int) (w : World) (hh : h.length = 8) :
    Calls Tryd.prog 61 #[.agg (stateCells h (.slice a n c) long)] w fun e w' => e = .returned (.bool (decide (Sound n long))) ∧ Below w.heap.size w w' := by
  obtain ⟨h0, h1, h2, h3, h4, h5, h6, h7, rfl⟩ := len8 hh
  have hs : stateCells [h0, h1, h2, h3, h4, h5, h6, h7] (.slice a n c) long = #[.int .u32 (h0 : Int), .int .u32 (h1 : Int), .int .u32 (h2 : Int), .int .u32 (h3 : Int), .int .u32 (h4 : Int), .int .u32 (h5 : Int), .int .u32 (h6 : Int), .int .u32 (h7 : Int), .slice a n c, .int .i64 long] := rfl
  rw [hs]
  clear hs
  by_cases g0 : 0 ≤ long
  · by_cases g1 : long ≤ 1099511627776
    · by_cases g2 : (n : Int) = long % 64
      · have e : decide (Sound n long) = true := decide_eq_true ⟨g0, g1, g2⟩
        rw [e]
        go_enter Tryd.func61, Tryd.ntmps61
        go_wp2
        go_ret
        exact ⟨rfl, (Below.refl _ _).alloc (Nat.le_refl _) _⟩
      · have e : decide (Sound n long) = false := decide_eq_false fun k => g2 k.2.2
        rw [e]
        go_enter Tryd.func61, Tryd.ntmps61
        go_wp2
        go_ret
        exact ⟨by simp [g2], (Below.refl _ _).alloc (Nat.le_refl _) _⟩
    · have e : decide (Sound n long) = false := decide_eq_false fun k => g1 k.2.1
      rw [e]
      go_enter Tryd.func61, Tryd.ntmps61
      go_wp2
      go_ret
      exact ⟨rfl, (Below.refl _ _).alloc (Nat.le_refl _) _⟩
  · have e : decide (Sound n long) = false := decide_eq_false fun k => g0 k.1
    rw [e]
    go_enter Tryd.func61, Tryd.ntmps61
    go_wp2
    go_ret
    exact ⟨rfl, (Below.refl _ _).alloc (Nat.le_refl _) _⟩
set_option maxRecDepth 100000 in
set_option maxHeartbeats 2000000 in
theorem done_any (h rb : List Nat) (ra : Option Addr) (rc : Nat) (long : Int) (w : World) (hh : h.length = 8) (hw : Sha.Words h) (hr : PartOk w ra rc rb) (hrb : Sha.Bytes rb) (hc : ConstAt w) (out : List Nat) (hout : Hid (out = Sha.ended h rb long.toNat)) :
    Calls Tryd.prog 22 #[.agg (stateCells h (.slice ra rb.length rc) long)] w fun e w' => e = .returned (.tuple (if Sound rb.length long then #[.agg (arr32 out), .int .i64 0] else #[.agg (arr32 []), .int .i64 14])) ∧ Below w.heap.size w w' := by
  have HI := Lib.hid (state_info h (.slice ra rb.length rc) long hh)
  by_cases hs : Sound rb.length long
  · rw [if_pos hs]
    have hd : decide (Sound rb.length long) = true := decide_eq_true hs
    obtain ⟨g0, g1, g2⟩ := hs
    obtain ⟨ln, rfl⟩ := Int.eq_ofNat_of_zero_le g0
    have hrl : rb.length ≤ 140737488355000 := by omega
    obtain ⟨H, hH⟩ : ∃ H, H = Sha.all h (rb ++ Sha.pad ln) := ⟨_, rfl⟩
    have hH8 : H.length = 8 := by rw [hH, Sha.all, Sha.takes_length, hh]
    have hHw : Sha.Words H := by rw [hH]; exact Sha.takes_words hw _ _
    have hfin : out = Sha.bytes H := by rw [hout.out, hH]; exact Eq.refl _
    have HH := Lib.hid hH
    have HF := Lib.hid hfin
    clear hH hfin hout
    have hbl : (Sha.bytes H).length = 32 := by rw [bytes_length, hH8]
    have HI32 := Lib.hid (arr32_info (Sha.bytes H) (by omega))
    have HS32 := Lib.hid ((arr32_size [] (by simp)).trans (arr32_size (Sha.bytes H) (by omega)).symm)
    go_enter Tryd.func22, Tryd.ntmps22
    go_upto_region 1 with (fail)
    refine gen_world (P := fun W => Code.wp _ _ _ _ W) (I := fun W => Below w.heap.size w W ∧ Has W w.heap.size 33 (stateCells h (.slice ra rb.length rc) ln) ∧ Has W (w.heap.size + 1) 26 (arr32 [])) _ ⟨((Below.refl _ w).alloc (Nat.le_refl _) _).alloc (by simp) _, (Has.fresh_at _ _ _ _ rfl).alloc _, Has.fresh_at _ _ _ _ (by simp)⟩ ?_
    rintro W ⟨hB, hS, hR⟩
    have HP := Lib.hid (hr.below hB)
    have HC := Lib.hid (hc.below hB rfl)
    have hrow := hS.row
    have HRow := Lib.hid hrow
    have HS := Lib.hid hS
    have HB := Lib.hid hB
    have HR := Lib.hid hR
    clear hB hS hR hrow hr hc
    go_wp2_with (first
      | ((with_reducible refine arm_load (w := W) ⟨w.heap.size, 0, none⟩ _ _ HRow.out Tryd.underlying33 HI.out ?h1 ?h2 ?_); (case h1 => rfl); (case h2 => rfl))
      | (go_at_call 61; refine (sound_any h ra rb.length rc ln W hh).mono ?_; rintro e w1 ⟨rfl, hbel⟩; rw [hd]; have HB1 := Lib.hid hbel; have HS1 := Lib.hid (HS.out.below hbel HS.out.lt).row; have HP1 := Lib.hid (HP.out.below hbel); have HC1 := Lib.hid (HC.out.below hbel rfl); have HR1 := Lib.hid (HR.out.below hbel HR.out.lt); clear hbel)
      | ((with_reducible refine arm_load (w := w1) ⟨w.heap.size, 0, none⟩ _ _ HS1.out Tryd.underlying33 HI.out ?h3 ?h4 ?_); (case h3 => rfl); (case h4 => rfl))
      | (go_at_call 57; refine (digest_any h rb ra rc ln w1 hh hw HP1.out hrb hrl (by omega) HC1.out H hH8 hHw HH).mono ?_; rintro e w3 ⟨rfl, hbel3⟩; have HB3 := Lib.hid hbel3; have HR3 := Lib.hid (HR1.out.below hbel3 HR1.out.lt); clear hbel3)
      | ((with_reducible refine arm_store (w.heap.size + 1) _ _ _ HR3.out HS32.out HI32.out (arr32_one _) ?h5 ?h6 ?_); (case h5 => rfl); (case h6 => rfl)))
    have hw1 : W.heap.size ≤ w1.heap.size := HB1.out.size
    have hwW : w.heap.size ≤ W.heap.size := HB.out.size
    exact bodyPost_ret (results_row_tmp rfl _ _ (w.heap.size + 1) 26 (arr32 (Sha.bytes H)) (0, 0) _ rfl HR3.out.setRow rfl Tryd.underlying26 HI32.out) rfl ⟨by rw [HF.out]; exact Eq.refl _, below_setRow ((HB.out.trans (HB1.out.mono hwW)).trans (HB3.out.mono (by omega))) (by omega) _⟩
  · rw [if_neg hs]
    have hd : decide (Sound rb.length long) = false := decide_eq_false hs
    clear hs hout hrb hr hc
    have HI32 := Lib.hid (arr32_info [] (by simp))
    go_enter Tryd.func22, Tryd.ntmps22
    go_upto_region 1 with (fail)
    refine gen_world (P := fun W => Code.wp _ _ _ _ W) (I := fun W => Below w.heap.size w W ∧ Has W w.heap.size 33 (stateCells h (.slice ra rb.length rc) long) ∧ Has W (w.heap.size + 1) 26 (arr32 [])) _ ⟨((Below.refl _ w).alloc (Nat.le_refl _) _).alloc (by simp) _, (Has.fresh_at _ _ _ _ rfl).alloc _, Has.fresh_at _ _ _ _ (by simp)⟩ ?_
    rintro W ⟨hB, hS, hR⟩
    have hrow := hS.row
    have HRow := Lib.hid hrow
    have HB := Lib.hid hB
    have HR := Lib.hid hR
    clear hB hS hR hrow
    go_wp2_with (first
      | ((with_reducible refine arm_load (w := W) ⟨w.heap.size, 0, none⟩ _ _ HRow.out Tryd.underlying33 HI.out ?h1 ?h2 ?_); (case h1 => rfl); (case h2 => rfl))
      | (go_at_call 61; refine (sound_any h ra rb.length rc long W hh).mono ?_; rintro e w1 ⟨rfl, hbel⟩; rw [hd]; have HB1 := Lib.hid hbel; have HR1 := Lib.hid (HR.out.below hbel HR.out.lt); clear hbel)
      | ((with_reducible refine arm_store (w.heap.size + 1) (arr32 []) 26 (arr32 []) HR1.out rfl HI32.out (arr32_one _) ?h5 ?h6 ?_); (case h5 => rfl); (case h6 => rfl)))
    have hwW : w.heap.size ≤ W.heap.size := HB.out.size
    exact bodyPost_ret (results_row_tmp rfl _ _ (w.heap.size + 1) 26 (arr32 []) (0, 0) _ rfl HR1.out.setRow rfl Tryd.underlying26 HI32.out) rfl ⟨rfl, below_setRow (HB.out.trans (HB1.out.mono hwW)) (by omega) _⟩
end Go.Proofs.YtffdkniahdekjaaDoor
end
section
namespace Go.Proofs.YtffdkniahdekjaaDoor
open Go.RowKit Go.Hoar
theorem state_ninth {h : List Nat} {r : Value} {l : Int} (hh : h.length = 8) : (stateCells h r l)[9]? = some (.int .i64 l) := by
  obtain ⟨h0, h1, h2, h3, h4, h5, h6, h7, rfl⟩ := len8 hh
  exact Eq.refl _
theorem zero_info : (Tryd.prog.info? 33).map (·.size) = some zeroState.size := by kernel_rfl
theorem zero_one : zeroState.all (·.oneCell') = true := state_one [0, 0, 0, 0, 0, 0, 0, 0] (.slice none 0 0) 0 rfl
set_option maxRecDepth 100000 in
set_option maxHeartbeats 2000000 in
/-- A state that can be none of bytes. -/
theorem write_wrong (h rb bs : List Nat) (ra a : Option Addr) (rc c : Nat) (long : Int) (w : World) (hh : h.length = 8) (hs : ¬ Sound rb.length long) :
    Calls Tryd.prog 20 #[.agg (stateCells h (.slice ra rb.length rc) long), .slice a bs.length c] w fun e w' => e = .returned (.tuple #[.agg zeroState, .int .i64 14]) ∧ Below w.heap.size w w' := by
  have HI := Lib.hid (state_info h (.slice ra rb.length rc) long hh)
  have hd : decide (Sound rb.length long) = false := decide_eq_false hs
  have HI10 := Lib.hid zero_info
  clear hs
  go_enter Tryd.func20, Tryd.ntmps20
  go_upto_region 1 with (fail)
  refine gen_world (P := fun W => Code.wp _ _ _ _ W) (I := fun W => Below w.heap.size w W ∧ Has W w.heap.size 33 (stateCells h (.slice ra rb.length rc) long) ∧ Has W (w.heap.size + 1) 33 zeroState) _ ⟨((Below.refl _ w).alloc (Nat.le_refl _) _).alloc (by simp) _, (Has.fresh_at _ _ _ _ rfl).alloc _, Has.fresh_at _ _ _ _ (by simp)⟩ ?_
  rintro W ⟨hB, hS, hR⟩
  have hrow := hS.row
  have HRow := Lib.hid hrow
  have HB := Lib.hid hB
  have HR := Lib.hid hR
  clear hB hS hR hrow
  go_wp2_with (first
    | ((with_reducible refine arm_load (w := W) ⟨w.heap.size, 0, none⟩ _ _ HRow.out Tryd.underlying33 HI.out ?h1 ?h2 ?_); (case h1 => rfl); (case h2 => rfl))
    | (go_at_call 61; refine (sound_any h ra rb.length rc long W hh).mono ?_; rintro e w1 ⟨rfl, hbel⟩; rw [hd]; have HB1 := Lib.hid hbel; have HR1 := Lib.hid (HR.out.below hbel HR.out.lt); clear hbel)
    | ((with_reducible refine arm_store (w.heap.size + 1) zeroState 33 zeroState HR1.out rfl HI10.out zero_one ?h5 ?h6 ?_); (case h5 => rfl); (case h6 => rfl)))
  have hwW : w.heap.size ≤ W.heap.size := HB.out.size
  exact bodyPost_ret (results_row_tmp rfl _ _ (w.heap.size + 1) 33 zeroState (0, 0) _ rfl HR1.out.setRow rfl Tryd.underlying33 HI10.out) rfl ⟨rfl, below_setRow (HB.out.trans (HB1.out.mono hwW)) (by omega) _⟩
set_option maxRecDepth 100000 in
set_option maxHeartbeats 2000000 in
/-- More bytes than a digest may have. -/
theorem write_long (h rb bs : List Nat) (ra a : Option Addr) (rc c : Nat) (long : Int) (w : World) (hh : h.length = 8) (hs : Sound rb.length long) (_hm : bs.length ≤ maxLen) (hl : 1099511627776 - long < bs.length) :
    Calls Tryd.prog 20 #[.agg (stateCells h (.slice ra rb.length rc) long), .slice a bs.length c] w fun e w' => e = .returned (.tuple #[.agg zeroState, .int .i64 11]) ∧ Below w.heap.size w w' := by
  have HI := Lib.hid (state_info h (.slice ra rb.length rc) long hh)
  have hd : decide (Sound rb.length long) = true := decide_eq_true hs
  have HI10 := Lib.hid zero_info
  obtain ⟨g0, g1, _⟩ := hs
  unfold maxLen at _hm
  go_enter Tryd.func20, Tryd.ntmps20
  go_upto_region 1 with (fail)
  refine gen_world (P := fun W => Code.wp _ _ _ _ W) (I := fun W => Below w.heap.size w W ∧ Has W w.heap.size 33 (stateCells h (.slice ra rb.length rc) long) ∧ Has W (w.heap.size + 1) 33 zeroState) _ ⟨((Below.refl _ w).alloc (Nat.le_refl _) _).alloc (by simp) _, (Has.fresh_at _ _ _ _ rfl).alloc _, Has.fresh_at _ _ _ _ (by simp)⟩ ?_
  rintro W ⟨hB, hS, hR⟩
  have hrow := hS.row
  have HRow := Lib.hid hrow
  have HB := Lib.hid hB
  have HR := Lib.hid hR
  have HS := Lib.hid hS
  have H9 := Lib.hid (state_ninth (r := .slice ra rb.length rc) (l := long) hh)
  clear hB hS hR hrow
  go_wp2_with (first
    | ((with_reducible refine arm_load (w := W) ⟨w.heap.size, 0, none⟩ _ _ HRow.out Tryd.underlying33 HI.out ?h1 ?h2 ?_); (case h1 => rfl); (case h2 => rfl))
    | (go_at_call 61; refine (sound_any h ra rb.length rc long W hh).mono ?_; rintro e w1 ⟨rfl, hbel⟩; rw [hd]; have HB1 := Lib.hid hbel; have HR1 := Lib.hid (HR.out.below hbel HR.out.lt); have c9 := ((HS.out.below hbel HS.out.lt).cell 9).trans H9.out; clear hbel)
    | ((with_reducible refine arm_store (w.heap.size + 1) zeroState 33 zeroState HR1.out rfl HI10.out zero_one ?h5 ?h6 ?_); (case h5 => rfl); (case h6 => rfl)))
  have hwW : w.heap.size ≤ W.heap.size := HB.out.size
  exact bodyPost_ret (results_row_tmp rfl _ _ (w.heap.size + 1) 33 zeroState (0, 0) _ rfl HR1.out.setRow rfl Tryd.underlying33 HI10.out) rfl ⟨rfl, below_setRow (HB.out.trans (HB1.out.mono hwW)) (by omega) _⟩
set_option maxRecDepth 100000 in
set_option maxHeartbeats 2000000 in
theorem write_any (h rb bs : List Nat) (ra a : Option Addr) (rc c : Nat) (long : Int) (w : World) (hh : h.length = 8) (hw : Sha.Words h) (hr : PartOk w ra rc rb) (hb : PartOk w a c bs) (hrb : Sha.Bytes rb) (hbs : Sha.Bytes bs)
    (hs : Sound rb.length long) (hl : bs.length ≤ 1099511627776 - long) (hcap : CapOk a bs.length c) (hc : ConstAt w) (al : List Nat) (hal : Hid (al = rb ++ bs)) :
    Calls Tryd.prog 20 #[.agg (stateCells h (.slice ra rb.length rc) long), .slice a bs.length c] w fun e w' => ∃ a' c', e = .returned (.tuple #[.agg (stateCells (Sha.all h al) (.slice a' (restOf al).length c') (long + bs.length)), .int .i64 0]) ∧ w'.ownsRow w.heap.size 5 1 (.slice a' (restOf al).length c') (restOf al).length ((restOf al).map BV) ∧ Below w.heap.size w w' := by
  have HI := Lib.hid (state_info h (.slice ra rb.length rc) long hh)
  have hd : decide (Sound rb.length long) = true := decide_eq_true hs
  obtain ⟨g0, g1, g2⟩ := hs
  have h8 : (Sha.all h al).length = 8 := by rw [Sha.all, Sha.takes_length, hh]
  have hlen : rb.length + bs.length ≤ 140737488355328 := by omega
  go_enter Tryd.func20, Tryd.ntmps20
  go_upto_region 1 with (fail)
  refine gen_world (P := fun W => Code.wp _ _ _ _ W) (I := fun W => Below w.heap.size w W ∧ Has W w.heap.size 33 (stateCells h (.slice ra rb.length rc) long) ∧ Has W (w.heap.size + 1) 33 zeroState) _ ⟨((Below.refl _ w).alloc (Nat.le_refl _) _).alloc (by simp) _, (Has.fresh_at _ _ _ _ rfl).alloc _, Has.fresh_at _ _ _ _ (by simp)⟩ ?_
  rintro W ⟨hB, hS, hR⟩
  have HP := Lib.hid (hr.below hB)
  have HQ := Lib.hid (hb.below hB)
  have HC := Lib.hid (hc.below hB rfl)
  have HRow := Lib.hid hS.row
  have HB := Lib.hid hB
  have HR := Lib.hid hR
  have HS := Lib.hid hS
  have H9 := Lib.hid (state_ninth (r := .slice ra rb.length rc) (l := long) hh)
  clear hB hS hR hr hb hc
  go_wp2_with (first
    | ((with_reducible refine arm_load (w := W) ⟨w.heap.size, 0, none⟩ _ _ HRow.out Tryd.underlying33 HI.out ?h1 ?h2 ?_); (case h1 => rfl); (case h2 => rfl))
    | (go_at_call 61; refine (sound_any h ra rb.length rc long W hh).mono ?_; rintro e w1 ⟨rfl, hbel⟩; rw [hd]; have HB1 := Lib.hid hbel; have HR1 := Lib.hid (HR.out.below hbel HR.out.lt); have c9 := ((HS.out.below hbel HS.out.lt).cell 9).trans H9.out; have HRow1 := Lib.hid (HS.out.below hbel HS.out.lt).row; have HP1 := Lib.hid (HP.out.below hbel); have HQ1 := Lib.hid (HQ.out.below hbel); have HC1 := Lib.hid (HC.out.below hbel rfl); clear hbel)
    | ((with_reducible refine arm_load (w := w1) ⟨w.heap.size, 0, none⟩ _ _ HRow1.out Tryd.underlying33 HI.out ?h3 ?h4 ?_); (case h3 => rfl); (case h4 => rfl))
    | (go_at_call 58; refine (written_any h rb bs ra a rc c long w1 hh hw HP1.out HQ1.out hrb hbs hlen hcap g0 (by omega) HC1.out al hal).mono ?_; rintro e w2 ⟨a', c', rfl, hown, hbel2⟩; have HB2 := Lib.hid hbel2; have HO2 := Lib.hid hown; have HR2 := Lib.hid (HR1.out.below hbel2 HR1.out.lt); have HI2 := Lib.hid (state_info (Sha.all h al) (.slice a' (restOf al).length c') (long + bs.length) h8); have HS2 := Lib.hid (state_size (Sha.all h al) (.slice a' (restOf al).length c') (long + bs.length) h8).symm; have HO1 := Lib.hid (state_one (Sha.all h al) (.slice a' (restOf al).length c') (long + bs.length) rfl); clear hbel2 hown)
    | ((with_reducible refine arm_store (w.heap.size + 1) _ _ _ HR2.out HS2.out HI2.out HO1.out ?h5 ?h6 ?_); (case h5 => rfl); (case h6 => rfl)))
  have hwW : w.heap.size ≤ W.heap.size := HB.out.size
  have hw1 : w.heap.size + 1 < w1.heap.size := HR1.out.lt
  have hne1 : Value.ownBlock (.slice a' (restOf al).length c') ≠ some (w.heap.size + 1) := fun h => by have := (HO2.out.lt _ h).1; omega
  have hgr : w2.grownBy (w2.setRow (w.heap.size + 1) (stateCells (Sha.all h al) (.slice a' (restOf al).length c') (long + bs.length))) (some (w.heap.size + 1)) := ⟨rfl, rfl, rfl, by simp, fun k _ hk => setRow_heap_other _ _ _ _ (fun e => hk (by rw [e]))⟩
  exact bodyPost_ret (results_row_tmp rfl _ _ (w.heap.size + 1) 33 _ (0, 0) _ rfl HR2.out.setRow rfl Tryd.underlying33 HI2.out) rfl ⟨a', c', Eq.refl _, own_base (HO2.out.kept hgr (.inr hne1)) (by omega), below_setRow ((HB.out.trans (HB1.out.mono hwW)).trans (HB2.out.mono (by omega))) (by omega) _⟩
end Go.Proofs.YtffdkniahdekjaaDoor
end
section
namespace Go.Proofs.YtffdkniahdekjaaDoor
open Go.RowKit Go.Hoar
theorem shl_or : ∀ x y : Fin 16, bits BinOp.or IntKind.u8 ((x.val : Int) * 16) (y.val : Int) = ((x.val * 16 + y.val : Nat) : Int) := by decide +kernel
/-- The first k bytes of the digits of a text. -/
def packK (s : ByteArray) (k : Nat) : List Nat := (List.range k).map fun i => valOf (byteAt s (2 * i)) * 16 + valOf (byteAt s (2 * i + 1))
theorem packK_succ (s : ByteArray) (k : Nat) : packK s (k + 1) = packK s k ++ [valOf (byteAt s (2 * k)) * 16 + valOf (byteAt s (2 * k + 1))] := by simp [packK, List.range_succ]
theorem packK_length (s : ByteArray) (k : Nat) : (packK s k).length = k := by simp [packK]
theorem valOf_lt {c : Nat} (h : IsDig c) : valOf c < 16 := by
  unfold IsDig at h
  unfold valOf
  split <;> omega
theorem digs_cell {w : World} {base n g c : Nat} {s : ByteArray} (h : w.ownsRow base 5 1 (.slice (some ⟨g, 0, none⟩) n c) n ((digsK s n).map BV)) (i : Nat) (hi : i < n) : w.cell? ⟨g, i, none⟩ = some (.int .u8 ((valOf (byteAt s i) : Nat) : Int)) := by
  have h1 := h.cells (g := g) rfl i (BV (valOf (byteAt s i))) (by
    rw [List.getElem?_map, digsK, List.getElem?_map, List.getElem?_range hi]
    rfl)
  have hadd : (⟨g, 0, none⟩ : Addr).add i = ⟨g, i, none⟩ := by unfold Addr.add; split <;> simp_all
  rwa [hadd] at h1
set_option maxRecDepth 100000 in
set_option maxHeartbeats 1000000 in
theorem unhex_many (s : ByteArray) (h : s.size ≠ 64) (_hsz : s.size ≤ 1099511627776) (w : World) :
    Calls Tryd.prog 26 #[.string s] w fun e w' => e = .returned (.tuple #[.agg (arr32 []), .int .i64 2]) ∧ Below w.heap.size w w' := by
  have hne : ¬ (s.size : Int) = 64 := by omega
  have HI32 := Lib.hid (arr32_info [] (by simp))
  go_enter Tryd.func26, Tryd.ntmps26
  go_upto_region 1 with (fail)
  refine gen_world (P := fun W => Code.wp _ _ _ _ W) (I := fun W => Below w.heap.size w W ∧ Has W w.heap.size 26 (arr32 [])) _ ⟨(Below.refl _ w).alloc (Nat.le_refl _) _, Has.fresh_at _ _ _ _ rfl⟩ ?_
  rintro W ⟨hB, hR⟩
  have HB := Lib.hid hB
  have HR := Lib.hid hR
  clear hB hR
  go_wp2_with (first
    | ((with_reducible refine arm_store w.heap.size (arr32 []) 26 (arr32 []) HR.out rfl HI32.out (arr32_one _) ?h5 ?h6 ?_); (case h5 => rfl); (case h6 => rfl)))
  exact bodyPost_ret (results_row_tmp rfl _ _ w.heap.size 26 (arr32 []) (0, 0) _ rfl HR.out.setRow rfl Tryd.underlying26 HI32.out) rfl ⟨rfl, below_setRow HB.out (Nat.le_refl _) _⟩
set_option maxRecDepth 100000 in
set_option maxHeartbeats 1000000 in
theorem unhex_form (s : ByteArray) (h : s.size = 64) (hd : ¬ AllDig s) (w : World) :
    Calls Tryd.prog 26 #[.string s] w fun e w' => e = .returned (.tuple #[.agg (arr32 []), .int .i64 4]) ∧ Below w.heap.size w w' := by
  have hne : (s.size : Int) = 64 := by omega
  have HI32 := Lib.hid (arr32_info [] (by simp))
  have hdig : ∀ V, Calls Tryd.prog 63 #[.string s] V fun e w' => e = .returned (.tuple #[.slice none 0 0, .bool false]) ∧ Below V.heap.size V w' := fun V =>
    (digits_any s (by omega) V).mono (by rintro e w' ⟨⟨k, _⟩ | ⟨_, rfl⟩, hb⟩; exact absurd k hd; exact ⟨rfl, hb⟩)
  have HD := Lib.hid hdig
  clear hdig hd
  go_enter Tryd.func26, Tryd.ntmps26
  go_upto_region 1 with (fail)
  refine gen_world (P := fun W => Code.wp _ _ _ _ W) (I := fun W => Below w.heap.size w W ∧ Has W w.heap.size 26 (arr32 [])) _ ⟨(Below.refl _ w).alloc (Nat.le_refl _) _, Has.fresh_at _ _ _ _ rfl⟩ ?_
  rintro W ⟨hB, hR⟩
  have HB := Lib.hid hB
  have HR := Lib.hid hR
  clear hB hR
  go_wp2_with (first
    | (go_at_call 63; refine (HD.out _).mono ?_; rintro e w1 ⟨rfl, hbel⟩; have HB1 := Lib.hid (HB.out.trans (hbel.mono HB.out.size)); have HR1 := Lib.hid (HR.out.below hbel HR.out.lt); clear hbel)
    | ((with_reducible refine arm_store w.heap.size (arr32 []) 26 (arr32 []) HR1.out rfl HI32.out (arr32_one _) ?h5 ?h6 ?_); (case h5 => rfl); (case h6 => rfl)))
  exact bodyPost_ret (results_row_tmp rfl _ _ w.heap.size 26 (arr32 []) (0, 0) _ rfl HR1.out.setRow rfl Tryd.underlying26 HI32.out) rfl ⟨rfl, below_setRow HB1.out (Nat.le_refl _) _⟩
set_option maxRecDepth 100000 in
set_option maxHeartbeats 2000000 in
theorem unhex_any (s : ByteArray) (h : s.size = 64) (hd : AllDig s) (w : World) :
    Calls Tryd.prog 26 #[.string s] w fun e w' => e = .returned (.tuple #[.agg (arr32 (packK s 32)), .int .i64 0]) ∧ Below w.heap.size w w' := by
  have hne : (s.size : Int) = 64 := by omega
  have hlen := packK_length s
  have HI32 := Lib.hid (arr32_info (packK s 32) (by rw [hlen]; omega))
  have HS32 := Lib.hid ((arr32_size [] (by simp)).trans (arr32_size (packK s 32) (by rw [hlen]; omega)).symm)
  have hdig : ∀ V, Calls Tryd.prog 63 #[.string s] V fun e w' => ∃ g, e = .returned (.tuple #[.slice (some ⟨g, 0, none⟩) 64 64, .bool true]) ∧ V.heap.size ≤ g ∧ g < w'.heap.size ∧ (∀ i, i < 64 → w'.cell? ⟨g, i, none⟩ = some (.int .u8 ((valOf (byteAt s i) : Nat) : Int))) ∧ Below V.heap.size V w' := fun V =>
    (digits_any s (by omega) V).mono (by
      rintro e w' ⟨⟨_, rfl, ho⟩ | ⟨k, _⟩, hb⟩
      · rw [h] at *
        exact ⟨_, rfl, Nat.le_refl _, (ho.lt _ rfl).2, fun i hi => digs_cell ho i hi, hb⟩
      · exact absurd hd k)
  have HD := Lib.hid hdig
  have HV := Lib.hid fun i (hi : i < 64) => valOf_lt (hd i (by omega))
  clear hdig hd
  go_enter Tryd.func26, Tryd.ntmps26
  go_upto_region 1 with (fail)
  refine gen_world (P := fun W => Code.wp _ _ _ _ W) (I := fun W => Below w.heap.size w W ∧ Has W w.heap.size 26 (arr32 [])) _ ⟨(Below.refl _ w).alloc (Nat.le_refl _) _, Has.fresh_at _ _ _ _ rfl⟩ ?_
  rintro W ⟨hB, hR⟩
  have HB := Lib.hid hB
  have HR := Lib.hid hR
  clear hB hR
  go_upto_region 7 with (first
    | (go_at_call 63; refine (HD.out _).mono ?_; rintro e w1 ⟨g, rfl, hg1, hg2, hcells, hbel⟩; have HB1 := Lib.hid (HB.out.trans (hbel.mono HB.out.size)); have HR1 := Lib.hid (HR.out.below hbel HR.out.lt); have HC1 := Lib.hid hcells; clear hbel hcells))
  refine gen_world (P := fun W => Code.wp _ _ _ _ W) (I := fun V => Below w.heap.size w V ∧ Has V w.heap.size 26 (arr32 []) ∧ Has V w1.heap.size 26 (arr32 []) ∧ (∀ i, i < 64 → V.cell? ⟨g, i, none⟩ = some (.int .u8 ((valOf (byteAt s i) : Nat) : Int)))) _ ⟨HB1.out.alloc HB1.out.size _, HR1.out.alloc _, Has.fresh_at _ _ _ _ rfl, fun i hi => (World.cell?_alloc_lt _ _ _ hg2).trans (HC1.out i hi)⟩ ?_
  rintro V ⟨hB2, hR2, hT2, hC2⟩
  have HB2 := Lib.hid hB2
  have HR2 := Lib.hid hR2
  have HT2 := Lib.hid hT2
  have HC2 := Lib.hid hC2
  have hwg : w.heap.size < w1.heap.size := HR1.out.lt
  have hWg : w.heap.size < W.heap.size := HR.out.lt
  clear hB2 hR2 hT2 hC2
  go_wp2
  go_loopw [20] (fun i wr => ∃ k : Nat, k ≤ 32 ∧ i = .int .i64 k ∧ Has wr w1.heap.size 26 (arr32 (packK s k)) ∧ Has wr w.heap.size 26 (arr32 []) ∧ (∀ i, i < 64 → wr.cell? ⟨g, i, none⟩ = some (.int .u8 ((valOf (byteAt s i) : Nat) : Int))) ∧ Below w.heap.size w wr) (fun i _ => 32 - (intOf i).toNat)
  case atStart => exact ⟨0, Nat.zero_le _, rfl, HT2.out, HR2.out, HC2.out, HB2.out⟩
  case round =>
    obtain ⟨k, hk, rfl, hT, hR, hC, hB⟩ := hrel
    by_cases hlt : k < 32
    · have c1 := hC (2 * k) (by omega)
      have c2 := hC (2 * k + 1) (by omega)
      have v1 := HV.out (2 * k) (by omega)
      have v2 := HV.out (2 * k + 1) (by omega)
      have hfree := hT.free k
      have hold := hT.cell k
      have hend := arr32_end (packK s k) (by rw [hlen]; omega)
      rw [hlen] at hend
      rw [hend] at hold
      have hset := arr32_set (packK s k) (valOf (byteAt s (2 * k)) * 16 + valOf (byteAt s (2 * k + 1))) (by rw [hlen]; omega)
      rw [hlen, ← packK_succ] at hset
      generalize valOf (byteAt s (2 * k)) = x at *
      generalize valOf (byteAt s (2 * k + 1)) = y at *
      have hso := shl_or ⟨x, v1⟩ ⟨y, v2⟩
      dsimp only at hso
      have hput := (hT.put k (BV (x * 16 + y))).of_eq hset
      have HP := Lib.hid hput
      have HSo := Lib.hid hso
      have HC3 := Lib.hid hC
      have HR3 := Lib.hid hR
      have HB3 := Lib.hid hB
      have hp1 : IntKind.i64.wrap (2 * (k : Int)) = 2 * (k : Int) := IntWalk.i64_in _ (by omega)
      clear hT hR hC hB hput hso hset
      go_wp2_with fail
      go_region
      go_wp2
      go_roundw
      case rel =>
        refine ⟨k + 1, by omega, by go_num, ?_, (HR3.out.apart (by simp; omega) _).drew, fun i hi => ?_, (HB3.out.setCell (by simp; omega) _).drew⟩
        · rw [HSo.out]; exact HP.out.drew
        · exact (World.cell?_setCell_other _ _ _ _ (by intro e; cases e; omega)).trans (HC3.out i hi)
      case measure => simp [intOf]; omega
    · obtain rfl : k = 32 := by omega
      have HT3 := Lib.hid hT.row
      have HR3 := Lib.hid hR
      have HB3 := Lib.hid hB
      clear hT hR hB hC
      go_wp2_with (first
        | ((with_reducible refine arm_load (w := wr) ⟨w1.heap.size, 0, none⟩ _ _ HT3.out Tryd.underlying26 HI32.out ?h3 ?h4 ?_); (case h3 => rfl); (case h4 => rfl))
        | ((with_reducible refine arm_store w.heap.size _ _ _ HR3.out HS32.out HI32.out (arr32_one _) ?h5 ?h6 ?_); (case h5 => rfl); (case h6 => rfl)))
      exact bodyPost_ret (results_row_tmp rfl _ _ w.heap.size 26 (arr32 (packK s 32)) (0, 0) _ rfl HR3.out.setRow rfl Tryd.underlying26 HI32.out) rfl ⟨rfl, below_setRow HB3.out (Nat.le_refl _) _⟩
end Go.Proofs.YtffdkniahdekjaaDoor
end
