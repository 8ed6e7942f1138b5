/-
  YtillghidmfglpaaDoorComp
  · YtillghidmfglpaaDoorSpan
  · YtillghidmfglpaaDoorSpans
  · ROWS OF ELEMENTS OF k CELLS: from a row that a call owns to the words of the library's contracts and back. It speaks of no program.
  · YtillghidmfglpaaDoorBeside
  · SLICE LITERALS OF ARRAYS OR STRUCTS: what lies in the new block. It speaks of no program.
  · YtillghidmfglpaaDoorProof
  · HOW MANY ONES: the sum that math/bits.OnesCount64 builds, for numbers below 2^32. It speaks of no program.
  · YtillghidmfglpaaDoorOnesGo
  · YtillghidmfglpaaDoorTree
  · YtillghidmfglpaaDoorGrow
  · YtillghidmfglpaaDoorApp
-/
import Derived.Test.YtillghidmfglpaaDoorMDgc
import Derived.Deep.RegionHeld3
import Derived.Test.YtillghidmfglpaaDoorMDga
import Derived.Shelf.GgSortFunc.RowK
import Derived.Test.YtillghidmfglpaaDoorMDgb
import Derived.Deep.LoopGhost
import Derived.OwnWalk
import Derived.Great.BuildSlice
import Derived.Test.YtillghidmfglpaaDoorProg
import Derived.Laws.BitsAllLaws
import Derived.Laws.Bits128
import Derived.BigQuiet
import Derived.Deep.Cut
import Derived.Deep.QuietTactic
import Derived.RangeFuncNested
import Derived.RangeFuncBox
import Derived.Lib.BytesEntry
import Derived.Laws.Externs
section
namespace Go.Proofs.YtillghidmfglpaaDoor
open Go.RowKit Go.Hoar
/-- The places from one on, up to, and without, another one. -/
def spanV (a b : Nat) : Value := .agg #[.int .i64 (a : Int), .int .i64 (b : Int)]
/-- Two results, each a struct in a block of its own. -/
theorem results_row_row {fn : Func} {p q : Tmp} {ty : TypeId} (h : fn.results = #[.cell p ty, .cell q ty]) (tmps : Array Value) (w : World) (g k : Nat) (t t' : TypeId) (cs ds : Array Value) (fr fr' : Nat × Nat) (d : TypeDesc)
    (hp : tmps.getD p undef = .pointer (some ⟨g, 0, none⟩)) (hq : tmps.getD q undef = .pointer (some ⟨k, 0, none⟩)) (hg : w.heap[g]? = some (.cells cs t fr)) (hk : w.heap[k]? = some (.cells ds t' fr'))
    (hd : (match d with | .struct _ | .array _ _ => true | _ => false) = true) (hu : Tryd.prog.underlying ty = some d) (hi : (Tryd.prog.info? ty).map (·.size) = some cs.size) (hj : (Tryd.prog.info? ty).map (·.size) = some ds.size) :
    (results fn tmps).run Tryd.prog w = .ok (.tuple #[.agg cs, .agg ds]) w := by
  have hp' : tmps[p]?.getD undef = .pointer (some ⟨g, 0, none⟩) := by simpa using hp
  have hq' : tmps[q]?.getD undef = .pointer (some ⟨k, 0, none⟩) := by simpa using hq
  simp [results, h, hp', hq', asAddr, run_loadVar_row w g t ty cs fr d hg hu (by cases d <;> simp_all) hi, run_loadVar_row w k t' ty ds fr' d hk hu (by cases d <;> simp_all) hj]
theorem spanInfo {x y : Value} : (Tryd.prog.info? 108).map (·.size) = some (#[x, y] : Array Value).size := by
  have h : (Tryd.prog.info? 108).map (·.size) = some 2 := by kernel_rfl
  exact h
set_option maxRecDepth 100000 in
set_option maxHeartbeats 1000000 in
theorem spancut_any (a b : Nat) (h2 : a + 2 ≤ b) (hb : b ≤ 140737488355328) (w : World) (mid : Nat) (hm : Hid (mid = a + halfOf (b - a))) :
    Calls Tryd.prog 95 #[spanV a b] w fun e w' => e = .returned (.tuple #[spanV a mid, spanV mid b]) ∧ Below w.heap.size w w' := by
  obtain ⟨_, b2, _⟩ := halfOf_bounds (n := b - a) (by omega) (by omega)
  have hh := half_any (b - a) (by omega) (by omega)
  obtain ⟨h, hhe⟩ : ∃ h, h = halfOf (b - a) := ⟨_, rfl⟩
  have hm2 : mid = a + h := by rw [hm.out, hhe]
  rw [← hhe] at b2 hh
  have e : ((b - a : Nat) : Int) = (b : Int) - (a : Int) := by omega
  rw [e] at hh
  subst hm2
  clear hm hhe
  have HH := Lib.hid hh
  clear hh e
  go_enter Tryd.func95, Tryd.ntmps95
  unfold spanV
  go_upto_region 1 with (fail)
  refine gen_world (P := fun W => Code.wp _ _ _ _ W) (I := fun W => Below w.heap.size w W ∧ Has W w.heap.size 108 #[.int .i64 (a : Int), .int .i64 (b : Int)] ∧ Has W (w.heap.size + 1) 108 #[.int .i64 0, .int .i64 0] ∧ Has W (w.heap.size + 1 + 1) 108 #[.int .i64 0, .int .i64 0]) _ ⟨(((Below.refl _ w).alloc (Nat.le_refl _) _).alloc (by simp) _).alloc (by simp; omega) _, ((Has.fresh_at _ _ _ _ rfl).alloc _).alloc _, (Has.fresh_at _ _ _ _ (by simp)).alloc _, Has.fresh_at _ _ _ _ (by simp)⟩ ?_
  rintro W ⟨hB, hS, hR1, hR2⟩
  have c0 := hS.cell 0
  have c1 := hS.cell 1
  have HB := Lib.hid hB
  have HS := Lib.hid hS
  have HR1 := Lib.hid hR1
  have HR2 := Lib.hid hR2
  clear hB hS hR1 hR2
  have i1 : IntKind.i64.wrap ((b : Int) - (a : Int)) = (b : Int) - (a : Int) := IntWalk.i64_in _ (by omega)
  have i2 : IntKind.i64.wrap ((a : Int) + (h : Int)) = (a : Int) + (h : Int) := IntWalk.i64_in _ (by omega)
  go_region_held3 (fun W' => W'.cell? ⟨w.heap.size, 0, none⟩ = some (.int .i64 (a : Int)) ∧ W'.cell? ⟨w.heap.size, 1, none⟩ = some (.int .i64 (b : Int))) (first | exact ⟨c0, c1⟩ | go_keep)
    (first | (go_at_call 94; refine (HH.out _).mono ?_; rintro e w' ⟨rfl, rfl⟩))
  go_upto_region 2 with (fail)
  have r10 : W.drew.cell? ⟨w.heap.size + 1, 0, none⟩ = some (.int .i64 0) := HR1.out.cell 0
  have r11 : W.drew.cell? ⟨w.heap.size + 1, 1, none⟩ = some (.int .i64 0) := HR1.out.cell 1
  have r20 : W.drew.cell? ⟨w.heap.size + 1 + 1, 0, none⟩ = some (.int .i64 0) := HR2.out.cell 0
  have r21 : W.drew.cell? ⟨w.heap.size + 1 + 1, 1, none⟩ = some (.int .i64 0) := HR2.out.cell 1
  have f10 : W.drew.frozen? ⟨w.heap.size + 1, 0, none⟩ = false := HR1.out.free 0
  have f11 : W.drew.frozen? ⟨w.heap.size + 1, 1, none⟩ = false := HR1.out.free 1
  have f20 : W.drew.frozen? ⟨w.heap.size + 1 + 1, 0, none⟩ = false := HR2.out.free 0
  have f21 : W.drew.frozen? ⟨w.heap.size + 1 + 1, 1, none⟩ = false := HR2.out.free 1
  have b0 : W.drew.cell? ⟨w.heap.size, 0, none⟩ = some (.int .i64 (a : Int)) := c0
  have b1 : W.drew.cell? ⟨w.heap.size, 1, none⟩ = some (.int .i64 (b : Int)) := c1
  have HB2 := Lib.hid HB.out.drew
  have H1 := Lib.hid HR1.out.drew
  have H2 := Lib.hid HR2.out.drew
  clear c0 c1 HB HR1 HR2 HS
  generalize W.drew = V at *
  go_region
  have hcast : ((a + h : Nat) : Int) = (a : Int) + (h : Int) := by omega
  have K1 := Lib.hid (((((H1.out.put 0 (.int .i64 (a : Int))).put 1 (.int .i64 ((a : Int) + (h : Int)))).apart (a := ⟨w.heap.size + 1 + 1, 0, none⟩) (by simp) (.int .i64 ((a : Int) + (h : Int)))).apart (a := ⟨w.heap.size + 1 + 1, 1, none⟩) (by simp) (.int .i64 (b : Int))).drew)
  have K2 := Lib.hid (((((H2.out.apart (a := ⟨w.heap.size + 1, 0, none⟩) (by simp) (.int .i64 (a : Int))).apart (a := ⟨w.heap.size + 1, 1, none⟩) (by simp) (.int .i64 ((a : Int) + (h : Int)))).put 0 (.int .i64 ((a : Int) + (h : Int)))).put 1 (.int .i64 (b : Int))).drew)
  have KB := Lib.hid (((((HB2.out.setCell (p := ⟨w.heap.size + 1, 0, none⟩) (by simp) (.int .i64 (a : Int))).setCell (p := ⟨w.heap.size + 1, 1, none⟩) (by simp) (.int .i64 ((a : Int) + (h : Int)))).setCell (p := ⟨w.heap.size + 1 + 1, 0, none⟩) (by simp; omega) (.int .i64 ((a : Int) + (h : Int)))).setCell (p := ⟨w.heap.size + 1 + 1, 1, none⟩) (by simp; omega) (.int .i64 (b : Int))).drew)
  clear r10 r11 r20 r21 f10 f11 f20 f21 b0 b1 H1 H2 HB2
  go_wp2
  exact bodyPost_ret (results_row_row rfl _ _ (w.heap.size + 1) (w.heap.size + 1 + 1) 108 108 #[.int .i64 (a : Int), .int .i64 ((a : Int) + (h : Int))] #[.int .i64 ((a : Int) + (h : Int)), .int .i64 (b : Int)] (0, 0) (0, 0) _ rfl rfl K1.out K2.out rfl Tryd.underlying108 spanInfo spanInfo) rfl ⟨by rw [hcast], KB.out⟩
end Go.Proofs.YtillghidmfglpaaDoor
end
section
namespace Go.Proofs.YtillghidmfglpaaDoor
open Go.RowKit Go.Hoar
/-- The spans beside the way from the root down to a place, from the root on. -/
def spansF : Nat → Nat → Nat → Nat → List (Nat × Nat)
  | 0, _, _, _ => []
  | f + 1, a, b, i => if b ≤ a + 1 then [] else if i < a + halfOf (b - a) then (a + halfOf (b - a), b) :: spansF f a (a + halfOf (b - a)) i else (a, a + halfOf (b - a)) :: spansF f (a + halfOf (b - a)) b i
/-- The spans whose digests are the way of a place. -/
def waysOf (n i : Nat) : List (Nat × Nat) := (spansF n 0 n i).reverse
def encSpan (p : Nat × Nat) : List Value := [.int .i64 (p.1 : Int), .int .i64 (p.2 : Int)]
theorem spansF_one (f a i : Nat) : spansF f a (a + 1) i = [] := by
  cases f with
  | zero => rfl
  | succ f => rw [spansF, if_pos (Nat.le_refl _)]
theorem spansF_left {f a b i : Nat} (h : a + 2 ≤ b) (hi : i < a + halfOf (b - a)) : spansF (f + 1) a b i = (a + halfOf (b - a), b) :: spansF f a (a + halfOf (b - a)) i := by
  rw [spansF, if_neg (by omega), if_pos hi]
theorem spansF_right {f a b i : Nat} (h : a + 2 ≤ b) (hi : ¬ i < a + halfOf (b - a)) : spansF (f + 1) a b i = (a, a + halfOf (b - a)) :: spansF f (a + halfOf (b - a)) b i := by
  rw [spansF, if_neg (by omega), if_neg hi]
/-- Each of them lies in the list, and is not empty. -/
theorem spansF_in : ∀ (f a b i : Nat), b ≤ 140737488355328 → ∀ p ∈ spansF f a b i, a ≤ p.1 ∧ p.1 < p.2 ∧ p.2 ≤ b
  | 0, _, _, _, _, p, hp => by cases hp
  | f + 1, a, b, i, hb, p, hp => by
    by_cases h : a + 2 ≤ b
    · obtain ⟨_, b2, _⟩ := halfOf_bounds (n := b - a) (by omega) (by omega)
      have b0 : 0 < halfOf (b - a) := Nat.two_pow_pos _
      by_cases hi : i < a + halfOf (b - a)
      · rw [spansF_left h hi] at hp
        rcases List.mem_cons.1 hp with rfl | hp
        · exact ⟨by dsimp only; omega, by dsimp only; omega, by dsimp only; omega⟩
        · have := spansF_in f _ _ i (by omega) p hp
          omega
      · rw [spansF_right h hi] at hp
        rcases List.mem_cons.1 hp with rfl | hp
        · exact ⟨by dsimp only; omega, by dsimp only; omega, by dsimp only; omega⟩
        · have := spansF_in f _ _ i (by omega) p hp
          omega
    · rw [spansF, if_pos (by omega)] at hp
      cases hp
theorem spansF_length : ∀ (f a b i : Nat), b ≤ 140737488355328 → a < b → (spansF f a b i).length + 1 ≤ b - a
  | 0, _, _, _, _, _ => by simp [spansF]; omega
  | f + 1, a, b, i, hb, hab => by
    by_cases h : a + 2 ≤ b
    · obtain ⟨_, b2, _⟩ := halfOf_bounds (n := b - a) (by omega) (by omega)
      have b0 : 0 < halfOf (b - a) := Nat.two_pow_pos _
      by_cases hi : i < a + halfOf (b - a)
      · rw [spansF_left h hi, List.length_cons]
        have := spansF_length f a (a + halfOf (b - a)) i (by omega) (by omega)
        omega
      · rw [spansF_right h hi, List.length_cons]
        have := spansF_length f (a + halfOf (b - a)) b i (by omega) (by omega)
        omega
    · rw [spansF, if_pos (by omega)]
      simp
      omega
theorem encSpans_length (l : List (Nat × Nat)) : (l.flatMap encSpan).length = l.length * 2 := by
  induction l with
  | nil => rfl
  | cons p l ih => rw [List.flatMap_cons, List.length_append, ih, List.length_cons]; simp [encSpan]; omega
end Go.Proofs.YtillghidmfglpaaDoor
end
section
namespace Go.Hoar
open Go Go.RowKit Go.Sort
section
variable {α : Type} [Inhabited α] {enc : α → List Value} {k : Nat}
theorem flat_get (hk : ∀ x, (enc x).length = k) (k0 : 0 < k) : ∀ (L : List α) (i : Nat), i < L.length * k → (L.flatMap enc)[i]? = some ((enc L[i / k]!)[i % k]!)
  | [], i, h => by simp at h
  | x :: L, i, h => by
    rw [List.flatMap_cons]
    by_cases hi : i < k
    · have hi' : i < (enc x).length := by rw [hk]; exact hi
      rw [List.getElem?_append_left hi', Nat.div_eq_of_lt hi, Nat.mod_eq_of_lt hi, List.getElem?_eq_getElem hi']
      simp [hi']
    · have hik : k ≤ i := by omega
      have hl : i - k < L.length * k := by rw [List.length_cons, Nat.add_mul, Nat.one_mul] at h; omega
      have e1 : i / k = (i - k) / k + 1 := Nat.div_eq_sub_div k0 hik
      have e2 : i % k = (i - k) % k := Nat.mod_eq_sub_mod hik
      rw [List.getElem?_append_right (by rw [hk]; exact hik), hk, flat_get hk k0 L (i - k) hl, e1, e2]
      simp
omit [Inhabited α] in
theorem flat_len (hk : ∀ x, (enc x).length = k) : ∀ (L : List α), (L.flatMap enc).length = L.length * k
  | [] => by simp
  | x :: L => by rw [List.flatMap_cons, List.length_append, hk, flat_len hk L, List.length_cons, Nat.add_mul, Nat.one_mul, Nat.add_comm]
theorem flatK_at (hk : ∀ x, (enc x).length = k) (k0 : 0 < k) (d : Array α) (i : Nat) (hi : i < d.size * k) : (d.toList.flatMap enc)[i]? = some (flatK enc k d)[i]! := by
  have hl : i < d.toList.length * k := by simpa using hi
  rw [flat_get hk k0 d.toList i hl, get_flatK enc k d i hi]
  have hd : i / k < d.size := (Nat.div_lt_iff_lt_mul k0).2 hi
  have e : d.toList[i / k]! = d[i / k]! := by
    rw [getElem!_pos d.toList (i / k) (by simpa using hd), getElem!_pos d (i / k) hd, Array.getElem_toList]
  rw [e]
theorem own_holdsK (hk : ∀ x, (enc x).length = k) (k0 : 0 < k) {w : World} {base : Nat} {e : TypeId} {g n cap : Nat} {d : Array α} (h : w.ownsRow base e k (.slice (some ⟨g, 0, none⟩) n cap) n (d.toList.flatMap enc)) : HoldsK enc k w g 0 d := by
  have hn : d.size * k = n * k := by rw [← h.1, flat_len hk]; simp
  obtain ⟨h1, ⟨h0, _⟩ | ⟨g', cap', cur, hv, hb, hh, hc, hm, hs, ht⟩⟩ := h
  · cases h0
  · cases hv
    intro j hj
    rw [size_flatK] at hj
    have hj2 : j < n * k := by omega
    refine ⟨?_, by simp [World.frozen?, hh]⟩
    have hx := flatK_at hk k0 d j hj
    rw [← ht, List.getElem?_take, if_pos hj2] at hx
    rw [Nat.zero_add, cell_of_row w g j cur e (0, 0) hh]
    simpa using hx
theorem own_putK (hk : ∀ x, (enc x).length = k) (k0 : 0 < k) {w : World} {base : Nat} {e : TypeId} {g n cap : Nat} {d d' : Array α} (h : w.ownsRow base e k (.slice (some ⟨g, 0, none⟩) n cap) n (d.toList.flatMap enc)) (hd : d'.size = d.size) (m : Nat) :
    (putRowK enc k (Sort.ahead w m) g 0 d').ownsRow base e k (.slice (some ⟨g, 0, none⟩) n cap) n (d'.toList.flatMap enc) ∧ Go.RowKit.Below base w (putRowK enc k (Sort.ahead w m) g 0 d') := by
  have hn : d.size * k = n * k := by rw [← h.1, flat_len hk]; simp
  obtain ⟨h1, ⟨h0, _⟩ | ⟨g', cap', cur, hv, hb, hh, hc, hm, hs, ht⟩⟩ := h
  · cases h0
  · cases hv
    have hlen : (d'.toList.flatMap enc).length = n * k := by rw [flat_len hk, ← hn, ← hd]; simp
    have hle : n * k ≤ cap * k := Nat.mul_le_mul_right k hc
    refine ⟨⟨hlen, .inr ⟨g, cap, putCells id 0 (flatK enc k d') cur, rfl, hb, ?_, hc, hm, by simpa [putCells] using hs, ?_⟩⟩, ⟨rfl, rfl, rfl, by simp [putRowK, Sort.ahead], fun j hj => ?_⟩⟩
    · simp [putRowK, putRow, mapBlock, Sort.ahead, Array.getElem?_modify, hh, onCells]
    · apply List.ext_getElem?
      intro i
      rw [List.getElem?_take]
      split
      · next hi =>
        have hi' : i < d'.size * k := by rw [hd, hn]; exact hi
        rw [flatK_at hk k0 d' i hi', Array.getElem?_toList, putCells, Array.getElem?_mapIdx, Array.getElem?_eq_getElem (by omega)]
        simp only [Option.map_some]
        rw [if_pos ⟨Nat.zero_le _, by rw [size_flatK]; omega⟩]
        rfl
      · next hi => rw [List.getElem?_eq_none (by omega)]
    · simp [putRowK, putRow, mapBlock, Sort.ahead, Array.getElem?_modify, show ¬ g = j by omega]
end
theorem own_below {w w' : World} {base : Nat} {e : TypeId} {size : Nat} {v : Value} {n : Nat} {xs : List Value} (h : w.ownsRow base e size v n xs) (hb : Go.RowKit.Below w.heap.size w w') : w'.ownsRow base e size v n xs :=
  h.kept (row := none) ⟨hb.os, hb.tape, hb.output, hb.size, fun k hk _ => hb.block k hk⟩ (by cases hv : v.ownBlock <;> simp)
theorem own_setCell {w : World} {base : Nat} {e : TypeId} {size : Nat} {v : Value} {n : Nat} {xs : List Value} (h : w.ownsRow base e size v n xs) {p : Addr} (hp : p.block < base) (u : Value) : (w.setCell p u).ownsRow base e size v n xs :=
  h.kept (row := some p.block) ⟨rfl, rfl, rfl, by simp [World.setCell], fun k _ hb => Below.heap_setCell _ _ _ _ (fun e => hb (by rw [e]))⟩ (.inr (fun e => by have := (h.lt _ e).1; omega))
theorem Has.grown {w w' : World} {g : Nat} {t : TypeId} {cs : Array Value} {row : Option Nat} (h : Has w g t cs) (hg : w.grownBy w' row) (hne : some g ≠ row) : Has w' g t cs := (hg.block g h.lt hne).trans h
theorem cell_two_new (w : World) (a b : Value) (t : TypeId) : ∀ j u, [a, b][j]? = some u → (w.alloc (.cells #[a, b] t)).cell? ((⟨w.heap.size, 0, none⟩ : Addr).add j) = some u := by
  intro j u hj
  match j, hj with
  | 0, hj => simp at hj; subst hj; simp [Addr.add]
  | 1, hj => simp at hj; subst hj; simp [Addr.add]
  | j + 2, hj => simp at hj
theorem ints_one2 (a b : Int) : ∀ u ∈ [Value.int IntKind.i64 a, Value.int IntKind.i64 b], u.oneCell' = true := by
  intro u hu
  simp only [List.mem_cons, List.not_mem_nil, or_false] at hu
  rcases hu with rfl | rfl <;> rfl
end Go.Hoar
end
section
namespace Go.Proofs.YtillghidmfglpaaDoor
open Go.RowKit Go.Hoar
theorem spanInfo3 : (Tryd.prog.info? 108).map (fun i => (i.zero, i.size, i.bytes)) = some (some (.agg #[.int .i64 0, .int .i64 0]), 2, 16) := by kernel_rfl
theorem encSpan_len (p : Nat × Nat) : (encSpan p).length = 2 := rfl
theorem encSpan_one (p : Nat × Nat) : ∀ v ∈ encSpan p, v.oneCell' = true := ints_one2 _ _
theorem reverse_any (L : List (Nat × Nat)) (hL : L.length ≤ 1073741824) (base : Nat) (v : Value) (w : World) (ho : w.ownsRow base 108 2 v L.length (L.flatMap encSpan)) :
    Calls Tryd.prog 96 #[v] w fun e w' => e = .returned (.tuple #[]) ∧ w'.ownsRow base 108 2 v L.length (L.reverse.flatMap encSpan) ∧ Below base w w' := by
  rcases ho.2 with ⟨hv, hn⟩ | ⟨g, cap, cur, hv, hb, hh, hc, hm, hs, ht⟩
  · have hL0 : L = [] := List.length_eq_zero_iff.1 hn
    subst hL0 hv
    refine (AnyQ.slices_Reverse_empty Tryd.reverseSpan none 0 w).mono ?_
    rintro e w' ⟨rfl, rfl⟩
    exact ⟨rfl, ho, Below.refl _ _⟩
  · subst hv
    have hd : L.toArray.size = L.length := by simp
    have ho2 : w.ownsRow base 108 2 (.slice (some ⟨g, 0, none⟩) L.length cap) L.length (L.toArray.toList.flatMap encSpan) := by simpa using ho
    have h := AnyQ.slices_Reverse Tryd.reverseSpan 2 Tryd.isAgg108 Tryd.sizeOf108 encSpan encSpan_len encSpan_one g 0 cap L.toArray w (own_holdsK encSpan_len (by decide) ho2) (by rw [hd]; omega)
    rw [hd] at h
    refine h.mono ?_
    rintro e w' ⟨rfl, m, rfl⟩
    have hp := own_putK encSpan_len (by decide) ho2 (d' := L.toArray.reverse) (by simp) m
    refine ⟨rfl, ?_, hp.2⟩
    simpa using hp.1
set_option maxRecDepth 100000 in
set_option maxHeartbeats 1000000 in
theorem beside_any (n i : Nat) (hi : i < n) (hn : n ≤ 1073741824) (w : World) :
    Calls Tryd.prog 70 #[.int .i64 (n : Int), .int .i64 (i : Int)] w fun e w' => ∃ v, e = .returned v ∧ w'.ownsRow (w.heap.size + 2) 108 2 v (waysOf n i).length ((waysOf n i).flatMap encSpan) ∧ Below w.heap.size w w' := by
  obtain ⟨i0, hi0, hz0, hz1, hz2⟩ := info_parts spanInfo3
  have hguard := span_guard
  go_enter Tryd.func70, Tryd.ntmps70
  go_wp2
  go_loopg [5] n (fun kk v wr => ∃ (vv : Value) (a b f : Nat) (L : List (Nat × Nat)), vv = v ∧ a ≤ i ∧ i < b ∧ b ≤ n ∧ b - a ≤ kk ∧ b - a ≤ f ∧ L.length + (b - a) ≤ n ∧ Hid (L ++ spansF f a b i = spansF n 0 n i) ∧
    Has wr w.heap.size 108 #[.int .i64 (a : Int), .int .i64 (b : Int)] ∧ Has wr (w.heap.size + 1) 108 #[.int .i64 (i : Int), .int .i64 ((i : Int) + 1)] ∧ wr.ownsRow (w.heap.size + 2) 108 2 v L.length (L.flatMap encSpan) ∧ Below w.heap.size w wr)
  case atStart =>
    exact ⟨_, 0, n, n, [], rfl, Nat.zero_le _, hi, Nat.le_refl _, Nat.le_refl _, Nat.le_refl _, by simp, Lib.hid rfl, (Has.fresh_at _ _ _ _ rfl).alloc _, Has.fresh_at _ _ _ _ (by simp), World.ownsRow_nil _ _ _ _, ((Below.refl _ w).alloc (Nat.le_refl _) _).alloc (by simp) _⟩
  case round =>
    obtain ⟨vv, a, b, f, L, hvv, hai, hib, hbn, hkk, hf, hLn, HL, hA, hP, hown, hB⟩ := hrel
    subst hvv
    have c0 : wr.cell? ⟨w.heap.size, 0, none⟩ = some (.int .i64 (a : Int)) := hA.cell 0
    have c1 : wr.cell? ⟨w.heap.size, 1, none⟩ = some (.int .i64 (b : Int)) := hA.cell 1
    have p0 : wr.cell? ⟨w.heap.size + 1, 0, none⟩ = some (.int .i64 (i : Int)) := hP.cell 0
    have p1 : wr.cell? ⟨w.heap.size + 1, 1, none⟩ = some (.int .i64 ((i : Int) + 1)) := hP.cell 1
    have hszA := hA.lt
    have hszP := hP.lt
    have HA := Lib.hid hA
    have HP := Lib.hid hP
    have HO := Lib.hid hown
    have HB := Lib.hid hB
    have hne := span_neq (a : Int) (b : Int) (i : Int) ((i : Int) + 1)
    clear hA hP hown hB
    by_cases hone : b = a + 1
    · have hia : a = i := by omega
      rw [show (!decide ((a : Int) = i ∧ (b : Int) = (i : Int) + 1)) = false by simp; omega] at hne
      have HE : Hid (L = spansF n 0 n i) := Lib.hid (by rw [← HL.out, hone, spansF_one, List.append_nil])
      have hLl : L.length ≤ 1073741824 := by omega
      have hrev := reverse_any L hLl (w.heap.size + 2)
      have HR := Lib.hid hrev
      clear hrev hia
      go_wp2_with (first
        | (go_at_call 96; refine (HR.out _ _ HO.out).mono ?_; rintro e w3 ⟨rfl, ho3, hb3⟩; have HO3 := Lib.hid ho3; have HB3 := Lib.hid hb3; clear ho3 hb3))
      go_ret
      refine ⟨_, rfl, ?_, HB.out.trans (HB3.out.mono (by omega))⟩
      rw [waysOf, ← HE.out, List.length_reverse]
      exact HO3.out
    · have h2 : a + 2 ≤ b := by omega
      obtain ⟨_, b2, _⟩ := halfOf_bounds (n := b - a) (by omega) (by omega)
      have b0 : 0 < halfOf (b - a) := Nat.two_pow_pos _
      obtain ⟨mid, hm⟩ : ∃ mid, mid = a + halfOf (b - a) := ⟨_, rfl⟩
      have hm1 : a < mid := by omega
      have hm2 : mid < b := by omega
      obtain ⟨f, rfl⟩ : ∃ f', f = f' + 1 := ⟨f - 1, by omega⟩
      rw [show (!decide ((a : Int) = i ∧ (b : Int) = (i : Int) + 1)) = true by rw [decide_eq_false (by omega)]; rfl] at hne
      have hcut := fun V => spancut_any a b h2 (by omega) V mid (Lib.hid hm)
      unfold spanV at hcut
      have HC := Lib.hid hcut
      have HLt := Lib.hid HO.out.lt
      have hsw : w.heap.size + 2 ≤ wr.heap.size := by omega
      have HM := Lib.hid hm
      clear hcut b2 b0 hone hm
      go_upto_region 5 with (first
        | (go_at_call 95; refine (HC.out _).mono ?_; rintro e w1 ⟨rfl, hb1⟩; have hsz1 := hb1.size; have HA1 := Lib.hid (HA.out.below hb1 hszA); have HP1 := Lib.hid (HP.out.below hb1 hszP); have HO1 := Lib.hid (own_below HO.out hb1); have HB1 := Lib.hid (HB.out.trans (hb1.mono HB.out.size)); clear hb1))
      refine gen_world (P := fun W => Code.wp _ _ _ _ W) (I := fun W => Has W w.heap.size 108 #[.int .i64 (a : Int), .int .i64 (b : Int)] ∧ Has W (w.heap.size + 1) 108 #[.int .i64 (i : Int), .int .i64 ((i : Int) + 1)] ∧ Has W w1.heap.size 108 #[.int .i64 (a : Int), .int .i64 (mid : Int)] ∧ Has W (w1.heap.size + 1) 108 #[.int .i64 (mid : Int), .int .i64 (b : Int)] ∧ W.ownsRow (w.heap.size + 2) 108 2 vv L.length (L.flatMap encSpan) ∧ Below w.heap.size w W) _ ⟨(HA1.out.alloc _).alloc _, (HP1.out.alloc _).alloc _, (Has.fresh_at _ _ _ _ rfl).alloc _, Has.fresh_at _ _ _ _ (by simp), (HO1.out.alloc _).alloc _, (HB1.out.alloc (by omega) _).alloc (by simp; omega) _⟩ ?_
      rintro W ⟨hAW, hPW, hQ1, hQ2, hOW, hBW⟩
      have q10 : W.cell? ⟨w1.heap.size, 0, none⟩ = some (.int .i64 (a : Int)) := hQ1.cell 0
      have q11 : W.cell? ⟨w1.heap.size, 1, none⟩ = some (.int .i64 (mid : Int)) := hQ1.cell 1
      have q20 : W.cell? ⟨w1.heap.size + 1, 0, none⟩ = some (.int .i64 (mid : Int)) := hQ2.cell 0
      have q21 : W.cell? ⟨w1.heap.size + 1, 1, none⟩ = some (.int .i64 (b : Int)) := hQ2.cell 1
      have hszW := hQ2.lt
      have HAW := Lib.hid hAW
      have HPW := Lib.hid hPW
      have HQ1 := Lib.hid hQ1
      have HQ2 := Lib.hid hQ2
      have HOW := Lib.hid hOW
      have HBW := Lib.hid hBW
      clear hAW hPW hQ1 hQ2 hOW hBW HA1 HP1 HO1 HB1 HA HP HO HB HC c0 c1 p0 p1
      have hm := HM.out
      by_cases hside : i < mid
      · have hdec : (i : Int) < (mid : Int) := by omega
        have HStep : Hid ((L ++ [(mid, b)]) ++ spansF f a mid i = spansF n 0 n i) := Lib.hid (by
          rw [← HL.out, spansF_left (by omega) (by rw [← hm]; exact hside), ← hm, List.append_assoc]
          rfl)
        clear hm hside
        go_wp2_with (first
          | (at_builtin; refine wpList_append_own _ rfl _ _ 105 rfl (w.heap.size + 2) 108 i0 _ 2 16 Tryd.underlying105 hi0 hz0 hz1 hz2 rfl (by decide) _ _ _ rfl (HOW.out.alloc _) ⟨W.heap.size, 0, none⟩ 1 1 [.int .i64 (mid : Int), .int .i64 (b : Int)] rfl rfl (cell_two_new _ _ _ _) (ints_one2 _ _) (by unfold maxLen; omega) (by omega) (by simp; omega) ?_; intro v' w3 hown3 hgrow3 _
             have hA3 := (HAW.out.alloc (.cells #[.int .i64 (mid : Int), .int .i64 (b : Int)] 108)).grown hgrow3 (fun e => by have := HLt.out _ e.symm; omega)
             have hP3 := (HPW.out.alloc (.cells #[.int .i64 (mid : Int), .int .i64 (b : Int)] 108)).grown hgrow3 (fun e => by have := HLt.out _ e.symm; omega)
             have hQ3 := (HQ1.out.alloc (.cells #[.int .i64 (mid : Int), .int .i64 (b : Int)] 108)).grown hgrow3 (fun e => by have := HLt.out _ e.symm; omega)
             have hB3 : Below w.heap.size w w3 := (HBW.out.alloc (by omega) _).grown hgrow3 (by simp; omega) (fun j hj => by have := HLt.out _ hj; omega)
             have k0 : w3.cell? ⟨w1.heap.size, 0, none⟩ = some (.int .i64 (a : Int)) := hQ3.cell 0
             have k1 : w3.cell? ⟨w1.heap.size, 1, none⟩ = some (.int .i64 (mid : Int)) := hQ3.cell 1
             have m0 : w3.cell? ⟨w.heap.size, 0, none⟩ = some (.int .i64 (a : Int)) := hA3.cell 0
             have m1 : w3.cell? ⟨w.heap.size, 1, none⟩ = some (.int .i64 (b : Int)) := hA3.cell 1
             have f0 : w3.frozen? ⟨w.heap.size, 0, none⟩ = false := hA3.free 0
             have f1 : w3.frozen? ⟨w.heap.size, 1, none⟩ = false := hA3.free 1
             have HA3 := Lib.hid hA3
             have HP3 := Lib.hid hP3
             have HO3 := Lib.hid hown3
             have HB3 := Lib.hid hB3
             clear hA3 hP3 hQ3 hown3 hgrow3 hB3))
        go_roundg (mid - a)
        case measure => omega
        case rel =>
          refine ⟨_, a, mid, f, L ++ [(mid, b)], rfl, by omega, by omega, by omega, Nat.le_refl _, by omega, by simp; omega, HStep, ?_, ?_, ?_, ?_⟩
          · exact ((HA3.out.put 0 (.int .i64 (a : Int))).put 1 (.int .i64 (mid : Int))).of_eq rfl
          · exact (HP3.out.apart (by simp) _).apart (by simp) _
          · rw [List.length_append, List.flatMap_append]
            exact own_setCell (own_setCell HO3.out (by simp) _) (by simp) _
          · exact (HB3.out.setCell (by simp) _).setCell (by simp) _
      · have hdec : ¬ (i : Int) < (mid : Int) := by omega
        have HStep : Hid ((L ++ [(a, mid)]) ++ spansF f mid b i = spansF n 0 n i) := Lib.hid (by
          rw [← HL.out, spansF_right (by omega) (by rw [← hm]; exact hside), ← hm, List.append_assoc]
          rfl)
        clear hm hside
        go_wp2_with (first
          | (at_builtin; refine wpList_append_own _ rfl _ _ 105 rfl (w.heap.size + 2) 108 i0 _ 2 16 Tryd.underlying105 hi0 hz0 hz1 hz2 rfl (by decide) _ _ _ rfl (HOW.out.alloc _) ⟨W.heap.size, 0, none⟩ 1 1 [.int .i64 (a : Int), .int .i64 (mid : Int)] rfl rfl (cell_two_new _ _ _ _) (ints_one2 _ _) (by unfold maxLen; omega) (by omega) (by simp; omega) ?_; intro v' w3 hown3 hgrow3 _
             have hA3 := (HAW.out.alloc (.cells #[.int .i64 (a : Int), .int .i64 (mid : Int)] 108)).grown hgrow3 (fun e => by have := HLt.out _ e.symm; omega)
             have hP3 := (HPW.out.alloc (.cells #[.int .i64 (a : Int), .int .i64 (mid : Int)] 108)).grown hgrow3 (fun e => by have := HLt.out _ e.symm; omega)
             have hQ3 := (HQ2.out.alloc (.cells #[.int .i64 (a : Int), .int .i64 (mid : Int)] 108)).grown hgrow3 (fun e => by have := HLt.out _ e.symm; omega)
             have hB3 : Below w.heap.size w w3 := (HBW.out.alloc (by omega) _).grown hgrow3 (by simp; omega) (fun j hj => by have := HLt.out _ hj; omega)
             have k0 : w3.cell? ⟨w1.heap.size + 1, 0, none⟩ = some (.int .i64 (mid : Int)) := hQ3.cell 0
             have k1 : w3.cell? ⟨w1.heap.size + 1, 1, none⟩ = some (.int .i64 (b : Int)) := hQ3.cell 1
             have m0 : w3.cell? ⟨w.heap.size, 0, none⟩ = some (.int .i64 (a : Int)) := hA3.cell 0
             have m1 : w3.cell? ⟨w.heap.size, 1, none⟩ = some (.int .i64 (b : Int)) := hA3.cell 1
             have f0 : w3.frozen? ⟨w.heap.size, 0, none⟩ = false := hA3.free 0
             have f1 : w3.frozen? ⟨w.heap.size, 1, none⟩ = false := hA3.free 1
             have HA3 := Lib.hid hA3
             have HP3 := Lib.hid hP3
             have HO3 := Lib.hid hown3
             have HB3 := Lib.hid hB3
             clear hA3 hP3 hQ3 hown3 hgrow3 hB3))
        go_roundg (b - mid)
        case measure => omega
        case rel =>
          refine ⟨_, mid, b, f, L ++ [(a, mid)], rfl, by omega, by omega, by omega, Nat.le_refl _, by omega, by simp; omega, HStep, ?_, ?_, ?_, ?_⟩
          · exact ((HA3.out.put 0 (.int .i64 (mid : Int))).put 1 (.int .i64 (b : Int))).of_eq rfl
          · exact (HP3.out.apart (by simp) _).apart (by simp) _
          · rw [List.length_append, List.flatMap_append]
            exact own_setCell (own_setCell HO3.out (by simp) _) (by simp) _
          · exact (HB3.out.setCell (by simp) _).setCell (by simp) _
end Go.Proofs.YtillghidmfglpaaDoor
end
section
namespace Go.Hoar
open Go Go.RowKit
theorem fold_set (off : Nat) (pre : List Value) (hoff : off = pre.length) : ∀ (l mid old : List Value), l.length ≤ old.length →
    (l.zipIdx mid.length).foldl (fun (cs : Array Value) (x : Value × Nat) => cs.setIfInBounds (off + x.2) x.1) (pre ++ (mid ++ old)).toArray = (pre ++ (mid ++ l ++ old.drop l.length)).toArray
  | [], mid, old, _ => by simp
  | v :: l, mid, [], h => by simp at h
  | v :: l, mid, o :: old, h => by
    have e : (pre ++ (mid ++ o :: old)).toArray.setIfInBounds (off + mid.length) v = (pre ++ ((mid ++ [v]) ++ old)).toArray := by
      rw [List.setIfInBounds_toArray, hoff, List.set_append_right _ _ (by omega), Nat.add_sub_cancel_left, List.set_append_right _ _ (Nat.le_refl _), Nat.sub_self, List.set_cons_zero, List.append_assoc]
      rfl
    have ih := fold_set off pre hoff l (mid ++ [v]) old (by simpa using h)
    rw [List.zipIdx_cons, List.foldl_cons, e]
    have hl : (mid ++ [v]).length = mid.length + 1 := by simp
    rw [hl] at ih
    rw [ih]
    simp
theorem fill_cons {place : Nat → Option (Nat × Nat)} {cells : Array Value} {i off size : Nat} {cs : Array Value} {rest : List (Nat × Value)} (hp : place i = some (off, size)) (h1 : cs.size = size) (h2 : off + cs.size ≤ cells.size) :
    Instr.fill place cells ((i, .agg cs) :: rest) = Instr.fill place (cs.zipIdx.foldl (fun a x => a.setIfInBounds (off + x.2) x.1) cells) rest := by
  have hc : (Value.agg cs).cells = cs := rfl
  have h3 : ¬ off + cs.size > cells.size := by omega
  rw [Instr.fill, hp]
  simp [hc, h1]
  omega
theorem fill_rows (k : Nat) : ∀ (css : List (Array Value)) (i0 : Nat) (pre old : List Value), (∀ c ∈ css, c.size = k) → old.length = css.length * k → pre.length = i0 * k →
    Instr.fill (fun i => some (i * k, k)) (pre ++ old).toArray ((css.zipIdx i0).map fun x => (x.2, Value.agg x.1)) = some (pre ++ css.flatMap Array.toList).toArray
  | [], i0, pre, old, _, ho, _ => by
    have : old = [] := List.length_eq_zero_iff.1 (by simpa using ho)
    subst this
    simp [Instr.fill]
  | c :: css, i0, pre, old, hc, ho, hp => by
    have hck : c.size = k := hc c (by simp)
    have hol : old.length = css.length * k + k := by rw [ho, List.length_cons, Nat.add_mul, Nat.one_mul]
    have hf := fold_set (i0 * k) pre hp.symm c.toList [] old (by rw [Array.length_toList]; omega)
    have hpl : (pre ++ c.toList).length = (i0 + 1) * k := by
      have hl : (pre ++ c.toList).length = pre.length + c.size := by simp
      rw [hl, hp, hck, Nat.add_mul, Nat.one_mul]
    have ih := fill_rows k css (i0 + 1) (pre ++ c.toList) (old.drop k) (fun x hx => hc x (List.mem_cons_of_mem _ hx)) (by rw [List.length_drop]; omega) hpl
    have hfa : c.zipIdx.foldl (fun (cs : Array Value) (x : Value × Nat) => cs.setIfInBounds (i0 * k + x.2) x.1) (pre ++ old).toArray = (pre ++ c.toList ++ old.drop k).toArray := by
      rw [← Array.foldl_toList, Array.toList_zipIdx]
      simp only [List.nil_append, List.length_nil, Array.length_toList, hck] at hf
      rw [hf, List.append_assoc]
    rw [List.zipIdx_cons, List.map_cons, fill_cons (off := i0 * k) (size := k) rfl hck (by simp; omega), hfa, ih, List.flatMap_cons, List.append_assoc]
section
variable {P : Program}
/-- A slice literal of one array or struct, in the form of an arm. -/
theorem arm_slice1 {ops : Array Oper} {rest : List Oper} {a : Act} {w : World} {Q : Exit → Act → World → Prop} {dst : Option Tmp} {t T : TypeId} {x : Operand} {pos : String} {af : Array Edge}
    (e : TypeId) (ie : TypeInfo) (z : Value) (cs : Array Value) (hu : P.underlying t = some (.slice e)) (hie : P.info? e = some ie) (hz : ie.zero = some z) (hsz : cs.size = ie.size) (hsmall : cs.size ≤ 1000) (hpos : 0 < cs.size)
    (hx : a.eval x = .agg cs) (h : wpList P ops Q rest (a.put dst (.slice (some ⟨w.heap.size, 0, none⟩) 1 1)) (w.alloc (.cells cs e))) :
    wpList P ops Q (⟨dst, .buildSlice t 1 #[(0, x)], T, pos, af, none⟩ :: rest) a w := by
  refine wpList_buildSlice rfl t e 1 _ rfl cs ie z hu hie hz (by rw [← hsz]; omega) (by rw [← hsz]; omega) ?_ h
  have ht : ∀ A : Array Value, A.toList.toArray = A := fun A => by simp
  have hf := fill_rows cs.size [cs] 0 [] ((Array.range (1 * ie.size)).map (z.cells[· % z.cells.size]!)).toList (fun c hc => by rw [List.mem_singleton.1 hc]) (by simp [hsz]) (by simp)
  rw [hsz] at hf
  have e2 : ((#[(0, x)] : Array (Nat × Operand)).map fun (i, x) => (i, a.eval x)).toList = (([cs].zipIdx 0).map fun x => (x.2, Value.agg x.1)) := by simp [hx]
  rw [e2]
  rw [List.nil_append, ht] at hf
  rw [hf]
  simp
/-- append to a row that the call owns, as one step of a region that draws its order. -/
theorem step_append_own {ops : Array Oper} {o : Oper} {a : Act} {w : World} {K : Act → World → Prop} {Q : Exit → Act → World → Prop} {E : Prop} (hg : o.guard = none) (s x : Operand) (t : TypeId)
    (ho : o.op = .call { callee := .builtin .append, args := #[s, x], argTypes := #[t, t] })
    (base : Nat) (e : TypeId) (i : TypeInfo) (z : Value) (size bytes : Nat) (ht : P.underlying t = some (.slice e)) (hi : P.info? e = some i) (hz : i.zero = some z)
    (hsize : i.size = size) (hby : i.bytes = bytes) (hzs : z.cells.size = size) (hsz : 0 < size)
    (v : Value) (n : Nat) (xs : List Value) (hs : a.eval s = v) (hown : w.ownsRow base e size v n xs)
    (ad : Addr) (m c : Nat) (news : List Value) (hx : a.eval x = .slice (some ad) m c) (hl : news.length = m * size) (hnews : ∀ j u, news[j]? = some u → w.cell? (ad.add j) = some u) (h1 : ∀ u ∈ news, u.oneCell' = true)
    (h63 : n + m ≤ maxLen) (hbytes : (n + m) * bytes ≤ 140737488355328) (hbase : base ≤ w.heap.size)
    (h : ∀ v' w', w'.ownsRow base e size v' (n + m) (xs ++ news) → w.grownBy w' v.ownBlock → (v' = .slice none 0 0 ↔ v = .slice none 0 0 ∧ m = 0) → K (a.put o.dst v') w') :
    if Region.wanted o (yielded ops a.tmps) = true then Oper.wp P o a w K Q else E := by
  have hw : Region.wanted o (yielded ops a.tmps) = true := by simp [Region.wanted, hg]
  rw [if_pos hw]
  exact wp_append_own w s x t ho base e i z size bytes ht hi hz hsize hby hzs hsz v n xs hs hown ad m c news hx hl hnews h1 h63 hbytes hbase h
theorem fold_list (z : Array Value) (cs : List Value) (h : z.size = cs.length) : cs.zipIdx.foldl (fun (a : Array Value) (x : Value × Nat) => a.setIfInBounds x.2 x.1) z = cs.toArray := by
  have hf := fold_set 0 [] rfl cs [] z.toList (by simp [h])
  simp only [List.nil_append, List.length_nil, Nat.zero_add, Array.toArray_toList, ← h] at hf
  have e2 : z.toList.drop z.size = [] := by simp
  rw [e2, List.append_nil] at hf
  exact hf
/-- All cells of an array written over those of another one. -/
theorem fold_whole (z cs : Array Value) (h : z.size = cs.size) : Array.foldl (fun (a : Array Value) (x : Value × Nat) => a.setIfInBounds x.2 x.1) z cs.zipIdx 0 cs.size = cs := by
  have hf := fold_set 0 [] rfl cs.toList [] z.toList (by simp [h])
  have e1 : cs.zipIdx.size = cs.size := by simp
  rw [← e1, ← Array.foldl_toList, Array.toList_zipIdx]
  simp only [List.nil_append, List.length_nil, Nat.zero_add, Array.length_toList, Array.toArray_toList, ← h, List.drop_length] at hf
  have e2 : z.toList.drop z.size = [] := by simp
  rw [e2, List.append_nil, Array.toArray_toList] at hf
  exact hf
end
end Go.Hoar
end
section
namespace Go.Proofs.YtillghidmfglpaaDoor
open Go.RowKit Go.Hoar
theorem sumInfo3 : (Tryd.prog.info? 26).map (fun i => (i.zero, i.size, i.bytes)) = some (some (.agg zero32), 32, 32) := by kernel_rfl
/-- The digest of the places of a span. -/
def spanSum (ls : List (List Nat)) (p : Nat × Nat) : List Nat := listOf (p.2 - p.1 + 1) ((ls.drop p.1).take (p.2 - p.1))
def cellsOf (l : List Nat) : List Value := (arr32 l).toList
theorem cellsOf_len {l : List Nat} (h : l.length ≤ 32) : (cellsOf l).length = 32 := by
  rw [cellsOf, Array.length_toList, arr32_size l h]
theorem cellsOf_one (l : List Nat) : ∀ u ∈ cellsOf l, u.oneCell' = true := by
  have h := arr32_one l
  rw [← Array.all_toList] at h
  exact List.all_eq_true.1 h
theorem cell_row_new (w : World) (cs : Array Value) (t : TypeId) : ∀ j u, cs.toList[j]? = some u → (w.alloc (.cells cs t)).cell? ((⟨w.heap.size, 0, none⟩ : Addr).add j) = some u := fun j u hj =>
  (Has.fresh w t cs).row j u (by rwa [Array.getElem?_toList] at hj)
set_option maxRecDepth 100000 in
set_option maxHeartbeats 1000000 in
theorem proof_not (i : Int) (a : Option Addr) (n c : Nat) (h : i < 0 ∨ (n : Int) ≤ i) (hn : n ≤ 1073741824) (w : World) :
    Calls Tryd.prog 34 #[.slice a n c, .int .i64 i] w fun e w' => e = .returned (.tuple #[.slice none 0 0, .int .i64 1]) ∧ w' = w := by
  by_cases h0 : i < 0
  · go_enter Tryd.func34, Tryd.ntmps34
    go_wp2
    go_ret2
    exact ⟨rfl, rfl⟩
  · have h1 : (n : Int) ≤ i := by omega
    go_enter Tryd.func34, Tryd.ntmps34
    go_wp2
    go_ret2
    exact ⟨rfl, rfl⟩
theorem own_shape {w : World} {base n size : Nat} {e : TypeId} {v : Value} {xs : List Value} (h : w.ownsRow base e size v n xs) : ∃ a c, v = .slice a n c ∧ n ≤ c ∧ c ≤ maxLen := by
  rcases h.2 with ⟨rfl, rfl⟩ | ⟨g, cap, cur, rfl, _, _, hc, hm, _⟩
  · exact ⟨_, _, rfl, Nat.le_refl _, Nat.zero_le _⟩
  · exact ⟨_, _, rfl, hc, hm⟩
theorem own_addr {w : World} {base : Nat} {e : TypeId} {size n c : Nat} {a : Option Addr} {xs : List Value} (h : w.ownsRow base e size (.slice a n c) n xs) (hn : 0 < n) : ∃ g, a = some ⟨g, 0, none⟩ ∧ base ≤ g ∧ g < w.heap.size := by
  have hl := h.lt
  rcases h.2 with ⟨_, h0⟩ | ⟨g, cap, cur, hv, hb, hh, _⟩
  · omega
  · cases hv
    exact ⟨g, rfl, hb, (hl g rfl).2⟩
set_option maxRecDepth 100000 in
set_option maxHeartbeats 2000000 in
theorem proof_any (ls : List (List Nat)) (i : Nat) (hi : i < ls.length) (hn : ls.length ≤ 1073741824) (g off c : Nat) (w : World) (hs : SumsAt w g off ls) (hg : g < w.heap.size) (hnc : ls.length ≤ c) (hcm : c ≤ maxLen) (hc : ConstAt w) (ps : List (Nat × Nat)) (hps : Hid (ps = waysOf ls.length i)) :
    Calls Tryd.prog 34 #[.slice (some ⟨g, off, none⟩) ls.length c, .int .i64 (i : Int)] w fun e w' => ∃ v, e = .returned (.tuple #[v, .int .i64 0]) ∧ w'.ownsRow w.heap.size 26 32 v ps.length (ps.flatMap fun p => cellsOf (spanSum ls p)) ∧ Below w.heap.size w w' := by
  obtain ⟨i0, hi0, hz0, hz1, hz2⟩ := info_parts sumInfo3
  have hin := spansF_in ls.length 0 ls.length i (by omega)
  have hlen := spansF_length ls.length 0 ls.length i (by omega) (by omega)
  have hpl : ps.length ≤ ls.length := by rw [hps.out, waysOf, List.length_reverse]; omega
  have hpin : ∀ p ∈ ps, p.1 < p.2 ∧ p.2 ≤ ls.length := fun p hp => by
    have := hin p (by rw [hps.out, waysOf, List.mem_reverse] at hp; exact hp)
    exact ⟨this.2.1, this.2.2⟩
  have hbes : ∀ V, Calls Tryd.prog 70 #[.int .i64 (ls.length : Int), .int .i64 (i : Int)] V fun e w' => ∃ v, e = .returned v ∧ w'.ownsRow (V.heap.size + 2) 108 2 v ps.length (ps.flatMap encSpan) ∧ Below V.heap.size V w' := fun V => by
    have := beside_any ls.length i hi hn V
    rwa [← hps.out] at this
  have hlist : ∀ V (p : Nat × Nat), p.1 < p.2 → p.2 ≤ ls.length → Below w.heap.size w V → ∀ out, Hid (out = spanSum ls p) → Calls Tryd.prog 33 #[.slice (some ⟨g, off + p.1 * 32, none⟩) (p.2 - p.1) (c - p.1)] V fun e w' => e = .returned (.agg (arr32 out)) ∧ out.length = 32 ∧ Below V.heap.size V w' := fun V p h1 h2 hv out hout => by
    have hl : ((ls.drop p.1).take (p.2 - p.1)).length = p.2 - p.1 := by rw [List.length_take, List.length_drop]; omega
    have k := list_any (p.2 - p.1 + 1) ((ls.drop p.1).take (p.2 - p.1)) g (off + p.1 * 32) (c - p.1) V (by omega) (by omega) (by omega) (by omega) (by omega) (((hs.below hg hv).drop p.1).take _) (Nat.lt_of_lt_of_le hg hv.size) (hc.below hv rfl) out hout
    rwa [hl] at k
  have HBe := Lib.hid hbes
  have HLi := Lib.hid hlist
  have HIn := Lib.hid hpin
  have i1 : ¬ (i : Int) < 0 := by omega
  have i2 : ¬ (ls.length : Int) ≤ (i : Int) := by omega
  clear hs hc hbes hlist hpin hin hlen
  go_enter Tryd.func34, Tryd.ntmps34
  go_wp2_with (first
    | (go_at_call 70; refine (HBe.out _).mono ?_; rintro e w1 ⟨v1, rfl, ho1, hb1⟩; obtain ⟨a1, cc1, rfl, hcc1, hcc2⟩ := own_shape ho1; have HO1 := Lib.hid ho1; have HB1 := Lib.hid hb1; clear ho1 hb1))
  go_loopw [6, 22] (fun v ix wr => ∃ (vv : Value) (k : Nat), vv = v ∧ k ≤ ps.length ∧ ix = .int .i64 k ∧ wr.ownsRow w1.heap.size 26 32 vv k ((ps.take k).flatMap fun p => cellsOf (spanSum ls p)) ∧ Below w1.heap.size w1 wr) (fun _ ix _ => ps.length - (intOf ix).toNat)
  case atStart => exact ⟨_, 0, rfl, Nat.zero_le _, rfl, World.ownsRow_nil _ _ _ _, Below.refl _ _⟩
  case round =>
    obtain ⟨vv, k, hvv, hk, rfl, hown, hB⟩ := hrel
    subst hvv
    by_cases hlt : k < ps.length
    · obtain ⟨⟨p, q⟩, hp⟩ : ∃ p, ps[k]? = some p := ⟨_, List.getElem?_eq_getElem hlt⟩
      obtain ⟨hpq, hqn⟩ := HIn.out (p, q) (List.mem_of_getElem? hp)
      dsimp only at hpq hqn
      obtain ⟨g1, rfl, hg1b, hg1⟩ := own_addr HO1.out (by omega)
      have hpk : ps[k]! = (p, q) := by rw [List.getElem!_eq_getElem?_getD, hp]; rfl
      have hsp := flat_get (enc := encSpan) (k := 2) encSpan_len (by decide) ps
      have d0 : wr.cell? ⟨g1, k * 2, none⟩ = some (.int .i64 (p : Int)) := by
        have h := HO1.out.cells (g := g1) rfl (k * 2) (.int .i64 (p : Int)) (by
          rw [hsp (k * 2) (by omega), Nat.mul_div_cancel _ (by decide), Nat.mul_mod_left, hpk]
          rfl)
        rw [Addr.add_lit, Nat.zero_add] at h
        exact (hB.cell hg1).trans h
      have d1 : wr.cell? ⟨g1, k * 2 + 1, none⟩ = some (.int .i64 (q : Int)) := by
        have h := HO1.out.cells (g := g1) rfl (k * 2 + 1) (.int .i64 (q : Int)) (by
          rw [hsp (k * 2 + 1) (by omega), show (k * 2 + 1) / 2 = k by omega, show (k * 2 + 1) % 2 = 1 by omega, hpk]
          rfl)
        rw [Addr.add_lit, Nat.zero_add] at h
        exact (hB.cell hg1).trans h
      have c2 : Tryd.prog.cellsOf 108 = 2 := by kernel_rfl
      have hlw := hown.lt
      have HO := Lib.hid hown
      have HB := Lib.hid hB
      have HLw := Lib.hid hlw
      obtain ⟨out, hout⟩ : ∃ out, out = spanSum ls (p, q) := ⟨_, rfl⟩
      have HOut := Lib.hid hout
      have hli : ∀ V, Below w.heap.size w V → Calls Tryd.prog 33 #[.slice (some ⟨g, off + p * 32, none⟩) (q - p) (c - p)] V fun e w' => e = .returned (.agg (arr32 out)) ∧ out.length = 32 ∧ Below V.heap.size V w' := fun V hV => HLi.out V (p, q) hpq hqn hV out HOut
      have HL2 := Lib.hid hli
      have HHp := Lib.hid hp
      have HIo : ∀ (o : List Nat), o.length = 32 → (arr32 o).size = i0.size := fun o ho => by rw [arr32_size o (by omega), hz1]
      have HI2 := Lib.hid HIo
      clear hown hB hsp hlw hout hli hp hpk HIo
      go_wp2_with (first
        | (go_at_call 33; refine (HL2.out _ (HB1.out.trans ((HB.out.alloc HB.out.size _).mono HB1.out.size))).mono ?_; rintro e w2 ⟨rfl, hol, hb2⟩; have hsz2 := hb2.size; have HO2 := Lib.hid (own_below (HO.out.alloc (.cells #[.int .i64 (p : Int), .int .i64 (q : Int)] 108)) hb2); have HB2 := Lib.hid ((HB.out.alloc HB.out.size (.cells #[.int .i64 (p : Int), .int .i64 (q : Int)] 108)).trans (hb2.mono (by simp; have := HB.out.size; omega))); have ho32 := arr32_size out (by omega); have HS2 := Lib.hid (HI2.out out hol); clear hb2)
        | ((with_reducible refine arm_slice1 26 i0 _ (arr32 out) Tryd.underlying49 hi0 hz0 HS2.out ?s1 ?s2 ?s3 ?_); (case s1 => omega); (case s2 => omega); (case s3 => rfl))
        | (at_builtin; refine wpList_append_own _ rfl _ _ 49 rfl w1.heap.size 26 i0 _ 32 32 Tryd.underlying49 hi0 hz0 hz1 hz2 rfl (by decide) _ _ _ rfl (HO2.out.alloc _) ⟨w2.heap.size, 0, none⟩ 1 1 (cellsOf out) rfl (by rw [cellsOf_len (by omega)]) (cell_row_new _ _ _) (cellsOf_one _) (by unfold maxLen; omega) (by omega) (by simp; have := HB2.out.size; omega) ?_; intro v' w3 hown3 hgrow3 _
           have HO3 := Lib.hid hown3
           have HB3 := Lib.hid ((HB2.out.alloc HB2.out.size (.cells (arr32 out) 26)).grown hgrow3 (by simp; have := HB2.out.size; omega) (fun j hj => by have := (HLw.out _ hj).1; omega))
           clear hown3 hgrow3))
      go_roundw
      case rel =>
        refine ⟨_, k + 1, rfl, by omega, by go_num, ?_, HB3.out⟩
        have e : (ps.take (k + 1)).flatMap (fun p => cellsOf (spanSum ls p)) = (ps.take k).flatMap (fun p => cellsOf (spanSum ls p)) ++ cellsOf out := by
          rw [List.take_add_one, HHp.out, List.flatMap_append, HOut.out]
          simp
        rw [e]
        exact HO3.out
      case measure => simp [intOf]; omega
    · obtain rfl : k = ps.length := by omega
      have HO := Lib.hid hown
      have HB := Lib.hid hB
      clear hown hB
      go_wp2
      go_ret2
      refine ⟨_, rfl, ?_, HB1.out.trans (HB.out.mono HB1.out.size)⟩
      have h := HO.out
      rw [List.take_length] at h
      exact own_base h HB1.out.size
end Go.Proofs.YtillghidmfglpaaDoor
end
section
namespace Go.Hoar
/-- How many ones a number has in base 2. -/
def onesF : Nat → Nat → Nat
  | 0, _ => 0
  | f + 1, x => x % 2 + onesF f (x / 2)
def ones (x : Nat) : Nat := onesF 32 x
theorem onesF_zero : ∀ f, onesF f 0 = 0
  | 0 => rfl
  | f + 1 => by rw [onesF, Nat.zero_div, onesF_zero f]
theorem onesF_fuel : ∀ (f x g : Nat), x < 2 ^ f → f ≤ g → onesF g x = onesF f x
  | 0, x, g, hx, _ => by
    have : x = 0 := by simpa using hx
    subst this
    rw [onesF_zero, onesF_zero]
  | f + 1, x, g, hx, hg => by
    obtain ⟨g', rfl⟩ : ∃ g', g = g' + 1 := ⟨g - 1, by omega⟩
    rw [onesF, onesF, onesF_fuel f (x / 2) g' (by rw [Nat.pow_succ] at hx; omega) (by omega)]
theorem onesF_add : ∀ (f a b : Nat), b < 2 ^ f → ∀ g, onesF (f + g) (2 ^ f * a + b) = onesF f b + onesF g a
  | 0, a, b, hb, g => by
    have : b = 0 := by simpa using hb
    subst this
    simp [onesF]
  | f + 1, a, b, hb, g => by
    have e1 : (2 ^ (f + 1) * a + b) % 2 = b % 2 := by rw [Nat.pow_succ, Nat.mul_comm (2 ^ f) 2, Nat.mul_assoc]; omega
    have e2 : (2 ^ (f + 1) * a + b) / 2 = 2 ^ f * a + b / 2 := by rw [Nat.pow_succ, Nat.mul_comm (2 ^ f) 2, Nat.mul_assoc]; omega
    rw [show f + 1 + g = (f + g) + 1 by omega, onesF, onesF, e1, e2, onesF_add f a (b / 2) (by rw [Nat.pow_succ] at hb; omega) g]
    omega
theorem ones_step (x : Nat) (hx : x < 2 ^ 32) : ones x = x % 2 + ones (x / 2) := by
  have h : onesF 33 x = ones x := onesF_fuel 32 x 33 hx (by decide)
  rw [← h, onesF]
  rfl
theorem and_bytes (a m b n : Nat) (hb : b < 256) (hn : n < 256) : (256 * a + b) &&& (256 * m + n) = 256 * (a &&& m) + (b &&& n) := by
  apply Nat.eq_of_testBit_eq
  intro i
  have hbn : b &&& n < 2 ^ 8 := Nat.and_lt_two_pow b hn
  rw [Nat.testBit_and, show (256 : Nat) = 2 ^ 8 from rfl, Nat.testBit_two_pow_mul_add a hb, Nat.testBit_two_pow_mul_add m hn, Nat.testBit_two_pow_mul_add (a &&& m) hbn]
  split
  · rw [Nat.testBit_and]
  · rw [Nat.testBit_and]
/-- Four bytes against a mask of one byte, over and over. -/
theorem and_four (m a b c d : Nat) (hm : m < 256) (ha : a < 256) (hb : b < 256) (hc : c < 256) (hd : d < 256) :
    (256 * (256 * (256 * d + c) + b) + a) &&& (256 * (256 * (256 * (256 * (m * 16843009) + m) + m) + m) + m) = 256 * (256 * (256 * (d &&& m) + (c &&& m)) + (b &&& m)) + (a &&& m) := by
  rw [and_bytes _ _ _ _ ha hm, and_bytes _ _ _ _ hb hm, and_bytes _ _ _ _ hc hm]
  have e : (256 * 0 + d) &&& (256 * (m * 16843009) + m) = 256 * (0 &&& (m * 16843009)) + (d &&& m) := and_bytes _ _ _ _ hd hm
  rw [Nat.mul_zero, Nat.zero_add, Nat.zero_and, Nat.mul_zero, Nat.zero_add] at e
  rw [e]
def t1 (x : Nat) : Nat := (x / 2 &&& 85) + (x &&& 85)
def t2 (x : Nat) : Nat := (x / 4 &&& 51) + (x &&& 51)
def t3 (x : Nat) : Nat := x / 16 + x &&& 15
theorem t1_of : ∀ x : Fin 256, ∀ c : Fin 2, ((x.val / 2 + 128 * c.val) &&& 85) = (x.val / 2 &&& 85) ∧ t1 x.val < 256 := by decide +kernel
theorem t2_of : ∀ x : Fin 256, ∀ c : Fin 4, ((x.val / 4 + 64 * c.val) &&& 51) = (x.val / 4 &&& 51) ∧ t2 x.val < 256 := by decide +kernel
theorem t3_of : ∀ x : Fin 256, t2 (t1 x.val) / 16 + t2 (t1 x.val) ≤ 100 ∧ t3 (t2 (t1 x.val)) = onesF 8 x.val ∧ onesF 8 x.val ≤ 8 := by decide +kernel
theorem t4_of : ∀ y : Fin 101, ∀ c : Fin 9, ((y.val + 16 * c.val) &&& 15) = (y.val &&& 15) := by decide +kernel
theorem t5_of : ∀ x : Fin 256, t2 (t1 x.val) % 16 ≤ 8 := by decide +kernel
def swar1 (x : Nat) : Nat := (x / 2 &&& 6148914691236517205) + (x &&& 6148914691236517205)
def swar2 (x : Nat) : Nat := (x / 4 &&& 3689348814741910323) + (x &&& 3689348814741910323)
def swar3 (x : Nat) : Nat := x / 16 + x &&& 1085102592571150095
theorem swar1_four (a b c d : Nat) (ha : a < 256) (hb : b < 256) (hc : c < 256) (hd : d < 256) : swar1 (256 * (256 * (256 * d + c) + b) + a) = 256 * (256 * (256 * t1 d + t1 c) + t1 b) + t1 a := by
  have e : (256 * (256 * (256 * d + c) + b) + a) / 2 = 256 * (256 * (256 * (d / 2 + 128 * 0) + (c / 2 + 128 * (d % 2))) + (b / 2 + 128 * (c % 2))) + (a / 2 + 128 * (b % 2)) := by omega
  rw [swar1, e, show (6148914691236517205 : Nat) = 256 * (256 * (256 * (256 * (85 * 16843009) + 85) + 85) + 85) + 85 from rfl, and_four 85 _ _ _ _ (by decide) (by omega) (by omega) (by omega) (by omega), and_four 85 _ _ _ _ (by decide) ha hb hc hd]
  have ka := (t1_of ⟨a, ha⟩ ⟨b % 2, by omega⟩).1
  have kb := (t1_of ⟨b, hb⟩ ⟨c % 2, by omega⟩).1
  have kc := (t1_of ⟨c, hc⟩ ⟨d % 2, by omega⟩).1
  have kd := (t1_of ⟨d, hd⟩ ⟨0, by omega⟩).1
  dsimp only at ka kb kc kd
  rw [ka, kb, kc, kd]
  unfold t1
  omega
theorem swar2_four (a b c d : Nat) (ha : a < 256) (hb : b < 256) (hc : c < 256) (hd : d < 256) : swar2 (256 * (256 * (256 * d + c) + b) + a) = 256 * (256 * (256 * t2 d + t2 c) + t2 b) + t2 a := by
  have e : (256 * (256 * (256 * d + c) + b) + a) / 4 = 256 * (256 * (256 * (d / 4 + 64 * 0) + (c / 4 + 64 * (d % 4))) + (b / 4 + 64 * (c % 4))) + (a / 4 + 64 * (b % 4)) := by omega
  rw [swar2, e, show (3689348814741910323 : Nat) = 256 * (256 * (256 * (256 * (51 * 16843009) + 51) + 51) + 51) + 51 from rfl, and_four 51 _ _ _ _ (by decide) (by omega) (by omega) (by omega) (by omega), and_four 51 _ _ _ _ (by decide) ha hb hc hd]
  have ka := (t2_of ⟨a, ha⟩ ⟨b % 4, by omega⟩).1
  have kb := (t2_of ⟨b, hb⟩ ⟨c % 4, by omega⟩).1
  have kc := (t2_of ⟨c, hc⟩ ⟨d % 4, by omega⟩).1
  have kd := (t2_of ⟨d, hd⟩ ⟨0, by omega⟩).1
  dsimp only at ka kb kc kd
  rw [ka, kb, kc, kd]
  unfold t2
  omega
theorem swar3_four (a b c d : Nat) (ha : a / 16 + a ≤ 100) (hb : b / 16 + b ≤ 100) (hc : c / 16 + c ≤ 100) (hd : d / 16 + d ≤ 100) (mb : b % 16 ≤ 8) (mc : c % 16 ≤ 8) (md : d % 16 ≤ 8) : swar3 (256 * (256 * (256 * d + c) + b) + a) = 256 * (256 * (256 * t3 d + t3 c) + t3 b) + t3 a := by
  have e : (256 * (256 * (256 * d + c) + b) + a) / 16 + (256 * (256 * (256 * d + c) + b) + a) = 256 * (256 * (256 * ((d / 16 + d) + 16 * 0) + ((c / 16 + c) + 16 * (d % 16))) + ((b / 16 + b) + 16 * (c % 16))) + ((a / 16 + a) + 16 * (b % 16)) := by omega
  rw [swar3, e, show (1085102592571150095 : Nat) = 256 * (256 * (256 * (256 * (15 * 16843009) + 15) + 15) + 15) + 15 from rfl, and_four 15 _ _ _ _ (by decide) (by omega) (by omega) (by omega) (by omega)]
  have ka := t4_of ⟨a / 16 + a, by omega⟩ ⟨b % 16, by omega⟩
  have kb := t4_of ⟨b / 16 + b, by omega⟩ ⟨c % 16, by omega⟩
  have kc := t4_of ⟨c / 16 + c, by omega⟩ ⟨d % 16, by omega⟩
  have kd := t4_of ⟨d / 16 + d, by omega⟩ ⟨0, by omega⟩
  dsimp only at ka kb kc kd
  rw [ka, kb, kc, kd]
  rfl
/-- What the last steps make of four sums of bytes. -/
theorem fold_four (a b c d : Nat) (ha : a ≤ 8) (hb : b ≤ 8) (hc : c ≤ 8) (hd : d ≤ 8) (x y z : Nat) (hx : x = 256 * (256 * (256 * d + c) + b) + a) (hy : y = x + x / 256) (hz : z = y + y / 65536) : z + z / 4294967296 < 18446744073709551616 ∧ (z + z / 4294967296) % 128 = a + b + c + d := by
  have e1 : x / 256 = 65536 * d + 256 * c + b := by omega
  have e2 : y = 16777216 * d + 65536 * (c + d) + 256 * (b + c) + (a + b) := by omega
  have e3 : y / 65536 = 256 * d + (c + d) := by omega
  have e4 : z = 16777216 * d + 65536 * (c + d) + 256 * (b + c + d) + (a + b + c + d) := by omega
  have e5 : z / 4294967296 = 0 := by omega
  clear hx hy hz e1 e2 e3
  omega
theorem ones_four (a b c d : Nat) (ha : a < 256) (hb : b < 256) (hc : c < 256) (hd : d < 256) : ones (256 * (256 * (256 * d + c) + b) + a) = onesF 8 a + onesF 8 b + onesF 8 c + onesF 8 d := by
  have h1 := onesF_add 8 (256 * (256 * d + c) + b) a ha 24
  have h2 := onesF_add 8 (256 * d + c) b hb 16
  have h3 := onesF_add 8 d c hc 8
  rw [show (2 : Nat) ^ 8 = 256 from rfl] at h1 h2 h3
  rw [ones, h1, h2, h3]
  omega
theorem swar_ones (x : Nat) (hx : x < 4294967296) (s y z : Nat) (hs : s = swar3 (swar2 (swar1 x))) (hy : y = s + s / 256) (hz : z = y + y / 65536) : s < 4294967296 ∧ y < 8589934592 ∧ z < 17179869184 ∧ (z + z / 4294967296) % 128 = ones x := by
  obtain ⟨a, b, c, d, ha, hb, hc, hd, rfl⟩ : ∃ a b c d, a < 256 ∧ b < 256 ∧ c < 256 ∧ d < 256 ∧ x = 256 * (256 * (256 * d + c) + b) + a := ⟨x % 256, x / 256 % 256, x / 65536 % 256, x / 16777216, by omega, by omega, by omega, by omega, by omega⟩
  obtain ⟨pa, qa, ra⟩ := t3_of ⟨a, ha⟩
  obtain ⟨pb, qb, rb⟩ := t3_of ⟨b, hb⟩
  obtain ⟨pc, qc, rc⟩ := t3_of ⟨c, hc⟩
  obtain ⟨pd, qd, rd⟩ := t3_of ⟨d, hd⟩
  have ma := t5_of ⟨a, ha⟩
  have mb := t5_of ⟨b, hb⟩
  have mc := t5_of ⟨c, hc⟩
  have md := t5_of ⟨d, hd⟩
  have ua := (t1_of ⟨a, ha⟩ 0).2
  have ub := (t1_of ⟨b, hb⟩ 0).2
  have uc := (t1_of ⟨c, hc⟩ 0).2
  have ud := (t1_of ⟨d, hd⟩ 0).2
  dsimp only at *
  rw [swar1_four a b c d ha hb hc hd, swar2_four _ _ _ _ ua ub uc ud, swar3_four _ _ _ _ pa pb pc pd mb mc md, qa, qb, qc, qd] at hs
  rw [ones_four a b c d ha hb hc hd]
  have := fold_four _ _ _ _ ra rb rc rd s y z hs hy hz
  exact ⟨by omega, by omega, by omega, this.2⟩
end Go.Hoar
end
section
namespace Go.Proofs.YtillghidmfglpaaDoor
open Go.RowKit Go.Hoar
theorem wrapU (a : Nat) (h : a < 18446744073709551616) : IntKind.u64.wrap ((a : Nat) : Int) = (a : Int) := by
  simp [IntKind.wrap, IntKind.bits, IntKind.signed]
  omega
theorem swar_le (x : Nat) (hx : x < 4294967296) : swar1 x < 8589934592 ∧ swar2 (swar1 x) < 17179869184 := by
  have h1 : swar1 x ≤ x / 2 + x := Nat.add_le_add Nat.and_le_left Nat.and_le_left
  have h2 : swar2 (swar1 x) ≤ swar1 x / 4 + swar1 x := Nat.add_le_add Nat.and_le_left Nat.and_le_left
  omega
theorem swar1_int (x : Nat) (hx : x < 4294967296) : IntKind.u64.wrap (bits BinOp.and IntKind.u64 ((x : Int) / 2) 6148914691236517205 + bits BinOp.and IntKind.u64 (x : Int) 6148914691236517205) = ((swar1 x : Nat) : Int) := by
  have a := u64_and_nat (x / 2) 6148914691236517205 (by omega) (by decide)
  have b := u64_and_nat x 6148914691236517205 (by omega) (by decide)
  have h := (swar_le x hx).1
  have e : bits BinOp.and IntKind.u64 ((x : Int) / 2) 6148914691236517205 + bits BinOp.and IntKind.u64 (x : Int) 6148914691236517205 = ((swar1 x : Nat) : Int) := by
    rw [swar1, Int.natCast_add, ← a, ← b]
    rfl
  rw [e, wrapU _ (by omega)]
theorem swar2_int (x : Nat) (hx : x < 4294967296) : IntKind.u64.wrap (bits BinOp.and IntKind.u64 (((swar1 x : Nat) : Int) / 4) 3689348814741910323 + bits BinOp.and IntKind.u64 ((swar1 x : Nat) : Int) 3689348814741910323) = ((swar2 (swar1 x) : Nat) : Int) := by
  have h := swar_le x hx
  have a := u64_and_nat (swar1 x / 4) 3689348814741910323 (by omega) (by decide)
  have b := u64_and_nat (swar1 x) 3689348814741910323 (by omega) (by decide)
  have e : bits BinOp.and IntKind.u64 (((swar1 x : Nat) : Int) / 4) 3689348814741910323 + bits BinOp.and IntKind.u64 ((swar1 x : Nat) : Int) 3689348814741910323 = ((swar2 (swar1 x) : Nat) : Int) := by
    rw [swar2, Int.natCast_add, ← a, ← b]
    rfl
  rw [e, wrapU _ (by omega)]
theorem swar3_int (s : Nat) (hs : s < 17179869184) : bits BinOp.and IntKind.u64 (IntKind.u64.wrap ((s : Int) / 16 + (s : Int))) 1085102592571150095 = ((swar3 s : Nat) : Int) := by
  have e : ((s : Int) / 16 + (s : Int)) = ((s / 16 + s : Nat) : Int) := by omega
  have a := u64_and_nat (s / 16 + s) 1085102592571150095 (by omega) (by decide)
  rw [e, wrapU _ (by omega)]
  exact a
theorem swar4_int (s : Nat) (hs : s < 4294967296) : IntKind.u64.wrap ((s : Int) + (s : Int) / 256) = ((s + s / 256 : Nat) : Int) := by
  have e : ((s : Int) + (s : Int) / 256) = ((s + s / 256 : Nat) : Int) := by omega
  rw [e, wrapU _ (by omega)]
theorem swar5_int (s : Nat) (hs : s < 8589934592) : IntKind.u64.wrap ((s : Int) + (s : Int) / 65536) = ((s + s / 65536 : Nat) : Int) := by
  have e : ((s : Int) + (s : Int) / 65536) = ((s + s / 65536 : Nat) : Int) := by omega
  rw [e, wrapU _ (by omega)]
theorem swar6_int (s : Nat) (hs : s < 17179869184) : IntKind.u64.wrap ((s : Int) + (s : Int) / 4294967296) = ((s + s / 4294967296 : Nat) : Int) := by
  have e : ((s : Int) + (s : Int) / 4294967296) = ((s + s / 4294967296 : Nat) : Int) := by omega
  rw [e, wrapU _ (by omega)]
set_option maxRecDepth 100000 in
set_option maxHeartbeats 1000000 in
theorem ones64_any (x : Nat) (hx : x < 4294967296) (w : World) :
    Calls Tryd.prog 111 #[.int .u64 (x : Int)] w fun e w' => e = .returned (.int .i64 ((ones x : Nat) : Int)) ∧ w' = w := by
  obtain ⟨s, hs⟩ : ∃ s, s = swar3 (swar2 (swar1 x)) := ⟨_, rfl⟩
  obtain ⟨y, hy⟩ : ∃ y, y = s + s / 256 := ⟨_, rfl⟩
  obtain ⟨z, hz⟩ : ∃ z, z = y + y / 65536 := ⟨_, rfl⟩
  obtain ⟨b1, b2, b3, b4⟩ := swar_ones x hx s y z hs hy hz
  have e1 := swar1_int x hx
  have e2 := swar2_int x hx
  have e3 := swar3_int _ (swar_le x hx).2
  have e4 := swar4_int s b1
  have e5 := swar5_int y b2
  have e6 := swar6_int z b3
  rw [← hs] at e3
  rw [← hy] at e4
  rw [← hz] at e5
  have H := Lib.hid (And.intro e1 (And.intro e2 (And.intro e3 (And.intro e4 (And.intro e5 e6)))))
  have B4 := Lib.hid b4
  have B3 := Lib.hid b3
  clear e1 e2 e3 e4 e5 e6 b4 hs hy hz b1 b2 b3
  go_enter Tryd.func111, Tryd.ntmps111
  go_wp2
  go_ret
  obtain ⟨e1, e2, e3, e4, e5, e6⟩ := H.out
  have b3 := B3.out
  have w7 : wrap64 ((z + z / 4294967296 : Nat) : Int) = ((z + z / 4294967296 : Nat) : Int) := by
    have hq : z + z / 4294967296 < 34359738368 := by omega
    generalize z + z / 4294967296 = q at hq
    unfold wrap64
    omega
  have e7 : bits BinOp.and IntKind.i64 (wrap64 ((z + z / 4294967296 : Nat) : Int)) 127 = ((ones x : Nat) : Int) := by
    rw [w7, i64_and127, ← B4.out]
    rfl
  rw [e1, e2, e3, e4, e5, e6, e7]
  exact ⟨rfl, rfl⟩
set_option maxHeartbeats 1000000 in
theorem onesCount_any (x : Nat) (hx : x < 4294967296) (w : World) :
    Calls Tryd.prog 97 #[.int .u64 (x : Int)] w fun e w' => e = .returned (.int .i64 ((ones x : Nat) : Int)) ∧ w' = w := by
  have h := ones64_any x hx
  have HO := Lib.hid h
  clear h
  go_enter Tryd.func97, Tryd.ntmps97
  go_wp2_with (go_at_call 111; refine (HO.out _).mono ?_; rintro e w' ⟨rfl, rfl⟩)
  go_ret
  exact ⟨rfl, rfl⟩
end Go.Proofs.YtillghidmfglpaaDoor
end
section
namespace Go.Proofs.YtillghidmfglpaaDoor
open Go.RowKit Go.Hoar
/-- Can a tree be that of a list, as far as its numbers tell? -/
def TreeOk (n : Nat) (many : Int) : Prop := 0 ≤ many ∧ many ≤ 1073741824 ∧ n = ones many.toNat
instance (n : Nat) (many : Int) : Decidable (TreeOk n many) := by unfold TreeOk; infer_instance
set_option maxRecDepth 100000 in
set_option maxHeartbeats 1000000 in
theorem treeOk_any (a : Option Addr) (n c : Nat) (many : Int) (w : World) :
    Calls Tryd.prog 74 #[.agg #[.int .i64 many, .slice a n c]] w fun e w' => e = .returned (.bool (decide (TreeOk n many))) ∧ Below w.heap.size w w' := by
  by_cases g0 : 0 ≤ many
  · by_cases g1 : many ≤ 1073741824
    · obtain ⟨m, rfl⟩ := Int.eq_ofNat_of_zero_le g0
      have ho := onesCount_any m (by omega)
      have hw : IntKind.u64.wrap (m : Int) = (m : Int) := wrapU m (by omega)
      have hb : Below w.heap.size w (w.alloc (.cells #[.int .i64 (m : Int), .slice a n c] 57)) := (Below.refl _ _).alloc (Nat.le_refl _) _
      generalize hon : ones m = o at ho
      have HO := Lib.hid ho
      have HB := Lib.hid hb
      clear ho hb
      by_cases g2 : n = o
      · have e : decide (TreeOk n m) = true := decide_eq_true ⟨g0, g1, by rw [g2, ← hon]; rfl⟩
        rw [e]
        clear hon e
        subst g2
        go_enter Tryd.func74, Tryd.ntmps74
        go_upto_region 1 with (fail)
        go_quiet (first | (go_at_call 97; exact Calls.quiet_of_same (HO.out _)))
        go_wp2
        go_ret
        exact ⟨by simp, below_drewN HB.out _⟩
      · have e : decide (TreeOk n m) = false := decide_eq_false fun k => g2 (by have := k.2.2; rw [Int.toNat_natCast, hon] at this; exact this)
        rw [e]
        have g3 : ¬ (n : Int) = (o : Int) := by omega
        clear hon e
        go_enter Tryd.func74, Tryd.ntmps74
        go_upto_region 1 with (fail)
        go_quiet (first | (go_at_call 97; exact Calls.quiet_of_same (HO.out _)))
        go_wp2
        go_ret
        exact ⟨by simp [g3], below_drewN HB.out _⟩
    · have e : decide (TreeOk n many) = false := decide_eq_false fun k => g1 k.2.1
      rw [e]
      clear e
      go_enter Tryd.func74, Tryd.ntmps74
      go_upto_region 1 with (fail)
      go_quiet (fail)
      go_wp2
      go_ret
      exact ⟨by simp, below_drewN ((Below.refl _ _).alloc (Nat.le_refl _) _) _⟩
  · have e : decide (TreeOk n many) = false := decide_eq_false fun k => g0 k.1
    rw [e]
    clear e
    go_enter Tryd.func74, Tryd.ntmps74
    go_upto_region 1 with (fail)
    go_quiet (fail)
    go_wp2
    go_ret
    exact ⟨by simp, below_drewN ((Below.refl _ _).alloc (Nat.le_refl _) _) _⟩
end Go.Proofs.YtillghidmfglpaaDoor
end
section
namespace Go.Proofs.YtillghidmfglpaaDoor
open Go.RowKit Go.Hoar
/-- A slice of digests that lies in memory: nil, or so many at an address. -/
def RowOk (w : World) (a : Option Addr) (c : Nat) (ls : List (List Nat)) : Prop := (a = none ∧ ls = [] ∧ c = 0) ∨ ∃ g off, a = some ⟨g, off, none⟩ ∧ g < w.heap.size ∧ SumsAt w g off ls ∧ ls.length ≤ c ∧ c ≤ maxLen
theorem RowOk.below {w w' : World} {a : Option Addr} {c : Nat} {ls : List (List Nat)} (h : RowOk w a c ls) (hb : Below w.heap.size w w') : RowOk w' a c ls := by
  rcases h with h | ⟨g, off, e, hg, hs, r⟩
  · exact .inl h
  · exact .inr ⟨g, off, e, Nat.lt_of_lt_of_le hg hb.size, hs.below hg hb, r⟩
/-- Digests of 32 bytes each. -/
def SumsOk (ls : List (List Nat)) : Prop := ∀ l ∈ ls, l.length = 32 ∧ Sha.Bytes l
theorem sums_cells {w : World} {g off : Nat} {ls : List (List Nat)} (h : SumsAt w g off ls) (hok : SumsOk ls) : ∀ j u, (ls.flatMap cellsOf)[j]? = some u → w.cell? ⟨g, off + j, none⟩ = some u := by
  induction ls generalizing off with
  | nil => intro j u hj; simp at hj
  | cons l ls ih =>
    intro j u hj
    have hl := (hok l (by simp)).1
    have hlen : (cellsOf l).length = 32 := cellsOf_len (by omega)
    rw [List.flatMap_cons] at hj
    by_cases hj32 : j < 32
    · rw [List.getElem?_append_left (by omega)] at hj
      have h0 := (h 0 l rfl).2.2 j hj32
      rw [Nat.zero_mul, Nat.add_zero] at h0
      rw [h0, ← hj, cellsOf, Array.getElem?_toList, arr32_get l hl j hj32]
    · rw [List.getElem?_append_right (by omega), hlen] at hj
      have hd : SumsAt w g (off + 32) ls := by
        have := h.drop 1
        simpa using this
      have := ih hd (fun x hx => hok x (List.mem_cons_of_mem _ hx)) (j - 32) u hj
      rwa [show off + 32 + (j - 32) = off + j by omega] at this
theorem cells_flat_len {ls : List (List Nat)} (hok : SumsOk ls) : (ls.flatMap cellsOf).length = ls.length * 32 := by
  induction ls with
  | nil => rfl
  | cons l ls ih => rw [List.flatMap_cons, List.length_append, ih (fun x hx => hok x (List.mem_cons_of_mem _ hx)), cellsOf_len (by have := (hok l (by simp)).1; omega), List.length_cons]; omega
theorem cells_flat_one (ls : List (List Nat)) : ∀ u ∈ ls.flatMap cellsOf, u.oneCell' = true := fun u hu => by
  obtain ⟨l, _, hl⟩ := List.mem_flatMap.1 hu
  exact cellsOf_one l u hl
theorem cloneSums_any (ls : List (List Nat)) (hok : SumsOk ls) (hn : ls.length ≤ 1073741824) (a : Option Addr) (c : Nat) (w : World) (hl : RowOk w a c ls) :
    Calls Tryd.prog 32 #[.slice a ls.length c] w fun e w' => ∃ v, e = .returned v ∧ w'.ownsRow w.heap.size 26 32 v ls.length (ls.flatMap cellsOf) ∧ Below w.heap.size w w' := by
  obtain ⟨i0, hi0, hz0, hz1, hz2⟩ := info_parts sumInfo3
  rcases hl with ⟨rfl, rfl, rfl⟩ | ⟨g, off, rfl, hg, hs, hc, hm⟩
  · refine (AnyE.slices_Clone_nil Tryd.cloneSum 0 0 w).mono ?_
    rintro e w' ⟨rfl, rfl⟩
    exact ⟨_, rfl, World.ownsRow_nil _ _ _ _, Below.refl _ _⟩
  · refine (AnyE.slices_Clone Tryd.cloneSum i0 _ 32 32 hi0 hz0 hz1 hz2 rfl (by decide) Tryd.sizeOf26 g off ls.length c (ls.flatMap cellsOf) w (cells_flat_len hok) (by unfold maxLen; omega) (by omega) (sums_cells hs hok) (cells_flat_one ls)).mono ?_
    rintro e w' ⟨v, rfl, ho, _, hb⟩
    exact ⟨v, rfl, ho, hb⟩
/-- The peaks of a tree that has one digest more. -/
def growOf : Nat → Nat → List (List Nat) → List Nat → List (List Nat)
  | 0, _, ps, pk => ps ++ [pk]
  | f + 1, m, ps, pk => if m % 2 = 1 then growOf f (m / 2) ps.dropLast (Sha.sha (2 :: (ps.getLastD [] ++ pk))) else ps ++ [pk]
theorem treeInfo {x y : Value} : (Tryd.prog.info? 57).map (·.size) = some (#[x, y] : Array Value).size := by
  have h : (Tryd.prog.info? 57).map (·.size) = some 2 := by kernel_rfl
  exact h
theorem own_pop {w : World} {base g n m cap size : Nat} {e : TypeId} {xs : List Value} (h : w.ownsRow base e size (.slice (some ⟨g, 0, none⟩) n cap) n xs) (hm : m ≤ n) : w.ownsRow base e size (.slice (some ⟨g, 0, none⟩) m cap) m (xs.take (m * size)) := by
  obtain ⟨h1, ⟨h0, _⟩ | ⟨g', cap', cur, hv, hb, hh, hc, hcm, hs, ht⟩⟩ := h
  · cases h0
  · cases hv
    have hle : m * size ≤ n * size := Nat.mul_le_mul_right size hm
    refine ⟨by rw [List.length_take, h1]; omega, .inr ⟨g, cap, cur, rfl, hb, hh, by omega, hcm, hs, ?_⟩⟩
    rw [← ht, List.take_take, Nat.min_eq_left hle]
theorem own_setRow {w : World} {base : Nat} {e : TypeId} {size : Nat} {v : Value} {n g : Nat} {xs : List Value} (h : w.ownsRow base e size v n xs) (hne : v.ownBlock ≠ some g) (cs : Array Value) : (w.setRow g cs).ownsRow base e size v n xs :=
  h.kept (row := some g) ⟨rfl, rfl, rfl, by simp, fun k _ hb => setRow_heap_other _ _ _ _ (fun e => hb (by rw [e]))⟩ (.inr hne)
theorem onesF_le : ∀ f x, onesF f x ≤ f
  | 0, _ => Nat.le_refl _
  | f + 1, x => by have := onesF_le f (x / 2); rw [onesF]; omega
set_option maxRecDepth 100000 in
set_option maxHeartbeats 2000000 in
theorem treeGrow_any (ps : List (List Nat)) (x : List Nat) (many : Nat) (hps : SumsOk ps) (hx : x.length = 32) (hxb : Sha.Bytes x) (hok : TreeOk ps.length (many : Int)) (hm : many < 1073741824) (a : Option Addr) (c : Nat) (w : World) (hl : RowOk w a c ps) (hc : ConstAt w) (out : List (List Nat)) (hout : Hid (out = growOf 31 many ps (Sha.sha (1 :: x)))) :
    Calls Tryd.prog 38 #[.agg #[.int .i64 (many : Int), .slice a ps.length c], .agg (arr32 x)] w fun e w' => ∃ v, e = .returned (.tuple #[.agg #[.int .i64 ((many : Int) + 1), v], .int .i64 0]) ∧ w'.ownsRow w.heap.size 26 32 v out.length (out.flatMap cellsOf) ∧ Below w.heap.size w w' := by
  obtain ⟨i0, hi0, hz0, hz1, hz2⟩ := info_parts sumInfo3
  have hd : decide (TreeOk ps.length (many : Int)) = true := decide_eq_true hok
  have hpn : ps.length = ones many := by have := hok.2.2; rwa [Int.toNat_natCast] at this
  have hI := arr32_info x (by omega)
  obtain ⟨lf, hlf⟩ : ∃ lf, lf = Sha.sha (1 :: x) := ⟨_, rfl⟩
  have hlfb : Sha.Bytes lf := by rw [hlf]; exact (sha_bytes _).2
  have hIlf : lf.length = 32 := by rw [hlf]; exact (sha_bytes _).1
  have hp32 : ps.length ≤ 32 := by rw [hpn]; exact onesF_le _ _
  have HLf := Lib.hid hlf
  have HOk := Lib.hid hok
  have HPn := Lib.hid hpn
  have HL := Lib.hid hl
  have HC := Lib.hid hc
  have HI := Lib.hid hI
  have HPs := Lib.hid hps
  have hne : ¬ (many : Int) = 1073741824 := by omega
  clear hlf hok hpn hl hc hI hps
  go_enter Tryd.func38, Tryd.ntmps38
  go_upto_region 1 with (fail)
  refine gen_world (P := fun W => Code.wp _ _ _ _ W) (I := fun W => Below w.heap.size w W ∧ Has W w.heap.size 57 #[.int .i64 (many : Int), .slice a ps.length c] ∧ Has W (w.heap.size + 1) 26 (arr32 x) ∧ Has W (w.heap.size + 1 + 1) 57 #[.int .i64 0, .slice none 0 0]) _ ⟨(((Below.refl _ w).alloc (Nat.le_refl _) _).alloc (by simp) _).alloc (by simp; omega) _, ((Has.fresh_at _ _ _ _ rfl).alloc _).alloc _, (Has.fresh_at _ _ _ _ (by simp)).alloc _, Has.fresh_at _ _ _ _ (by simp)⟩ ?_
  rintro W ⟨hB, hT, hX, hR⟩
  have t0 : W.cell? ⟨w.heap.size, 0, none⟩ = some (.int .i64 (many : Int)) := hT.cell 0
  have t1 : W.cell? ⟨w.heap.size, 1, none⟩ = some (.slice a ps.length c) := hT.cell 1
  have HB := Lib.hid hB
  have HT := Lib.hid hT
  have HX := Lib.hid hX
  have HR := Lib.hid hR
  have HL1 := Lib.hid (HL.out.below hB)
  have HC1 := Lib.hid (HC.out.below hB rfl)
  have hszW := hR.lt
  clear hB hT hX hR
  go_upto_region 5 with (first
    | (go_at_call 74; refine (treeOk_any a ps.length c (many : Int) W).mono ?_; rintro e w1 ⟨rfl, hb1⟩; rw [hd]; have hsz1 := hb1.size; have u0 : w1.cell? ⟨w.heap.size, 0, none⟩ = some (.int .i64 (many : Int)) := (hb1.cell HT.out.lt).trans t0; have u1 : w1.cell? ⟨w.heap.size, 1, none⟩ = some (.slice a ps.length c) := (hb1.cell HT.out.lt).trans t1; have HB1 := Lib.hid (HB.out.trans (hb1.mono HB.out.size)); have HX1 := Lib.hid (HX.out.below hb1 HX.out.lt); have HT1 := Lib.hid (HT.out.below hb1 HT.out.lt); have HR1 := Lib.hid (HR.out.below hb1 HR.out.lt); have HL2 := Lib.hid (HL1.out.below hb1); have HC2 := Lib.hid (HC1.out.below hb1 rfl); clear hb1 t0 t1))
  go_upto_region 7 with (first
    | (go_at_call 32; refine (cloneSums_any ps HPs.out (by omega) a c w1 HL2.out).mono ?_; rintro e w2 ⟨v2, rfl, ho2, hb2⟩; have hsz2 := hb2.size; have HO2 := Lib.hid ho2; have HB2 := Lib.hid (HB1.out.trans (hb2.mono HB1.out.size)); have HX2 := Lib.hid (HX1.out.below hb2 HX1.out.lt).row; have HT2 := Lib.hid (HT1.out.below hb2 HT1.out.lt); have HR2 := Lib.hid (HR1.out.below hb2 HR1.out.lt); have HC3 := Lib.hid (HC2.out.below hb2 rfl); have u2 : w2.cell? ⟨w.heap.size, 0, none⟩ = some (.int .i64 (many : Int)) := (hb2.cell HT1.out.lt).trans u0; clear hb2 ho2)
    | ((with_reducible refine arm_load (w := w2) ⟨w.heap.size + 1, 0, none⟩ _ _ HX2.out Tryd.underlying26 HI.out ?h1 ?h2 ?_); (case h1 => rfl); (case h2 => rfl))
    | (go_at_call 67; refine (leaf_any x hx hxb w2 HC3.out lf HLf).mono ?_; rintro e w3 ⟨rfl, _, hb3⟩; have hsz3 := hb3.size; have HO3 := Lib.hid (own_below HO2.out hb3); have HB3 := Lib.hid (HB2.out.trans (hb3.mono HB2.out.size)); have HT3 := Lib.hid (HT2.out.below hb3 HT2.out.lt); have HR3 := Lib.hid (HR2.out.below hb3 HR2.out.lt); have HC4 := Lib.hid (HC3.out.below hb3 rfl); have u3 : w3.cell? ⟨w.heap.size, 0, none⟩ = some (.int .i64 (many : Int)) := (hb3.cell HT2.out.lt).trans u2; have HF := Lib.hid (fresh_sum w3); have HSz := Lib.hid (zero32_size lf (by omega)); have HIl := Lib.hid (arr32_info lf (by omega)); clear hb3)
    | ((with_reducible refine arm_store w3.heap.size (arr32 lf) 26 zero32 HF.out HSz.out HIl.out (arr32_one _) ?h5 ?h6 ?_); (case h5 => rfl); (case h6 => rfl)))
  have hlt2 : ∀ k, v2.ownBlock = some k → k < w3.heap.size := fun k hk => (HO3.out.lt k hk).2
  refine gen_world (P := fun W => Code.wp _ _ _ _ W) (I := fun V => Below w.heap.size w V ∧ Has V w.heap.size 57 #[.int .i64 (many : Int), .slice a ps.length c] ∧ Has V (w.heap.size + 1 + 1) 57 #[.int .i64 0, .slice none 0 0] ∧ Has V w3.heap.size 26 (arr32 lf) ∧ V.ownsRow w1.heap.size 26 32 v2 ps.length (ps.flatMap cellsOf)) _ ⟨below_setRow (HB3.out.alloc HB3.out.size _) HB3.out.size _, (HT3.out.alloc _).setRow_apart (by have := HT3.out.lt; omega), (HR3.out.alloc _).setRow_apart (by have := HR3.out.lt; omega), HF.out.setRow, own_setRow (HO3.out.alloc _) (fun e => by have := hlt2 _ e; omega) _⟩ ?_
  rintro V ⟨hBV, hTV, hRV, hPV, hOV⟩
  have t0 : V.cell? ⟨w.heap.size, 0, none⟩ = some (.int .i64 (many : Int)) := hTV.cell 0
  have HBV := Lib.hid hBV
  have HTV := Lib.hid hTV
  have HRV := Lib.hid hRV
  have HPV := Lib.hid hPV
  have HOV := Lib.hid hOV
  have hw1w3 : w.heap.size + 3 ≤ w1.heap.size := by omega
  clear hBV hTV hRV hPV hOV HB3 HT3 HR3 HO3 HC4 HC3 HB2 HT2 HR2 HO2 HX2 HB1 HX1 HT1 HR1 HL2 HC2 HB HT HX HR HL1 HC1 u0 u1 u2 u3
  go_wp2
  go_loopw [6, 8] (fun v mv wr => ∃ (vv : Value) (m f : Nat) (qs : List (List Nat)) (pk : List Nat), vv = v ∧ mv = .int .i64 (m : Int) ∧ m < 2 ^ f ∧ m < 1073741824 ∧ pk.length = 32 ∧ (∀ k, vv.ownBlock = some k → k < w3.heap.size) ∧ Hid (SumsOk qs ∧ Sha.Bytes pk ∧ qs.length = ones m ∧ growOf f m qs pk = out) ∧
    wr.ownsRow w1.heap.size 26 32 vv qs.length (qs.flatMap cellsOf) ∧ Has wr w3.heap.size 26 (arr32 pk) ∧ Has wr w.heap.size 57 #[.int .i64 (many : Int), .slice a ps.length c] ∧ Has wr (w.heap.size + 1 + 1) 57 #[.int .i64 0, .slice none 0 0] ∧ Below w.heap.size w wr) (fun _ mv _ => (intOf mv).toNat)
  case atStart => exact ⟨_, many, 31, ps, lf, rfl, rfl, by omega, hm, hIlf, hlt2, Lib.hid ⟨HPs.out, hlfb, HPn.out, by rw [hout.out, HLf.out]⟩, HOV.out, HPV.out, HTV.out, HRV.out, HBV.out⟩
  case round =>
    obtain ⟨vv, m, f, qs, pk, hvv, rfl, hmf, hm30, hpkl, hvlt, HQ, hO, hP, hT, hR, hB⟩ := hrel
    subst hvv
    by_cases hodd : m % 2 = 1
    · have hmod : (m : Int) % 2 = 1 := by omega
      obtain ⟨hqok, hpkb, hqn, hqg⟩ := HQ.out
      have hones := ones_step m (by omega)
      obtain ⟨f, rfl⟩ : ∃ f', f = f' + 1 := ⟨f - 1, by have : f ≠ 0 := (fun e => by subst e; omega); omega⟩
      have hm2 : m / 2 < 2 ^ f := by rw [Nat.pow_succ] at hmf; omega
      rcases List.eq_nil_or_concat qs with hq0 | ⟨qs', l, hqs⟩
      · rw [hq0] at hqn
        simp at hqn
        omega
      rw [List.concat_eq_append] at hqs
      subst hqs
      obtain ⟨n, hn⟩ : ∃ n, n = qs'.length := ⟨_, rfl⟩
      have hlen : (qs' ++ [l]).length = n + 1 := by rw [hn]; simp
      have hll := hqok l (by simp)
      have hqok2 : SumsOk qs' := fun x hx => hqok x (by simp [hx])
      rw [hlen] at hO
      obtain ⟨a6, c6, rfl, hc6, hcm6⟩ := own_shape hO
      obtain ⟨g6, rfl, hg6b, hg6⟩ := own_addr hO (by omega)
      have hflat : ((qs' ++ [l]).flatMap cellsOf) = qs'.flatMap cellsOf ++ cellsOf l := by rw [List.flatMap_append]; simp
      have hql : (qs'.flatMap cellsOf).length = n * 32 := by rw [cells_flat_len hqok2, hn]
      have hrowl : ∀ j u, (arr32 l)[j]? = some u → wr.cell? ((⟨g6, n * 32, none⟩ : Addr).add j) = some u := fun j u hj => by
        have h := hO.cells (g := g6) rfl (n * 32 + j) u (by
          rw [hflat, List.getElem?_append_right (by omega), hql, Nat.add_sub_cancel_left, cellsOf, Array.getElem?_toList]
          exact hj)
        rw [Addr.add_lit, Nat.zero_add] at h
        rw [Addr.add_lit]
        exact h
      have hpop := own_pop hO (m := n) (by omega)
      rw [hflat, List.take_append_of_le_length (by omega), List.take_of_length_le (by omega)] at hpop
      unfold maxLen at hcm6
      obtain ⟨np, hnp⟩ : ∃ np, np = Sha.sha (2 :: (l ++ pk)) := ⟨_, rfl⟩
      have HNp := Lib.hid hnp
      have hnpl : np.length = 32 := by rw [hnp]; exact (sha_bytes _).1
      have hnpb : Sha.Bytes np := by rw [hnp]; exact (sha_bytes _).2
      have HNext : Hid (SumsOk qs' ∧ Sha.Bytes np ∧ qs'.length = ones (m / 2) ∧ growOf f (m / 2) qs' np = out) := Lib.hid ⟨hqok2, hnpb, by rw [hlen] at hqn; omega, by
        rw [← hqg, growOf, if_pos hodd, List.dropLast_concat, List.getLastD_concat, hnp]⟩
      have HIL := Lib.hid (arr32_info l (by omega))
      have HIP := Lib.hid (arr32_info pk (by omega))
      have HIN := Lib.hid (arr32_info np (by omega))
      have HSN := Lib.hid ((arr32_size pk (by omega)).trans (arr32_size np (by omega)).symm)
      have HRowL := Lib.hid hrowl
      have HRowP := Lib.hid hP.row
      have HPop := Lib.hid hpop
      have HPair : Hid (∀ V, Below wr.heap.size wr V → Calls Tryd.prog 69 #[.agg (arr32 l), .agg (arr32 pk)] V fun e w' => e = .returned (.agg (arr32 np)) ∧ np.length = 32 ∧ Below V.heap.size V w') := Lib.hid fun V hV => pair_any l pk hll.1 hpkl hll.2 hpkb V ((HC.out.below hB rfl).below hV rfl) np HNp
      have HP := Lib.hid hP
      have HT := Lib.hid hT
      have HR := Lib.hid hR
      have HB := Lib.hid hB
      have hszr := hP.lt
      have hszr2 := hR.lt
      have hgne : g6 < w3.heap.size := hvlt g6 rfl
      have hix : (n : Int) < (n : Int) + 1 := by omega
      have HN := Lib.hid hn
      clear hO hP hT hR hB hrowl hpop hnp hqok hqok2 hll hflat hlen hqg hones hqn HQ hql hn
      go_upto_region 11 with (fail)
      refine wp_region_still_tail 5 (by kernel_rfl) (by kernel_rfl) ?_
      simp only [List.take_succ_cons, List.take_zero, List.drop_succ_cons, List.drop_zero]
      still_step
      still_step
      still_step
      refine still_load ⟨g6, n * 32, none⟩ (arr32 l) _ HRowL.out Tryd.underlying26 HIL.out rfl rfl ?_
      simp only [Act.put, List.setIfInBounds_toArray, List.set_cons_succ, List.set_cons_zero]
      refine still_load ⟨w3.heap.size, 0, none⟩ (arr32 pk) _ HRowP.out Tryd.underlying26 HIP.out rfl rfl ?_
      simp only [Act.put, List.setIfInBounds_toArray, List.set_cons_succ, List.set_cons_zero]
      refine wpStill_nil ?_
      go_wp2_with (first
        | (go_at_call 69; refine (HPair.out _ (Below.refl _ wr).drew).mono ?_; rintro e w4 ⟨rfl, _, hb4⟩; have hsz4 := hb4.size; have HP4 := Lib.hid (HP.out.drew.below hb4 hszr); have HT4 := Lib.hid (HT.out.drew.below hb4 HT.out.lt); have HR4 := Lib.hid (HR.out.drew.below hb4 hszr2); have HB4 := Lib.hid (HB.out.drew.trans (hb4.mono HB.out.size)); have HO4 := Lib.hid (own_below (w := wr.drew) HPop.out hb4); clear hb4)
        | ((with_reducible refine arm_store w3.heap.size (arr32 np) 26 (arr32 pk) HP4.out HSN.out HIN.out (arr32_one _) ?h5 ?h6 ?_); (case h5 => rfl); (case h6 => rfl)))
      refine ⟨⟨_, m / 2, f, qs', np, rfl, congrArg (Value.int .i64) (by omega), hm2, by omega, hnpl, fun k hk => by cases hk; exact hgne, HNext, ?_, HP4.out.setRow, HT4.out.setRow_apart (by omega), HR4.out.setRow_apart (by omega), below_setRow HB4.out (by omega) _⟩, by simp [intOf]; omega⟩
      rw [← HN.out]
      exact own_setRow HO4.out (fun e => by have h : g6 = w3.heap.size := Option.some.inj e; omega) _
    · have hmod : ¬ (m : Int) % 2 = 1 := by omega
      obtain ⟨hqok, hpkb, hqn, hqg⟩ := HQ.out
      have hout2 : out = qs ++ [pk] := by
        rw [← hqg]
        cases f with
        | zero => rfl
        | succ f => rw [growOf, if_neg hodd]
      have hq32 : qs.length ≤ 32 := by rw [hqn]; exact onesF_le _ _
      have t0 : wr.cell? ⟨w.heap.size, 0, none⟩ = some (.int .i64 (many : Int)) := hT.cell 0
      have HPge : w1.heap.size ≤ wr.heap.size := by have := hP.lt; omega
      have t0d : wr.drew.cell? ⟨w.heap.size, 0, none⟩ = some (.int .i64 (many : Int)) := t0
      have HOut2 := Lib.hid hout2
      have HIP := Lib.hid (arr32_info pk (by omega))
      have HSP := Lib.hid (show (arr32 pk).size = i0.size by rw [arr32_size pk (by omega), hz1])
      have ho32 := arr32_size pk (by omega)
      have HRowP := Lib.hid hP.row
      have HO := Lib.hid hO
      have HT := Lib.hid hT
      have HR := Lib.hid hR
      have HB := Lib.hid hB
      have HLt := Lib.hid hO.lt
      have hszr := hP.lt
      have hszr2 := hR.lt
      clear hO hP hT hR hB hqok hqn hqg hout2 HQ
      obtain ⟨cs, hcs⟩ : ∃ cs : List Value, cs.toArray = arr32 pk := ⟨(arr32 pk).toList, by simp⟩
      have hcl : cs.length = 32 := by have := congrArg Array.size hcs; rw [arr32_size pk (by omega)] at this; simpa using this
      have hcsl : cs = cellsOf pk := by rw [cellsOf, ← hcs]
      have hone : ∀ u ∈ cs, u.oneCell' = true := by rw [hcsl]; exact cellsOf_one pk
      have hinfo : (Tryd.prog.info? 26).map (·.size) = some cs.length := by rw [hcl]; exact info32
      have hu26 := Tryd.underlying26
      have hrange : wr.rangeAt w3.heap.size 0 cs := fun j u hj => by
        have h := HRowP.out j u (by rw [← hcs, List.getElem?_toArray]; exact hj)
        rwa [Addr.add_lit] at h
      have hfold := fold_list zero32 cs (by rw [hcl]; rfl)
      have hwr : IntKind.i64.wrap ((many : Int) + 1) = (many : Int) + 1 := IntWalk.i64_in _ (by omega)
      have HOA : Hid (((wr.alloc (.cells cs.toArray 26)).drew).ownsRow w1.heap.size 26 32 vv qs.length (qs.flatMap cellsOf)) := Lib.hid (HO.out.alloc (.cells cs.toArray 26))
      have HNews : Hid (∀ j u, cs[j]? = some u → ((wr.alloc (.cells cs.toArray 26)).drew).cell? ((⟨wr.heap.size, 0, none⟩ : Addr).add j) = some u) := Lib.hid (cell_row_new wr cs.toArray _)
      have HBase : Hid (w1.heap.size ≤ ((wr.alloc (.cells cs.toArray 26)).drew).heap.size) := Lib.hid (by have := HPge; simp; omega)
      have HRA := Lib.hid (HR.out.alloc (.cells cs.toArray 26)).drew
      have HTA := Lib.hid (HT.out.alloc (.cells cs.toArray 26)).drew
      have HBA : Hid (Below w.heap.size w ((wr.alloc (.cells cs.toArray 26)).drew)) := Lib.hid (HB.out.alloc HB.out.size _).drew
      have HRangeA : Hid (((wr.alloc (.cells cs.toArray 26)).drew).rangeAt w3.heap.size 0 cs) := Lib.hid fun j u hj => (World.cell?_alloc_lt _ _ _ hszr).trans (hrange j u hj)
      have HVlt := Lib.hid hvlt
      have HCs := Lib.hid hcsl
      have HOne := Lib.hid hone
      have HCl := Lib.hid hcl
      have hP3 := hszr
      clear hcs hcsl hone
      go_upto_region 13 with (fail)
      go_region_held3 (fun W' => W'.cell? ⟨w.heap.size, 0, none⟩ = some (.int .i64 (many : Int)) ∧ W'.rangeAt w3.heap.size 0 cs)
        (first | with_reducible exact ⟨t0, hrange⟩ | with_reducible exact hS5 | with_reducible exact hS6 _ _ | exact ⟨t0, hrange⟩ | exact ⟨HTA.out.cell 0, HRangeA.out⟩)
        (first
          | (refine step_append_own rfl (.tmp 47) (.tmp 49) 49 rfl w1.heap.size 26 i0 _ 32 32 Tryd.underlying49 hi0 hz0 hz1 hz2 rfl (by decide) _ _ _ rfl HOA.out ⟨wr.heap.size, 0, none⟩ 1 1 cs rfl (by rw [HCl.out]) HNews.out HOne.out (by unfold maxLen; omega) (by omega) HBase.out ?_; intro v' w5 hown5 hgrow5 _; obtain ⟨a7, c7, rfl, _, _⟩ := own_shape hown5; have hR5 := HRA.out.grown hgrow5 (fun e => by have := (HLt.out _ e.symm).1; omega); have hB5 : Below w.heap.size w w5 := HBA.out.grown hgrow5 HBA.out.size (fun j hj => by have := (HLt.out _ hj).1; omega); have hS5 : w5.cell? ⟨w.heap.size, 0, none⟩ = some (.int .i64 (many : Int)) ∧ w5.rangeAt w3.heap.size 0 cs := ⟨(HTA.out.grown hgrow5 (fun e => by have := (HLt.out _ e.symm).1; omega)).cell 0, fun j u hj => hgrow5.cell (HRangeA.out j u hj) (fun e => by have h := HVlt.out _ e.symm; exact absurd h (Nat.lt_irrefl _))⟩; have hS6 : ∀ x y : Value, ((w5.setCell ⟨w.heap.size + 1 + 1, 0, none⟩ x).setCell ⟨w.heap.size + 1 + 1, 1, none⟩ y).cell? ⟨w.heap.size, 0, none⟩ = some (.int .i64 (many : Int)) ∧ ((w5.setCell ⟨w.heap.size + 1 + 1, 0, none⟩ x).setCell ⟨w.heap.size + 1 + 1, 1, none⟩ y).rangeAt w3.heap.size 0 cs := fun x y => ⟨(World.cell?_setCell_other _ _ _ _ (ne_block (by omega))).trans ((World.cell?_setCell_other _ _ _ _ (ne_block (by omega))).trans hS5.1), fun j u hj => (World.cell?_setCell_other _ _ _ _ (ne_block (by omega))).trans ((World.cell?_setCell_other _ _ _ _ (ne_block (by omega))).trans (hS5.2 j u hj))⟩; have r0 : w5.cell? ⟨w.heap.size + 1 + 1, 0, none⟩ = some (.int .i64 0) := hR5.cell 0; have r1 : w5.cell? ⟨w.heap.size + 1 + 1, 1, none⟩ = some (.slice none 0 0) := hR5.cell 1; have f0 : w5.frozen? ⟨w.heap.size + 1 + 1, 0, none⟩ = false := hR5.free 0; have f1 : w5.frozen? ⟨w.heap.size + 1 + 1, 1, none⟩ = false := hR5.free 1; have HR5 := Lib.hid hR5; have HB5 := Lib.hid hB5; have HO5 := Lib.hid hown5; clear hR5 hB5 hown5 hgrow5))
      go_wp2
      have hrow := ((HR5.out.put 0 (.int .i64 ((many : Int) + 1))).put 1 (.slice a7 (qs.length + 1) c7)).of_eq (cs' := #[.int .i64 ((many : Int) + 1), .slice a7 (qs.length + 1) c7]) rfl
      have hfl : out.flatMap cellsOf = qs.flatMap cellsOf ++ cs := by rw [HOut2.out, List.flatMap_append, HCs.out]; simp
      have hol : out.length = qs.length + 1 := by rw [HOut2.out]; simp
      refine bodyPost_ret (results_row_tmp rfl _ _ (w.heap.size + 1 + 1) 57 #[.int .i64 ((many : Int) + 1), .slice a7 (qs.length + 1) c7] (0, 0) _ rfl hrow rfl Tryd.underlying57 treeInfo) rfl ⟨_, rfl, ?_, (HB5.out.setCell (by simp; omega) _).setCell (by simp; omega) _⟩
      rw [hfl, hol]
      exact own_base (own_setCell (own_setCell HO5.out (by simp; omega) _) (by simp; omega) _) (by omega)
end Go.Proofs.YtillghidmfglpaaDoor
end
section
namespace Go.Hoar
open Go Go.RowKit
section
variable {P : Program} {F : Fence} {n : Nat}
/-- A slice literal of one array or struct, inside a fence. -/
theorem armIn_slice1 {ops : Array Oper} {rest : List Oper} {a : Act} {w : World} {Q : Exit → Act → World → Prop} {dst : Option Tmp} {t T : TypeId} {x : Operand} {pos : String} {af : Array Edge}
    (e : TypeId) (ie : TypeInfo) (z : Value) (cs : Array Value) (hu : P.underlying t = some (.slice e)) (hie : P.info? e = some ie) (hz : ie.zero = some z) (hsz : cs.size = ie.size) (hsmall : cs.size ≤ 1000) (hpos : 0 < cs.size)
    (hx : a.eval x = .agg cs) (h : wpListIn F n P ops Q rest (a.put dst (.slice (some ⟨w.heap.size, 0, none⟩) 1 1)) (w.alloc (.cells cs e))) :
    wpListIn F n P ops Q (⟨dst, .buildSlice t 1 #[(0, x)], T, pos, af, none⟩ :: rest) a w := by
  have ht : ∀ A : Array Value, A.toList.toArray = A := fun A => by simp
  have hf := fill_rows cs.size [cs] 0 [] ((Array.range (1 * ie.size)).map (z.cells[· % z.cells.size]!)).toList (fun c hc => by rw [List.mem_singleton.1 hc]) (by simp [hsz]) (by simp)
  rw [hsz] at hf
  have e2 : ((#[(0, x)] : Array (Nat × Operand)).map fun (i, x) => (i, a.eval x)).toList = (([cs].zipIdx 0).map fun x => (x.2, Value.agg x.1)) := by simp [hx]
  rw [List.nil_append, ht] at hf
  have hr := run_buildSlice (P := P) w t e 1 ((#[(0, x)] : Array (Nat × Operand)).map fun (i, x) => (i, a.eval x)) cs ie z hu hie hz (by rw [← hsz]; omega) (by rw [← hsz]; omega) (by rw [e2, hf]; simp)
  exact wpListIn_plain rfl fun K hK => by
    unfold Oper.wpIn
    refine ⟨by simp [Oper.about], ?_⟩
    rw [Oper.semAt_plain F _ _ (by intro c hc'; cases hc')]
    unfold execOp
    simp only [Sem.run_bind, hr, Result.andThen_ok, Sem.run_pure]
    exact hK _ _ h
end
end Go.Hoar
namespace Go.Proofs.YtillghidmfglpaaDoor
open Go.RowKit Go.Hoar Go.Maps Go.Shelf
attribute [local go_sem] Oper.semAt_some
def digCells (ys : List Dig) : List Value := ys.flatMap fun d => cellsOf d.1
set_option maxRecDepth 100000 in
set_option maxHeartbeats 2000000 in
theorem appendSeq_any {gf : Nat} {lb : Array Value} {S : List Dig → Prop} {N : Nat} (hN : N ≤ 1000000) (eg : ∀ args w, (callFunc gf args).run Tryd.prog w = .ok (.enter gf args) w) (w : World)
    (hseq : ∀ n, 1 ≤ n → SeqStopsK Fence.wide n Tryd.prog gf lb (fun x : Dig => #[Value.agg (arr32 x.1)]) KeepsWalks S (fun _ => True) N w) :
    Calls Tryd.prog 112 #[.slice none 0 0, .func (.func gf) #[] lb] w fun e w' => ∃ v ys, e = .returned v ∧ S ys ∧ w'.ownsRow w.heap.size 26 32 v ys.length (digCells ys) ∧ Below w.heap.size w w' := by
  obtain ⟨i0, hi0, hz0, hz1, hz2⟩ := info_parts sumInfo3
  refine (callsIn_wide (n := 3)).1 ?_
  refine callsIn_of_wp_marks Tryd.func112 rfl trivial ?_ rfl
  simp only [Tryd.ntmps112, List.size_toArray, List.length_cons, List.length_nil, Nat.reduceAdd, Nat.reduceSub, Array.replicate_succ, Array.replicate_zero, List.push_toArray, List.append_toArray, List.nil_append, List.cons_append]
  gi_wp2_with (fail)
  obtain ⟨Wl, hWl⟩ : ∃ Wl, Wl = w.alloc (.cells #[.slice none 0 0] 49) := ⟨_, rfl⟩
  rw [← hWl]
  have hbl : Below w.heap.size w Wl := hWl ▸ (Below.refl _ w).alloc (Nat.le_refl _) _
  have hbox : Boxed Wl w.heap.size 49 (.slice none 0 0) := hWl ▸ Boxed.new w _ _
  have hszl : Wl.heap.size = w.heap.size + 1 := by rw [hWl]; simp
  clear hWl
  refine wpIn_rangeFunc_ownH rfl (by omega) (gf := gf) (lb := lb) rfl trivial eg (hseq _ (by omega)) (fun h k => h.trans k) (fun A l o o' _ ho _ hw => KeepsWalks.putObj _ ho hw) hbl (fun x => rfl)
    (fun pre A => (∃ v, Boxed A w.heap.size 49 v ∧ A.ownsRow w.heap.size 26 32 v pre.length (digCells pre) ∧ True) ∧ Below w.heap.size w A)
    (fun _ _ _ => False) ?own (fun _ _ _ _ _ hs _ _ => hs) ⟨⟨_, hbox, World.ownsRow_nil _ _ _ _, trivial⟩, hbl⟩
    (fun x a' A => ∃ p, w.heap.size < p ∧ a' = { tmps := #[.slice none 0 0, .func (.func gf) #[] lb, .pointer (some ⟨w.heap.size, 0, none⟩), undef, .slice none 0 0, .pointer (some ⟨p, 0, none⟩), .func (.func gf) #[] lb, .agg (arr32 x.1), undef, undef, undef, undef, undef], defers := [] } ∧ Has A p 26 (arr32 x.1)) ?ax ?assign ?body ?done ?stop
  case own =>
    exact OwnFrom.and (Own.from (holdsRow_own w.heap.size w.heap.size 49 26 32 (fun pre : List Dig => pre.length) digCells (fun _ _ => True)) _) (ownFrom_below (Nat.le_refl _) (by omega))
  case ax =>
    rintro x a' _ A B row ⟨p, hp, ha, hP⟩ hg hr
    refine ⟨p, hp, ha, hP.grown hg (fun e => ?_)⟩
    obtain ⟨_, o, ho, hc⟩ := hr p e.symm
    rw [show A.heap[p]? = _ from hP] at ho
    cases ho
    cases hc
  case assign =>
    rintro l pre x W K hI hK
    have hx32 := x.2.1
    have HF := Lib.hid (fresh_sum W)
    have HSz := Lib.hid (zero32_size x.1 (by omega))
    have HI := Lib.hid (arr32_info x.1 (by omega))
    gi_wp2_with ((with_reducible refine stopIn (ty := 26) ?_))
    refine armIn_store (ty := 26) W.heap.size (arr32 x.1) 26 zero32 HF.out HSz.out HI.out (arr32_one _) ?k1 ?k2 ?_
    case k1 => rfl
    case k2 => rfl
    refine gen_world (P := fun W => wpListIn _ _ _ _ _ _ _ W) (I := fun V => Below W.heap.size W V ∧ Has V W.heap.size 26 (arr32 x.1)) _ ⟨below_setRow ((Below.refl _ W).alloc (Nat.le_refl _) _) (Nat.le_refl _) _, HF.out.setRow⟩ ?_
    rintro V ⟨hBV, hXV⟩
    have hg0 : W.grownBy V none := ⟨hBV.os, hBV.tape, hBV.output, hBV.size, fun k hk _ => hBV.block k hk⟩
    have hks : KeepsOthers W V := KeepsOthers.of_grownBy hg0 (fun j o e => by cases e)
    gi_wp2
    exact hK _ _ (hks.from _) hks.walks ⟨holdsRow_own w.heap.size w.heap.size 49 26 32 (fun pre : List Dig => pre.length) digCells (fun _ _ => True) pre W V none hI.1 hg0 (fun r e => by cases e), hI.2.trans (hBV.mono hI.2.size)⟩ ⟨W.heap.size, hI.1.choose_spec.1.lt, rfl, hXV⟩
  case body =>
    rintro l pre x a' W hlD hl ⟨⟨v, hv, hrow, -⟩, hB⟩ ⟨p, hp, rfl, hP⟩ hlt
    have hc := hv.cell
    have hx32 := x.2.1
    gi_wp2_with ((with_reducible refine stopInL (ty := 26) ?_))
    refine armIn_load (ty := 26) ⟨p, 0, none⟩ (arr32 x.1) _ hP.row Tryd.underlying26 (arr32_info x.1 (by omega)) ?j1 ?j2 ?_
    case j1 => rfl
    case j2 => rfl
    refine armIn_slice1 26 i0 (.agg zero32) (arr32 x.1) Tryd.underlying49 hi0 hz0 (by rw [hz1, arr32_size _ (by omega)]) (by rw [arr32_size _ (by omega)]; omega) (by rw [arr32_size _ (by omega)]; omega) rfl ?_
    refine wpListIn_append_own _ rfl _ _ 49 rfl w.heap.size 26 i0 (.agg zero32) 32 32 Tryd.underlying49 hi0 hz0 hz1 hz2 rfl (by decide) _ _ _ rfl (hrow.alloc _) ⟨W.heap.size, 0, none⟩ 1 1 (arr32 x.1).toList rfl ?n1 ?n2 ?n3 (by unfold maxLen; omega) (by omega) (by have := hB.size; simp; omega) ?_
    case n1 => simp [arr32_size x.1 (by omega)]
    case n2 =>
      intro j u hj
      have h := (Has.fresh W 26 (arr32 x.1)).cell j
      have e : (⟨W.heap.size, 0, none⟩ : Addr).add j = ⟨W.heap.size, j, none⟩ := by
        simp only [Addr.add, Nat.zero_add]
        split
        · next hz => rw [hz]
        · rfl
      rw [e, h, ← hj, Array.getElem?_toList]
    case n3 =>
      intro u hu
      exact (Array.all_eq_true'.1 (arr32_one x.1)) u (by simpa using hu)
    intro v' w1 hown' hgrow _
    obtain ⟨g', cap', rfl⟩ := ownsRow_succ hown'
    obtain ⟨hv1, hv2, hr2, hk2, hb2⟩ := hv.appended (by decide) hrow hB.size (Nat.le_refl _) hown' hgrow
    have hc1 := hv1.cell
    have hf1 := hv1.frozen
    gi_wp2
    refine ⟨hk2.from _, hk2.walks, ⟨_, hv2, ?_, trivial⟩, hB.trans hb2⟩
    have e : digCells (pre ++ [x]) = digCells pre ++ (arr32 x.1).toList := by simp [digCells, cellsOf]
    rw [e]
    simpa using hr2
  case done =>
    rintro D ys W hD hS ⟨⟨v, hv, hrow, -⟩, hB⟩ hK
    have hc := hv.cell
    gi_wp2
    refine ⟨by simp, .inl ⟨_, _, rfl, run_takeDeferred hK, ?_⟩⟩
    exact ⟨_, results_tmp rfl _ _ _, v, ys, rfl, hS, ownsRow_putObj hrow _ hK rfl, hB.trans (belowK_b (w := w) (Nat.le_refl _) W D _ _ (by omega) hK rfl rfl)⟩
  case stop =>
    rintro D c pre W _ _ h _
    exact h.elim
end Go.Proofs.YtillghidmfglpaaDoor
end
section
namespace Go.Proofs.YtillghidmfglpaaDoor
open Go.RowKit Go.Hoar
def asInts (l : List Nat) : List Int := l.map fun (x : Nat) => (Int.ofNat x)
/-- Which of two lists of bytes comes first: -1, 0, 1. -/
def comp (l m : List Nat) : Int := Lib.compareBytes (Lib.bytesOf (asInts l)) (Lib.bytesOf (asInts m))
theorem load_part {V : World} {g off : Nat} {l : List Nat} (h : BytesAt V g off l.length l) : (Extern.Bytes.loadBytes ⟨g, off, none⟩ l.length .empty).run Tryd.prog V = .ok ⟨(Lib.bytesOf (asInts l)).toArray⟩ V := by
  have hl := Lib.run_loadBytesX (P := Tryd.prog) V (asInts l) ⟨g, off, none⟩ .empty (fun j x hj => by
    rw [asInts, List.getElem?_map] at hj
    obtain ⟨y, hy, rfl⟩ := Option.map_eq_some_iff.1 hj
    have hjl := (List.getElem?_eq_some_iff.1 hy).1
    have e : (⟨g, off, none⟩ : Addr).add j = ⟨g, off + j, none⟩ := by unfold Addr.add; split <;> simp_all
    rw [e, h j hjl, List.getD_eq_getElem?_getD, hy]
    rfl)
  have e : (asInts l).length = l.length := by simp [asInts]
  rw [e] at hl
  rw [hl]
  have e2 : ∀ a : Array UInt8, ByteArray.empty.data ++ a = a := fun a => Array.empty_append
  rw [e2]
theorem run_compareParts {V : World} {g1 o1 g2 o2 c1 c2 : Nat} {l m : List Nat} (h1 : BytesAt V g1 o1 l.length l) (h2 : BytesAt V g2 o2 m.length m) :
    (Extern.BytealgCompare.compare #[.slice (some ⟨g1, o1, none⟩) l.length c1, .slice (some ⟨g2, o2, none⟩) m.length c2]).run Tryd.prog V = .ok (.int .i64 (comp l m)) V := by
  change Sem.run Tryd.prog (do pure (goInt (Extern.BytealgCompare.cmp (← Extern.Bytes.bytesOf (.slice (some ⟨g1, o1, none⟩) l.length c1)) (← Extern.Bytes.bytesOf (.slice (some ⟨g2, o2, none⟩) m.length c2))))) V = _
  simp only [Extern.Bytes.bytesOf, Sem.run_bind, load_part h1, load_part h2, Sem.run_pure, Result.andThen]
  rw [Lib.cmp_eq]
  rfl
set_option maxRecDepth 100000 in
theorem bytesCompare_any {V : World} {g1 o1 g2 o2 c1 c2 n k : Nat} {l m : List Nat} (h1 : BytesAt V g1 o1 l.length l) (h2 : BytesAt V g2 o2 m.length m) (hn : n = l.length) (hk : k = m.length) :
    Calls Tryd.prog 66 #[.slice (some ⟨g1, o1, none⟩) n c1, .slice (some ⟨g2, o2, none⟩) k c2] V fun e w' => e = .returned (.int .i64 (comp l m)) ∧ w' = V := by
  subst hn hk
  have HR := Lib.hid (run_compareParts (c1 := c1) (c2 := c2) h1 h2)
  clear h1 h2
  go_enter Tryd.func66, Tryd.ntmps66
  go_wp2
  rw [run_callFunc_extern Tryd.func93 (by kernel_rfl) (by kernel_rfl) (by kernel_rfl) (e := Extern.BytealgCompare.compare) (by kernel_rfl), HR.out]
  simp only [Result.andThen]
  rw [Oper.upon_value]
  go_wp2
  go_ret
  exact ⟨rfl, rfl⟩
set_option maxRecDepth 100000 in
set_option maxHeartbeats 1000000 in
theorem compare_any (l m : List Nat) (hl : l.length = 32) (hm : m.length = 32) (w : World) :
    Calls Tryd.prog 30 #[.agg (arr32 l), .agg (arr32 m)] w fun e w' => e = .returned (.int .i64 (comp l m)) ∧ Below w.heap.size w w' := by
  go_enter Tryd.func30, Tryd.ntmps30
  go_upto_region 1 with (fail)
  refine gen_world (P := fun W => Code.wp _ _ _ _ W) (I := fun W => Below w.heap.size w W ∧ Has W w.heap.size 26 (arr32 l) ∧ Has W (w.heap.size + 1) 26 (arr32 m)) _ ⟨((Below.refl _ w).alloc (Nat.le_refl _) _).alloc (by simp) _, (Has.fresh_at _ _ _ _ rfl).alloc _, Has.fresh_at _ _ _ _ (by simp)⟩ ?_
  rintro W ⟨hB, hL, hM⟩
  have hbl : BytesAt W w.heap.size 0 l.length l := fun i hi => by rw [hL.cell, Nat.zero_add]; exact arr32_get l hl i (by omega)
  have hbm : BytesAt W (w.heap.size + 1) 0 m.length m := fun i hi => by rw [hM.cell, Nat.zero_add]; exact arr32_get m hm i (by omega)
  have hcall : ∀ V, Below W.heap.size W V → Calls Tryd.prog 66 #[.slice (some ⟨w.heap.size, 0, none⟩) 32 32, .slice (some ⟨w.heap.size + 1, 0, none⟩) 32 32] V fun e w' => e = .returned (.int .i64 (comp l m)) ∧ w' = V := fun V hv =>
    bytesCompare_any (V := V) (fun i hi => (hv.cell hL.lt).trans (hbl i hi)) (fun i hi => (hv.cell hM.lt).trans (hbm i hi)) hl.symm hm.symm
  have HB := Lib.hid hB
  have HCall := Lib.hid hcall
  clear hB hL hM hbl hbm hcall
  go_region_held3 (fun W' => True) (exact trivial) (first | (go_at_call 66; refine (HCall.out _ (by repeat (first | with_reducible assumption | with_reducible exact Below.refl _ _ | with_reducible refine Below.drew ?_ | with_reducible refine Below.setCell ?_ (by first | (with_reducible assumption) | (dsimp only; omega) | (simp; done)) _ | with_reducible refine Below.alloc ?_ (by first | omega | (simp; done) | (simp; omega)) _))).mono ?_; rintro e w' ⟨rfl, rfl⟩))
  go_wp2
  go_ret
  exact ⟨rfl, HB.out.drew⟩
end Go.Proofs.YtillghidmfglpaaDoor
end
