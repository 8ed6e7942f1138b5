/-
  YtillghidmfglpaaDoorAlike
  · YtillghidmfglpaaDoorSort
  · THE CONTRACT OF slices.SortFunc at this program's numbers, out of the library's general theorems.
  · YtillghidmfglpaaDoorSorted
  · A MAP's ENTRY, TAKEN AND STORED LATER ('m[a], m[b] = x, y' takes the first one's entry ahead of its store): where the key is there already, taking the entry turns nothing, and the store is an update. It speaks of no program.
-/
import Derived.Test.YtillghidmfglpaaDoorMDgd
import Derived.Shelf.SlSortCmp.NoneTotal
import Derived.Ground.SlsfProg
import Derived.Shelf.SlGeneric
import Derived.Test.YtillghidmfglpaaDoorProg
import Derived.Test.YtillghidmfglpaaDoorMDgc
import Derived.WideKeyEntry
import Derived.Maps.Own
import Derived.Maps.OwnSet
import Derived.Test.YtillghidmfglpaaDoorMDgb
import Derived.Deep.RegionHeld3
import Derived.WalkMore
import Derived.Shelf.Abstract
section
namespace Go.Proofs.YtillghidmfglpaaDoor
open Go.RowKit Go.Hoar Go.Maps Go.Shelf Go.Sort
attribute [local go_sem] Oper.semAt_some
instance : Inhabited Dig := ⟨⟨List.replicate 32 0, by simp, fun x hx => by rw [List.eq_of_mem_replicate hx]; omega⟩⟩
set_option maxRecDepth 100000 in
set_option maxHeartbeats 1000000 in
theorem compare_grow (l m : List Nat) (hl : l.length = 32) (hm : m.length = 32) (w : World) :
    Calls Tryd.prog 30 #[.agg (arr32 l), .agg (arr32 m)] w fun e w' => e = .returned (.int .i64 (comp l m)) ∧ ∃ q os', w' = grow (w.drewN q) os' := by
  go_enter Tryd.func30, Tryd.ntmps30
  go_upto_region 1 with (fail)
  refine gen_world (P := fun W => Code.wp _ _ _ _ W) (I := fun W => (∃ os, W = grow w os) ∧ Has W w.heap.size 26 (arr32 l) ∧ Has W (w.heap.size + 1) 26 (arr32 m)) _ ⟨⟨_, by rw [alloc_eq_grow, alloc_eq_grow, grow_grow]⟩, (Has.fresh_at _ _ _ _ rfl).alloc _, Has.fresh_at _ _ _ _ (by simp)⟩ ?_
  rintro W ⟨hB, hL, hM⟩
  have hbl : BytesAt W w.heap.size 0 l.length l := fun i hi => by rw [hL.cell, Nat.zero_add]; exact arr32_get l hl i (by omega)
  have hbm : BytesAt W (w.heap.size + 1) 0 m.length m := fun i hi => by rw [hM.cell, Nat.zero_add]; exact arr32_get m hm i (by omega)
  have hcall : ∀ V, Below W.heap.size W V → Calls Tryd.prog 66 #[.slice (some ⟨w.heap.size, 0, none⟩) 32 32, .slice (some ⟨w.heap.size + 1, 0, none⟩) 32 32] V fun e w' => e = .returned (.int .i64 (comp l m)) ∧ w' = V := fun V hv =>
    bytesCompare_any (V := V) (fun i hi => (hv.cell hL.lt).trans (hbl i hi)) (fun i hi => (hv.cell hM.lt).trans (hbm i hi)) hl.symm hm.symm
  have HB := Lib.hid hB
  have HCall := Lib.hid hcall
  clear hB hL hM hbl hbm hcall
  go_region_held3 (fun W' => True) (exact trivial) (first | (go_at_call 66; refine (HCall.out _ (by repeat (first | with_reducible assumption | with_reducible exact Below.refl _ _ | with_reducible refine Below.drew ?_ | with_reducible refine Below.setCell ?_ (by first | (with_reducible assumption) | (dsimp only; omega) | (simp; done)) _ | with_reducible refine Below.alloc ?_ (by first | omega | (simp; done) | (simp; omega)) _))).mono ?_; rintro e w' ⟨rfl, rfl⟩))
  go_wp2
  go_ret
  obtain ⟨os, rfl⟩ := HB.out
  exact ⟨rfl, 1, os, rfl⟩
/-! ### The order of bytes -/
theorem compareBytes_lt : ∀ a b : List UInt8, Lib.compareBytes a b < 0 ↔ a < b
  | [], [] => by simp [Lib.compareBytes]
  | [], _ :: _ => by simp [Lib.compareBytes]
  | _ :: _, [] => by simp [Lib.compareBytes]
  | a :: r, b :: s => by
    rw [List.cons_lt_cons_iff]
    unfold Lib.compareBytes
    by_cases h1 : a < b
    · simp [h1]
    · by_cases h2 : b < a
      · have h3 : a ≠ b := fun e => by subst e; exact h1 h2
        simp [h1, h2, h3]
      · have h3 : a = b := UInt8.le_antisymm (UInt8.not_lt.1 h2) (UInt8.not_lt.1 h1)
        subst h3
        simpa [h1] using compareBytes_lt r s
def comp2 (x y : Dig) : Int := comp x.1 y.1
def keyL (x : Dig) : List UInt8 := Lib.bytesOf (asInts x.1)
theorem ltOf_comp (x y : Dig) : ltOf comp2 x y = decide (keyL x < keyL y) := by
  unfold ltOf
  exact decide_eq_decide.2 (compareBytes_lt _ _)
theorem keyL_inj {x y : Dig} (h : keyL x = keyL y) : x = y := by
  apply Subtype.ext
  unfold keyL Lib.bytesOf asInts at h
  rw [List.map_map, List.map_map] at h
  have hl : x.1.length = y.1.length := by rw [x.2.1, y.2.1]
  apply List.ext_getElem hl
  intro i h1 h2
  have h3 := congrArg (fun z => z[i]?) h
  simp only [List.getElem?_map, List.getElem?_eq_getElem h1, List.getElem?_eq_getElem h2, Option.map_some, Option.some.injEq, Function.comp_apply] at h3
  have a1 := x.2.2 _ (List.getElem_mem h1)
  have a2 := y.2.2 _ (List.getElem_mem h2)
  have h4 := congrArg UInt8.toNat h3
  simpa [Nat.mod_eq_of_lt a1, Nat.mod_eq_of_lt a2] using h4
theorem swo_comp : SWO (ltOf comp2) where
  irrefl x := by rw [ltOf_comp]; simp [List.lt_irrefl]
  trans x y z h1 h2 := by
    rw [ltOf_comp] at *
    simp only [decide_eq_true_eq] at *
    exact List.lt_trans h1 h2
  ntrans x y z h1 h2 := by
    rw [ltOf_comp] at *
    simp only [decide_eq_false_iff_not, List.not_lt] at *
    exact List.le_trans h2 h1
theorem tot_comp (x y : Dig) (h1 : ltOf comp2 x y = false) (h2 : ltOf comp2 y x = false) : x = y := by
  rw [ltOf_comp] at *
  simp only [decide_eq_false_iff_not, List.not_lt] at *
  exact keyL_inj (List.le_antisymm h2 h1)
/-- Digests in their order. -/
def rising (ys : List Dig) : List Dig := ys.mergeSort fun x y => !(ltOf comp2) y x
end Go.Proofs.YtillghidmfglpaaDoor
end
section
namespace Go.Proofs
open Go.Shelf
def Tryd.sortSum_ren : Go.Shelf.Ren := ⟨fun | 6 => 100 | 15 => 109 | 14 => 113 | 28 => 116 | 29 => 117 | 20 => 118 | 21 => 119 | 22 => 120 | 23 => 121 | 24 => 122 | 25 => 123 | 26 => 124 | 27 => 125 | 46 => 126 | 47 => 127 | 48 => 128 | 49 => 129 | 50 => 130 | 57 => 131 | n => n, fun | 22 => 49 | 24 => 26 | 25 => 47 | 3 => 3 | 39 => 97 | 0 => 0 | 53 => 30 | 55 => 120 | 4 => 4 | 46 => 162 | 45 => 161 | 50 => 166 | 5 => 5 | 9 => 9 | 66 => 168 | 70 => 172 | 76 => 174 | 77 => 175 | n => n, fun | n => n⟩
theorem Tryd.sortSum : Go.Proofs.SlLaysF0.n6 Tryd.prog Tryd.sortSum_ren := {
  mixed := by kernel_rfl
  f6 := ⟨Tryd.f100.name, by decide, Tryd.func100.trans (congrArg some (by kernel_rfl))⟩
  f14 := ⟨Tryd.f113.name, by decide, Tryd.func113.trans (congrArg some (by kernel_rfl))⟩
  f15 := Tryd.func109.trans (congrArg some (by kernel_rfl))
  f20 := ⟨Tryd.f118.name, by decide, Tryd.func118.trans (congrArg some (by kernel_rfl))⟩
  f21 := ⟨Tryd.f119.name, by decide, Tryd.func119.trans (congrArg some (by kernel_rfl))⟩
  f22 := ⟨Tryd.f120.name, by decide, Tryd.func120.trans (congrArg some (by kernel_rfl))⟩
  f23 := ⟨Tryd.f121.name, by decide, Tryd.func121.trans (congrArg some (by kernel_rfl))⟩
  f24 := ⟨Tryd.f122.name, by decide, Tryd.func122.trans (congrArg some (by kernel_rfl))⟩
  f25 := ⟨Tryd.f123.name, by decide, Tryd.func123.trans (congrArg some (by kernel_rfl))⟩
  f26 := ⟨Tryd.f124.name, by decide, Tryd.func124.trans (congrArg some (by kernel_rfl))⟩
  f27 := ⟨Tryd.f125.name, by decide, Tryd.func125.trans (congrArg some (by kernel_rfl))⟩
  f28 := Tryd.func116.trans (congrArg some (by kernel_rfl))
  f29 := Tryd.func117.trans (congrArg some (by kernel_rfl))
  f46 := ⟨Tryd.f126.name, by decide, Tryd.func126.trans (congrArg some (by kernel_rfl))⟩
  f47 := Tryd.func127.trans (congrArg some (by kernel_rfl))
  f48 := Tryd.func128.trans (congrArg some (by kernel_rfl))
  f49 := ⟨Tryd.f129.name, by decide, Tryd.func129.trans (congrArg some (by kernel_rfl))⟩
  f50 := ⟨Tryd.f130.name, by decide, Tryd.func130.trans (congrArg some (by kernel_rfl))⟩
  f57 := ⟨Tryd.f131.name, by decide, Tryd.func131.trans (congrArg some (by kernel_rfl))⟩
  t0 := Tryd.underlying0
  a0 := Tryd.isAgg0
  z0 := Tryd.sizeOf0
  v0 := Tryd.zeroValue0
  t3 := Tryd.underlying3
  a3 := Tryd.isAgg3
  z3 := Tryd.sizeOf3
  v3 := Tryd.zeroValue3
  t4 := Tryd.underlying4
  a4 := Tryd.isAgg4
  z4 := Tryd.sizeOf4
  v4 := Tryd.zeroValue4
  t5 := Tryd.underlying5
  a5 := Tryd.isAgg5
  z5 := Tryd.sizeOf5
  v5 := Tryd.zeroValue5
  t9 := Tryd.underlying9
  a9 := Tryd.isAgg9
  z9 := Tryd.sizeOf9
  v9 := Tryd.zeroValue9
  t22 := Tryd.underlying49
  a22 := Tryd.isAgg49
  z22 := Tryd.sizeOf49
  v22 := Tryd.zeroValue49
  t25 := Tryd.underlying47
  a25 := Tryd.isAgg47
  z25 := Tryd.sizeOf47
  v25 := Tryd.zeroValue47
  t39 := Tryd.underlying97
  a39 := Tryd.isAgg97
  z39 := Tryd.sizeOf97
  v39 := Tryd.zeroValue97
  t45 := Tryd.underlying161
  a45 := Tryd.isAgg161
  z45 := Tryd.sizeOf161
  v45 := Tryd.zeroValue161
  t46 := Tryd.underlying162
  a46 := Tryd.isAgg162
  z46 := Tryd.sizeOf162
  v46 := Tryd.zeroValue162
  t50 := Tryd.underlying166
  a50 := Tryd.isAgg166
  z50 := Tryd.sizeOf166
  v50 := Tryd.zeroValue166
  t53 := Tryd.underlying30
  a53 := Tryd.isAgg30
  z53 := Tryd.sizeOf30
  v53 := Tryd.zeroValue30
  t55 := Tryd.underlying120
  a55 := Tryd.isAgg120
  z55 := Tryd.sizeOf120
  v55 := Tryd.zeroValue120
  t66 := Tryd.underlying168
  a66 := Tryd.isAgg168
  z66 := Tryd.sizeOf168
  v66 := Tryd.zeroValue168
  t70 := Tryd.underlying172
  a70 := Tryd.isAgg172
  z70 := Tryd.sizeOf172
  v70 := Tryd.zeroValue172
  t76 := Tryd.underlying174
  a76 := Tryd.isAgg174
  z76 := Tryd.sizeOf174
  v76 := Tryd.zeroValue174
  t77 := Tryd.underlying175
  a77 := Tryd.isAgg175
  z77 := Tryd.sizeOf175
  v77 := Tryd.zeroValue175 }
end Go.Proofs
end
section
namespace Go.Proofs.YtillghidmfglpaaDoor
open Go.RowKit Go.Hoar Go.Maps Go.Shelf Go.Sort
attribute [local go_sem] Oper.semAt_some
theorem below_grow (B : Nat) (w : World) (os : Array Obj) (hB : B ≤ w.heap.size) : Go.RowKit.Below B w (grow w os) :=
  ⟨rfl, rfl, rfl, by simp [grow], fun k hk => by simp only [grow]; rw [Array.getElem?_append_left (by omega)]⟩
def encD (x : Dig) : List Value := cellsOf x.1
theorem encD_len (x : Dig) : (encD x).length = 32 := by
  have := arr32_size x.1 (by have := x.2.1; omega)
  simpa [encD, cellsOf] using this
theorem cmpLays_any (blk off size : Nat) (w : World) : CmpLays Tryd.prog 30 #[] encD 32 comp2 blk off size w :=
  fun _ _ _ _ x y => compare_grow x.1 y.1 x.2.1 y.2.1 _
set_option maxHeartbeats 1000000 in
theorem sortSums_any (ys : List Dig) (v : Value) (base : Nat) (w : World) (hn : ys.length ≤ 1000000) (hb : base ≤ w.heap.size) (h : w.ownsRow base 26 32 v ys.length (digCells ys)) :
    Calls Tryd.prog 100 #[v, .func (.func 30) #[] #[]] w fun e w' => e = .returned (.tuple #[]) ∧ w'.ownsRow base 26 32 v ys.length (digCells (rising ys)) ∧ Go.RowKit.Below base w w' := by
  obtain ⟨a, c, rfl, hc, hcm⟩ := own_shape h
  by_cases h0 : ys.length = 0
  · have hy : ys = [] := List.length_eq_zero_iff.1 h0
    subst hy
    refine (AnyF.slices_SortFunc_none Tryd.sortSum a c _ w).mono ?_
    rintro e w' ⟨rfl, rfl⟩
    have hr : rising ([] : List Dig) = [] := by simp [rising]
    rw [hr]
    exact ⟨rfl, h, Go.RowKit.Below.refl _ _⟩
  · obtain ⟨g, rfl, hg, hgl⟩ := own_addr h (by omega)
    have eg : ∀ args w, (callFunc 30 args).run Tryd.prog w = .ok (.enter 30 args) w := enters_of Tryd.func30 (by kernel_rfl) rfl
    have hd : ys.toArray.toList.flatMap encD = digCells ys := rfl
    rw [← hd] at h
    have hH := own_holdsK encD_len (by omega) h
    have hz : ys.toArray.size = ys.length := by simp
    have hcon := AnyQ.slices_SortFunc_total Tryd.sortSum 32 Tryd.isAgg26 Tryd.sizeOf26 encD encD_len (fun x u hu => cellsOf_one x.1 u hu) comp2 swo_comp 30 #[] g 0 c ys.toArray w eg (cmpLays_any g 0 _ w) hH hgl (by rw [hz]; omega) tot_comp
    rw [hz] at hcon
    refine hcon.mono ?_
    rintro e w' ⟨rfl, m, os, rfl⟩
    have hp : (rising ys).length = ys.length := (List.mergeSort_perm _ _).length_eq
    obtain ⟨ho, hbl⟩ := own_putK encD_len (by omega) h (d' := (rising ys).toArray) (by simp [hp]) m
    refine ⟨rfl, ?_, ?_⟩
    · exact own_below ho (below_grow _ _ _ (Nat.le_refl _))
    · exact hbl.trans ((below_grow _ _ _ (Nat.le_refl _)).mono (Nat.le_trans hb hbl.size))
set_option maxHeartbeats 1000000 in
theorem collect_any {gf : Nat} {lb : Array Value} {S : List Dig → Prop} {N : Nat} (hN : N ≤ 1000000) (eg : ∀ args w, (callFunc gf args).run Tryd.prog w = .ok (.enter gf args) w) (w : World)
    (hseq : ∀ n, 1 ≤ n → SeqStopsK Fence.wide n Tryd.prog gf lb (fun x : Dig => #[Value.agg (arr32 x.1)]) KeepsWalks S (fun _ => True) N w) :
    Calls Tryd.prog 99 #[.func (.func gf) #[] lb] w fun e w' => ∃ v ys, e = .returned v ∧ S ys ∧ w'.ownsRow w.heap.size 26 32 v ys.length (digCells ys) ∧ Go.RowKit.Below w.heap.size w w' := by
  have HA := Lib.hid (appendSeq_any hN eg w hseq)
  go_enter Tryd.func99, Tryd.ntmps99
  go_wp2_with (go_at_call 112; refine HA.out.mono ?_; rintro e w' ⟨v, ys, rfl, hS, ho, hb⟩)
  go_ret
  exact ⟨_, ys, rfl, hS, ho, hb⟩
set_option maxHeartbeats 1000000 in
theorem sortedFunc_any {gf : Nat} {lb : Array Value} {S : List Dig → Prop} {N : Nat} (hN : N ≤ 1000000) (hSN : ∀ ys, S ys → ys.length ≤ 1000000) (eg : ∀ args w, (callFunc gf args).run Tryd.prog w = .ok (.enter gf args) w) (w : World)
    (hseq : ∀ n, 1 ≤ n → SeqStopsK Fence.wide n Tryd.prog gf lb (fun x : Dig => #[Value.agg (arr32 x.1)]) KeepsWalks S (fun _ => True) N w) :
    Calls Tryd.prog 78 #[.func (.func gf) #[] lb, .func (.func 30) #[] #[]] w fun e w' => ∃ v ys, e = .returned v ∧ S ys ∧ w'.ownsRow w.heap.size 26 32 v ys.length (digCells (rising ys)) ∧ Go.RowKit.Below w.heap.size w w' := by
  have HA := Lib.hid (collect_any hN eg w hseq)
  go_enter Tryd.func78, Tryd.ntmps78
  go_wp2_with (first
    | (go_at_call 99; refine HA.out.mono ?_; rintro e w1 ⟨v, ys, rfl, hS, ho, hb⟩; obtain ⟨a, c, rfl, hc, hcm⟩ := own_shape ho; have HSo := Lib.hid (sortSums_any ys _ _ w1 (hSN ys hS) hb.size ho); have HB := Lib.hid hb; clear ho hb)
    | (go_at_call 100; refine HSo.out.mono ?_; rintro e w2 ⟨rfl, ho2, hb2⟩; have HO2 := Lib.hid ho2; have HB2 := Lib.hid hb2; clear ho2 hb2))
  go_ret
  exact ⟨_, ys, rfl, hS, HO2.out, HB.out.trans HB2.out⟩
end Go.Proofs.YtillghidmfglpaaDoor
end
section
namespace Go.Hoar
open Go Go.ChangeMaps Go.MapKept Go.Maps
open Go.WideElems (Fit entry_then_store)
theorem setBlock_at {w : World} {b : Nat} {es : Array MapEntry} {c : Nat} {o' : Obj} (hb : w.heap[b]? = some (.map es c)) : (setBlock w b o').heap[b]? = some o' := heap_setBlock_same hb _
section
variable {H : Type} {P : Program} {w : World} {t k e : TypeId} {R : Value → Option (DataW H × List MemPlace)} {b n : Nat} {D : DataW H}
/-- The same block, the same map. -/
theorem ownsMap_same {w w' : World} (h : w.ownsMap P k R b n D) (hb : w'.heap[b]? = w.heap[b]?) : w'.ownsMap P k R b n D := by
  obtain ⟨es, clock, h1, F, hs, hD⟩ := h
  exact ⟨es, clock, hb.trans h1, F, hs, hD⟩
theorem entry_here (h : w.ownsMap P k R b n D) (L : Go.WideMaps.KeyLaw P k) (K : Keyed P k) (ht : P.underlying t = some (.map k e)) {z : Value} (hz : ∀ u : World, (zeroValue e).run P u = .ok z u) (hn : n < maxLen)
    {key : Value} {kl : Lit} (hkey : keyOf P k key = some kl) (hh : has D kl = true) :
    ∃ (v0 : Value) (st : Nat), (Instr.mapEntry t (.map (some b)) key).run P w = .ok (.tuple #[v0, goInt st]) w ∧
      ∀ (w2 : World) (val : Value) (d : DataW H) (ps : List MemPlace), w2.heap[b]? = w.heap[b]? → R val = some (d, ps) →
        ∃ w3, (Instr.entryStore t (.map (some b)) (goInt st) val).run P w2 = .ok () w3 ∧ w3.ownsMap P k R b (n + 1) (D.put kl d) ∧ w2.grownBy w3 (some b) := by
  have hown := h
  obtain ⟨es, clock, hb, F, hs, rfl⟩ := h
  obtain ⟨v0, st, es1, clock1, hrun, -, hst⟩ := entry_then_store L ht hz hb F hkey
  have hself : ∃ v, (Instr.mapEntry t (.map (some b)) key).run P w = .ok v w := by
    rcases L.find w hkey es.toList F.keys with ⟨h1, h2⟩ | ⟨j, e0, h1, h2, h3⟩
    · exfalso
      rcases fit_look false K ht (hz w) hb F hkey with ⟨_, _, hat⟩ | ⟨e1, _, he1, hk1, _⟩
      · rw [has_false_of_atKey hat] at hh
        cases hh
      · exact h2 e1 he1 hk1
    · have hj : es[j]? = some e0 := by simpa using h2
      have hlt : j < es.size := (Array.getElem?_eq_some_iff.1 hj).1
      have hsame : es.modify j (fun x => { x with key := key }) = es := by
        apply Array.ext (by simp)
        intro i hi1 hi2
        rw [Array.getElem_modify]
        split
        · next hij =>
          subst hij
          have he0 : es[j] = e0 := by rw [Array.getElem?_eq_getElem hlt] at hj; exact Option.some.inj hj
          rw [he0, ← h3]
        · rfl
      have hset : setBlock w b (.map es clock) = w := by
        have hbl : b < w.heap.size := (Array.getElem?_eq_some_iff.1 hb).1
        unfold setBlock
        have hx : w.heap.setIfInBounds b (.map es clock) = w.heap := by
          apply Array.ext (by simp)
          intro i hi1 hi2
          rw [Array.getElem_setIfInBounds]
          split
          · next hij => subst hij; rw [Array.getElem?_eq_getElem hbl] at hb; exact (Option.some.inj hb).symm
          · rfl
        rw [hx]
      refine ⟨.tuple #[e0.val, goInt e0.born], ?_⟩
      have hr : (Instr.mapEntry t (.map (some b)) key).run P w = .ok (.tuple #[e0.val, goInt e0.born]) (setBlock w b (.map es clock)) := by
        simp [Instr.mapEntry, run_underlying ht, MapKept.run_getObj_map hb, L.check w false hkey, h1, hj, h3, L.stays w hkey, hsame, MapKept.run_setObj_map _ hb, Result.andThen, setBlock]
      rw [hr, hset]
  obtain ⟨v, hv⟩ := hself
  have hw1 : setBlock w b (.map es1 clock1) = w := by
    have := hrun.symm.trans hv
    injection this
  have hb1 : w.heap[b]? = some (.map es1 clock1) := by
    have := setBlock_at (o' := .map es1 clock1) hb
    rwa [hw1] at this
  rw [hw1] at hrun
  refine ⟨v0, st, hrun, fun w2 val d ps hw2 hR => ?_⟩
  obtain ⟨es', clock', he1, he2⟩ := hst w2 val (hw2.trans hb1)
  obtain ⟨w', hu1, hu2, hu3⟩ := hown.update K ht hn hkey hR
  have hw' : w' = setBlock w b (.map es' clock') := by
    have := hu1.symm.trans he2
    injection this
  refine ⟨_, he1, ?_, ?_⟩
  · refine ownsMap_same hu2 ?_
    rw [hw', setBlock_at hb, setBlock_at (hw2.trans hb)]
  · exact ⟨rfl, rfl, rfl, by simp [setBlock], fun i _ hi => heap_setBlock_other (hw2.trans hb) _ (fun e => hi (by rw [e]))⟩
end
section
variable {P : Program} {a : Act} {w : World} {K : Act → World → Prop} {Q : Exit → Act → World → Prop} {dst : Option Tmp} {t T : TypeId} {m x y : Operand} {pos : String} {af : Array Edge}
theorem op_lookup (vm vx v : Value) (hm : a.eval m = vm) (hx : a.eval x = vx) (hr : (Instr.lookup t vm vx false).run P w = .ok v w) (h : K (a.put dst v) w) : Oper.wp P ⟨dst, .lookup t m x false, T, pos, af, none⟩ a w K Q := by
  unfold Oper.wp
  simp [execOp, hm, hx, hr, Result.andThen]
  exact h
theorem op_mapEntry (vm vx v : Value) (hm : a.eval m = vm) (hx : a.eval x = vx) (hr : (Instr.mapEntry t vm vx).run P w = .ok v w) (h : K (a.put dst v) w) : Oper.wp P ⟨dst, .mapEntry t m x, T, pos, af, none⟩ a w K Q := by
  unfold Oper.wp
  simp [execOp, hm, hx, hr, Result.andThen]
  exact h
theorem op_entryStore {w' : World} (vm vx vy : Value) (hm : a.eval m = vm) (hx : a.eval x = vx) (hy : a.eval y = vy) (hr : (Instr.entryStore t vm vx vy).run P w = .ok () w') (h : K a w') : Oper.wp P ⟨none, .entryStore t m x y, T, pos, af, none⟩ a w K Q := by
  unfold Oper.wp
  simp [execOp, hm, hx, hy, hr, Result.andThen]
  exact h
theorem op_mapUpdate {w' : World} (vm vx vy : Value) (hm : a.eval m = vm) (hx : a.eval x = vx) (hy : a.eval y = vy) (hr : (Instr.mapUpdate t vm vx vy).run P w = .ok () w') (h : K a w') : Oper.wp P ⟨none, .mapUpdate t m x y, T, pos, af, none⟩ a w K Q := by
  unfold Oper.wp
  simp [execOp, hm, hx, hy, hr, Result.andThen]
  exact h
theorem has_put_mono {H : Type} {D : DataW H} (hD : IsMap D) {k k' : Lit} (hk : WideAt.IsKeyLit k) (d : DataW H) (h : has D k' = true) : has (D.put k d) k' = true := by
  by_cases e : k' = k
  · subst e
    exact has_put_same hD hk d
  · rw [has_put_other e]
    exact h
end
end Go.Hoar
end
section
namespace Go.Proofs.YtillghidmfglpaaDoor
open Go.RowKit Go.Hoar
/-- How many digits are the same before the first one that differs. -/
def alikeF (l m : List Nat) : Nat → Nat → Nat
  | 0, i => i
  | f + 1, i => if nib l i = nib m i then alikeF l m f (i + 1) else i
def alikeOf (l m : List Nat) : Nat := alikeF l m 64 0
theorem alikeF_le (l m : List Nat) : ∀ f i, alikeF l m f i ≤ i + f
  | 0, i => Nat.le_refl _
  | f + 1, i => by
    rw [alikeF]
    split
    · have := alikeF_le l m f (i + 1); omega
    · omega
set_option maxRecDepth 100000 in
set_option maxHeartbeats 2000000 in
theorem alike_any (l m : List Nat) (hl : l.length = 32) (hm : m.length = 32) (hlb : Sha.Bytes l) (hmb : Sha.Bytes m) (w : World) :
    Calls Tryd.prog 80 #[.agg (arr32 l), .agg (arr32 m)] w fun e w' => e = .returned (.int .i64 ((alikeOf l m : Nat) : Int)) ∧ Below w.heap.size w w' := by
  obtain ⟨out, hout⟩ : ∃ out, out = alikeOf l m := ⟨_, rfl⟩
  rw [← hout]
  have HOut := Lib.hid hout
  have hdl := digit_any l hl hlb
  have hdm := digit_any m hm hmb
  obtain ⟨cs, hcs⟩ : ∃ cs : List Value, cs.toArray = arr32 l := ⟨(arr32 l).toList, by simp⟩
  obtain ⟨ds, hds⟩ : ∃ ds : List Value, ds.toArray = arr32 m := ⟨(arr32 m).toList, by simp⟩
  rw [← hcs] at hdl ⊢
  rw [← hds] at hdm ⊢
  have hcl : cs.length = 32 := by have := congrArg Array.size hcs; rw [arr32_size l (by omega)] at this; simpa using this
  have hdl2 : ds.length = 32 := by have := congrArg Array.size hds; rw [arr32_size m (by omega)] at this; simpa using this
  have hi1 : (Tryd.prog.info? 26).map (·.size) = some cs.length := by rw [hcl]; kernel_rfl
  have hi2 : (Tryd.prog.info? 26).map (·.size) = some ds.length := by rw [hdl2]; kernel_rfl
  have hu26 := Tryd.underlying26
  have HDL := Lib.hid hdl
  have HDM := Lib.hid hdm
  have HCL := Lib.hid hcl
  have HDL2 := Lib.hid hdl2
  clear hdl hdm hcs hds hout hcl hdl2
  go_enter Tryd.func80, Tryd.ntmps80
  go_upto_region 1 with (fail)
  refine gen_world (P := fun W => Code.wp _ _ _ _ W) (I := fun W => Below w.heap.size w W ∧ Has W w.heap.size 26 cs.toArray ∧ Has W (w.heap.size + 1) 26 ds.toArray) _ ⟨((Below.refl _ w).alloc (Nat.le_refl _) _).alloc (by simp) _, (Has.fresh_at _ _ _ _ rfl).alloc _, Has.fresh_at _ _ _ _ (by simp)⟩ ?_
  rintro W ⟨hB, hL, hM⟩
  have hlt1 := hL.lt
  have hlt2 := hM.lt
  have hr1 : W.rangeAt w.heap.size 0 cs := fun j u hj => by rw [hL.cell, Nat.zero_add]; simpa using hj
  have hr2 : W.rangeAt (w.heap.size + 1) 0 ds := fun j u hj => by rw [hM.cell, Nat.zero_add]; simpa using hj
  have HR1 := Lib.hid hr1
  have HR2 := Lib.hid hr2
  have HB := Lib.hid hB
  clear hB hL hM hr1 hr2
  go_wp2
  go_step3
  go_wp2
  go_step3
  go_wp2
  go_loopw [5, 8] (fun nv iv wr => ∃ i : Nat, i ≤ 32 ∧ nv = .int .i64 (2 * (i : Int)) ∧ iv = .int .i64 (i : Int) ∧ Hid (alikeF l m (64 - 2 * i) (2 * i) = out) ∧ Below W.heap.size W wr) (fun _ iv _ => 32 - (intOf iv).toNat)
  case atStart => exact ⟨0, Nat.zero_le _, rfl, rfl, Lib.hid HOut.out.symm, Below.refl _ _⟩
  case round =>
    obtain ⟨i, hi, rfl, rfl, HA, hB⟩ := hrel
    by_cases hlt : i < 32
    · have HBi := Lib.hid hB
      clear hB
      go_wp2
      go_loopw [5, 11] (fun nv kv wr => ∃ k : Nat, k ≤ 2 ∧ nv = .int .i64 (2 * (i : Int) + (k : Int)) ∧ kv = .int .i64 (k : Int) ∧ Hid (alikeF l m (64 - (2 * i + k)) (2 * i + k) = out) ∧ Below W.heap.size W wr) (fun _ kv _ => 2 - (intOf kv).toNat)
      case atStart => exact ⟨0, Nat.zero_le _, by simp, rfl, HA, HBi.out⟩
      case round =>
        obtain ⟨k, hk, rfl, rfl, HK, hB⟩ := hrel
        by_cases hk2 : k < 2
        · have hx1 : 2 * i + k < 64 := by omega
          have hstep : alikeF l m (64 - (2 * i + k)) (2 * i + k) = if nib l (2 * i + k) = nib m (2 * i + k) then alikeF l m (64 - (2 * i + (k + 1))) (2 * i + (k + 1)) else 2 * i + k := by
            rw [show 64 - (2 * i + k) = (64 - (2 * i + (k + 1))) + 1 by omega, alikeF]
            rfl
          rw [HK.out] at hstep
          have HStep := Lib.hid hstep
          have hb0 := hB
          have hrs : ∀ V, Below wr.heap.size wr V → V.rangeAt w.heap.size 0 cs ∧ V.rangeAt (w.heap.size + 1) 0 ds := fun V hV => ⟨fun j u hj => ((hb0.trans (hV.mono hb0.size)).cell hlt1).trans (HR1.out j u hj), fun j u hj => ((hb0.trans (hV.mono hb0.size)).cell hlt2).trans (HR2.out j u hj)⟩
          have HLoad1 : Hid (∀ w', (∃ V : {V : World // Below wr.heap.size wr V}, w' = V.1) → ∀ j u, cs.toArray[j]? = some u → w'.cell? ((⟨w.heap.size, 0, none⟩ : Addr).add j) = some u) := Lib.hid fun V hV j u hj => by obtain ⟨⟨V, hV⟩, rfl⟩ := hV; rw [Addr.add_lit]; exact (hrs V hV).1 j u (by rwa [List.getElem?_toArray] at hj)
          have HLoad2 : Hid (∀ w', (∃ V : {V : World // Below wr.heap.size wr V}, w' = V.1) → ∀ j u, ds.toArray[j]? = some u → w'.cell? ((⟨w.heap.size + 1, 0, none⟩ : Addr).add j) = some u) := Lib.hid fun V hV j u hj => by obtain ⟨⟨V, hV⟩, rfl⟩ := hV; rw [Addr.add_lit]; exact (hrs V hV).2 j u (by rwa [List.getElem?_toArray] at hj)
          have HI1 : Hid ((Tryd.prog.info? 26).map (·.size) = some cs.toArray.size) := Lib.hid (by rw [List.size_toArray]; exact hi1)
          have HI2 : Hid ((Tryd.prog.info? 26).map (·.size) = some ds.toArray.size) := Lib.hid (by rw [List.size_toArray]; exact hi2)
          clear hrs
          have hd1 := fun V => HDL.out (2 * i + k) hx1 V
          have hd2 := fun V => HDM.out (2 * i + k) hx1 V
          have e : ((2 * i + k : Nat) : Int) = 2 * (i : Int) + (k : Int) := by omega
          rw [e] at hd1 hd2
          have hw1 : IntKind.i64.wrap (2 * (i : Int)) = 2 * (i : Int) := IntWalk.i64_in _ (by omega)
          have hw2 : IntKind.i64.wrap (2 * (i : Int) + (k : Int)) = 2 * (i : Int) + (k : Int) := IntWalk.i64_in _ (by omega)
          have HD1 := Lib.hid hd1
          have HD2 := Lib.hid hd2
          have HB2 := Lib.hid hB
          clear hB hb0 hstep e hd1 hd2
          generalize hnl : nib l (2 * i + k) = x at *
          generalize hnm : nib m (2 * i + k) = y at *
          go_upto_region 8 with (fail)
          haveI hNe : Nonempty {V : World // Below wr.heap.size wr V} := ⟨⟨wr, Below.refl _ _⟩⟩
          have eg : ∀ args w, (callFunc 65 args).run Tryd.prog w = .ok (.enter 65 args) w := enters_of Tryd.func65 (by kernel_rfl) rfl
          have HQ1 : Hid (∀ w', (∃ V : {V : World // Below wr.heap.size wr V}, w' = V.1) → Calls Tryd.prog 65 #[.agg cs.toArray, .int .i64 (2 * (i : Int) + (k : Int))] w' fun e w'' => e = .returned (.int .u8 (x : Int)) ∧ ∃ V : {V : World // Below wr.heap.size wr V}, w'' = V.1) := Lib.hid fun w' hw' => by obtain ⟨⟨V, hV⟩, rfl⟩ := hw'; exact (HD1.out w').mono fun _ w'' ⟨he, hb⟩ => ⟨he, ⟨w'', hV.trans (hb.mono hV.size)⟩, rfl⟩
          have HQ2 : Hid (∀ w', (∃ V : {V : World // Below wr.heap.size wr V}, w' = V.1) → Calls Tryd.prog 65 #[.agg ds.toArray, .int .i64 (2 * (i : Int) + (k : Int))] w' fun e w'' => e = .returned (.int .u8 (y : Int)) ∧ ∃ V : {V : World // Below wr.heap.size wr V}, w'' = V.1) := Lib.hid fun w' hw' => by obtain ⟨⟨V, hV⟩, rfl⟩ := hw'; exact (HD2.out w').mono fun _ w'' ⟨he, hb⟩ => ⟨he, ⟨w'', hV.trans (hb.mono hV.size)⟩, rfl⟩
          refine wp_region_quietC (fun w' => ∃ V : {V : World // Below wr.heap.size wr V}, w' = V.1) (by kernel_rfl) (by kernel_rfl) ⟨⟨wr.drew, (Below.refl _ wr).drew⟩, rfl⟩ ?_
          go_big_quiet_want
          (with_reducible refine quietC_load ⟨w.heap.size, 0, none⟩ cs.toArray _ HLoad1.out hu26 HI1.out ?l1 ?l2 ?_); (case l1 => rfl); (case l2 => rfl)
          simp only [Act.put, List.setIfInBounds_toArray, List.set_cons_succ, List.set_cons_zero]
          go_big_quiet_on
          repeat (go_big_quiet_step (fail))
          go_big_quiet_want
          refine quietC_value (.int .i64 (2 * (i : Int))) (fun w => by go_simp) ?_
          simp only [Act.put, List.setIfInBounds_toArray, List.set_cons_succ, List.set_cons_zero]
          go_big_quiet_on
          go_big_quiet_step (fail)
          go_big_quiet_want
          refine quietC_value (.int .i64 (2 * (i : Int) + (k : Int))) (fun w => by go_simp) ?_
          simp only [Act.put, List.setIfInBounds_toArray, List.set_cons_succ, List.set_cons_zero]
          go_big_quiet_on
          go_big_quiet_want
          refine quietC_call2 eg (.agg cs.toArray) (.int .i64 (2 * (i : Int) + (k : Int))) (.int .u8 (x : Int)) rfl rfl HQ1.out ?_
          simp only [Act.put, List.setIfInBounds_toArray, List.set_cons_succ, List.set_cons_zero]
          go_big_quiet_on
          go_big_quiet_want
          (with_reducible refine quietC_load ⟨w.heap.size + 1, 0, none⟩ ds.toArray _ HLoad2.out hu26 HI2.out ?l3 ?l4 ?_); (case l3 => rfl); (case l4 => rfl)
          simp only [Act.put, List.setIfInBounds_toArray, List.set_cons_succ, List.set_cons_zero]
          go_big_quiet_on
          go_big_quiet_step (fail)
          go_big_quiet_want
          refine quietC_value (.int .i64 (2 * (i : Int))) (fun w => by go_simp) ?_
          simp only [Act.put, List.setIfInBounds_toArray, List.set_cons_succ, List.set_cons_zero]
          go_big_quiet_on
          go_big_quiet_step (fail)
          go_big_quiet_want
          refine quietC_value (.int .i64 (2 * (i : Int) + (k : Int))) (fun w => by go_simp) ?_
          simp only [Act.put, List.setIfInBounds_toArray, List.set_cons_succ, List.set_cons_zero]
          go_big_quiet_on
          go_big_quiet_want
          refine quietC_call2 eg (.agg ds.toArray) (.int .i64 (2 * (i : Int) + (k : Int))) (.int .u8 (y : Int)) rfl rfl HQ2.out ?_
          simp only [Act.put, List.setIfInBounds_toArray, List.set_cons_succ, List.set_cons_zero]
          go_big_quiet_on
          by_cases hxy : x = y
          · subst hxy
            go_big_quiet_want
            refine quietC_value (.bool false) (fun w => by go_simp) ?_
            simp only [Act.put, List.setIfInBounds_toArray, List.set_cons_succ, List.set_cons_zero]
            go_big_quiet_on
            refine wpQuiet_nil ?_
            rintro _ ⟨⟨W2, hW2⟩, rfl⟩
            have HB3 := Lib.hid (HB2.out.trans (hW2.mono HB2.out.size))
            have HN := Lib.hid (HStep.out.trans (if_pos rfl))
            clear hW2
            go_wp2
            go_roundw
            case rel => exact ⟨k + 1, by omega, by go_num, by go_num, Lib.hid HN.out.symm, HB3.out⟩
            case measure => simp [intOf]; omega
          · have hxy2 : ¬ (x : Int) = (y : Int) := by omega
            go_big_quiet_want
            refine quietC_value (.bool true) (fun w => by go_simp) ?_
            simp only [Act.put, List.setIfInBounds_toArray, List.set_cons_succ, List.set_cons_zero]
            go_big_quiet_on
            refine wpQuiet_nil ?_
            rintro _ ⟨⟨W2, hW2⟩, rfl⟩
            have HB3 := Lib.hid (HB.out.trans ((HB2.out.trans (hW2.mono HB2.out.size)).mono HB.out.size))
            have HN := Lib.hid (HStep.out.trans (if_neg hxy))
            clear hW2
            go_wp2
            rw [Exit.noGoto_ret]
            go_ret
            refine ⟨?_, HB3.out⟩
            rw [HN.out]
            exact congrArg (fun z => Ending.returned (.int .i64 z)) (by omega)
        · obtain rfl : k = 2 := by omega
          have HB3 := Lib.hid hB
          clear hB
          go_wp2
          go_roundw
          case rel => exact ⟨i + 1, by omega, by go_num, by go_num, by have := HK.out; exact Lib.hid this, HB3.out⟩
          case measure => simp [intOf]; omega
    · obtain rfl : i = 32 := by omega
      have HB3 := Lib.hid hB
      clear hB
      have HN : Hid (64 = out) := Lib.hid HA.out
      go_wp2
      rw [Exit.noGoto_ret]
      go_ret
      refine ⟨?_, HB.out.trans (HB3.out.mono HB.out.size)⟩
      rw [← HN.out]
      rfl
end Go.Proofs.YtillghidmfglpaaDoor
end
