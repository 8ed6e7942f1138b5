/-
  THE LAW SumGrows, WALKED: true, and nothing that was there is turned.
  · ONE DIGEST OF A LIST THAT IS CHANGED; the bytes that are made; two unlike lists with one digest clash.
-/
import Derived.Test.YtffdkniahdekjaaDoorMCb
import Derived.Test.YtffdkniahdekjaaDoorMCc
import Derived.Test.YtffdkniahdekjaaDoorMBl
import Derived.Test.YtffdkniahdekjaaDoorMCa
section
namespace Go.Hoar
open Go Go.RowKit
theorem opw_slice1 {P : Program} {a : Act} {w : World} {K : Act → World → Prop} {Q : Exit → Act → World → Prop} {dst : Option Tmp} {t T : TypeId} {x0 : Operand} {pos : String} {af : Array Edge}
    (e : TypeId) (ie : TypeInfo) (z : Value) (c0 : Array Value) (hu : P.underlying t = some (.slice e)) (hie : P.info? e = some ie) (hz : ie.zero = some z) (h0 : c0.size = ie.size) (hsmall : 1 * ie.size ≤ 1000) (hpos : 0 < 1 * ie.size)
    (e0 : a.eval x0 = .agg c0) (h : K (a.put dst (.slice (some ⟨w.heap.size, 0, none⟩) 1 1)) (w.alloc (.cells c0 e))) :
    Oper.wp P ⟨dst, .buildSlice t 1 #[(0, x0)], T, pos, af, none⟩ a w K Q := by
  have e1 : ([c0].flatMap Array.toList).toArray = c0 := by simp
  refine opw_slices e ie z [c0] hu hie hz (fun c hc => by rw [List.mem_singleton.1 hc]; exact h0) rfl hsmall hpos (by simp [e0, List.zipIdx]) ?_
  rw [e1]
  exact h
end Go.Hoar
namespace Go.Proofs.YtffdkniahdekjaaDoor
open Go.RowKit Go.Hoar
theorem xor_one (z : Nat) (hz : z < 256) : ∃ y : Nat, y < 256 ∧ y ≠ z ∧ bits BinOp.xor IntKind.u8 (z : Int) 1 = (y : Int) := by
  have key : ∀ z : Fin 256, 0 ≤ bits BinOp.xor IntKind.u8 (z.val : Int) 1 ∧ bits BinOp.xor IntKind.u8 (z.val : Int) 1 < 256 ∧ bits BinOp.xor IntKind.u8 (z.val : Int) 1 ≠ (z.val : Int) := by decide +kernel
  have := key ⟨z, hz⟩
  dsimp only at this
  exact ⟨(bits BinOp.xor IntKind.u8 (z : Int) 1).toNat, by omega, by omega, by omega⟩
theorem cells_set (y : List Nat) (hy : y.length = 32) (j v : Nat) : (cellsOf y).set j (.int .u8 (v : Int)) = cellsOf (y.set j v) := by
  have h1 := arr32_full y hy
  have h2 := arr32_full (y.set j v) (by rw [List.length_set, hy])
  unfold cellsOf
  rw [h1, h2]
  simp [List.map_set, BV]
theorem flat_set : ∀ (L : List (List Nat)), SumsOk L → ∀ (p : Nat) (y : List Nat) (j v : Nat), L[p]? = some y → j < 32 → (L.flatMap cellsOf).set (p * 32 + j) (.int .u8 (v : Int)) = (L.set p (y.set j v)).flatMap cellsOf
  | [], _, p, y, j, v, h, _ => by simp at h
  | x :: L, hok, 0, y, j, v, h, hj => by
    obtain rfl : x = y := by simpa using h
    have hx := (hok x List.mem_cons_self).1
    have hc : (cellsOf x).length = 32 := cellsOf_len (by omega)
    rw [List.set_cons_zero, List.flatMap_cons, List.flatMap_cons, Nat.zero_mul, Nat.zero_add, List.set_append_left _ _ (by omega), cells_set x hx]
  | x :: L, hok, p + 1, y, j, v, h, hj => by
    have hx := (hok x List.mem_cons_self).1
    have hc : (cellsOf x).length = 32 := cellsOf_len (by omega)
    have ih := flat_set L (fun l hl => hok l (List.mem_cons_of_mem _ hl)) p y j v (by simpa using h) hj
    rw [List.set_cons_succ, List.flatMap_cons, List.flatMap_cons, List.set_append_right _ _ (by omega), hc, show (p + 1) * 32 + j - 32 = p * 32 + j by omega, ih]
theorem set_other {L : List (List Nat)} {p : Nat} {y : List Nat} {j v : Nat} (h : L[p]? = some y) (hj : j < y.length) (hv : v ≠ y.getD j 0) : L.set p (y.set j v) ≠ L := fun e => by
  have hp := (List.getElem?_eq_some_iff.1 h).1
  have h1 : (L.set p (y.set j v))[p]? = some (y.set j v) := List.getElem?_set_self hp
  rw [e, h] at h1
  have h2 : (y.set j v).getD j 0 = v := by rw [List.getD_eq_getElem?_getD, List.getElem?_set_self hj]; rfl
  rw [← Option.some.inj h1] at h2
  exact hv h2.symm
theorem set_ok {L : List (List Nat)} (hok : SumsOk L) {p j v : Nat} {y : List Nat} (h : L[p]? = some y) (hv : v < 256) : SumsOk (L.set p (y.set j v)) := fun l hl => by
  rcases List.mem_or_eq_of_mem_set hl with hl | rfl
  · exact hok l hl
  · have hy := hok y (List.mem_of_getElem? h)
    exact ⟨by rw [List.length_set]; exact hy.1, fun u hu => (List.mem_or_eq_of_mem_set hu).elim (hy.2 u) (fun e => by rw [e]; exact hv)⟩
theorem madeOf_bytes : ∀ (f : Nat) (ls : List (List Nat)), SumsOk ls → ∀ b ∈ madeOf f ls, Sha.Bytes b ∧ b.length ≤ 1000000
  | 0, _, _, b, hb => by rw [madeOf] at hb; exact absurd hb List.not_mem_nil
  | f + 1, [], _, b, hb => by
    rw [madeOf, List.mem_singleton] at hb
    subst hb
    exact ⟨fun x hx => by rw [List.mem_singleton.1 hx]; decide, by decide⟩
  | f + 1, [x], hok, b, hb => by
    rw [madeOf, List.mem_singleton] at hb
    subst hb
    have hx := hok x List.mem_cons_self
    exact ⟨fun v hv => (List.mem_cons.1 hv).elim (fun e => by omega) (hx.2 v), by rw [List.length_cons, hx.1]; decide⟩
  | f + 1, x :: y :: r, hok, b, hb => by
    rw [madeOf_many f (x :: y :: r) (by simp)] at hb
    generalize halfOf (x :: y :: r).length = q at hb
    rw [List.cons_append, List.mem_cons, List.mem_append] at hb
    rcases hb with rfl | hb | hb
    · have h1 := rootOf_len ((x :: y :: r).take q)
      have h2 := rootOf_len ((x :: y :: r).drop q)
      exact ⟨fun v hv => (List.mem_cons.1 hv).elim (fun e => by omega) (fun hv => (List.mem_append.1 hv).elim (h1.2 v) (h2.2 v)), by rw [List.length_cons, List.length_append, h1.1, h2.1]; decide⟩
    · exact madeOf_bytes f _ (fun l hl => hok l (List.mem_of_mem_take hl)) b hb
    · exact madeOf_bytes f _ (fun l hl => hok l (List.mem_of_mem_drop hl)) b hb
theorem clash_two (L M : List (List Nat)) (hl : L.length ≤ 60) (hm : M.length ≤ 60) (hne : L ≠ M) (he : rootOf L = rootOf M) : Clashing (madeOf 64 L ++ madeOf 64 M) := by
  obtain ⟨b, hb, d, hd, h1, h2⟩ := clash_of 64 L M (by omega) (by omega) (by omega) (by omega) hne he
  exact ⟨b, List.mem_append_left _ hb, d, List.mem_append_right _ hd, h1, h2⟩
theorem zeros_ok : SumsOk [List.replicate 32 0] := fun l hl => by
  rw [List.mem_singleton.1 hl]
  exact ⟨by simp, fun x hx => by rw [(List.mem_replicate.1 hx).2]; decide⟩
theorem zeros_arr : arr32 (List.replicate 32 0) = zero32 := rfl
end Go.Proofs.YtffdkniahdekjaaDoor
end
section
namespace Go.Proofs.YtffdkniahdekjaaDoor
open Go.RowKit Go.Hoar
noncomputable def gwOps (k : Nat) : Array Oper := (Tryd.f12.body.bind (opsAt k)).getD #[]
theorem own_cellAt {w : World} {base n g c size : Nat} {e : TypeId} {xs : List Value} (h : w.ownsRow base e size (.slice (some ⟨g, 0, none⟩) n c) n xs) (j : Nat) (u : Value) (hj : xs[j]? = some u) : w.cell? ⟨g, j, none⟩ = some u := by
  have := h.cells (g := g) rfl j u hj
  rwa [Addr.add_lit, Nat.zero_add] at this
theorem take_snoc {L : List (List Nat)} {i : Nat} {x : List Nat} (h : L[i]? = some x) : L.take (i + 1) = L.take i ++ [x] := by rw [List.take_add_one, h]; rfl
theorem row_apart {w : World} {a : Option Addr} {c : Nat} {ls : List (List Nat)} (h : RowOk w a c ls) {g0 : Nat} (hne : ∀ g, a = some g → g.block ≠ g0) (cs : Array Value) : RowOk (w.setRow g0 cs) a c ls := by
  rcases h with h | ⟨g, off, rfl, hg, hs, r⟩
  · exact .inl h
  · refine .inr ⟨g, off, rfl, by simpa using hg, fun i l hi => ⟨(hs i l hi).1, (hs i l hi).2.1, fun j hj => ?_⟩, r⟩
    exact (World.cell?_of_block (setRow_heap_other w g0 g cs (hne _ rfl))).trans ((hs i l hi).2.2 j hj)
theorem row_lt {w : World} {a : Option Addr} {c : Nat} {ls : List (List Nat)} (h : RowOk w a c ls) (g : Addr) (hg : a = some g) : g.block < w.heap.size := by
  rcases h with ⟨rfl, _⟩ | ⟨g', off, rfl, hl, _⟩
  · cases hg
  · cases hg; exact hl
set_option maxRecDepth 100000 in
set_option maxHeartbeats 6000000 in
/-- THE LAW's WALK. -/
theorem grows_law (bs : List Nat) (hbb : Sha.Bytes bs) (a : Option Addr) (c : Nat) (many at0 : Nat) (hmany : many < 256) (hat : at0 < 256) (w : World) (hp : PartOk w a c bs) (hcap : bs.length ≤ c ∧ c ≤ maxLen) (hc : ConstAt w) :
    Calls Tryd.prog 12 #[.slice a bs.length c, .int .u8 (many : Int), .int .u8 (at0 : Int)] w fun e w' => e = .returned (.bool true) ∧ Below w.heap.size w w' := by
  have HOf := Lib.hid (kitOf_any bs hbb a c w hp hcap)
  have HC := Lib.hid hc
  have HAw : Hid (∀ V : World, ConstAt V → Calls Tryd.prog 15 #[] V fun e w' => e = .returned (.bool true) ∧ Below V.heap.size V w') := Lib.hid fun V hV => awake_any V hV
  obtain ⟨m, hm⟩ : ∃ m, m = many % 41 := ⟨_, rfl⟩
  have htm : ((many : Int)).tmod 41 = (m : Int) := by rw [hm]; exact (Int.ofNat_tmod many 41).symm
  have hm40 : m ≤ 40 := by omega
  have hw1 : IntKind.i64.wrap (many : Int) = (many : Int) := IntWalk.i64_in _ (by omega)
  have hw2 : IntKind.i64.wrap (at0 : Int) = (at0 : Int) := IntWalk.i64_in _ (by omega)
  have HSm : Hid (∀ (g : Nat) (V : World), Kit V g (g + 1) 0 → Calls Tryd.prog 52 #[.pointer (some ⟨g, 0, none⟩), .int .i64 (m : Int)] V fun e w' => ∃ (v : Value) (L : List (List Nat)), e = .returned v ∧ L.length = m ∧ SumsOk L ∧ w'.ownsRow V.heap.size 26 32 v m (L.flatMap cellsOf) ∧ Kit w' g (g + 1) (0 + 40 * m) ∧ But g V w') := Lib.hid fun g V hK => some_any g (g + 1) 0 m (by omega) (by omega) V hK hK.lt
  have HF0 : Hid (∀ V : World, Has (V.alloc (.cells zero32 26)) V.heap.size 26 zero32) := Lib.hid fun V => fresh_sum V
  have HIt : Hid (∀ (k : Int) (v : Value), (Tryd.prog.info? 57).map (·.size) = some (#[.int .i64 k, v] : Array Value).size) := Lib.hid fun k v => treeInfo
  have HOt : Hid (∀ (k : Int) (b : Option Addr) (n d : Nat), (#[.int .i64 k, .slice b n d] : Array Value).all (·.oneCell') = true) := Lib.hid fun k b n d => by simp [Value.oneCell']
  have HIa : Hid (∀ x : List Nat, x.length = 32 → (Tryd.prog.info? 26).map (·.size) = some (arr32 x).size) := Lib.hid fun x hx => arr32_info x (by omega)
  have HSa : Hid (∀ x : List Nat, x.length = 32 → zero32.size = (arr32 x).size) := Lib.hid fun x hx => zero32_size x (by omega)
  clear hp hcap hbb hc hm
  have egL : ∀ args w, (callFunc 33 args).run Tryd.prog w = .ok (.enter 33 args) w := enters_of Tryd.func33 (by kernel_rfl) rfl
  go_enter Tryd.func12, Tryd.ntmps12
  go_upto_region 2 with (first
    | (go_at_call 49; (with_reducible refine HOf.out.mono ?_); rintro e w1 ⟨g, rfl, hK, hgw, hb1⟩; have HK1 := Lib.hid hK; have HB1 := Lib.hid hb1; clear hK hb1)
    | (go_at_call 52; (with_reducible refine (HSm.out g w1 HK1.out).mono ?_); rintro e w2 ⟨v2, L, rfl, hLl, hLok, ho, _, hbut⟩; have HO2 := Lib.hid ho; have HB2 := Lib.hid (HB1.out.trans (hbut.below hgw HB1.out.size)); clear ho hbut))
  obtain ⟨a2, c2, rfl, hr2, hmc, hcm, _⟩ := row_of_own HO2.out hLok hLl
  unfold maxLen at hcm
  have HLok := Lib.hid hLok
  have HLl := Lib.hid hLl
  have hhL : ∀ i, i ≤ m → (L.take i).length = i := fun i hi => by rw [List.length_take]; omega
  have HTl := Lib.hid hhL
  have hRoot : ∀ i, i ≤ m → ∀ (V : World) (pa : Option Addr) (pc : Nat), RowOk V pa pc (peaksK 6 (L.take i)) → Below w2.heap.size w2 V → Calls Tryd.prog 40 #[.agg #[.int .i64 (i : Int), .slice pa (peaksK 6 (L.take i)).length pc]] V fun e w' => e = .returned (.tuple #[.agg (arr32 (rootOf (L.take i))), .int .i64 0]) ∧ Below V.heap.size V w' := fun i hi V pa pc hr hV => by
    have h := root_tree (L.take i) (by rw [hhL i hi]; omega) V pa pc hr (HC.out.below (HB2.out.trans (hV.mono HB2.out.size)) rfl)
    rw [hhL i hi] at h
    exact h
  have hGrow : ∀ i x, i < m → L[i]? = some x → ∀ (V : World) (pa : Option Addr) (pc : Nat), RowOk V pa pc (peaksK 6 (L.take i)) → Below w2.heap.size w2 V → Calls Tryd.prog 38 #[.agg #[.int .i64 (i : Int), .slice pa (peaksK 6 (L.take i)).length pc], .agg (arr32 x)] V fun e w' => ∃ pa' pc', e = .returned (.tuple #[.agg #[.int .i64 ((i : Int) + 1), .slice pa' (peaksK 6 (L.take (i + 1))).length pc'], .int .i64 0]) ∧ RowOk w' pa' pc' (peaksK 6 (L.take (i + 1))) ∧ (∀ g, pa' = some g → V.heap.size ≤ g.block) ∧ Below V.heap.size V w' := fun i x hi hx V pa pc hr hV => by
    have hxx := hLok x (List.mem_of_getElem? hx)
    have h := grow_tree (L.take i) x hxx.1 hxx.2 (by rw [hhL i (by omega)]; omega) V pa pc hr (HC.out.below (HB2.out.trans (hV.mono HB2.out.size)) rfl)
    rw [hhL i (by omega), ← take_snoc hx] at h
    refine h.mono ?_
    rintro e w' ⟨v, rfl, ho, hb⟩
    obtain ⟨pa', pc', rfl, hr', _, _, hbk⟩ := row_of_own ho (peaksK_ok 6 _) rfl
    exact ⟨pa', pc', rfl, hr', fun g hg => (hbk g hg).1, hb⟩
  have HRoot := Lib.hid hRoot
  have HGrow := Lib.hid hGrow
  have hList : ∀ i, i ≤ m → ∀ V : World, Below w2.heap.size w2 V → Calls Tryd.prog 33 #[.slice a2 i c2] V fun e w' => e = .returned (.agg (arr32 (rootOf (L.take i)))) ∧ Below V.heap.size V w' := fun i hi V hV => by
    have hrow : RowOk V a2 c2 (L.take i) := by
      rcases hr2 with ⟨h1, h2, h3⟩ | ⟨g, off, h1, h2, h3, h4, h5⟩
      · exact .inl ⟨h1, by rw [h2]; simp, h3⟩
      · exact .inr ⟨g, off, h1, Nat.lt_of_lt_of_le h2 hV.size, (h3.below h2 hV).take i, by rw [hhL i hi]; omega, h5⟩
    have h := listAll_any (L.take i) V a2 c2 hrow (by rw [hhL i hi]; omega) (HC.out.below (HB2.out.trans (hV.mono HB2.out.size)) rfl)
    refine (h.mono fun e w' k => (⟨k.1, k.2.2⟩ : e = .returned (.agg (arr32 (rootOf (L.take i)))) ∧ Below V.heap.size V w')) |> fun q => ?_
    rw [hhL i hi] at q
    exact q
  have HList := Lib.hid hList
  have HR2 := Lib.hid hr2
  have hrl : ∀ i, (rootOf (L.take i)).length = 32 := fun i => (rootOf_len _).1
  have HRl := Lib.hid hrl
  have HNe : Hid (∀ (x : List Nat), x.length = 32 → ∀ V : World, (binOp .neq 26 (.agg (arr32 x)) (.agg (arr32 x))).run Tryd.prog V = .ok (.bool false) V) := Lib.hid fun x hx V => by
    have := sum_neq x x hx hx V
    rwa [decide_eq_true rfl] at this
  clear hLl hLok hhL hRoot hGrow hList hrl HO2 HSm HOf hr2
  go_upto_region 3 with (fail)
  refine gen_world (P := fun W => Code.wp _ _ _ _ W) (I := fun V => Below w2.heap.size w2 V ∧ Has V w2.heap.size 57 #[.int .i64 0, .slice none 0 0]) _ ⟨(Below.refl _ w2).alloc (Nat.le_refl _) _, Has.fresh _ _ _⟩ ?_
  rintro w3 ⟨hb3, hT3⟩
  have HB3 := Lib.hid hb3
  have HT3 := Lib.hid hT3
  clear hb3 hT3
  go_wp2
  go_loopw [26] (fun iv wr => ∃ (i : Nat) (pa : Option Addr) (pc : Nat), i ≤ m ∧ iv = .int .i64 (i : Int) ∧ Has wr w2.heap.size 57 #[.int .i64 (i : Int), .slice pa (peaksK 6 (L.take i)).length pc] ∧ RowOk wr pa pc (peaksK 6 (L.take i)) ∧ Hid (∀ g, pa = some g → g.block ≠ w2.heap.size) ∧ Below w2.heap.size w2 wr) (fun iv _ => m + 1 - (intOf iv).toNat)
  case atStart => exact ⟨0, none, 0, Nat.zero_le _, rfl, HT3.out, .inl ⟨rfl, rfl, rfl⟩, Lib.hid (fun g hg => by cases hg), HB3.out⟩
  case round =>
    obtain ⟨i, pa, pc, hi, rfl, hT, hR, HPn, hB⟩ := hrel
    have hlt : (i : Int) < (m : Int) + 1 := by omega
    have HT := Lib.hid hT
    have HR := Lib.hid hR
    have HB := Lib.hid hB
    have hX32 := HRl.out i
    have HIx := Lib.hid (HIa.out _ hX32)
    have HSx := Lib.hid (HSa.out _ hX32)
    have HRt := Lib.hid (HRoot.out i hi)
    have HLt := Lib.hid (HList.out i hi)
    have HXn := Lib.hid (HNe.out _ hX32)
    generalize hXe : rootOf (L.take i) = X at *
    have HXe := Lib.hid hXe
    clear hXe
    clear hT hR hB
    go_upto_region 7 with (first
      | ((with_reducible refine arm_load ⟨w2.heap.size, 0, none⟩ #[.int .i64 (i : Int), .slice pa (peaksK 6 (L.take i)).length pc] _ HT.out.row Tryd.underlying57 (HIt.out _ _) ?h1 ?h2 ?_); (case h1 => rfl); (case h2 => rfl))
      | (go_at_call 40; (with_reducible refine (HRt.out _ _ _ HR.out HB.out).mono ?_); rintro e w4 ⟨rfl, hb⟩; have HB4 := Lib.hid (HB.out.trans (hb.mono HB.out.size)); have HT4 := Lib.hid (HT.out.below hb HT.out.lt); have HR4 := Lib.hid (HR.out.below hb); have HF := Lib.hid (HF0.out w4); clear hb)
      | ((with_reducible refine arm_store w4.heap.size (arr32 X) 26 zero32 HF.out HSx.out HIx.out (arr32_one _) ?h5 ?h6 ?_); (case h5 => rfl); (case h6 => rfl)))
    refine gen_world (P := fun W => Code.wp _ _ _ _ W) (I := fun V => Below w2.heap.size w2 V ∧ Has V w4.heap.size 26 (arr32 X) ∧ Has V w2.heap.size 57 #[.int .i64 (i : Int), .slice pa (peaksK 6 (L.take i)).length pc] ∧ RowOk V pa pc (peaksK 6 (L.take i))) _ ⟨below_setRow (HB4.out.alloc HB4.out.size _) HB4.out.size _, HF.out.setRow, (HT4.out.alloc _).setRow_apart (by have := HT4.out.lt; omega), row_apart (HR4.out.below ((Below.refl _ w4).alloc (Nat.le_refl _) _)) (fun g hg => by have := row_lt HR4.out g hg; omega) _⟩ ?_
    rintro w5 ⟨hB5, hX5, hT5, hR5⟩
    generalize w4.heap.size = g10 at hX5 ⊢
    have HB5 := Lib.hid hB5
    have HX5 := Lib.hid hX5
    have HT5 := Lib.hid hT5
    have HR5 := Lib.hid hR5
    have hg10 := hX5.lt
    have hgT := hT5.lt
    have hcT := hT5.cell 0
    clear hB5 hX5 hT5 hR5 HF HB4 HT4 HR4 HT HR
    have HcT := Lib.hid (show w5.cell? ⟨w2.heap.size, 0, none⟩ = some (.int .i64 (i : Int)) from hcT)
    clear hcT
    rcases HR2.out with ⟨rfl, hL0, rfl⟩ | ⟨g2, off2, rfl, hg2, hs2, hc2, hm2⟩
    · obtain rfl : L = [] := hL0
      obtain rfl : m = 0 := by have := HLl.out; simpa using this.symm
      obtain rfl : i = 0 := by omega
      haveI hNe : Nonempty {V : World // Below w5.heap.size w5 V} := ⟨⟨w5, Below.refl _ _⟩⟩
      refine wp_region_quietC (fun w' => ∃ V : {V : World // Below w5.heap.size w5 V}, w' = V.1) (by kernel_rfl) (by kernel_rfl) ⟨⟨w5.drew, (Below.refl _ w5).drew⟩, rfl⟩ ?_
      go_big_quiet_step (fail)
      go_big_quiet_want
      refine quietG_value (.bool false) (fun w => by go_simp) ?_
      simp only [Act.put, List.setIfInBounds_toArray, List.set_cons_succ, List.set_cons_zero]
      go_big_quiet_on
      go_big_quiet_step (fail)
      go_big_quiet_want
      refine quietG_value (.pointer (some ⟨w2.heap.size, 0, none⟩)) (fun w => by go_simp) ?_
      simp only [Act.put, List.setIfInBounds_toArray, List.set_cons_succ, List.set_cons_zero]
      go_big_quiet_on
      go_big_quiet_want
      refine quietG_world (.int .i64 0) (fun w hw => by have hq := ((Behind.out hw).cell hgT).trans HcT.out; go_simp) ?_
      simp only [Act.put, List.setIfInBounds_toArray, List.set_cons_succ, List.set_cons_zero]
      go_big_quiet_on
      go_big_quiet_step (fail)
      go_big_quiet_want
      refine quietG_value (.bool false) (fun w => by go_simp) ?_
      simp only [Act.put, List.setIfInBounds_toArray, List.set_cons_succ, List.set_cons_zero]
      go_big_quiet_on
      go_big_quiet_want
      refine quietG_value (.bool false) (fun w => by go_simp) ?_
      simp only [Act.put, List.setIfInBounds_toArray, List.set_cons_succ, List.set_cons_zero]
      go_big_quiet_on
      go_big_quiet_step (fail)
      go_big_quiet_want
      (with_reducible refine quietG_load ⟨g10, 0, none⟩ (arr32 X) _ (fun w' hw' => (HX5.out.below (Behind.out hw') hg10).row) Tryd.underlying26 HIx.out ?l1 ?l2 ?_); (case l1 => rfl); (case l2 => rfl)
      simp only [Act.put, List.setIfInBounds_toArray, List.set_cons_succ, List.set_cons_zero]
      go_big_quiet_on
      go_big_quiet_step (fail)
      go_big_quiet_step (fail)
      go_big_quiet_want
      refine quietG_value (.slice none 0 0) (fun w => by go_simp) ?_
      simp only [Act.put, List.setIfInBounds_toArray, List.set_cons_succ, List.set_cons_zero]
      go_big_quiet_on
      go_big_quiet_want
      (with_reducible refine quietG_call1 egL (.slice none 0 0) (.agg (arr32 X)) ?a1 (fun w' hw' => (HLt.out w' (HB5.out.trans ((Behind.out hw').mono HB5.out.size))).mono fun e w'' h => ⟨h.1, Behind.on hw' h.2⟩) ?_); (case a1 => rfl)
      simp only [Act.put, List.setIfInBounds_toArray, List.set_cons_succ, List.set_cons_zero]
      go_big_quiet_on
      go_big_quiet_want
      have hneq := HXn.out
      have hgd := sum_guard
      refine quietG_value (.bool false) (fun w => by go_simp) ?_
      clear hneq hgd
      simp only [Act.put, List.setIfInBounds_toArray, List.set_cons_succ, List.set_cons_zero]
      go_big_quiet_on
      go_big_quiet_want
      refine quietG_value (.bool false) (fun w => by go_simp) ?_
      simp only [Act.put, List.setIfInBounds_toArray, List.set_cons_succ, List.set_cons_zero]
      go_big_quiet_on
      refine wpQuiet_nil ?_
      rintro w6 ⟨⟨_, hW6⟩, rfl⟩
      have HB6 := Lib.hid (HB5.out.trans (hW6.mono HB5.out.size))
      have HT6 := Lib.hid (HT5.out.below hW6 HT5.out.lt)
      have HR6 := Lib.hid (HR5.out.below hW6)
      clear hW6 hNe HT5 HR5 HX5 HcT
      go_wp2_with (go_at_call 15; (with_reducible refine (HAw.out _ (HC.out.below (HB2.out.trans (HB6.out.mono HB2.out.size)) rfl)).mono ?_); rintro e w7 ⟨rfl, hb7⟩; have HB7 := Lib.hid ((HB2.out.trans (HB6.out.mono HB2.out.size)).trans (hb7.mono (HB2.out.trans (HB6.out.mono HB2.out.size)).size)); clear hb7)
      go_ret
      exact ⟨rfl, HB7.out⟩
    · have HS2 := Lib.hid hs2
      have hic2 : i ≤ c2 := by omega
      clear hs2
      haveI hNe : Nonempty {V : World // Below w5.heap.size w5 V} := ⟨⟨w5, Below.refl _ _⟩⟩
      refine wp_region_quietC (fun w' => ∃ V : {V : World // Below w5.heap.size w5 V}, w' = V.1) (by kernel_rfl) (by kernel_rfl) ⟨⟨w5.drew, (Below.refl _ w5).drew⟩, rfl⟩ ?_
      go_big_quiet_step (fail)
      go_big_quiet_want
      refine quietG_value (.bool false) (fun w => by go_simp) ?_
      simp only [Act.put, List.setIfInBounds_toArray, List.set_cons_succ, List.set_cons_zero]
      go_big_quiet_on
      go_big_quiet_step (fail)
      go_big_quiet_want
      refine quietG_value (.pointer (some ⟨w2.heap.size, 0, none⟩)) (fun w => by go_simp) ?_
      simp only [Act.put, List.setIfInBounds_toArray, List.set_cons_succ, List.set_cons_zero]
      go_big_quiet_on
      go_big_quiet_want
      refine quietG_world (.int .i64 (i : Int)) (fun w hw => by have hq := ((Behind.out hw).cell hgT).trans HcT.out; go_simp) ?_
      simp only [Act.put, List.setIfInBounds_toArray, List.set_cons_succ, List.set_cons_zero]
      go_big_quiet_on
      go_big_quiet_step (fail)
      go_big_quiet_want
      refine quietG_value (.bool false) (fun w => by go_simp) ?_
      simp only [Act.put, List.setIfInBounds_toArray, List.set_cons_succ, List.set_cons_zero]
      go_big_quiet_on
      go_big_quiet_want
      refine quietG_value (.bool false) (fun w => by go_simp) ?_
      simp only [Act.put, List.setIfInBounds_toArray, List.set_cons_succ, List.set_cons_zero]
      go_big_quiet_on
      go_big_quiet_step (fail)
      go_big_quiet_want
      (with_reducible refine quietG_load ⟨g10, 0, none⟩ (arr32 X) _ (fun w' hw' => (HX5.out.below (Behind.out hw') hg10).row) Tryd.underlying26 HIx.out ?l1 ?l2 ?_); (case l1 => rfl); (case l2 => rfl)
      simp only [Act.put, List.setIfInBounds_toArray, List.set_cons_succ, List.set_cons_zero]
      go_big_quiet_on
      go_big_quiet_step (fail)
      go_big_quiet_step (fail)
      go_big_quiet_want
      refine quietG_value (.slice (some ⟨g2, off2, none⟩) i c2) (fun w => by go_simp) ?_
      simp only [Act.put, List.setIfInBounds_toArray, List.set_cons_succ, List.set_cons_zero]
      go_big_quiet_on
      go_big_quiet_want
      (with_reducible refine quietG_call1 egL (.slice (some ⟨g2, off2, none⟩) i c2) (.agg (arr32 X)) ?a1 (fun w' hw' => (HLt.out w' (HB5.out.trans ((Behind.out hw').mono HB5.out.size))).mono fun e w'' h => ⟨h.1, Behind.on hw' h.2⟩) ?_); (case a1 => rfl)
      simp only [Act.put, List.setIfInBounds_toArray, List.set_cons_succ, List.set_cons_zero]
      go_big_quiet_on
      go_big_quiet_want
      have hneq := HXn.out
      have hgd := sum_guard
      refine quietG_value (.bool false) (fun w => by go_simp) ?_
      clear hneq hgd
      simp only [Act.put, List.setIfInBounds_toArray, List.set_cons_succ, List.set_cons_zero]
      go_big_quiet_on
      go_big_quiet_want
      refine quietG_value (.bool false) (fun w => by go_simp) ?_
      simp only [Act.put, List.setIfInBounds_toArray, List.set_cons_succ, List.set_cons_zero]
      go_big_quiet_on
      refine wpQuiet_nil ?_
      rintro w6 ⟨⟨_, hW6⟩, rfl⟩
      have HB6 := Lib.hid (HB5.out.trans (hW6.mono HB5.out.size))
      have HT6 := Lib.hid (HT5.out.below hW6 HT5.out.lt)
      have HR6 := Lib.hid (HR5.out.below hW6)
      clear hW6 hNe HT5 HR5 HX5 HcT
      by_cases him : i < m
      · have hne : ¬ (i : Int) = (m : Int) := by omega
        obtain ⟨x, hx⟩ : ∃ x, L[i]? = some x := ⟨_, List.getElem?_eq_getElem (by have := HLl.out; omega)⟩
        have hx32 := (HLok.out x (List.mem_of_getElem? hx)).1
        have HIxx := Lib.hid (HIa.out x hx32)
        have HGr := Lib.hid (HGrow.out i x him hx)
        have HXr : Hid (∀ V, Below w2.heap.size w2 V → ∀ j u, (arr32 x)[j]? = some u → V.cell? ((⟨g2, off2 + i * 32, none⟩ : Addr).add j) = some u) := Lib.hid fun V hV => (HS2.out.below hg2 hV).row hx
        have hic3 : i < c2 := by omega
        clear hx
        go_upto_region 11 with (fail)
        change Code.wp _ (Code.region 11 (gwOps 11) true) _ _ _
        refine wp_region_held (S := fun V => Below w2.heap.size w2 V) (by kernel_rfl) ?_
        have hsz : (gwOps 11).size = 11 := by kernel_rfl
        rw [hsz]
        clear hsz
        refine gen_world (P := fun W' => wpAnyH _ _ _ _ _ _ _ _ W') (I := fun V => Below w2.heap.size w2 V ∧ Has V w2.heap.size 57 #[.int .i64 (i : Int), .slice pa (peaksK 6 (L.take i)).length pc] ∧ RowOk V pa pc (peaksK 6 (L.take i))) _ ⟨HB6.out.drew, HT6.out.drew, HR6.out.below (Below.refl _ w6).drew⟩ ?_
        rintro V0 ⟨hB, hT, hR⟩
        have HS0 := Lib.hid hB
        have HT0 := Lib.hid hT
        have HR0 := Lib.hid hR
        clear hB hT hR HB6 HT6 HR6
        refine wpAnyH_take (i := 1) (oi := ⟨some 56, _, _, _, _, _⟩) (v := .slice (some ⟨g2, off2, none⟩) m c2) rfl (by kernel_rfl) (by kernel_rfl) (by kernel_rfl) (fun _ _ _ h => h) (Or.inl ⟨by rfl, fun w' hw' => by go_simp⟩) HS0.out ?_
        try simp only [Act.put, List.setIfInBounds_toArray, List.set_cons_succ, List.set_cons_zero]
        refine wpAnyH_take (i := 2) (oi := ⟨some 57, _, _, _, _, _⟩) (v := .int .i64 (i : Int)) rfl (by kernel_rfl) (by kernel_rfl) (by kernel_rfl) (fun _ _ _ h => h) (Or.inl ⟨by rfl, fun w' hw' => by go_simp⟩) HS0.out ?_
        try simp only [Act.put, List.setIfInBounds_toArray, List.set_cons_succ, List.set_cons_zero]
        refine wpAnyH_take (i := 3) (oi := ⟨some 58, _, _, _, _, _⟩) (v := .pointer (some ⟨g2, off2 + i * 32, none⟩)) rfl (by kernel_rfl) (by kernel_rfl) (by kernel_rfl) (fun _ _ _ h => h) (Or.inl ⟨by rfl, fun w' hw' => by go_simp⟩) HS0.out ?_
        try simp only [Act.put, List.setIfInBounds_toArray, List.set_cons_succ, List.set_cons_zero]
        refine wpAnyH_take (i := 4) (oi := ⟨some 59, _, _, _, _, none⟩) (v := .agg (arr32 x)) rfl (by kernel_rfl) (by kernel_rfl) (by kernel_rfl) (fun _ _ _ h => h) (yieldsIf_load ⟨g2, off2 + i * 32, none⟩ _ _ (fun w hw => HXr.out w hw) Tryd.underlying26 HIxx.out rfl rfl) HS0.out ?_
        try simp only [Act.put, List.setIfInBounds_toArray, List.set_cons_succ, List.set_cons_zero]
        refine wpAnyH_all (rs := [0]) (by kernel_rfl) (by simp) ?_
        intro i hi
        obtain rfl : i = 0 := by simpa using hi
        clear hi
        refine wpOp_step (o := ⟨some 55, _, _, _, _, _⟩) rfl (fun K' hK' => ?_)
        rw [if_pos (show Region.wanted _ _ = true from rfl)]
        refine opw_load ⟨w2.heap.size, 0, none⟩ #[.int .i64 (i : Int), .slice pa (peaksK 6 (L.take i)).length pc] _ HT0.out.row Tryd.underlying57 (HIt.out _ _) rfl rfl ?_
        refine hK' _ _ ⟨HS0.out, ?_⟩
        clear hK' K'
        try simp only [Act.put, List.setIfInBounds_toArray, List.set_cons_succ, List.set_cons_zero]
        refine wpAnyH_all (rs := [5]) (by kernel_rfl) (by simp) ?_
        intro i hi
        obtain rfl : i = 5 := by simpa using hi
        clear hi
        refine wpOp_step (o := ⟨some 60, _, _, _, _, _⟩) rfl (fun K' hK' => ?_)
        rw [if_pos (show Region.wanted _ _ = true from rfl)]
        go_simp
        (with_reducible refine (HGr.out V0 pa pc HR0.out HS0.out).mono ?_)
        rintro e V1 ⟨pa', pc', rfl, hr', hfr, hb⟩
        refine hK' _ _ ⟨HS0.out.trans (hb.mono HS0.out.size), ?_⟩
        clear hK' K'
        try simp only [Act.put, List.setIfInBounds_toArray, List.set_cons_succ, List.set_cons_zero]
        have HS1 := Lib.hid (HS0.out.trans (hb.mono HS0.out.size))
        have HT1 := Lib.hid (HT0.out.below hb HT0.out.lt)
        have HR1 := Lib.hid hr'
        have HFr : Hid (∀ g, pa' = some g → g.block ≠ w2.heap.size) := Lib.hid fun g hg => by have h1 := hfr g hg; have h2 := HT0.out.lt; omega
        clear hb hr' hfr
        refine wpAnyH_take (i := 6) (oi := ⟨some 54, _, _, _, _, _⟩) (v := .tuple #[.agg #[.int .i64 ((i : Int) + 1), .slice pa' (peaksK 6 (L.take (i + 1))).length pc'], .int .i64 0]) rfl (by kernel_rfl) (by kernel_rfl) (by kernel_rfl) (fun _ _ _ h => h) (Or.inl ⟨by rfl, fun w' hw' => by go_simp⟩) HS1.out ?_
        try simp only [Act.put, List.setIfInBounds_toArray, List.set_cons_succ, List.set_cons_zero]
        refine wpAnyH_take (i := 7) (oi := ⟨some 61, _, _, _, _, _⟩) (v := .agg #[.int .i64 ((i : Int) + 1), .slice pa' (peaksK 6 (L.take (i + 1))).length pc']) rfl (by kernel_rfl) (by kernel_rfl) (by kernel_rfl) (fun _ _ _ h => h) (Or.inl ⟨by rfl, fun w' hw' => by go_simp⟩) HS1.out ?_
        try simp only [Act.put, List.setIfInBounds_toArray, List.set_cons_succ, List.set_cons_zero]
        refine wpAnyH_take (i := 8) (oi := ⟨some 62, _, _, _, _, _⟩) (v := .int .i64 0) rfl (by kernel_rfl) (by kernel_rfl) (by kernel_rfl) (fun _ _ _ h => h) (Or.inl ⟨by rfl, fun w' hw' => by go_simp⟩) HS1.out ?_
        try simp only [Act.put, List.setIfInBounds_toArray, List.set_cons_succ, List.set_cons_zero]
        refine wpAnyH_all (rs := [9]) (by kernel_rfl) (by simp) ?_
        intro i hi
        obtain rfl : i = 9 := by simpa using hi
        clear hi
        refine wpOp_step (o := ⟨none, _, _, _, _, _⟩) rfl (fun K' hK' => ?_)
        rw [if_pos (show Region.wanted _ _ = true from rfl)]
        refine opw_store w2.heap.size #[.int .i64 ((i : Int) + 1), .slice pa' (peaksK 6 (L.take (i + 1))).length pc'] _ _ HT1.out rfl (HIt.out _ _) (HOt.out _ _ _ _) rfl rfl ?_
        refine hK' _ _ ⟨below_setRow HS1.out (Nat.le_refl _) _, ?_⟩
        clear hK' K'
        try simp only [Act.put, List.setIfInBounds_toArray, List.set_cons_succ, List.set_cons_zero]
        refine wpAnyH_take (i := 10) (oi := ⟨some 12, _, _, _, _, _⟩) (v := .int .i64 0) rfl (by kernel_rfl) (by kernel_rfl) (by kernel_rfl) (fun _ _ _ h => h) (Or.inl ⟨by rfl, fun w' hw' => by go_simp⟩) (below_setRow HS1.out (Nat.le_refl _) _) ?_
        try simp only [Act.put, List.setIfInBounds_toArray, List.set_cons_succ, List.set_cons_zero]
        refine wpAnyH_done (by kernel_rfl) ?_ _
        refine gen_world (P := fun W => _) (I := fun V => Below w2.heap.size w2 V ∧ Has V w2.heap.size 57 #[.int .i64 ((i : Int) + 1), .slice pa' (peaksK 6 (L.take (i + 1))).length pc'] ∧ RowOk V pa' pc' (peaksK 6 (L.take (i + 1)))) _ ⟨below_setRow HS1.out (Nat.le_refl _) _, HT1.out.setRow, row_apart HR1.out HFr.out _⟩ ?_
        rintro V2 ⟨hB, hT, hR⟩
        have HB7 := Lib.hid hB
        have HT7 := Lib.hid hT
        have HR7 := Lib.hid hR
        clear hB hT hR HS1 HT1 HR1
        go_wp2
        go_roundw
        case rel => exact ⟨i + 1, pa', pc', by omega, by go_num, HT7.out.of_eq (by push_cast; rfl), HR7.out, HFr, HB7.out⟩
        case measure => simp [intOf]; omega
      · obtain rfl : i = m := by omega
        clear HT6 HR6 HPn
        by_cases hm0 : i = 0
        · subst hm0
          go_wp2_with (go_at_call 15; (with_reducible refine (HAw.out _ (HC.out.below (HB2.out.trans (HB6.out.mono HB2.out.size)) rfl)).mono ?_); rintro e w7 ⟨rfl, hb7⟩; have HB7 := Lib.hid ((HB2.out.trans (HB6.out.mono HB2.out.size)).trans (hb7.mono (HB2.out.trans (HB6.out.mono HB2.out.size)).size)); clear hb7)
          go_ret
          exact ⟨rfl, HB7.out⟩
        · have hm1 : ¬ (i : Int) = 0 := by omega
          have HXL : Hid (rootOf L = X) := Lib.hid (by have h := HXe.out; rwa [List.take_of_length_le (by have := HLl.out; omega)] at h)
          have HrL : Hid (∀ V, Below w2.heap.size w2 V → RowOk V (some ⟨g2, off2, none⟩) c2 L) := Lib.hid fun V hV => .inr ⟨g2, off2, rfl, Nat.lt_of_lt_of_le hg2 hV.size, HS2.out.below hg2 hV, by have := HLl.out; omega, hm2⟩
          have HCl : Hid (∀ V, Below w2.heap.size w2 V → Calls Tryd.prog 32 #[.slice (some ⟨g2, off2, none⟩) i c2] V fun e w' => ∃ g c, e = .returned (.slice (some ⟨g, 0, none⟩) i c) ∧ w'.ownsRow V.heap.size 26 32 (.slice (some ⟨g, 0, none⟩) i c) i (L.flatMap cellsOf) ∧ Below V.heap.size V w') := Lib.hid fun V hV => by
            have h := cloneSums_any L HLok.out (by have := HLl.out; omega) _ c2 V (HrL.out V hV)
            rw [HLl.out] at h
            refine h.mono ?_
            rintro e w' ⟨v, rfl, ho, hb⟩
            obtain ⟨a9, c9, rfl, _, _⟩ := own_shape ho
            obtain ⟨g9, rfl, _, _⟩ := own_addr ho (by omega)
            exact ⟨g9, c9, rfl, ho, hb⟩
          have HCw : Hid (∀ V, Below w2.heap.size w2 V → ConstAt V) := Lib.hid fun V hV => HC.out.below (HB2.out.trans (hV.mono HB2.out.size)) rfl
          obtain ⟨i0, hi0, hz0, hz1, hz2⟩ := info_parts sumInfo3
          clear HS2 HTl HRoot HGrow HList HRl HNe HR2 HT3 HB3 HXe HRt HXn HIt HOt
          go_upto_region 18 with (first
            | (go_at_call 33; (with_reducible refine (HLt.out _ HB6.out).mono ?_); rintro e w7 ⟨rfl, hb⟩; have HB7 := Lib.hid (HB6.out.trans (hb.mono HB6.out.size)); have HF := Lib.hid (HF0.out w7); clear hb)
            | ((with_reducible refine arm_store w7.heap.size (arr32 X) 26 zero32 HF.out HSx.out HIx.out (arr32_one _) ?h5 ?h6 ?_); (case h5 => rfl); (case h6 => rfl)))
          refine gen_world (P := fun W => Code.wp _ _ _ _ W) (I := fun V => Below w2.heap.size w2 V ∧ Has V w7.heap.size 26 (arr32 X)) _ ⟨below_setRow (HB7.out.alloc HB7.out.size _) HB7.out.size _, HF.out.setRow⟩ ?_
          rintro w8 ⟨hB, hX⟩
          generalize w7.heap.size = g13 at hX ⊢
          have HB8 := Lib.hid hB
          have HX8 := Lib.hid hX
          clear hB hX HF HB7 HLt
          go_upto_region 19 with (first
            | (go_at_call 32; (with_reducible refine (HCl.out _ HB8.out).mono ?_); rintro e w9 ⟨gO, cO, rfl, ho, hb⟩; have HB9 := Lib.hid (HB8.out.trans (hb.mono HB8.out.size)); have HX9 := Lib.hid (HX8.out.below hb HX8.out.lt); have HO9 := Lib.hid (own_low ho HB8.out.size); have hgX : g13 < gO := (by have h1 := HX8.out.lt; have h2 := (ho.lt gO rfl).1; omega); clear hb ho))
          obtain ⟨p, hp⟩ : ∃ p, p = at0 % i := ⟨_, rfl⟩
          have htp : ((at0 : Int)).tmod (i : Int) = (p : Int) := by rw [hp]; exact (Int.ofNat_tmod at0 i).symm
          have hpi : p < i := by rw [hp]; exact Nat.mod_lt _ (by omega)
          obtain ⟨y, hy⟩ : ∃ y, L[p]? = some y := ⟨_, List.getElem?_eq_getElem (by have := HLl.out; omega)⟩
          have hyy := HLok.out y (List.mem_of_getElem? hy)
          obtain ⟨z, hz⟩ : ∃ z, z = y.getD 31 0 := ⟨_, rfl⟩
          have hz256 : z < 256 := by rw [hz]; exact Sha.getD_lt hyy.2 (by decide) _
          obtain ⟨z2, hz2b, hzne, hxor⟩ := xor_one z hz256
          obtain ⟨_, _, hsh, hcO, hcmO⟩ := own_shape HO9.out
          injection hsh with e1 _ e3
          subst e1
          subst e3
          unfold maxLen at hcmO
          obtain ⟨O, hO⟩ : ∃ O, O = L.set p (y.set 31 z2) := ⟨_, rfl⟩
          have hOok : SumsOk O := by rw [hO]; exact set_ok HLok.out hy hz2b
          have hOl : O.length = i := by rw [hO, List.length_set]; exact HLl.out
          have hOne : O ≠ L := by rw [hO]; exact set_other hy (by rw [hyy.1]; decide) (by rw [← hz]; exact hzne)
          have c9 : w9.cell? ⟨gO, p * 32 + 31, none⟩ = some (.int .u8 (z : Int)) := by
            have h := own_cellAt HO9.out (p * 32 + 31) (.int .u8 (z : Int)) (flat_at L HLok.out p y hy 31 _ (by rw [hz]; exact arr32_get y hyy.1 31 (by decide)))
            exact h
          have f9 : w9.frozen? ⟨gO, p * 32 + 31, none⟩ = false := HO9.out.frozenAt _
          have HSet : Hid ((L.flatMap cellsOf).set (p * 32 + 31) (.int .u8 (z2 : Int)) = O.flatMap cellsOf) := Lib.hid (by rw [hO]; exact flat_set L HLok.out p y 31 z2 hy (by decide))
          have hgO2 := (HO9.out.lt gO rfl).1
          have hpc : p < cO := by omega
          have HOok := Lib.hid hOok
          have HOl := Lib.hid hOl
          have HOne := Lib.hid hOne
          clear hp hy hyy hz hO hOok hOl hOne hzne
          change Code.wp _ (Code.region 19 (gwOps 19) true) _ _ _
          refine wp_region_held (S := fun _ => True) (by kernel_rfl) ?_
          have hsz : (gwOps 19).size = 13 := by kernel_rfl
          rw [hsz]
          clear hsz
          refine gen_world (P := fun W' => wpAnyH _ _ _ _ _ _ _ _ W') (I := fun V => Below w2.heap.size w2 V ∧ Has V g13 26 (arr32 X) ∧ V.ownsRow w2.heap.size 26 32 (.slice (some ⟨gO, 0, none⟩) i cO) i (L.flatMap cellsOf) ∧ V.cell? ⟨gO, p * 32 + 31, none⟩ = some (.int .u8 (z : Int)) ∧ V.frozen? ⟨gO, p * 32 + 31, none⟩ = false) _ ⟨HB9.out.drew, HX9.out.drew, own_below HO9.out (Below.refl _ w9).drew, c9, f9⟩ ?_
          rintro W9 ⟨hB, hX, hO, C9, F9⟩
          have HB10 := Lib.hid hB
          have HX10 := Lib.hid hX
          have HO10 := Lib.hid hO
          clear hB hX hO HB9 HX9 HO9 c9 f9
          refine wpAnyH_take (i := 0) (oi := ⟨some 74, _, _, _, _, _⟩) (v := .slice (some ⟨gO, 0, none⟩) i cO) rfl (by kernel_rfl) (by kernel_rfl) (by kernel_rfl) (fun _ _ _ h => h) (Or.inl ⟨by rfl, fun w' hw' => by go_simp⟩) trivial ?_
          try simp only [Act.put, List.setIfInBounds_toArray, List.set_cons_succ, List.set_cons_zero]
          refine wpAnyH_take (i := 1) (oi := ⟨some 75, _, _, _, _, _⟩) (v := .int .u8 (at0 : Int)) rfl (by kernel_rfl) (by kernel_rfl) (by kernel_rfl) (fun _ _ _ h => h) (Or.inl ⟨by rfl, fun w' hw' => by go_simp⟩) trivial ?_
          try simp only [Act.put, List.setIfInBounds_toArray, List.set_cons_succ, List.set_cons_zero]
          refine wpAnyH_take (i := 2) (oi := ⟨some 76, _, _, _, _, _⟩) (v := .int .i64 (at0 : Int)) rfl (by kernel_rfl) (by kernel_rfl) (by kernel_rfl) (fun _ _ _ h => h) (Or.inl ⟨by rfl, fun w' hw' => by go_simp⟩) trivial ?_
          try simp only [Act.put, List.setIfInBounds_toArray, List.set_cons_succ, List.set_cons_zero]
          refine wpAnyH_take (i := 3) (oi := ⟨some 77, _, _, _, _, _⟩) (v := .slice (some ⟨g2, off2, none⟩) i c2) rfl (by kernel_rfl) (by kernel_rfl) (by kernel_rfl) (fun _ _ _ h => h) (Or.inl ⟨by rfl, fun w' hw' => by go_simp⟩) trivial ?_
          try simp only [Act.put, List.setIfInBounds_toArray, List.set_cons_succ, List.set_cons_zero]
          refine wpAnyH_take (i := 4) (oi := ⟨some 78, _, _, _, _, _⟩) (v := .int .i64 (i : Int)) rfl (by kernel_rfl) (by kernel_rfl) (by kernel_rfl) (fun _ _ _ h => h) (Or.inl ⟨by rfl, fun w' hw' => by go_simp⟩) trivial ?_
          try simp only [Act.put, List.setIfInBounds_toArray, List.set_cons_succ, List.set_cons_zero]
          refine wpAnyH_take (i := 5) (oi := ⟨some 79, _, _, _, _, _⟩) (v := .int .i64 (p : Int)) rfl (by kernel_rfl) (by kernel_rfl) (by kernel_rfl) (fun _ _ _ h => h) (Or.inl ⟨by rfl, fun w' hw' => by go_simp⟩) trivial ?_
          try simp only [Act.put, List.setIfInBounds_toArray, List.set_cons_succ, List.set_cons_zero]
          refine wpAnyH_take (i := 6) (oi := ⟨some 80, _, _, _, _, _⟩) (v := .pointer (some ⟨gO, p * 32, none⟩)) rfl (by kernel_rfl) (by kernel_rfl) (by kernel_rfl) (fun _ _ _ h => h) (Or.inl ⟨by rfl, fun w' hw' => by go_simp⟩) trivial ?_
          try simp only [Act.put, List.setIfInBounds_toArray, List.set_cons_succ, List.set_cons_zero]
          refine wpAnyH_take (i := 7) (oi := ⟨some 81, _, _, _, _, _⟩) (v := .pointer (some ⟨gO, p * 32 + 31, none⟩)) rfl (by kernel_rfl) (by kernel_rfl) (by kernel_rfl) (fun _ _ _ h => h) (Or.inl ⟨by rfl, fun w' hw' => by go_simp⟩) trivial ?_
          try simp only [Act.put, List.setIfInBounds_toArray, List.set_cons_succ, List.set_cons_zero]
          refine wpAnyH_take (i := 10) (oi := ⟨some 84, _, _, _, _, _⟩) (v := .pointer (some ⟨gO, p * 32, none⟩)) rfl (by kernel_rfl) (by kernel_rfl) (by kernel_rfl) (fun _ _ _ h => h) (Or.inl ⟨by rfl, fun w' hw' => by go_simp⟩) trivial ?_
          try simp only [Act.put, List.setIfInBounds_toArray, List.set_cons_succ, List.set_cons_zero]
          refine wpAnyH_all (rs := [8]) (by kernel_rfl) (by simp) ?_
          intro i hi
          obtain rfl : i = 8 := by simpa using hi
          clear hi
          refine wpOp_step (o := ⟨some 82, _, _, _, _, _⟩) rfl (fun K' hK' => ?_)
          rw [if_pos (show Region.wanted _ _ = true from rfl)]
          go_simp
          refine hK' _ _ ⟨trivial, ?_⟩
          clear hK' K'
          try simp only [Act.put, List.setIfInBounds_toArray, List.set_cons_succ, List.set_cons_zero]
          refine wpAnyH_take (i := 9) (oi := ⟨some 83, _, _, _, _, _⟩) (v := .int .u8 (z2 : Int)) rfl (by kernel_rfl) (by kernel_rfl) (by kernel_rfl) (fun _ _ _ h => h) (Or.inl ⟨by rfl, fun w' hw' => by go_simp⟩) trivial ?_
          try simp only [Act.put, List.setIfInBounds_toArray, List.set_cons_succ, List.set_cons_zero]
          refine wpAnyH_take (i := 11) (oi := ⟨some 85, _, _, _, _, _⟩) (v := .pointer (some ⟨gO, p * 32 + 31, none⟩)) rfl (by kernel_rfl) (by kernel_rfl) (by kernel_rfl) (fun _ _ _ h => h) (Or.inl ⟨by rfl, fun w' hw' => by go_simp⟩) trivial ?_
          try simp only [Act.put, List.setIfInBounds_toArray, List.set_cons_succ, List.set_cons_zero]
          refine wpAnyH_all (rs := [12]) (by kernel_rfl) (by simp) ?_
          intro i hi
          obtain rfl : i = 12 := by simpa using hi
          clear hi
          refine wpOp_step (o := ⟨none, _, _, _, _, _⟩) rfl (fun K' hK' => ?_)
          rw [if_pos (show Region.wanted _ _ = true from rfl)]
          go_simp
          refine hK' _ _ ⟨trivial, ?_⟩
          clear hK' K'
          try simp only [Act.put, List.setIfInBounds_toArray, List.set_cons_succ, List.set_cons_zero]
          refine wpAnyH_done (by kernel_rfl) ?_ _
          refine gen_world (P := fun W => _) (I := fun V => Below w2.heap.size w2 V ∧ Has V g13 26 (arr32 X) ∧ V.ownsRow w2.heap.size 26 32 (.slice (some ⟨gO, 0, none⟩) i cO) i (O.flatMap cellsOf)) _ ⟨HB10.out.setCell hgO2 _, HX10.out.apart (by show g13 ≠ gO; omega) _, own_cast (HO10.out.stored _ _).1 rfl HSet.out⟩ ?_
          rintro w11 ⟨hB, hX, hO⟩
          have HB11 := Lib.hid hB
          have HX11 := Lib.hid hX
          have HO11 := Lib.hid hO
          clear hB hX hO HB10 HX10 HO10 C9 F9 HSet hxor
          go_upto_region 20 with (fail)
          rename_i K20 hK20
          obtain ⟨i1, hi1⟩ : ∃ i1, i1 + 1 ≤ i ∧ i ≤ i1 + 1 := ⟨i - 1, by omega, by omega⟩
          have hwi : IntKind.i64.wrap (i1 : Int) = (i1 : Int) := IntWalk.i64_in _ (by omega)
          have hi2 : (i : Int) - 1 = (i1 : Int) := by omega
          have hi3 : i1 ≤ c2 := by omega
          obtain ⟨Z, hZ⟩ : ∃ Z, Z = List.replicate 32 0 := ⟨_, rfl⟩
          have hZok : SumsOk [Z] := by rw [hZ]; exact zeros_ok
          have hZl : Z.length = 32 := by rw [hZ]; simp
          have HZa : Hid (arr32 Z = zero32) := Lib.hid (by rw [hZ]; exact zeros_arr)
          have HLAok : Hid (SumsOk (L ++ [Z])) := Lib.hid (fun l hl => by
            rcases List.mem_append.1 hl with h | h
            · exact HLok.out l h
            · exact hZok l h)
          clear hZ hZok
          have HNext : Hid (∀ (s0 s1 s2 s3 s4 s5 s6 s8 s9 s10 s11 s12 s14 s15 s16 s17 s18 s19 s20 s21 s22 s23 s24 s25 s26 s27 s28 s29 s30 s31 s32 s33 s34 s35 s36 s37 s38 s39 s40 s41 s42 s43 s44 s45 s46 s47 s48 s49 s50 s51 s52 s53 s54 s55 s56 s57 s58 s59 s60 s61 s62 s63 s64 s65 s66 s67 s68 s69 s70 s71 s72 s73 s74 s75 s76 s77 s78 s79 s80 s81 s82 s83 s84 s85 s86 s87 s88 s89 s90 s91 s92 s93 s94 s95 s96 s100 s101 s102 s103 s104 s105 s106 s107 s108 s109 s110 s111 s112 s113 s114 s115 s116 s117 : Value) (gL gA cA : Nat) (U : World), Below w2.heap.size w2 U → Has U g13 26 (arr32 X) → U.ownsRow w2.heap.size 26 32 (.slice (some ⟨gO, 0, none⟩) i cO) i (O.flatMap cellsOf) → U.ownsRow w2.heap.size 26 32 (.slice (some ⟨gA, 0, none⟩) (i + 1) cA) (i + 1) ((L ++ [Z]).flatMap cellsOf) → Has U gL 49 #[.slice (some ⟨gO, 0, none⟩) i cO, .slice (some ⟨g2, off2, none⟩) i1 c2, .slice (some ⟨gA, 0, none⟩) (i + 1) cA] → K20 ⟨#[s0, s1, s2, s3, s4, s5, s6, .slice (some ⟨g2, off2, none⟩) i c2, s8, s9, s10, s11, s12, .pointer (some ⟨g13, 0, none⟩), s14, s15, s16, s17, s18, s19, s20, s21, s22, s23, s24, s25, s26, s27, s28, s29, s30, s31, s32, s33, s34, s35, s36, s37, s38, s39, s40, s41, s42, s43, s44, s45, s46, s47, s48, s49, s50, s51, s52, s53, s54, s55, s56, s57, s58, s59, s60, s61, s62, s63, s64, s65, s66, s67, s68, s69, s70, s71, s72, s73, s74, s75, s76, s77, s78, s79, s80, s81, s82, s83, s84, s85, s86, s87, s88, s89, s90, s91, s92, s93, s94, s95, s96, .slice (some ⟨gL, 0, none⟩) 3 3, .int .i64 3, .int .i64 0, s100, s101, s102, s103, s104, s105, s106, s107, s108, s109, s110, s111, s112, s113, s114, s115, s116, s117], []⟩ U) := Lib.hid fun s0 s1 s2 s3 s4 s5 s6 s8 s9 s10 s11 s12 s14 s15 s16 s17 s18 s19 s20 s21 s22 s23 s24 s25 s26 s27 s28 s29 s30 s31 s32 s33 s34 s35 s36 s37 s38 s39 s40 s41 s42 s43 s44 s45 s46 s47 s48 s49 s50 s51 s52 s53 s54 s55 s56 s57 s58 s59 s60 s61 s62 s63 s64 s65 s66 s67 s68 s69 s70 s71 s72 s73 s74 s75 s76 s77 s78 s79 s80 s81 s82 s83 s84 s85 s86 s87 s88 s89 s90 s91 s92 s93 s94 s95 s96 s100 s101 s102 s103 s104 s105 s106 s107 s108 s109 s110 s111 s112 s113 s114 s115 s116 s117 gL gA cA U hBU hXU hOU hAU hLU => by
            apply hK20
            obtain ⟨_, _, hshA, hcA, hcmA⟩ := own_shape hAU
            injection hshA with e1 _ e3
            subst e1
            subst e3
            have hrowO : RowOk U (some ⟨gO, 0, none⟩) cO O := row_lit hOU HOok.out HOl.out
            have hrowA : RowOk U (some ⟨gA, 0, none⟩) cA (L ++ [Z]) := row_lit hAU HLAok.out (by rw [List.length_append, HLl.out]; rfl)
            have hrowT : RowOk U (some ⟨g2, off2, none⟩) c2 (L.take i1) := by
              rcases HrL.out U hBU with ⟨h1, _⟩ | ⟨g, off, h1, h2, h3, h4, h5⟩
              · cases h1
              · exact .inr ⟨g, off, h1, h2, h3.take i1, by rw [List.length_take]; omega, h5⟩
            have hLU0 := hLU.cell 0
            have hLU1 := hLU.cell 1
            have hLU2 := hLU.cell 2
            have hcase : ∀ k, k < 3 → ∃ (gm om nm cm : Nat) (M : List (List Nat)), U.cell? ⟨gL, k, none⟩ = some (.slice (some ⟨gm, om, none⟩) nm cm) ∧ RowOk U (some ⟨gm, om, none⟩) cm M ∧ M.length = nm ∧ SumsOk M ∧ L ≠ M ∧ nm ≤ 41 ∧ nm ≤ cm := fun k hk => by
              obtain rfl | rfl | rfl : k = 0 ∨ k = 1 ∨ k = 2 := by omega
              · exact ⟨gO, 0, i, cO, O, hLU0, hrowO, HOl.out, HOok.out, HOne.out.symm, by omega, hcO⟩
              · exact ⟨g2, off2, i1, c2, L.take i1, hLU1, hrowT, by rw [List.length_take, HLl.out]; omega, fun l hl => HLok.out l (List.mem_of_mem_take hl), fun e => by have h := congrArg List.length e; rw [List.length_take, HLl.out] at h; omega, by omega, hi3⟩
              · exact ⟨gA, 0, i + 1, cA, L ++ [Z], hLU2, hrowA, by rw [List.length_append, HLl.out]; rfl, HLAok.out, fun e => by have h := congrArg List.length e; rw [List.length_append] at h; simp at h, by omega, hcA⟩
            have hgL := hLU.lt
            have hg13 := hXU.lt
            have HCase := Lib.hid hcase
            have HXU := Lib.hid hXU
            have HBU := Lib.hid hBU
            have HrLU := Lib.hid (HrL.out U hBU)
            clear hrowO hrowA hrowT hLU0 hLU1 hLU2 hcase hBU hXU hOU hAU hLU hK20
            go_wp2
            go_loopw [99] (fun kv wr => ∃ k : Nat, k ≤ 3 ∧ kv = .int .i64 (k : Int) ∧ Below U.heap.size U wr) (fun kv _ => 3 - (intOf kv).toNat)
            case atStart => exact ⟨0, by omega, rfl, Below.refl _ _⟩
            case round =>
              obtain ⟨k, hk, rfl, hB⟩ := hrel
              have HBr := Lib.hid hB
              clear hB
              by_cases hk3 : k < 3
              · obtain ⟨gm, om, nm, cm, M, hcm1, hrM, hMl, hMok, hMne, hnm, hnmc⟩ := HCase.out k hk3
                have hck : wr.cell? ⟨gL, k, none⟩ = some (.slice (some ⟨gm, om, none⟩) nm cm) := (HBr.out.cell hgL).trans hcm1
                obtain ⟨Y, hY⟩ : ∃ Y, Y = rootOf M := ⟨_, rfl⟩
                have hY32 : Y.length = 32 := by rw [hY]; exact (rootOf_len _).1
                have HLm : Hid (∀ V, Below U.heap.size U V → Calls Tryd.prog 33 #[.slice (some ⟨gm, om, none⟩) nm cm] V fun e w' => e = .returned (.agg (arr32 Y)) ∧ Below V.heap.size V w') := Lib.hid fun V hV => by
                  have h : Calls Tryd.prog 33 #[.slice (some ⟨gm, om, none⟩) M.length cm] V fun e w' => e = .returned (.agg (arr32 (rootOf M))) ∧ (rootOf M).length = 32 ∧ Below V.heap.size V w' := listAll_any M V _ cm (hrM.below hV) (by omega) (HCw.out V (HBU.out.trans (hV.mono HBU.out.size)))
                  rw [← hY, hMl] at h
                  exact h.mono fun e w' k => ⟨k.1, k.2.2⟩
                have hk4 : (k : Int) < 3 := by omega
                by_cases hXY : X = Y
                · have HEl : Hid (∀ V : World, (binOp .eql 26 (.agg (arr32 X)) (.agg (arr32 Y))).run Tryd.prog V = .ok (.bool true) V) := Lib.hid fun V => by
                    have := sum_eql X Y hX32 hY32 V
                    rwa [decide_eq_true hXY] at this
                  have hcl : Clashing (madeOf 64 L ++ madeOf 64 M) := clash_two L M (by have := HLl.out; omega) (by omega) hMne (by rw [HXL.out, hXY, hY])
                  have hby : ∀ b ∈ madeOf 64 L ++ madeOf 64 M, Sha.Bytes b ∧ b.length ≤ 1000000 := fun b hb => (List.mem_append.1 hb).elim (madeOf_bytes 64 L HLok.out b) (madeOf_bytes 64 M hMok b)
                  obtain ⟨M1, hM1⟩ : ∃ M, M = madeOf 64 L := ⟨_, rfl⟩
                  obtain ⟨M2, hM2⟩ : ∃ q, q = madeOf 64 M := ⟨_, rfl⟩
                  have h1l : M1.length ≤ 200 := by have h := madeOf_len 64 L (by have := HLl.out; omega); rw [← hM1, HLl.out] at h; split at h <;> omega
                  have h2l : M2.length ≤ 200 := by have h := madeOf_len 64 M (by omega); rw [← hM2, hMl] at h; split at h <;> omega
                  have hp1 : 0 < M1.length := by rw [hM1]; exact madeOf_pos _ _
                  have hp2 : 0 < M2.length := by rw [hM2]; exact madeOf_pos _ _
                  have HM1 : Hid (∀ V : World, Below U.heap.size U V → Calls Tryd.prog 54 #[.slice (some ⟨g2, off2, none⟩) i c2] V fun e w' => ∃ gq cq vq, e = .returned (.slice (some ⟨gq, 0, none⟩) M1.length cq) ∧ w'.ownsRow V.heap.size 22 1 (.slice (some ⟨gq, 0, none⟩) M1.length cq) M1.length vq ∧ BRows w' vq M1 ∧ Below V.heap.size V w') := Lib.hid fun V hV => by
                    have h := made_any 64 L _ c2 V (by have := HLl.out; omega) (by have := HLl.out; omega) HLok.out (HrLU.out.below hV) (HCw.out V (HBU.out.trans (hV.mono HBU.out.size)))
                    rw [← hM1, HLl.out] at h
                    refine h.mono ?_
                    rintro e w' ⟨v, vals, rfl, ho, hr, hb⟩
                    obtain ⟨a, cq, rfl, _, _⟩ := own_shape ho
                    obtain ⟨gq, rfl, _, _⟩ := own_addr ho hp1
                    exact ⟨gq, cq, vals, rfl, ho, hr, hb⟩
                  have HM2 : Hid (∀ V : World, Below U.heap.size U V → Calls Tryd.prog 54 #[.slice (some ⟨gm, om, none⟩) nm cm] V fun e w' => ∃ gq cq vq, e = .returned (.slice (some ⟨gq, 0, none⟩) M2.length cq) ∧ w'.ownsRow V.heap.size 22 1 (.slice (some ⟨gq, 0, none⟩) M2.length cq) M2.length vq ∧ BRows w' vq M2 ∧ Below V.heap.size V w') := Lib.hid fun V hV => by
                    have h := made_any 64 M _ cm V (by omega) (by omega) hMok (hrM.below hV) (HCw.out V (HBU.out.trans (hV.mono HBU.out.size)))
                    rw [← hM2, hMl] at h
                    refine h.mono ?_
                    rintro e w' ⟨v, vals, rfl, ho, hr, hb⟩
                    obtain ⟨a, cq, rfl, _, _⟩ := own_shape ho
                    obtain ⟨gq, rfl, _, _⟩ := own_addr ho hp2
                    exact ⟨gq, cq, vals, rfl, ho, hr, hb⟩
                  have HCla : Hid (∀ (V : World) (gq cq base : Nat) (vals : List Value), Below U.heap.size U V → V.ownsRow base 22 1 (.slice (some ⟨gq, 0, none⟩) (M1.length + M2.length) cq) (M1.length + M2.length) vals → BRows V vals (M1 ++ M2) → Calls Tryd.prog 53 #[.slice (some ⟨gq, 0, none⟩) (M1.length + M2.length) cq] V fun e w' => e = .returned (.bool true) ∧ Below V.heap.size V w') := Lib.hid fun V gq cq base vals hV ho hr => by
                    rw [hM1, hM2] at ho hr ⊢
                    refine (clash_any _ hby _ (by rw [List.length_append]) (by rw [← hM1, ← hM2]; omega) gq cq base vals V ho hr (HCw.out V (HBU.out.trans (hV.mono HBU.out.size)))).mono ?_
                    rintro e w' ⟨r, rfl, hr, hb⟩
                    exact ⟨by rw [hr hcl], hb⟩
                  obtain ⟨ib, hib, hb0, hb1, hb2⟩ := info_parts bytesInfo3
                  clear hcl hby hM1 hM2 hXY hY hrM hMl hMok hMne hcm1
                  go_upto_region 23 with (fail)
                  change Code.wp _ (Code.region 23 (gwOps 23) true) _ _ _
                  refine wp_region_held (S := fun V => Below U.heap.size U V) (by kernel_rfl) ?_
                  have hsz : (gwOps 23).size = 13 := by kernel_rfl
                  rw [hsz]
                  clear hsz
                  refine gen_world (P := fun W' => wpAnyH _ _ _ _ _ _ _ _ W') (I := fun V => Below U.heap.size U V) _ HBr.out.drew ?_
                  rintro V0 hB
                  have HS0 := Lib.hid hB
                  clear hB HBr hck
                  refine wpAnyH_take (i := 0) (oi := ⟨some 103, _, _, _, _, none⟩) (v := .agg (arr32 X)) rfl (by kernel_rfl) (by kernel_rfl) (by kernel_rfl) (fun _ _ _ h => h) (yieldsIf_load ⟨g13, 0, none⟩ _ _ (fun w hw => (HXU.out.below hw hg13).row) Tryd.underlying26 HIx.out rfl rfl) HS0.out ?_
                  try simp only [Act.put, List.setIfInBounds_toArray, List.set_cons_succ, List.set_cons_zero]
                  refine wpAnyH_take (i := 1) (oi := ⟨some 104, _, _, _, _, _⟩) (v := .slice (some ⟨gm, om, none⟩) nm cm) rfl (by kernel_rfl) (by kernel_rfl) (by kernel_rfl) (fun _ _ _ h => h) (Or.inl ⟨by rfl, fun w' hw' => by go_simp⟩) HS0.out ?_
                  try simp only [Act.put, List.setIfInBounds_toArray, List.set_cons_succ, List.set_cons_zero]
                  refine wpAnyH_all (rs := [2]) (by kernel_rfl) (by simp) ?_
                  intro i hi
                  obtain rfl : i = 2 := by simpa using hi
                  clear hi
                  refine wpOp_step (o := ⟨some 105, _, _, _, _, _⟩) rfl (fun K' hK' => ?_)
                  rw [if_pos (show Region.wanted _ _ = true from rfl)]
                  go_simp
                  (with_reducible refine (HLm.out V0 HS0.out).mono ?_)
                  rintro e V1 ⟨rfl, hb⟩
                  refine hK' _ _ ⟨HS0.out.trans (hb.mono HS0.out.size), ?_⟩
                  clear hK' K'
                  try simp only [Act.put, List.setIfInBounds_toArray, List.set_cons_succ, List.set_cons_zero]
                  have HS1 := Lib.hid (HS0.out.trans (hb.mono HS0.out.size))
                  clear hb
                  have heql := HEl.out
                  have hgd := sum_guard
                  refine wpAnyH_take (i := 3) (oi := ⟨some 106, _, _, _, _, _⟩) (v := .bool true) rfl (by kernel_rfl) (by kernel_rfl) (by kernel_rfl) (fun _ _ _ h => h) (Or.inl ⟨by rfl, fun w' hw' => by go_simp⟩) HS1.out ?_
                  try simp only [Act.put, List.setIfInBounds_toArray, List.set_cons_succ, List.set_cons_zero]
                  clear heql hgd
                  refine wpAnyH_take (i := 4) (oi := ⟨some 107, _, _, _, _, _⟩) (v := .bool true) rfl (by kernel_rfl) (by kernel_rfl) (by kernel_rfl) (fun _ _ _ h => h) (Or.inl ⟨by rfl, fun w' hw' => by go_simp⟩) HS1.out ?_
                  try simp only [Act.put, List.setIfInBounds_toArray, List.set_cons_succ, List.set_cons_zero]
                  refine wpAnyH_take (i := 5) (oi := ⟨some 108, _, _, _, _, _⟩) (v := .slice (some ⟨g2, off2, none⟩) i c2) rfl (by kernel_rfl) (by kernel_rfl) (by kernel_rfl) (fun _ _ _ h => h) (Or.inl ⟨by rfl, fun w' hw' => by go_simp⟩) HS1.out ?_
                  try simp only [Act.put, List.setIfInBounds_toArray, List.set_cons_succ, List.set_cons_zero]
                  refine wpAnyH_take (i := 7) (oi := ⟨some 110, _, _, _, _, _⟩) (v := .slice (some ⟨gm, om, none⟩) nm cm) rfl (by kernel_rfl) (by kernel_rfl) (by kernel_rfl) (fun _ _ _ h => h) (Or.inl ⟨by rfl, fun w' hw' => by go_simp⟩) HS1.out ?_
                  try simp only [Act.put, List.setIfInBounds_toArray, List.set_cons_succ, List.set_cons_zero]
                  refine wpAnyH_all (rs := [6]) (by kernel_rfl) (by simp) ?_
                  intro i hi
                  obtain rfl : i = 6 := by simpa using hi
                  clear hi
                  refine wpOp_step (o := ⟨some 109, _, _, _, _, _⟩) rfl (fun K' hK' => ?_)
                  rw [if_pos (show Region.wanted _ _ = true from rfl)]
                  go_simp
                  (with_reducible refine (HM1.out V1 HS1.out).mono ?_)
                  rintro e V2 ⟨gp, cp, vp, rfl, hM, hN, hb⟩
                  refine hK' _ _ ⟨HS1.out.trans (hb.mono HS1.out.size), ?_⟩
                  clear hK' K'
                  try simp only [Act.put, List.setIfInBounds_toArray, List.set_cons_succ, List.set_cons_zero]
                  have HS2 := Lib.hid (HS1.out.trans (hb.mono HS1.out.size))
                  have HP2 := Lib.hid (own_low hM HS1.out.size)
                  have HQ2 := Lib.hid hN
                  clear hM hN hb
                  refine wpAnyH_all (rs := [8]) (by kernel_rfl) (by simp) ?_
                  intro i hi
                  obtain rfl : i = 8 := by simpa using hi
                  clear hi
                  refine wpOp_step (o := ⟨some 111, _, _, _, _, _⟩) rfl (fun K' hK' => ?_)
                  rw [if_pos (show Region.wanted _ _ = true from rfl)]
                  go_simp
                  (with_reducible refine (HM2.out V2 HS2.out).mono ?_)
                  rintro e V3 ⟨gq, cq, vq, rfl, hM, hN, hb⟩
                  refine hK' _ _ ⟨HS2.out.trans (hb.mono HS2.out.size), ?_⟩
                  clear hK' K'
                  try simp only [Act.put, List.setIfInBounds_toArray, List.set_cons_succ, List.set_cons_zero]
                  have HS3 := Lib.hid (HS2.out.trans (hb.mono HS2.out.size))
                  have HP3 := Lib.hid (own_below HP2.out hb)
                  have HQ3 := Lib.hid (HQ2.out.below hb)
                  have HR3 := Lib.hid (own_low hM HS2.out.size)
                  have HT3 := Lib.hid hN
                  clear hM hN hb
                  refine wpAnyH_all (rs := [9]) (by kernel_rfl) (by simp) ?_
                  intro i hi
                  obtain rfl : i = 9 := by simpa using hi
                  clear hi
                  refine wpOp_step (o := ⟨some 112, _, _, _, _, _⟩) rfl (fun K' hK' => ?_)
                  rw [if_pos (show Region.wanted _ _ = true from rfl)]
                  refine wp_append_own _ _ _ 84 rfl U.heap.size 22 ib (.slice none 0 0) 1 24 Tryd.underlying84 hib hb0 hb1 hb2 rfl (by decide) _ _ _ rfl HP3.out ⟨gq, 0, none⟩ M2.length cq vq rfl (by rw [Nat.mul_one]; exact HT3.out.len) (own_news HR3.out) (brows_one HT3.out) (by unfold maxLen; omega) (by omega) HS3.out.size (fun v' V4 hown hgrow _ => ?_)
                  have hQ4 := HQ3.out.grown HP3.out hgrow
                  have hT4 := HT3.out.grown HP3.out hgrow
                  have hS4 : Below U.heap.size U V4 := HS3.out.grown hgrow HS3.out.size (fun r hr => (HP3.out.lt r hr).1)
                  obtain ⟨a9, c9, rfl, _, _⟩ := own_shape hown
                  obtain ⟨g9, rfl, _, _⟩ := own_addr hown (by omega)
                  refine hK' _ _ ⟨hS4, ?_⟩
                  clear hK' K'
                  try simp only [Act.put, List.setIfInBounds_toArray, List.set_cons_succ, List.set_cons_zero]
                  have HS4 := Lib.hid hS4
                  have HO4 := Lib.hid hown
                  have HD4 := Lib.hid (BRows.append hQ4 hT4)
                  clear hQ4 hT4 hS4 hown hgrow
                  refine wpAnyH_all (rs := [10]) (by kernel_rfl) (by simp) ?_
                  intro i hi
                  obtain rfl : i = 10 := by simpa using hi
                  clear hi
                  refine wpOp_step (o := ⟨some 113, _, _, _, _, _⟩) rfl (fun K' hK' => ?_)
                  rw [if_pos (show Region.wanted _ _ = true from rfl)]
                  go_simp
                  (with_reducible refine (HCla.out V4 g9 c9 _ _ HS4.out HO4.out HD4.out).mono ?_)
                  rintro e V5 ⟨rfl, hb⟩
                  refine hK' _ _ ⟨HS4.out.trans (hb.mono HS4.out.size), ?_⟩
                  clear hK' K'
                  try simp only [Act.put, List.setIfInBounds_toArray, List.set_cons_succ, List.set_cons_zero]
                  have HS5 := Lib.hid (HS4.out.trans (hb.mono HS4.out.size))
                  clear hb
                  refine wpAnyH_take (i := 11) (oi := ⟨some 114, _, _, _, _, _⟩) (v := .bool false) rfl (by kernel_rfl) (by kernel_rfl) (by kernel_rfl) (fun _ _ _ h => h) (Or.inl ⟨by rfl, fun w' hw' => by go_simp⟩) HS5.out ?_
                  try simp only [Act.put, List.setIfInBounds_toArray, List.set_cons_succ, List.set_cons_zero]
                  refine wpAnyH_take (i := 12) (oi := ⟨some 115, _, _, _, _, _⟩) (v := .bool false) rfl (by kernel_rfl) (by kernel_rfl) (by kernel_rfl) (fun _ _ _ h => h) (Or.inl ⟨by rfl, fun w' hw' => by go_simp⟩) HS5.out ?_
                  try simp only [Act.put, List.setIfInBounds_toArray, List.set_cons_succ, List.set_cons_zero]
                  refine wpAnyH_done (by kernel_rfl) ?_ _
                  go_wp2
                  go_roundw
                  case rel => exact ⟨k + 1, by omega, by go_num, HS5.out⟩
                  case measure => simp [intOf]; omega
                · have HEl : Hid (∀ V : World, (binOp .eql 26 (.agg (arr32 X)) (.agg (arr32 Y))).run Tryd.prog V = .ok (.bool false) V) := Lib.hid fun V => by
                    have := sum_eql X Y hX32 hY32 V
                    rwa [decide_eq_false hXY] at this
                  clear hXY hY hrM hMl hMok hMne hcm1
                  go_upto_region 23 with (fail)
                  change Code.wp _ (Code.region 23 (gwOps 23) true) _ _ _
                  refine wp_region_held (S := fun V => Below U.heap.size U V) (by kernel_rfl) ?_
                  have hsz : (gwOps 23).size = 13 := by kernel_rfl
                  rw [hsz]
                  clear hsz
                  refine gen_world (P := fun W' => wpAnyH _ _ _ _ _ _ _ _ W') (I := fun V => Below U.heap.size U V) _ HBr.out.drew ?_
                  rintro V0 hB
                  have HS0 := Lib.hid hB
                  clear hB HBr hck
                  refine wpAnyH_take (i := 0) (oi := ⟨some 103, _, _, _, _, none⟩) (v := .agg (arr32 X)) rfl (by kernel_rfl) (by kernel_rfl) (by kernel_rfl) (fun _ _ _ h => h) (yieldsIf_load ⟨g13, 0, none⟩ _ _ (fun w hw => (HXU.out.below hw hg13).row) Tryd.underlying26 HIx.out rfl rfl) HS0.out ?_
                  try simp only [Act.put, List.setIfInBounds_toArray, List.set_cons_succ, List.set_cons_zero]
                  refine wpAnyH_take (i := 1) (oi := ⟨some 104, _, _, _, _, _⟩) (v := .slice (some ⟨gm, om, none⟩) nm cm) rfl (by kernel_rfl) (by kernel_rfl) (by kernel_rfl) (fun _ _ _ h => h) (Or.inl ⟨by rfl, fun w' hw' => by go_simp⟩) HS0.out ?_
                  try simp only [Act.put, List.setIfInBounds_toArray, List.set_cons_succ, List.set_cons_zero]
                  refine wpAnyH_all (rs := [2]) (by kernel_rfl) (by simp) ?_
                  intro i hi
                  obtain rfl : i = 2 := by simpa using hi
                  clear hi
                  refine wpOp_step (o := ⟨some 105, _, _, _, _, _⟩) rfl (fun K' hK' => ?_)
                  rw [if_pos (show Region.wanted _ _ = true from rfl)]
                  go_simp
                  (with_reducible refine (HLm.out V0 HS0.out).mono ?_)
                  rintro e V1 ⟨rfl, hb⟩
                  refine hK' _ _ ⟨HS0.out.trans (hb.mono HS0.out.size), ?_⟩
                  clear hK' K'
                  try simp only [Act.put, List.setIfInBounds_toArray, List.set_cons_succ, List.set_cons_zero]
                  have HS1 := Lib.hid (HS0.out.trans (hb.mono HS0.out.size))
                  clear hb
                  have heql := HEl.out
                  have hgd := sum_guard
                  refine wpAnyH_take (i := 3) (oi := ⟨some 106, _, _, _, _, _⟩) (v := .bool false) rfl (by kernel_rfl) (by kernel_rfl) (by kernel_rfl) (fun _ _ _ h => h) (Or.inl ⟨by rfl, fun w' hw' => by go_simp⟩) HS1.out ?_
                  try simp only [Act.put, List.setIfInBounds_toArray, List.set_cons_succ, List.set_cons_zero]
                  clear heql hgd
                  refine wpAnyH_take (i := 4) (oi := ⟨some 107, _, _, _, _, _⟩) (v := .bool false) rfl (by kernel_rfl) (by kernel_rfl) (by kernel_rfl) (fun _ _ _ h => h) (Or.inl ⟨by rfl, fun w' hw' => by go_simp⟩) HS1.out ?_
                  try simp only [Act.put, List.setIfInBounds_toArray, List.set_cons_succ, List.set_cons_zero]
                  refine wpAnyH_take (i := 5) (oi := ⟨some 108, _, _, _, _, _⟩) (v := undef) rfl (by kernel_rfl) (by kernel_rfl) (by kernel_rfl) (fun _ _ _ h => h) (Or.inr ⟨by rfl, rfl⟩) HS1.out ?_
                  try simp only [Act.put, List.setIfInBounds_toArray, List.set_cons_succ, List.set_cons_zero]
                  refine wpAnyH_take (i := 6) (oi := ⟨some 109, _, _, _, _, _⟩) (v := undef) rfl (by kernel_rfl) (by kernel_rfl) (by kernel_rfl) (fun _ _ _ h => h) (Or.inr ⟨by rfl, rfl⟩) HS1.out ?_
                  try simp only [Act.put, List.setIfInBounds_toArray, List.set_cons_succ, List.set_cons_zero]
                  refine wpAnyH_take (i := 7) (oi := ⟨some 110, _, _, _, _, _⟩) (v := undef) rfl (by kernel_rfl) (by kernel_rfl) (by kernel_rfl) (fun _ _ _ h => h) (Or.inr ⟨by rfl, rfl⟩) HS1.out ?_
                  try simp only [Act.put, List.setIfInBounds_toArray, List.set_cons_succ, List.set_cons_zero]
                  refine wpAnyH_take (i := 8) (oi := ⟨some 111, _, _, _, _, _⟩) (v := undef) rfl (by kernel_rfl) (by kernel_rfl) (by kernel_rfl) (fun _ _ _ h => h) (Or.inr ⟨by rfl, rfl⟩) HS1.out ?_
                  try simp only [Act.put, List.setIfInBounds_toArray, List.set_cons_succ, List.set_cons_zero]
                  refine wpAnyH_take (i := 9) (oi := ⟨some 112, _, _, _, _, _⟩) (v := undef) rfl (by kernel_rfl) (by kernel_rfl) (by kernel_rfl) (fun _ _ _ h => h) (Or.inr ⟨by rfl, rfl⟩) HS1.out ?_
                  try simp only [Act.put, List.setIfInBounds_toArray, List.set_cons_succ, List.set_cons_zero]
                  refine wpAnyH_take (i := 10) (oi := ⟨some 113, _, _, _, _, _⟩) (v := undef) rfl (by kernel_rfl) (by kernel_rfl) (by kernel_rfl) (fun _ _ _ h => h) (Or.inr ⟨by rfl, rfl⟩) HS1.out ?_
                  try simp only [Act.put, List.setIfInBounds_toArray, List.set_cons_succ, List.set_cons_zero]
                  refine wpAnyH_take (i := 11) (oi := ⟨some 114, _, _, _, _, _⟩) (v := undef) rfl (by kernel_rfl) (by kernel_rfl) (by kernel_rfl) (fun _ _ _ h => h) (Or.inr ⟨by rfl, rfl⟩) HS1.out ?_
                  try simp only [Act.put, List.setIfInBounds_toArray, List.set_cons_succ, List.set_cons_zero]
                  refine wpAnyH_take (i := 12) (oi := ⟨some 115, _, _, _, _, _⟩) (v := .bool false) rfl (by kernel_rfl) (by kernel_rfl) (by kernel_rfl) (fun _ _ _ h => h) (Or.inl ⟨by rfl, fun w' hw' => by go_simp⟩) HS1.out ?_
                  try simp only [Act.put, List.setIfInBounds_toArray, List.set_cons_succ, List.set_cons_zero]
                  refine wpAnyH_done (by kernel_rfl) ?_ _
                  go_wp2
                  go_roundw
                  case rel => exact ⟨k + 1, by omega, by go_num, HS1.out⟩
                  case measure => simp [intOf]; omega
              · obtain rfl : k = 3 := by omega
                go_wp2_with (go_at_call 15; (with_reducible refine (HAw.out _ (HCw.out _ (HBU.out.trans (HBr.out.mono HBU.out.size)))).mono ?_); rintro e w9 ⟨rfl, hb9⟩; have HB9 := Lib.hid (HBU.out.trans ((HBr.out.trans (hb9.mono HBr.out.size)).mono HBU.out.size)); clear hb9)
                go_ret
                exact ⟨rfl, HB2.out.trans (HB9.out.mono HB2.out.size)⟩
          clear hK20
          change Code.wp _ (Code.region 20 (gwOps 20) true) _ _ _
          refine wp_region_held (S := fun _ => True) (by kernel_rfl) ?_
          have hsz : (gwOps 20).size = 14 := by kernel_rfl
          rw [hsz]
          clear hsz
          refine gen_world (P := fun W' => wpAnyH _ _ _ _ _ _ _ _ W') (I := fun V => Below w2.heap.size w2 V ∧ Has V g13 26 (arr32 X) ∧ V.ownsRow w2.heap.size 26 32 (.slice (some ⟨gO, 0, none⟩) i cO) i (O.flatMap cellsOf)) _ ⟨HB11.out.drew, HX11.out.drew, own_below HO11.out (Below.refl _ w11).drew⟩ ?_
          rintro x0 ⟨hB, hX, hO⟩
          have HBx0 := Lib.hid hB
          have HXx0 := Lib.hid hX
          have HOx0 := Lib.hid hO
          clear hB hX hO HB11 HX11 HO11
          have hgX0 : g13 < x0.heap.size := HXx0.out.lt
          have hgO0 : gO < x0.heap.size := (HOx0.out.lt gO rfl).2
          refine wpAnyH_take (i := 0) (oi := ⟨some 86, _, _, _, _, _⟩) (v := .slice (some ⟨gO, 0, none⟩) i cO) rfl (by kernel_rfl) (by kernel_rfl) (by kernel_rfl) (fun _ _ _ h => h) (Or.inl ⟨by rfl, fun w' hw' => by go_simp⟩) trivial ?_
          try simp only [Act.put, List.setIfInBounds_toArray, List.set_cons_succ, List.set_cons_zero]
          refine wpAnyH_take (i := 1) (oi := ⟨some 87, _, _, _, _, _⟩) (v := .slice (some ⟨g2, off2, none⟩) i c2) rfl (by kernel_rfl) (by kernel_rfl) (by kernel_rfl) (fun _ _ _ h => h) (Or.inl ⟨by rfl, fun w' hw' => by go_simp⟩) trivial ?_
          try simp only [Act.put, List.setIfInBounds_toArray, List.set_cons_succ, List.set_cons_zero]
          refine wpAnyH_take (i := 2) (oi := ⟨some 88, _, _, _, _, _⟩) (v := .slice (some ⟨g2, off2, none⟩) i c2) rfl (by kernel_rfl) (by kernel_rfl) (by kernel_rfl) (fun _ _ _ h => h) (Or.inl ⟨by rfl, fun w' hw' => by go_simp⟩) trivial ?_
          try simp only [Act.put, List.setIfInBounds_toArray, List.set_cons_succ, List.set_cons_zero]
          refine wpAnyH_take (i := 3) (oi := ⟨some 89, _, _, _, _, _⟩) (v := .int .i64 (i : Int)) rfl (by kernel_rfl) (by kernel_rfl) (by kernel_rfl) (fun _ _ _ h => h) (Or.inl ⟨by rfl, fun w' hw' => by go_simp⟩) trivial ?_
          try simp only [Act.put, List.setIfInBounds_toArray, List.set_cons_succ, List.set_cons_zero]
          refine wpAnyH_take (i := 4) (oi := ⟨some 90, _, _, _, _, _⟩) (v := .int .i64 (i1 : Int)) rfl (by kernel_rfl) (by kernel_rfl) (by kernel_rfl) (fun _ _ _ h => h) (Or.inl ⟨by rfl, fun w' hw' => by go_simp⟩) trivial ?_
          try simp only [Act.put, List.setIfInBounds_toArray, List.set_cons_succ, List.set_cons_zero]
          refine wpAnyH_take (i := 5) (oi := ⟨some 91, _, _, _, _, _⟩) (v := .slice (some ⟨g2, off2, none⟩) i1 c2) rfl (by kernel_rfl) (by kernel_rfl) (by kernel_rfl) (fun _ _ _ h => h) (Or.inl ⟨by rfl, fun w' hw' => by go_simp⟩) trivial ?_
          try simp only [Act.put, List.setIfInBounds_toArray, List.set_cons_succ, List.set_cons_zero]
          refine wpAnyH_take (i := 6) (oi := ⟨some 92, _, _, _, _, _⟩) (v := .slice (some ⟨g2, off2, none⟩) i c2) rfl (by kernel_rfl) (by kernel_rfl) (by kernel_rfl) (fun _ _ _ h => h) (Or.inl ⟨by rfl, fun w' hw' => by go_simp⟩) trivial ?_
          try simp only [Act.put, List.setIfInBounds_toArray, List.set_cons_succ, List.set_cons_zero]
          have hza := HZa.out
          refine wpAnyH_take (i := 8) (oi := ⟨some 94, _, _, _, _, _⟩) (v := .agg zero32) rfl (by kernel_rfl) (by kernel_rfl) (by kernel_rfl) (fun _ _ _ h => h) (Or.inl ⟨by rfl, fun w' hw' => by go_simp⟩) trivial ?_
          try simp only [Act.put, List.setIfInBounds_toArray, List.set_cons_succ, List.set_cons_zero]
          refine wpAnyH_take (i := 13) (oi := ⟨some 99, _, _, _, _, _⟩) (v := .int .i64 0) rfl (by kernel_rfl) (by kernel_rfl) (by kernel_rfl) (fun _ _ _ h => h) (Or.inl ⟨by rfl, fun w' hw' => by go_simp⟩) trivial ?_
          try simp only [Act.put, List.setIfInBounds_toArray, List.set_cons_succ, List.set_cons_zero]
          clear hza
          refine wpAnyH_all (rs := [7, 9]) (by kernel_rfl) (by simp) ?_
          intro jj hi
          have hii : jj = 7 ∨ jj = 9 := by simpa using hi
          clear hi
          rcases hii with rfl | rfl
          · refine wpOp_step (o := ⟨some 93, _, _, _, _, _⟩) rfl (fun K' hK' => ?_)
            rw [if_pos (show Region.wanted _ _ = true from rfl)]
            go_simp
            (with_reducible refine (HCl.out x0 HBx0.out).mono ?_)
            rintro e x1 ⟨g3, c3, rfl, ho, hb⟩
            refine hK' _ _ ⟨trivial, ?_⟩
            clear hK' K'
            try simp only [Act.put, List.setIfInBounds_toArray, List.set_cons_succ, List.set_cons_zero]
            have hg3 : x0.heap.size ≤ g3 := (ho.lt g3 rfl).1
            have HBx1 := Lib.hid (HBx0.out.trans (hb.mono HBx0.out.size))
            have HXx1 := Lib.hid (HXx0.out.below hb HXx0.out.lt)
            have HOx1 := Lib.hid (own_below HOx0.out hb)
            have HCx1 := Lib.hid (own_low ho HBx0.out.size)
            clear ho hb
            refine wpAnyH_all (rs := [9]) (by kernel_rfl) (by simp) ?_
            intro jj hi
            obtain rfl : jj = 9 := by simpa using hi
            clear hi
            refine wpOp_step (o := ⟨some 95, _, _, _, _, _⟩) rfl (fun K' hK' => ?_)
            rw [if_pos (show Region.wanted _ _ = true from rfl)]
            refine opw_slice1 26 i0 _ zero32 Tryd.underlying49 hi0 hz0 (by rw [hz1]; rfl) (by rw [hz1]; decide) (by rw [hz1]; decide) rfl ?_
            refine hK' _ _ ⟨trivial, ?_⟩
            clear hK' K'
            try simp only [Act.put, List.setIfInBounds_toArray, List.set_cons_succ, List.set_cons_zero]
            have hgz : x1.heap.size ≤ x1.heap.size := Nat.le_refl _
            refine gen_world (P := fun W' => wpAnyH _ _ _ _ _ _ _ _ W') (I := fun V => Below w2.heap.size w2 V ∧ Has V g13 26 (arr32 X) ∧ V.ownsRow w2.heap.size 26 32 (.slice (some ⟨gO, 0, none⟩) i cO) i (O.flatMap cellsOf) ∧ V.ownsRow w2.heap.size 26 32 (.slice (some ⟨x1.heap.size, 0, none⟩) 1 1) 1 ([Z].flatMap cellsOf) ∧ V.ownsRow w2.heap.size 26 32 (.slice (some ⟨g3, 0, none⟩) i c3) i (L.flatMap cellsOf)) _ ⟨HBx1.out.alloc HBx1.out.size _, HXx1.out.alloc _, HOx1.out.alloc _, by rw [← HZa.out]; exact own_lit1 Z hZl HBx1.out.size, HCx1.out.alloc _⟩ ?_
            rintro x2 ⟨hB, hX, hO, hZ, hC⟩
            have HBx2 := Lib.hid hB
            have HXx2 := Lib.hid hX
            have HOx2 := Lib.hid hO
            have HZx2 := Lib.hid hZ
            have HCx2 := Lib.hid hC
            clear hB hX hO hZ hC
            refine wpAnyH_all (rs := [10]) (by kernel_rfl) (by simp) ?_
            intro jj hi
            obtain rfl : jj = 10 := by simpa using hi
            clear hi
            refine wpOp_step (o := ⟨some 96, _, _, _, _, _⟩) rfl (fun K' hK' => ?_)
            rw [if_pos (show Region.wanted _ _ = true from rfl)]
            refine wp_append_own _ _ _ 49 rfl w2.heap.size 26 i0 (.agg zero32) 32 32 Tryd.underlying49 hi0 hz0 hz1 hz2 rfl (by decide) _ _ _ rfl HCx2.out ⟨x1.heap.size, 0, none⟩ 1 1 ([Z].flatMap cellsOf) rfl (by rw [List.flatMap_cons, List.flatMap_nil, List.append_nil, cellsOf_len (by omega)]) (fun j u hj => HZx2.out.cells (g := x1.heap.size) rfl j u hj) (by rw [List.flatMap_cons, List.flatMap_nil, List.append_nil]; exact cellsOf_one _) (by unfold maxLen; omega) (by omega) HBx2.out.size (fun v' x3 hown hgrow _ => ?_)
            obtain ⟨aA, cA, rfl, _, _⟩ := own_shape hown
            obtain ⟨gA, rfl, _, _⟩ := own_addr hown (by omega)
            have HA3 : Hid (x3.ownsRow w2.heap.size 26 32 (.slice (some ⟨gA, 0, none⟩) (i + 1) cA) (i + 1) ((L ++ [Z]).flatMap cellsOf)) := Lib.hid (own_cast hown rfl (by rw [List.flatMap_append]))
            have HB3 : Hid (Below w2.heap.size w2 x3) := Lib.hid (HBx2.out.grown hgrow HBx2.out.size (fun r hr => (HCx2.out.lt r hr).1))
            have HX3 := Lib.hid (has_grown HXx2.out hgrow (fun e => by have e2 : g13 = g3 := Option.some.inj e; omega))
            have HO3 := Lib.hid (HOx2.out.kept hgrow (.inr (fun e => by have e2 : gO = g3 := Option.some.inj e; omega)))
            refine hK' _ _ ⟨trivial, ?_⟩
            clear hK' K'
            try simp only [Act.put, List.setIfInBounds_toArray, List.set_cons_succ, List.set_cons_zero]
            clear hown hgrow
            refine wpAnyH_all (rs := [11]) (by kernel_rfl) (by simp) ?_
            intro jj hi
            obtain rfl : jj = 11 := by simpa using hi
            clear hi
            refine wpOp_step (o := ⟨some 97, _, _, _, _, _⟩) rfl (fun K' hK' => ?_)
            rw [if_pos (show Region.wanted _ _ = true from rfl)]
            go_simp
            refine hK' _ _ ⟨trivial, ?_⟩
            clear hK' K'
            try simp only [Act.put, List.setIfInBounds_toArray, List.set_cons_succ, List.set_cons_zero]
            refine gen_world (P := fun W' => wpAnyH _ _ _ _ _ _ _ _ W') (I := fun V => Below w2.heap.size w2 V ∧ Has V g13 26 (arr32 X) ∧ V.ownsRow w2.heap.size 26 32 (.slice (some ⟨gO, 0, none⟩) i cO) i (O.flatMap cellsOf) ∧ V.ownsRow w2.heap.size 26 32 (.slice (some ⟨gA, 0, none⟩) (i + 1) cA) (i + 1) ((L ++ [Z]).flatMap cellsOf) ∧ Has V x3.heap.size 49 #[.slice (some ⟨gO, 0, none⟩) i cO, .slice (some ⟨g2, off2, none⟩) i1 c2, .slice (some ⟨gA, 0, none⟩) (i + 1) cA]) _ ⟨HB3.out.alloc HB3.out.size _, HX3.out.alloc _, HO3.out.alloc _, HA3.out.alloc _, Has.fresh _ _ _⟩ ?_
            rintro x4 ⟨hB, hX, hO, hA, hL⟩
            generalize x3.heap.size = gL at *
            refine wpAnyH_take (i := 12) (oi := ⟨some 98, _, _, _, _, _⟩) (v := .int .i64 3) rfl (by kernel_rfl) (by kernel_rfl) (by kernel_rfl) (fun _ _ _ h => h) (Or.inl ⟨by rfl, fun w' hw' => by go_simp⟩) trivial ?_
            try simp only [Act.put, List.setIfInBounds_toArray, List.set_cons_succ, List.set_cons_zero]
            refine wpAnyH_done (by kernel_rfl) ?_ _
            exact HNext.out _ _ _ _ _ _ _ _ _ _ _ _ _ _ _ _ _ _ _ _ _ _ _ _ _ _ _ _ _ _ _ _ _ _ _ _ _ _ _ _ _ _ _ _ _ _ _ _ _ _ _ _ _ _ _ _ _ _ _ _ _ _ _ _ _ _ _ _ _ _ _ _ _ _ _ _ _ _ _ _ _ _ _ _ _ _ _ _ _ _ _ _ _ _ _ _ _ _ _ _ _ _ _ _ _ _ _ _ _ _ _ _ _ gL gA cA _ hB hX hO hA hL
          · refine wpOp_step (o := ⟨some 95, _, _, _, _, _⟩) rfl (fun K' hK' => ?_)
            rw [if_pos (show Region.wanted _ _ = true from rfl)]
            refine opw_slice1 26 i0 _ zero32 Tryd.underlying49 hi0 hz0 (by rw [hz1]; rfl) (by rw [hz1]; decide) (by rw [hz1]; decide) rfl ?_
            refine hK' _ _ ⟨trivial, ?_⟩
            clear hK' K'
            try simp only [Act.put, List.setIfInBounds_toArray, List.set_cons_succ, List.set_cons_zero]
            have hgz : x0.heap.size ≤ x0.heap.size := Nat.le_refl _
            refine gen_world (P := fun W' => wpAnyH _ _ _ _ _ _ _ _ W') (I := fun V => Below w2.heap.size w2 V ∧ Has V g13 26 (arr32 X) ∧ V.ownsRow w2.heap.size 26 32 (.slice (some ⟨gO, 0, none⟩) i cO) i (O.flatMap cellsOf) ∧ V.ownsRow w2.heap.size 26 32 (.slice (some ⟨x0.heap.size, 0, none⟩) 1 1) 1 ([Z].flatMap cellsOf)) _ ⟨HBx0.out.alloc HBx0.out.size _, HXx0.out.alloc _, HOx0.out.alloc _, by rw [← HZa.out]; exact own_lit1 Z hZl HBx0.out.size⟩ ?_
            rintro x1 ⟨hB, hX, hO, hZ⟩
            have HBx1 := Lib.hid hB
            have HXx1 := Lib.hid hX
            have HOx1 := Lib.hid hO
            have HZx1 := Lib.hid hZ
            clear hB hX hO hZ
            refine wpAnyH_all (rs := [7]) (by kernel_rfl) (by simp) ?_
            intro jj hi
            obtain rfl : jj = 7 := by simpa using hi
            clear hi
            have hx01 := HBx1.out.size
            refine wpOp_step (o := ⟨some 93, _, _, _, _, _⟩) rfl (fun K' hK' => ?_)
            rw [if_pos (show Region.wanted _ _ = true from rfl)]
            go_simp
            (with_reducible refine (HCl.out x1 HBx1.out).mono ?_)
            rintro e x2 ⟨g3, c3, rfl, ho, hb⟩
            refine hK' _ _ ⟨trivial, ?_⟩
            clear hK' K'
            try simp only [Act.put, List.setIfInBounds_toArray, List.set_cons_succ, List.set_cons_zero]
            have hg3 : x1.heap.size ≤ g3 := (ho.lt g3 rfl).1
            have hgX1 := HXx1.out.lt
            have hgO1 := (HOx1.out.lt gO rfl).2
            have HBx2 := Lib.hid (HBx1.out.trans (hb.mono HBx1.out.size))
            have HXx2 := Lib.hid (HXx1.out.below hb HXx1.out.lt)
            have HOx2 := Lib.hid (own_below HOx1.out hb)
            have HCx2 := Lib.hid (own_low ho HBx1.out.size)
            have HZx2 := Lib.hid (own_below HZx1.out hb)
            clear ho hb
            refine wpAnyH_all (rs := [10]) (by kernel_rfl) (by simp) ?_
            intro jj hi
            obtain rfl : jj = 10 := by simpa using hi
            clear hi
            refine wpOp_step (o := ⟨some 96, _, _, _, _, _⟩) rfl (fun K' hK' => ?_)
            rw [if_pos (show Region.wanted _ _ = true from rfl)]
            refine wp_append_own _ _ _ 49 rfl w2.heap.size 26 i0 (.agg zero32) 32 32 Tryd.underlying49 hi0 hz0 hz1 hz2 rfl (by decide) _ _ _ rfl HCx2.out ⟨x0.heap.size, 0, none⟩ 1 1 ([Z].flatMap cellsOf) rfl (by rw [List.flatMap_cons, List.flatMap_nil, List.append_nil, cellsOf_len (by omega)]) (fun j u hj => HZx2.out.cells (g := x0.heap.size) rfl j u hj) (by rw [List.flatMap_cons, List.flatMap_nil, List.append_nil]; exact cellsOf_one _) (by unfold maxLen; omega) (by omega) HBx2.out.size (fun v' x3 hown hgrow _ => ?_)
            obtain ⟨aA, cA, rfl, _, _⟩ := own_shape hown
            obtain ⟨gA, rfl, _, _⟩ := own_addr hown (by omega)
            have HA3 : Hid (x3.ownsRow w2.heap.size 26 32 (.slice (some ⟨gA, 0, none⟩) (i + 1) cA) (i + 1) ((L ++ [Z]).flatMap cellsOf)) := Lib.hid (own_cast hown rfl (by rw [List.flatMap_append]))
            have HB3 : Hid (Below w2.heap.size w2 x3) := Lib.hid (HBx2.out.grown hgrow HBx2.out.size (fun r hr => (HCx2.out.lt r hr).1))
            have HX3 := Lib.hid (has_grown HXx2.out hgrow (fun e => by have e2 : g13 = g3 := Option.some.inj e; omega))
            have HO3 := Lib.hid (HOx2.out.kept hgrow (.inr (fun e => by have e2 : gO = g3 := Option.some.inj e; omega)))
            refine hK' _ _ ⟨trivial, ?_⟩
            clear hK' K'
            try simp only [Act.put, List.setIfInBounds_toArray, List.set_cons_succ, List.set_cons_zero]
            clear hown hgrow
            refine wpAnyH_all (rs := [11]) (by kernel_rfl) (by simp) ?_
            intro jj hi
            obtain rfl : jj = 11 := by simpa using hi
            clear hi
            refine wpOp_step (o := ⟨some 97, _, _, _, _, _⟩) rfl (fun K' hK' => ?_)
            rw [if_pos (show Region.wanted _ _ = true from rfl)]
            go_simp
            refine hK' _ _ ⟨trivial, ?_⟩
            clear hK' K'
            try simp only [Act.put, List.setIfInBounds_toArray, List.set_cons_succ, List.set_cons_zero]
            refine gen_world (P := fun W' => wpAnyH _ _ _ _ _ _ _ _ W') (I := fun V => Below w2.heap.size w2 V ∧ Has V g13 26 (arr32 X) ∧ V.ownsRow w2.heap.size 26 32 (.slice (some ⟨gO, 0, none⟩) i cO) i (O.flatMap cellsOf) ∧ V.ownsRow w2.heap.size 26 32 (.slice (some ⟨gA, 0, none⟩) (i + 1) cA) (i + 1) ((L ++ [Z]).flatMap cellsOf) ∧ Has V x3.heap.size 49 #[.slice (some ⟨gO, 0, none⟩) i cO, .slice (some ⟨g2, off2, none⟩) i1 c2, .slice (some ⟨gA, 0, none⟩) (i + 1) cA]) _ ⟨HB3.out.alloc HB3.out.size _, HX3.out.alloc _, HO3.out.alloc _, HA3.out.alloc _, Has.fresh _ _ _⟩ ?_
            rintro x4 ⟨hB, hX, hO, hA, hL⟩
            generalize x3.heap.size = gL at *
            refine wpAnyH_take (i := 12) (oi := ⟨some 98, _, _, _, _, _⟩) (v := .int .i64 3) rfl (by kernel_rfl) (by kernel_rfl) (by kernel_rfl) (fun _ _ _ h => h) (Or.inl ⟨by rfl, fun w' hw' => by go_simp⟩) trivial ?_
            try simp only [Act.put, List.setIfInBounds_toArray, List.set_cons_succ, List.set_cons_zero]
            refine wpAnyH_done (by kernel_rfl) ?_ _
            exact HNext.out _ _ _ _ _ _ _ _ _ _ _ _ _ _ _ _ _ _ _ _ _ _ _ _ _ _ _ _ _ _ _ _ _ _ _ _ _ _ _ _ _ _ _ _ _ _ _ _ _ _ _ _ _ _ _ _ _ _ _ _ _ _ _ _ _ _ _ _ _ _ _ _ _ _ _ _ _ _ _ _ _ _ _ _ _ _ _ _ _ _ _ _ _ _ _ _ _ _ _ _ _ _ _ _ _ _ _ _ _ _ _ _ _ gL gA cA _ hB hX hO hA hL
theorem grows_int (bs : List Nat) (hbb : Sha.Bytes bs) (a : Option Addr) (c : Nat) (n1 n2 : Int) (b1 : 0 ≤ n1 ∧ n1 ≤ 255) (b2 : 0 ≤ n2 ∧ n2 ≤ 255) (w : World) (hp : PartOk w a c bs) (hcap : bs.length ≤ c ∧ c ≤ maxLen) (hc : ConstAt w) :
    Calls Tryd.prog 12 #[.slice a bs.length c, .int .u8 n1, .int .u8 n2] w fun e w' => e = .returned (.bool true) ∧ Below w.heap.size w w' := by
  obtain ⟨m1, rfl⟩ := Int.eq_ofNat_of_zero_le b1.1
  obtain ⟨m2, rfl⟩ := Int.eq_ofNat_of_zero_le b2.1
  exact grows_law bs hbb a c m1 m2 (by omega) (by omega) w hp hcap hc
end Go.Proofs.YtffdkniahdekjaaDoor
end
