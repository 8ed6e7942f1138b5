/-
  YtffdkniahdekjaaDoorBytesEq
  · YtffdkniahdekjaaDoorShort
  · YtffdkniahdekjaaDoorShort2
  · YtffdkniahdekjaaDoorEqs
  · YtffdkniahdekjaaDoorClosed
-/
import Derived.Test.YtffdkniahdekjaaDoorMBh
import Derived.Test.YtffdkniahdekjaaDoorMBd
import Derived.OrdersHeld
import Derived.Deep.OwnRows
import Derived.Deep.MidRow
import Derived.Test.YtffdkniahdekjaaDoorMBc
import Derived.Lib.SmallJoins
import Derived.Test.YtffdkniahdekjaaDoorMBa
section
namespace Go.Proofs.YtffdkniahdekjaaDoor
open Go.RowKit Go.Hoar Go.Maps Go.Shelf
attribute [local go_sem] Oper.semAt_some
theorem yieldsIf_load {P : Program} {ops : Array Oper} {S : World → Prop} {a : Act} {dst : Option Tmp} {ty T : TypeId} {x : Operand} {pos : String} {af : Array Edge}
    (ad : Addr) (cs : Array Value) (d : TypeDesc) (hc : ∀ w, S w → ∀ j u, cs[j]? = some u → w.cell? (ad.add j) = some u) (hu : P.underlying ty = some d)
    (hi : (P.info? ty).map (·.size) = some cs.size) (hx : a.eval x = .pointer (some ad))
    (hd : (match d with | .struct _ | .array _ _ => true | _ => false) = true) : YieldsIf P ops S ⟨dst, .load ty x, T, pos, af, none⟩ (.agg cs) a :=
  .inl ⟨rfl, fun w hw => by
    have hr := run_loadVar_at (P := P) w ad ty cs d (hc w hw) hu hd hi
    unfold execOp
    simp only [hx, Instr.loadAt, Instr.sureAddr, Sem.run_bind, Sem.run_pure, Result.andThen_ok, hr]⟩
abbrev Need := DataW Unit
def litN (n : Int) : Need := .lit (.int .i64 n)
/-- Every digest, at one digit. -/
def needOf (xs : List Dig) : Need := xs.foldl (fun D x => D.put (sumLit x.1) (litN 1)) (.map [])
theorem needOf_snoc (xs : List Dig) (x : Dig) : needOf (xs ++ [x]) = (needOf xs).put (sumLit x.1) (litN 1) := by simp [needOf]
noncomputable abbrev elemN : Value → Option (Need × List MemPlace) := plainElem Tryd.prog 3
theorem elemN_int (n : Int) (h : (Lit.int .i64 n).wf = true) : elemN (.int .i64 n) = some (litN n, []) := plainElem_int Tryd.underlying3 h
theorem digCells_len (ys : List Dig) : (digCells ys).length = ys.length * 32 := flat_len (enc := fun d : Dig => cellsOf d.1) (fun d => by
  have := arr32_size d.1 (by have := d.2.1; omega)
  simpa [cellsOf] using this) ys
theorem digCells_at : ∀ (rs : List Dig) (k : Nat) (x : Dig), rs[k]? = some x → ∀ j u, (arr32 x.1)[j]? = some u → (digCells rs)[k * 32 + j]? = some u
  | [], k, x, h, _, _, _ => by simp at h
  | d :: rs, k, x, h, j, u, hj => by
    have hcl : (cellsOf d.1).length = 32 := by
      have := arr32_size d.1 (by have := d.2.1; omega)
      simpa [cellsOf] using this
    rw [digCells, List.flatMap_cons]
    cases k with
    | zero =>
      simp only [List.getElem?_cons_zero, Option.some.injEq] at h
      subst h
      have hl := (Array.getElem?_eq_some_iff.1 hj).1
      rw [arr32_size d.1 (by have := d.2.1; omega)] at hl
      rw [List.getElem?_append_left (by omega), cellsOf, Nat.zero_mul, Nat.zero_add, Array.getElem?_toList]
      exact hj
    | succ k =>
      simp only [List.getElem?_cons_succ] at h
      rw [List.getElem?_append_right (by omega), hcl, show (k + 1) * 32 + j - 32 = k * 32 + j by omega]
      exact digCells_at rs k x h j u hj
theorem sums_row {w : World} {base g n c : Nat} {rs : List Dig} (h : w.ownsRow base 26 32 (.slice (some ⟨g, 0, none⟩) n c) n (digCells rs)) {k : Nat} {x : Dig} (hx : rs[k]? = some x) (_hk : k < n) :
    ∀ j u, (arr32 x.1)[j]? = some u → w.cell? ((⟨g, k * 32, none⟩ : Addr).add j) = some u := fun j u hj => by
  have h := h.cells (g := g) rfl (k * 32 + j) u (digCells_at rs k x hx j u hj)
  rw [Addr.add_lit, Nat.zero_add] at h
  rw [Addr.add_lit]
  exact h
def up (c n : Int) : Int := if n > c then n else c
theorem up_wf {c : Int} {n : Nat} (hc : (Lit.int .i64 c).wf = true) (hn : n ≤ 64) : (Lit.int .i64 (up c ((n : Int) + 1))).wf = true := by
  unfold up
  split
  · simp [Lit.wf, IntKind.min, IntKind.max, IntKind.bits, IntKind.signed]
    omega
  · exact hc
theorem yieldsIf_max {P : Program} {ops : Array Oper} {S : World → Prop} {a : Act} {dst : Option Tmp} {T : TypeId} {x y : Operand} {ts : Array TypeId} {pos : String} {af : Array Edge} (c n : Int) (hx : a.eval x = .int .i64 c) (hy : a.eval y = .int .i64 n) :
    YieldsIf P ops S ⟨dst, .call { callee := .builtin .max, args := #[x, y], argTypes := ts }, T, pos, af, none⟩ (.int .i64 (up c n)) a :=
  .inl ⟨rfl, fun w _ => by simp [execOp, resolve, invoke, builtin, hx, hy, run_max_int2, Result.andThen, up]⟩
/-- What lies in the two digests' blocks. -/
def SS (p8 p9 : Nat) (x y : Dig) (V : World) : Prop := (∀ j u, (arr32 x.1)[j]? = some u → V.cell? ((⟨p8, 0, none⟩ : Addr).add j) = some u) ∧ ∀ j u, (arr32 y.1)[j]? = some u → V.cell? ((⟨p9, 0, none⟩ : Addr).add j) = some u
theorem sum_law : Go.WideMaps.KeyLaw Tryd.prog 26 := deep_law_laid laidOut (m := 2) (by omega) (of_decide_eq_true (by kernel_rfl)) (by kernel_rfl) (by rw [Tryd.underlying26])
def getN (D : Need) (k : Lit) : Int := match D.atKey k (litN 0) with | .lit (.int _ n) => n | _ => 0
/-- Two neighbours, at one digit more than they have alike. -/
def raise (D : Need) (x y : Dig) : Need := (D.put (sumLit x.1) (litN (up (getN D (sumLit x.1)) ((alikeOf x.1 y.1 : Nat) + 1)))).put (sumLit y.1) (litN (up (getN D (sumLit y.1)) ((alikeOf x.1 y.1 : Nat) + 1)))
def raiseTo (rs : List Dig) (D : Need) : Nat → Need
  | 0 => D
  | k + 1 => if k = 0 then D else raise (raiseTo rs D k) (rs.getD (k - 1) default) (rs.getD k default)
theorem intInfo3 : (Tryd.prog.info? 3).map (fun i => (i.zero, i.size, i.bytes)) = some (some (.int .i64 0), 1, 8) := by kernel_rfl
theorem rising_len (ys : List Dig) : (rising ys).length = ys.length := (List.mergeSort_perm _ _).length_eq
set_option maxRecDepth 100000 in
set_option maxHeartbeats 3000000 in
theorem short_any (ls : List Dig) (g off c : Nat) (w : World) (hs : SumsAt w g off (ls.map (·.1))) (hg : g < w.heap.size) (_hc : ls.length ≤ c) (_hcm : c ≤ maxLen) (hn : ls.length ≤ 100000) :
    Calls Tryd.prog 44 #[.slice (some ⟨g, off, none⟩) ls.length c] w fun e w' => ∃ v ys, e = .returned v ∧ KeysOfMap (needOf ls) ys ∧ w'.ownsRow w.heap.size 3 1 v ls.length (ls.map fun x => .int .i64 (getN (raiseTo (rising ys) (needOf ls) (max 1 ys.length)) (sumLit x.1))) ∧ Go.RowKit.Below w.heap.size w w' := by
  have HS := Lib.hid hs
  unfold maxLen at _hcm
  clear hs
  have hmm := @run_makeMap Tryd.prog
  go_enter Tryd.func44, Tryd.ntmps44
  go_upto_region 2 with (fail)
  refine gen_world (P := fun W => Code.wp _ _ _ _ W) (I := fun W => Go.RowKit.Below w.heap.size w W ∧ W.ownsMap Tryd.prog 26 elemN w.heap.size 0 (needOf [])) _ ⟨(Go.RowKit.Below.refl _ w).alloc (Nat.le_refl _) _, World.ownsMap_made w _ _ _⟩ ?_
  rintro W ⟨hB, hM⟩
  have hszW : w.heap.size < W.heap.size := hM.lt
  have HB := Lib.hid hB
  have HM := Lib.hid hM
  clear hB hM
  go_wp2
  go_loopw [17] (fun i wr => ∃ k : Nat, k ≤ ls.length ∧ i = .int .i64 k ∧ wr.ownsMap Tryd.prog 26 elemN w.heap.size k (needOf (ls.take k)) ∧ Go.RowKit.Below w.heap.size w wr) (fun i _ => ls.length - (intOf i).toNat)
  case atStart => exact ⟨0, Nat.zero_le _, rfl, HM.out, HB.out⟩
  case round =>
    obtain ⟨k, hk, rfl, hM, hB⟩ := hrel
    by_cases hlt : k < ls.length
    · obtain ⟨x, hx⟩ : ∃ x, ls[k]? = some x := ⟨_, List.getElem?_eq_getElem hlt⟩
      have hx2 : (ls.map (·.1))[k]? = some x.1 := by rw [List.getElem?_map, hx]; rfl
      have hxl := x.2.1
      have hsw := HS.out.below hg hB
      have HRow := Lib.hid (hsw.row hx2)
      have HI := Lib.hid (arr32_info x.1 (by omega))
      have HSz := Lib.hid (zero32_size x.1 (by omega))
      have HF := Lib.hid (fresh_sum wr)
      have hml : w.heap.size < wr.heap.size := hM.lt
      have htk : ls.take (k + 1) = ls.take k ++ [x] := by rw [List.take_add_one, hx]; rfl
      have HTk := Lib.hid htk
      have HM := Lib.hid hM
      have HB := Lib.hid hB
      have HKey := Lib.hid (sum_keyOf x.1 x.2.1 x.2.2)
      clear hM hB hsw htk
      go_upto_region 5 with (first
        | ((with_reducible refine arm_load (w := wr) ⟨g, off + k * 32, none⟩ _ _ HRow.out Tryd.underlying26 HI.out ?h1 ?h2 ?_); (case h1 => rfl); (case h2 => rfl))
        | ((with_reducible refine arm_store wr.heap.size (arr32 x.1) 26 zero32 HF.out HSz.out HI.out (arr32_one _) ?h5 ?h6 ?_); (case h5 => rfl); (case h6 => rfl)))
      refine gen_world (P := fun W => Code.wp _ _ _ _ W) (I := fun V => Go.RowKit.Below wr.heap.size wr V ∧ Has V wr.heap.size 26 (arr32 x.1)) _ ⟨below_setRow ((Go.RowKit.Below.refl _ wr).alloc (Nat.le_refl _) _) (Nat.le_refl _) _, HF.out.setRow⟩ ?_
      rintro V ⟨hBV, hXV⟩
      have HMV := Lib.hid (ownsMap_same HM.out (hBV.block _ hml))
      have HBV := Lib.hid (HB.out.trans (hBV.mono HB.out.size))
      have HXV := Lib.hid hXV.row
      clear hBV hXV
      go_wp2_with (first
        | ((with_reducible refine arm_load (w := V) ⟨wr.heap.size, 0, none⟩ _ _ HXV.out Tryd.underlying26 HI.out ?h3 ?h4 ?_); (case h3 => rfl); (case h4 => rfl))
        | (at_mapUpdate; refine wpList_mapUpdate_own _ rfl _ _ _ 114 rfl 26 3 sum_keyed Tryd.underlying114 _ w.heap.size k _ rfl HMV.out (by unfold maxLen; omega) _ _ (sumLit x.1) rfl rfl HKey.out (litN 1) [] (elemN_int 1 rfl) ?_; intro w1 hown1 hgrow1; have HM1 := Lib.hid hown1; have HB1 := Lib.hid (HBV.out.grown hgrow1 HBV.out.size (fun j hj => by cases hj; exact Nat.le_refl _)); clear hown1 hgrow1))
      refine ⟨⟨k + 1, by omega, by go_num, ?_, HB1.out⟩, by simp [intOf]; omega⟩
      rw [HTk.out, needOf_snoc]
      exact HM1.out
    · obtain rfl : k = ls.length := by omega
      rw [List.take_length] at hM
      have hsize := hM.size_le
      obtain ⟨base, hbase⟩ : ∃ n, n = wr.heap.size + 1 := ⟨_, rfl⟩
      have hml : w.heap.size < wr.heap.size := hM.lt
      have hsf := sortedFunc_any (N := Maps.size (needOf ls)) (S := KeysOfMap (needOf ls)) (gf := 101) (lb := #[.pointer (some ⟨wr.heap.size, 0, none⟩)]) (by omega) (fun ys h => by have := h.2.2; omega) (enters_of Tryd.func101 (by kernel_rfl) rfl) (wr.alloc (.cells #[.map (some w.heap.size)] 114))
        (fun n hn => keys1_stops Fence.wide n trivial rfl hn wr.heap.size w.heap.size ls.length (needOf ls) _ (by simp) ((Has.fresh wr 114 #[.map (some w.heap.size)]).cell 0) (hM.alloc _))
      have HSf := Lib.hid hsf
      have HM1 := Lib.hid (hM.alloc (.cells #[.map (some w.heap.size)] 114))
      have HB1 := Lib.hid (hB.alloc hB.size (.cells #[.map (some w.heap.size)] 114))
      clear hM hB hsf
      go_wp2_with (first
        | (go_at_call 79; refine (mapKeys_any (some w.heap.size) wr).mono ?_; rintro e w1 ⟨rfl, rfl⟩)
        | (go_at_call 78; refine HSf.out.mono ?_; rintro e w2 ⟨v, ys, rfl, hS, ho, hb⟩; obtain ⟨a2, c2, rfl, hc2, hcm2⟩ := own_shape ho; have HSY := Lib.hid hS; have HO2 := Lib.hid ho; have HM2 := Lib.hid (ownsMap_same HM1.out (hb.block _ (by simp; omega))); have HB2 := Lib.hid (HB1.out.trans (hb.mono HB1.out.size)); have hsz2 := hb.size; simp only [World.size_alloc] at hsz2; clear ho hb))
      have hyl : ys.length ≤ 100000 := by have := HSY.out.2.2; omega
      unfold maxLen at hcm2
      obtain ⟨rs, hrs⟩ : ∃ rs, rs = rising ys := ⟨_, rfl⟩
      have hrl : rs.length = ys.length := by rw [hrs, rising_len]
      have HRs := Lib.hid hrs
      have HRl := Lib.hid hrl
      have HH2 : Hid (∀ d ∈ rs, Maps.has (needOf ls) (sumLit d.1) = true) := Lib.hid fun d hd => (HSY.out.2.1 d).1 ((List.mergeSort_perm _ _).mem_iff.1 (hrs ▸ hd))
      rw [← HRs.out] at HO2
      clear hrs hrl
      go_loopw [7] (fun i wr2 => ∃ k : Nat, 1 ≤ k ∧ (k ≤ ys.length ∨ k = 1) ∧ i = .int .i64 k ∧ wr2.ownsMap Tryd.prog 26 elemN w.heap.size (ls.length + 2 * k) (raiseTo rs (needOf ls) k) ∧ wr2.ownsRow base 26 32 (.slice a2 ys.length c2) ys.length (digCells rs) ∧ Go.RowKit.Below w.heap.size w wr2 ∧ Hid (∀ d ∈ rs, Maps.has (raiseTo rs (needOf ls) k) (sumLit d.1) = true)) (fun i _ => ys.length - (intOf i).toNat)
      case atStart => exact ⟨1, Nat.le_refl _, .inr rfl, rfl, HM2.out.mono (by omega), by rw [hbase]; simpa using HO2.out, HB2.out, HH2⟩
      case round =>
        obtain ⟨k, hk1, hk2, rfl, hM, hO, hB, HH⟩ := hrel
        by_cases hlt : k < ys.length
        · obtain ⟨x, hx⟩ : ∃ x, rs[k - 1]? = some x := ⟨_, List.getElem?_eq_getElem (by have := HRl.out; omega)⟩
          obtain ⟨y, hy⟩ : ∃ y, rs[k]? = some y := ⟨_, List.getElem?_eq_getElem (by have := HRl.out; omega)⟩
          have hxl := x.2.1
          have hyl2 := y.2.1
          have hHx := HH.out x (List.mem_of_getElem? hx)
          have hHy := HH.out y (List.mem_of_getElem? hy)
          have hstep : raiseTo rs (needOf ls) (k + 1) = raise (raiseTo rs (needOf ls) k) x y := by
            rw [raiseTo, if_neg (by omega), List.getD_eq_getElem?_getD, List.getD_eq_getElem?_getD, hx, hy]
            rfl
          obtain ⟨D, hD⟩ : ∃ D, D = raiseTo rs (needOf ls) k := ⟨_, rfl⟩
          rw [← hD] at hM hHx hHy hstep
          obtain ⟨g2, rfl, hg2b, hg2⟩ := own_addr hO (by omega)
          have hrowx := sums_row hO hx (by have := HRl.out; omega)
          have hrowy := sums_row hO hy (by have := HRl.out; omega)
          have HM := Lib.hid hM
          have HO := Lib.hid hO
          have HB := Lib.hid hB
          have HRx := Lib.hid hrowx
          have HRy := Lib.hid hrowy
          have HIx := Lib.hid (arr32_info x.1 (by omega))
          have HIy := Lib.hid (arr32_info y.1 (by omega))
          have HStep := Lib.hid hstep
          have hk0 : (0 : Int) ≤ (k : Int) - 1 := by omega
          have hk3 : (k : Int) - 1 < ys.length := by omega
          have hk4 : k - 1 < ys.length := by omega
          have hw1 : IntKind.i64.wrap ((k : Int) - 1) = ((k - 1 : Nat) : Int) := by rw [IntWalk.i64_in _ (by omega)]; omega
          have HD : Hid (D = raiseTo rs (needOf ls) k) := Lib.hid hD
          clear hM hO hB hrowx hrowy hstep hD
          go_upto_region 11 with (fail)
          refine wp_region_held (S := fun V => (∀ j u, (arr32 x.1)[j]? = some u → V.cell? ((⟨g2, (k - 1) * 32, none⟩ : Addr).add j) = some u) ∧ ∀ j u, (arr32 y.1)[j]? = some u → V.cell? ((⟨g2, k * 32, none⟩ : Addr).add j) = some u) (by kernel_rfl) ?_
          have HSS : Hid ((fun V : World => (∀ j u, (arr32 x.1)[j]? = some u → V.cell? ((⟨g2, (k - 1) * 32, none⟩ : Addr).add j) = some u) ∧ ∀ j u, (arr32 y.1)[j]? = some u → V.cell? ((⟨g2, k * 32, none⟩ : Addr).add j) = some u) { wr with drawn := wr.drawn + 1 }) := Lib.hid ⟨HRx.out, HRy.out⟩
          refine wpAnyH_take (i := 0) (oi := ⟨some 33, _, _, _, _, _⟩) (v := ?_) rfl (by kernel_rfl) (by kernel_rfl) (by kernel_rfl) (fun _ _ _ h => h) (Or.inl ⟨by rfl, fun w' hw' => by go_simp; with_reducible rfl⟩) HSS.out ?_
          simp only [Act.put, List.setIfInBounds_toArray, List.set_cons_succ, List.set_cons_zero]
          refine wpAnyH_take (i := 1) (oi := ⟨some 34, _, _, _, _, _⟩) (v := ?_) rfl (by kernel_rfl) (by kernel_rfl) (by kernel_rfl) (fun _ _ _ h => h) (Or.inl ⟨by rfl, fun w' hw' => by go_simp; with_reducible rfl⟩) HSS.out ?_
          simp only [Act.put, List.setIfInBounds_toArray, List.set_cons_succ, List.set_cons_zero]
          refine wpAnyH_take (i := 2) (oi := ⟨some 35, _, _, _, _, _⟩) (v := ?_) rfl (by kernel_rfl) (by kernel_rfl) (by kernel_rfl) (fun _ _ _ h => h) (Or.inl ⟨by rfl, fun w' hw' => by go_simp; with_reducible rfl⟩) HSS.out ?_
          simp only [Act.put, List.setIfInBounds_toArray, List.set_cons_succ, List.set_cons_zero]
          refine wpAnyH_take (i := 3) (oi := ⟨some 36, _, _, _, _, _⟩) (v := ?_) rfl (by kernel_rfl) (by kernel_rfl) (by kernel_rfl) (fun _ _ _ h => h) (Or.inl ⟨by rfl, fun w' hw' => by go_simp; with_reducible rfl⟩) HSS.out ?_
          simp only [Act.put, List.setIfInBounds_toArray, List.set_cons_succ, List.set_cons_zero]
          refine wpAnyH_take (i := 4) (oi := ⟨some 37, _, _, _, _, _⟩) (v := .agg (arr32 x.1)) rfl (by kernel_rfl) (by kernel_rfl) (by kernel_rfl) (fun _ _ _ h => h) ?y4 HSS.out ?_
          case y4 => exact yieldsIf_load ⟨g2, (k - 1) * 32, none⟩ _ _ (fun w hw => hw.1) Tryd.underlying26 HIx.out rfl rfl
          simp only [Act.put, List.setIfInBounds_toArray, List.set_cons_succ, List.set_cons_zero]
          refine wpAnyH_take (i := 5) (oi := ⟨some 38, _, _, _, _, _⟩) (v := ?_) rfl (by kernel_rfl) (by kernel_rfl) (by kernel_rfl) (fun _ _ _ h => h) (Or.inl ⟨by rfl, fun w' hw' => by go_simp; with_reducible rfl⟩) HSS.out ?_
          simp only [Act.put, List.setIfInBounds_toArray, List.set_cons_succ, List.set_cons_zero]
          refine wpAnyH_take (i := 6) (oi := ⟨some 39, _, _, _, _, _⟩) (v := ?_) rfl (by kernel_rfl) (by kernel_rfl) (by kernel_rfl) (fun _ _ _ h => h) (Or.inl ⟨by rfl, fun w' hw' => by go_simp; with_reducible rfl⟩) HSS.out ?_
          simp only [Act.put, List.setIfInBounds_toArray, List.set_cons_succ, List.set_cons_zero]
          refine wpAnyH_take (i := 7) (oi := ⟨some 40, _, _, _, _, _⟩) (v := ?_) rfl (by kernel_rfl) (by kernel_rfl) (by kernel_rfl) (fun _ _ _ h => h) (Or.inl ⟨by rfl, fun w' hw' => by go_simp; with_reducible rfl⟩) HSS.out ?_
          simp only [Act.put, List.setIfInBounds_toArray, List.set_cons_succ, List.set_cons_zero]
          refine wpAnyH_take (i := 8) (oi := ⟨some 41, _, _, _, _, _⟩) (v := .agg (arr32 y.1)) rfl (by kernel_rfl) (by kernel_rfl) (by kernel_rfl) (fun _ _ _ h => h) ?y8 HSS.out ?_
          case y8 => exact yieldsIf_load ⟨g2, k * 32, none⟩ _ _ (fun w hw => hw.2) Tryd.underlying26 HIy.out rfl rfl
          simp only [Act.put, List.setIfInBounds_toArray, List.set_cons_succ, List.set_cons_zero]
          have HSb : Hid (∀ V : World, Go.RowKit.Below wr.heap.size wr V → (fun V : World => (∀ j u, (arr32 x.1)[j]? = some u → V.cell? ((⟨g2, (k - 1) * 32, none⟩ : Addr).add j) = some u) ∧ ∀ j u, (arr32 y.1)[j]? = some u → V.cell? ((⟨g2, k * 32, none⟩ : Addr).add j) = some u) V) := Lib.hid fun V hV => ⟨fun j u hj => (hV.cell (by simpa [Addr.add_lit] using hg2)).trans (HRx.out j u hj), fun j u hj => (hV.cell (by simpa [Addr.add_lit] using hg2)).trans (HRy.out j u hj)⟩
          refine wpAnyH_all (rs := [9, 10]) (by kernel_rfl) (by simp) ?_
          intro i hi
          have hi2 : i = 9 ∨ i = 10 := by simpa using hi
          rcases hi2 with rfl | rfl
          · refine wpOp_step (o := ⟨some 8, _, _, _, _, _⟩) rfl (fun K' hK' => ?_)
            go_simp
            refine hK' _ _ ⟨HSb.out _ ((Go.RowKit.Below.refl _ wr).alloc (Nat.le_refl _) _).drew, ?_⟩
            refine gen_world (P := fun V => wpAnyH _ _ _ _ _ _ _ _ V) (I := fun V => Go.RowKit.Below wr.heap.size wr V ∧ Has V wr.heap.size 26 zero32) _ ⟨((Go.RowKit.Below.refl _ wr).alloc (Nat.le_refl _) _).drew, (fresh_sum wr).drew⟩ ?_
            rintro V1 ⟨hb1, hf1⟩
            clear hK' K'
            refine wpAnyH_all (rs := [10]) (by kernel_rfl) (by simp) ?_
            intro i hi
            obtain rfl : i = 10 := by simpa using hi
            refine wpOp_step (o := ⟨some 9, _, _, _, _, _⟩) rfl (fun K' hK' => ?_)
            go_simp
            refine hK' _ _ ⟨HSb.out _ (hb1.alloc hb1.size _), ?_⟩
            refine gen_world (P := fun V => wpAnyH _ _ _ _ _ _ _ _ V) (I := fun V => Go.RowKit.Below wr.heap.size wr V ∧ Has V wr.heap.size 26 zero32 ∧ Has V V1.heap.size 26 zero32) _ ⟨hb1.alloc hb1.size _, hf1.alloc _, fresh_sum V1⟩ ?_
            rintro V2 ⟨hbv, h8, h9⟩
            have hne : ¬ wr.heap.size = V1.heap.size := by have := hf1.lt; omega
            have hle := hb1.size
            generalize hp8 : wr.heap.size = p8 at h8 hne ⊢
            generalize hp9 : V1.heap.size = p9 at h9 hne ⊢
            clear hK' K' hb1 hf1
            have hl8 : wr.heap.size ≤ p8 := by omega
            have hl9 : wr.heap.size ≤ p9 := by omega
            have hne2 : ¬ p8 = p9 := by omega
            clear hp8 hp9 hne hle
            refine wpAnyH_all (rs := [11]) (by kernel_rfl) (by simp) ?_
            intro i hi
            obtain rfl : i = 11 := by simpa using hi
            refine wpOp_step (o := ⟨none, _, _, _, _, _⟩) rfl (fun K' hK' => ?_)
            rw [if_pos (show Region.wanted _ _ = true from rfl)]
            refine wp_store_row _ _ _ rfl p8 (arr32 x.1) rfl rfl 26 zero32 h8 HIx.out (zero32_size x.1 (by omega)) (arr32_one _) ?_
            refine hK' _ _ ⟨HSb.out _ (below_setRow hbv hl8 _), ?_⟩
            refine gen_world (P := fun V => wpAnyH _ _ _ _ _ _ _ _ V) (I := fun V => Go.RowKit.Below wr.heap.size wr V ∧ Has V p8 26 (arr32 x.1) ∧ Has V p9 26 zero32) _ ⟨below_setRow hbv hl8 _, h8.setRow, h9.setRow_apart (by omega)⟩ ?_
            clear hbv h8 h9 hK' K'
            rintro V3 ⟨hbv, h8, h9⟩
            refine wpAnyH_all (rs := [12]) (by kernel_rfl) (by simp) ?_
            intro i hi
            obtain rfl : i = 12 := by simpa using hi
            refine wpOp_step (o := ⟨none, _, _, _, _, _⟩) rfl (fun K' hK' => ?_)
            rw [if_pos (show Region.wanted _ _ = true from rfl)]
            refine wp_store_row _ _ _ rfl p9 (arr32 y.1) rfl rfl 26 zero32 h9 HIy.out (zero32_size y.1 (by omega)) (arr32_one _) ?_
            refine hK' _ _ ⟨HSb.out _ (below_setRow hbv hl9 _), ?_⟩
            refine gen_world (P := fun V => wpAnyH _ _ _ _ _ _ _ _ V) (I := fun V => Go.RowKit.Below wr.heap.size wr V ∧ Has V p8 26 (arr32 x.1) ∧ Has V p9 26 (arr32 y.1)) _ ⟨below_setRow hbv hl9 _, h8.setRow_apart (by omega), h9.setRow⟩ ?_
            clear hbv h8 h9 hK' K'
            rintro V4 ⟨hbv, h8, h9⟩
            refine wpAnyH_done (by kernel_rfl) ?_ _
            clear HSb HSS
            have hmb : w.heap.size < wr.heap.size := HM.out.lt
            have HM4 := Lib.hid (ownsMap_same HM.out (hbv.block _ hmb))
            have HO4 := Lib.hid (own_below HO.out hbv)
            have HB4 := Lib.hid (HB.out.trans (hbv.mono HB.out.size))
            have HR8 := Lib.hid h8.row
            have HR9 := Lib.hid h9.row
            have HP8 := Lib.hid h8
            have HP9 := Lib.hid h9
            clear hbv h8 h9 HM HO HB HRx HRy
            have hal : alikeOf x.1 y.1 ≤ 64 := by have := alikeF_le x.1 y.1 64 0; unfold alikeOf; omega
            have hwal : IntKind.i64.wrap (((alikeOf x.1 y.1 : Nat) : Int) + 1) = ((alikeOf x.1 y.1 : Nat) : Int) + 1 := IntWalk.i64_in _ (by omega)
            go_upto_region 13 with (first
              | ((with_reducible refine arm_load (w := V4) ⟨p8, 0, none⟩ _ _ HR8.out Tryd.underlying26 HIx.out ?h1 ?h2 ?_); (case h1 => rfl); (case h2 => rfl))
              | ((with_reducible refine arm_load (w := V4) ⟨p9, 0, none⟩ _ _ HR9.out Tryd.underlying26 HIy.out ?h3 ?h4 ?_); (case h3 => rfl); (case h4 => rfl))
              | (go_at_call 80; refine (alike_any x.1 y.1 x.2.1 y.2.1 x.2.2 y.2.2 V4).mono ?_; rintro e w5 ⟨rfl, hb5⟩; have HM5 := Lib.hid (ownsMap_same HM4.out (hb5.block _ HM4.out.lt)); have HO5 := Lib.hid (own_below HO4.out hb5); have HB5 := Lib.hid (HB4.out.trans (hb5.mono HB4.out.size)); have HP85 := Lib.hid (HP8.out.below hb5 HP8.out.lt).row; have HP95 := Lib.hid (HP9.out.below hb5 HP9.out.lt).row; clear hb5))
            have hmlt : w.heap.size < p8 ∧ w.heap.size < p9 := ⟨by omega, by omega⟩
            obtain ⟨ca, hla, hata, hwa⟩ := (HM5.out.drew).lookup_int sum_keyed Tryd.underlying114 Tryd.underlying3 (Tryd.zeroValue3 _) (sum_keyOf x.1 x.2.1 x.2.2)
            obtain ⟨cb, hlb, hatb, hwb⟩ := (HM5.out.drew).lookup_int sum_keyed Tryd.underlying114 Tryd.underlying3 (Tryd.zeroValue3 _) (sum_keyOf y.1 y.2.1 y.2.2)
            obtain ⟨v0, st, hme, hst⟩ := entry_here (HM5.out.drew) sum_law sum_keyed Tryd.underlying114 Tryd.zeroValue3 (by unfold maxLen; omega) (sum_keyOf x.1 x.2.1 x.2.2) hHx
            have hwua : (Lit.int .i64 (up ca ((alikeOf x.1 y.1 : Nat) + 1))).wf = true := up_wf hwa hal
            have hwub : (Lit.int .i64 (up cb ((alikeOf x.1 y.1 : Nat) + 1))).wf = true := up_wf hwb hal
            obtain ⟨w6, h6a, h6b, h6c⟩ := hst w5.drew (.int .i64 (up ca ((alikeOf x.1 y.1 : Nat) + 1))) _ _ rfl (elemN_int _ hwua)
            obtain ⟨w7, h7a, h7b, h7c⟩ := h6b.update sum_keyed Tryd.underlying114 (by unfold maxLen; omega) (sum_keyOf y.1 y.2.1 y.2.2) (elemN_int _ hwub)
            have hea : getN D (sumLit x.1) = ca := by unfold getN litN; rw [hata]
            have heb : getN D (sumLit y.1) = cb := by unfold getN litN; rw [hatb]
            have hraise : raise D x y = (D.put (sumLit x.1) (litN (up ca ((alikeOf x.1 y.1 : Nat) + 1)))).put (sumLit y.1) (litN (up cb ((alikeOf x.1 y.1 : Nat) + 1))) := by rw [raise, hea, heb]
            rw [← hraise, ← HStep.out] at h7b
            have hhas : Hid (∀ d ∈ rs, Maps.has (raiseTo rs (needOf ls) (k + 1)) (sumLit d.1) = true) := Lib.hid fun d hd => by
              rw [HStep.out, hraise]
              exact has_put_mono h6b.isMap (sum_keyed.key (sum_keyOf y.1 y.2.1 y.2.2)) _ (has_put_mono HM5.out.isMap (sum_keyed.key (sum_keyOf x.1 x.2.1 x.2.2)) _ (HD.out ▸ HH.out d hd))
            have hbel : Go.RowKit.Below w.heap.size w w7 := (HB5.out.drew.grown h6c HB5.out.size (fun j e => by cases e; exact Nat.le_refl _)).grown h7c (Nat.le_trans HB5.out.size h6c.size) (fun j e => by cases e; exact Nat.le_refl _)
            have hown7 : w7.ownsRow (base) 26 32 (.slice (some ⟨g2, 0, none⟩) ys.length c2) ys.length (digCells rs) := (HO5.out.drew.kept h6c (.inr (fun e => by have : g2 = w.heap.size := Option.some.inj e; omega))).kept h7c (.inr (fun e => by have : g2 = w.heap.size := Option.some.inj e; omega))
            have HFin : Hid (∀ i : Value, i = .int .i64 ((k + 1 : Nat) : Int) → ∃ k' : Nat, 1 ≤ k' ∧ (k' ≤ ys.length ∨ k' = 1) ∧ i = .int .i64 k' ∧ w7.ownsMap Tryd.prog 26 elemN w.heap.size (ls.length + 2 * k') (raiseTo rs (needOf ls) k') ∧ w7.ownsRow (base) 26 32 (.slice (some ⟨g2, 0, none⟩) ys.length c2) ys.length (digCells rs) ∧ Go.RowKit.Below w.heap.size w w7 ∧ Hid (∀ d ∈ rs, Maps.has (raiseTo rs (needOf ls) k') (sumLit d.1) = true)) := Lib.hid fun i hi => ⟨k + 1, by omega, .inl (by omega), hi, by simpa [Nat.mul_add, Nat.add_assoc] using h7b, hown7, hbel, hhas⟩
            have HLa := Lib.hid hla
            have HLb := Lib.hid hlb
            have HMe := Lib.hid hme
            have H6a := Lib.hid h6a
            have H7a := Lib.hid h7a
            have HS13 : Hid (SS p8 p9 x y w5.drew) := Lib.hid ⟨HP85.out, HP95.out⟩
            have HS6 : Hid (SS p8 p9 x y w6) := Lib.hid ⟨fun j u hj => h6c.cell (HP85.out j u hj) (fun e => by rw [Addr.add_lit] at e; have : p8 = w.heap.size := Option.some.inj e; omega), fun j u hj => h6c.cell (HP95.out j u hj) (fun e => by rw [Addr.add_lit] at e; have : p9 = w.heap.size := Option.some.inj e; omega)⟩
            have HS7 : Hid (SS p8 p9 x y w7) := Lib.hid ⟨fun j u hj => h7c.cell (HS6.out.1 j u hj) (fun e => by rw [Addr.add_lit] at e; have : p8 = w.heap.size := Option.some.inj e; omega), fun j u hj => h7c.cell (HS6.out.2 j u hj) (fun e => by rw [Addr.add_lit] at e; have : p9 = w.heap.size := Option.some.inj e; omega)⟩
            clear hla hlb hme hst h6a h6b h6c h7a h7b h7c hata hatb hea heb hraise hhas hbel hown7 hwa hwb hwua hwub HM5 HO5 HB5 HP85 HP95 HH hHx hHy
            refine wp_region_held (S := SS p8 p9 x y) (by kernel_rfl) ?_
            refine wpAnyH_take (i := 0) (oi := ⟨some 46, _, _, _, _, _⟩) (v := ?_) rfl (by kernel_rfl) (by kernel_rfl) (by kernel_rfl) (fun _ _ _ h => h) (Or.inl ⟨by rfl, fun w' hw' => by go_simp; with_reducible rfl⟩) HS13.out ?_
            simp only [Act.put, List.setIfInBounds_toArray, List.set_cons_succ, List.set_cons_zero]
            refine wpAnyH_take (i := 1) (oi := ⟨some 47, _, _, _, _, _⟩) (v := .agg (arr32 x.1)) rfl (by kernel_rfl) (by kernel_rfl) (by kernel_rfl) (fun _ _ _ h => h) ?y1 HS13.out ?_
            case y1 => exact yieldsIf_load ⟨p8, 0, none⟩ _ _ (fun w hw => hw.1) Tryd.underlying26 HIx.out rfl rfl
            simp only [Act.put, List.setIfInBounds_toArray, List.set_cons_succ, List.set_cons_zero]
            refine wpAnyH_take (i := 2) (oi := ⟨some 48, _, _, _, _, _⟩) (v := ?_) rfl (by kernel_rfl) (by kernel_rfl) (by kernel_rfl) (fun _ _ _ h => h) (Or.inl ⟨by rfl, fun w' hw' => by go_simp; with_reducible rfl⟩) HS13.out ?_
            simp only [Act.put, List.setIfInBounds_toArray, List.set_cons_succ, List.set_cons_zero]
            refine wpAnyH_take (i := 3) (oi := ⟨some 49, _, _, _, _, _⟩) (v := .agg (arr32 y.1)) rfl (by kernel_rfl) (by kernel_rfl) (by kernel_rfl) (fun _ _ _ h => h) ?y3 HS13.out ?_
            case y3 => exact yieldsIf_load ⟨p9, 0, none⟩ _ _ (fun w hw => hw.2) Tryd.underlying26 HIy.out rfl rfl
            simp only [Act.put, List.setIfInBounds_toArray, List.set_cons_succ, List.set_cons_zero]
            refine wpAnyH_take (i := 4) (oi := ⟨some 50, _, _, _, _, _⟩) (v := ?_) rfl (by kernel_rfl) (by kernel_rfl) (by kernel_rfl) (fun _ _ _ h => h) (Or.inl ⟨by rfl, fun w' hw' => by go_simp; with_reducible rfl⟩) HS13.out ?_
            simp only [Act.put, List.setIfInBounds_toArray, List.set_cons_succ, List.set_cons_zero]
            refine wpAnyH_take (i := 5) (oi := ⟨some 51, _, _, _, _, _⟩) (v := .agg (arr32 x.1)) rfl (by kernel_rfl) (by kernel_rfl) (by kernel_rfl) (fun _ _ _ h => h) ?y5 HS13.out ?_
            case y5 => exact yieldsIf_load ⟨p8, 0, none⟩ _ _ (fun w hw => hw.1) Tryd.underlying26 HIx.out rfl rfl
            simp only [Act.put, List.setIfInBounds_toArray, List.set_cons_succ, List.set_cons_zero]
            refine wpAnyH_take (i := 7) (oi := ⟨some 53, _, _, _, _, _⟩) (v := ?_) rfl (by kernel_rfl) (by kernel_rfl) (by kernel_rfl) (fun _ _ _ h => h) (Or.inl ⟨by rfl, fun w' hw' => by go_simp; with_reducible rfl⟩) HS13.out ?_
            simp only [Act.put, List.setIfInBounds_toArray, List.set_cons_succ, List.set_cons_zero]
            refine wpAnyH_take (i := 9) (oi := ⟨some 55, _, _, _, _, _⟩) (v := ?_) rfl (by kernel_rfl) (by kernel_rfl) (by kernel_rfl) (fun _ _ _ h => h) (Or.inl ⟨by rfl, fun w' hw' => by go_simp; with_reducible rfl⟩) HS13.out ?_
            simp only [Act.put, List.setIfInBounds_toArray, List.set_cons_succ, List.set_cons_zero]
            refine wpAnyH_take (i := 10) (oi := ⟨some 56, _, _, _, _, _⟩) (v := .agg (arr32 y.1)) rfl (by kernel_rfl) (by kernel_rfl) (by kernel_rfl) (fun _ _ _ h => h) ?y10 HS13.out ?_
            case y10 => exact yieldsIf_load ⟨p9, 0, none⟩ _ _ (fun w hw => hw.2) Tryd.underlying26 HIy.out rfl rfl
            simp only [Act.put, List.setIfInBounds_toArray, List.set_cons_succ, List.set_cons_zero]
            refine wpAnyH_take (i := 12) (oi := ⟨some 58, _, _, _, _, _⟩) (v := ?_) rfl (by kernel_rfl) (by kernel_rfl) (by kernel_rfl) (fun _ _ _ h => h) (Or.inl ⟨by rfl, fun w' hw' => by go_simp; with_reducible rfl⟩) HS13.out ?_
            simp only [Act.put, List.setIfInBounds_toArray, List.set_cons_succ, List.set_cons_zero]
            refine wpAnyH_all (rs := [6, 11]) (by kernel_rfl) (by simp) ?_
            intro i hi
            have hi2 : i = 6 ∨ i = 11 := by simpa using hi
            rcases hi2 with rfl | rfl
            · refine wpOp_step (o := ⟨some 52, _, _, _, _, _⟩) rfl (fun K' hK' => ?_)
              rw [if_pos (show Region.wanted _ _ = true from rfl)]
              refine op_lookup (.map (some w.heap.size)) (.agg (arr32 x.1)) (.int .i64 ca) rfl rfl HLa.out ?_
              refine hK' _ _ ⟨HS13.out, ?_⟩
              clear hK' K'
              simp only [Act.put, List.setIfInBounds_toArray, List.set_cons_succ, List.set_cons_zero]
              refine wpAnyH_take (i := 8) (oi := ⟨some 54, _, _, _, _, _⟩) (v := .int .i64 (up ca ((alikeOf x.1 y.1 : Nat) + 1))) rfl (by kernel_rfl) (by kernel_rfl) (by kernel_rfl) (fun _ _ _ h => h) ?y8 HS13.out ?_
              case y8 => exact yieldsIf_max ca ((alikeOf x.1 y.1 : Nat) + 1) rfl rfl
              simp only [Act.put, List.setIfInBounds_toArray, List.set_cons_succ, List.set_cons_zero]
              refine wpAnyH_all (rs := [11]) (by kernel_rfl) (by simp) ?_
              intro i hi
              obtain rfl : i = 11 := by simpa using hi
              refine wpOp_step (o := ⟨some 57, _, _, _, _, _⟩) rfl (fun K' hK' => ?_)
              rw [if_pos (show Region.wanted _ _ = true from rfl)]
              refine op_lookup (.map (some w.heap.size)) (.agg (arr32 y.1)) (.int .i64 cb) rfl rfl HLb.out ?_
              refine hK' _ _ ⟨HS13.out, ?_⟩
              clear hK' K'
              simp only [Act.put, List.setIfInBounds_toArray, List.set_cons_succ, List.set_cons_zero]
              refine wpAnyH_take (i := 13) (oi := ⟨some 59, _, _, _, _, _⟩) (v := .int .i64 (up cb ((alikeOf x.1 y.1 : Nat) + 1))) rfl (by kernel_rfl) (by kernel_rfl) (by kernel_rfl) (fun _ _ _ h => h) ?y13 HS13.out ?_
              case y13 => exact yieldsIf_max cb ((alikeOf x.1 y.1 : Nat) + 1) rfl rfl
              simp only [Act.put, List.setIfInBounds_toArray, List.set_cons_succ, List.set_cons_zero]
              refine wpAnyH_all (rs := [14]) (by kernel_rfl) (by simp) ?_
              intro i hi
              obtain rfl : i = 14 := by simpa using hi
              refine wpOp_step (o := ⟨some 60, _, _, _, _, _⟩) rfl (fun K' hK' => ?_)
              rw [if_pos (show Region.wanted _ _ = true from rfl)]
              refine op_mapEntry (.map (some w.heap.size)) (.agg (arr32 x.1)) (.tuple #[v0, goInt st]) rfl rfl HMe.out ?_
              refine hK' _ _ ⟨HS13.out, ?_⟩
              clear hK' K'
              simp only [Act.put, List.setIfInBounds_toArray, List.set_cons_succ, List.set_cons_zero]
              refine wpAnyH_take (i := 15) (oi := ⟨some 61, _, _, _, _, _⟩) (v := ?_) rfl (by kernel_rfl) (by kernel_rfl) (by kernel_rfl) (fun _ _ _ h => h) (Or.inl ⟨by rfl, fun w' hw' => by go_simp; with_reducible rfl⟩) HS13.out ?_
              simp only [Act.put, List.setIfInBounds_toArray, List.set_cons_succ, List.set_cons_zero]
              refine wpAnyH_all (rs := [16]) (by kernel_rfl) (by simp) ?_
              intro i hi
              obtain rfl : i = 16 := by simpa using hi
              refine wpOp_step (o := ⟨none, _, _, _, _, _⟩) rfl (fun K' hK' => ?_)
              rw [if_pos (show Region.wanted _ _ = true from rfl)]
              refine op_entryStore (.map (some w.heap.size)) (goInt st) (.int .i64 (up ca ((alikeOf x.1 y.1 : Nat) + 1))) rfl rfl rfl H6a.out ?_
              refine hK' _ _ ⟨HS6.out, ?_⟩
              clear hK' K'
              refine wpAnyH_all (rs := [17]) (by kernel_rfl) (by simp) ?_
              intro i hi
              obtain rfl : i = 17 := by simpa using hi
              refine wpOp_step (o := ⟨none, _, _, _, _, _⟩) rfl (fun K' hK' => ?_)
              rw [if_pos (show Region.wanted _ _ = true from rfl)]
              refine op_mapUpdate (.map (some w.heap.size)) (.agg (arr32 y.1)) (.int .i64 (up cb ((alikeOf x.1 y.1 : Nat) + 1))) rfl rfl rfl H7a.out ?_
              refine hK' _ _ ⟨HS7.out, ?_⟩
              clear hK' K'
              refine wpAnyH_done (by kernel_rfl) ?_ _
              go_wp2
              exact ⟨HFin.out _ (by go_num), by simp [intOf]; omega⟩
            · refine wpOp_step (o := ⟨some 57, _, _, _, _, _⟩) rfl (fun K' hK' => ?_)
              rw [if_pos (show Region.wanted _ _ = true from rfl)]
              refine op_lookup (.map (some w.heap.size)) (.agg (arr32 y.1)) (.int .i64 cb) rfl rfl HLb.out ?_
              refine hK' _ _ ⟨HS13.out, ?_⟩
              clear hK' K'
              simp only [Act.put, List.setIfInBounds_toArray, List.set_cons_succ, List.set_cons_zero]
              refine wpAnyH_take (i := 13) (oi := ⟨some 59, _, _, _, _, _⟩) (v := .int .i64 (up cb ((alikeOf x.1 y.1 : Nat) + 1))) rfl (by kernel_rfl) (by kernel_rfl) (by kernel_rfl) (fun _ _ _ h => h) ?y13 HS13.out ?_
              case y13 => exact yieldsIf_max cb ((alikeOf x.1 y.1 : Nat) + 1) rfl rfl
              simp only [Act.put, List.setIfInBounds_toArray, List.set_cons_succ, List.set_cons_zero]
              refine wpAnyH_all (rs := [6, 14]) (by kernel_rfl) (by simp) ?_
              intro i hi
              have hi2 : i = 6 ∨ i = 14 := by simpa using hi
              rcases hi2 with rfl | rfl
              · refine wpOp_step (o := ⟨some 52, _, _, _, _, _⟩) rfl (fun K' hK' => ?_)
                rw [if_pos (show Region.wanted _ _ = true from rfl)]
                refine op_lookup (.map (some w.heap.size)) (.agg (arr32 x.1)) (.int .i64 ca) rfl rfl HLa.out ?_
                refine hK' _ _ ⟨HS13.out, ?_⟩
                clear hK' K'
                simp only [Act.put, List.setIfInBounds_toArray, List.set_cons_succ, List.set_cons_zero]
                refine wpAnyH_take (i := 8) (oi := ⟨some 54, _, _, _, _, _⟩) (v := .int .i64 (up ca ((alikeOf x.1 y.1 : Nat) + 1))) rfl (by kernel_rfl) (by kernel_rfl) (by kernel_rfl) (fun _ _ _ h => h) ?y8 HS13.out ?_
                case y8 => exact yieldsIf_max ca ((alikeOf x.1 y.1 : Nat) + 1) rfl rfl
                simp only [Act.put, List.setIfInBounds_toArray, List.set_cons_succ, List.set_cons_zero]
                refine wpAnyH_all (rs := [14]) (by kernel_rfl) (by simp) ?_
                intro i hi
                obtain rfl : i = 14 := by simpa using hi
                refine wpOp_step (o := ⟨some 60, _, _, _, _, _⟩) rfl (fun K' hK' => ?_)
                rw [if_pos (show Region.wanted _ _ = true from rfl)]
                refine op_mapEntry (.map (some w.heap.size)) (.agg (arr32 x.1)) (.tuple #[v0, goInt st]) rfl rfl HMe.out ?_
                refine hK' _ _ ⟨HS13.out, ?_⟩
                clear hK' K'
                simp only [Act.put, List.setIfInBounds_toArray, List.set_cons_succ, List.set_cons_zero]
                refine wpAnyH_take (i := 15) (oi := ⟨some 61, _, _, _, _, _⟩) (v := ?_) rfl (by kernel_rfl) (by kernel_rfl) (by kernel_rfl) (fun _ _ _ h => h) (Or.inl ⟨by rfl, fun w' hw' => by go_simp; with_reducible rfl⟩) HS13.out ?_
                simp only [Act.put, List.setIfInBounds_toArray, List.set_cons_succ, List.set_cons_zero]
                refine wpAnyH_all (rs := [16]) (by kernel_rfl) (by simp) ?_
                intro i hi
                obtain rfl : i = 16 := by simpa using hi
                refine wpOp_step (o := ⟨none, _, _, _, _, _⟩) rfl (fun K' hK' => ?_)
                rw [if_pos (show Region.wanted _ _ = true from rfl)]
                refine op_entryStore (.map (some w.heap.size)) (goInt st) (.int .i64 (up ca ((alikeOf x.1 y.1 : Nat) + 1))) rfl rfl rfl H6a.out ?_
                refine hK' _ _ ⟨HS6.out, ?_⟩
                clear hK' K'
                refine wpAnyH_all (rs := [17]) (by kernel_rfl) (by simp) ?_
                intro i hi
                obtain rfl : i = 17 := by simpa using hi
                refine wpOp_step (o := ⟨none, _, _, _, _, _⟩) rfl (fun K' hK' => ?_)
                rw [if_pos (show Region.wanted _ _ = true from rfl)]
                refine op_mapUpdate (.map (some w.heap.size)) (.agg (arr32 y.1)) (.int .i64 (up cb ((alikeOf x.1 y.1 : Nat) + 1))) rfl rfl rfl H7a.out ?_
                refine hK' _ _ ⟨HS7.out, ?_⟩
                clear hK' K'
                refine wpAnyH_done (by kernel_rfl) ?_ _
                go_wp2
                exact ⟨HFin.out _ (by go_num), by simp [intOf]; omega⟩
              · refine wpOp_step (o := ⟨some 60, _, _, _, _, _⟩) rfl (fun K' hK' => ?_)
                rw [if_pos (show Region.wanted _ _ = true from rfl)]
                refine op_mapEntry (.map (some w.heap.size)) (.agg (arr32 x.1)) (.tuple #[v0, goInt st]) rfl rfl HMe.out ?_
                refine hK' _ _ ⟨HS13.out, ?_⟩
                clear hK' K'
                simp only [Act.put, List.setIfInBounds_toArray, List.set_cons_succ, List.set_cons_zero]
                refine wpAnyH_take (i := 15) (oi := ⟨some 61, _, _, _, _, _⟩) (v := ?_) rfl (by kernel_rfl) (by kernel_rfl) (by kernel_rfl) (fun _ _ _ h => h) (Or.inl ⟨by rfl, fun w' hw' => by go_simp; with_reducible rfl⟩) HS13.out ?_
                simp only [Act.put, List.setIfInBounds_toArray, List.set_cons_succ, List.set_cons_zero]
                refine wpAnyH_all (rs := [6]) (by kernel_rfl) (by simp) ?_
                intro i hi
                obtain rfl : i = 6 := by simpa using hi
                refine wpOp_step (o := ⟨some 52, _, _, _, _, _⟩) rfl (fun K' hK' => ?_)
                rw [if_pos (show Region.wanted _ _ = true from rfl)]
                refine op_lookup (.map (some w.heap.size)) (.agg (arr32 x.1)) (.int .i64 ca) rfl rfl HLa.out ?_
                refine hK' _ _ ⟨HS13.out, ?_⟩
                clear hK' K'
                simp only [Act.put, List.setIfInBounds_toArray, List.set_cons_succ, List.set_cons_zero]
                refine wpAnyH_take (i := 8) (oi := ⟨some 54, _, _, _, _, _⟩) (v := .int .i64 (up ca ((alikeOf x.1 y.1 : Nat) + 1))) rfl (by kernel_rfl) (by kernel_rfl) (by kernel_rfl) (fun _ _ _ h => h) ?y8 HS13.out ?_
                case y8 => exact yieldsIf_max ca ((alikeOf x.1 y.1 : Nat) + 1) rfl rfl
                simp only [Act.put, List.setIfInBounds_toArray, List.set_cons_succ, List.set_cons_zero]
                refine wpAnyH_all (rs := [16]) (by kernel_rfl) (by simp) ?_
                intro i hi
                obtain rfl : i = 16 := by simpa using hi
                refine wpOp_step (o := ⟨none, _, _, _, _, _⟩) rfl (fun K' hK' => ?_)
                rw [if_pos (show Region.wanted _ _ = true from rfl)]
                refine op_entryStore (.map (some w.heap.size)) (goInt st) (.int .i64 (up ca ((alikeOf x.1 y.1 : Nat) + 1))) rfl rfl rfl H6a.out ?_
                refine hK' _ _ ⟨HS6.out, ?_⟩
                clear hK' K'
                refine wpAnyH_all (rs := [17]) (by kernel_rfl) (by simp) ?_
                intro i hi
                obtain rfl : i = 17 := by simpa using hi
                refine wpOp_step (o := ⟨none, _, _, _, _, _⟩) rfl (fun K' hK' => ?_)
                rw [if_pos (show Region.wanted _ _ = true from rfl)]
                refine op_mapUpdate (.map (some w.heap.size)) (.agg (arr32 y.1)) (.int .i64 (up cb ((alikeOf x.1 y.1 : Nat) + 1))) rfl rfl rfl H7a.out ?_
                refine hK' _ _ ⟨HS7.out, ?_⟩
                clear hK' K'
                refine wpAnyH_done (by kernel_rfl) ?_ _
                go_wp2
                exact ⟨HFin.out _ (by go_num), by simp [intOf]; omega⟩
          · refine wpOp_step (o := ⟨some 9, _, _, _, _, _⟩) rfl (fun K' hK' => ?_)
            go_simp
            refine hK' _ _ ⟨HSb.out _ ((Go.RowKit.Below.refl _ wr).alloc (Nat.le_refl _) _).drew, ?_⟩
            refine gen_world (P := fun V => wpAnyH _ _ _ _ _ _ _ _ V) (I := fun V => Go.RowKit.Below wr.heap.size wr V ∧ Has V wr.heap.size 26 zero32) _ ⟨((Go.RowKit.Below.refl _ wr).alloc (Nat.le_refl _) _).drew, (fresh_sum wr).drew⟩ ?_
            rintro V1 ⟨hb1, hf1⟩
            clear hK' K'
            refine wpAnyH_all (rs := [9]) (by kernel_rfl) (by simp) ?_
            intro i hi
            obtain rfl : i = 9 := by simpa using hi
            refine wpOp_step (o := ⟨some 8, _, _, _, _, _⟩) rfl (fun K' hK' => ?_)
            go_simp
            refine hK' _ _ ⟨HSb.out _ (hb1.alloc hb1.size _), ?_⟩
            refine gen_world (P := fun V => wpAnyH _ _ _ _ _ _ _ _ V) (I := fun V => Go.RowKit.Below wr.heap.size wr V ∧ Has V wr.heap.size 26 zero32 ∧ Has V V1.heap.size 26 zero32) _ ⟨hb1.alloc hb1.size _, hf1.alloc _, fresh_sum V1⟩ ?_
            rintro V2 ⟨hbv, h9, h8⟩
            have hne : ¬ wr.heap.size = V1.heap.size := by have := hf1.lt; omega
            have hle := hb1.size
            generalize hp8 : V1.heap.size = p8 at h8 hne ⊢
            generalize hp9 : wr.heap.size = p9 at h9 hne ⊢
            clear hK' K' hb1 hf1
            have hl8 : wr.heap.size ≤ p8 := by omega
            have hl9 : wr.heap.size ≤ p9 := by omega
            have hne2 : ¬ p8 = p9 := by omega
            clear hp8 hp9 hne hle
            refine wpAnyH_all (rs := [11]) (by kernel_rfl) (by simp) ?_
            intro i hi
            obtain rfl : i = 11 := by simpa using hi
            refine wpOp_step (o := ⟨none, _, _, _, _, _⟩) rfl (fun K' hK' => ?_)
            rw [if_pos (show Region.wanted _ _ = true from rfl)]
            refine wp_store_row _ _ _ rfl p8 (arr32 x.1) rfl rfl 26 zero32 h8 HIx.out (zero32_size x.1 (by omega)) (arr32_one _) ?_
            refine hK' _ _ ⟨HSb.out _ (below_setRow hbv hl8 _), ?_⟩
            refine gen_world (P := fun V => wpAnyH _ _ _ _ _ _ _ _ V) (I := fun V => Go.RowKit.Below wr.heap.size wr V ∧ Has V p8 26 (arr32 x.1) ∧ Has V p9 26 zero32) _ ⟨below_setRow hbv hl8 _, h8.setRow, h9.setRow_apart (by omega)⟩ ?_
            clear hbv h8 h9 hK' K'
            rintro V3 ⟨hbv, h8, h9⟩
            refine wpAnyH_all (rs := [12]) (by kernel_rfl) (by simp) ?_
            intro i hi
            obtain rfl : i = 12 := by simpa using hi
            refine wpOp_step (o := ⟨none, _, _, _, _, _⟩) rfl (fun K' hK' => ?_)
            rw [if_pos (show Region.wanted _ _ = true from rfl)]
            refine wp_store_row _ _ _ rfl p9 (arr32 y.1) rfl rfl 26 zero32 h9 HIy.out (zero32_size y.1 (by omega)) (arr32_one _) ?_
            refine hK' _ _ ⟨HSb.out _ (below_setRow hbv hl9 _), ?_⟩
            refine gen_world (P := fun V => wpAnyH _ _ _ _ _ _ _ _ V) (I := fun V => Go.RowKit.Below wr.heap.size wr V ∧ Has V p8 26 (arr32 x.1) ∧ Has V p9 26 (arr32 y.1)) _ ⟨below_setRow hbv hl9 _, h8.setRow_apart (by omega), h9.setRow⟩ ?_
            clear hbv h8 h9 hK' K'
            rintro V4 ⟨hbv, h8, h9⟩
            refine wpAnyH_done (by kernel_rfl) ?_ _
            clear HSb HSS
            have hmb : w.heap.size < wr.heap.size := HM.out.lt
            have HM4 := Lib.hid (ownsMap_same HM.out (hbv.block _ hmb))
            have HO4 := Lib.hid (own_below HO.out hbv)
            have HB4 := Lib.hid (HB.out.trans (hbv.mono HB.out.size))
            have HR8 := Lib.hid h8.row
            have HR9 := Lib.hid h9.row
            have HP8 := Lib.hid h8
            have HP9 := Lib.hid h9
            clear hbv h8 h9 HM HO HB HRx HRy
            have hal : alikeOf x.1 y.1 ≤ 64 := by have := alikeF_le x.1 y.1 64 0; unfold alikeOf; omega
            have hwal : IntKind.i64.wrap (((alikeOf x.1 y.1 : Nat) : Int) + 1) = ((alikeOf x.1 y.1 : Nat) : Int) + 1 := IntWalk.i64_in _ (by omega)
            go_upto_region 13 with (first
              | ((with_reducible refine arm_load (w := V4) ⟨p8, 0, none⟩ _ _ HR8.out Tryd.underlying26 HIx.out ?h1 ?h2 ?_); (case h1 => rfl); (case h2 => rfl))
              | ((with_reducible refine arm_load (w := V4) ⟨p9, 0, none⟩ _ _ HR9.out Tryd.underlying26 HIy.out ?h3 ?h4 ?_); (case h3 => rfl); (case h4 => rfl))
              | (go_at_call 80; refine (alike_any x.1 y.1 x.2.1 y.2.1 x.2.2 y.2.2 V4).mono ?_; rintro e w5 ⟨rfl, hb5⟩; have HM5 := Lib.hid (ownsMap_same HM4.out (hb5.block _ HM4.out.lt)); have HO5 := Lib.hid (own_below HO4.out hb5); have HB5 := Lib.hid (HB4.out.trans (hb5.mono HB4.out.size)); have HP85 := Lib.hid (HP8.out.below hb5 HP8.out.lt).row; have HP95 := Lib.hid (HP9.out.below hb5 HP9.out.lt).row; clear hb5))
            have hmlt : w.heap.size < p8 ∧ w.heap.size < p9 := ⟨by omega, by omega⟩
            obtain ⟨ca, hla, hata, hwa⟩ := (HM5.out.drew).lookup_int sum_keyed Tryd.underlying114 Tryd.underlying3 (Tryd.zeroValue3 _) (sum_keyOf x.1 x.2.1 x.2.2)
            obtain ⟨cb, hlb, hatb, hwb⟩ := (HM5.out.drew).lookup_int sum_keyed Tryd.underlying114 Tryd.underlying3 (Tryd.zeroValue3 _) (sum_keyOf y.1 y.2.1 y.2.2)
            obtain ⟨v0, st, hme, hst⟩ := entry_here (HM5.out.drew) sum_law sum_keyed Tryd.underlying114 Tryd.zeroValue3 (by unfold maxLen; omega) (sum_keyOf x.1 x.2.1 x.2.2) hHx
            have hwua : (Lit.int .i64 (up ca ((alikeOf x.1 y.1 : Nat) + 1))).wf = true := up_wf hwa hal
            have hwub : (Lit.int .i64 (up cb ((alikeOf x.1 y.1 : Nat) + 1))).wf = true := up_wf hwb hal
            obtain ⟨w6, h6a, h6b, h6c⟩ := hst w5.drew (.int .i64 (up ca ((alikeOf x.1 y.1 : Nat) + 1))) _ _ rfl (elemN_int _ hwua)
            obtain ⟨w7, h7a, h7b, h7c⟩ := h6b.update sum_keyed Tryd.underlying114 (by unfold maxLen; omega) (sum_keyOf y.1 y.2.1 y.2.2) (elemN_int _ hwub)
            have hea : getN D (sumLit x.1) = ca := by unfold getN litN; rw [hata]
            have heb : getN D (sumLit y.1) = cb := by unfold getN litN; rw [hatb]
            have hraise : raise D x y = (D.put (sumLit x.1) (litN (up ca ((alikeOf x.1 y.1 : Nat) + 1)))).put (sumLit y.1) (litN (up cb ((alikeOf x.1 y.1 : Nat) + 1))) := by rw [raise, hea, heb]
            rw [← hraise, ← HStep.out] at h7b
            have hhas : Hid (∀ d ∈ rs, Maps.has (raiseTo rs (needOf ls) (k + 1)) (sumLit d.1) = true) := Lib.hid fun d hd => by
              rw [HStep.out, hraise]
              exact has_put_mono h6b.isMap (sum_keyed.key (sum_keyOf y.1 y.2.1 y.2.2)) _ (has_put_mono HM5.out.isMap (sum_keyed.key (sum_keyOf x.1 x.2.1 x.2.2)) _ (HD.out ▸ HH.out d hd))
            have hbel : Go.RowKit.Below w.heap.size w w7 := (HB5.out.drew.grown h6c HB5.out.size (fun j e => by cases e; exact Nat.le_refl _)).grown h7c (Nat.le_trans HB5.out.size h6c.size) (fun j e => by cases e; exact Nat.le_refl _)
            have hown7 : w7.ownsRow (base) 26 32 (.slice (some ⟨g2, 0, none⟩) ys.length c2) ys.length (digCells rs) := (HO5.out.drew.kept h6c (.inr (fun e => by have : g2 = w.heap.size := Option.some.inj e; omega))).kept h7c (.inr (fun e => by have : g2 = w.heap.size := Option.some.inj e; omega))
            have HFin : Hid (∀ i : Value, i = .int .i64 ((k + 1 : Nat) : Int) → ∃ k' : Nat, 1 ≤ k' ∧ (k' ≤ ys.length ∨ k' = 1) ∧ i = .int .i64 k' ∧ w7.ownsMap Tryd.prog 26 elemN w.heap.size (ls.length + 2 * k') (raiseTo rs (needOf ls) k') ∧ w7.ownsRow (base) 26 32 (.slice (some ⟨g2, 0, none⟩) ys.length c2) ys.length (digCells rs) ∧ Go.RowKit.Below w.heap.size w w7 ∧ Hid (∀ d ∈ rs, Maps.has (raiseTo rs (needOf ls) k') (sumLit d.1) = true)) := Lib.hid fun i hi => ⟨k + 1, by omega, .inl (by omega), hi, by simpa [Nat.mul_add, Nat.add_assoc] using h7b, hown7, hbel, hhas⟩
            have HLa := Lib.hid hla
            have HLb := Lib.hid hlb
            have HMe := Lib.hid hme
            have H6a := Lib.hid h6a
            have H7a := Lib.hid h7a
            have HS13 : Hid (SS p8 p9 x y w5.drew) := Lib.hid ⟨HP85.out, HP95.out⟩
            have HS6 : Hid (SS p8 p9 x y w6) := Lib.hid ⟨fun j u hj => h6c.cell (HP85.out j u hj) (fun e => by rw [Addr.add_lit] at e; have : p8 = w.heap.size := Option.some.inj e; omega), fun j u hj => h6c.cell (HP95.out j u hj) (fun e => by rw [Addr.add_lit] at e; have : p9 = w.heap.size := Option.some.inj e; omega)⟩
            have HS7 : Hid (SS p8 p9 x y w7) := Lib.hid ⟨fun j u hj => h7c.cell (HS6.out.1 j u hj) (fun e => by rw [Addr.add_lit] at e; have : p8 = w.heap.size := Option.some.inj e; omega), fun j u hj => h7c.cell (HS6.out.2 j u hj) (fun e => by rw [Addr.add_lit] at e; have : p9 = w.heap.size := Option.some.inj e; omega)⟩
            clear hla hlb hme hst h6a h6b h6c h7a h7b h7c hata hatb hea heb hraise hhas hbel hown7 hwa hwb hwua hwub HM5 HO5 HB5 HP85 HP95 HH hHx hHy
            refine wp_region_held (S := SS p8 p9 x y) (by kernel_rfl) ?_
            refine wpAnyH_take (i := 0) (oi := ⟨some 46, _, _, _, _, _⟩) (v := ?_) rfl (by kernel_rfl) (by kernel_rfl) (by kernel_rfl) (fun _ _ _ h => h) (Or.inl ⟨by rfl, fun w' hw' => by go_simp; with_reducible rfl⟩) HS13.out ?_
            simp only [Act.put, List.setIfInBounds_toArray, List.set_cons_succ, List.set_cons_zero]
            refine wpAnyH_take (i := 1) (oi := ⟨some 47, _, _, _, _, _⟩) (v := .agg (arr32 x.1)) rfl (by kernel_rfl) (by kernel_rfl) (by kernel_rfl) (fun _ _ _ h => h) ?y1 HS13.out ?_
            case y1 => exact yieldsIf_load ⟨p8, 0, none⟩ _ _ (fun w hw => hw.1) Tryd.underlying26 HIx.out rfl rfl
            simp only [Act.put, List.setIfInBounds_toArray, List.set_cons_succ, List.set_cons_zero]
            refine wpAnyH_take (i := 2) (oi := ⟨some 48, _, _, _, _, _⟩) (v := ?_) rfl (by kernel_rfl) (by kernel_rfl) (by kernel_rfl) (fun _ _ _ h => h) (Or.inl ⟨by rfl, fun w' hw' => by go_simp; with_reducible rfl⟩) HS13.out ?_
            simp only [Act.put, List.setIfInBounds_toArray, List.set_cons_succ, List.set_cons_zero]
            refine wpAnyH_take (i := 3) (oi := ⟨some 49, _, _, _, _, _⟩) (v := .agg (arr32 y.1)) rfl (by kernel_rfl) (by kernel_rfl) (by kernel_rfl) (fun _ _ _ h => h) ?y3 HS13.out ?_
            case y3 => exact yieldsIf_load ⟨p9, 0, none⟩ _ _ (fun w hw => hw.2) Tryd.underlying26 HIy.out rfl rfl
            simp only [Act.put, List.setIfInBounds_toArray, List.set_cons_succ, List.set_cons_zero]
            refine wpAnyH_take (i := 4) (oi := ⟨some 50, _, _, _, _, _⟩) (v := ?_) rfl (by kernel_rfl) (by kernel_rfl) (by kernel_rfl) (fun _ _ _ h => h) (Or.inl ⟨by rfl, fun w' hw' => by go_simp; with_reducible rfl⟩) HS13.out ?_
            simp only [Act.put, List.setIfInBounds_toArray, List.set_cons_succ, List.set_cons_zero]
            refine wpAnyH_take (i := 5) (oi := ⟨some 51, _, _, _, _, _⟩) (v := .agg (arr32 x.1)) rfl (by kernel_rfl) (by kernel_rfl) (by kernel_rfl) (fun _ _ _ h => h) ?y5 HS13.out ?_
            case y5 => exact yieldsIf_load ⟨p8, 0, none⟩ _ _ (fun w hw => hw.1) Tryd.underlying26 HIx.out rfl rfl
            simp only [Act.put, List.setIfInBounds_toArray, List.set_cons_succ, List.set_cons_zero]
            refine wpAnyH_take (i := 7) (oi := ⟨some 53, _, _, _, _, _⟩) (v := ?_) rfl (by kernel_rfl) (by kernel_rfl) (by kernel_rfl) (fun _ _ _ h => h) (Or.inl ⟨by rfl, fun w' hw' => by go_simp; with_reducible rfl⟩) HS13.out ?_
            simp only [Act.put, List.setIfInBounds_toArray, List.set_cons_succ, List.set_cons_zero]
            refine wpAnyH_take (i := 9) (oi := ⟨some 55, _, _, _, _, _⟩) (v := ?_) rfl (by kernel_rfl) (by kernel_rfl) (by kernel_rfl) (fun _ _ _ h => h) (Or.inl ⟨by rfl, fun w' hw' => by go_simp; with_reducible rfl⟩) HS13.out ?_
            simp only [Act.put, List.setIfInBounds_toArray, List.set_cons_succ, List.set_cons_zero]
            refine wpAnyH_take (i := 10) (oi := ⟨some 56, _, _, _, _, _⟩) (v := .agg (arr32 y.1)) rfl (by kernel_rfl) (by kernel_rfl) (by kernel_rfl) (fun _ _ _ h => h) ?y10 HS13.out ?_
            case y10 => exact yieldsIf_load ⟨p9, 0, none⟩ _ _ (fun w hw => hw.2) Tryd.underlying26 HIy.out rfl rfl
            simp only [Act.put, List.setIfInBounds_toArray, List.set_cons_succ, List.set_cons_zero]
            refine wpAnyH_take (i := 12) (oi := ⟨some 58, _, _, _, _, _⟩) (v := ?_) rfl (by kernel_rfl) (by kernel_rfl) (by kernel_rfl) (fun _ _ _ h => h) (Or.inl ⟨by rfl, fun w' hw' => by go_simp; with_reducible rfl⟩) HS13.out ?_
            simp only [Act.put, List.setIfInBounds_toArray, List.set_cons_succ, List.set_cons_zero]
            refine wpAnyH_all (rs := [6, 11]) (by kernel_rfl) (by simp) ?_
            intro i hi
            have hi2 : i = 6 ∨ i = 11 := by simpa using hi
            rcases hi2 with rfl | rfl
            · refine wpOp_step (o := ⟨some 52, _, _, _, _, _⟩) rfl (fun K' hK' => ?_)
              rw [if_pos (show Region.wanted _ _ = true from rfl)]
              refine op_lookup (.map (some w.heap.size)) (.agg (arr32 x.1)) (.int .i64 ca) rfl rfl HLa.out ?_
              refine hK' _ _ ⟨HS13.out, ?_⟩
              clear hK' K'
              simp only [Act.put, List.setIfInBounds_toArray, List.set_cons_succ, List.set_cons_zero]
              refine wpAnyH_take (i := 8) (oi := ⟨some 54, _, _, _, _, _⟩) (v := .int .i64 (up ca ((alikeOf x.1 y.1 : Nat) + 1))) rfl (by kernel_rfl) (by kernel_rfl) (by kernel_rfl) (fun _ _ _ h => h) ?y8 HS13.out ?_
              case y8 => exact yieldsIf_max ca ((alikeOf x.1 y.1 : Nat) + 1) rfl rfl
              simp only [Act.put, List.setIfInBounds_toArray, List.set_cons_succ, List.set_cons_zero]
              refine wpAnyH_all (rs := [11]) (by kernel_rfl) (by simp) ?_
              intro i hi
              obtain rfl : i = 11 := by simpa using hi
              refine wpOp_step (o := ⟨some 57, _, _, _, _, _⟩) rfl (fun K' hK' => ?_)
              rw [if_pos (show Region.wanted _ _ = true from rfl)]
              refine op_lookup (.map (some w.heap.size)) (.agg (arr32 y.1)) (.int .i64 cb) rfl rfl HLb.out ?_
              refine hK' _ _ ⟨HS13.out, ?_⟩
              clear hK' K'
              simp only [Act.put, List.setIfInBounds_toArray, List.set_cons_succ, List.set_cons_zero]
              refine wpAnyH_take (i := 13) (oi := ⟨some 59, _, _, _, _, _⟩) (v := .int .i64 (up cb ((alikeOf x.1 y.1 : Nat) + 1))) rfl (by kernel_rfl) (by kernel_rfl) (by kernel_rfl) (fun _ _ _ h => h) ?y13 HS13.out ?_
              case y13 => exact yieldsIf_max cb ((alikeOf x.1 y.1 : Nat) + 1) rfl rfl
              simp only [Act.put, List.setIfInBounds_toArray, List.set_cons_succ, List.set_cons_zero]
              refine wpAnyH_all (rs := [14]) (by kernel_rfl) (by simp) ?_
              intro i hi
              obtain rfl : i = 14 := by simpa using hi
              refine wpOp_step (o := ⟨some 60, _, _, _, _, _⟩) rfl (fun K' hK' => ?_)
              rw [if_pos (show Region.wanted _ _ = true from rfl)]
              refine op_mapEntry (.map (some w.heap.size)) (.agg (arr32 x.1)) (.tuple #[v0, goInt st]) rfl rfl HMe.out ?_
              refine hK' _ _ ⟨HS13.out, ?_⟩
              clear hK' K'
              simp only [Act.put, List.setIfInBounds_toArray, List.set_cons_succ, List.set_cons_zero]
              refine wpAnyH_take (i := 15) (oi := ⟨some 61, _, _, _, _, _⟩) (v := ?_) rfl (by kernel_rfl) (by kernel_rfl) (by kernel_rfl) (fun _ _ _ h => h) (Or.inl ⟨by rfl, fun w' hw' => by go_simp; with_reducible rfl⟩) HS13.out ?_
              simp only [Act.put, List.setIfInBounds_toArray, List.set_cons_succ, List.set_cons_zero]
              refine wpAnyH_all (rs := [16]) (by kernel_rfl) (by simp) ?_
              intro i hi
              obtain rfl : i = 16 := by simpa using hi
              refine wpOp_step (o := ⟨none, _, _, _, _, _⟩) rfl (fun K' hK' => ?_)
              rw [if_pos (show Region.wanted _ _ = true from rfl)]
              refine op_entryStore (.map (some w.heap.size)) (goInt st) (.int .i64 (up ca ((alikeOf x.1 y.1 : Nat) + 1))) rfl rfl rfl H6a.out ?_
              refine hK' _ _ ⟨HS6.out, ?_⟩
              clear hK' K'
              refine wpAnyH_all (rs := [17]) (by kernel_rfl) (by simp) ?_
              intro i hi
              obtain rfl : i = 17 := by simpa using hi
              refine wpOp_step (o := ⟨none, _, _, _, _, _⟩) rfl (fun K' hK' => ?_)
              rw [if_pos (show Region.wanted _ _ = true from rfl)]
              refine op_mapUpdate (.map (some w.heap.size)) (.agg (arr32 y.1)) (.int .i64 (up cb ((alikeOf x.1 y.1 : Nat) + 1))) rfl rfl rfl H7a.out ?_
              refine hK' _ _ ⟨HS7.out, ?_⟩
              clear hK' K'
              refine wpAnyH_done (by kernel_rfl) ?_ _
              go_wp2
              exact ⟨HFin.out _ (by go_num), by simp [intOf]; omega⟩
            · refine wpOp_step (o := ⟨some 57, _, _, _, _, _⟩) rfl (fun K' hK' => ?_)
              rw [if_pos (show Region.wanted _ _ = true from rfl)]
              refine op_lookup (.map (some w.heap.size)) (.agg (arr32 y.1)) (.int .i64 cb) rfl rfl HLb.out ?_
              refine hK' _ _ ⟨HS13.out, ?_⟩
              clear hK' K'
              simp only [Act.put, List.setIfInBounds_toArray, List.set_cons_succ, List.set_cons_zero]
              refine wpAnyH_take (i := 13) (oi := ⟨some 59, _, _, _, _, _⟩) (v := .int .i64 (up cb ((alikeOf x.1 y.1 : Nat) + 1))) rfl (by kernel_rfl) (by kernel_rfl) (by kernel_rfl) (fun _ _ _ h => h) ?y13 HS13.out ?_
              case y13 => exact yieldsIf_max cb ((alikeOf x.1 y.1 : Nat) + 1) rfl rfl
              simp only [Act.put, List.setIfInBounds_toArray, List.set_cons_succ, List.set_cons_zero]
              refine wpAnyH_all (rs := [6, 14]) (by kernel_rfl) (by simp) ?_
              intro i hi
              have hi2 : i = 6 ∨ i = 14 := by simpa using hi
              rcases hi2 with rfl | rfl
              · refine wpOp_step (o := ⟨some 52, _, _, _, _, _⟩) rfl (fun K' hK' => ?_)
                rw [if_pos (show Region.wanted _ _ = true from rfl)]
                refine op_lookup (.map (some w.heap.size)) (.agg (arr32 x.1)) (.int .i64 ca) rfl rfl HLa.out ?_
                refine hK' _ _ ⟨HS13.out, ?_⟩
                clear hK' K'
                simp only [Act.put, List.setIfInBounds_toArray, List.set_cons_succ, List.set_cons_zero]
                refine wpAnyH_take (i := 8) (oi := ⟨some 54, _, _, _, _, _⟩) (v := .int .i64 (up ca ((alikeOf x.1 y.1 : Nat) + 1))) rfl (by kernel_rfl) (by kernel_rfl) (by kernel_rfl) (fun _ _ _ h => h) ?y8 HS13.out ?_
                case y8 => exact yieldsIf_max ca ((alikeOf x.1 y.1 : Nat) + 1) rfl rfl
                simp only [Act.put, List.setIfInBounds_toArray, List.set_cons_succ, List.set_cons_zero]
                refine wpAnyH_all (rs := [14]) (by kernel_rfl) (by simp) ?_
                intro i hi
                obtain rfl : i = 14 := by simpa using hi
                refine wpOp_step (o := ⟨some 60, _, _, _, _, _⟩) rfl (fun K' hK' => ?_)
                rw [if_pos (show Region.wanted _ _ = true from rfl)]
                refine op_mapEntry (.map (some w.heap.size)) (.agg (arr32 x.1)) (.tuple #[v0, goInt st]) rfl rfl HMe.out ?_
                refine hK' _ _ ⟨HS13.out, ?_⟩
                clear hK' K'
                simp only [Act.put, List.setIfInBounds_toArray, List.set_cons_succ, List.set_cons_zero]
                refine wpAnyH_take (i := 15) (oi := ⟨some 61, _, _, _, _, _⟩) (v := ?_) rfl (by kernel_rfl) (by kernel_rfl) (by kernel_rfl) (fun _ _ _ h => h) (Or.inl ⟨by rfl, fun w' hw' => by go_simp; with_reducible rfl⟩) HS13.out ?_
                simp only [Act.put, List.setIfInBounds_toArray, List.set_cons_succ, List.set_cons_zero]
                refine wpAnyH_all (rs := [16]) (by kernel_rfl) (by simp) ?_
                intro i hi
                obtain rfl : i = 16 := by simpa using hi
                refine wpOp_step (o := ⟨none, _, _, _, _, _⟩) rfl (fun K' hK' => ?_)
                rw [if_pos (show Region.wanted _ _ = true from rfl)]
                refine op_entryStore (.map (some w.heap.size)) (goInt st) (.int .i64 (up ca ((alikeOf x.1 y.1 : Nat) + 1))) rfl rfl rfl H6a.out ?_
                refine hK' _ _ ⟨HS6.out, ?_⟩
                clear hK' K'
                refine wpAnyH_all (rs := [17]) (by kernel_rfl) (by simp) ?_
                intro i hi
                obtain rfl : i = 17 := by simpa using hi
                refine wpOp_step (o := ⟨none, _, _, _, _, _⟩) rfl (fun K' hK' => ?_)
                rw [if_pos (show Region.wanted _ _ = true from rfl)]
                refine op_mapUpdate (.map (some w.heap.size)) (.agg (arr32 y.1)) (.int .i64 (up cb ((alikeOf x.1 y.1 : Nat) + 1))) rfl rfl rfl H7a.out ?_
                refine hK' _ _ ⟨HS7.out, ?_⟩
                clear hK' K'
                refine wpAnyH_done (by kernel_rfl) ?_ _
                go_wp2
                exact ⟨HFin.out _ (by go_num), by simp [intOf]; omega⟩
              · refine wpOp_step (o := ⟨some 60, _, _, _, _, _⟩) rfl (fun K' hK' => ?_)
                rw [if_pos (show Region.wanted _ _ = true from rfl)]
                refine op_mapEntry (.map (some w.heap.size)) (.agg (arr32 x.1)) (.tuple #[v0, goInt st]) rfl rfl HMe.out ?_
                refine hK' _ _ ⟨HS13.out, ?_⟩
                clear hK' K'
                simp only [Act.put, List.setIfInBounds_toArray, List.set_cons_succ, List.set_cons_zero]
                refine wpAnyH_take (i := 15) (oi := ⟨some 61, _, _, _, _, _⟩) (v := ?_) rfl (by kernel_rfl) (by kernel_rfl) (by kernel_rfl) (fun _ _ _ h => h) (Or.inl ⟨by rfl, fun w' hw' => by go_simp; with_reducible rfl⟩) HS13.out ?_
                simp only [Act.put, List.setIfInBounds_toArray, List.set_cons_succ, List.set_cons_zero]
                refine wpAnyH_all (rs := [6]) (by kernel_rfl) (by simp) ?_
                intro i hi
                obtain rfl : i = 6 := by simpa using hi
                refine wpOp_step (o := ⟨some 52, _, _, _, _, _⟩) rfl (fun K' hK' => ?_)
                rw [if_pos (show Region.wanted _ _ = true from rfl)]
                refine op_lookup (.map (some w.heap.size)) (.agg (arr32 x.1)) (.int .i64 ca) rfl rfl HLa.out ?_
                refine hK' _ _ ⟨HS13.out, ?_⟩
                clear hK' K'
                simp only [Act.put, List.setIfInBounds_toArray, List.set_cons_succ, List.set_cons_zero]
                refine wpAnyH_take (i := 8) (oi := ⟨some 54, _, _, _, _, _⟩) (v := .int .i64 (up ca ((alikeOf x.1 y.1 : Nat) + 1))) rfl (by kernel_rfl) (by kernel_rfl) (by kernel_rfl) (fun _ _ _ h => h) ?y8 HS13.out ?_
                case y8 => exact yieldsIf_max ca ((alikeOf x.1 y.1 : Nat) + 1) rfl rfl
                simp only [Act.put, List.setIfInBounds_toArray, List.set_cons_succ, List.set_cons_zero]
                refine wpAnyH_all (rs := [16]) (by kernel_rfl) (by simp) ?_
                intro i hi
                obtain rfl : i = 16 := by simpa using hi
                refine wpOp_step (o := ⟨none, _, _, _, _, _⟩) rfl (fun K' hK' => ?_)
                rw [if_pos (show Region.wanted _ _ = true from rfl)]
                refine op_entryStore (.map (some w.heap.size)) (goInt st) (.int .i64 (up ca ((alikeOf x.1 y.1 : Nat) + 1))) rfl rfl rfl H6a.out ?_
                refine hK' _ _ ⟨HS6.out, ?_⟩
                clear hK' K'
                refine wpAnyH_all (rs := [17]) (by kernel_rfl) (by simp) ?_
                intro i hi
                obtain rfl : i = 17 := by simpa using hi
                refine wpOp_step (o := ⟨none, _, _, _, _, _⟩) rfl (fun K' hK' => ?_)
                rw [if_pos (show Region.wanted _ _ = true from rfl)]
                refine op_mapUpdate (.map (some w.heap.size)) (.agg (arr32 y.1)) (.int .i64 (up cb ((alikeOf x.1 y.1 : Nat) + 1))) rfl rfl rfl H7a.out ?_
                refine hK' _ _ ⟨HS7.out, ?_⟩
                clear hK' K'
                refine wpAnyH_done (by kernel_rfl) ?_ _
                go_wp2
                exact ⟨HFin.out _ (by go_num), by simp [intOf]; omega⟩
        · have hkm : k = max 1 ys.length := by omega
          rw [hkm] at hM
          obtain ⟨D, hD⟩ : ∃ D, D = raiseTo rs (needOf ls) (max 1 ys.length) := ⟨_, rfl⟩
          rw [← hD] at hM
          obtain ⟨i1, hi1, hq0, hq1, hq2⟩ := info_parts intInfo3
          have hmlt : w.heap.size < wr.heap.size := hM.lt
          have hbs := hB.size
          have HM := Lib.hid hM
          have HB := Lib.hid hB
          have HDD := Lib.hid hD
          clear hM hO hB HH hD hkm hk1 hk2
          go_wp2_with (at_make; refine wpList_make_row _ rfl _ _ 68 rfl 3 i1 (.int .i64 0) Tryd.underlying68 hi1 hq0 hq1 rfl .i64 .i64 ls.length rfl rfl (by rw [hq2]; omega) (by omega) ?_)
          have HG : Hid (Has (wr.alloc (.cells (madeCells #[.int .i64 0] ls.length) 3)) wr.heap.size 3 (madeCells #[.int .i64 0] ls.length)) := Lib.hid (Has.fresh wr _ _)
          have HMA := Lib.hid (HM.out.alloc (.cells (madeCells #[.int .i64 0] ls.length) 3))
          have HBA := Lib.hid (HB.out.alloc HB.out.size (.cells (madeCells #[.int .i64 0] ls.length) 3))
          generalize hG : wr.heap.size = G at HG hmlt hbs ⊢
          clear hG HM HB
          go_loopw [67] (fun i wr3 => ∃ (k3 : Nat) (cs : Array Value), k3 ≤ ls.length ∧ i = .int .i64 k3 ∧ cs.size = ls.length ∧ Has wr3 G 3 cs ∧ Hid (∀ j x, j < k3 → ls[j]? = some x → cs[j]? = some (.int .i64 (getN D (sumLit x.1)))) ∧ wr3.ownsMap Tryd.prog 26 elemN w.heap.size (ls.length + 2 * max 1 ys.length) D ∧ Go.RowKit.Below w.heap.size w wr3) (fun i _ => ls.length - (intOf i).toNat)
          case atStart => exact ⟨0, _, Nat.zero_le _, rfl, size_madeCells _ _, HG.out, Lib.hid (fun j x hj => by omega), HMA.out, HBA.out⟩
          case round =>
            obtain ⟨k3, cs, hk3, rfl, hcs, hR, HV, hM, hB⟩ := hrel
            by_cases hlt : k3 < ls.length
            · obtain ⟨x, hx⟩ : ∃ x, ls[k3]? = some x := ⟨_, List.getElem?_eq_getElem hlt⟩
              have hx2 : (ls.map (·.1))[k3]? = some x.1 := by rw [List.getElem?_map, hx]; rfl
              have hxl := x.2.1
              have HRow := Lib.hid ((HS.out.below hg hB).row hx2)
              have HI := Lib.hid (arr32_info x.1 (by omega))
              have HSz := Lib.hid (zero32_size x.1 (by omega))
              have HF := Lib.hid (fresh_sum wr)
              have hml : w.heap.size < wr.heap.size := hM.lt
              have hgl := hR.lt
              have HR := Lib.hid hR
              have HM := Lib.hid hM
              have HB := Lib.hid hB
              have HKey := Lib.hid (sum_keyOf x.1 x.2.1 x.2.2)
              have HX := Lib.hid hx
              obtain ⟨u0, hu0⟩ : ∃ u0, cs[k3]? = some u0 := ⟨_, Array.getElem?_eq_getElem (by omega)⟩
              have HU := Lib.hid hu0
              clear hM hB hR hx hx2 hu0
              go_upto_region 18 with (first
                | ((with_reducible refine arm_load (w := wr) ⟨g, off + k3 * 32, none⟩ _ _ HRow.out Tryd.underlying26 HI.out ?h1 ?h2 ?_); (case h1 => rfl); (case h2 => rfl))
                | ((with_reducible refine arm_store wr.heap.size (arr32 x.1) 26 zero32 HF.out HSz.out HI.out (arr32_one _) ?h5 ?h6 ?_); (case h5 => rfl); (case h6 => rfl)))
              refine gen_world (P := fun W => Code.wp _ _ _ _ W) (I := fun V => Go.RowKit.Below wr.heap.size wr V ∧ Has V wr.heap.size 26 (arr32 x.1)) _ ⟨below_setRow ((Go.RowKit.Below.refl _ wr).alloc (Nat.le_refl _) _) (Nat.le_refl _) _, HF.out.setRow⟩ ?_
              rintro V ⟨hBV, hXV⟩
              have hRV : Has V G 3 cs := HR.out.below hBV hgl
              have c0 : V.cell? ⟨G, k3, none⟩ = some u0 := (hRV.cell k3).trans HU.out
              have f0 : V.frozen? ⟨G, k3, none⟩ = false := hRV.free k3
              have HRV := Lib.hid hRV
              have HMV := Lib.hid (ownsMap_same HM.out (hBV.block _ hml))
              have HBV := Lib.hid (HB.out.trans (hBV.mono HB.out.size))
              have HXV := Lib.hid hXV.row
              clear hBV hXV hRV
              go_wp2_with (first
                | ((with_reducible refine arm_load (w := V) ⟨wr.heap.size, 0, none⟩ _ _ HXV.out Tryd.underlying26 HI.out ?h3 ?h4 ?_); (case h3 => rfl); (case h4 => rfl))
                | (at_lookup; refine wpList_lookup_own_int _ rfl _ _ 114 rfl 26 3 .i64 sum_keyed Tryd.underlying114 Tryd.underlying3 (Tryd.zeroValue3 _) w.heap.size _ D rfl HMV.out _ (sumLit x.1) rfl HKey.out ?_; intro cx hatx hwx; have HAt := Lib.hid hatx; clear hatx hwx))
              have hget : getN D (sumLit x.1) = cx := by unfold getN litN; rw [HAt.out]
              refine ⟨⟨k3 + 1, cs.setIfInBounds k3 (.int .i64 cx), by omega, by go_num, by simpa using hcs, HRV.out.put k3 _, Lib.hid (fun j y hj hy => ?_), ownsMap_same HMV.out ?_, HBV.out.setCell (by simp; omega) _⟩, by simp [intOf]; omega⟩
              · by_cases hjk : j = k3
                · subst hjk
                  rw [HX.out] at hy
                  cases hy
                  rw [Array.getElem?_setIfInBounds_self_of_lt (by omega), hget]
                · rw [Array.getElem?_setIfInBounds_ne (Ne.symm hjk)]
                  exact HV.out j y (by omega) hy
              · exact Below.heap_setCell _ _ _ _ (by simp; omega)
            · obtain rfl : k3 = ls.length := by omega
              have HR := Lib.hid hR
              have HM := Lib.hid hM
              have HB := Lib.hid hB
              have hgl := hR.lt
              clear hM hB hR
              go_wp2
              go_ret
              refine ⟨_, ys, rfl, HSY.out, ?_, HB.out⟩
              have hcl : cs.toList = ls.map fun x => .int .i64 (getN (raiseTo (rising ys) (needOf ls) (max 1 ys.length)) (sumLit x.1)) := by
                apply List.ext_getElem? 
                intro j
                by_cases hj : j < ls.length
                · rw [Array.getElem?_toList, HV.out j ls[j] hj (List.getElem?_eq_getElem hj), List.getElem?_map, List.getElem?_eq_getElem hj, HDD.out, HRs.out]
                  rfl
                · rw [List.getElem?_eq_none (by simpa [hcs] using hj), List.getElem?_eq_none (by simpa using hj)]
              refine ⟨by simp, .inr ⟨G, ls.length, cs, rfl, by omega, HR.out, Nat.le_refl _, by unfold maxLen; omega, by omega, ?_⟩⟩
              rw [← hcl, Nat.mul_one, ← hcs, ← Array.length_toList, List.take_length]
end Go.Proofs.YtffdkniahdekjaaDoor
end
section
namespace Go.Proofs.YtffdkniahdekjaaDoor
open Go.RowKit Go.Hoar Go.Maps Go.Shelf Go.Sort
theorem sumLit_inj {x y : Dig} (h : sumLit x.1 = sumLit y.1) : x = y := by
  apply Subtype.ext
  have h2 : x.1.map UInt8.ofNat = y.1.map UInt8.ofNat := by
    unfold sumLit at h
    injection h
  have hl : x.1.length = y.1.length := by rw [x.2.1, y.2.1]
  apply List.ext_getElem hl
  intro i h1 h2'
  have h3 := congrArg (fun z => z[i]?) h2
  simp only [List.getElem?_map, List.getElem?_eq_getElem h1, List.getElem?_eq_getElem h2', Option.map_some, Option.some.injEq] at h3
  have a1 := x.2.2 _ (List.getElem_mem h1)
  have a2 := y.2.2 _ (List.getElem_mem h2')
  have h4 := congrArg UInt8.toNat h3
  simpa [Nat.mod_eq_of_lt a1, Nat.mod_eq_of_lt a2] using h4
theorem sumKey (x : Dig) : WideAt.IsKeyLit (sumLit x.1) := sum_keyed.key (sum_keyOf x.1 x.2.1 x.2.2)
theorem needFold_at (x : Dig) : ∀ (xs : List Dig) (D : Need), IsMap D → (x ∈ xs ∨ D.atKey (sumLit x.1) (litN 0) = litN 1) → (xs.foldl (fun D y => D.put (sumLit y.1) (litN 1)) D).atKey (sumLit x.1) (litN 0) = litN 1
  | [], D, _, h => by simpa using h
  | y :: xs, D, hD, h => by
    rw [List.foldl_cons]
    refine needFold_at x xs _ (hD.put _ _) ?_
    by_cases e : sumLit x.1 = sumLit y.1
    · exact .inr (by rw [e]; exact atKey_put_same hD (sumKey y) _ _)
    · rcases h with h | h
      · rcases List.mem_cons.1 h with rfl | h
        · exact absurd rfl e
        · exact .inl h
      · exact .inr (by rw [atKey_put_other e]; exact h)
theorem needOf_isMap (xs : List Dig) : IsMap (needOf xs) := by
  unfold needOf
  have : ∀ (xs : List Dig) (D : Need), IsMap D → IsMap (xs.foldl (fun D y => D.put (sumLit y.1) (litN 1)) D) := by
    intro xs
    induction xs with
    | nil => intro D h; exact h
    | cons y xs ih => intro D h; exact ih _ (h.put _ _)
  exact this xs _ isMap_empty
theorem needOf_has (xs : List Dig) (d : Dig) (h : Maps.has (needOf xs) (sumLit d.1) = true) : d ∈ xs := by
  have hf := has_fold (litN 1) (sumLit d.1) (xs.map fun x : Dig => sumLit x.1) (.map [] : Need) isMap_empty (fun l hl => by
    obtain ⟨x, _, rfl⟩ := List.mem_map.1 hl
    exact sumKey x)
  rw [List.foldl_map] at hf
  unfold needOf at h
  rw [hf] at h
  have h0 : Maps.has (.map [] : Need) (sumLit d.1) = false := rfl
  rw [h0, Bool.false_or, List.any_eq_true] at h
  obtain ⟨l, hl, hs⟩ := h
  obtain ⟨x, hx, rfl⟩ := List.mem_map.1 hl
  by_cases e : sumLit x.1 = sumLit d.1
  · rw [← sumLit_inj e]
    exact hx
  · rw [sameKey_ne e] at hs
    cases hs
theorem raise_isMap {D : Need} (h : IsMap D) (x y : Dig) : IsMap (raise D x y) := (h.put _ _).put _ _
/-- Where no two digests of a list have a digit alike ahead of the first that differs, each is named by one digit. -/
theorem short_ones (ls ys : List Dig) (hk : KeysOfMap (needOf ls) ys) (h : ∀ x ∈ ls, ∀ y ∈ ls, x ≠ y → alikeOf x.1 y.1 = 0) :
    ∀ m, m ≤ max 1 ys.length → IsMap (raiseTo (rising ys) (needOf ls) m) ∧ ∀ x ∈ ls, (raiseTo (rising ys) (needOf ls) m).atKey (sumLit x.1) (litN 0) = litN 1
  | 0, _ => ⟨needOf_isMap ls, fun x hx => needFold_at x ls _ isMap_empty (.inl hx)⟩
  | m + 1, hm => by
    obtain ⟨i1, i2⟩ := short_ones ls ys hk h m (by omega)
    rw [raiseTo]
    split
    · exact ⟨needOf_isMap ls, fun x hx => needFold_at x ls _ isMap_empty (.inl hx)⟩
    · next hm0 =>
      have hrl := rising_len ys
      have hperm : (rising ys).Perm ys := List.mergeSort_perm _ _
      have hnd : (rising ys).Nodup := hperm.nodup_iff.2 hk.1
      have g1 : (rising ys).getD (m - 1) default = (rising ys)[m - 1]'(by omega) := by rw [List.getD_eq_getElem?_getD, List.getElem?_eq_getElem (by omega)]; rfl
      have g2 : (rising ys).getD m default = (rising ys)[m]'(by omega) := by rw [List.getD_eq_getElem?_getD, List.getElem?_eq_getElem (by omega)]; rfl
      rw [g1, g2]
      generalize hx0 : (rising ys)[m - 1]'(by omega) = x0
      generalize hy0 : (rising ys)[m]'(by omega) = y0
      have hne : x0 ≠ y0 := fun e => by
        have := (List.getElem_inj hnd).1 (hx0.trans (e.trans hy0.symm))
        omega
      have mx : x0 ∈ ls := needOf_has ls x0 ((hk.2.1 x0).1 (hperm.mem_iff.1 (hx0 ▸ List.getElem_mem _)))
      have my : y0 ∈ ls := needOf_has ls y0 ((hk.2.1 y0).1 (hperm.mem_iff.1 (hy0 ▸ List.getElem_mem _)))
      have ha := h x0 mx y0 my hne
      have e1 : getN (raiseTo (rising ys) (needOf ls) m) (sumLit x0.1) = 1 := by unfold getN; rw [i2 x0 mx]; rfl
      have e2 : getN (raiseTo (rising ys) (needOf ls) m) (sumLit y0.1) = 1 := by unfold getN; rw [i2 y0 my]; rfl
      refine ⟨raise_isMap i1 _ _, fun x hx => ?_⟩
      have hup : up 1 (((0 : Nat) : Int) + 1) = 1 := rfl
      unfold raise
      rw [e1, e2, ha, hup]
      by_cases ey : sumLit x.1 = sumLit y0.1
      · rw [ey]
        exact atKey_put_same (i1.put _ _) (sumKey y0) _ _
      · rw [atKey_put_other ey]
        by_cases ex : sumLit x.1 = sumLit x0.1
        · rw [ex]
          exact atKey_put_same i1 (sumKey x0) _ _
        · rw [atKey_put_other ex]
          exact i2 x hx
end Go.Proofs.YtffdkniahdekjaaDoor
end
section
namespace Go.Proofs.YtffdkniahdekjaaDoor
open Go.RowKit Go.Hoar Go.Shelf
theorem sums_neqAt : NeqAt Tryd.prog 26 (fun x : Dig => .agg (cellsOf x.1).toArray) (fun x y => decide (x = y)) :=
  ⟨fun x y w => by
    have e : decide (x.1 = y.1) = decide (x = y) := decide_eq_decide.2 ⟨Subtype.ext, fun e => by rw [e]⟩
    dsimp only
    rw [← e]
    exact sum_neq x.1 y.1 x.2.1 y.2.1 w, GuardAt.agg (fun x : Dig => (cellsOf x.1).toArray) sum_guard⟩
theorem allEq_dec {α : Type} [DecidableEq α] : ∀ xs ys : List α, Lib.allEq (fun x y => decide (x = y)) xs ys = decide (xs = ys)
  | [], [] => rfl
  | [], _ :: _ => rfl
  | _ :: _, [] => rfl
  | x :: xs, y :: ys => by
    rw [Lib.allEq, allEq_dec xs ys]
    simp [List.cons.injEq]
theorem sums_equal (xs ys : List Dig) (b1 o1 c b2 o2 d : Nat) (w : World) (hx : SumsAt w b1 o1 (xs.map (·.1))) (hy : SumsAt w b2 o2 (ys.map (·.1))) (lx : xs.length ≤ 1000000) (ly : ys.length ≤ 1000000) :
    Calls Tryd.prog 37 #[.slice (some ⟨b1, o1, none⟩) xs.length c, .slice (some ⟨b2, o2, none⟩) ys.length d] w fun e w' => e = .returned (.bool (decide (xs = ys))) ∧ ∃ q, w' = w.drewN q := by
  have hrow : ∀ (zs : List Dig) (b o : Nat), SumsAt w b o (zs.map (·.1)) → ∀ j, j < zs.length → ∀ i v, (cellsOf zs[j]!.1)[i]? = some v → w.cell? ⟨b, o + j * 32 + i, none⟩ = some v := fun zs b o h j hj i v hv => by
    have hz : (zs.map (·.1))[j]? = some zs[j]!.1 := by rw [List.getElem?_map, List.getElem?_eq_getElem hj, getElem!_pos zs j hj]; rfl
    have := h.row hz i v (by rw [← Array.getElem?_toList]; exact hv)
    rwa [Addr.add_lit] at this
  have h := AnyQ.slices_Equal Tryd.equalSum 32 Tryd.isAgg26 Tryd.sizeOf26 (fun x : Dig => cellsOf x.1) (fun x => by have := arr32_size x.1 (by have := x.2.1; omega); simpa [cellsOf] using this) (fun x y => decide (x = y)) sums_neqAt b1 o1 xs.length c b2 o2 ys.length d xs ys w (Nat.le_refl _) (Nat.le_refl _) (by omega) (by omega) (hrow xs b1 o1 hx) (hrow ys b2 o2 hy)
  rw [List.take_length, List.take_length, allEq_dec] at h
  exact h
end Go.Proofs.YtffdkniahdekjaaDoor
end
section
namespace Go.Hoar
open Go Go.RowKit
/-- A slice literal of arrays or structs, in the form of an arm. -/
theorem arm_slices {P : Program} {ops : Array Oper} {rest : List Oper} {a : Act} {w : World} {Q : Exit → Act → World → Prop} {dst : Option Tmp} {t T : TypeId} {xs : Array (Nat × Operand)} {n : Nat} {pos : String} {af : Array Edge}
    (e : TypeId) (ie : TypeInfo) (z : Value) (css : List (Array Value)) (hu : P.underlying t = some (.slice e)) (hie : P.info? e = some ie) (hz : ie.zero = some z) (hsz : ∀ c ∈ css, c.size = ie.size) (hn : n = css.length) (hsmall : n * ie.size ≤ 1000) (hpos : 0 < n * ie.size)
    (hx : (xs.map fun (i, x) => (i, a.eval x)).toList = (css.zipIdx 0).map fun x => (x.2, Value.agg x.1)) (h : wpList P ops Q rest (a.put dst (.slice (some ⟨w.heap.size, 0, none⟩) n n)) (w.alloc (.cells (css.flatMap Array.toList).toArray e))) :
    wpList P ops Q (⟨dst, .buildSlice t n xs, T, pos, af, none⟩ :: rest) a w := by
  refine wpList_buildSlice rfl t e n _ rfl _ ie z hu hie hz (by omega) (by omega) ?_ h
  have ht : ∀ A : Array Value, A.toList.toArray = A := fun A => by simp
  have hf := fill_rows ie.size css 0 [] ((Array.range (n * ie.size)).map (z.cells[· % z.cells.size]!)).toList hsz (by simp [hn]) (by simp)
  rw [hx]
  rw [List.nil_append, ht] at hf
  rw [hf]
  simp
theorem arm_slice3 {P : Program} {ops : Array Oper} {rest : List Oper} {a : Act} {w : World} {Q : Exit → Act → World → Prop} {dst : Option Tmp} {t T : TypeId} {x0 x1 x2 : Operand} {pos : String} {af : Array Edge}
    (e : TypeId) (ie : TypeInfo) (z : Value) (c0 c1 c2 : Array Value) (hu : P.underlying t = some (.slice e)) (hie : P.info? e = some ie) (hz : ie.zero = some z) (h0 : c0.size = ie.size) (h1 : c1.size = ie.size) (h2 : c2.size = ie.size) (hsmall : ie.size ≤ 300) (hpos : 0 < ie.size)
    (e0 : a.eval x0 = .agg c0) (e1 : a.eval x1 = .agg c1) (e2 : a.eval x2 = .agg c2) (h : wpList P ops Q rest (a.put dst (.slice (some ⟨w.heap.size, 0, none⟩) 3 3)) (w.alloc (.cells ([c0, c1, c2].flatMap Array.toList).toArray e))) :
    wpList P ops Q (⟨dst, .buildSlice t 3 #[(0, x0), (1, x1), (2, x2)], T, pos, af, none⟩ :: rest) a w :=
  arm_slices e ie z [c0, c1, c2] hu hie hz (fun c hc => by
    simp only [List.mem_cons, List.not_mem_nil, or_false] at hc
    rcases hc with rfl | rfl | rfl
    · exact h0
    · exact h1
    · exact h2) rfl (by omega) (by omega) (by simp [e0, e1, e2, List.zipIdx]) h
end Go.Hoar
namespace Go.Proofs.YtffdkniahdekjaaDoor
open Go.RowKit Go.Hoar Go.Maps Go.Shelf
theorem part_mark (V : World) (t : TypeId) (fr : Nat × Nat) (bs : List Nat) : PartOk (V.alloc (.cells (bs.map BV).toArray t fr)) (some ⟨V.heap.size, 0, none⟩) bs.length bs :=
  .inr ⟨_, 0, rfl, by simp, fun i hi => by
    rw [Nat.zero_add, World.cell?_alloc_mark, List.getElem?_toArray, List.getElem?_map, List.getD_eq_getElem?_getD, List.getElem?_eq_getElem hi]
    exact Eq.refl _⟩
theorem of_one (x : Nat) (hx : x < 256) (V : World) (hc : ConstAt V) (out : List Nat) (hout : Hid (out = Sha.sha [x])) :
    Calls Tryd.prog 17 #[.slice (some ⟨V.heap.size, 0, none⟩) 1 1] (V.alloc (.cells #[.int .u8 (x : Int)] 5 (1, 2))) fun e w' => e = .returned (.agg (arr32 out)) ∧ out.length = 32 ∧ Below V.heap.size V w' := by
  have hb : Below V.heap.size V (V.alloc (.cells #[.int .u8 (x : Int)] 5 (1, 2))) := (Below.refl _ V).alloc (Nat.le_refl _) _
  refine (of_any [x] (some ⟨V.heap.size, 0, none⟩) 1 _ (part_mark V 5 (1, 2) [x]) (fun y hy => by rw [List.mem_singleton.1 hy]; exact hx) (by simp) (fun _ _ _ => ⟨Nat.le_refl _, by decide⟩) (hc.below hb rfl) out hout).mono ?_
  rintro e w' ⟨rfl, hl, hb2⟩
  exact ⟨rfl, hl, hb.trans (hb2.mono hb.size)⟩
theorem const_setRow {w w0 : World} {g : Nat} {t : TypeId} {old : Array Value} (h : ConstAt w) (_hg : Has w g t old) (h0 : ConstAt w0) (hg0 : w0.heap.size ≤ g) (cs : Array Value) : ConstAt (w.setRow g cs) := fun i hi => by
  have hlt := block_lt_of_cell (h0 i hi)
  have hc := h i hi
  rw [← hc]
  exact World.cell?_of_block (setRow_heap_other w g _ cs (by simp at hlt ⊢; omega))
theorem sums_of_has {V : World} {g : Nat} (ls : List Dig) (h : Has V g 26 (digCells ls).toArray) : SumsAt V g 0 (ls.map (·.1)) := fun i l hi => by
  rw [List.getElem?_map] at hi
  obtain ⟨x, hx, rfl⟩ := Option.map_eq_some_iff.1 hi
  refine ⟨x.2.1, x.2.2, fun j hj => ?_⟩
  rw [Nat.zero_add, h.cell, List.getElem?_toArray]
  exact digCells_at ls i x hx j _ (arr32_get x.1 x.2.1 j hj)
theorem of_nil (V : World) (hc : ConstAt V) (out : List Nat) (hout : Hid (out = Sha.sha [])) :
    Calls Tryd.prog 17 #[.slice none 0 0] V fun e w' => e = .returned (.agg (arr32 out)) ∧ out.length = 32 ∧ Below V.heap.size V w' :=
  of_any [] none 0 V (.inl ⟨rfl, rfl, rfl⟩) (fun y hy => by cases hy) (by simp) (fun _ _ h => by cases h) hc out hout
theorem hex_nil (V : World) (d : List Nat) (hd : Hid (d = Sha.sha [])) : Calls Tryd.prog 28 #[.agg (arr32 d)] V fun e w' => e = .returned (.string ⟨#[101, 51, 98, 48, 99, 52, 52, 50, 57, 56, 102, 99, 49, 99, 49, 52, 57, 97, 102, 98, 102, 52, 99, 56, 57, 57, 54, 102, 98, 57, 50, 52, 50, 55, 97, 101, 52, 49, 101, 52, 54, 52, 57, 98, 57, 51, 52, 99, 97, 52, 57, 53, 57, 57, 49, 98, 55, 56, 53, 50, 98, 56, 53, 53]⟩) ∧ Below V.heap.size V w' := by
  have h := sha_bytes []
  rw [← hd.out] at h
  have e : ((hexOf d).map UInt8.ofNat).toArray = (#[101, 51, 98, 48, 99, 52, 52, 50, 57, 56, 102, 99, 49, 99, 49, 52, 57, 97, 102, 98, 102, 52, 99, 56, 57, 57, 54, 102, 98, 57, 50, 52, 50, 55, 97, 101, 52, 49, 101, 52, 54, 52, 57, 98, 57, 51, 52, 99, 97, 52, 57, 53, 57, 57, 49, 98, 55, 56, 53, 50, 98, 56, 53, 53] : Array UInt8) := by
    rw [hd.out]
    decide +kernel
  rw [← e]
  exact hex_any d h.1 h.2 V
theorem of_abc (V : World) (hc : ConstAt V) (out : List Nat) (hout : Hid (out = Sha.sha [97, 98, 99])) :
    Calls Tryd.prog 17 #[.slice (some ⟨V.heap.size, 0, none⟩) 3 3] (V.alloc (.cells #[.int .u8 97, .int .u8 98, .int .u8 99] 5 (3, 4))) fun e w' => e = .returned (.agg (arr32 out)) ∧ out.length = 32 ∧ Below V.heap.size V w' := by
  have hb : Below V.heap.size V (V.alloc (.cells #[.int .u8 97, .int .u8 98, .int .u8 99] 5 (3, 4))) := (Below.refl _ V).alloc (Nat.le_refl _) _
  refine (of_any [97, 98, 99] (some ⟨V.heap.size, 0, none⟩) 3 _ (part_mark V 5 (3, 4) [97, 98, 99]) (fun y hy => by simp at hy; omega) (by simp) (fun _ _ _ => ⟨Nat.le_refl _, by decide⟩) (hc.below hb rfl) out hout).mono ?_
  rintro e w' ⟨rfl, hl, hb2⟩
  exact ⟨rfl, hl, hb.trans (hb2.mono hb.size)⟩
theorem hex_abc (V : World) (d : List Nat) (hd : Hid (d = Sha.sha [97, 98, 99])) : Calls Tryd.prog 28 #[.agg (arr32 d)] V fun e w' => e = .returned (.string ⟨#[98, 97, 55, 56, 49, 54, 98, 102, 56, 102, 48, 49, 99, 102, 101, 97, 52, 49, 52, 49, 52, 48, 100, 101, 53, 100, 97, 101, 50, 50, 50, 51, 98, 48, 48, 51, 54, 49, 97, 51, 57, 54, 49, 55, 55, 97, 57, 99, 98, 52, 49, 48, 102, 102, 54, 49, 102, 50, 48, 48, 49, 53, 97, 100]⟩) ∧ Below V.heap.size V w' := by
  have h := sha_bytes [97, 98, 99]
  rw [← hd.out] at h
  have e : ((hexOf d).map UInt8.ofNat).toArray = (#[98, 97, 55, 56, 49, 54, 98, 102, 56, 102, 48, 49, 99, 102, 101, 97, 52, 49, 52, 49, 52, 48, 100, 101, 53, 100, 97, 101, 50, 50, 50, 51, 98, 48, 48, 51, 54, 49, 97, 51, 57, 54, 49, 55, 55, 97, 57, 99, 98, 52, 49, 48, 102, 102, 54, 49, 102, 50, 48, 48, 49, 53, 97, 100] : Array UInt8) := by
    rw [hd.out]
    decide +kernel
  rw [← e]
  exact hex_any d h.1 h.2 V
/-- No two of the three digests have a digit alike ahead of the first that differs. -/
theorem three_apart (xa xb xc : Dig) (ha : xa.1 = Sha.sha [97]) (hb : xb.1 = Sha.sha [98]) (hc : xc.1 = Sha.sha [99]) : ∀ x ∈ [xa, xb, xc], ∀ y ∈ [xa, xb, xc], x ≠ y → alikeOf x.1 y.1 = 0 := by
  have h1 : alikeOf (Sha.sha [97]) (Sha.sha [98]) = 0 ∧ alikeOf (Sha.sha [98]) (Sha.sha [97]) = 0 ∧ alikeOf (Sha.sha [97]) (Sha.sha [99]) = 0 ∧ alikeOf (Sha.sha [99]) (Sha.sha [97]) = 0 ∧ alikeOf (Sha.sha [98]) (Sha.sha [99]) = 0 ∧ alikeOf (Sha.sha [99]) (Sha.sha [98]) = 0 := by decide +kernel
  intro x hx y hy hne
  simp only [List.mem_cons, List.not_mem_nil, or_false] at hx hy
  rcases hx with rfl | rfl | rfl <;> rcases hy with rfl | rfl | rfl <;> first | exact absurd rfl hne | simp [ha, hb, hc, h1]
/-- One digit each. -/
theorem short_three (xa xb xc : Dig) (ha : xa.1 = Sha.sha [97]) (hb : xb.1 = Sha.sha [98]) (hc : xc.1 = Sha.sha [99]) (V : World) (q : Nat) (hs : SumsAt V q 0 ([xa, xb, xc].map (·.1))) (hq : q < V.heap.size) :
    Calls Tryd.prog 44 #[.slice (some ⟨q, 0, none⟩) 3 3] V fun e w' => ∃ v, e = .returned v ∧ w'.ownsRow V.heap.size 3 1 v 3 [.int .i64 1, .int .i64 1, .int .i64 1] ∧ Below V.heap.size V w' := by
  refine (short_any [xa, xb, xc] q 0 3 V hs hq (Nat.le_refl _) (by decide) (by simp)).mono ?_
  rintro e w' ⟨v, ys, rfl, hk, ho, hb2⟩
  have h := (short_ones [xa, xb, xc] ys hk (three_apart xa xb xc ha hb hc) (max 1 ys.length) (Nat.le_refl _)).2
  have g : ∀ x ∈ [xa, xb, xc], getN (raiseTo (rising ys) (needOf [xa, xb, xc]) (max 1 ys.length)) (sumLit x.1) = 1 := fun x hx => by unfold getN; rw [h x hx]; rfl
  refine ⟨v, rfl, ?_, hb2⟩
  have e : ([xa, xb, xc].map fun x => Value.int .i64 (getN (raiseTo (rising ys) (needOf [xa, xb, xc]) (max 1 ys.length)) (sumLit x.1))) = [.int .i64 1, .int .i64 1, .int .i64 1] := by
    simp only [List.map_cons, List.map_nil, g xa (by simp), g xb (by simp), g xc (by simp)]
  rw [← e]
  exact ho
theorem ones_equal (u : World) (base g c : Nat) (ho : u.ownsRow base 3 1 (.slice (some ⟨g, 0, none⟩) 3 c) 3 [.int .i64 1, .int .i64 1, .int .i64 1]) :
    Calls Tryd.prog 47 #[.slice (some ⟨g, 0, none⟩) 3 c, .slice (some ⟨u.heap.size, 0, none⟩) 3 3] (u.alloc (.cells #[.int .i64 1, .int .i64 1, .int .i64 1] 3)) fun e w' => e = .returned (.bool true) ∧ Below u.heap.size u w' := by
  have hg := (ho.lt g rfl).2
  refine (Tryd.slices_Equal_int g 0 3 c u.heap.size 0 3 3 [1, 1, 1] [1, 1, 1] _ (by decide) (by decide) (by decide) (by decide) (fun j hj => ?_) (fun j hj => ?_)).mono ?_
  · have h := ho.cells (g := g) rfl j (.int .i64 ([1, 1, 1].getD j 0)) (by
      have : j = 0 ∨ j = 1 ∨ j = 2 := by simp at hj; omega
      rcases this with rfl | rfl | rfl <;> rfl)
    rw [Addr.add_lit] at h
    exact (World.cell?_alloc_lt _ _ _ hg).trans h
  · have : j = 0 ∨ j = 1 ∨ j = 2 := by simp at hj; omega
    have h := (Has.fresh u 3 #[.int .i64 1, .int .i64 1, .int .i64 1]).cell j
    rw [Nat.zero_add, h]
    rcases this with rfl | rfl | rfl <;> rfl
  · rintro e w' ⟨rfl, q, rfl⟩
    have h : Below u.heap.size u (u.alloc (.cells #[.int .i64 1, .int .i64 1, .int .i64 1] 3)) := (Below.refl _ u).alloc (Nat.le_refl _) _
    exact ⟨rfl, h.os, h.tape, h.output, h.size, h.block⟩
theorem convert_bytes (C : Array Value) (n c : Nat) (w : World) : (convert 22 22 (.slice (some ⟨w.heap.size, 0, none⟩) n c)).run Tryd.prog (w.alloc (.cells C 5)) = .ok (.slice (some ⟨w.heap.size, 0, none⟩) n c) (w.alloc (.cells C 5 (C.size, C.size + 1))) :=
  Lib.run_convert_bytes_const w _ _ C n c Tryd.underlying22 Tryd.underlying5
end Go.Proofs.YtffdkniahdekjaaDoor
end
section
namespace Go.Proofs.YtffdkniahdekjaaDoor
open Go.RowKit Go.Hoar Go.Shelf
theorem bytesIn_part {w : World} {a : Option Addr} {c : Nat} {bs : List Nat} (h : PartOk w a c bs) : Lib.BytesIn w a bs.length (bs.map fun n : Nat => (n : Int)) := by
  rcases h with ⟨rfl, rfl, _⟩ | ⟨g, off, rfl, _, hb⟩
  · exact Lib.BytesIn.nil _ _ _
  · exact Lib.BytesIn.of_cells fun i hi => by
      rw [Addr.add_lit, hb i hi, List.getD_eq_getElem?_getD, List.getD_eq_getElem?_getD, List.getElem?_map]
      cases bs[i]? <;> rfl
theorem bytesOf_eq : ∀ (xs ys : List Nat), Sha.Bytes xs → Sha.Bytes ys → (Lib.bytesOf (xs.map fun n : Nat => (n : Int)) == Lib.bytesOf (ys.map fun n : Nat => (n : Int))) = decide (xs = ys)
  | [], [], _, _ => rfl
  | [], _ :: _, _, _ => rfl
  | _ :: _, [], _, _ => rfl
  | x :: xs, y :: ys, hx, hy => by
    have ih := bytesOf_eq xs ys (fun z hz => hx z (List.mem_cons_of_mem _ hz)) (fun z hz => hy z (List.mem_cons_of_mem _ hz))
    have h1 : x < 256 := hx x (List.mem_cons_self ..)
    have h2 : y < 256 := hy y (List.mem_cons_self ..)
    have e : (UInt8.ofNat x == UInt8.ofNat y) = decide (x = y) := by
      rw [Bool.eq_iff_iff]
      simp only [beq_iff_eq, decide_eq_true_eq]
      constructor
      · intro h
        have := congrArg UInt8.toNat h
        rwa [UInt8.toNat_ofNat', UInt8.toNat_ofNat', Nat.mod_eq_of_lt h1, Nat.mod_eq_of_lt h2] at this
      · rintro rfl; rfl
    simp only [Lib.bytesOf, List.map_cons, Int.toNat_natCast, List.cons_beq_cons] at ih ⊢
    rw [e]
    rw [ih, ← Bool.decide_and]
    simp
/-- bytes.Equal: are they the same bytes? -/
theorem equal_any (xs ys : List Nat) (hx : Sha.Bytes xs) (hy : Sha.Bytes ys) (a b : Option Addr) (c d : Nat) (w : World) (ha : PartOk w a c xs) (hb : PartOk w b d ys) :
    Calls Tryd.prog 19 #[.slice a xs.length c, .slice b ys.length d] w fun e w' => e = .returned (.bool (decide (xs = ys))) ∧ w' = w := by
  have h := Tryd.bytes_Equal_all a b xs.length c ys.length d _ _ w (by simp) (by simp) (bytesIn_part ha) (bytesIn_part hb)
  rwa [bytesOf_eq xs ys hx hy] at h
/-- The first four bytes of a digest. -/
theorem four_any (e f : List Nat) (he : e.length = 32) (heb : Sha.Bytes e) (hf : f = e.take 4) (g : Nat) (V : World) (h : Has V g 26 (arr32 e)) :
    Calls Tryd.prog 19 #[.slice (some ⟨g, 0, none⟩) 4 32, .slice (some ⟨V.heap.size, 0, none⟩) 4 4] (V.alloc (.cells (f.map BV).toArray 5)) fun r w' => r = .returned (.bool true) ∧ w' = V.alloc (.cells (f.map BV).toArray 5) := by
  have hl : f.length = 4 := by rw [hf, List.length_take]; omega
  have hlt : (e.take 4).length = 4 := by rw [List.length_take]; omega
  have h1 : PartOk (V.alloc (.cells (f.map BV).toArray 5)) (some ⟨g, 0, none⟩) 32 (e.take 4) := .inr ⟨g, 0, rfl, by simp; exact Nat.lt_succ_of_lt h.lt, fun i hi => by
    rw [hlt] at hi
    have h2 := (h.alloc (.cells (f.map BV).toArray 5)).cell i
    rw [Nat.zero_add, h2, arr32_get e he i (by omega), List.getD_eq_getElem?_getD, List.getD_eq_getElem?_getD, List.getElem?_take, if_pos hi]⟩
  have h2 : PartOk (V.alloc (.cells (f.map BV).toArray 5)) (some ⟨V.heap.size, 0, none⟩) 4 f := .inr ⟨_, 0, rfl, by simp, fun i hi => by
    have h2 := (Has.fresh V 5 (f.map BV).toArray).cell i
    rw [Nat.zero_add, h2, List.getElem?_toArray, List.getElem?_map, List.getD_eq_getElem?_getD, List.getElem?_eq_getElem hi]
    exact Eq.refl _⟩
  have hb : Sha.Bytes (e.take 4) := fun x hx => heb x (List.mem_of_mem_take hx)
  have := equal_any (e.take 4) f hb (hf ▸ hb) _ _ 32 4 _ h1 h2
  rw [hlt, hl, decide_eq_true hf.symm] at this
  exact this
end Go.Proofs.YtffdkniahdekjaaDoor
end
