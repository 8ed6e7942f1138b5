/-
  A REGION THAT DRAWS ITS ORDER, WALKED ONCE OVER ALL WORLDS THAT MAY COME: loads, calls and values, guarded or not.
  · sum.Short and sum.Find over a list that may be nil.
  · THE LAW SumShort, WALKED: true, and nothing that was there is turned.
-/
import Derived.Test.YtffdkniahdekjaaDoorMBm
import Derived.OrdersHeld
import Derived.Deep.OwnRows
import Derived.Deep.MidRow
import Derived.Test.YtffdkniahdekjaaDoorMBl
import Derived.Test.YtffdkniahdekjaaDoorMBn
import Derived.Test.YtffdkniahdekjaaDoorMBc
import Derived.BigQuiet
section
namespace Go.Proofs.YtffdkniahdekjaaDoor
open Go.RowKit Go.Hoar Go.Maps Go.Shelf
attribute [local go_sem] Oper.semAt_some
set_option maxRecDepth 100000 in
set_option maxHeartbeats 3000000 in
theorem short_row (ls : List Dig) (a : Option Addr) (c : Nat) (w : World) (hs : RowOk w a c (ls.map (·.1))) (hn : ls.length ≤ 100000) :
    Calls Tryd.prog 44 #[.slice a ls.length c] w fun e w' => ∃ v ys, e = .returned v ∧ KeysOfMap (needOf ls) ys ∧ w'.ownsRow w.heap.size 3 1 v ls.length (ls.map fun x => .int .i64 (getN (raiseTo (rising ys) (needOf ls) (max 1 ys.length)) (sumLit x.1))) ∧ Go.RowKit.Below w.heap.size w w' := by
  have HS := Lib.hid hs
  clear hs
  have hmm := @run_makeMap Tryd.prog
  go_enter Tryd.func44, Tryd.ntmps44
  go_upto_region 2 with (fail)
  refine gen_world (P := fun W => Code.wp _ _ _ _ W) (I := fun W => Go.RowKit.Below w.heap.size w W ∧ W.ownsMap Tryd.prog 26 elemN w.heap.size 0 (needOf [])) _ ⟨(Go.RowKit.Below.refl _ w).alloc (Nat.le_refl _) _, World.ownsMap_made w _ _ _⟩ ?_
  rintro W ⟨hB, hM⟩
  have hszW : w.heap.size < W.heap.size := hM.lt
  have HB := Lib.hid hB
  have HM := Lib.hid hM
  clear hB hM
  go_wp2
  go_loopw [17] (fun i wr => ∃ k : Nat, k ≤ ls.length ∧ i = .int .i64 k ∧ wr.ownsMap Tryd.prog 26 elemN w.heap.size k (needOf (ls.take k)) ∧ Go.RowKit.Below w.heap.size w wr) (fun i _ => ls.length - (intOf i).toNat)
  case atStart => exact ⟨0, Nat.zero_le _, rfl, HM.out, HB.out⟩
  case round =>
    obtain ⟨k, hk, rfl, hM, hB⟩ := hrel
    by_cases hlt : k < ls.length
    · obtain ⟨x, hx⟩ : ∃ x, ls[k]? = some x := ⟨_, List.getElem?_eq_getElem hlt⟩
      have hx2 : (ls.map (·.1))[k]? = some x.1 := by rw [List.getElem?_map, hx]; rfl
      have hxl := x.2.1
      rcases HS.out with ⟨_, he, _⟩ | ⟨g, off, rfl, hg, hss, _, _⟩
      · rw [he] at hx2; simp at hx2
      have hsw := hss.below hg hB
      clear hss
      have HRow := Lib.hid (hsw.row hx2)
      have HI := Lib.hid (arr32_info x.1 (by omega))
      have HSz := Lib.hid (zero32_size x.1 (by omega))
      have HF := Lib.hid (fresh_sum wr)
      have hml : w.heap.size < wr.heap.size := hM.lt
      have htk : ls.take (k + 1) = ls.take k ++ [x] := by rw [List.take_add_one, hx]; rfl
      have HTk := Lib.hid htk
      have HM := Lib.hid hM
      have HB := Lib.hid hB
      have HKey := Lib.hid (sum_keyOf x.1 x.2.1 x.2.2)
      clear hM hB hsw htk
      go_upto_region 5 with (first
        | ((with_reducible refine arm_load (w := wr) ⟨g, off + k * 32, none⟩ _ _ HRow.out Tryd.underlying26 HI.out ?h1 ?h2 ?_); (case h1 => rfl); (case h2 => rfl))
        | ((with_reducible refine arm_store wr.heap.size (arr32 x.1) 26 zero32 HF.out HSz.out HI.out (arr32_one _) ?h5 ?h6 ?_); (case h5 => rfl); (case h6 => rfl)))
      refine gen_world (P := fun W => Code.wp _ _ _ _ W) (I := fun V => Go.RowKit.Below wr.heap.size wr V ∧ Has V wr.heap.size 26 (arr32 x.1)) _ ⟨below_setRow ((Go.RowKit.Below.refl _ wr).alloc (Nat.le_refl _) _) (Nat.le_refl _) _, HF.out.setRow⟩ ?_
      rintro V ⟨hBV, hXV⟩
      have HMV := Lib.hid (ownsMap_same HM.out (hBV.block _ hml))
      have HBV := Lib.hid (HB.out.trans (hBV.mono HB.out.size))
      have HXV := Lib.hid hXV.row
      clear hBV hXV
      go_wp2_with (first
        | ((with_reducible refine arm_load (w := V) ⟨wr.heap.size, 0, none⟩ _ _ HXV.out Tryd.underlying26 HI.out ?h3 ?h4 ?_); (case h3 => rfl); (case h4 => rfl))
        | (at_mapUpdate; refine wpList_mapUpdate_own _ rfl _ _ _ 114 rfl 26 3 sum_keyed Tryd.underlying114 _ w.heap.size k _ rfl HMV.out (by unfold maxLen; omega) _ _ (sumLit x.1) rfl rfl HKey.out (litN 1) [] (elemN_int 1 rfl) ?_; intro w1 hown1 hgrow1; have HM1 := Lib.hid hown1; have HB1 := Lib.hid (HBV.out.grown hgrow1 HBV.out.size (fun j hj => by cases hj; exact Nat.le_refl _)); clear hown1 hgrow1))
      refine ⟨⟨k + 1, by omega, by go_num, ?_, HB1.out⟩, by simp [intOf]; omega⟩
      rw [HTk.out, needOf_snoc]
      exact HM1.out
    · obtain rfl : k = ls.length := by omega
      rw [List.take_length] at hM
      have hsize := hM.size_le
      obtain ⟨base, hbase⟩ : ∃ n, n = wr.heap.size + 1 := ⟨_, rfl⟩
      have hml : w.heap.size < wr.heap.size := hM.lt
      have hsf := sortedFunc_any (N := Maps.size (needOf ls)) (S := KeysOfMap (needOf ls)) (gf := 101) (lb := #[.pointer (some ⟨wr.heap.size, 0, none⟩)]) (by omega) (fun ys h => by have := h.2.2; omega) (enters_of Tryd.func101 (by kernel_rfl) rfl) (wr.alloc (.cells #[.map (some w.heap.size)] 114))
        (fun n hn => keys1_stops Fence.wide n trivial rfl hn wr.heap.size w.heap.size ls.length (needOf ls) _ (by simp) ((Has.fresh wr 114 #[.map (some w.heap.size)]).cell 0) (hM.alloc _))
      have HSf := Lib.hid hsf
      have HM1 := Lib.hid (hM.alloc (.cells #[.map (some w.heap.size)] 114))
      have HB1 := Lib.hid (hB.alloc hB.size (.cells #[.map (some w.heap.size)] 114))
      clear hM hB hsf
      go_wp2_with (first
        | (go_at_call 79; refine (mapKeys_any (some w.heap.size) wr).mono ?_; rintro e w1 ⟨rfl, rfl⟩)
        | (go_at_call 78; refine HSf.out.mono ?_; rintro e w2 ⟨v, ys, rfl, hS, ho, hb⟩; obtain ⟨a2, c2, rfl, hc2, hcm2⟩ := own_shape ho; have HSY := Lib.hid hS; have HO2 := Lib.hid ho; have HM2 := Lib.hid (ownsMap_same HM1.out (hb.block _ (by simp; omega))); have HB2 := Lib.hid (HB1.out.trans (hb.mono HB1.out.size)); have hsz2 := hb.size; simp only [World.size_alloc] at hsz2; clear ho hb))
      have hyl : ys.length ≤ 100000 := by have := HSY.out.2.2; omega
      unfold maxLen at hcm2
      obtain ⟨rs, hrs⟩ : ∃ rs, rs = rising ys := ⟨_, rfl⟩
      have hrl : rs.length = ys.length := by rw [hrs, rising_len]
      have HRs := Lib.hid hrs
      have HRl := Lib.hid hrl
      have HH2 : Hid (∀ d ∈ rs, Maps.has (needOf ls) (sumLit d.1) = true) := Lib.hid fun d hd => (HSY.out.2.1 d).1 ((List.mergeSort_perm _ _).mem_iff.1 (hrs ▸ hd))
      rw [← HRs.out] at HO2
      clear hrs hrl
      go_loopw [7] (fun i wr2 => ∃ k : Nat, 1 ≤ k ∧ (k ≤ ys.length ∨ k = 1) ∧ i = .int .i64 k ∧ wr2.ownsMap Tryd.prog 26 elemN w.heap.size (ls.length + 2 * k) (raiseTo rs (needOf ls) k) ∧ wr2.ownsRow base 26 32 (.slice a2 ys.length c2) ys.length (digCells rs) ∧ Go.RowKit.Below w.heap.size w wr2 ∧ Hid (∀ d ∈ rs, Maps.has (raiseTo rs (needOf ls) k) (sumLit d.1) = true)) (fun i _ => ys.length - (intOf i).toNat)
      case atStart => exact ⟨1, Nat.le_refl _, .inr rfl, rfl, HM2.out.mono (by omega), by rw [hbase]; simpa using HO2.out, HB2.out, HH2⟩
      case round =>
        obtain ⟨k, hk1, hk2, rfl, hM, hO, hB, HH⟩ := hrel
        by_cases hlt : k < ys.length
        · obtain ⟨x, hx⟩ : ∃ x, rs[k - 1]? = some x := ⟨_, List.getElem?_eq_getElem (by have := HRl.out; omega)⟩
          obtain ⟨y, hy⟩ : ∃ y, rs[k]? = some y := ⟨_, List.getElem?_eq_getElem (by have := HRl.out; omega)⟩
          have hxl := x.2.1
          have hyl2 := y.2.1
          have hHx := HH.out x (List.mem_of_getElem? hx)
          have hHy := HH.out y (List.mem_of_getElem? hy)
          have hstep : raiseTo rs (needOf ls) (k + 1) = raise (raiseTo rs (needOf ls) k) x y := by
            rw [raiseTo, if_neg (by omega), List.getD_eq_getElem?_getD, List.getD_eq_getElem?_getD, hx, hy]
            rfl
          obtain ⟨D, hD⟩ : ∃ D, D = raiseTo rs (needOf ls) k := ⟨_, rfl⟩
          rw [← hD] at hM hHx hHy hstep
          obtain ⟨g2, rfl, hg2b, hg2⟩ := own_addr hO (by omega)
          have hrowx := sums_row hO hx (by have := HRl.out; omega)
          have hrowy := sums_row hO hy (by have := HRl.out; omega)
          have HM := Lib.hid hM
          have HO := Lib.hid hO
          have HB := Lib.hid hB
          have HRx := Lib.hid hrowx
          have HRy := Lib.hid hrowy
          have HIx := Lib.hid (arr32_info x.1 (by omega))
          have HIy := Lib.hid (arr32_info y.1 (by omega))
          have HStep := Lib.hid hstep
          have hk0 : (0 : Int) ≤ (k : Int) - 1 := by omega
          have hk3 : (k : Int) - 1 < ys.length := by omega
          have hk4 : k - 1 < ys.length := by omega
          have hw1 : IntKind.i64.wrap ((k : Int) - 1) = ((k - 1 : Nat) : Int) := by rw [IntWalk.i64_in _ (by omega)]; omega
          have HD : Hid (D = raiseTo rs (needOf ls) k) := Lib.hid hD
          clear hM hO hB hrowx hrowy hstep hD
          go_upto_region 11 with (fail)
          refine wp_region_held (S := fun V => (∀ j u, (arr32 x.1)[j]? = some u → V.cell? ((⟨g2, (k - 1) * 32, none⟩ : Addr).add j) = some u) ∧ ∀ j u, (arr32 y.1)[j]? = some u → V.cell? ((⟨g2, k * 32, none⟩ : Addr).add j) = some u) (by kernel_rfl) ?_
          have HSS : Hid ((fun V : World => (∀ j u, (arr32 x.1)[j]? = some u → V.cell? ((⟨g2, (k - 1) * 32, none⟩ : Addr).add j) = some u) ∧ ∀ j u, (arr32 y.1)[j]? = some u → V.cell? ((⟨g2, k * 32, none⟩ : Addr).add j) = some u) { wr with drawn := wr.drawn + 1 }) := Lib.hid ⟨HRx.out, HRy.out⟩
          refine wpAnyH_take (i := 0) (oi := ⟨some 33, _, _, _, _, _⟩) (v := ?_) rfl (by kernel_rfl) (by kernel_rfl) (by kernel_rfl) (fun _ _ _ h => h) (Or.inl ⟨by rfl, fun w' hw' => by go_simp; with_reducible rfl⟩) HSS.out ?_
          simp only [Act.put, List.setIfInBounds_toArray, List.set_cons_succ, List.set_cons_zero]
          refine wpAnyH_take (i := 1) (oi := ⟨some 34, _, _, _, _, _⟩) (v := ?_) rfl (by kernel_rfl) (by kernel_rfl) (by kernel_rfl) (fun _ _ _ h => h) (Or.inl ⟨by rfl, fun w' hw' => by go_simp; with_reducible rfl⟩) HSS.out ?_
          simp only [Act.put, List.setIfInBounds_toArray, List.set_cons_succ, List.set_cons_zero]
          refine wpAnyH_take (i := 2) (oi := ⟨some 35, _, _, _, _, _⟩) (v := ?_) rfl (by kernel_rfl) (by kernel_rfl) (by kernel_rfl) (fun _ _ _ h => h) (Or.inl ⟨by rfl, fun w' hw' => by go_simp; with_reducible rfl⟩) HSS.out ?_
          simp only [Act.put, List.setIfInBounds_toArray, List.set_cons_succ, List.set_cons_zero]
          refine wpAnyH_take (i := 3) (oi := ⟨some 36, _, _, _, _, _⟩) (v := ?_) rfl (by kernel_rfl) (by kernel_rfl) (by kernel_rfl) (fun _ _ _ h => h) (Or.inl ⟨by rfl, fun w' hw' => by go_simp; with_reducible rfl⟩) HSS.out ?_
          simp only [Act.put, List.setIfInBounds_toArray, List.set_cons_succ, List.set_cons_zero]
          refine wpAnyH_take (i := 4) (oi := ⟨some 37, _, _, _, _, _⟩) (v := .agg (arr32 x.1)) rfl (by kernel_rfl) (by kernel_rfl) (by kernel_rfl) (fun _ _ _ h => h) ?y4 HSS.out ?_
          case y4 => exact yieldsIf_load ⟨g2, (k - 1) * 32, none⟩ _ _ (fun w hw => hw.1) Tryd.underlying26 HIx.out rfl rfl
          simp only [Act.put, List.setIfInBounds_toArray, List.set_cons_succ, List.set_cons_zero]
          refine wpAnyH_take (i := 5) (oi := ⟨some 38, _, _, _, _, _⟩) (v := ?_) rfl (by kernel_rfl) (by kernel_rfl) (by kernel_rfl) (fun _ _ _ h => h) (Or.inl ⟨by rfl, fun w' hw' => by go_simp; with_reducible rfl⟩) HSS.out ?_
          simp only [Act.put, List.setIfInBounds_toArray, List.set_cons_succ, List.set_cons_zero]
          refine wpAnyH_take (i := 6) (oi := ⟨some 39, _, _, _, _, _⟩) (v := ?_) rfl (by kernel_rfl) (by kernel_rfl) (by kernel_rfl) (fun _ _ _ h => h) (Or.inl ⟨by rfl, fun w' hw' => by go_simp; with_reducible rfl⟩) HSS.out ?_
          simp only [Act.put, List.setIfInBounds_toArray, List.set_cons_succ, List.set_cons_zero]
          refine wpAnyH_take (i := 7) (oi := ⟨some 40, _, _, _, _, _⟩) (v := ?_) rfl (by kernel_rfl) (by kernel_rfl) (by kernel_rfl) (fun _ _ _ h => h) (Or.inl ⟨by rfl, fun w' hw' => by go_simp; with_reducible rfl⟩) HSS.out ?_
          simp only [Act.put, List.setIfInBounds_toArray, List.set_cons_succ, List.set_cons_zero]
          refine wpAnyH_take (i := 8) (oi := ⟨some 41, _, _, _, _, _⟩) (v := .agg (arr32 y.1)) rfl (by kernel_rfl) (by kernel_rfl) (by kernel_rfl) (fun _ _ _ h => h) ?y8 HSS.out ?_
          case y8 => exact yieldsIf_load ⟨g2, k * 32, none⟩ _ _ (fun w hw => hw.2) Tryd.underlying26 HIy.out rfl rfl
          simp only [Act.put, List.setIfInBounds_toArray, List.set_cons_succ, List.set_cons_zero]
          have HSb : Hid (∀ V : World, Go.RowKit.Below wr.heap.size wr V → (fun V : World => (∀ j u, (arr32 x.1)[j]? = some u → V.cell? ((⟨g2, (k - 1) * 32, none⟩ : Addr).add j) = some u) ∧ ∀ j u, (arr32 y.1)[j]? = some u → V.cell? ((⟨g2, k * 32, none⟩ : Addr).add j) = some u) V) := Lib.hid fun V hV => ⟨fun j u hj => (hV.cell (by simpa [Addr.add_lit] using hg2)).trans (HRx.out j u hj), fun j u hj => (hV.cell (by simpa [Addr.add_lit] using hg2)).trans (HRy.out j u hj)⟩
          refine wpAnyH_all (rs := [9, 10]) (by kernel_rfl) (by simp) ?_
          intro i hi
          have hi2 : i = 9 ∨ i = 10 := by simpa using hi
          rcases hi2 with rfl | rfl
          · refine wpOp_step (o := ⟨some 8, _, _, _, _, _⟩) rfl (fun K' hK' => ?_)
            go_simp
            refine hK' _ _ ⟨HSb.out _ ((Go.RowKit.Below.refl _ wr).alloc (Nat.le_refl _) _).drew, ?_⟩
            refine gen_world (P := fun V => wpAnyH _ _ _ _ _ _ _ _ V) (I := fun V => Go.RowKit.Below wr.heap.size wr V ∧ Has V wr.heap.size 26 zero32) _ ⟨((Go.RowKit.Below.refl _ wr).alloc (Nat.le_refl _) _).drew, (fresh_sum wr).drew⟩ ?_
            rintro V1 ⟨hb1, hf1⟩
            clear hK' K'
            refine wpAnyH_all (rs := [10]) (by kernel_rfl) (by simp) ?_
            intro i hi
            obtain rfl : i = 10 := by simpa using hi
            refine wpOp_step (o := ⟨some 9, _, _, _, _, _⟩) rfl (fun K' hK' => ?_)
            go_simp
            refine hK' _ _ ⟨HSb.out _ (hb1.alloc hb1.size _), ?_⟩
            refine gen_world (P := fun V => wpAnyH _ _ _ _ _ _ _ _ V) (I := fun V => Go.RowKit.Below wr.heap.size wr V ∧ Has V wr.heap.size 26 zero32 ∧ Has V V1.heap.size 26 zero32) _ ⟨hb1.alloc hb1.size _, hf1.alloc _, fresh_sum V1⟩ ?_
            rintro V2 ⟨hbv, h8, h9⟩
            have hne : ¬ wr.heap.size = V1.heap.size := by have := hf1.lt; omega
            have hle := hb1.size
            generalize hp8 : wr.heap.size = p8 at h8 hne ⊢
            generalize hp9 : V1.heap.size = p9 at h9 hne ⊢
            clear hK' K' hb1 hf1
            have hl8 : wr.heap.size ≤ p8 := by omega
            have hl9 : wr.heap.size ≤ p9 := by omega
            have hne2 : ¬ p8 = p9 := by omega
            clear hp8 hp9 hne hle
            refine wpAnyH_all (rs := [11]) (by kernel_rfl) (by simp) ?_
            intro i hi
            obtain rfl : i = 11 := by simpa using hi
            refine wpOp_step (o := ⟨none, _, _, _, _, _⟩) rfl (fun K' hK' => ?_)
            rw [if_pos (show Region.wanted _ _ = true from rfl)]
            refine wp_store_row _ _ _ rfl p8 (arr32 x.1) rfl rfl 26 zero32 h8 HIx.out (zero32_size x.1 (by omega)) (arr32_one _) ?_
            refine hK' _ _ ⟨HSb.out _ (below_setRow hbv hl8 _), ?_⟩
            refine gen_world (P := fun V => wpAnyH _ _ _ _ _ _ _ _ V) (I := fun V => Go.RowKit.Below wr.heap.size wr V ∧ Has V p8 26 (arr32 x.1) ∧ Has V p9 26 zero32) _ ⟨below_setRow hbv hl8 _, h8.setRow, h9.setRow_apart (by omega)⟩ ?_
            clear hbv h8 h9 hK' K'
            rintro V3 ⟨hbv, h8, h9⟩
            refine wpAnyH_all (rs := [12]) (by kernel_rfl) (by simp) ?_
            intro i hi
            obtain rfl : i = 12 := by simpa using hi
            refine wpOp_step (o := ⟨none, _, _, _, _, _⟩) rfl (fun K' hK' => ?_)
            rw [if_pos (show Region.wanted _ _ = true from rfl)]
            refine wp_store_row _ _ _ rfl p9 (arr32 y.1) rfl rfl 26 zero32 h9 HIy.out (zero32_size y.1 (by omega)) (arr32_one _) ?_
            refine hK' _ _ ⟨HSb.out _ (below_setRow hbv hl9 _), ?_⟩
            refine gen_world (P := fun V => wpAnyH _ _ _ _ _ _ _ _ V) (I := fun V => Go.RowKit.Below wr.heap.size wr V ∧ Has V p8 26 (arr32 x.1) ∧ Has V p9 26 (arr32 y.1)) _ ⟨below_setRow hbv hl9 _, h8.setRow_apart (by omega), h9.setRow⟩ ?_
            clear hbv h8 h9 hK' K'
            rintro V4 ⟨hbv, h8, h9⟩
            refine wpAnyH_done (by kernel_rfl) ?_ _
            clear HSb HSS
            have hmb : w.heap.size < wr.heap.size := HM.out.lt
            have HM4 := Lib.hid (ownsMap_same HM.out (hbv.block _ hmb))
            have HO4 := Lib.hid (own_below HO.out hbv)
            have HB4 := Lib.hid (HB.out.trans (hbv.mono HB.out.size))
            have HR8 := Lib.hid h8.row
            have HR9 := Lib.hid h9.row
            have HP8 := Lib.hid h8
            have HP9 := Lib.hid h9
            clear hbv h8 h9 HM HO HB HRx HRy
            have hal : alikeOf x.1 y.1 ≤ 64 := by have := alikeF_le x.1 y.1 64 0; unfold alikeOf; omega
            have hwal : IntKind.i64.wrap (((alikeOf x.1 y.1 : Nat) : Int) + 1) = ((alikeOf x.1 y.1 : Nat) : Int) + 1 := IntWalk.i64_in _ (by omega)
            go_upto_region 13 with (first
              | ((with_reducible refine arm_load (w := V4) ⟨p8, 0, none⟩ _ _ HR8.out Tryd.underlying26 HIx.out ?h1 ?h2 ?_); (case h1 => rfl); (case h2 => rfl))
              | ((with_reducible refine arm_load (w := V4) ⟨p9, 0, none⟩ _ _ HR9.out Tryd.underlying26 HIy.out ?h3 ?h4 ?_); (case h3 => rfl); (case h4 => rfl))
              | (go_at_call 80; refine (alike_any x.1 y.1 x.2.1 y.2.1 x.2.2 y.2.2 V4).mono ?_; rintro e w5 ⟨rfl, hb5⟩; have HM5 := Lib.hid (ownsMap_same HM4.out (hb5.block _ HM4.out.lt)); have HO5 := Lib.hid (own_below HO4.out hb5); have HB5 := Lib.hid (HB4.out.trans (hb5.mono HB4.out.size)); have HP85 := Lib.hid (HP8.out.below hb5 HP8.out.lt).row; have HP95 := Lib.hid (HP9.out.below hb5 HP9.out.lt).row; clear hb5))
            have hmlt : w.heap.size < p8 ∧ w.heap.size < p9 := ⟨by omega, by omega⟩
            obtain ⟨ca, hla, hata, hwa⟩ := (HM5.out.drew).lookup_int sum_keyed Tryd.underlying114 Tryd.underlying3 (Tryd.zeroValue3 _) (sum_keyOf x.1 x.2.1 x.2.2)
            obtain ⟨cb, hlb, hatb, hwb⟩ := (HM5.out.drew).lookup_int sum_keyed Tryd.underlying114 Tryd.underlying3 (Tryd.zeroValue3 _) (sum_keyOf y.1 y.2.1 y.2.2)
            obtain ⟨v0, st, hme, hst⟩ := entry_here (HM5.out.drew) sum_law sum_keyed Tryd.underlying114 Tryd.zeroValue3 (by unfold maxLen; omega) (sum_keyOf x.1 x.2.1 x.2.2) hHx
            have hwua : (Lit.int .i64 (up ca ((alikeOf x.1 y.1 : Nat) + 1))).wf = true := up_wf hwa hal
            have hwub : (Lit.int .i64 (up cb ((alikeOf x.1 y.1 : Nat) + 1))).wf = true := up_wf hwb hal
            obtain ⟨w6, h6a, h6b, h6c⟩ := hst w5.drew (.int .i64 (up ca ((alikeOf x.1 y.1 : Nat) + 1))) _ _ rfl (elemN_int _ hwua)
            obtain ⟨w7, h7a, h7b, h7c⟩ := h6b.update sum_keyed Tryd.underlying114 (by unfold maxLen; omega) (sum_keyOf y.1 y.2.1 y.2.2) (elemN_int _ hwub)
            have hea : getN D (sumLit x.1) = ca := by unfold getN litN; rw [hata]
            have heb : getN D (sumLit y.1) = cb := by unfold getN litN; rw [hatb]
            have hraise : raise D x y = (D.put (sumLit x.1) (litN (up ca ((alikeOf x.1 y.1 : Nat) + 1)))).put (sumLit y.1) (litN (up cb ((alikeOf x.1 y.1 : Nat) + 1))) := by rw [raise, hea, heb]
            rw [← hraise, ← HStep.out] at h7b
            have hhas : Hid (∀ d ∈ rs, Maps.has (raiseTo rs (needOf ls) (k + 1)) (sumLit d.1) = true) := Lib.hid fun d hd => by
              rw [HStep.out, hraise]
              exact has_put_mono h6b.isMap (sum_keyed.key (sum_keyOf y.1 y.2.1 y.2.2)) _ (has_put_mono HM5.out.isMap (sum_keyed.key (sum_keyOf x.1 x.2.1 x.2.2)) _ (HD.out ▸ HH.out d hd))
            have hbel : Go.RowKit.Below w.heap.size w w7 := (HB5.out.drew.grown h6c HB5.out.size (fun j e => by cases e; exact Nat.le_refl _)).grown h7c (Nat.le_trans HB5.out.size h6c.size) (fun j e => by cases e; exact Nat.le_refl _)
            have hown7 : w7.ownsRow (base) 26 32 (.slice (some ⟨g2, 0, none⟩) ys.length c2) ys.length (digCells rs) := (HO5.out.drew.kept h6c (.inr (fun e => by have : g2 = w.heap.size := Option.some.inj e; omega))).kept h7c (.inr (fun e => by have : g2 = w.heap.size := Option.some.inj e; omega))
            have HFin : Hid (∀ i : Value, i = .int .i64 ((k + 1 : Nat) : Int) → ∃ k' : Nat, 1 ≤ k' ∧ (k' ≤ ys.length ∨ k' = 1) ∧ i = .int .i64 k' ∧ w7.ownsMap Tryd.prog 26 elemN w.heap.size (ls.length + 2 * k') (raiseTo rs (needOf ls) k') ∧ w7.ownsRow (base) 26 32 (.slice (some ⟨g2, 0, none⟩) ys.length c2) ys.length (digCells rs) ∧ Go.RowKit.Below w.heap.size w w7 ∧ Hid (∀ d ∈ rs, Maps.has (raiseTo rs (needOf ls) k') (sumLit d.1) = true)) := Lib.hid fun i hi => ⟨k + 1, by omega, .inl (by omega), hi, by simpa [Nat.mul_add, Nat.add_assoc] using h7b, hown7, hbel, hhas⟩
            have HLa := Lib.hid hla
            have HLb := Lib.hid hlb
            have HMe := Lib.hid hme
            have H6a := Lib.hid h6a
            have H7a := Lib.hid h7a
            have HS13 : Hid (SS p8 p9 x y w5.drew) := Lib.hid ⟨HP85.out, HP95.out⟩
            have HS6 : Hid (SS p8 p9 x y w6) := Lib.hid ⟨fun j u hj => h6c.cell (HP85.out j u hj) (fun e => by rw [Addr.add_lit] at e; have : p8 = w.heap.size := Option.some.inj e; omega), fun j u hj => h6c.cell (HP95.out j u hj) (fun e => by rw [Addr.add_lit] at e; have : p9 = w.heap.size := Option.some.inj e; omega)⟩
            have HS7 : Hid (SS p8 p9 x y w7) := Lib.hid ⟨fun j u hj => h7c.cell (HS6.out.1 j u hj) (fun e => by rw [Addr.add_lit] at e; have : p8 = w.heap.size := Option.some.inj e; omega), fun j u hj => h7c.cell (HS6.out.2 j u hj) (fun e => by rw [Addr.add_lit] at e; have : p9 = w.heap.size := Option.some.inj e; omega)⟩
            clear hla hlb hme hst h6a h6b h6c h7a h7b h7c hata hatb hea heb hraise hhas hbel hown7 hwa hwb hwua hwub HM5 HO5 HB5 HP85 HP95 HH hHx hHy
            refine wp_region_held (S := SS p8 p9 x y) (by kernel_rfl) ?_
            refine wpAnyH_take (i := 0) (oi := ⟨some 46, _, _, _, _, _⟩) (v := ?_) rfl (by kernel_rfl) (by kernel_rfl) (by kernel_rfl) (fun _ _ _ h => h) (Or.inl ⟨by rfl, fun w' hw' => by go_simp; with_reducible rfl⟩) HS13.out ?_
            simp only [Act.put, List.setIfInBounds_toArray, List.set_cons_succ, List.set_cons_zero]
            refine wpAnyH_take (i := 1) (oi := ⟨some 47, _, _, _, _, _⟩) (v := .agg (arr32 x.1)) rfl (by kernel_rfl) (by kernel_rfl) (by kernel_rfl) (fun _ _ _ h => h) ?y1 HS13.out ?_
            case y1 => exact yieldsIf_load ⟨p8, 0, none⟩ _ _ (fun w hw => hw.1) Tryd.underlying26 HIx.out rfl rfl
            simp only [Act.put, List.setIfInBounds_toArray, List.set_cons_succ, List.set_cons_zero]
            refine wpAnyH_take (i := 2) (oi := ⟨some 48, _, _, _, _, _⟩) (v := ?_) rfl (by kernel_rfl) (by kernel_rfl) (by kernel_rfl) (fun _ _ _ h => h) (Or.inl ⟨by rfl, fun w' hw' => by go_simp; with_reducible rfl⟩) HS13.out ?_
            simp only [Act.put, List.setIfInBounds_toArray, List.set_cons_succ, List.set_cons_zero]
            refine wpAnyH_take (i := 3) (oi := ⟨some 49, _, _, _, _, _⟩) (v := .agg (arr32 y.1)) rfl (by kernel_rfl) (by kernel_rfl) (by kernel_rfl) (fun _ _ _ h => h) ?y3 HS13.out ?_
            case y3 => exact yieldsIf_load ⟨p9, 0, none⟩ _ _ (fun w hw => hw.2) Tryd.underlying26 HIy.out rfl rfl
            simp only [Act.put, List.setIfInBounds_toArray, List.set_cons_succ, List.set_cons_zero]
            refine wpAnyH_take (i := 4) (oi := ⟨some 50, _, _, _, _, _⟩) (v := ?_) rfl (by kernel_rfl) (by kernel_rfl) (by kernel_rfl) (fun _ _ _ h => h) (Or.inl ⟨by rfl, fun w' hw' => by go_simp; with_reducible rfl⟩) HS13.out ?_
            simp only [Act.put, List.setIfInBounds_toArray, List.set_cons_succ, List.set_cons_zero]
            refine wpAnyH_take (i := 5) (oi := ⟨some 51, _, _, _, _, _⟩) (v := .agg (arr32 x.1)) rfl (by kernel_rfl) (by kernel_rfl) (by kernel_rfl) (fun _ _ _ h => h) ?y5 HS13.out ?_
            case y5 => exact yieldsIf_load ⟨p8, 0, none⟩ _ _ (fun w hw => hw.1) Tryd.underlying26 HIx.out rfl rfl
            simp only [Act.put, List.setIfInBounds_toArray, List.set_cons_succ, List.set_cons_zero]
            refine wpAnyH_take (i := 7) (oi := ⟨some 53, _, _, _, _, _⟩) (v := ?_) rfl (by kernel_rfl) (by kernel_rfl) (by kernel_rfl) (fun _ _ _ h => h) (Or.inl ⟨by rfl, fun w' hw' => by go_simp; with_reducible rfl⟩) HS13.out ?_
            simp only [Act.put, List.setIfInBounds_toArray, List.set_cons_succ, List.set_cons_zero]
            refine wpAnyH_take (i := 9) (oi := ⟨some 55, _, _, _, _, _⟩) (v := ?_) rfl (by kernel_rfl) (by kernel_rfl) (by kernel_rfl) (fun _ _ _ h => h) (Or.inl ⟨by rfl, fun w' hw' => by go_simp; with_reducible rfl⟩) HS13.out ?_
            simp only [Act.put, List.setIfInBounds_toArray, List.set_cons_succ, List.set_cons_zero]
            refine wpAnyH_take (i := 10) (oi := ⟨some 56, _, _, _, _, _⟩) (v := .agg (arr32 y.1)) rfl (by kernel_rfl) (by kernel_rfl) (by kernel_rfl) (fun _ _ _ h => h) ?y10 HS13.out ?_
            case y10 => exact yieldsIf_load ⟨p9, 0, none⟩ _ _ (fun w hw => hw.2) Tryd.underlying26 HIy.out rfl rfl
            simp only [Act.put, List.setIfInBounds_toArray, List.set_cons_succ, List.set_cons_zero]
            refine wpAnyH_take (i := 12) (oi := ⟨some 58, _, _, _, _, _⟩) (v := ?_) rfl (by kernel_rfl) (by kernel_rfl) (by kernel_rfl) (fun _ _ _ h => h) (Or.inl ⟨by rfl, fun w' hw' => by go_simp; with_reducible rfl⟩) HS13.out ?_
            simp only [Act.put, List.setIfInBounds_toArray, List.set_cons_succ, List.set_cons_zero]
            refine wpAnyH_all (rs := [6, 11]) (by kernel_rfl) (by simp) ?_
            intro i hi
            have hi2 : i = 6 ∨ i = 11 := by simpa using hi
            rcases hi2 with rfl | rfl
            · refine wpOp_step (o := ⟨some 52, _, _, _, _, _⟩) rfl (fun K' hK' => ?_)
              rw [if_pos (show Region.wanted _ _ = true from rfl)]
              refine op_lookup (.map (some w.heap.size)) (.agg (arr32 x.1)) (.int .i64 ca) rfl rfl HLa.out ?_
              refine hK' _ _ ⟨HS13.out, ?_⟩
              clear hK' K'
              simp only [Act.put, List.setIfInBounds_toArray, List.set_cons_succ, List.set_cons_zero]
              refine wpAnyH_take (i := 8) (oi := ⟨some 54, _, _, _, _, _⟩) (v := .int .i64 (up ca ((alikeOf x.1 y.1 : Nat) + 1))) rfl (by kernel_rfl) (by kernel_rfl) (by kernel_rfl) (fun _ _ _ h => h) ?y8 HS13.out ?_
              case y8 => exact yieldsIf_max ca ((alikeOf x.1 y.1 : Nat) + 1) rfl rfl
              simp only [Act.put, List.setIfInBounds_toArray, List.set_cons_succ, List.set_cons_zero]
              refine wpAnyH_all (rs := [11]) (by kernel_rfl) (by simp) ?_
              intro i hi
              obtain rfl : i = 11 := by simpa using hi
              refine wpOp_step (o := ⟨some 57, _, _, _, _, _⟩) rfl (fun K' hK' => ?_)
              rw [if_pos (show Region.wanted _ _ = true from rfl)]
              refine op_lookup (.map (some w.heap.size)) (.agg (arr32 y.1)) (.int .i64 cb) rfl rfl HLb.out ?_
              refine hK' _ _ ⟨HS13.out, ?_⟩
              clear hK' K'
              simp only [Act.put, List.setIfInBounds_toArray, List.set_cons_succ, List.set_cons_zero]
              refine wpAnyH_take (i := 13) (oi := ⟨some 59, _, _, _, _, _⟩) (v := .int .i64 (up cb ((alikeOf x.1 y.1 : Nat) + 1))) rfl (by kernel_rfl) (by kernel_rfl) (by kernel_rfl) (fun _ _ _ h => h) ?y13 HS13.out ?_
              case y13 => exact yieldsIf_max cb ((alikeOf x.1 y.1 : Nat) + 1) rfl rfl
              simp only [Act.put, List.setIfInBounds_toArray, List.set_cons_succ, List.set_cons_zero]
              refine wpAnyH_all (rs := [14]) (by kernel_rfl) (by simp) ?_
              intro i hi
              obtain rfl : i = 14 := by simpa using hi
              refine wpOp_step (o := ⟨some 60, _, _, _, _, _⟩) rfl (fun K' hK' => ?_)
              rw [if_pos (show Region.wanted _ _ = true from rfl)]
              refine op_mapEntry (.map (some w.heap.size)) (.agg (arr32 x.1)) (.tuple #[v0, goInt st]) rfl rfl HMe.out ?_
              refine hK' _ _ ⟨HS13.out, ?_⟩
              clear hK' K'
              simp only [Act.put, List.setIfInBounds_toArray, List.set_cons_succ, List.set_cons_zero]
              refine wpAnyH_take (i := 15) (oi := ⟨some 61, _, _, _, _, _⟩) (v := ?_) rfl (by kernel_rfl) (by kernel_rfl) (by kernel_rfl) (fun _ _ _ h => h) (Or.inl ⟨by rfl, fun w' hw' => by go_simp; with_reducible rfl⟩) HS13.out ?_
              simp only [Act.put, List.setIfInBounds_toArray, List.set_cons_succ, List.set_cons_zero]
              refine wpAnyH_all (rs := [16]) (by kernel_rfl) (by simp) ?_
              intro i hi
              obtain rfl : i = 16 := by simpa using hi
              refine wpOp_step (o := ⟨none, _, _, _, _, _⟩) rfl (fun K' hK' => ?_)
              rw [if_pos (show Region.wanted _ _ = true from rfl)]
              refine op_entryStore (.map (some w.heap.size)) (goInt st) (.int .i64 (up ca ((alikeOf x.1 y.1 : Nat) + 1))) rfl rfl rfl H6a.out ?_
              refine hK' _ _ ⟨HS6.out, ?_⟩
              clear hK' K'
              refine wpAnyH_all (rs := [17]) (by kernel_rfl) (by simp) ?_
              intro i hi
              obtain rfl : i = 17 := by simpa using hi
              refine wpOp_step (o := ⟨none, _, _, _, _, _⟩) rfl (fun K' hK' => ?_)
              rw [if_pos (show Region.wanted _ _ = true from rfl)]
              refine op_mapUpdate (.map (some w.heap.size)) (.agg (arr32 y.1)) (.int .i64 (up cb ((alikeOf x.1 y.1 : Nat) + 1))) rfl rfl rfl H7a.out ?_
              refine hK' _ _ ⟨HS7.out, ?_⟩
              clear hK' K'
              refine wpAnyH_done (by kernel_rfl) ?_ _
              go_wp2
              exact ⟨HFin.out _ (by go_num), by simp [intOf]; omega⟩
            · refine wpOp_step (o := ⟨some 57, _, _, _, _, _⟩) rfl (fun K' hK' => ?_)
              rw [if_pos (show Region.wanted _ _ = true from rfl)]
              refine op_lookup (.map (some w.heap.size)) (.agg (arr32 y.1)) (.int .i64 cb) rfl rfl HLb.out ?_
              refine hK' _ _ ⟨HS13.out, ?_⟩
              clear hK' K'
              simp only [Act.put, List.setIfInBounds_toArray, List.set_cons_succ, List.set_cons_zero]
              refine wpAnyH_take (i := 13) (oi := ⟨some 59, _, _, _, _, _⟩) (v := .int .i64 (up cb ((alikeOf x.1 y.1 : Nat) + 1))) rfl (by kernel_rfl) (by kernel_rfl) (by kernel_rfl) (fun _ _ _ h => h) ?y13 HS13.out ?_
              case y13 => exact yieldsIf_max cb ((alikeOf x.1 y.1 : Nat) + 1) rfl rfl
              simp only [Act.put, List.setIfInBounds_toArray, List.set_cons_succ, List.set_cons_zero]
              refine wpAnyH_all (rs := [6, 14]) (by kernel_rfl) (by simp) ?_
              intro i hi
              have hi2 : i = 6 ∨ i = 14 := by simpa using hi
              rcases hi2 with rfl | rfl
              · refine wpOp_step (o := ⟨some 52, _, _, _, _, _⟩) rfl (fun K' hK' => ?_)
                rw [if_pos (show Region.wanted _ _ = true from rfl)]
                refine op_lookup (.map (some w.heap.size)) (.agg (arr32 x.1)) (.int .i64 ca) rfl rfl HLa.out ?_
                refine hK' _ _ ⟨HS13.out, ?_⟩
                clear hK' K'
                simp only [Act.put, List.setIfInBounds_toArray, List.set_cons_succ, List.set_cons_zero]
                refine wpAnyH_take (i := 8) (oi := ⟨some 54, _, _, _, _, _⟩) (v := .int .i64 (up ca ((alikeOf x.1 y.1 : Nat) + 1))) rfl (by kernel_rfl) (by kernel_rfl) (by kernel_rfl) (fun _ _ _ h => h) ?y8 HS13.out ?_
                case y8 => exact yieldsIf_max ca ((alikeOf x.1 y.1 : Nat) + 1) rfl rfl
                simp only [Act.put, List.setIfInBounds_toArray, List.set_cons_succ, List.set_cons_zero]
                refine wpAnyH_all (rs := [14]) (by kernel_rfl) (by simp) ?_
                intro i hi
                obtain rfl : i = 14 := by simpa using hi
                refine wpOp_step (o := ⟨some 60, _, _, _, _, _⟩) rfl (fun K' hK' => ?_)
                rw [if_pos (show Region.wanted _ _ = true from rfl)]
                refine op_mapEntry (.map (some w.heap.size)) (.agg (arr32 x.1)) (.tuple #[v0, goInt st]) rfl rfl HMe.out ?_
                refine hK' _ _ ⟨HS13.out, ?_⟩
                clear hK' K'
                simp only [Act.put, List.setIfInBounds_toArray, List.set_cons_succ, List.set_cons_zero]
                refine wpAnyH_take (i := 15) (oi := ⟨some 61, _, _, _, _, _⟩) (v := ?_) rfl (by kernel_rfl) (by kernel_rfl) (by kernel_rfl) (fun _ _ _ h => h) (Or.inl ⟨by rfl, fun w' hw' => by go_simp; with_reducible rfl⟩) HS13.out ?_
                simp only [Act.put, List.setIfInBounds_toArray, List.set_cons_succ, List.set_cons_zero]
                refine wpAnyH_all (rs := [16]) (by kernel_rfl) (by simp) ?_
                intro i hi
                obtain rfl : i = 16 := by simpa using hi
                refine wpOp_step (o := ⟨none, _, _, _, _, _⟩) rfl (fun K' hK' => ?_)
                rw [if_pos (show Region.wanted _ _ = true from rfl)]
                refine op_entryStore (.map (some w.heap.size)) (goInt st) (.int .i64 (up ca ((alikeOf x.1 y.1 : Nat) + 1))) rfl rfl rfl H6a.out ?_
                refine hK' _ _ ⟨HS6.out, ?_⟩
                clear hK' K'
                refine wpAnyH_all (rs := [17]) (by kernel_rfl) (by simp) ?_
                intro i hi
                obtain rfl : i = 17 := by simpa using hi
                refine wpOp_step (o := ⟨none, _, _, _, _, _⟩) rfl (fun K' hK' => ?_)
                rw [if_pos (show Region.wanted _ _ = true from rfl)]
                refine op_mapUpdate (.map (some w.heap.size)) (.agg (arr32 y.1)) (.int .i64 (up cb ((alikeOf x.1 y.1 : Nat) + 1))) rfl rfl rfl H7a.out ?_
                refine hK' _ _ ⟨HS7.out, ?_⟩
                clear hK' K'
                refine wpAnyH_done (by kernel_rfl) ?_ _
                go_wp2
                exact ⟨HFin.out _ (by go_num), by simp [intOf]; omega⟩
              · refine wpOp_step (o := ⟨some 60, _, _, _, _, _⟩) rfl (fun K' hK' => ?_)
                rw [if_pos (show Region.wanted _ _ = true from rfl)]
                refine op_mapEntry (.map (some w.heap.size)) (.agg (arr32 x.1)) (.tuple #[v0, goInt st]) rfl rfl HMe.out ?_
                refine hK' _ _ ⟨HS13.out, ?_⟩
                clear hK' K'
                simp only [Act.put, List.setIfInBounds_toArray, List.set_cons_succ, List.set_cons_zero]
                refine wpAnyH_take (i := 15) (oi := ⟨some 61, _, _, _, _, _⟩) (v := ?_) rfl (by kernel_rfl) (by kernel_rfl) (by kernel_rfl) (fun _ _ _ h => h) (Or.inl ⟨by rfl, fun w' hw' => by go_simp; with_reducible rfl⟩) HS13.out ?_
                simp only [Act.put, List.setIfInBounds_toArray, List.set_cons_succ, List.set_cons_zero]
                refine wpAnyH_all (rs := [6]) (by kernel_rfl) (by simp) ?_
                intro i hi
                obtain rfl : i = 6 := by simpa using hi
                refine wpOp_step (o := ⟨some 52, _, _, _, _, _⟩) rfl (fun K' hK' => ?_)
                rw [if_pos (show Region.wanted _ _ = true from rfl)]
                refine op_lookup (.map (some w.heap.size)) (.agg (arr32 x.1)) (.int .i64 ca) rfl rfl HLa.out ?_
                refine hK' _ _ ⟨HS13.out, ?_⟩
                clear hK' K'
                simp only [Act.put, List.setIfInBounds_toArray, List.set_cons_succ, List.set_cons_zero]
                refine wpAnyH_take (i := 8) (oi := ⟨some 54, _, _, _, _, _⟩) (v := .int .i64 (up ca ((alikeOf x.1 y.1 : Nat) + 1))) rfl (by kernel_rfl) (by kernel_rfl) (by kernel_rfl) (fun _ _ _ h => h) ?y8 HS13.out ?_
                case y8 => exact yieldsIf_max ca ((alikeOf x.1 y.1 : Nat) + 1) rfl rfl
                simp only [Act.put, List.setIfInBounds_toArray, List.set_cons_succ, List.set_cons_zero]
                refine wpAnyH_all (rs := [16]) (by kernel_rfl) (by simp) ?_
                intro i hi
                obtain rfl : i = 16 := by simpa using hi
                refine wpOp_step (o := ⟨none, _, _, _, _, _⟩) rfl (fun K' hK' => ?_)
                rw [if_pos (show Region.wanted _ _ = true from rfl)]
                refine op_entryStore (.map (some w.heap.size)) (goInt st) (.int .i64 (up ca ((alikeOf x.1 y.1 : Nat) + 1))) rfl rfl rfl H6a.out ?_
                refine hK' _ _ ⟨HS6.out, ?_⟩
                clear hK' K'
                refine wpAnyH_all (rs := [17]) (by kernel_rfl) (by simp) ?_
                intro i hi
                obtain rfl : i = 17 := by simpa using hi
                refine wpOp_step (o := ⟨none, _, _, _, _, _⟩) rfl (fun K' hK' => ?_)
                rw [if_pos (show Region.wanted _ _ = true from rfl)]
                refine op_mapUpdate (.map (some w.heap.size)) (.agg (arr32 y.1)) (.int .i64 (up cb ((alikeOf x.1 y.1 : Nat) + 1))) rfl rfl rfl H7a.out ?_
                refine hK' _ _ ⟨HS7.out, ?_⟩
                clear hK' K'
                refine wpAnyH_done (by kernel_rfl) ?_ _
                go_wp2
                exact ⟨HFin.out _ (by go_num), by simp [intOf]; omega⟩
          · refine wpOp_step (o := ⟨some 9, _, _, _, _, _⟩) rfl (fun K' hK' => ?_)
            go_simp
            refine hK' _ _ ⟨HSb.out _ ((Go.RowKit.Below.refl _ wr).alloc (Nat.le_refl _) _).drew, ?_⟩
            refine gen_world (P := fun V => wpAnyH _ _ _ _ _ _ _ _ V) (I := fun V => Go.RowKit.Below wr.heap.size wr V ∧ Has V wr.heap.size 26 zero32) _ ⟨((Go.RowKit.Below.refl _ wr).alloc (Nat.le_refl _) _).drew, (fresh_sum wr).drew⟩ ?_
            rintro V1 ⟨hb1, hf1⟩
            clear hK' K'
            refine wpAnyH_all (rs := [9]) (by kernel_rfl) (by simp) ?_
            intro i hi
            obtain rfl : i = 9 := by simpa using hi
            refine wpOp_step (o := ⟨some 8, _, _, _, _, _⟩) rfl (fun K' hK' => ?_)
            go_simp
            refine hK' _ _ ⟨HSb.out _ (hb1.alloc hb1.size _), ?_⟩
            refine gen_world (P := fun V => wpAnyH _ _ _ _ _ _ _ _ V) (I := fun V => Go.RowKit.Below wr.heap.size wr V ∧ Has V wr.heap.size 26 zero32 ∧ Has V V1.heap.size 26 zero32) _ ⟨hb1.alloc hb1.size _, hf1.alloc _, fresh_sum V1⟩ ?_
            rintro V2 ⟨hbv, h9, h8⟩
            have hne : ¬ wr.heap.size = V1.heap.size := by have := hf1.lt; omega
            have hle := hb1.size
            generalize hp8 : V1.heap.size = p8 at h8 hne ⊢
            generalize hp9 : wr.heap.size = p9 at h9 hne ⊢
            clear hK' K' hb1 hf1
            have hl8 : wr.heap.size ≤ p8 := by omega
            have hl9 : wr.heap.size ≤ p9 := by omega
            have hne2 : ¬ p8 = p9 := by omega
            clear hp8 hp9 hne hle
            refine wpAnyH_all (rs := [11]) (by kernel_rfl) (by simp) ?_
            intro i hi
            obtain rfl : i = 11 := by simpa using hi
            refine wpOp_step (o := ⟨none, _, _, _, _, _⟩) rfl (fun K' hK' => ?_)
            rw [if_pos (show Region.wanted _ _ = true from rfl)]
            refine wp_store_row _ _ _ rfl p8 (arr32 x.1) rfl rfl 26 zero32 h8 HIx.out (zero32_size x.1 (by omega)) (arr32_one _) ?_
            refine hK' _ _ ⟨HSb.out _ (below_setRow hbv hl8 _), ?_⟩
            refine gen_world (P := fun V => wpAnyH _ _ _ _ _ _ _ _ V) (I := fun V => Go.RowKit.Below wr.heap.size wr V ∧ Has V p8 26 (arr32 x.1) ∧ Has V p9 26 zero32) _ ⟨below_setRow hbv hl8 _, h8.setRow, h9.setRow_apart (by omega)⟩ ?_
            clear hbv h8 h9 hK' K'
            rintro V3 ⟨hbv, h8, h9⟩
            refine wpAnyH_all (rs := [12]) (by kernel_rfl) (by simp) ?_
            intro i hi
            obtain rfl : i = 12 := by simpa using hi
            refine wpOp_step (o := ⟨none, _, _, _, _, _⟩) rfl (fun K' hK' => ?_)
            rw [if_pos (show Region.wanted _ _ = true from rfl)]
            refine wp_store_row _ _ _ rfl p9 (arr32 y.1) rfl rfl 26 zero32 h9 HIy.out (zero32_size y.1 (by omega)) (arr32_one _) ?_
            refine hK' _ _ ⟨HSb.out _ (below_setRow hbv hl9 _), ?_⟩
            refine gen_world (P := fun V => wpAnyH _ _ _ _ _ _ _ _ V) (I := fun V => Go.RowKit.Below wr.heap.size wr V ∧ Has V p8 26 (arr32 x.1) ∧ Has V p9 26 (arr32 y.1)) _ ⟨below_setRow hbv hl9 _, h8.setRow_apart (by omega), h9.setRow⟩ ?_
            clear hbv h8 h9 hK' K'
            rintro V4 ⟨hbv, h8, h9⟩
            refine wpAnyH_done (by kernel_rfl) ?_ _
            clear HSb HSS
            have hmb : w.heap.size < wr.heap.size := HM.out.lt
            have HM4 := Lib.hid (ownsMap_same HM.out (hbv.block _ hmb))
            have HO4 := Lib.hid (own_below HO.out hbv)
            have HB4 := Lib.hid (HB.out.trans (hbv.mono HB.out.size))
            have HR8 := Lib.hid h8.row
            have HR9 := Lib.hid h9.row
            have HP8 := Lib.hid h8
            have HP9 := Lib.hid h9
            clear hbv h8 h9 HM HO HB HRx HRy
            have hal : alikeOf x.1 y.1 ≤ 64 := by have := alikeF_le x.1 y.1 64 0; unfold alikeOf; omega
            have hwal : IntKind.i64.wrap (((alikeOf x.1 y.1 : Nat) : Int) + 1) = ((alikeOf x.1 y.1 : Nat) : Int) + 1 := IntWalk.i64_in _ (by omega)
            go_upto_region 13 with (first
              | ((with_reducible refine arm_load (w := V4) ⟨p8, 0, none⟩ _ _ HR8.out Tryd.underlying26 HIx.out ?h1 ?h2 ?_); (case h1 => rfl); (case h2 => rfl))
              | ((with_reducible refine arm_load (w := V4) ⟨p9, 0, none⟩ _ _ HR9.out Tryd.underlying26 HIy.out ?h3 ?h4 ?_); (case h3 => rfl); (case h4 => rfl))
              | (go_at_call 80; refine (alike_any x.1 y.1 x.2.1 y.2.1 x.2.2 y.2.2 V4).mono ?_; rintro e w5 ⟨rfl, hb5⟩; have HM5 := Lib.hid (ownsMap_same HM4.out (hb5.block _ HM4.out.lt)); have HO5 := Lib.hid (own_below HO4.out hb5); have HB5 := Lib.hid (HB4.out.trans (hb5.mono HB4.out.size)); have HP85 := Lib.hid (HP8.out.below hb5 HP8.out.lt).row; have HP95 := Lib.hid (HP9.out.below hb5 HP9.out.lt).row; clear hb5))
            have hmlt : w.heap.size < p8 ∧ w.heap.size < p9 := ⟨by omega, by omega⟩
            obtain ⟨ca, hla, hata, hwa⟩ := (HM5.out.drew).lookup_int sum_keyed Tryd.underlying114 Tryd.underlying3 (Tryd.zeroValue3 _) (sum_keyOf x.1 x.2.1 x.2.2)
            obtain ⟨cb, hlb, hatb, hwb⟩ := (HM5.out.drew).lookup_int sum_keyed Tryd.underlying114 Tryd.underlying3 (Tryd.zeroValue3 _) (sum_keyOf y.1 y.2.1 y.2.2)
            obtain ⟨v0, st, hme, hst⟩ := entry_here (HM5.out.drew) sum_law sum_keyed Tryd.underlying114 Tryd.zeroValue3 (by unfold maxLen; omega) (sum_keyOf x.1 x.2.1 x.2.2) hHx
            have hwua : (Lit.int .i64 (up ca ((alikeOf x.1 y.1 : Nat) + 1))).wf = true := up_wf hwa hal
            have hwub : (Lit.int .i64 (up cb ((alikeOf x.1 y.1 : Nat) + 1))).wf = true := up_wf hwb hal
            obtain ⟨w6, h6a, h6b, h6c⟩ := hst w5.drew (.int .i64 (up ca ((alikeOf x.1 y.1 : Nat) + 1))) _ _ rfl (elemN_int _ hwua)
            obtain ⟨w7, h7a, h7b, h7c⟩ := h6b.update sum_keyed Tryd.underlying114 (by unfold maxLen; omega) (sum_keyOf y.1 y.2.1 y.2.2) (elemN_int _ hwub)
            have hea : getN D (sumLit x.1) = ca := by unfold getN litN; rw [hata]
            have heb : getN D (sumLit y.1) = cb := by unfold getN litN; rw [hatb]
            have hraise : raise D x y = (D.put (sumLit x.1) (litN (up ca ((alikeOf x.1 y.1 : Nat) + 1)))).put (sumLit y.1) (litN (up cb ((alikeOf x.1 y.1 : Nat) + 1))) := by rw [raise, hea, heb]
            rw [← hraise, ← HStep.out] at h7b
            have hhas : Hid (∀ d ∈ rs, Maps.has (raiseTo rs (needOf ls) (k + 1)) (sumLit d.1) = true) := Lib.hid fun d hd => by
              rw [HStep.out, hraise]
              exact has_put_mono h6b.isMap (sum_keyed.key (sum_keyOf y.1 y.2.1 y.2.2)) _ (has_put_mono HM5.out.isMap (sum_keyed.key (sum_keyOf x.1 x.2.1 x.2.2)) _ (HD.out ▸ HH.out d hd))
            have hbel : Go.RowKit.Below w.heap.size w w7 := (HB5.out.drew.grown h6c HB5.out.size (fun j e => by cases e; exact Nat.le_refl _)).grown h7c (Nat.le_trans HB5.out.size h6c.size) (fun j e => by cases e; exact Nat.le_refl _)
            have hown7 : w7.ownsRow (base) 26 32 (.slice (some ⟨g2, 0, none⟩) ys.length c2) ys.length (digCells rs) := (HO5.out.drew.kept h6c (.inr (fun e => by have : g2 = w.heap.size := Option.some.inj e; omega))).kept h7c (.inr (fun e => by have : g2 = w.heap.size := Option.some.inj e; omega))
            have HFin : Hid (∀ i : Value, i = .int .i64 ((k + 1 : Nat) : Int) → ∃ k' : Nat, 1 ≤ k' ∧ (k' ≤ ys.length ∨ k' = 1) ∧ i = .int .i64 k' ∧ w7.ownsMap Tryd.prog 26 elemN w.heap.size (ls.length + 2 * k') (raiseTo rs (needOf ls) k') ∧ w7.ownsRow (base) 26 32 (.slice (some ⟨g2, 0, none⟩) ys.length c2) ys.length (digCells rs) ∧ Go.RowKit.Below w.heap.size w w7 ∧ Hid (∀ d ∈ rs, Maps.has (raiseTo rs (needOf ls) k') (sumLit d.1) = true)) := Lib.hid fun i hi => ⟨k + 1, by omega, .inl (by omega), hi, by simpa [Nat.mul_add, Nat.add_assoc] using h7b, hown7, hbel, hhas⟩
            have HLa := Lib.hid hla
            have HLb := Lib.hid hlb
            have HMe := Lib.hid hme
            have H6a := Lib.hid h6a
            have H7a := Lib.hid h7a
            have HS13 : Hid (SS p8 p9 x y w5.drew) := Lib.hid ⟨HP85.out, HP95.out⟩
            have HS6 : Hid (SS p8 p9 x y w6) := Lib.hid ⟨fun j u hj => h6c.cell (HP85.out j u hj) (fun e => by rw [Addr.add_lit] at e; have : p8 = w.heap.size := Option.some.inj e; omega), fun j u hj => h6c.cell (HP95.out j u hj) (fun e => by rw [Addr.add_lit] at e; have : p9 = w.heap.size := Option.some.inj e; omega)⟩
            have HS7 : Hid (SS p8 p9 x y w7) := Lib.hid ⟨fun j u hj => h7c.cell (HS6.out.1 j u hj) (fun e => by rw [Addr.add_lit] at e; have : p8 = w.heap.size := Option.some.inj e; omega), fun j u hj => h7c.cell (HS6.out.2 j u hj) (fun e => by rw [Addr.add_lit] at e; have : p9 = w.heap.size := Option.some.inj e; omega)⟩
            clear hla hlb hme hst h6a h6b h6c h7a h7b h7c hata hatb hea heb hraise hhas hbel hown7 hwa hwb hwua hwub HM5 HO5 HB5 HP85 HP95 HH hHx hHy
            refine wp_region_held (S := SS p8 p9 x y) (by kernel_rfl) ?_
            refine wpAnyH_take (i := 0) (oi := ⟨some 46, _, _, _, _, _⟩) (v := ?_) rfl (by kernel_rfl) (by kernel_rfl) (by kernel_rfl) (fun _ _ _ h => h) (Or.inl ⟨by rfl, fun w' hw' => by go_simp; with_reducible rfl⟩) HS13.out ?_
            simp only [Act.put, List.setIfInBounds_toArray, List.set_cons_succ, List.set_cons_zero]
            refine wpAnyH_take (i := 1) (oi := ⟨some 47, _, _, _, _, _⟩) (v := .agg (arr32 x.1)) rfl (by kernel_rfl) (by kernel_rfl) (by kernel_rfl) (fun _ _ _ h => h) ?y1 HS13.out ?_
            case y1 => exact yieldsIf_load ⟨p8, 0, none⟩ _ _ (fun w hw => hw.1) Tryd.underlying26 HIx.out rfl rfl
            simp only [Act.put, List.setIfInBounds_toArray, List.set_cons_succ, List.set_cons_zero]
            refine wpAnyH_take (i := 2) (oi := ⟨some 48, _, _, _, _, _⟩) (v := ?_) rfl (by kernel_rfl) (by kernel_rfl) (by kernel_rfl) (fun _ _ _ h => h) (Or.inl ⟨by rfl, fun w' hw' => by go_simp; with_reducible rfl⟩) HS13.out ?_
            simp only [Act.put, List.setIfInBounds_toArray, List.set_cons_succ, List.set_cons_zero]
            refine wpAnyH_take (i := 3) (oi := ⟨some 49, _, _, _, _, _⟩) (v := .agg (arr32 y.1)) rfl (by kernel_rfl) (by kernel_rfl) (by kernel_rfl) (fun _ _ _ h => h) ?y3 HS13.out ?_
            case y3 => exact yieldsIf_load ⟨p9, 0, none⟩ _ _ (fun w hw => hw.2) Tryd.underlying26 HIy.out rfl rfl
            simp only [Act.put, List.setIfInBounds_toArray, List.set_cons_succ, List.set_cons_zero]
            refine wpAnyH_take (i := 4) (oi := ⟨some 50, _, _, _, _, _⟩) (v := ?_) rfl (by kernel_rfl) (by kernel_rfl) (by kernel_rfl) (fun _ _ _ h => h) (Or.inl ⟨by rfl, fun w' hw' => by go_simp; with_reducible rfl⟩) HS13.out ?_
            simp only [Act.put, List.setIfInBounds_toArray, List.set_cons_succ, List.set_cons_zero]
            refine wpAnyH_take (i := 5) (oi := ⟨some 51, _, _, _, _, _⟩) (v := .agg (arr32 x.1)) rfl (by kernel_rfl) (by kernel_rfl) (by kernel_rfl) (fun _ _ _ h => h) ?y5 HS13.out ?_
            case y5 => exact yieldsIf_load ⟨p8, 0, none⟩ _ _ (fun w hw => hw.1) Tryd.underlying26 HIx.out rfl rfl
            simp only [Act.put, List.setIfInBounds_toArray, List.set_cons_succ, List.set_cons_zero]
            refine wpAnyH_take (i := 7) (oi := ⟨some 53, _, _, _, _, _⟩) (v := ?_) rfl (by kernel_rfl) (by kernel_rfl) (by kernel_rfl) (fun _ _ _ h => h) (Or.inl ⟨by rfl, fun w' hw' => by go_simp; with_reducible rfl⟩) HS13.out ?_
            simp only [Act.put, List.setIfInBounds_toArray, List.set_cons_succ, List.set_cons_zero]
            refine wpAnyH_take (i := 9) (oi := ⟨some 55, _, _, _, _, _⟩) (v := ?_) rfl (by kernel_rfl) (by kernel_rfl) (by kernel_rfl) (fun _ _ _ h => h) (Or.inl ⟨by rfl, fun w' hw' => by go_simp; with_reducible rfl⟩) HS13.out ?_
            simp only [Act.put, List.setIfInBounds_toArray, List.set_cons_succ, List.set_cons_zero]
            refine wpAnyH_take (i := 10) (oi := ⟨some 56, _, _, _, _, _⟩) (v := .agg (arr32 y.1)) rfl (by kernel_rfl) (by kernel_rfl) (by kernel_rfl) (fun _ _ _ h => h) ?y10 HS13.out ?_
            case y10 => exact yieldsIf_load ⟨p9, 0, none⟩ _ _ (fun w hw => hw.2) Tryd.underlying26 HIy.out rfl rfl
            simp only [Act.put, List.setIfInBounds_toArray, List.set_cons_succ, List.set_cons_zero]
            refine wpAnyH_take (i := 12) (oi := ⟨some 58, _, _, _, _, _⟩) (v := ?_) rfl (by kernel_rfl) (by kernel_rfl) (by kernel_rfl) (fun _ _ _ h => h) (Or.inl ⟨by rfl, fun w' hw' => by go_simp; with_reducible rfl⟩) HS13.out ?_
            simp only [Act.put, List.setIfInBounds_toArray, List.set_cons_succ, List.set_cons_zero]
            refine wpAnyH_all (rs := [6, 11]) (by kernel_rfl) (by simp) ?_
            intro i hi
            have hi2 : i = 6 ∨ i = 11 := by simpa using hi
            rcases hi2 with rfl | rfl
            · refine wpOp_step (o := ⟨some 52, _, _, _, _, _⟩) rfl (fun K' hK' => ?_)
              rw [if_pos (show Region.wanted _ _ = true from rfl)]
              refine op_lookup (.map (some w.heap.size)) (.agg (arr32 x.1)) (.int .i64 ca) rfl rfl HLa.out ?_
              refine hK' _ _ ⟨HS13.out, ?_⟩
              clear hK' K'
              simp only [Act.put, List.setIfInBounds_toArray, List.set_cons_succ, List.set_cons_zero]
              refine wpAnyH_take (i := 8) (oi := ⟨some 54, _, _, _, _, _⟩) (v := .int .i64 (up ca ((alikeOf x.1 y.1 : Nat) + 1))) rfl (by kernel_rfl) (by kernel_rfl) (by kernel_rfl) (fun _ _ _ h => h) ?y8 HS13.out ?_
              case y8 => exact yieldsIf_max ca ((alikeOf x.1 y.1 : Nat) + 1) rfl rfl
              simp only [Act.put, List.setIfInBounds_toArray, List.set_cons_succ, List.set_cons_zero]
              refine wpAnyH_all (rs := [11]) (by kernel_rfl) (by simp) ?_
              intro i hi
              obtain rfl : i = 11 := by simpa using hi
              refine wpOp_step (o := ⟨some 57, _, _, _, _, _⟩) rfl (fun K' hK' => ?_)
              rw [if_pos (show Region.wanted _ _ = true from rfl)]
              refine op_lookup (.map (some w.heap.size)) (.agg (arr32 y.1)) (.int .i64 cb) rfl rfl HLb.out ?_
              refine hK' _ _ ⟨HS13.out, ?_⟩
              clear hK' K'
              simp only [Act.put, List.setIfInBounds_toArray, List.set_cons_succ, List.set_cons_zero]
              refine wpAnyH_take (i := 13) (oi := ⟨some 59, _, _, _, _, _⟩) (v := .int .i64 (up cb ((alikeOf x.1 y.1 : Nat) + 1))) rfl (by kernel_rfl) (by kernel_rfl) (by kernel_rfl) (fun _ _ _ h => h) ?y13 HS13.out ?_
              case y13 => exact yieldsIf_max cb ((alikeOf x.1 y.1 : Nat) + 1) rfl rfl
              simp only [Act.put, List.setIfInBounds_toArray, List.set_cons_succ, List.set_cons_zero]
              refine wpAnyH_all (rs := [14]) (by kernel_rfl) (by simp) ?_
              intro i hi
              obtain rfl : i = 14 := by simpa using hi
              refine wpOp_step (o := ⟨some 60, _, _, _, _, _⟩) rfl (fun K' hK' => ?_)
              rw [if_pos (show Region.wanted _ _ = true from rfl)]
              refine op_mapEntry (.map (some w.heap.size)) (.agg (arr32 x.1)) (.tuple #[v0, goInt st]) rfl rfl HMe.out ?_
              refine hK' _ _ ⟨HS13.out, ?_⟩
              clear hK' K'
              simp only [Act.put, List.setIfInBounds_toArray, List.set_cons_succ, List.set_cons_zero]
              refine wpAnyH_take (i := 15) (oi := ⟨some 61, _, _, _, _, _⟩) (v := ?_) rfl (by kernel_rfl) (by kernel_rfl) (by kernel_rfl) (fun _ _ _ h => h) (Or.inl ⟨by rfl, fun w' hw' => by go_simp; with_reducible rfl⟩) HS13.out ?_
              simp only [Act.put, List.setIfInBounds_toArray, List.set_cons_succ, List.set_cons_zero]
              refine wpAnyH_all (rs := [16]) (by kernel_rfl) (by simp) ?_
              intro i hi
              obtain rfl : i = 16 := by simpa using hi
              refine wpOp_step (o := ⟨none, _, _, _, _, _⟩) rfl (fun K' hK' => ?_)
              rw [if_pos (show Region.wanted _ _ = true from rfl)]
              refine op_entryStore (.map (some w.heap.size)) (goInt st) (.int .i64 (up ca ((alikeOf x.1 y.1 : Nat) + 1))) rfl rfl rfl H6a.out ?_
              refine hK' _ _ ⟨HS6.out, ?_⟩
              clear hK' K'
              refine wpAnyH_all (rs := [17]) (by kernel_rfl) (by simp) ?_
              intro i hi
              obtain rfl : i = 17 := by simpa using hi
              refine wpOp_step (o := ⟨none, _, _, _, _, _⟩) rfl (fun K' hK' => ?_)
              rw [if_pos (show Region.wanted _ _ = true from rfl)]
              refine op_mapUpdate (.map (some w.heap.size)) (.agg (arr32 y.1)) (.int .i64 (up cb ((alikeOf x.1 y.1 : Nat) + 1))) rfl rfl rfl H7a.out ?_
              refine hK' _ _ ⟨HS7.out, ?_⟩
              clear hK' K'
              refine wpAnyH_done (by kernel_rfl) ?_ _
              go_wp2
              exact ⟨HFin.out _ (by go_num), by simp [intOf]; omega⟩
            · refine wpOp_step (o := ⟨some 57, _, _, _, _, _⟩) rfl (fun K' hK' => ?_)
              rw [if_pos (show Region.wanted _ _ = true from rfl)]
              refine op_lookup (.map (some w.heap.size)) (.agg (arr32 y.1)) (.int .i64 cb) rfl rfl HLb.out ?_
              refine hK' _ _ ⟨HS13.out, ?_⟩
              clear hK' K'
              simp only [Act.put, List.setIfInBounds_toArray, List.set_cons_succ, List.set_cons_zero]
              refine wpAnyH_take (i := 13) (oi := ⟨some 59, _, _, _, _, _⟩) (v := .int .i64 (up cb ((alikeOf x.1 y.1 : Nat) + 1))) rfl (by kernel_rfl) (by kernel_rfl) (by kernel_rfl) (fun _ _ _ h => h) ?y13 HS13.out ?_
              case y13 => exact yieldsIf_max cb ((alikeOf x.1 y.1 : Nat) + 1) rfl rfl
              simp only [Act.put, List.setIfInBounds_toArray, List.set_cons_succ, List.set_cons_zero]
              refine wpAnyH_all (rs := [6, 14]) (by kernel_rfl) (by simp) ?_
              intro i hi
              have hi2 : i = 6 ∨ i = 14 := by simpa using hi
              rcases hi2 with rfl | rfl
              · refine wpOp_step (o := ⟨some 52, _, _, _, _, _⟩) rfl (fun K' hK' => ?_)
                rw [if_pos (show Region.wanted _ _ = true from rfl)]
                refine op_lookup (.map (some w.heap.size)) (.agg (arr32 x.1)) (.int .i64 ca) rfl rfl HLa.out ?_
                refine hK' _ _ ⟨HS13.out, ?_⟩
                clear hK' K'
                simp only [Act.put, List.setIfInBounds_toArray, List.set_cons_succ, List.set_cons_zero]
                refine wpAnyH_take (i := 8) (oi := ⟨some 54, _, _, _, _, _⟩) (v := .int .i64 (up ca ((alikeOf x.1 y.1 : Nat) + 1))) rfl (by kernel_rfl) (by kernel_rfl) (by kernel_rfl) (fun _ _ _ h => h) ?y8 HS13.out ?_
                case y8 => exact yieldsIf_max ca ((alikeOf x.1 y.1 : Nat) + 1) rfl rfl
                simp only [Act.put, List.setIfInBounds_toArray, List.set_cons_succ, List.set_cons_zero]
                refine wpAnyH_all (rs := [14]) (by kernel_rfl) (by simp) ?_
                intro i hi
                obtain rfl : i = 14 := by simpa using hi
                refine wpOp_step (o := ⟨some 60, _, _, _, _, _⟩) rfl (fun K' hK' => ?_)
                rw [if_pos (show Region.wanted _ _ = true from rfl)]
                refine op_mapEntry (.map (some w.heap.size)) (.agg (arr32 x.1)) (.tuple #[v0, goInt st]) rfl rfl HMe.out ?_
                refine hK' _ _ ⟨HS13.out, ?_⟩
                clear hK' K'
                simp only [Act.put, List.setIfInBounds_toArray, List.set_cons_succ, List.set_cons_zero]
                refine wpAnyH_take (i := 15) (oi := ⟨some 61, _, _, _, _, _⟩) (v := ?_) rfl (by kernel_rfl) (by kernel_rfl) (by kernel_rfl) (fun _ _ _ h => h) (Or.inl ⟨by rfl, fun w' hw' => by go_simp; with_reducible rfl⟩) HS13.out ?_
                simp only [Act.put, List.setIfInBounds_toArray, List.set_cons_succ, List.set_cons_zero]
                refine wpAnyH_all (rs := [16]) (by kernel_rfl) (by simp) ?_
                intro i hi
                obtain rfl : i = 16 := by simpa using hi
                refine wpOp_step (o := ⟨none, _, _, _, _, _⟩) rfl (fun K' hK' => ?_)
                rw [if_pos (show Region.wanted _ _ = true from rfl)]
                refine op_entryStore (.map (some w.heap.size)) (goInt st) (.int .i64 (up ca ((alikeOf x.1 y.1 : Nat) + 1))) rfl rfl rfl H6a.out ?_
                refine hK' _ _ ⟨HS6.out, ?_⟩
                clear hK' K'
                refine wpAnyH_all (rs := [17]) (by kernel_rfl) (by simp) ?_
                intro i hi
                obtain rfl : i = 17 := by simpa using hi
                refine wpOp_step (o := ⟨none, _, _, _, _, _⟩) rfl (fun K' hK' => ?_)
                rw [if_pos (show Region.wanted _ _ = true from rfl)]
                refine op_mapUpdate (.map (some w.heap.size)) (.agg (arr32 y.1)) (.int .i64 (up cb ((alikeOf x.1 y.1 : Nat) + 1))) rfl rfl rfl H7a.out ?_
                refine hK' _ _ ⟨HS7.out, ?_⟩
                clear hK' K'
                refine wpAnyH_done (by kernel_rfl) ?_ _
                go_wp2
                exact ⟨HFin.out _ (by go_num), by simp [intOf]; omega⟩
              · refine wpOp_step (o := ⟨some 60, _, _, _, _, _⟩) rfl (fun K' hK' => ?_)
                rw [if_pos (show Region.wanted _ _ = true from rfl)]
                refine op_mapEntry (.map (some w.heap.size)) (.agg (arr32 x.1)) (.tuple #[v0, goInt st]) rfl rfl HMe.out ?_
                refine hK' _ _ ⟨HS13.out, ?_⟩
                clear hK' K'
                simp only [Act.put, List.setIfInBounds_toArray, List.set_cons_succ, List.set_cons_zero]
                refine wpAnyH_take (i := 15) (oi := ⟨some 61, _, _, _, _, _⟩) (v := ?_) rfl (by kernel_rfl) (by kernel_rfl) (by kernel_rfl) (fun _ _ _ h => h) (Or.inl ⟨by rfl, fun w' hw' => by go_simp; with_reducible rfl⟩) HS13.out ?_
                simp only [Act.put, List.setIfInBounds_toArray, List.set_cons_succ, List.set_cons_zero]
                refine wpAnyH_all (rs := [6]) (by kernel_rfl) (by simp) ?_
                intro i hi
                obtain rfl : i = 6 := by simpa using hi
                refine wpOp_step (o := ⟨some 52, _, _, _, _, _⟩) rfl (fun K' hK' => ?_)
                rw [if_pos (show Region.wanted _ _ = true from rfl)]
                refine op_lookup (.map (some w.heap.size)) (.agg (arr32 x.1)) (.int .i64 ca) rfl rfl HLa.out ?_
                refine hK' _ _ ⟨HS13.out, ?_⟩
                clear hK' K'
                simp only [Act.put, List.setIfInBounds_toArray, List.set_cons_succ, List.set_cons_zero]
                refine wpAnyH_take (i := 8) (oi := ⟨some 54, _, _, _, _, _⟩) (v := .int .i64 (up ca ((alikeOf x.1 y.1 : Nat) + 1))) rfl (by kernel_rfl) (by kernel_rfl) (by kernel_rfl) (fun _ _ _ h => h) ?y8 HS13.out ?_
                case y8 => exact yieldsIf_max ca ((alikeOf x.1 y.1 : Nat) + 1) rfl rfl
                simp only [Act.put, List.setIfInBounds_toArray, List.set_cons_succ, List.set_cons_zero]
                refine wpAnyH_all (rs := [16]) (by kernel_rfl) (by simp) ?_
                intro i hi
                obtain rfl : i = 16 := by simpa using hi
                refine wpOp_step (o := ⟨none, _, _, _, _, _⟩) rfl (fun K' hK' => ?_)
                rw [if_pos (show Region.wanted _ _ = true from rfl)]
                refine op_entryStore (.map (some w.heap.size)) (goInt st) (.int .i64 (up ca ((alikeOf x.1 y.1 : Nat) + 1))) rfl rfl rfl H6a.out ?_
                refine hK' _ _ ⟨HS6.out, ?_⟩
                clear hK' K'
                refine wpAnyH_all (rs := [17]) (by kernel_rfl) (by simp) ?_
                intro i hi
                obtain rfl : i = 17 := by simpa using hi
                refine wpOp_step (o := ⟨none, _, _, _, _, _⟩) rfl (fun K' hK' => ?_)
                rw [if_pos (show Region.wanted _ _ = true from rfl)]
                refine op_mapUpdate (.map (some w.heap.size)) (.agg (arr32 y.1)) (.int .i64 (up cb ((alikeOf x.1 y.1 : Nat) + 1))) rfl rfl rfl H7a.out ?_
                refine hK' _ _ ⟨HS7.out, ?_⟩
                clear hK' K'
                refine wpAnyH_done (by kernel_rfl) ?_ _
                go_wp2
                exact ⟨HFin.out _ (by go_num), by simp [intOf]; omega⟩
        · have hkm : k = max 1 ys.length := by omega
          rw [hkm] at hM
          obtain ⟨D, hD⟩ : ∃ D, D = raiseTo rs (needOf ls) (max 1 ys.length) := ⟨_, rfl⟩
          rw [← hD] at hM
          obtain ⟨i1, hi1, hq0, hq1, hq2⟩ := info_parts intInfo3
          have hmlt : w.heap.size < wr.heap.size := hM.lt
          have hbs := hB.size
          have HM := Lib.hid hM
          have HB := Lib.hid hB
          have HDD := Lib.hid hD
          clear hM hO hB HH hD hkm hk1 hk2
          go_wp2_with (at_make; refine wpList_make_row _ rfl _ _ 68 rfl 3 i1 (.int .i64 0) Tryd.underlying68 hi1 hq0 hq1 rfl .i64 .i64 ls.length rfl rfl (by rw [hq2]; omega) (by omega) ?_)
          have HG : Hid (Has (wr.alloc (.cells (madeCells #[.int .i64 0] ls.length) 3)) wr.heap.size 3 (madeCells #[.int .i64 0] ls.length)) := Lib.hid (Has.fresh wr _ _)
          have HMA := Lib.hid (HM.out.alloc (.cells (madeCells #[.int .i64 0] ls.length) 3))
          have HBA := Lib.hid (HB.out.alloc HB.out.size (.cells (madeCells #[.int .i64 0] ls.length) 3))
          generalize hG : wr.heap.size = G at HG hmlt hbs ⊢
          clear hG HM HB
          go_loopw [67] (fun i wr3 => ∃ (k3 : Nat) (cs : Array Value), k3 ≤ ls.length ∧ i = .int .i64 k3 ∧ cs.size = ls.length ∧ Has wr3 G 3 cs ∧ Hid (∀ j x, j < k3 → ls[j]? = some x → cs[j]? = some (.int .i64 (getN D (sumLit x.1)))) ∧ wr3.ownsMap Tryd.prog 26 elemN w.heap.size (ls.length + 2 * max 1 ys.length) D ∧ Go.RowKit.Below w.heap.size w wr3) (fun i _ => ls.length - (intOf i).toNat)
          case atStart => exact ⟨0, _, Nat.zero_le _, rfl, size_madeCells _ _, HG.out, Lib.hid (fun j x hj => by omega), HMA.out, HBA.out⟩
          case round =>
            obtain ⟨k3, cs, hk3, rfl, hcs, hR, HV, hM, hB⟩ := hrel
            by_cases hlt : k3 < ls.length
            · obtain ⟨x, hx⟩ : ∃ x, ls[k3]? = some x := ⟨_, List.getElem?_eq_getElem hlt⟩
              have hx2 : (ls.map (·.1))[k3]? = some x.1 := by rw [List.getElem?_map, hx]; rfl
              have hxl := x.2.1
              rcases HS.out with ⟨_, he, _⟩ | ⟨g, off, rfl, hg, hss, _, _⟩
              · rw [he] at hx2; simp at hx2
              have HRow := Lib.hid ((hss.below hg hB).row hx2)
              clear hss
              have HI := Lib.hid (arr32_info x.1 (by omega))
              have HSz := Lib.hid (zero32_size x.1 (by omega))
              have HF := Lib.hid (fresh_sum wr)
              have hml : w.heap.size < wr.heap.size := hM.lt
              have hgl := hR.lt
              have HR := Lib.hid hR
              have HM := Lib.hid hM
              have HB := Lib.hid hB
              have HKey := Lib.hid (sum_keyOf x.1 x.2.1 x.2.2)
              have HX := Lib.hid hx
              obtain ⟨u0, hu0⟩ : ∃ u0, cs[k3]? = some u0 := ⟨_, Array.getElem?_eq_getElem (by omega)⟩
              have HU := Lib.hid hu0
              clear hM hB hR hx hx2 hu0
              go_upto_region 18 with (first
                | ((with_reducible refine arm_load (w := wr) ⟨g, off + k3 * 32, none⟩ _ _ HRow.out Tryd.underlying26 HI.out ?h1 ?h2 ?_); (case h1 => rfl); (case h2 => rfl))
                | ((with_reducible refine arm_store wr.heap.size (arr32 x.1) 26 zero32 HF.out HSz.out HI.out (arr32_one _) ?h5 ?h6 ?_); (case h5 => rfl); (case h6 => rfl)))
              refine gen_world (P := fun W => Code.wp _ _ _ _ W) (I := fun V => Go.RowKit.Below wr.heap.size wr V ∧ Has V wr.heap.size 26 (arr32 x.1)) _ ⟨below_setRow ((Go.RowKit.Below.refl _ wr).alloc (Nat.le_refl _) _) (Nat.le_refl _) _, HF.out.setRow⟩ ?_
              rintro V ⟨hBV, hXV⟩
              have hRV : Has V G 3 cs := HR.out.below hBV hgl
              have c0 : V.cell? ⟨G, k3, none⟩ = some u0 := (hRV.cell k3).trans HU.out
              have f0 : V.frozen? ⟨G, k3, none⟩ = false := hRV.free k3
              have HRV := Lib.hid hRV
              have HMV := Lib.hid (ownsMap_same HM.out (hBV.block _ hml))
              have HBV := Lib.hid (HB.out.trans (hBV.mono HB.out.size))
              have HXV := Lib.hid hXV.row
              clear hBV hXV hRV
              go_wp2_with (first
                | ((with_reducible refine arm_load (w := V) ⟨wr.heap.size, 0, none⟩ _ _ HXV.out Tryd.underlying26 HI.out ?h3 ?h4 ?_); (case h3 => rfl); (case h4 => rfl))
                | (at_lookup; refine wpList_lookup_own_int _ rfl _ _ 114 rfl 26 3 .i64 sum_keyed Tryd.underlying114 Tryd.underlying3 (Tryd.zeroValue3 _) w.heap.size _ D rfl HMV.out _ (sumLit x.1) rfl HKey.out ?_; intro cx hatx hwx; have HAt := Lib.hid hatx; clear hatx hwx))
              have hget : getN D (sumLit x.1) = cx := by unfold getN litN; rw [HAt.out]
              refine ⟨⟨k3 + 1, cs.setIfInBounds k3 (.int .i64 cx), by omega, by go_num, by simpa using hcs, HRV.out.put k3 _, Lib.hid (fun j y hj hy => ?_), ownsMap_same HMV.out ?_, HBV.out.setCell (by simp; omega) _⟩, by simp [intOf]; omega⟩
              · by_cases hjk : j = k3
                · subst hjk
                  rw [HX.out] at hy
                  cases hy
                  rw [Array.getElem?_setIfInBounds_self_of_lt (by omega), hget]
                · rw [Array.getElem?_setIfInBounds_ne (Ne.symm hjk)]
                  exact HV.out j y (by omega) hy
              · exact Below.heap_setCell _ _ _ _ (by simp; omega)
            · obtain rfl : k3 = ls.length := by omega
              have HR := Lib.hid hR
              have HM := Lib.hid hM
              have HB := Lib.hid hB
              have hgl := hR.lt
              clear hM hB hR
              go_wp2
              go_ret
              refine ⟨_, ys, rfl, HSY.out, ?_, HB.out⟩
              have hcl : cs.toList = ls.map fun x => .int .i64 (getN (raiseTo (rising ys) (needOf ls) (max 1 ys.length)) (sumLit x.1)) := by
                apply List.ext_getElem? 
                intro j
                by_cases hj : j < ls.length
                · rw [Array.getElem?_toList, HV.out j ls[j] hj (List.getElem?_eq_getElem hj), List.getElem?_map, List.getElem?_eq_getElem hj, HDD.out, HRs.out]
                  rfl
                · rw [List.getElem?_eq_none (by simpa [hcs] using hj), List.getElem?_eq_none (by simpa using hj)]
              refine ⟨by simp, .inr ⟨G, ls.length, cs, rfl, by omega, HR.out, Nat.le_refl _, by unfold maxLen; omega, by omega, ?_⟩⟩
              rw [← hcl, Nat.mul_one, ← hcs, ← Array.length_toList, List.take_length]
end Go.Proofs.YtffdkniahdekjaaDoor
end
section
namespace Go.Proofs.YtffdkniahdekjaaDoor
open Go.RowKit Go.Hoar
set_option maxHeartbeats 1000000 in
theorem find_nil (s : ByteArray) (h1 : 1 ≤ s.size) (h2 : s.size ≤ 64) (hd : AllDig s) (w : World) :
    Calls Tryd.prog 45 #[.string s, .slice none 0 0] w fun e w' => e = .returned (.tuple #[.int .i64 0, .int .i64 6]) ∧ Below w.heap.size w w' := by
  have hdig : ∀ V, Calls Tryd.prog 63 #[.string s] V fun e w' => ∃ gd, e = .returned (.tuple #[.slice (some ⟨gd, 0, none⟩) s.size s.size, .bool true]) ∧ Below V.heap.size V w' := fun V =>
    (digits_any s (by omega) V).mono (by
      rintro e w' ⟨⟨_, rfl, ho⟩ | ⟨k, _⟩, hb⟩
      · exact ⟨_, rfl, hb⟩
      · exact absurd hd k)
  have i1 : ¬ (s.size : Int) < 1 := by omega
  have i2 : ¬ (64 : Int) < s.size := by omega
  have HD := Lib.hid hdig
  clear hdig hd
  go_enter Tryd.func45, Tryd.ntmps45
  go_wp2_with (first
    | (go_at_call 63; refine (HD.out _).mono ?_; rintro e w1 ⟨gd, rfl, hbel⟩; have HB1 := Lib.hid hbel; clear hbel))
  go_loopw [8, 28] (fun f i wr => ∃ z : Int, z < 0 ∧ i = .int .i64 0 ∧ f = .int .i64 z ∧ Below w.heap.size w wr) (fun _ _ _ => 0)
  case atStart => exact ⟨-1, by omega, rfl, rfl, HB1.out⟩
  case round =>
    obtain ⟨z, hz, rfl, rfl, hB⟩ := hrel
    have HB := Lib.hid hB
    clear hB
    go_wp2
    go_ret2
    exact ⟨rfl, HB.out⟩
/-- Both find alike. -/
theorem find_both (ls : List (List Nat)) (s : ByteArray) (hs : s.size ≤ 1099511627776) (hn : ls.length ≤ 1000) : ∃ (i er : Int),
    (∀ (V : World) (a : Option Addr) (c : Nat), RowOk V a c ls → Calls Tryd.prog 45 #[.string s, .slice a ls.length c] V fun e w' => e = .returned (.tuple #[.int .i64 i, .int .i64 er]) ∧ Below V.heap.size V w') ∧
    (∀ (V : World) (a : Option Addr) (c : Nat), RowOk V a c ls → Calls Tryd.prog 46 #[.string s, .slice a ls.length c] V fun e w' => e = .returned (.tuple #[.int .i64 i, .int .i64 er]) ∧ Below V.heap.size V w') := by
  by_cases h : s.size < 1 ∨ 64 < s.size
  · exact ⟨0, 2, fun V a c _ => (find_many s h hs _ V).mono fun e w' h => ⟨h.1, by rw [h.2]; exact Below.refl _ _⟩, fun V a c _ => (refFind_many s h hs _ V).mono fun e w' h => ⟨h.1, by rw [← h.2]; exact Below.refl _ _⟩⟩
  · have h1 : 1 ≤ s.size := by omega
    have h2 : s.size ≤ 64 := by omega
    by_cases hd : AllDig s
    · refine ⟨(findGo (digsK s s.size) 0 none ls).1, (findGo (digsK s s.size) 0 none ls).2, fun V a c hr => ?_, fun V a c hr => refFind_any s h1 h2 hd ls a c V hr (by omega) _ (Lib.hid rfl)⟩
      rcases hr with ⟨rfl, rfl, rfl⟩ | ⟨g, off, rfl, hg, hss, hc, hm⟩
      · exact find_nil s h1 h2 hd V
      · exact find_any s h1 h2 hd ls g off c V hss hg hc hm (by omega) _ (Lib.hid rfl)
    · exact ⟨0, 4, fun V a c _ => find_form s h1 h2 hd _ V, fun V a c _ => (refFind_form s h1 h2 hd _ V).mono fun e w' h => ⟨h.1, by rw [← h.2]; exact Below.refl _ _⟩⟩
/-- What both say of a list. -/
def needs (ls : List Dig) : List Int := ls.map fun x => ((needR x ls : Nat) : Int)
theorem short_both (ls : List Dig) (hn : ls.length ≤ 60) :
    (∀ (V : World) (a : Option Addr) (c : Nat), RowOk V a c (ls.map (·.1)) → Calls Tryd.prog 44 #[.slice a ls.length c] V fun e w' => ∃ v, e = .returned v ∧ w'.ownsRow V.heap.size 3 1 v ls.length ((needs ls).map fun n => .int .i64 n) ∧ Below V.heap.size V w') ∧
    (∀ (V : World) (a : Option Addr) (c : Nat), RowOk V a c (ls.map (·.1)) → Calls Tryd.prog 48 #[.slice a ls.length c] V fun e w' => ∃ v, e = .returned v ∧ w'.ownsRow V.heap.size 3 1 v ls.length ((needs ls).map fun n => .int .i64 n) ∧ Below V.heap.size V w') := by
  constructor
  · intro V a c hr
    refine (short_row ls a c V hr (by omega)).mono ?_
    rintro e w' ⟨v, ys, rfl, hk, ho, hb⟩
    refine ⟨v, rfl, ?_, hb⟩
    have e1 : ((needs ls).map fun n => Value.int .i64 n) = ls.map fun x => .int .i64 (getN (raiseTo (rising ys) (needOf ls) (max 1 ys.length)) (sumLit x.1)) := by
      rw [needs, List.map_map]
      exact List.map_congr_left fun x hx => congrArg (Value.int .i64) (isNeed_unique (needR_need ls x) (short_need ls ys hk x hx))
    rw [e1]
    exact ho
  · intro V a c hr
    refine (refShort_any ls a c V hr hn).mono ?_
    rintro e w' ⟨v, rfl, ho, hb⟩
    refine ⟨v, rfl, ?_, hb⟩
    rw [needs, List.map_map]
    exact ho
theorem intsEqual_own (vals : List Int) (n : Nat) (hn : vals.length = n) (hbig : n ≤ 1000) (b1 b2 : Nat) (a b : Option Addr) (c d : Nat) (w : World) (h1 : w.ownsRow b1 3 1 (.slice a n c) n (vals.map fun n => .int .i64 n)) (h2 : w.ownsRow b2 3 1 (.slice b n d) n (vals.map fun n => .int .i64 n)) :
    Calls Tryd.prog 47 #[.slice a n c, .slice b n d] w fun e w' => e = .returned (.bool true) ∧ Below w.heap.size w w' := by
  rcases Nat.eq_zero_or_pos n with rfl | hp
  · refine (Tryd.slices_Equal_int_empty a b c 0 d w (by omega)).mono ?_
    rintro e w' ⟨rfl, rfl⟩
    exact ⟨rfl, Below.refl _ _⟩
  · obtain ⟨g1, rfl, _, _⟩ := own_addr h1 hp
    obtain ⟨g2, rfl, _, _⟩ := own_addr h2 hp
    have hc : ∀ (g : Nat) (base : Nat) (cc : Nat), w.ownsRow base 3 1 (.slice (some ⟨g, 0, none⟩) n cc) n (vals.map fun n => .int .i64 n) → ∀ j, j < vals.length → w.cell? ⟨g, 0 + j, none⟩ = some (.int .i64 (vals.getD j 0)) := fun g base cc ho j hj => by
      have h := ho.cells (g := g) rfl j (.int .i64 (vals.getD j 0)) (by
        rw [List.getElem?_map, List.getElem?_eq_getElem hj, List.getD_eq_getElem?_getD, List.getElem?_eq_getElem hj]; rfl)
      rwa [Addr.add_lit] at h
    refine (Tryd.slices_Equal_int g1 0 n c g2 0 n d vals vals w (by omega) (by omega) (by omega) (by omega) (hc g1 b1 c h1) (hc g2 b2 d h2)).mono ?_
    rintro e w' ⟨rfl, q, rfl⟩
    exact ⟨by rw [beq_self_eq_true], below_drewN (Below.refl _ _) _⟩
theorem shorts_big (m : Nat) (s : ByteArray) (hbig : 60 < m ∨ 100 < s.size) (a : Option Addr) (c : Nat) (w : World) (hc : ConstAt w) :
    Calls Tryd.prog 9 #[.slice a m c, .string s] w fun e w' => e = .returned (.bool true) ∧ Below w.heap.size w w' := by
  have HAw : Hid (∀ V : World, Below w.heap.size w V → Calls Tryd.prog 15 #[] V fun e w' => e = .returned (.bool true) ∧ Below V.heap.size V w') := Lib.hid fun V hV => awake_any V (hc.below hV rfl)
  clear hc
  by_cases h1 : 60 < m
  · have hb2 : (60 : Int) < m := by omega
    clear hbig
    go_enter Tryd.func9, Tryd.ntmps9
    go_wp2_with (go_at_call 15; (with_reducible refine (HAw.out _ (Below.refl _ _)).mono ?_); rintro e w1 ⟨rfl, hb1⟩; have HB1 := Lib.hid hb1; clear hb1)
    go_ret
    exact ⟨rfl, HB1.out⟩
  · have hb2 : ¬ (60 : Int) < m := by omega
    have hb3 : (100 : Int) < s.size := by omega
    clear hbig
    go_enter Tryd.func9, Tryd.ntmps9
    go_wp2_with (go_at_call 15; (with_reducible refine (HAw.out _ (Below.refl _ _)).mono ?_); rintro e w1 ⟨rfl, hb1⟩; have HB1 := Lib.hid hb1; clear hb1)
    go_ret
    exact ⟨rfl, HB1.out⟩
set_option maxRecDepth 100000 in
set_option maxHeartbeats 3000000 in
/-- THE LAW's WALK. -/
theorem shorts_law (ps : List (List Nat)) (hok : SumsOk ps) (s : ByteArray) (a : Option Addr) (c : Nat) (w : World) (hr : RowOk w a c ps) (hc : ConstAt w) :
    Calls Tryd.prog 9 #[.slice a ps.length c, .string s] w fun e w' => e = .returned (.bool true) ∧ Below w.heap.size w w' := by
  by_cases hbig : 60 < ps.length ∨ 100 < s.size
  · exact shorts_big ps.length s hbig a c w hc
  · have hb1 : ¬ (60 : Int) < (ps.length : Int) := by omega
    have hb2 : ¬ (100 : Int) < (s.size : Int) := by omega
    obtain ⟨xs, hxs⟩ := digs_of hok
    have hxl : xs.length = ps.length := by rw [← hxs, List.length_map]
    obtain ⟨p1, p2⟩ := short_both xs (by omega)
    rw [hxs, hxl] at p1 p2
    obtain ⟨i, er, f1, f2⟩ := find_both ps s (by omega) (by omega)
    have hnl : (needs xs).length = ps.length := by rw [needs, List.length_map, hxl]
    generalize needs xs = vals at p1 p2 hnl
    have HP1 := Lib.hid p1
    have HP2 := Lib.hid p2
    have HF1 := Lib.hid f1
    have HF2 := Lib.hid f2
    have HC := Lib.hid hc
    have HR := Lib.hid hr
    have HOk := Lib.hid hok
    have HNl := Lib.hid hnl
    have HCl : Hid (∀ V, Below w.heap.size w V → Calls Tryd.prog 32 #[.slice a ps.length c] V fun e w' => ∃ v, e = .returned v ∧ w'.ownsRow V.heap.size 26 32 v ps.length (ps.flatMap cellsOf) ∧ Below V.heap.size V w') := Lib.hid fun V hV => cloneSums_any ps hok (by omega) a c V (hr.below hV)
    have HAw : Hid (∀ V : World, ConstAt V → Calls Tryd.prog 15 #[] V fun e w' => e = .returned (.bool true) ∧ Below V.heap.size V w') := Lib.hid fun V hV => awake_any V hV
    have hpl : ps.length ≤ 60 := by omega
    clear hc hr hbig p1 p2 f1 f2 hok hnl hxs hxl
    go_enter Tryd.func9, Tryd.ntmps9
    go_wp2_with (first
      | (go_at_call 32; (with_reducible refine (HCl.out _ (Below.refl _ _)).mono ?_); rintro e w1 ⟨v1, rfl, ho1, hb⟩; obtain ⟨a1, c1, rfl, hr1, _, _, _⟩ := row_of_own ho1 HOk.out rfl; have HB1 := Lib.hid hb; have HR1 := Lib.hid hr1; clear ho1 hb hr1)
      | (go_at_call 44; (with_reducible refine (HP1.out _ _ _ HR1.out).mono ?_); rintro e w2 ⟨v2, rfl, ho2, hb⟩; obtain ⟨a2, c2, rfl, _, _⟩ := own_shape ho2; have HO2 := Lib.hid ho2; have HB2 := Lib.hid (HB1.out.trans (hb.mono HB1.out.size)); have HR2 := Lib.hid (HR1.out.below hb); clear hb ho2)
      | (go_at_call 45; (with_reducible refine (HF1.out _ _ _ HR2.out).mono ?_); rintro e w3 ⟨rfl, hb⟩; have HO3 := Lib.hid (own_below HO2.out hb); have HB3 := Lib.hid (HB2.out.trans (hb.mono HB2.out.size)); have HR3 := Lib.hid (HR2.out.below hb); clear hb)
      | (go_at_call 46; (with_reducible refine (HF2.out _ _ _ (HR.out.below HB3.out)).mono ?_); rintro e w4 ⟨rfl, hb⟩; have HO4 := Lib.hid (own_below HO3.out hb); have HB4 := Lib.hid (HB3.out.trans (hb.mono HB3.out.size)); have HR4 := Lib.hid (HR3.out.below hb); clear hb)
      | (go_at_call 48; (with_reducible refine (HP2.out _ _ _ (HR.out.below HB4.out)).mono ?_); rintro e w5 ⟨v5, rfl, ho5, hb⟩; obtain ⟨a5, c5, rfl, _, _⟩ := own_shape ho5; have HO5 := Lib.hid (own_below HO4.out hb); have HV5 := Lib.hid ho5; have HB5 := Lib.hid (HB4.out.trans (hb.mono HB4.out.size)); have HR5 := Lib.hid (HR4.out.below hb); clear hb ho5)
      | (go_at_call 47; (with_reducible refine (intsEqual_own vals _ HNl.out (by omega) _ _ _ _ _ _ _ HO5.out HV5.out).mono ?_); rintro e w6 ⟨rfl, hb⟩; have HB6 := Lib.hid (HB5.out.trans (hb.mono HB5.out.size)); have HR6 := Lib.hid (HR5.out.below hb); clear hb)
      | (go_at_call 37; (with_reducible refine (sumsEqual_same ps HOk.out (by omega) _ _ _ _ _ HR6.out (HR.out.below HB6.out)).mono ?_); rintro e w7 ⟨rfl, hb⟩; have HB7 := Lib.hid (HB6.out.trans (hb.mono HB6.out.size)); clear hb)
      | (go_at_call 15; (with_reducible refine (HAw.out _ (HC.out.below HB7.out rfl)).mono ?_); rintro e w8 ⟨rfl, hb⟩; have HB8 := Lib.hid (HB7.out.trans (hb.mono HB7.out.size)); clear hb))
    go_ret
    exact ⟨rfl, HB8.out⟩
end Go.Proofs.YtffdkniahdekjaaDoor
end
section
namespace Go.Proofs.YtffdkniahdekjaaDoor
open Go.RowKit Go.Hoar
theorem quietG_load {P : Program} {C : World → Prop} {K : Act → Prop} {a : Act} {dst : Option Tmp} {ty T : TypeId} {x : Operand} {pos : String} {af : Array Edge} {gd : Option (Nat × Bool)}
    (ad : Addr) (cs : Array Value) (d : TypeDesc) (hc : ∀ w', C w' → ∀ j u, cs[j]? = some u → w'.cell? (ad.add j) = some u) (hu : P.underlying ty = some d)
    (hi : (P.info? ty).map (·.size) = some cs.size) (hx : a.eval x = .pointer (some ad))
    (hd : (match d with | .struct _ | .array _ _ => true | _ => false) = true) (hk : K (a.put dst (.agg cs))) :
    Oper.quiet P ⟨dst, .load ty x, T, pos, af, gd⟩ a C K :=
  ⟨.agg cs, fun w hw => by
    have hr := run_loadVar_at (P := P) w ad ty cs d (hc w hw) hu hd hi
    unfold Oper.quietAt execOp
    simp only [hx, Instr.loadAt, Instr.sureAddr, Sem.run_bind, Sem.run_pure, Result.andThen_ok, hr]
    exact ⟨rfl, rfl⟩, hk⟩
theorem quietG_call2 {P : Program} {C : World → Prop} {K : Act → Prop} {a : Act} {dst : Option Tmp} {f : FuncId} {T : TypeId} {x y : Operand} {ts : Array TypeId} {pos : String} {af : Array Edge} {gd : Option (Nat × Bool)}
    (eg : ∀ args w, (callFunc f args).run P w = .ok (.enter f args) w) (u1 u2 v : Value) (hx : a.eval x = u1) (hy : a.eval y = u2)
    (hc : ∀ w', C w' → Calls P f #[u1, u2] w' fun e w'' => e = .returned v ∧ C w'') (hk : K (a.put dst v)) :
    Oper.quiet P ⟨dst, .call { callee := .value (.func f), args := #[x, y], argTypes := ts }, T, pos, af, gd⟩ a C K :=
  ⟨v, fun w hw => by
    have hf : a.eval (.func f) = .func (.func f) #[] #[] := rfl
    unfold Oper.quietAt
    simp [execOp, resolve, Deferred.ofValue, invoke, hx, hy, hf, eg, Oper.quietUpon, hc w hw], hk⟩
theorem quietG_call1 {P : Program} {C : World → Prop} {K : Act → Prop} {a : Act} {dst : Option Tmp} {f : FuncId} {T : TypeId} {x : Operand} {ts : Array TypeId} {pos : String} {af : Array Edge} {gd : Option (Nat × Bool)}
    (eg : ∀ args w, (callFunc f args).run P w = .ok (.enter f args) w) (u1 v : Value) (hx : a.eval x = u1)
    (hc : ∀ w', C w' → Calls P f #[u1] w' fun e w'' => e = .returned v ∧ C w'') (hk : K (a.put dst v)) :
    Oper.quiet P ⟨dst, .call { callee := .value (.func f), args := #[x], argTypes := ts }, T, pos, af, gd⟩ a C K :=
  ⟨v, fun w hw => by
    have hf : a.eval (.func f) = .func (.func f) #[] #[] := rfl
    unfold Oper.quietAt
    simp [execOp, resolve, Deferred.ofValue, invoke, hx, hf, eg, Oper.quietUpon, hc w hw], hk⟩
theorem quietG_call0 {P : Program} {C : World → Prop} {K : Act → Prop} {a : Act} {dst : Option Tmp} {f : FuncId} {T : TypeId} {ts : Array TypeId} {pos : String} {af : Array Edge} {gd : Option (Nat × Bool)}
    (eg : ∀ args w, (callFunc f args).run P w = .ok (.enter f args) w) (v : Value)
    (hc : ∀ w', C w' → Calls P f #[] w' fun e w'' => e = .returned v ∧ C w'') (hk : K (a.put dst v)) :
    Oper.quiet P ⟨dst, .call { callee := .value (.func f), args := #[], argTypes := ts }, T, pos, af, gd⟩ a C K :=
  ⟨v, fun w hw => by
    have hf : a.eval (.func f) = .func (.func f) #[] #[] := rfl
    unfold Oper.quietAt
    simp [execOp, resolve, Deferred.ofValue, invoke, hf, eg, Oper.quietUpon, hc w hw], hk⟩
/-- What has this value in all worlds of the class. -/
theorem quietG_world {P : Program} {C : World → Prop} {K : Act → Prop} {a : Act} {o : Oper} (v : Value) (h : ∀ w, C w → (execOp a.eval o).run P w = .ok (.value v) w) (hk : K (a.put o.dst v)) : o.quiet P a C K :=
  ⟨v, fun w hw => by unfold Oper.quietAt; rw [h w hw]; exact ⟨rfl, rfl⟩, hk⟩
theorem quietG_value {P : Program} {C : World → Prop} {K : Act → Prop} {a : Act} {o : Oper} (v : Value) (h : ∀ w, (execOp a.eval o).run P w = .ok (.value v) w) (hk : K (a.put o.dst v)) : o.quiet P a C K :=
  quietG_world v (fun w _ => h w) hk
/-- All worlds behind one, which leave what lies there. -/
abbrev Behind (w0 w' : World) : Prop := ∃ V : {V : World // Below w0.heap.size w0 V}, w' = V.1
theorem Behind.out {w0 w' : World} (h : Behind w0 w') : Below w0.heap.size w0 w' := by obtain ⟨⟨V, hV⟩, rfl⟩ := h; exact hV
theorem Behind.of {w0 w' : World} (h : Below w0.heap.size w0 w') : Behind w0 w' := ⟨⟨w', h⟩, rfl⟩
theorem Behind.on {w0 w' w'' : World} (h : Behind w0 w') (hb : Below w'.heap.size w' w'') : Behind w0 w'' := .of (h.out.trans (hb.mono h.out.size))
end Go.Proofs.YtffdkniahdekjaaDoor
end
