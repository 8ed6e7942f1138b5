/-
  THE LAW SumNames, WALKED: true, and nothing that was there is turned.
-/
import Derived.Test.YtffdkniahdekjaaDoorMBl
import Derived.Test.YtffdkniahdekjaaDoorMBm
import Derived.Test.YtffdkniahdekjaaDoorMBn
import Derived.Test.YtffdkniahdekjaaDoorMBo
import Derived.Shelf.SlicesQ.Index
section
namespace Go.Proofs.YtffdkniahdekjaaDoor
open Go.RowKit Go.Hoar
theorem sums_eqlAt : EqlAt Tryd.prog 26 (fun x : Dig => .agg (cellsOf x.1).toArray) (fun x y => decide (x = y)) :=
  ⟨fun x y w => by
    have e : decide (x.1 = y.1) = decide (x = y) := decide_eq_decide.2 ⟨Subtype.ext, fun e => by rw [e]⟩
    dsimp only
    rw [← e]
    exact sum_eql x.1 y.1 x.2.1 y.2.1 w, GuardAt.agg (fun x : Dig => (cellsOf x.1).toArray) sum_guard⟩
theorem index_any (xs : List Dig) (x : Dig) (hx : x ∈ xs) (g off c : Nat) (w : World) (hs : SumsAt w g off (xs.map (·.1))) (hn : xs.length ≤ 1000000) :
    Calls Tryd.prog 56 #[.slice (some ⟨g, off, none⟩) xs.length c, .agg (arr32 x.1)] w fun e w' => e = .returned (.int .i64 ((firstAt x.1 (xs.map (·.1)) : Nat) : Int)) ∧ Below w.heap.size w w' := by
  have hrow : ∀ j, j < xs.length → ∀ i v, (cellsOf xs[j]!.1)[i]? = some v → w.cell? ⟨g, off + j * 32 + i, none⟩ = some v := fun j hj i v hv => by
    have hz : (xs.map (·.1))[j]? = some xs[j]!.1 := by rw [List.getElem?_map, List.getElem?_eq_getElem hj, getElem!_pos xs j hj]; rfl
    have := hs.row hz i v (by rw [← Array.getElem?_toList]; exact hv)
    rwa [Addr.add_lit] at this
  have hm : x.1 ∈ xs.map (·.1) := List.mem_map.2 ⟨x, hx, rfl⟩
  have hlt := firstAt_lt hm
  have hget := firstAt_get _ hm
  have hbef := firstAt_before (x := x.1) (xs.map (·.1))
  rw [List.length_map] at hlt
  have e : Lib.idxBy (fun x y : Dig => decide (x = y)) (xs.take xs.length) x = ((firstAt x.1 (xs.map (·.1)) : Nat) : Int) := by
    refine Lib.idxBy_hit _ xs xs.length _ x hlt (Nat.le_refl _) ?_ (fun j hj => ?_)
    · rw [decide_eq_true_eq, getElem!_pos xs _ hlt]
      rw [List.getElem?_map, List.getElem?_eq_getElem hlt] at hget
      exact (Subtype.ext (Option.some.inj hget)).symm
    · rw [decide_eq_false_iff_not, getElem!_pos xs j (by omega)]
      intro q
      refine hbef j hj ?_
      rw [List.getElem?_map, List.getElem?_eq_getElem (by omega), ← q]
      rfl
  have h := AnyQ.slices_Index Tryd.indexSum 32 Tryd.isAgg26 Tryd.sizeOf26 (fun x : Dig => cellsOf x.1) (fun x => by have := arr32_size x.1 (by have := x.2.1; omega); simpa [cellsOf] using this) (fun x y => decide (x = y)) sums_eqlAt g off xs.length c xs x w (Nat.le_refl _) (by omega) hrow
  rw [e] at h
  have e2 : (cellsOf x.1).toArray = arr32 x.1 := by unfold cellsOf; rfl
  rw [e2] at h
  refine h.mono ?_
  rintro e w' ⟨rfl, q, rfl⟩
  exact ⟨rfl, below_drewN ((Below.refl _ w).alloc (Nat.le_refl _) _) _⟩
set_option maxRecDepth 100000 in
set_option maxHeartbeats 6000000 in
/-- THE LAW's WALK. -/
theorem names_law (bs : List Nat) (hbb : Sha.Bytes bs) (a : Option Addr) (c : Nat) (many which : Nat) (hmany : many < 256) (hwhich : which < 256) (w : World) (hp : PartOk w a c bs) (hcap : bs.length ≤ c ∧ c ≤ maxLen) (hc : ConstAt w) :
    Calls Tryd.prog 14 #[.slice a bs.length c, .int .u8 (many : Int), .int .u8 (which : Int)] w fun e w' => e = .returned (.bool true) ∧ Below w.heap.size w w' := by
  have HOf := Lib.hid (kitOf_any bs hbb a c w hp hcap)
  have HC := Lib.hid hc
  have HAw : Hid (∀ V : World, ConstAt V → Calls Tryd.prog 15 #[] V fun e w' => e = .returned (.bool true) ∧ Below V.heap.size V w') := Lib.hid fun V hV => awake_any V hV
  obtain ⟨r, hr⟩ : ∃ r, r = many % 20 := ⟨_, rfl⟩
  have htm : ((many : Int)).tmod 20 = (r : Int) := by rw [hr]; exact (Int.ofNat_tmod many 20).symm
  have hr20 : r < 20 := by omega
  have hw1 : IntKind.i64.wrap (many : Int) = (many : Int) := IntWalk.i64_in _ (by omega)
  have hw2 : IntKind.i64.wrap (which : Int) = (which : Int) := IntWalk.i64_in _ (by omega)
  obtain ⟨m, hm⟩ : ∃ m, m = 1 + r := ⟨_, rfl⟩
  have HSm : Hid (∀ (g : Nat) (V : World), Kit V g (g + 1) 0 → Calls Tryd.prog 52 #[.pointer (some ⟨g, 0, none⟩), .int .i64 (1 + (r : Int))] V fun e w' => ∃ (v : Value) (L : List (List Nat)), e = .returned v ∧ L.length = m ∧ SumsOk L ∧ w'.ownsRow V.heap.size 26 32 v m (L.flatMap cellsOf) ∧ Kit w' g (g + 1) (0 + 40 * m) ∧ But g V w') := Lib.hid fun g V hK => by
    have h := some_any g (g + 1) 0 m (by omega) (by omega) V hK hK.lt
    rw [show ((m : Nat) : Int) = 1 + (r : Int) by omega] at h
    exact h
  have hm0 : ¬ m = 0 := by omega
  have hm20 : m ≤ 20 := by omega
  clear hp hcap hbb hc hr hm
  go_enter Tryd.func14, Tryd.ntmps14
  go_upto_region 2 with (first
    | (go_at_call 49; (with_reducible refine HOf.out.mono ?_); rintro e w1 ⟨g, rfl, hK, hgw, hb1⟩; have HK1 := Lib.hid hK; have HB1 := Lib.hid hb1; clear hK hb1)
    | (go_at_call 52; (with_reducible refine (HSm.out g w1 HK1.out).mono ?_); rintro e w2 ⟨v2, L, rfl, hLl, hLok, ho, _, hbut⟩; have HO2 := Lib.hid ho; have HB2 := Lib.hid (HB1.out.trans (hbut.below hgw HB1.out.size)); clear ho hbut))
  obtain ⟨a2, c2, rfl, hr2, hmc, hcm, _⟩ := row_of_own HO2.out hLok hLl
  obtain ⟨xs, hxs⟩ := digs_of hLok
  subst hxs
  rw [List.length_map] at hLl
  rcases hr2 with ⟨_, he, _⟩ | ⟨g2, off2, rfl, hg2, hs2, hc2, hm2⟩
  · rw [List.map_eq_nil_iff] at he
    rw [he] at hLl
    exact absurd hLl.symm hm0
  obtain ⟨i, hi⟩ : ∃ i, i = which % m := ⟨_, rfl⟩
  have hti : ((which : Int)).tmod (m : Int) = (i : Int) := by rw [hi]; exact (Int.ofNat_tmod which m).symm
  have him : i < m := by rw [hi]; exact Nat.mod_lt _ (by omega)
  obtain ⟨x, hx⟩ : ∃ x, xs[i]? = some x := ⟨_, List.getElem?_eq_getElem (by omega)⟩
  have hx1 : (xs.map (·.1))[i]? = some x.1 := by rw [List.getElem?_map, hx]; rfl
  have hxm : x ∈ xs := List.mem_of_getElem? hx
  have hxl := x.2.1
  have hxb := x.2.2
  obtain ⟨k, hk⟩ : ∃ k, k = firstAt x.1 (xs.map (·.1)) := ⟨_, rfl⟩
  have hmm : x.1 ∈ xs.map (·.1) := List.mem_map.2 ⟨x, hxm, rfl⟩
  have hkm : k < m := by have := firstAt_lt hmm; rw [List.length_map] at this; omega
  have hxk : (xs.map (·.1))[k]? = some x.1 := by rw [hk]; exact firstAt_get _ hmm
  obtain ⟨v, hv⟩ : ∃ v, v = needR x xs := ⟨_, rfl⟩
  obtain ⟨hv1, hv64, _, _⟩ := needR_good x xs
  rw [← hv] at hv1 hv64
  have hfind : ∀ (s : ByteArray) (h1 : 1 ≤ s.size) (h2 : s.size ≤ 64) (hd : AllDig s) (p q : Int), findGo (digsK s s.size) 0 none (xs.map (·.1)) = (p, q) → ∀ V, Below w2.heap.size w2 V → Calls Tryd.prog 45 #[.string s, .slice (some ⟨g2, off2, none⟩) m c2] V fun e w' => e = .returned (.tuple #[.int .i64 p, .int .i64 q]) ∧ Below V.heap.size V w' := fun s h1 h2 hd p q he V hV => by
    have hl : (xs.map (·.1)).length = m := by rw [List.length_map]; exact hLl
    have h := find_any s h1 h2 hd (xs.map (·.1)) g2 off2 c2 V (hs2.below hg2 hV) (Nat.lt_of_lt_of_le hg2 hV.size) (by omega) hm2 (by omega) (p, q) (Lib.hid he.symm)
    rw [hl] at h
    exact h
  obtain ⟨t, ht⟩ : ∃ t, t = str (hexOf x.1) := ⟨_, rfl⟩
  have hts : t.size = 64 := by rw [ht]; exact hexS_size _
  have hpre : ∀ u, t.extract 0 u = preS x.1 u := fun u => by rw [ht]; rfl
  have hF1 : ∀ V, Below w2.heap.size w2 V → Calls Tryd.prog 45 #[.string (t.extract 0 v), .slice (some ⟨g2, off2, none⟩) m c2] V fun e w' => e = .returned (.tuple #[.int .i64 (k : Int), .int .i64 0]) ∧ Below V.heap.size V w' := by
    rw [hpre]
    refine hfind _ (by rw [preS_size _ _ hv64]; exact hv1) (by rw [preS_size _ _ hv64]; exact hv64) (preS_dig _ hxb _ hv64) _ _ ?_
    rw [hv, hk]
    exact find_own xs x hxm
  have hF3 : ∀ V, Below w2.heap.size w2 V → Calls Tryd.prog 45 #[.string t, .slice (some ⟨g2, off2, none⟩) m c2] V fun e w' => e = .returned (.tuple #[.int .i64 (k : Int), .int .i64 0]) ∧ Below V.heap.size V w' := by
    refine hfind _ (by omega) (by omega) (by rw [ht]; exact (pack_hex x).1) _ _ ?_
    rw [ht, hk]
    exact find_whole xs x hxm
  have hF2 : ∀ u, v = u + 1 → 1 < v → ∀ V, Below w2.heap.size w2 V → Calls Tryd.prog 45 #[.string (t.extract 0 u), .slice (some ⟨g2, off2, none⟩) m c2] V fun e w' => e = .returned (.tuple #[.int .i64 0, .int .i64 7]) ∧ Below V.heap.size V w' := fun u hu h1 => by
    rw [hpre]
    refine hfind _ (by rw [preS_size _ _ (by omega)]; omega) (by rw [preS_size _ _ (by omega)]; omega) (preS_dig _ hxb _ (by omega)) _ _ ?_
    have hu2 : u = needR x xs - 1 := by omega
    rw [hu2]
    exact find_less xs x hxm (by omega)
  obtain ⟨p1, _⟩ := short_both xs (by omega)
  have hnv : (needs xs)[i]? = some (v : Int) := by rw [needs, List.getElem?_map, hx, hv]; rfl
  rw [hLl] at p1
  have hIx : ∀ V, Below w2.heap.size w2 V → Calls Tryd.prog 56 #[.slice (some ⟨g2, off2, none⟩) m c2, .agg (arr32 x.1)] V fun e w' => e = .returned (.int .i64 (k : Int)) ∧ Below V.heap.size V w' := fun V hV => by
    have h := index_any xs x hxm g2 off2 c2 V (hs2.below hg2 hV) (by omega)
    rw [hLl, ← hk] at h
    exact h
  have hHex : ∀ V, Calls Tryd.prog 28 #[.agg (arr32 x.1)] V fun e w' => e = .returned (.string t) ∧ Below V.heap.size V w' := fun V => by rw [ht]; exact hex_any x.1 hxl hxb V
  have hrow : ∀ j, (xs.map (·.1))[j]? = some x.1 → ∀ V, Below w2.heap.size w2 V → ∀ q u, (arr32 x.1)[q]? = some u → V.cell? ((⟨g2, off2 + j * 32, none⟩ : Addr).add q) = some u := fun j hj V hV => (hs2.below hg2 hV).row hj
  have HRi := Lib.hid (hrow i hx1)
  have HRk := Lib.hid (hrow k hxk)
  have HP1 := Lib.hid (fun V (hV : Below w2.heap.size w2 V) => p1 V (some ⟨g2, off2, none⟩) c2 (.inr ⟨g2, off2, rfl, Nat.lt_of_lt_of_le hg2 hV.size, hs2.below hg2 hV, hc2, hm2⟩))
  have HF1 := Lib.hid hF1
  have HF2 := Lib.hid hF2
  have HF3 := Lib.hid hF3
  have HIx := Lib.hid hIx
  have HHex := Lib.hid hHex
  have HNv := Lib.hid hnv
  have HI := Lib.hid (arr32_info x.1 (by omega))
  have hneq : ∀ V : World, (binOp .neq 26 (.agg (arr32 x.1)) (.agg (arr32 x.1))).run Tryd.prog V = .ok (.bool false) V := fun V => by
    have := sum_neq x.1 x.1 hxl hxl V
    rwa [decide_eq_true rfl] at this
  have HNq := Lib.hid hneq
  have hic : i < c2 := by omega
  have hkc : k < c2 := by omega
  generalize arr32 x.1 = X at *
  unfold maxLen at hcm
  clear hs2 hx hx1 hxm hxl hxb hk hmm hxk hv hfind ht hpre hF1 hF2 hF3 p1 hnv hIx hHex hrow hneq hi hLl hLok hm2 HO2 hc2
  go_upto_region 6 with (first
    | (go_at_call 44; (with_reducible refine (HP1.out _ (Below.refl _ _)).mono ?_); rintro e w3 ⟨v3, rfl, ho3, hb3⟩; obtain ⟨a3, c3, rfl, hmc3, hcm3⟩ := own_shape ho3; obtain ⟨g3, rfl, hg3a, hg3⟩ := own_addr ho3 (by omega); have hcell := ho3.cells (g := g3) rfl i (.int .i64 (v : Int)) (by rw [List.getElem?_map, HNv.out]; rfl); rw [Addr.add_lit, Nat.zero_add] at hcell; have HB3 := Lib.hid hb3; have HC3 := Lib.hid hcell; clear hb3 ho3 hcell))
  unfold maxLen at hcm3
  have hic3 : i < c3 := by omega
  go_upto_region 7 with (first
    | ((with_reducible refine arm_load ⟨g2, off2 + i * 32, none⟩ X _ (HRi.out _ HB3.out) Tryd.underlying26 HI.out ?h1 ?h2 ?_); (case h1 => rfl); (case h2 => rfl))
    | (go_at_call 28; (with_reducible refine (HHex.out _).mono ?_); rintro e w4 ⟨rfl, hb4⟩; have HB4 := Lib.hid (HB3.out.trans (hb4.mono HB3.out.size)); have hc4 : w4.cell? ⟨g3, i, none⟩ = some (.int .i64 (v : Int)) := (hb4.cell hg3).trans HC3.out; have hg4 : g3 < w4.heap.size := Nat.lt_of_lt_of_le hg3 hb4.size; clear hb4))
  have i1 : ¬ (v : Int) < 1 := by omega
  have i2 : ¬ (64 : Int) < (v : Int) := by omega
  have i3 : (t.size : Int) = 64 := by omega
  have i4 : (v : Int) ≤ (t.size : Int) := by omega
  go_upto_region 9 with (fail)
  have HC4 := Lib.hid hc4
  go_upto_region 10 with (first
    | (go_at_call 45; (with_reducible refine (HF1.out _ HB4.out).mono ?_); rintro e w5 ⟨rfl, hb5⟩; have HB5 := Lib.hid (HB4.out.trans (hb5.mono HB4.out.size)); have HC5 := Lib.hid ((hb5.cell hg4).trans HC4.out); have hg5 : g3 < w5.heap.size := Nat.lt_of_lt_of_le hg4 hb5.size; clear hb5))
  have j1 : ¬ (k : Int) < 0 := by omega
  have j2 : ¬ (m : Int) ≤ (k : Int) := by omega
  have eg : ∀ args w, (callFunc 56 args).run Tryd.prog w = .ok (.enter 56 args) w := enters_of Tryd.func56 (by kernel_rfl) rfl
  haveI hNe : Nonempty {V : World // Below w5.heap.size w5 V} := ⟨⟨w5, Below.refl _ _⟩⟩
  refine wp_region_quietC (fun w' => ∃ V : {V : World // Below w5.heap.size w5 V}, w' = V.1) (by kernel_rfl) (by kernel_rfl) ⟨⟨w5.drew, (Below.refl _ w5).drew⟩, rfl⟩ ?_
  go_big_quiet_step (fail)
  go_big_quiet_want
  refine quietG_value (.bool false) (fun w => by go_simp) ?_
  simp only [Act.put, List.setIfInBounds_toArray, List.set_cons_succ, List.set_cons_zero]
  go_big_quiet_on
  go_big_quiet_step (fail)
  go_big_quiet_step (fail)
  go_big_quiet_want
  refine quietG_value (.bool false) (fun w => by go_simp) ?_
  simp only [Act.put, List.setIfInBounds_toArray, List.set_cons_succ, List.set_cons_zero]
  go_big_quiet_on
  go_big_quiet_want
  refine quietG_value (.bool false) (fun w => by go_simp) ?_
  simp only [Act.put, List.setIfInBounds_toArray, List.set_cons_succ, List.set_cons_zero]
  go_big_quiet_on
  go_big_quiet_step (fail)
  go_big_quiet_step (fail)
  go_big_quiet_step (fail)
  go_big_quiet_want
  refine quietG_value (.int .i64 (m : Int)) (fun w => by go_simp) ?_
  simp only [Act.put, List.setIfInBounds_toArray, List.set_cons_succ, List.set_cons_zero]
  go_big_quiet_on
  go_big_quiet_want
  refine quietG_value (.bool false) (fun w => by go_simp) ?_
  simp only [Act.put, List.setIfInBounds_toArray, List.set_cons_succ, List.set_cons_zero]
  go_big_quiet_on
  go_big_quiet_want
  refine quietG_value (.bool false) (fun w => by go_simp) ?_
  simp only [Act.put, List.setIfInBounds_toArray, List.set_cons_succ, List.set_cons_zero]
  go_big_quiet_on
  go_big_quiet_step (fail)
  go_big_quiet_step (fail)
  go_big_quiet_step (fail)
  go_big_quiet_want
  refine quietG_value (.pointer (some ⟨g2, off2 + k * 32, none⟩)) (fun w => by go_simp) ?_
  simp only [Act.put, List.setIfInBounds_toArray, List.set_cons_succ, List.set_cons_zero]
  go_big_quiet_on
  go_big_quiet_want
  (with_reducible refine quietG_load ⟨g2, off2 + k * 32, none⟩ (X) _ (fun w' hw' => HRk.out _ (HB5.out.trans ((Behind.out hw').mono HB5.out.size))) Tryd.underlying26 HI.out ?l1 ?l2 ?_); (case l1 => rfl); (case l2 => rfl)
  simp only [Act.put, List.setIfInBounds_toArray, List.set_cons_succ, List.set_cons_zero]
  go_big_quiet_on
  go_big_quiet_step (fail)
  go_big_quiet_step (fail)
  go_big_quiet_want
  refine quietG_value (.pointer (some ⟨g2, off2 + i * 32, none⟩)) (fun w => by go_simp) ?_
  simp only [Act.put, List.setIfInBounds_toArray, List.set_cons_succ, List.set_cons_zero]
  go_big_quiet_on
  go_big_quiet_want
  (with_reducible refine quietG_load ⟨g2, off2 + i * 32, none⟩ (X) _ (fun w' hw' => HRi.out _ (HB5.out.trans ((Behind.out hw').mono HB5.out.size))) Tryd.underlying26 HI.out ?l1 ?l2 ?_); (case l1 => rfl); (case l2 => rfl)
  simp only [Act.put, List.setIfInBounds_toArray, List.set_cons_succ, List.set_cons_zero]
  go_big_quiet_on
  go_big_quiet_want
  have hneq := HNq.out
  have hgd := sum_guard
  refine quietG_value (.bool false) (fun w => by go_simp) ?_
  clear hneq hgd
  simp only [Act.put, List.setIfInBounds_toArray, List.set_cons_succ, List.set_cons_zero]
  go_big_quiet_on
  go_big_quiet_want
  refine quietG_value (.bool false) (fun w => by go_simp) ?_
  simp only [Act.put, List.setIfInBounds_toArray, List.set_cons_succ, List.set_cons_zero]
  go_big_quiet_on
  go_big_quiet_step (fail)
  go_big_quiet_step (fail)
  go_big_quiet_step (fail)
  go_big_quiet_step (fail)
  go_big_quiet_want
  refine quietG_value (.pointer (some ⟨g2, off2 + i * 32, none⟩)) (fun w => by go_simp) ?_
  simp only [Act.put, List.setIfInBounds_toArray, List.set_cons_succ, List.set_cons_zero]
  go_big_quiet_on
  go_big_quiet_want
  (with_reducible refine quietG_load ⟨g2, off2 + i * 32, none⟩ (X) _ (fun w' hw' => HRi.out _ (HB5.out.trans ((Behind.out hw').mono HB5.out.size))) Tryd.underlying26 HI.out ?l1 ?l2 ?_); (case l1 => rfl); (case l2 => rfl)
  simp only [Act.put, List.setIfInBounds_toArray, List.set_cons_succ, List.set_cons_zero]
  go_big_quiet_on
  go_big_quiet_want
  (with_reducible refine quietG_call2 eg (.slice (some ⟨g2, off2, none⟩) m c2) (.agg X) (.int .i64 (k : Int)) ?a1 ?a2 (fun w' hw' => (HIx.out w' (HB5.out.trans ((Behind.out hw').mono HB5.out.size))).mono fun e w'' h => ⟨h.1, Behind.on hw' h.2⟩) ?_); (case a1 => rfl); (case a2 => rfl)
  simp only [Act.put, List.setIfInBounds_toArray, List.set_cons_succ, List.set_cons_zero]
  go_big_quiet_on
  go_big_quiet_step (fail)
  go_big_quiet_want
  refine quietG_value (.bool false) (fun w => by go_simp) ?_
  simp only [Act.put, List.setIfInBounds_toArray, List.set_cons_succ, List.set_cons_zero]
  go_big_quiet_on
  go_big_quiet_want
  refine quietG_value (.bool false) (fun w => by go_simp) ?_
  simp only [Act.put, List.setIfInBounds_toArray, List.set_cons_succ, List.set_cons_zero]
  go_big_quiet_on
  refine wpQuiet_nil ?_
  rintro w6 ⟨⟨_, hW6⟩, rfl⟩
  have HB6 := Lib.hid (HB5.out.trans (hW6.mono HB5.out.size))
  have hc6 : w6.cell? ⟨g3, i, none⟩ = some (.int .i64 (v : Int)) := (hW6.cell hg5).trans HC5.out
  clear hW6 hc4
  by_cases hv2 : 1 < v
  · obtain ⟨u, hu⟩ : ∃ u, v = u + 1 := ⟨v - 1, by omega⟩
    have i5 : (1 : Int) < (v : Int) := by omega
    have i6 : (v : Int) - 1 = (u : Int) := by omega
    have i7 : (u : Int) ≤ (t.size : Int) := by omega
    go_upto_region 14 with (first
      | (go_at_call 45; (with_reducible refine (HF2.out u hu hv2 _ HB6.out).mono ?_); rintro e w7 ⟨rfl, hb7⟩; have HB7 := Lib.hid (HB6.out.trans (hb7.mono HB6.out.size)); clear hb7))
    clear hc6
    go_wp2_with (first
      | (go_at_call 45; (with_reducible refine (HF3.out _ HB7.out).mono ?_); rintro e w8 ⟨rfl, hb8⟩; have HB8 := Lib.hid (HB2.out.trans ((HB7.out.trans (hb8.mono HB7.out.size)).mono HB2.out.size)); clear hb8)
      | (go_at_call 15; (with_reducible refine (HAw.out _ (HC.out.below HB8.out rfl)).mono ?_); rintro e w9 ⟨rfl, hb9⟩; have HB9 := Lib.hid (HB8.out.trans (hb9.mono HB8.out.size)); clear hb9))
    go_ret
    exact ⟨rfl, HB9.out⟩
  · have i5 : ¬ (1 : Int) < (v : Int) := by omega
    go_upto_region 16 with (fail)
    clear hc6
    go_wp2_with (first
      | (go_at_call 45; (with_reducible refine (HF3.out _ HB6.out).mono ?_); rintro e w8 ⟨rfl, hb8⟩; have HB8 := Lib.hid (HB2.out.trans ((HB6.out.trans (hb8.mono HB6.out.size)).mono HB2.out.size)); clear hb8)
      | (go_at_call 15; (with_reducible refine (HAw.out _ (HC.out.below HB8.out rfl)).mono ?_); rintro e w9 ⟨rfl, hb9⟩; have HB9 := Lib.hid (HB8.out.trans (hb9.mono HB8.out.size)); clear hb9))
    go_ret
    exact ⟨rfl, HB9.out⟩
theorem names_int (bs : List Nat) (hbb : Sha.Bytes bs) (a : Option Addr) (c : Nat) (n1 n2 : Int) (b1 : 0 ≤ n1 ∧ n1 ≤ 255) (b2 : 0 ≤ n2 ∧ n2 ≤ 255) (w : World) (hp : PartOk w a c bs) (hcap : bs.length ≤ c ∧ c ≤ maxLen) (hc : ConstAt w) :
    Calls Tryd.prog 14 #[.slice a bs.length c, .int .u8 n1, .int .u8 n2] w fun e w' => e = .returned (.bool true) ∧ Below w.heap.size w w' := by
  obtain ⟨m1, rfl⟩ := Int.eq_ofNat_of_zero_le b1.1
  obtain ⟨m2, rfl⟩ := Int.eq_ofNat_of_zero_le b2.1
  exact names_law bs hbb a c m1 m2 (by omega) (by omega) w hp hcap hc
end Go.Proofs.YtffdkniahdekjaaDoor
end
