/-
  THE LAW SumReads, WALKED: true, and nothing that was there is turned.
-/
import Derived.Test.YtffdkniahdekjaaDoorMBl
import Derived.Test.YtffdkniahdekjaaDoorMBm
import Derived.Test.YtffdkniahdekjaaDoorMBn
import Derived.Test.YtffdkniahdekjaaDoorMBo
section
namespace Go.Proofs.YtffdkniahdekjaaDoor
open Go.RowKit Go.Hoar
theorem byteAt_str (l : List Nat) (hl : Sha.Bytes l) (j : Nat) (hj : j < l.length) : byteAt (str l) j = l.getD j 0 := by
  have hsz : (str l).size = l.length := by unfold str; simp [ByteArray.size]
  rw [← byteAt_eq _ j (by omega), List.getD_eq_getElem?_getD, List.getElem?_eq_getElem hj]
  show (((l.map UInt8.ofNat).toArray[j]'(by simp; omega))).toNat = l[j]
  have := hl _ (List.getElem_mem hj)
  simp only [List.getElem_toArray, List.getElem_map]
  simp
  omega
theorem str_size (l : List Nat) : (str l).size = l.length := by unfold str; simp [ByteArray.size]
theorem hexOf_bytes (x : List Nat) (hxb : Sha.Bytes x) : Sha.Bytes (hexOf x) := fun y hy => by
  rw [hexOf, List.mem_map] at hy
  obtain ⟨i, _, rfl⟩ := hy
  exact letter_small (nib_lt hxb i)
theorem str_data (l : List Nat) (hl : Sha.Bytes l) (j : Nat) (hj : j < (str l).data.size) : ((str l).data[j].toNat : Int) = ((l.getD j 0 : Nat) : Int) := by
  have hsz := str_size l
  have hj2 : j < l.length := by rw [← hsz]; exact hj
  rw [← byteAt_str l hl j hj2, ← byteAt_eq (str l) j (by rw [hsz]; exact hj2)]
  rfl
set_option maxRecDepth 100000 in
set_option maxHeartbeats 6000000 in
/-- THE LAW's WALK. -/
theorem reads_law (bs : List Nat) (hbb : Sha.Bytes bs) (a : Option Addr) (c : Nat) (at0 by0 : Nat) (hat : at0 < 256) (hby : by0 < 256) (w : World) (hp : PartOk w a c bs) (hcap : bs.length ≤ c ∧ c ≤ maxLen) (hc : ConstAt w) :
    Calls Tryd.prog 11 #[.slice a bs.length c, .int .u8 (at0 : Int), .int .u8 (by0 : Int)] w fun e w' => e = .returned (.bool true) ∧ Below w.heap.size w w' := by
  have HOf := Lib.hid (kitOf_any bs hbb a c w hp hcap)
  have HC := Lib.hid hc
  have HAw : Hid (∀ V : World, ConstAt V → Calls Tryd.prog 15 #[] V fun e w' => e = .returned (.bool true) ∧ Below V.heap.size V w') := Lib.hid fun V hV => awake_any V hV
  have HSm : Hid (∀ (g : Nat) (V : World), Kit V g (g + 1) 0 → Calls Tryd.prog 52 #[.pointer (some ⟨g, 0, none⟩), .int .i64 2] V fun e w' => ∃ (v : Value) (L : List (List Nat)), e = .returned v ∧ L.length = 2 ∧ SumsOk L ∧ w'.ownsRow V.heap.size 26 32 v 2 (L.flatMap cellsOf) ∧ Kit w' g (g + 1) (0 + 40 * 2) ∧ But g V w') := Lib.hid fun g V hK => some_any g (g + 1) 0 2 (by omega) (by omega) V hK hK.lt
  have HF0 : Hid (∀ V : World, Has (V.alloc (.cells zero32 26)) V.heap.size 26 zero32) := Lib.hid fun V => fresh_sum V
  clear hp hcap hbb hc
  go_enter Tryd.func11, Tryd.ntmps11
  go_upto_region 2 with (first
    | (go_at_call 49; (with_reducible refine HOf.out.mono ?_); rintro e w1 ⟨g, rfl, hK, hgw, hb1⟩; have HK1 := Lib.hid hK; have HB1 := Lib.hid hb1; clear hK hb1)
    | (go_at_call 52; (with_reducible refine (HSm.out g w1 HK1.out).mono ?_); rintro e w2 ⟨v2, L, rfl, hLl, hLok, ho, _, hbut⟩; have HO2 := Lib.hid ho; have HB2 := Lib.hid (HB1.out.trans (hbut.below hgw HB1.out.size)); clear ho hbut))
  obtain ⟨a2, c2, rfl, hr2, hmc, hcm, hoff⟩ := row_of_own HO2.out hLok hLl
  obtain ⟨xs, hxs⟩ := digs_of hLok
  subst hxs
  rw [List.length_map] at hLl
  rcases hr2 with ⟨_, he, _⟩ | ⟨g2, off2, rfl, hg2, hs2, hc2, hm2⟩
  · rw [List.map_eq_nil_iff] at he
    rw [he] at hLl
    exact absurd hLl (by decide)
  obtain rfl : off2 = 0 := (hoff _ rfl).2
  match xs, hLl, hs2 with
  | [x, y], _, hs2 =>
  have hrow : ∀ V, Below w2.heap.size w2 V → (∀ q u, (arr32 x.1)[q]? = some u → V.cell? ((⟨g2, 0, none⟩ : Addr).add q) = some u) ∧ (∀ q u, (arr32 y.1)[q]? = some u → V.cell? ((⟨g2, 32, none⟩ : Addr).add q) = some u) := fun V hV => ⟨(hs2.below hg2 hV).row (i := 0) rfl, (hs2.below hg2 hV).row (i := 1) rfl⟩
  have HRow := Lib.hid hrow
  have hx := x.2
  have hy := y.2
  obtain ⟨lt, eq, o, o1, o2, o3, o4, o5⟩ := order_all x y
  obtain ⟨pd, pk⟩ := pack_hex x
  obtain ⟨t, ht⟩ : ∃ t, t = str (hexOf x.1) := ⟨_, rfl⟩
  obtain ⟨z, hz⟩ : ∃ z, z = str (hexOf y.1) := ⟨_, rfl⟩
  have hts : t.size = 64 := by rw [ht]; exact hexS_size _
  have hzs : z.size = 64 := by rw [hz]; exact hexS_size _
  have hHx : ∀ V, Calls Tryd.prog 28 #[.agg (arr32 x.1)] V fun e w' => e = .returned (.string t) ∧ Below V.heap.size V w' := fun V => by rw [ht]; exact hex_any x.1 hx.1 hx.2 V
  have hHy : ∀ V, Calls Tryd.prog 28 #[.agg (arr32 y.1)] V fun e w' => e = .returned (.string z) ∧ Below V.heap.size V w' := fun V => by rw [hz]; exact hex_any y.1 hy.1 hy.2 V
  have hUx : ∀ V, Calls Tryd.prog 26 #[.string t] V fun e w' => e = .returned (.tuple #[.agg (arr32 x.1), .int .i64 0]) ∧ Below V.heap.size V w' := fun V => by
    have h := unhex_any t hts (by rw [ht]; exact pd) V
    rw [ht, pk] at h
    rw [ht]
    exact h
  have hCx : ∀ V, Calls Tryd.prog 30 #[.agg (arr32 x.1), .agg (arr32 y.1)] V fun e w' => e = .returned (.int .i64 o) ∧ Below V.heap.size V w' := fun V => by rw [← o3]; exact compare_any x.1 y.1 hx.1 hy.1 V
  have hCy : ∀ V, Calls Tryd.prog 30 #[.agg (arr32 y.1), .agg (arr32 x.1)] V fun e w' => e = .returned (.int .i64 (-o)) ∧ Below V.heap.size V w' := fun V => by rw [← o4]; exact compare_any y.1 x.1 hy.1 hx.1 V
  rw [← ht, ← hz] at o1 o2
  have hnx : ∀ V : World, (binOp .neq 26 (.agg (arr32 x.1)) (.agg (arr32 x.1))).run Tryd.prog V = .ok (.bool false) V := fun V => by
    have := sum_neq x.1 x.1 hx.1 hx.1 V
    rwa [decide_eq_true rfl] at this
  -- what is written in the place of a letter
  obtain ⟨k, hk⟩ : ∃ k, k = at0 % 64 := ⟨_, rfl⟩
  have hk64 : k < 64 := by omega
  have htk : ((at0 : Int)).tmod 64 = (k : Int) := by rw [hk]; exact (Int.ofNat_tmod at0 64).symm
  have hwk : IntKind.i64.wrap (at0 : Int) = (at0 : Int) := IntWalk.i64_in _ (by omega)
  have hhl : (hexOf x.1).length = 64 := by simp [hexOf]
  have hhb := hexOf_bytes x.1 hx.2
  obtain ⟨l2, hl2⟩ : ∃ l2, l2 = (hexOf x.1).set k by0 := ⟨_, rfl⟩
  have hl2l : l2.length = 64 := by rw [hl2, List.length_set, hhl]
  have hl2b : Sha.Bytes l2 := fun v hv => by
    rw [hl2] at hv
    exact (List.mem_or_eq_of_mem_set hv).elim (hhb v) (fun e => by rw [e]; exact hby)
  have hl2k : l2.getD k 0 = by0 := by rw [hl2, List.getD_eq_getElem?_getD, List.getElem?_set_self (by omega)]; rfl
  have hl2o : ∀ j, j ≠ k → l2.getD j 0 = (hexOf x.1).getD j 0 := fun j hj => by rw [hl2, List.getD_eq_getElem?_getD, List.getElem?_set_ne (Ne.symm hj), List.getD_eq_getElem?_getD]
  obtain ⟨b0, hb0⟩ : ∃ b0, b0 = (hexOf x.1).getD k 0 := ⟨_, rfl⟩
  obtain ⟨t2, ht2⟩ : ∃ t2, t2 = str l2 := ⟨_, rfl⟩
  have ht2s : t2.size = 64 := by rw [ht2, str_size, hl2l]
  have hrest : b0 ≠ by0 → (¬ AllDig t2 ∧ (∀ V, Calls Tryd.prog 26 #[.string t2] V fun e w' => e = .returned (.tuple #[.agg (arr32 []), .int .i64 4]) ∧ Below V.heap.size V w')) ∨ ∃ q : Dig, q ≠ x ∧ (∀ V, Calls Tryd.prog 26 #[.string t2] V fun e w' => e = .returned (.tuple #[.agg (arr32 q.1), .int .i64 0]) ∧ Below V.heap.size V w') ∧ (∀ V, Calls Tryd.prog 28 #[.agg (arr32 q.1)] V fun e w' => e = .returned (.string t2) ∧ Below V.heap.size V w') := fun hne => by
    by_cases hd : AllDig t2
    · refine .inr ⟨⟨packK t2 32, packK_bytes t2 ht2s hd⟩, fun e => hne ?_, fun V => unhex_any t2 ht2s hd V, fun V => ?_⟩
      · have e1 : str (hexOf (packK t2 32)) = str (hexOf x.1) := congrArg (fun d : Dig => str (hexOf d.1)) e
        rw [hex_pack t2 ht2s hd] at e1
        have e2 := congrArg (fun s => byteAt s k) e1
        rw [ht2, byteAt_str l2 hl2b k (by omega), hl2k, byteAt_str _ hhb k (by omega), ← hb0] at e2
        exact e2.symm
      · have h := hex_any (packK t2 32) (packK_bytes t2 ht2s hd).1 (packK_bytes t2 ht2s hd).2 V
        have e1 := hex_pack t2 ht2s hd
        unfold str at e1
        rw [e1] at h
        exact h
    · exact .inl ⟨hd, fun V => unhex_form t2 ht2s hd V⟩
  have hb256 : b0 < 256 := by rw [hb0]; exact Sha.getD_lt hhb (by decide) _
  have hbytes : ∀ (V : World) (cap j : Nat), j < 64 → (bytesRow t cap)[j]? = some (.int .u8 (((hexOf x.1).getD j 0 : Nat) : Int)) := fun V cap j hj => by
    have hsz : (str (hexOf x.1)).data.size = 64 := hexS_size x.1
    rw [ht, bytesRow_at _ cap j (by omega), str_data _ hhb j (by omega)]
  have hsize : ∀ cap, 64 ≤ (bytesRow t cap).size := fun cap => by
    have hsz : t.data.size = 64 := hts
    unfold bytesRow
    rw [Array.size_append, Array.size_map]
    omega
  have hback : ∀ (V : World) (g c : Nat), (∀ j, j < 64 → V.cell? ⟨g, j, none⟩ = some (.int .u8 ((l2.getD j 0 : Nat) : Int))) → (convert 22 9 (.slice (some ⟨g, 0, none⟩) 64 c)).run Tryd.prog V = .ok (.string t2) V := fun V g c h => by
    have e : (l2.map UInt8.ofNat).length = 64 := by rw [List.length_map, hl2l]
    have h2 := run_convert_bytes_back (P := Tryd.prog) V 22 9 5 ⟨g, 0, none⟩ c (l2.map UInt8.ofNat) Tryd.underlying22 Tryd.underlying5 Tryd.underlying9 (fun j hj => by
      rw [e] at hj
      rw [Addr.add_lit, Nat.zero_add, h j hj, List.getElem_map, List.getD_eq_getElem?_getD, List.getElem?_eq_getElem (by omega)]
      have := hl2b _ (List.getElem_mem (show j < l2.length by omega))
      simp
      omega)
    rw [e] at h2
    rw [ht2]
    exact h2
  have hmk : ∀ V : World, (convert 9 22 (.string t)).run Tryd.prog V = .ok (.slice (some ⟨V.heap.size, 0, none⟩) t.size (grownCap V t.size 0 5)) (V.drew.alloc (.cells (bytesRow t (grownCap V t.size 0 5)) 5 ((bytesRow t (grownCap V t.size 0 5)).size, (bytesRow t (grownCap V t.size 0 5)).size + 1))) := fun V => run_bytes_of_string V _ _ _ t Tryd.underlying9 Tryd.underlying22 Tryd.underlying5
  have HHx := Lib.hid hHx
  have HHy := Lib.hid hHy
  have HUx := Lib.hid hUx
  have HCx := Lib.hid hCx
  have HCy := Lib.hid hCy
  have HNx := Lib.hid hnx
  have HRest := Lib.hid hrest
  have HBytes := Lib.hid hbytes
  have HSize := Lib.hid hsize
  have HBack := Lib.hid hback
  have HMk := Lib.hid hmk
  have HL2k := Lib.hid hl2k
  have HL2o := Lib.hid hl2o
  have HB0 := Lib.hid hb0
  have HIx := Lib.hid (arr32_info x.1 (by omega))
  have HIy := Lib.hid (arr32_info y.1 (by omega))
  have HSx := Lib.hid (zero32_size x.1 (by omega))
  have HO1 := Lib.hid o1
  have o5 := Lib.hid o5
  have HO2' := Lib.hid o2
  have HXne := Lib.hid (fun (q : Dig) (h : q ≠ x) (V : World) => show (binOp .neq 26 (.agg (arr32 q.1)) (.agg (arr32 x.1))).run Tryd.prog V = .ok (.bool true) V by
    have := sum_neq q.1 x.1 q.2.1 hx.1 V
    rwa [decide_eq_false (fun e => h (Subtype.ext e))] at this)
  unfold maxLen at hcm
  have hc22 : 2 ≤ c2 := hmc
  clear ht hz pk hb0 hl2b hl2 ht2 hs2 hrow hx hy pd hHx hHy hUx hCx hCy hnx hrest hbytes hsize hback hmk hl2k hl2o hhb o1 o2 o3 o4 hk hc2 hm2 HO2 hLok hoff
  have egH : ∀ args w, (callFunc 28 args).run Tryd.prog w = .ok (.enter 28 args) w := enters_of Tryd.func28 (by kernel_rfl) rfl
  have egC : ∀ args w, (callFunc 30 args).run Tryd.prog w = .ok (.enter 30 args) w := enters_of Tryd.func30 (by kernel_rfl) rfl
  have egA : ∀ args w, (callFunc 15 args).run Tryd.prog w = .ok (.enter 15 args) w := enters_of Tryd.func15 (by kernel_rfl) rfl
  haveI hNe : Nonempty {V : World // Below w2.heap.size w2 V} := ⟨⟨w2, Below.refl _ _⟩⟩
  refine wp_region_quietC (fun w' => ∃ V : {V : World // Below w2.heap.size w2 V}, w' = V.1) (by kernel_rfl) (by kernel_rfl) ⟨⟨w2.drew, (Below.refl _ w2).drew⟩, rfl⟩ ?_
  go_big_quiet_step (fail)
  go_big_quiet_want
  refine quietG_value (.pointer (some ⟨g2, 0, none⟩)) (fun w => by go_simp) ?_
  simp only [Act.put, List.setIfInBounds_toArray, List.set_cons_succ, List.set_cons_zero]
  go_big_quiet_on
  go_big_quiet_want
  (with_reducible refine quietG_load ⟨g2, 0, none⟩ (arr32 x.1) _ (fun w' hw' => (HRow.out _ (Behind.out hw')).1) Tryd.underlying26 HIx.out ?l1 ?l2 ?_); (case l1 => rfl); (case l2 => rfl)
  simp only [Act.put, List.setIfInBounds_toArray, List.set_cons_succ, List.set_cons_zero]
  go_big_quiet_on
  go_big_quiet_want
  (with_reducible refine quietG_call1 egH (.agg (arr32 x.1)) (.string t) ?a1 (fun w' hw' => (HHx.out w').mono fun e w'' h => ⟨h.1, Behind.on hw' h.2⟩) ?_); (case a1 => rfl)
  simp only [Act.put, List.setIfInBounds_toArray, List.set_cons_succ, List.set_cons_zero]
  go_big_quiet_on
  go_big_quiet_step (fail)
  go_big_quiet_want
  refine quietG_value (.pointer (some ⟨g2, 32, none⟩)) (fun w => by go_simp) ?_
  simp only [Act.put, List.setIfInBounds_toArray, List.set_cons_succ, List.set_cons_zero]
  go_big_quiet_on
  go_big_quiet_want
  (with_reducible refine quietG_load ⟨g2, 32, none⟩ (arr32 y.1) _ (fun w' hw' => (HRow.out _ (Behind.out hw')).2) Tryd.underlying26 HIy.out ?l1 ?l2 ?_); (case l1 => rfl); (case l2 => rfl)
  simp only [Act.put, List.setIfInBounds_toArray, List.set_cons_succ, List.set_cons_zero]
  go_big_quiet_on
  go_big_quiet_want
  (with_reducible refine quietG_call1 egH (.agg (arr32 y.1)) (.string z) ?a1 (fun w' hw' => (HHy.out w').mono fun e w'' h => ⟨h.1, Behind.on hw' h.2⟩) ?_); (case a1 => rfl)
  simp only [Act.put, List.setIfInBounds_toArray, List.set_cons_succ, List.set_cons_zero]
  go_big_quiet_on
  go_big_quiet_step (fail)
  go_big_quiet_step (fail)
  refine wpQuiet_nil ?_
  rintro w3 ⟨⟨_, hW3⟩, rfl⟩
  have HB3 := Lib.hid hW3
  clear hW3 hNe
  go_upto_region 4 with (first
    | (go_at_call 26; (with_reducible refine (HUx.out _).mono ?_); rintro e w4 ⟨rfl, hb4⟩; have HB4 := Lib.hid (HB3.out.trans (hb4.mono HB3.out.size)); have HF := Lib.hid (HF0.out w4); clear hb4)
    | ((with_reducible refine arm_store w4.heap.size (arr32 x.1) 26 zero32 HF.out HSx.out HIx.out (arr32_one _) ?h5 ?h6 ?_); (case h5 => rfl); (case h6 => rfl)))
  refine gen_world (P := fun W => Code.wp _ _ _ _ W) (I := fun V => Below w2.heap.size w2 V ∧ Has V w4.heap.size 26 (arr32 x.1)) _ ⟨below_setRow (HB4.out.alloc HB4.out.size _) HB4.out.size _, HF.out.setRow⟩ ?_
  rintro w5 ⟨hb5, hX5⟩
  generalize w4.heap.size = g10 at hX5 ⊢
  have HB5 := Lib.hid hb5
  have HX5 := Lib.hid hX5
  have hg10 := hX5.lt
  clear hb5 hX5 HF
  have t64 : (t.size : Int) = 64 := by omega
  have z64 : (z.size : Int) = 64 := by omega
  haveI hNe : Nonempty {V : World // Below w5.heap.size w5 V} := ⟨⟨w5, Below.refl _ _⟩⟩
  refine wp_region_quietC (fun w' => ∃ V : {V : World // Below w5.heap.size w5 V}, w' = V.1) (by kernel_rfl) (by kernel_rfl) ⟨⟨w5.drew, (Below.refl _ w5).drew⟩, rfl⟩ ?_
  go_big_quiet_step (fail)
  go_big_quiet_want
  refine quietG_value (.bool false) (fun w => by go_simp) ?_
  simp only [Act.put, List.setIfInBounds_toArray, List.set_cons_succ, List.set_cons_zero]
  go_big_quiet_on
  go_big_quiet_step (fail)
  go_big_quiet_want
  (with_reducible refine quietG_load ⟨g10, 0, none⟩ (arr32 x.1) _ (fun w' hw' => (HX5.out.below (Behind.out hw') hg10).row) Tryd.underlying26 HIx.out ?l1 ?l2 ?_); (case l1 => rfl); (case l2 => rfl)
  simp only [Act.put, List.setIfInBounds_toArray, List.set_cons_succ, List.set_cons_zero]
  go_big_quiet_on
  go_big_quiet_step (fail)
  go_big_quiet_want
  refine quietG_value (.pointer (some ⟨g2, 0, none⟩)) (fun w => by go_simp) ?_
  simp only [Act.put, List.setIfInBounds_toArray, List.set_cons_succ, List.set_cons_zero]
  go_big_quiet_on
  go_big_quiet_want
  (with_reducible refine quietG_load ⟨g2, 0, none⟩ (arr32 x.1) _ (fun w' hw' => (HRow.out _ (HB5.out.trans ((Behind.out hw').mono HB5.out.size))).1) Tryd.underlying26 HIx.out ?l1 ?l2 ?_); (case l1 => rfl); (case l2 => rfl)
  simp only [Act.put, List.setIfInBounds_toArray, List.set_cons_succ, List.set_cons_zero]
  go_big_quiet_on
  go_big_quiet_want
  have hneq := HNx.out
  have hgd := sum_guard
  refine quietG_value (.bool false) (fun w => by go_simp) ?_
  clear hneq hgd
  simp only [Act.put, List.setIfInBounds_toArray, List.set_cons_succ, List.set_cons_zero]
  go_big_quiet_on
  go_big_quiet_want
  refine quietG_value (.bool false) (fun w => by go_simp) ?_
  simp only [Act.put, List.setIfInBounds_toArray, List.set_cons_succ, List.set_cons_zero]
  go_big_quiet_on
  go_big_quiet_step (fail)
  go_big_quiet_step (fail)
  go_big_quiet_want
  refine quietG_value (.int .i64 64) (fun w => by go_simp) ?_
  simp only [Act.put, List.setIfInBounds_toArray, List.set_cons_succ, List.set_cons_zero]
  go_big_quiet_on
  go_big_quiet_want
  refine quietG_value (.bool false) (fun w => by go_simp) ?_
  simp only [Act.put, List.setIfInBounds_toArray, List.set_cons_succ, List.set_cons_zero]
  go_big_quiet_on
  go_big_quiet_want
  refine quietG_value (.bool false) (fun w => by go_simp) ?_
  simp only [Act.put, List.setIfInBounds_toArray, List.set_cons_succ, List.set_cons_zero]
  go_big_quiet_on
  go_big_quiet_step (fail)
  go_big_quiet_step (fail)
  go_big_quiet_want
  refine quietG_value (.int .i64 64) (fun w => by go_simp) ?_
  simp only [Act.put, List.setIfInBounds_toArray, List.set_cons_succ, List.set_cons_zero]
  go_big_quiet_on
  go_big_quiet_want
  refine quietG_value (.bool false) (fun w => by go_simp) ?_
  simp only [Act.put, List.setIfInBounds_toArray, List.set_cons_succ, List.set_cons_zero]
  go_big_quiet_on
  go_big_quiet_want
  refine quietG_value (.bool false) (fun w => by go_simp) ?_
  simp only [Act.put, List.setIfInBounds_toArray, List.set_cons_succ, List.set_cons_zero]
  go_big_quiet_on
  refine wpQuiet_nil ?_
  rintro w6 ⟨⟨_, hW6⟩, rfl⟩
  have HB6 := Lib.hid (HB5.out.trans (hW6.mono HB5.out.size))
  clear hW6 hNe HB5 HX5 HB4 HB3
  have hord : (lt = true ∧ eq = false ∧ o = -1) ∨ (lt = false ∧ eq = false ∧ o = 1) ∨ (lt = false ∧ eq = true ∧ o = 0) := o5.out
  clear o5
  have o1 := HO1.out
  have o2 := HO2'.out
  have q1 : IntKind.i64.wrap 1 = 1 := IntWalk.i64_in _ (by omega)
  have q2 : IntKind.i64.wrap (-1) = -1 := IntWalk.i64_in _ (by omega)
  have q3 : IntKind.i64.wrap 0 = 0 := IntWalk.i64_in _ (by omega)
  rcases hord with ⟨rfl, rfl, rfl⟩ | ⟨rfl, rfl, rfl⟩ | ⟨rfl, rfl, rfl⟩
  all_goals (
    go_upto_region 11 with (fail)
    haveI hNe : Nonempty {V : World // Below w6.heap.size w6 V} := ⟨⟨w6, Below.refl _ _⟩⟩
    refine wp_region_quietC (fun w' => ∃ V : {V : World // Below w6.heap.size w6 V}, w' = V.1) (by kernel_rfl) (by kernel_rfl) ⟨⟨w6.drew, (Below.refl _ w6).drew⟩, rfl⟩ ?_
    go_big_quiet_step (fail)
    go_big_quiet_want
    refine quietG_value (.pointer (some ⟨g2, 0, none⟩)) (fun w => by go_simp) ?_
    simp only [Act.put, List.setIfInBounds_toArray, List.set_cons_succ, List.set_cons_zero]
    go_big_quiet_on
    go_big_quiet_want
    (with_reducible refine quietG_load ⟨g2, 0, none⟩ (arr32 x.1) _ (fun w' hw' => (HRow.out _ (HB6.out.trans ((Behind.out hw').mono HB6.out.size))).1) Tryd.underlying26 HIx.out ?l1 ?l2 ?_); (case l1 => rfl); (case l2 => rfl)
    simp only [Act.put, List.setIfInBounds_toArray, List.set_cons_succ, List.set_cons_zero]
    go_big_quiet_on
    go_big_quiet_step (fail)
    go_big_quiet_want
    refine quietG_value (.pointer (some ⟨g2, 32, none⟩)) (fun w => by go_simp) ?_
    simp only [Act.put, List.setIfInBounds_toArray, List.set_cons_succ, List.set_cons_zero]
    go_big_quiet_on
    go_big_quiet_want
    (with_reducible refine quietG_load ⟨g2, 32, none⟩ (arr32 y.1) _ (fun w' hw' => (HRow.out _ (HB6.out.trans ((Behind.out hw').mono HB6.out.size))).2) Tryd.underlying26 HIy.out ?l1 ?l2 ?_); (case l1 => rfl); (case l2 => rfl)
    simp only [Act.put, List.setIfInBounds_toArray, List.set_cons_succ, List.set_cons_zero]
    go_big_quiet_on
    go_big_quiet_want
    (with_reducible refine quietG_call2 egC (.agg (arr32 x.1)) (.agg (arr32 y.1)) (_) ?a1 ?a2 (fun w' hw' => (HCx.out w').mono fun e w'' h => ⟨h.1, Behind.on hw' h.2⟩) ?_); (case a1 => rfl); (case a2 => rfl)
    simp only [Act.put, List.setIfInBounds_toArray, List.set_cons_succ, List.set_cons_zero]
    go_big_quiet_on
    go_big_quiet_step (fail)
    go_big_quiet_want
    refine quietG_value (.bool false) (fun w => by go_simp) ?_
    simp only [Act.put, List.setIfInBounds_toArray, List.set_cons_succ, List.set_cons_zero]
    go_big_quiet_on
    go_big_quiet_step (fail)
    go_big_quiet_step (fail)
    go_big_quiet_want
    refine quietG_value (.pointer (some ⟨g2, 32, none⟩)) (fun w => by go_simp) ?_
    simp only [Act.put, List.setIfInBounds_toArray, List.set_cons_succ, List.set_cons_zero]
    go_big_quiet_on
    go_big_quiet_want
    (with_reducible refine quietG_load ⟨g2, 32, none⟩ (arr32 y.1) _ (fun w' hw' => (HRow.out _ (HB6.out.trans ((Behind.out hw').mono HB6.out.size))).2) Tryd.underlying26 HIy.out ?l1 ?l2 ?_); (case l1 => rfl); (case l2 => rfl)
    simp only [Act.put, List.setIfInBounds_toArray, List.set_cons_succ, List.set_cons_zero]
    go_big_quiet_on
    go_big_quiet_step (fail)
    go_big_quiet_want
    refine quietG_value (.pointer (some ⟨g2, 0, none⟩)) (fun w => by go_simp) ?_
    simp only [Act.put, List.setIfInBounds_toArray, List.set_cons_succ, List.set_cons_zero]
    go_big_quiet_on
    go_big_quiet_want
    (with_reducible refine quietG_load ⟨g2, 0, none⟩ (arr32 x.1) _ (fun w' hw' => (HRow.out _ (HB6.out.trans ((Behind.out hw').mono HB6.out.size))).1) Tryd.underlying26 HIx.out ?l1 ?l2 ?_); (case l1 => rfl); (case l2 => rfl)
    simp only [Act.put, List.setIfInBounds_toArray, List.set_cons_succ, List.set_cons_zero]
    go_big_quiet_on
    go_big_quiet_want
    (with_reducible refine quietG_call2 egC (.agg (arr32 y.1)) (.agg (arr32 x.1)) (_) ?a1 ?a2 (fun w' hw' => (HCy.out w').mono fun e w'' h => ⟨h.1, Behind.on hw' h.2⟩) ?_); (case a1 => rfl); (case a2 => rfl)
    simp only [Act.put, List.setIfInBounds_toArray, List.set_cons_succ, List.set_cons_zero]
    go_big_quiet_on
    go_big_quiet_step (fail)
    go_big_quiet_want
    refine quietG_value (_) (fun w => by go_simp; rfl) ?_
    simp only [Act.put, List.setIfInBounds_toArray, List.set_cons_succ, List.set_cons_zero]
    go_big_quiet_on
    go_big_quiet_want
    refine quietG_value (.bool false) (fun w => by go_simp) ?_
    simp only [Act.put, List.setIfInBounds_toArray, List.set_cons_succ, List.set_cons_zero]
    go_big_quiet_on
    go_big_quiet_want
    refine quietG_value (.bool false) (fun w => by go_simp) ?_
    simp only [Act.put, List.setIfInBounds_toArray, List.set_cons_succ, List.set_cons_zero]
    go_big_quiet_on
    refine wpQuiet_nil ?_
    rintro w7 ⟨⟨_, hW7⟩, rfl⟩
    have HB7 := Lib.hid (HB2.out.trans ((HB6.out.trans (hW7.mono HB6.out.size)).mono HB2.out.size))
    have HB27 := Lib.hid (HB6.out.trans (hW7.mono HB6.out.size))
    clear hW7 hNe HB6 o1 o2
    have hmk := HMk.out w7
    go_upto_region 14 with (fail)
    have hg28 : w2.heap.size ≤ w7.heap.size := HB27.out.size
    have hgw8 : w.heap.size ≤ w7.heap.size := HB7.out.size
    clear hmk
    generalize grownCap w7 64 0 5 = cap
    refine gen_world (P := fun W => Code.wp _ _ _ _ W) (I := fun V => Below w.heap.size w V ∧ Below w2.heap.size w2 V ∧ w7.heap.size < V.heap.size ∧ (∀ j, j < 64 → V.cell? ⟨w7.heap.size, j, none⟩ = some (.int .u8 (((hexOf x.1).getD j 0 : Nat) : Int))) ∧ (∀ j, j < 64 → V.frozen? ⟨w7.heap.size, j, none⟩ = false)) _ ⟨HB7.out.drew.alloc hgw8 _, HB27.out.drew.alloc hg28 _, by show w7.heap.size < (w7.heap.push _).size; simp, fun j hj => (World.cell?_alloc_mark w7.drew _ _ _ j).trans (HBytes.out w7 cap j hj), fun j hj => (World.frozen?_alloc_mark w7.drew _ _ _ _ j).trans (by have h := HSize.out cap; rw [decide_eq_false (by omega), Bool.false_and])⟩ ?_
    rintro w8 ⟨hb8, hb28, hg8, hcl8, hfz8⟩
    generalize w7.heap.size = g8 at *
    have hk8 := hcl8 k hk64
    rw [← HB0.out] at hk8
    have hf8 := hfz8 k hk64
    have HB8 := Lib.hid hb8
    have HB28 := Lib.hid hb28
    have HCl8 := Lib.hid hcl8
    clear hb8 hb28 hcl8 hfz8 HB7 HB27
    by_cases hbe : b0 = by0
    · have hbe2 : (b0 : Int) = (by0 : Int) := by omega
      go_wp2_with (go_at_call 15; (with_reducible refine (HAw.out _ (HC.out.below HB8.out rfl)).mono ?_); rintro e w9 ⟨rfl, hb9⟩; have HB9 := Lib.hid (HB8.out.trans (hb9.mono HB8.out.size)); clear hb9)
      go_ret
      exact ⟨rfl, HB9.out⟩
    · have hbe2 : ¬ (b0 : Int) = (by0 : Int) := by omega
      have HBe := Lib.hid hbe
      clear hbe
      go_upto_region 18 with (fail)
      refine gen_world (P := fun W => Code.wp _ _ _ _ W) (I := fun V => Below w.heap.size w V ∧ Below w2.heap.size w2 V ∧ g8 < V.heap.size ∧ (∀ j, j < 64 → V.cell? ⟨g8, j, none⟩ = some (.int .u8 ((l2.getD j 0 : Nat) : Int)))) _ ⟨HB8.out.setCell hgw8 _, HB28.out.setCell hg28 _, by simpa [World.setCell] using hg8, fun j hj => by
        by_cases hjk : j = k
        · rw [hjk, HL2k.out]
          exact World.cell?_setCell_same _ _ _ hk8
        · rw [HL2o.out j hjk]
          exact (World.cell?_setCell_other _ _ _ _ (ne_off (fun e => hjk e.symm))).trans (HCl8.out j hj)⟩ ?_
      rintro w9 ⟨hb9, hb29, hg9, hcl9⟩
      have hback := HBack.out w9 g8 cap hcl9
      have HB9 := Lib.hid hb9
      have HB29 := Lib.hid hb29
      have HCl9 := Lib.hid hcl9
      clear hb9 hb29 hcl9 HCl8 HB8 HB28 hk8 hf8
      rcases HRest.out HBe.out with ⟨_, hU⟩ | ⟨q, hq, hU, hH⟩
      · have HU := Lib.hid hU
        have HI0 := Lib.hid (arr32_info [] (by simp))
        have HS0 := Lib.hid (zero32_size [] (by simp))
        clear hU
        go_wp2_with (first
          | (go_at_call 26; (with_reducible refine (HU.out _).mono ?_); rintro e w10 ⟨rfl, hb10⟩; have HB10 := Lib.hid (HB9.out.trans (hb10.mono HB9.out.size)); have HF := Lib.hid (HF0.out w10); clear hb10)
          | ((with_reducible refine arm_store w10.heap.size (arr32 []) 26 zero32 HF.out HS0.out HI0.out (arr32_one _) ?h5 ?h6 ?_); (case h5 => rfl); (case h6 => rfl); have HB11 := Lib.hid (below_setRow (HB10.out.alloc HB10.out.size (.cells zero32 26)) HB10.out.size (arr32 [])))
          | (go_at_call 15; (with_reducible refine (HAw.out _ (HC.out.below HB11.out rfl)).mono ?_); rintro e w12 ⟨rfl, hb12⟩; have HB12 := Lib.hid (HB11.out.trans (hb12.mono HB11.out.size)); clear hb12))
        go_ret
        exact ⟨rfl, HB12.out⟩
      · have HU := Lib.hid hU
        have HH := Lib.hid hH
        have hql := q.2.1
        have HIq := Lib.hid (arr32_info q.1 (by omega))
        have HSq := Lib.hid (zero32_size q.1 (by omega))
        have HNq := Lib.hid (HXne.out q hq)
        clear hU hH hq
        go_upto_region 21 with (first
          | (go_at_call 26; (with_reducible refine (HU.out _).mono ?_); rintro e w10 ⟨rfl, hb10⟩; have HB10 := Lib.hid (HB9.out.trans (hb10.mono HB9.out.size)); have HB20 := Lib.hid (HB29.out.trans (hb10.mono HB29.out.size)); have HB90 := Lib.hid hb10; have HF := Lib.hid (HF0.out w10); clear hb10)
          | ((with_reducible refine arm_store w10.heap.size (arr32 q.1) 26 zero32 HF.out HSq.out HIq.out (arr32_one _) ?h5 ?h6 ?_); (case h5 => rfl); (case h6 => rfl)))
        refine gen_world (P := fun W => Code.wp _ _ _ _ W) (I := fun V => Below w.heap.size w V ∧ Below w2.heap.size w2 V ∧ Below w9.heap.size w9 V ∧ Has V w10.heap.size 26 (arr32 q.1)) _ ⟨below_setRow (HB10.out.alloc HB10.out.size _) HB10.out.size _, below_setRow (HB20.out.alloc HB20.out.size _) HB20.out.size _, below_setRow (HB90.out.alloc HB90.out.size _) HB90.out.size _, HF.out.setRow⟩ ?_
        rintro w11 ⟨hb11, hb21, hb91, hX11⟩
        generalize w10.heap.size = g15 at hX11 ⊢
        have hg15 := hX11.lt
        have HB11 := Lib.hid hb11
        have HB21 := Lib.hid hb21
        have HB91 := Lib.hid hb91
        have HX11 := Lib.hid hX11
        clear hb11 hb21 hb91 hX11 hback HF HB10 HB20 HB90
        haveI hNe : Nonempty {V : World // Below w11.heap.size w11 V} := ⟨⟨w11, Below.refl _ _⟩⟩
        refine wp_region_quietC (fun w' => ∃ V : {V : World // Below w11.heap.size w11 V}, w' = V.1) (by kernel_rfl) (by kernel_rfl) ⟨⟨w11.drew, (Below.refl _ w11).drew⟩, rfl⟩ ?_
        go_big_quiet_want
        (with_reducible refine quietG_load ⟨g15, 0, none⟩ (arr32 q.1) _ (fun w' hw' => (HX11.out.below (Behind.out hw') hg15).row) Tryd.underlying26 HIq.out ?l1 ?l2 ?_); (case l1 => rfl); (case l2 => rfl)
        simp only [Act.put, List.setIfInBounds_toArray, List.set_cons_succ, List.set_cons_zero]
        go_big_quiet_on
        go_big_quiet_step (fail)
        go_big_quiet_want
        refine quietG_value (.pointer (some ⟨g2, 0, none⟩)) (fun w => by go_simp) ?_
        simp only [Act.put, List.setIfInBounds_toArray, List.set_cons_succ, List.set_cons_zero]
        go_big_quiet_on
        go_big_quiet_want
        (with_reducible refine quietG_load ⟨g2, 0, none⟩ (arr32 x.1) _ (fun w' hw' => (HRow.out _ (HB21.out.trans ((Behind.out hw').mono HB21.out.size))).1) Tryd.underlying26 HIx.out ?l1 ?l2 ?_); (case l1 => rfl); (case l2 => rfl)
        simp only [Act.put, List.setIfInBounds_toArray, List.set_cons_succ, List.set_cons_zero]
        go_big_quiet_on
        go_big_quiet_want
        have hneq := HNq.out
        have hgd := sum_guard
        refine quietG_value (.bool true) (fun w => by go_simp) ?_
        clear hneq hgd
        simp only [Act.put, List.setIfInBounds_toArray, List.set_cons_succ, List.set_cons_zero]
        go_big_quiet_on
        go_big_quiet_step (fail)
        go_big_quiet_want
        (with_reducible refine quietG_load ⟨g15, 0, none⟩ (arr32 q.1) _ (fun w' hw' => (HX11.out.below (Behind.out hw') hg15).row) Tryd.underlying26 HIq.out ?l1 ?l2 ?_); (case l1 => rfl); (case l2 => rfl)
        simp only [Act.put, List.setIfInBounds_toArray, List.set_cons_succ, List.set_cons_zero]
        go_big_quiet_on
        go_big_quiet_want
        (with_reducible refine quietG_call1 egH (.agg (arr32 q.1)) (.string t2) ?a1 (fun w' hw' => (HH.out w').mono fun e w'' h => ⟨h.1, Behind.on hw' h.2⟩) ?_); (case a1 => rfl)
        simp only [Act.put, List.setIfInBounds_toArray, List.set_cons_succ, List.set_cons_zero]
        go_big_quiet_on
        go_big_quiet_step (fail)
        go_big_quiet_want
        refine quietG_world (.string t2) (fun w hw => by have hq := HBack.out w g8 cap (fun j hj => ((HB91.out.trans ((Behind.out hw).mono HB91.out.size)).cell hg9).trans (HCl9.out j hj)); go_simp) ?_
        simp only [Act.put, List.setIfInBounds_toArray, List.set_cons_succ, List.set_cons_zero]
        go_big_quiet_on
        go_big_quiet_want
        refine quietG_value (.bool true) (fun w => by go_simp) ?_
        simp only [Act.put, List.setIfInBounds_toArray, List.set_cons_succ, List.set_cons_zero]
        go_big_quiet_on
        go_big_quiet_want
        refine quietG_value (.bool true) (fun w => by go_simp) ?_
        simp only [Act.put, List.setIfInBounds_toArray, List.set_cons_succ, List.set_cons_zero]
        go_big_quiet_on
        go_big_quiet_step (fail)
        go_big_quiet_want
        (with_reducible refine quietG_call0 egA  (.bool true)  (fun w' hw' => (HAw.out w' (HC.out.below (HB11.out.trans ((Behind.out hw').mono HB11.out.size)) rfl)).mono fun e w'' h => ⟨h.1, Behind.on hw' h.2⟩) ?_)
        simp only [Act.put, List.setIfInBounds_toArray, List.set_cons_succ, List.set_cons_zero]
        go_big_quiet_on
        go_big_quiet_want
        refine quietG_value (.bool true) (fun w => by go_simp) ?_
        simp only [Act.put, List.setIfInBounds_toArray, List.set_cons_succ, List.set_cons_zero]
        go_big_quiet_on
        go_big_quiet_step (fail)
        refine wpQuiet_nil ?_
        rintro w12 ⟨⟨_, hW12⟩, rfl⟩
        have HB12 := Lib.hid (HB11.out.trans (hW12.mono HB11.out.size))
        clear hW12 hNe
        go_wp2
        go_ret
        exact ⟨rfl, HB12.out⟩)
theorem reads_int (bs : List Nat) (hbb : Sha.Bytes bs) (a : Option Addr) (c : Nat) (n1 n2 : Int) (b1 : 0 ≤ n1 ∧ n1 ≤ 255) (b2 : 0 ≤ n2 ∧ n2 ≤ 255) (w : World) (hp : PartOk w a c bs) (hcap : bs.length ≤ c ∧ c ≤ maxLen) (hc : ConstAt w) :
    Calls Tryd.prog 11 #[.slice a bs.length c, .int .u8 n1, .int .u8 n2] w fun e w' => e = .returned (.bool true) ∧ Below w.heap.size w w' := by
  obtain ⟨m1, rfl⟩ := Int.eq_ofNat_of_zero_le b1.1
  obtain ⟨m2, rfl⟩ := Int.eq_ofNat_of_zero_le b2.1
  exact reads_law bs hbb a c m1 m2 (by omega) (by omega) w hp hcap hc
end Go.Proofs.YtffdkniahdekjaaDoor
end
