/-
  THE LAW SumBinds, WALKED: true, and nothing that was there is turned.
-/
import Derived.Test.YtffdkniahdekjaaDoorMBl
import Derived.Test.YtffdkniahdekjaaDoorMDa
import Derived.Test.YtffdkniahdekjaaDoorMDb
import Derived.Test.YtffdkniahdekjaaDoorMDc
import Derived.Test.YtffdkniahdekjaaDoorMDd
section
namespace Go.Proofs.YtffdkniahdekjaaDoor
open Go.RowKit Go.Hoar
noncomputable def bdOps (k : Nat) : Array Oper := (Tryd.f13.body.bind (opsAt k)).getD #[]
theorem bits_xor_u8_nat (a b : Nat) (ha : a < 256) (hb : b < 256) : bits .xor .u8 (a : Int) (b : Int) = ((a ^^^ b : Nat) : Int) := by
  have hx : a ^^^ b < 2 ^ 8 := Nat.xor_lt_two_pow (by omega) (by omega)
  have h1 : (BitVec.ofInt 8 (a : Int)).toNat = a := by
    rw [BitVec.ofInt_natCast, BitVec.toNat_ofNat]; exact Nat.mod_eq_of_lt (by omega)
  have h2 : (BitVec.ofInt 8 (b : Int)).toNat = b := by
    rw [BitVec.ofInt_natCast, BitVec.toNat_ofNat]; exact Nat.mod_eq_of_lt (by omega)
  show IntKind.u8.wrap ((BitVec.ofInt 8 (a : Int) ^^^ BitVec.ofInt 8 (b : Int)).toNat : Int) = _
  rw [BitVec.toNat_xor, h1, h2]
  simp [IntKind.wrap, IntKind.bits, IntKind.signed]
  omega
theorem arr_set (y : List Nat) (hy : y.length = 32) (j v : Nat) : (arr32 y).setIfInBounds j (.int .u8 (v : Int)) = arr32 (y.set j v) :=
  Array.ext' (by rw [Array.toList_setIfInBounds]; exact cells_set y hy j v)
theorem own_cellB {w : World} {base n g c size : Nat} {e : TypeId} {xs : List Value} (h : w.ownsRow base e size (.slice (some ⟨g, 0, none⟩) n c) n xs) (j : Nat) (u : Value) (hj : xs[j]? = some u) : w.cell? ⟨g, j, none⟩ = some u := by
  have := h.cells (g := g) rfl j u hj
  rwa [Addr.add_lit, Nat.zero_add] at this
theorem rowok_lt {w : World} {a : Option Addr} {c : Nat} {ls : List (List Nat)} (h : RowOk w a c ls) (g : Addr) (hg : a = some g) : g.block < w.heap.size := by
  rcases h with ⟨rfl, _⟩ | ⟨g', off, rfl, hl, _⟩
  · cases hg
  · cases hg; exact hl
theorem xor_any (z d : Nat) (hz : z < 256) (hd : d < 256) (h0 : d ≠ 0) : ∃ y : Nat, y < 256 ∧ y ≠ z ∧ bits BinOp.xor IntKind.u8 (z : Int) (d : Int) = (y : Int) := by
  refine ⟨z ^^^ d, Nat.xor_lt_two_pow (n := 8) (by omega) (by omega), fun e => h0 ?_, bits_xor_u8_nat z d hz hd⟩
  have h := congrArg (fun t => z ^^^ t) e
  simp only [← Nat.xor_assoc, Nat.xor_self, Nat.zero_xor] at h
  exact h
theorem clone_row (ls : List (List Nat)) (hok : SumsOk ls) (k : Nat) (hk : ls.length = k) (hn : k ≤ 1000) (a : Option Addr) (c : Nat) (w : World) (hr : RowOk w a c ls) :
    Calls Tryd.prog 32 #[.slice a k c] w fun e w' => ∃ ao co, e = .returned (.slice ao k co) ∧ w'.ownsRow w.heap.size 26 32 (.slice ao k co) k (ls.flatMap cellsOf) ∧ Below w.heap.size w w' := by
  subst hk
  refine (cloneSums_any ls hok (by omega) a c w hr).mono ?_
  rintro e w' ⟨v, rfl, ho, hb⟩
  obtain ⟨ao, co, rfl, _, _⟩ := own_shape ho
  exact ⟨ao, co, rfl, ho, hb⟩
theorem row_own {V : World} {base n c : Nat} {a : Option Addr} {ls : List (List Nat)} (h : V.ownsRow base 26 32 (.slice a n c) n (ls.flatMap cellsOf)) (hok : SumsOk ls) (hn : ls.length = n) : RowOk V a c ls := by
  obtain ⟨a', c', e, hr, _⟩ := row_of_own h hok hn
  injection e with e1 _ e2
  subst e1
  subst e2
  exact hr
theorem alloc_sizeB (w : World) (o : Obj) : (w.alloc o).heap.size = w.heap.size + 1 := by unfold World.alloc; exact Array.size_push _
theorem row_apartB {w : World} {a : Option Addr} {c : Nat} {ls : List (List Nat)} (h : RowOk w a c ls) {g0 : Nat} (hne : ∀ g, a = some g → g.block ≠ g0) (cs : Array Value) : RowOk (w.setRow g0 cs) a c ls := by
  rcases h with h | ⟨g, off, rfl, hg, hs, r⟩
  · exact .inl h
  · refine .inr ⟨g, off, rfl, by simpa using hg, fun i l hi => ⟨(hs i l hi).1, (hs i l hi).2.1, fun j hj => ?_⟩, r⟩
    exact (World.cell?_of_block (setRow_heap_other w g0 g cs (hne _ rfl))).trans ((hs i l hi).2.2 j hj)
theorem own_apart {w : World} {base n : Nat} {e : TypeId} {size : Nat} {v : Value} {xs : List Value} (h : w.ownsRow base e size v n xs) {g : Nat} (hg : ∀ r, v.ownBlock = some r → r ≠ g) (cs : Array Value) : (w.setRow g cs).ownsRow base e size v n xs :=
  h.kept (row := some g) ⟨rfl, rfl, rfl, by simp [World.setRow], fun k _ hb => setRow_heap_other w g k cs (fun e => hb (by rw [e]))⟩ (by cases hv : v.ownBlock with | none => simp | some r => exact .inr (fun e => hg r hv (Option.some.inj e)))
theorem rowok_cell {w : World} {a : Option Addr} {c : Nat} {ls : List (List Nat)} (h : RowOk w a c ls) {p : Addr} (hne : ∀ g, a = some g → g.block ≠ p.block) (u : Value) : RowOk (w.setCell p u) a c ls := by
  rcases h with h | ⟨g, off, rfl, hg, hs, r⟩
  · exact .inl h
  · refine .inr ⟨g, off, rfl, by simpa [World.setCell] using hg, fun i l hi => ⟨(hs i l hi).1, (hs i l hi).2.1, fun j hj => ?_⟩, r⟩
    exact (World.cell?_of_block (Below.heap_setCell w p u g (hne _ rfl))).trans ((hs i l hi).2.2 j hj)
theorem own_adr {w : World} {base n c : Nat} {e : TypeId} {size : Nat} {a : Option Addr} {xs : List Value} (h : w.ownsRow base e size (.slice a n c) n xs) {g : Addr} (hg : a = some g) : g = ⟨g.block, 0, none⟩ := by
  rcases h.2 with ⟨hv, _⟩ | ⟨g', cap, cur, hv, _⟩
  · injection hv with e1
    rw [hg] at e1
    cases e1
  · injection hv with e1
    rw [hg] at e1
    rw [Option.some.inj e1]
/-- Where two lists of bytes at one place differ, and have one digest. -/
def ClashAt (R1 R2 : List (List Nat)) (k : Nat) : Prop := ∃ b d, R1[k]? = some b ∧ R2[k]? = some d ∧ b ≠ d ∧ Sha.sha b = Sha.sha d
set_option maxRecDepth 100000 in
set_option maxHeartbeats 10000000 in
/-- THE LAW's WALK. -/
theorem binds_law (bs : List Nat) (hbb : Sha.Bytes bs) (a : Option Addr) (c : Nat) (many place at0 by0 : Nat) (hmany : many < 256) (hplace : place < 256) (hat : at0 < 256) (hby : by0 < 256) (w : World) (hp : PartOk w a c bs) (hcap : bs.length ≤ c ∧ c ≤ maxLen) (hc : ConstAt w) :
    Calls Tryd.prog 13 #[.slice a bs.length c, .int .u8 (many : Int), .int .u8 (place : Int), .int .u8 (at0 : Int), .int .u8 (by0 : Int)] w fun e w' => e = .returned (.bool true) ∧ Below w.heap.size w w' := by
  have HOf := Lib.hid (kitOf_any bs hbb a c w hp hcap)
  have HC := Lib.hid hc
  have HAw : Hid (∀ V : World, ConstAt V → Calls Tryd.prog 15 #[] V fun e w' => e = .returned (.bool true) ∧ Below V.heap.size V w') := Lib.hid fun V hV => awake_any V hV
  obtain ⟨i0, hi0, hz0, hz1, hz2⟩ := info_parts sumInfo3
  obtain ⟨r, hr⟩ : ∃ r, r = many % 40 := ⟨_, rfl⟩
  have htm : ((many : Int)).tmod 40 = (r : Int) := by rw [hr]; exact (Int.ofNat_tmod many 40).symm
  have hr40 : r < 40 := by omega
  have hw1 : IntKind.i64.wrap (many : Int) = (many : Int) := IntWalk.i64_in _ (by omega)
  have hw2 : IntKind.i64.wrap (place : Int) = (place : Int) := IntWalk.i64_in _ (by omega)
  have hw3 : IntKind.i64.wrap (at0 : Int) = (at0 : Int) := IntWalk.i64_in _ (by omega)
  have hw4 : IntKind.i64.wrap (by0 : Int) = (by0 : Int) := IntWalk.i64_in _ (by omega)
  obtain ⟨n, hn⟩ : ∃ n, n = 1 + r := ⟨_, rfl⟩
  have HSm : Hid (∀ (g : Nat) (V : World), Kit V g (g + 1) 0 → Calls Tryd.prog 52 #[.pointer (some ⟨g, 0, none⟩), .int .i64 (1 + (r : Int))] V fun e w' => ∃ (v : Value) (L : List (List Nat)), e = .returned v ∧ L.length = n ∧ SumsOk L ∧ w'.ownsRow V.heap.size 26 32 v n (L.flatMap cellsOf) ∧ Kit w' g (g + 1) (0 + 40 * n) ∧ But g V w') := Lib.hid fun g V hK => by
    have h := some_any g (g + 1) 0 n (by omega) (by omega) V hK hK.lt
    rw [show ((n : Nat) : Int) = 1 + (r : Int) by omega] at h
    exact h
  have hn0 : ¬ n = 0 := by omega
  have hn40 : n ≤ 40 := by omega
  have HF0 : Hid (∀ V : World, Has (V.alloc (.cells zero32 26)) V.heap.size 26 zero32) := Lib.hid fun V => fresh_sum V
  clear hp hcap hbb hc hr hn
  have egE : ∀ args w, (callFunc 19 args).run Tryd.prog w = .ok (.enter 19 args) w := enters_of Tryd.func19 (by kernel_rfl) rfl
  have egO : ∀ args w, (callFunc 17 args).run Tryd.prog w = .ok (.enter 17 args) w := enters_of Tryd.func17 (by kernel_rfl) rfl
  have egV : ∀ args w, (callFunc 42 args).run Tryd.prog w = .ok (.enter 42 args) w := enters_of Tryd.func42 (by kernel_rfl) rfl
  go_enter Tryd.func13, Tryd.ntmps13
  go_upto_region 3 with (first
    | (go_at_call 49; (with_reducible refine HOf.out.mono ?_); rintro e w1 ⟨g, rfl, hK, hgw, hb1⟩; have HK1 := Lib.hid hK; have HB1 := Lib.hid hb1; clear hK hb1)
    | (go_at_call 52; (with_reducible refine (HSm.out g w1 HK1.out).mono ?_); rintro e w2 ⟨v2, L, rfl, hLl, hLok, ho, _, hbut⟩; have HO2 := Lib.hid ho; have HB2 := Lib.hid (HB1.out.trans (hbut.below hgw HB1.out.size)); clear ho hbut))
  obtain ⟨a2, c2, rfl, hr2, hmc, hcm, _⟩ := row_of_own HO2.out hLok hLl
  rcases hr2 with ⟨_, he, _⟩ | ⟨g2, off2, rfl, hg2, hs2, hc2, hm2⟩
  · rw [he] at hLl
    exact absurd hLl.symm hn0
  obtain ⟨i, hi⟩ : ∃ i, i = place % n := ⟨_, rfl⟩
  have hti : ((place : Int)).tmod (n : Int) = (i : Int) := by rw [hi]; exact (Int.ofNat_tmod place n).symm
  have hin : i < n := by rw [hi]; exact Nat.mod_lt _ (by omega)
  obtain ⟨x, hx⟩ : ∃ x, L[i]? = some x := ⟨_, List.getElem?_eq_getElem (by omega)⟩
  have hxok := hLok x (List.mem_of_getElem? hx)
  obtain ⟨X, hX⟩ : ∃ X, X = rootOf L := ⟨_, rfl⟩
  have hX32 : X.length = 32 := by rw [hX]; exact (rootOf_len _).1
  obtain ⟨ps, hps⟩ : ∃ ps, ps = waysOf n i := ⟨_, rfl⟩
  obtain ⟨W, hW⟩ : ∃ W, W = ps.map (spanSum L) := ⟨_, rfl⟩
  obtain ⟨q, hq⟩ : ∃ q, q = ps.length := ⟨_, rfl⟩
  have hWl : W.length = q := by rw [hW, List.length_map, hq]
  have hWok : SumsOk W := fun l hl => by
    rw [hW] at hl
    obtain ⟨p, _, rfl⟩ := List.mem_map.1 hl
    exact spanSum_len _ _
  have hWr : W = refWay n L i := by
    rw [hW, hps]
    have h := ways_list L (by omega) i
    rw [hLl] at h
    exact h
  have hclR : climb (n + 1) n i x W = (X, true) := by
    have h := cl_root (n + 1) n L i x (by omega) (by omega) (by omega) hx
    rw [hLl] at h
    rw [hWr, hX]
    exact h
  have hq100 : q ≤ 100 := by
    have h := cl_len (n + 1) n i x W (by rw [hclR])
    omega
  have HClW : Hid ((climb (n + 1) n i x W).2 = true) := Lib.hid (by rw [hclR])
  have HCl2 : Hid (∀ (x2 : List Nat) (O2 : List (List Nat)), O2.length = q → (climb (n + 1) n i x2 O2).2 = true) := Lib.hid fun x2 O2 h => by
    rw [(climb_ways x2 n i hin (by omega) O2).1, decide_eq_true_eq, ← hps, ← hq]
    exact h
  have HVf : Hid (∀ (x2 : List Nat) (O2 : List (List Nat)), x2.length = 32 ∧ Sha.Bytes x2 → SumsOk O2 → O2.length = q → ∀ (ao : Option Addr) (co : Nat) (V : World), RowOk V ao co O2 → ConstAt V → Calls Tryd.prog 42 #[.agg (arr32 X), .int .i64 (n : Int), .int .i64 (i : Int), .agg (arr32 x2), .slice ao q co] V fun e w' => e = .returned (.tuple #[.bool (decide ((climb (n + 1) n i x2 O2).1 = X)), .int .i64 0]) ∧ Below V.heap.size V w') := Lib.hid fun x2 O2 h1 h2 h3 ao co V hr hc => by
    have h := verify_any X x2 hX32 h1.1 h1.2 n i hin (by omega) O2 h2 (by omega) ao co V hr hc ps (Lib.hid hps) (by rw [h3, hq]) (climb (n + 1) n i x2 O2).1 (Lib.hid (by rw [hps]; exact (climb_ways x2 n i hin (by omega) O2).2 (by rw [h3, hq, hps])))
    rw [h3] at h
    exact h
  have HVm : Hid (∀ (x2 : List Nat) (ao : Option Addr) (co : Nat) (V : World), Calls Tryd.prog 42 #[.agg (arr32 X), .int .i64 (n : Int), .int .i64 (i : Int), .agg (arr32 x2), .slice ao (q + 1) co] V fun e w' => e = .returned (.tuple #[.bool false, .int .i64 2]) ∧ Below V.heap.size V w') := Lib.hid fun x2 ao co V => verify_many X x2 n i hin (by omega) (q + 1) (by omega) ao co V (by rw [← hps, ← hq]; omega)
  have HYes : Hid (∀ (x2 : List Nat) (O2 : List (List Nat)), SumsOk O2 → O2.length = q → x2.length = 32 ∧ Sha.Bytes x2 → (x ≠ x2 ∨ W ≠ O2) → (climb (n + 1) n i x2 O2).1 = X → ∃ k b d, (readOf (n + 1) n i x W)[k]? = some b ∧ (readOf (n + 1) n i x2 O2)[k]? = some d ∧ b ≠ d ∧ Sha.sha b = Sha.sha d) := Lib.hid fun x2 O2 h1 h2 _ h4 h5 => read_clash (n + 1) n i x x2 W O2 hWok h1 HClW.out (HCl2.out x2 O2 h2) (by rw [hclR, h5]) h4
  have HCw : Hid (∀ V, Below w2.heap.size w2 V → ConstAt V) := Lib.hid fun V hV => HC.out.below (HB2.out.trans (hV.mono HB2.out.size)) rfl
  have HrL : Hid (∀ V, Below w2.heap.size w2 V → RowOk V (some ⟨g2, off2, none⟩) c2 L) := Lib.hid fun V hV => .inr ⟨g2, off2, rfl, Nat.lt_of_lt_of_le hg2 hV.size, hs2.below hg2 hV, hc2, hm2⟩
  have HXr : Hid (∀ V, Below w2.heap.size w2 V → ∀ j u, (arr32 x)[j]? = some u → V.cell? ((⟨g2, off2 + i * 32, none⟩ : Addr).add j) = some u) := Lib.hid fun V hV => (hs2.below hg2 hV).row hx
  have HLs : Hid (∀ V, Below w2.heap.size w2 V → Calls Tryd.prog 33 #[.slice (some ⟨g2, off2, none⟩) n c2] V fun e w' => e = .returned (.agg (arr32 X)) ∧ Below V.heap.size V w') := Lib.hid fun V hV => by
    have h : Calls Tryd.prog 33 #[.slice (some ⟨g2, off2, none⟩) L.length c2] V fun e w' => e = .returned (.agg (arr32 (rootOf L))) ∧ (rootOf L).length = 32 ∧ Below V.heap.size V w' := listAll_any L V _ c2 (HrL.out V hV) (by omega) (HCw.out V hV)
    rw [← hX, hLl] at h
    exact h.mono fun e w' k => ⟨k.1, k.2.2⟩
  have HPf : Hid (∀ V, Below w2.heap.size w2 V → Calls Tryd.prog 34 #[.slice (some ⟨g2, off2, none⟩) n c2, .int .i64 (i : Int)] V fun e w' => ∃ aw cw, e = .returned (.tuple #[.slice aw q cw, .int .i64 0]) ∧ w'.ownsRow V.heap.size 26 32 (.slice aw q cw) q (W.flatMap cellsOf) ∧ Below V.heap.size V w') := Lib.hid fun V hV => by
    have h := proof_any L i (by omega) (by omega) g2 off2 c2 V (hs2.below hg2 hV) (Nat.lt_of_lt_of_le hg2 hV.size) hc2 hm2 (HCw.out V hV) ps (Lib.hid (by rw [hLl]; exact hps))
    rw [hLl] at h
    refine h.mono ?_
    rintro e w' ⟨v, rfl, ho, hb⟩
    have e2 : (ps.flatMap fun p => cellsOf (spanSum L p)) = W.flatMap cellsOf := by rw [hW, List.flatMap_map]
    rw [e2, ← hq] at ho
    obtain ⟨aw, cw, rfl, _, _⟩ := own_shape ho
    exact ⟨aw, cw, rfl, ho, hb⟩
  have HCf : Hid ((climb (n + 1) n i x W).1 = X) := Lib.hid (by rw [hclR])
  have HIx := Lib.hid (arr32_info x (by have := hxok.1; omega))
  have HSx := Lib.hid (zero32_size x (by have := hxok.1; omega))
  have HIX := Lib.hid (arr32_info X (by omega))
  have HSX := Lib.hid (zero32_size X (by omega))
  have HXok := Lib.hid hxok
  have HWok := Lib.hid hWok
  have HWl := Lib.hid hWl
  have hic : i < c2 := by omega
  unfold maxLen at hcm
  clear hs2 hLl hLok hi hx hxok hX hps hW hq hWl hWok hWr hclR HO2 HOf HSm hm2 hc2
  go_upto_region 5 with (first
    | (go_at_call 33; (with_reducible refine (HLs.out _ (Below.refl _ _)).mono ?_); rintro e w3 ⟨rfl, hb⟩; have HB3 := Lib.hid hb; have HF := Lib.hid (HF0.out w3); clear hb)
    | ((with_reducible refine arm_store w3.heap.size (arr32 X) 26 zero32 HF.out HSX.out HIX.out (arr32_one _) ?h5 ?h6 ?_); (case h5 => rfl); (case h6 => rfl)))
  refine gen_world (P := fun W => Code.wp _ _ _ _ W) (I := fun V => Below w2.heap.size w2 V ∧ Has V w3.heap.size 26 (arr32 X)) _ ⟨below_setRow (HB3.out.alloc HB3.out.size _) HB3.out.size _, HF.out.setRow⟩ ?_
  rintro w4 ⟨hB, hX4⟩
  generalize w3.heap.size = g14 at hX4 ⊢
  have HB4 := Lib.hid hB
  have HX4 := Lib.hid hX4
  clear hB hX4 HF HB3
  go_upto_region 6 with (first
    | (go_at_call 34; (with_reducible refine (HPf.out _ HB4.out).mono ?_); rintro e w5 ⟨aw, cw, rfl, ho, hb⟩; have HB5 := Lib.hid (HB4.out.trans (hb.mono HB4.out.size)); have HX5 := Lib.hid (HX4.out.below hb HX4.out.lt); have HW5 := Lib.hid (row_own ho HWok.out HWl.out); clear ho hb))
  have hg14 := HX5.out.lt
  have HV1 : Hid (∀ V, Below w5.heap.size w5 V → Calls Tryd.prog 42 #[.agg (arr32 X), .int .i64 (n : Int), .int .i64 (i : Int), .agg (arr32 x), .slice aw q cw] V fun e w' => e = .returned (.tuple #[.bool true, .int .i64 0]) ∧ Below V.heap.size V w') := Lib.hid fun V hV => by
    have h := HVf.out x W HXok.out HWok.out HWl.out aw cw V (HW5.out.below hV) (HCw.out V (HB5.out.trans (hV.mono HB5.out.size)))
    rw [decide_eq_true HCf.out] at h
    exact h
  haveI hNe : Nonempty {V : World // Below w5.heap.size w5 V} := ⟨⟨w5, Below.refl _ _⟩⟩
  refine wp_region_quietC (fun w' => ∃ V : {V : World // Below w5.heap.size w5 V}, w' = V.1) (by kernel_rfl) (by kernel_rfl) ⟨⟨w5.drew, (Below.refl _ w5).drew⟩, rfl⟩ ?_
  go_big_quiet_want
  (with_reducible refine quietG_load ⟨g14, 0, none⟩ (arr32 X) _ (fun w' hw' => (HX5.out.below (Behind.out hw') hg14).row) Tryd.underlying26 HIX.out ?l1 ?l2 ?_); (case l1 => rfl); (case l2 => rfl)
  simp only [Act.put, List.setIfInBounds_toArray, List.set_cons_succ, List.set_cons_zero]
  go_big_quiet_on
  go_big_quiet_step (fail)
  go_big_quiet_want
  refine quietG_value (.int .i64 (n : Int)) (fun w => by go_simp) ?_
  simp only [Act.put, List.setIfInBounds_toArray, List.set_cons_succ, List.set_cons_zero]
  go_big_quiet_on
  go_big_quiet_step (fail)
  go_big_quiet_step (fail)
  go_big_quiet_step (fail)
  go_big_quiet_want
  refine quietG_value (.pointer (some ⟨g2, off2 + i * 32, none⟩)) (fun w => by go_simp) ?_
  simp only [Act.put, List.setIfInBounds_toArray, List.set_cons_succ, List.set_cons_zero]
  go_big_quiet_on
  go_big_quiet_want
  (with_reducible refine quietG_load ⟨g2, off2 + i * 32, none⟩ (arr32 x) _ (fun w' hw' => HXr.out _ (HB5.out.trans ((Behind.out hw').mono HB5.out.size))) Tryd.underlying26 HIx.out ?l1 ?l2 ?_); (case l1 => rfl); (case l2 => rfl)
  simp only [Act.put, List.setIfInBounds_toArray, List.set_cons_succ, List.set_cons_zero]
  go_big_quiet_on
  go_big_quiet_step (fail)
  go_big_quiet_want
  (with_reducible refine quietG_call5 egV (.agg (arr32 X)) (.int .i64 (n : Int)) (.int .i64 (i : Int)) (.agg (arr32 x)) (.slice aw q cw) (.tuple #[.bool true, .int .i64 0]) ?a1 ?a2 ?a3 ?a4 ?a5 (fun w' hw' => (HV1.out w' (Behind.out hw')).mono fun e w'' h => ⟨h.1, Behind.on hw' h.2⟩) ?_); (case a1 => rfl); (case a2 => rfl); (case a3 => rfl); (case a4 => rfl); (case a5 => rfl)
  simp only [Act.put, List.setIfInBounds_toArray, List.set_cons_succ, List.set_cons_zero]
  go_big_quiet_on
  go_big_quiet_step (fail)
  go_big_quiet_want
  refine quietG_value (.bool true) (fun w => by go_simp) ?_
  simp only [Act.put, List.setIfInBounds_toArray, List.set_cons_succ, List.set_cons_zero]
  go_big_quiet_on
  go_big_quiet_want
  refine quietG_value (.int .i64 0) (fun w => by go_simp) ?_
  simp only [Act.put, List.setIfInBounds_toArray, List.set_cons_succ, List.set_cons_zero]
  go_big_quiet_on
  go_big_quiet_step (fail)
  go_big_quiet_step (fail)
  refine wpQuiet_nil ?_
  rintro w6 ⟨⟨_, hW6⟩, rfl⟩
  have HB6 := Lib.hid (HB5.out.trans (hW6.mono HB5.out.size))
  have HX6 := Lib.hid (HX5.out.below hW6 HX5.out.lt)
  have HW6 := Lib.hid (HW5.out.below hW6)
  have hg14b : g14 < w6.heap.size := HX6.out.lt
  clear hW6 hNe HB5 HX5 HW5 HV1 HB4 HX4
  obtain ⟨k, hk⟩ : ∃ k, k = at0 % (q + 1) := ⟨_, rfl⟩
  have htk : ((at0 : Int)).tmod ((q : Int) + 1) = (k : Int) := by
    rw [hk, show (q : Int) + 1 = ((q + 1 : Nat) : Int) by omega]
    exact (Int.ofNat_tmod at0 (q + 1)).symm
  have hkq : k ≤ q := by have h := Nat.mod_lt at0 (show 0 < q + 1 by omega); omega
  have hq0 : ¬ (q : Int) + 1 = 0 := by omega
  obtain ⟨j, hj⟩ : ∃ j, j = by0 % 32 := ⟨_, rfl⟩
  have htj : ((by0 : Int)).tmod 32 = (j : Int) := by rw [hj]; exact (Int.ofNat_tmod by0 32).symm
  have hj32 : j < 32 := by omega
  have hj32i : (j : Int) < 32 := by omega
  obtain ⟨d0, hd0⟩ : ∃ d, d = by0 % 255 := ⟨_, rfl⟩
  have htd : ((by0 : Int)).tmod 255 = (d0 : Int) := by rw [hd0]; exact (Int.ofNat_tmod by0 255).symm
  have hd255 : d0 < 255 := by omega
  have hwd : IntKind.u8.wrap (d0 : Int) = (d0 : Int) := by simp [IntKind.wrap, IntKind.bits, IntKind.signed]; omega
  have hwd2 : IntKind.u8.wrap (1 + (d0 : Int)) = 1 + (d0 : Int) := by simp [IntKind.wrap, IntKind.bits, IntKind.signed]; omega
  have HCn : Hid (∀ V : World, RowOk V aw cw W → Calls Tryd.prog 32 #[.slice aw q cw] V fun e w' => ∃ ao co, e = .returned (.slice ao q co) ∧ w'.ownsRow V.heap.size 26 32 (.slice ao q co) q (W.flatMap cellsOf) ∧ Below V.heap.size V w') := Lib.hid fun V hV => clone_row W HWok.out q HWl.out (by omega) aw cw V hV
  clear hk hj hd0
  go_upto_region 9 with (fail)
  rename_i K9 hK9
  have HNext9 : Hid (∀ (s0 s1 s2 s5 s6 s7 s8 s9 s10 s11 s16 s17 s18 s21 s22 s23 s24 s25 s26 s27 s28 s29 s30 s31 s32 s33 s34 s35 s36 s37 s38 s39 s40 s41 s42 s43 s44 s45 s46 s47 s48 s49 s50 s51 s52 s53 s54 s55 s56 s57 s58 s59 s60 s61 s62 s63 s64 s65 s66 s67 s68 s69 s70 s71 s72 s73 s74 s75 s76 s77 s78 s79 s80 s81 s82 s83 s84 s85 s86 s87 s88 s89 s90 s91 s92 s93 s94 s95 s96 s97 s98 s99 s100 s101 s102 s103 s104 s105 s106 s107 s108 s109 s110 s111 s112 s113 s114 s115 s116 s117 s118 s119 s120 s121 s122 s123 s124 s125 s126 s127 s128 s129 s130 s131 s132 s133 s134 s135 s136 s137 s138 s139 s140 s141 s142 s143 s144 s145 s146 s147 s148 s149 s150 s151 s152 s153 s154 s155 s156 s157 s158 s159 s160 s161 s162 s163 s164 s165 s166 s167 s168 s169 s170 s171 s172 s173 s174 s175 s176 s177 s178 s179 s180 s181 s182 s183 s184 s185 s186 s187 s188 s189 s190 s191 s192 s193 s194 s195 s196 s197 s198 s199 s200 s201 : Value) (ao : Option Addr) (co g19 M0 : Nat) (U0 : World), Below w2.heap.size w2 U0 → Has U0 g14 26 (arr32 X) → Has U0 g19 26 (arr32 x) → RowOk U0 aw cw W → U0.ownsRow M0 26 32 (.slice ao q co) q (W.flatMap cellsOf) → w2.heap.size ≤ M0 → g14 < M0 → M0 ≤ g19 → (∀ g, aw = some g → g.block < M0) → (∀ gO, ao = some ⟨gO, 0, none⟩ → gO ≠ g19) → K9 ⟨#[s0, s1, s2, .int .u8 (at0 : Int), .int .u8 (by0 : Int), s5, s6, s7, s8, s9, s10, s11, .slice (some ⟨g2, off2, none⟩) n c2, .int .i64 (i : Int), .pointer (some ⟨g14, 0, none⟩), .slice aw q cw, s16, s17, s18, .pointer (some ⟨g19, 0, none⟩), .slice ao q co, s21, s22, s23, s24, s25, s26, s27, s28, s29, s30, s31, s32, s33, s34, s35, s36, s37, s38, s39, s40, s41, s42, s43, s44, s45, s46, s47, s48, s49, s50, s51, s52, s53, s54, s55, s56, s57, s58, s59, s60, s61, s62, s63, s64, s65, s66, s67, s68, s69, s70, s71, s72, s73, s74, s75, s76, s77, s78, s79, s80, s81, s82, s83, s84, s85, s86, s87, s88, s89, s90, s91, s92, s93, s94, s95, s96, s97, s98, s99, s100, s101, s102, s103, s104, s105, s106, s107, s108, s109, s110, s111, s112, s113, s114, s115, s116, s117, s118, s119, s120, s121, s122, s123, s124, s125, s126, s127, s128, s129, s130, s131, s132, s133, s134, s135, s136, s137, s138, s139, s140, s141, s142, s143, s144, s145, s146, s147, s148, s149, s150, s151, s152, s153, s154, s155, s156, s157, s158, s159, s160, s161, s162, s163, s164, s165, s166, s167, s168, s169, s170, s171, s172, s173, s174, s175, s176, s177, s178, s179, s180, s181, s182, s183, s184, s185, s186, s187, s188, s189, s190, s191, s192, s193, s194, s195, s196, s197, s198, s199, s200, s201], []⟩ U0) := Lib.hid fun s0 s1 s2 s5 s6 s7 s8 s9 s10 s11 s16 s17 s18 s21 s22 s23 s24 s25 s26 s27 s28 s29 s30 s31 s32 s33 s34 s35 s36 s37 s38 s39 s40 s41 s42 s43 s44 s45 s46 s47 s48 s49 s50 s51 s52 s53 s54 s55 s56 s57 s58 s59 s60 s61 s62 s63 s64 s65 s66 s67 s68 s69 s70 s71 s72 s73 s74 s75 s76 s77 s78 s79 s80 s81 s82 s83 s84 s85 s86 s87 s88 s89 s90 s91 s92 s93 s94 s95 s96 s97 s98 s99 s100 s101 s102 s103 s104 s105 s106 s107 s108 s109 s110 s111 s112 s113 s114 s115 s116 s117 s118 s119 s120 s121 s122 s123 s124 s125 s126 s127 s128 s129 s130 s131 s132 s133 s134 s135 s136 s137 s138 s139 s140 s141 s142 s143 s144 s145 s146 s147 s148 s149 s150 s151 s152 s153 s154 s155 s156 s157 s158 s159 s160 s161 s162 s163 s164 s165 s166 s167 s168 s169 s170 s171 s172 s173 s174 s175 s176 s177 s178 s179 s180 s181 s182 s183 s184 s185 s186 s187 s188 s189 s190 s191 s192 s193 s194 s195 s196 s197 s198 s199 s200 s201 ao co g19 M0 U0 hB hX hx0 hR hO hM1 hM2 hM3 hM4 hM5 => by
    apply hK9
    have HB0 := Lib.hid hB
    have HX0 := Lib.hid hX
    have HY0 := Lib.hid hx0
    have HR0 := Lib.hid hR
    have HO0 := Lib.hid hO
    have HM4 := Lib.hid hM4
    have HM5 := Lib.hid hM5
    clear hB hX hx0 hR hO hM4 hM5 hK9
    go_upto_region 11 with (fail)
    rename_i K14 hK14 K11 hK11
    have HNext14 : Hid (∀ (s0 s1 s2 s3 s4 s5 s6 s7 s8 s9 s10 s11 s16 s17 s18 s21 s22 s23 s24 s25 s26 s27 s28 s29 s30 s31 s32 s33 s34 s35 s36 s37 s38 s39 s40 s41 s42 s43 s44 s45 s46 s47 s48 s49 s50 s51 s52 s53 s54 s55 s56 s57 s58 s59 s60 s61 s62 s63 s64 s65 s66 s67 s68 s69 s70 s71 s72 s73 s74 s75 s76 s77 s78 s79 s80 s81 s82 s83 s84 s85 s86 s87 s88 s89 s90 s91 s92 s93 s94 s95 s96 s97 s98 s99 s100 s101 s102 s103 s104 s105 s106 s107 s108 s109 s110 s111 s112 s113 s114 s115 s116 s117 s118 s119 s120 s121 s122 s123 s124 s125 s126 s127 s128 s129 s130 s131 s132 s133 s134 s135 s136 s137 s138 s139 s140 s141 s142 s143 s144 s145 s146 s147 s148 s149 s150 s151 s152 s153 s154 s155 s156 s157 s158 s159 s160 s161 s162 s163 s164 s165 s166 s167 s168 s169 s170 s171 s172 s173 s174 s175 s176 s177 s178 s179 s180 s181 s182 s183 s184 s185 s186 s187 s188 s189 s190 s191 s192 s193 s194 s195 s196 s197 s198 s199 s200 s201 : Value) (x2 : List Nat) (O2 : List (List Nat)) (U : World), Below w2.heap.size w2 U → Has U g14 26 (arr32 X) → Has U g19 26 (arr32 x2) → RowOk U aw cw W → RowOk U ao co O2 → SumsOk O2 → O2.length = q → x2.length = 32 ∧ Sha.Bytes x2 → (x ≠ x2 ∨ W ≠ O2) → K14 ⟨#[s0, s1, s2, s3, s4, s5, s6, s7, s8, s9, s10, s11, .slice (some ⟨g2, off2, none⟩) n c2, .int .i64 (i : Int), .pointer (some ⟨g14, 0, none⟩), .slice aw q cw, s16, s17, s18, .pointer (some ⟨g19, 0, none⟩), .slice ao q co, s21, s22, s23, s24, s25, s26, s27, s28, s29, s30, s31, s32, s33, s34, s35, s36, s37, s38, s39, s40, s41, s42, s43, s44, s45, s46, s47, s48, s49, s50, s51, s52, s53, s54, s55, s56, s57, s58, s59, s60, s61, s62, s63, s64, s65, s66, s67, s68, s69, s70, s71, s72, s73, s74, s75, s76, s77, s78, s79, s80, s81, s82, s83, s84, s85, s86, s87, s88, s89, s90, s91, s92, s93, s94, s95, s96, s97, s98, s99, s100, s101, s102, s103, s104, s105, s106, s107, s108, s109, s110, s111, s112, s113, s114, s115, s116, s117, s118, s119, s120, s121, s122, s123, s124, s125, s126, s127, s128, s129, s130, s131, s132, s133, s134, s135, s136, s137, s138, s139, s140, s141, s142, s143, s144, s145, s146, s147, s148, s149, s150, s151, s152, s153, s154, s155, s156, s157, s158, s159, s160, s161, s162, s163, s164, s165, s166, s167, s168, s169, s170, s171, s172, s173, s174, s175, s176, s177, s178, s179, s180, s181, s182, s183, s184, s185, s186, s187, s188, s189, s190, s191, s192, s193, s194, s195, s196, s197, s198, s199, s200, s201], []⟩ U) := Lib.hid fun s0 s1 s2 s3 s4 s5 s6 s7 s8 s9 s10 s11 s16 s17 s18 s21 s22 s23 s24 s25 s26 s27 s28 s29 s30 s31 s32 s33 s34 s35 s36 s37 s38 s39 s40 s41 s42 s43 s44 s45 s46 s47 s48 s49 s50 s51 s52 s53 s54 s55 s56 s57 s58 s59 s60 s61 s62 s63 s64 s65 s66 s67 s68 s69 s70 s71 s72 s73 s74 s75 s76 s77 s78 s79 s80 s81 s82 s83 s84 s85 s86 s87 s88 s89 s90 s91 s92 s93 s94 s95 s96 s97 s98 s99 s100 s101 s102 s103 s104 s105 s106 s107 s108 s109 s110 s111 s112 s113 s114 s115 s116 s117 s118 s119 s120 s121 s122 s123 s124 s125 s126 s127 s128 s129 s130 s131 s132 s133 s134 s135 s136 s137 s138 s139 s140 s141 s142 s143 s144 s145 s146 s147 s148 s149 s150 s151 s152 s153 s154 s155 s156 s157 s158 s159 s160 s161 s162 s163 s164 s165 s166 s167 s168 s169 s170 s171 s172 s173 s174 s175 s176 s177 s178 s179 s180 s181 s182 s183 s184 s185 s186 s187 s188 s189 s190 s191 s192 s193 s194 s195 s196 s197 s198 s199 s200 s201 x2 O2 U hB hX hY hR hO hOok hOl hx2 hne => by
      apply hK14
      have HBU := Lib.hid hB
      have HX14 := Lib.hid hX
      have HX2 := Lib.hid hY
      have HRW := Lib.hid hR
      have HRO := Lib.hid hO
      have hg14 : g14 < U.heap.size := hX.lt
      have hg19 : g19 < U.heap.size := hY.lt
      have hx21 : x2.length = 32 := hx2.1
      have HI2 := Lib.hid (arr32_info x2 (by omega))
      have HSx2 : Hid ((arr32 x2).size = i0.size) := Lib.hid (by rw [hz1]; exact arr32_size x2 (by omega))
      have HCU : Hid (∀ V, Below U.heap.size U V → ConstAt V) := Lib.hid fun V hV => HCw.out V (hB.trans (hV.mono hB.size))
      have HCln : Hid (∀ V, Below U.heap.size U V → Calls Tryd.prog 32 #[.slice aw q cw] V fun e w' => ∃ a3 c3, e = .returned (.slice a3 q c3) ∧ w'.ownsRow V.heap.size 26 32 (.slice a3 q c3) q (W.flatMap cellsOf) ∧ Below V.heap.size V w') := Lib.hid fun V hV => HCn.out V (HRW.out.below hV)
      have hvf := HVf.out x2 O2 hx2 hOok hOl ao co U hO (HCU.out U (Below.refl _ _))
      clear hB hX hY hR hO hK14 hK11 HB0 HX0 HY0 HR0 HO0
      by_cases hdec : (climb (n + 1) n i x2 O2).1 = X
      · rw [decide_eq_true hdec] at hvf
        have HVU := Lib.hid hvf
        clear hvf
        go_upto_region 15 with (first
          | ((with_reducible refine arm_load ⟨g14, 0, none⟩ (arr32 X) _ HX14.out.row Tryd.underlying26 HIX.out ?h1 ?h2 ?_); (case h1 => rfl); (case h2 => rfl))
          | ((with_reducible refine arm_load ⟨g19, 0, none⟩ (arr32 x2) _ HX2.out.row Tryd.underlying26 HI2.out ?h1 ?h2 ?_); (case h1 => rfl); (case h2 => rfl))
          | (go_at_call 42; (with_reducible refine HVU.out.mono ?_); rintro e u1 ⟨rfl, hb⟩; have HBV := Lib.hid hb; clear hb))
        clear HVU
        obtain ⟨k0, hk0⟩ := HYes.out x2 O2 hOok hOl hx2 hne hdec
        obtain ⟨R1, hR1⟩ : ∃ R, R = readOf (n + 1) n i x W := ⟨_, rfl⟩
        obtain ⟨R2, hR2⟩ : ∃ R, R = readOf (n + 1) n i x2 O2 := ⟨_, rfl⟩
        rw [← hR1, ← hR2] at hk0
        have hRl : R1.length = R2.length := by rw [hR1, hR2]; exact readOf_same (n + 1) n i x x2 W O2 HClW.out (HCl2.out x2 O2 hOl)
        obtain ⟨N, hN⟩ : ∃ N, R1.length = N := ⟨_, rfl⟩
        have hN2 : R2.length = N := by omega
        have hNb : N ≤ 100 := by have h := readOf_len (n + 1) n i x W; rw [← hR1, hN] at h; omega
        have hNp : 0 < N := by have h := (List.getElem?_eq_some_iff.1 hk0.choose_spec.choose_spec.1).1; omega
        have HRa : Hid (∀ V, Below U.heap.size U V → Calls Tryd.prog 55 #[.int .i64 (n : Int), .int .i64 (i : Int), .agg (arr32 x), .slice aw q cw] V fun e w' => ∃ gl cl vl, e = .returned (.slice (some ⟨gl, 0, none⟩) N cl) ∧ w'.ownsRow V.heap.size 22 1 (.slice (some ⟨gl, 0, none⟩) N cl) N vl ∧ BRows w' vl R1 ∧ Below V.heap.size V w') := Lib.hid fun V hV => by
          have h := read_any (n + 1) n i x W aw cw V q (by omega) (by omega) (by omega) (by omega) HXok.out HWok.out HClW.out HWl.out (HRW.out.below hV) (HCU.out V hV)
          rw [← hR1, hN] at h
          refine h.mono ?_
          rintro e w' ⟨v, vals, rfl, ho, hr, hb⟩
          obtain ⟨a, cl, rfl, _, _⟩ := own_shape ho
          obtain ⟨gl, rfl, _, _⟩ := own_addr ho hNp
          exact ⟨gl, cl, vals, rfl, ho, hr, hb⟩
        have HRb : Hid (∀ V, Below U.heap.size U V → Calls Tryd.prog 55 #[.int .i64 (n : Int), .int .i64 (i : Int), .agg (arr32 x2), .slice ao q co] V fun e w' => ∃ gl cl vl, e = .returned (.slice (some ⟨gl, 0, none⟩) N cl) ∧ w'.ownsRow V.heap.size 22 1 (.slice (some ⟨gl, 0, none⟩) N cl) N vl ∧ BRows w' vl R2 ∧ Below V.heap.size V w') := Lib.hid fun V hV => by
          have h := read_any (n + 1) n i x2 O2 ao co V q (by omega) (by omega) (by omega) (by omega) hx2 hOok (HCl2.out x2 O2 hOl) hOl (HRO.out.below hV) (HCU.out V hV)
          rw [← hR2, hN2] at h
          refine h.mono ?_
          rintro e w' ⟨v, vals, rfl, ho, hr, hb⟩
          obtain ⟨a, cl, rfl, _, _⟩ := own_shape ho
          obtain ⟨gl, rfl, _, _⟩ := own_addr ho hNp
          exact ⟨gl, cl, vals, rfl, ho, hr, hb⟩
        have HBy1 : Hid (∀ b ∈ R1, Sha.Bytes b ∧ b.length ≤ 1000000) := Lib.hid (by rw [hR1]; exact readOf_bytes _ _ _ _ _ HXok.out HWok.out)
        have HBy2 : Hid (∀ b ∈ R2, Sha.Bytes b ∧ b.length ≤ 1000000) := Lib.hid (by rw [hR2]; exact readOf_bytes _ _ _ _ _ hx2 hOok)
        have HK0 : Hid (ClashAt R1 R2 k0) := Lib.hid hk0
        have hk0N : k0 < N := by obtain ⟨b, d, hb, _⟩ := HK0.out; have h := (List.getElem?_eq_some_iff.1 hb).1; omega
        have HN1 := Lib.hid hN
        have HN2 := Lib.hid hN2
        clear hk0 hR1 hR2 hRl hN hN2
        go_upto_region 18 with (fail)
        change Code.wp _ (Code.region 18 (bdOps 18) true) _ _ _
        refine wp_region_held (S := fun V => Below U.heap.size U V) (by kernel_rfl) ?_
        have hsz : (bdOps 18).size = 17 := by kernel_rfl
        rw [hsz]
        clear hsz
        refine gen_world (P := fun W' => wpAnyH _ _ _ _ _ _ _ _ W') (I := fun V => Below U.heap.size U V) _ HBV.out.drew ?_
        rintro y0 hB
        have HBy := Lib.hid hB
        clear hB HBV
        refine wpAnyH_take (i := 0) (oi := ⟨some 123, _, _, _, _, _⟩) (v := .slice (some ⟨g2, off2, none⟩) n c2) rfl (by kernel_rfl) (by kernel_rfl) (by kernel_rfl) (fun _ _ _ h => h) (Or.inl ⟨by rfl, fun w' hw' => by go_simp⟩) HBy.out ?_
        try simp only [Act.put, List.setIfInBounds_toArray, List.set_cons_succ, List.set_cons_zero]
        refine wpAnyH_take (i := 1) (oi := ⟨some 124, _, _, _, _, _⟩) (v := .int .i64 (n : Int)) rfl (by kernel_rfl) (by kernel_rfl) (by kernel_rfl) (fun _ _ _ h => h) (Or.inl ⟨by rfl, fun w' hw' => by go_simp⟩) HBy.out ?_
        try simp only [Act.put, List.setIfInBounds_toArray, List.set_cons_succ, List.set_cons_zero]
        refine wpAnyH_take (i := 2) (oi := ⟨some 125, _, _, _, _, _⟩) (v := .int .i64 (i : Int)) rfl (by kernel_rfl) (by kernel_rfl) (by kernel_rfl) (fun _ _ _ h => h) (Or.inl ⟨by rfl, fun w' hw' => by go_simp⟩) HBy.out ?_
        try simp only [Act.put, List.setIfInBounds_toArray, List.set_cons_succ, List.set_cons_zero]
        refine wpAnyH_take (i := 3) (oi := ⟨some 126, _, _, _, _, _⟩) (v := .slice (some ⟨g2, off2, none⟩) n c2) rfl (by kernel_rfl) (by kernel_rfl) (by kernel_rfl) (fun _ _ _ h => h) (Or.inl ⟨by rfl, fun w' hw' => by go_simp⟩) HBy.out ?_
        try simp only [Act.put, List.setIfInBounds_toArray, List.set_cons_succ, List.set_cons_zero]
        refine wpAnyH_take (i := 4) (oi := ⟨some 127, _, _, _, _, _⟩) (v := .int .i64 (i : Int)) rfl (by kernel_rfl) (by kernel_rfl) (by kernel_rfl) (fun _ _ _ h => h) (Or.inl ⟨by rfl, fun w' hw' => by go_simp⟩) HBy.out ?_
        try simp only [Act.put, List.setIfInBounds_toArray, List.set_cons_succ, List.set_cons_zero]
        refine wpAnyH_take (i := 5) (oi := ⟨some 128, _, _, _, _, _⟩) (v := .pointer (some ⟨g2, off2 + i * 32, none⟩)) rfl (by kernel_rfl) (by kernel_rfl) (by kernel_rfl) (fun _ _ _ h => h) (Or.inl ⟨by rfl, fun w' hw' => by go_simp⟩) HBy.out ?_
        try simp only [Act.put, List.setIfInBounds_toArray, List.set_cons_succ, List.set_cons_zero]
        refine wpAnyH_take (i := 6) (oi := ⟨some 129, _, _, _, _, none⟩) (v := .agg (arr32 x)) rfl (by kernel_rfl) (by kernel_rfl) (by kernel_rfl) (fun _ _ _ h => h) (yieldsIf_load ⟨g2, off2 + i * 32, none⟩ _ _ (fun w hw => HXr.out _ (HBU.out.trans (hw.mono HBU.out.size))) Tryd.underlying26 HIx.out rfl rfl) HBy.out ?_
        try simp only [Act.put, List.setIfInBounds_toArray, List.set_cons_succ, List.set_cons_zero]
        refine wpAnyH_take (i := 7) (oi := ⟨some 130, _, _, _, _, _⟩) (v := .slice aw q cw) rfl (by kernel_rfl) (by kernel_rfl) (by kernel_rfl) (fun _ _ _ h => h) (Or.inl ⟨by rfl, fun w' hw' => by go_simp⟩) HBy.out ?_
        try simp only [Act.put, List.setIfInBounds_toArray, List.set_cons_succ, List.set_cons_zero]
        refine wpAnyH_take (i := 9) (oi := ⟨some 132, _, _, _, _, _⟩) (v := .slice (some ⟨g2, off2, none⟩) n c2) rfl (by kernel_rfl) (by kernel_rfl) (by kernel_rfl) (fun _ _ _ h => h) (Or.inl ⟨by rfl, fun w' hw' => by go_simp⟩) HBy.out ?_
        try simp only [Act.put, List.setIfInBounds_toArray, List.set_cons_succ, List.set_cons_zero]
        refine wpAnyH_take (i := 10) (oi := ⟨some 133, _, _, _, _, _⟩) (v := .int .i64 (n : Int)) rfl (by kernel_rfl) (by kernel_rfl) (by kernel_rfl) (fun _ _ _ h => h) (Or.inl ⟨by rfl, fun w' hw' => by go_simp⟩) HBy.out ?_
        try simp only [Act.put, List.setIfInBounds_toArray, List.set_cons_succ, List.set_cons_zero]
        refine wpAnyH_take (i := 11) (oi := ⟨some 134, _, _, _, _, _⟩) (v := .int .i64 (i : Int)) rfl (by kernel_rfl) (by kernel_rfl) (by kernel_rfl) (fun _ _ _ h => h) (Or.inl ⟨by rfl, fun w' hw' => by go_simp⟩) HBy.out ?_
        try simp only [Act.put, List.setIfInBounds_toArray, List.set_cons_succ, List.set_cons_zero]
        refine wpAnyH_take (i := 12) (oi := ⟨some 135, _, _, _, _, none⟩) (v := .agg (arr32 x2)) rfl (by kernel_rfl) (by kernel_rfl) (by kernel_rfl) (fun _ _ _ h => h) (yieldsIf_load ⟨g19, 0, none⟩ _ _ (fun w hw => (HX2.out.below hw hg19).row) Tryd.underlying26 HI2.out rfl rfl) HBy.out ?_
        try simp only [Act.put, List.setIfInBounds_toArray, List.set_cons_succ, List.set_cons_zero]
        refine wpAnyH_take (i := 13) (oi := ⟨some 136, _, _, _, _, _⟩) (v := .slice ao q co) rfl (by kernel_rfl) (by kernel_rfl) (by kernel_rfl) (fun _ _ _ h => h) (Or.inl ⟨by rfl, fun w' hw' => by go_simp⟩) HBy.out ?_
        try simp only [Act.put, List.setIfInBounds_toArray, List.set_cons_succ, List.set_cons_zero]
        refine wpAnyH_all (rs := [8]) (by kernel_rfl) (by simp) ?_
        intro jj hi
        obtain rfl : jj = 8 := by simpa using hi
        clear hi
        refine wpOp_step (o := ⟨some 131, _, _, _, _, _⟩) rfl (fun K' hK' => ?_)
        rw [if_pos (show Region.wanted _ _ = true from rfl)]
        go_simp
        (with_reducible refine (HRa.out y0 HBy.out).mono ?_)
        rintro e y1 ⟨ga, ca, va, rfl, ho, hn, hb⟩
        refine hK' _ _ ⟨HBy.out.trans (hb.mono HBy.out.size), ?_⟩
        clear hK' K'
        try simp only [Act.put, List.setIfInBounds_toArray, List.set_cons_succ, List.set_cons_zero]
        have HBy1w := Lib.hid (HBy.out.trans (hb.mono HBy.out.size))
        have HOa := Lib.hid (own_low ho HBy.out.size)
        have HNa := Lib.hid hn
        clear ho hn hb
        refine wpAnyH_all (rs := [14]) (by kernel_rfl) (by simp) ?_
        intro jj hi
        obtain rfl : jj = 14 := by simpa using hi
        clear hi
        refine wpOp_step (o := ⟨some 137, _, _, _, _, _⟩) rfl (fun K' hK' => ?_)
        rw [if_pos (show Region.wanted _ _ = true from rfl)]
        go_simp
        (with_reducible refine (HRb.out y1 HBy1w.out).mono ?_)
        rintro e y2 ⟨gc, cc, vc, rfl, ho, hn, hb⟩
        refine hK' _ _ ⟨HBy1w.out.trans (hb.mono HBy1w.out.size), ?_⟩
        clear hK' K'
        try simp only [Act.put, List.setIfInBounds_toArray, List.set_cons_succ, List.set_cons_zero]
        have HBy2w := Lib.hid (HBy1w.out.trans (hb.mono HBy1w.out.size))
        have HOa2 := Lib.hid (own_below HOa.out hb)
        have HNa2 := Lib.hid (HNa.out.below hb)
        have HOc := Lib.hid (own_low ho HBy1w.out.size)
        have HNc := Lib.hid hn
        clear ho hn hb
        refine wpAnyH_take (i := 15) (oi := ⟨some 22, _, _, _, _, _⟩) (v := .slice (some ⟨ga, 0, none⟩) N ca) rfl (by kernel_rfl) (by kernel_rfl) (by kernel_rfl) (fun _ _ _ h => h) (Or.inl ⟨by rfl, fun w' hw' => by go_simp⟩) HBy2w.out ?_
        try simp only [Act.put, List.setIfInBounds_toArray, List.set_cons_succ, List.set_cons_zero]
        refine wpAnyH_take (i := 16) (oi := ⟨some 23, _, _, _, _, _⟩) (v := .slice (some ⟨gc, 0, none⟩) N cc) rfl (by kernel_rfl) (by kernel_rfl) (by kernel_rfl) (fun _ _ _ h => h) (Or.inl ⟨by rfl, fun w' hw' => by go_simp⟩) HBy2w.out ?_
        try simp only [Act.put, List.setIfInBounds_toArray, List.set_cons_succ, List.set_cons_zero]
        refine wpAnyH_done (by kernel_rfl) ?_ _
        have hga := (HOa2.out.lt ga rfl).2
        have hgc := (HOc.out.lt gc rfl).2
        have hshA := own_shape HOa2.out
        have hshC := own_shape HOc.out
        obtain ⟨_, _, e0, hca, hcma⟩ := hshA
        injection e0 with e1 _ e3
        subst e1
        subst e3
        obtain ⟨_, _, e0, hcc, hcmc⟩ := hshC
        injection e0 with e1 _ e3
        subst e1
        subst e3
        unfold maxLen at hcma hcmc
        go_wp2
        go_loopw [24, 140] (fun fv kv wr => ∃ (k : Nat) (fb : Bool), k ≤ N ∧ kv = .int .i64 (k : Int) ∧ fv = .bool fb ∧ Hid (k0 < k → fb = true) ∧ Below y2.heap.size y2 wr) (fun _ kv _ => N - (intOf kv).toNat)
        case atStart => exact ⟨0, false, Nat.zero_le _, rfl, rfl, Lib.hid (fun h => absurd h (Nat.not_lt_zero _)), Below.refl _ _⟩
        case round =>
          obtain ⟨k, fb, hk, rfl, rfl, HFb, hB⟩ := hrel
          have HBr := Lib.hid hB
          clear hB
          by_cases hkN : k < N
          · have hkn2 : (k : Int) < (N : Int) := by omega
            have hkca : k < ca := by omega
            have hkcc : k < cc := by omega
            cases fb with
            | true =>
              go_upto_region 23 with (fail)
              haveI hNe : Nonempty {V : World // Below wr.heap.size wr V} := ⟨⟨wr, Below.refl _ _⟩⟩
              refine wp_region_quietC (fun w' => ∃ V : {V : World // Below wr.heap.size wr V}, w' = V.1) (by kernel_rfl) (by kernel_rfl) ⟨⟨wr.drew, (Below.refl _ wr).drew⟩, rfl⟩ ?_
              go_big_quiet_step (fail)
              go_big_quiet_step (fail)
              go_big_quiet_step (fail)
              go_big_quiet_step (fail)
              go_big_quiet_step (fail)
              go_big_quiet_step (fail)
              go_big_quiet_step (fail)
              go_big_quiet_step (fail)
              go_big_quiet_step (fail)
              go_big_quiet_step (fail)
              go_big_quiet_step (fail)
              go_big_quiet_step (fail)
              go_big_quiet_step (fail)
              go_big_quiet_step (fail)
              go_big_quiet_step (fail)
              go_big_quiet_step (fail)
              go_big_quiet_step (fail)
              go_big_quiet_step (fail)
              go_big_quiet_step (fail)
              go_big_quiet_step (fail)
              go_big_quiet_step (fail)
              go_big_quiet_step (fail)
              go_big_quiet_step (fail)
              go_big_quiet_step (fail)
              go_big_quiet_step (fail)
              go_big_quiet_step (fail)
              go_big_quiet_step (fail)
              go_big_quiet_step (fail)
              go_big_quiet_step (fail)
              go_big_quiet_step (fail)
              go_big_quiet_step (fail)
              go_big_quiet_want
              refine quietG_value (.bool true) (fun w => by go_simp) ?_
              simp only [Act.put, List.setIfInBounds_toArray, List.set_cons_succ, List.set_cons_zero]
              go_big_quiet_on
              go_big_quiet_step (fail)
              refine wpQuiet_nil ?_
              rintro w9 ⟨⟨_, hW9⟩, rfl⟩
              have HB9 := Lib.hid (HBr.out.trans (hW9.mono HBr.out.size))
              clear hW9 hNe
              go_wp2
              go_roundw
              case rel => exact ⟨k + 1, true, by omega, by go_num, rfl, Lib.hid (fun _ => rfl), HB9.out⟩
              case measure => simp [intOf]; omega
            | false =>
              obtain ⟨b, hb⟩ : ∃ b, R1[k]? = some b := ⟨_, List.getElem?_eq_getElem (by rw [HN1.out]; exact hkN)⟩
              obtain ⟨d, hd⟩ : ∃ d, R2[k]? = some d := ⟨_, List.getElem?_eq_getElem (by rw [HN2.out]; exact hkN)⟩
              obtain ⟨gb, cb, hcb, hpb, hlb, hmb⟩ := part_of HOa2.out HNa2.out hb
              obtain ⟨gd, cd, hcd, hpd, hld, hmd⟩ := part_of HOc.out HNc.out hd
              obtain ⟨hbb, hbl⟩ := HBy1.out b (List.mem_of_getElem? hb)
              obtain ⟨hdb, hdl⟩ := HBy2.out d (List.mem_of_getElem? hd)
              have HCi : Hid (∀ V, Below y2.heap.size y2 V → V.cell? ⟨ga, k, none⟩ = some (.slice (some ⟨gb, 0, none⟩) b.length cb)) := Lib.hid fun V hV => (hV.cell hga).trans hcb
              have HCk : Hid (∀ V, Below y2.heap.size y2 V → V.cell? ⟨gc, k, none⟩ = some (.slice (some ⟨gd, 0, none⟩) d.length cd)) := Lib.hid fun V hV => (hV.cell hgc).trans hcd
              obtain ⟨A, hA⟩ : ∃ A, A = Sha.sha b := ⟨_, rfl⟩
              obtain ⟨B, hBd⟩ : ∃ B, B = Sha.sha d := ⟨_, rfl⟩
              have hAl : A.length = 32 := by rw [hA]; exact (sha_bytes _).1
              have hBl : B.length = 32 := by rw [hBd]; exact (sha_bytes _).1
              have hcy : ∀ V, Below y2.heap.size y2 V → ConstAt V := fun V hV => HCU.out V (HBy2w.out.trans (hV.mono HBy2w.out.size))
              have HOb : Hid (∀ V, Below y2.heap.size y2 V → Calls Tryd.prog 17 #[.slice (some ⟨gb, 0, none⟩) b.length cb] V fun e w' => e = .returned (.agg (arr32 A)) ∧ Below V.heap.size V w') := Lib.hid fun V hV => (of_any b _ cb V (hpb.below hV) hbb (by omega) (fun _ _ _ => ⟨hlb, hmb⟩) (hcy V hV) A (Lib.hid hA)).mono fun e w' h => ⟨h.1, h.2.2⟩
              have HOd : Hid (∀ V, Below y2.heap.size y2 V → Calls Tryd.prog 17 #[.slice (some ⟨gd, 0, none⟩) d.length cd] V fun e w' => e = .returned (.agg (arr32 B)) ∧ Below V.heap.size V w') := Lib.hid fun V hV => (of_any d _ cd V (hpd.below hV) hdb (by omega) (fun _ _ _ => ⟨hld, hmd⟩) (hcy V hV) B (Lib.hid hBd)).mono fun e w' h => ⟨h.1, h.2.2⟩
              have heq : ∀ V, Below y2.heap.size y2 V → Calls Tryd.prog 19 #[.slice (some ⟨gb, 0, none⟩) b.length cb, .slice (some ⟨gd, 0, none⟩) d.length cd] V fun e w' => e = .returned (.bool (decide (b = d))) ∧ Below V.heap.size V w' := fun V hV => (equal_any b d hbb hdb _ _ cb cd V (hpb.below hV) (hpd.below hV)).mono fun e w' h => ⟨h.1, by rw [h.2]; exact Below.refl _ _⟩
              have HAt : Hid (k0 = k → b ≠ d ∧ A = B) := Lib.hid fun e => by
                obtain ⟨b', d', h1, h2, h3, h4⟩ := HK0.out
                rw [e, hb] at h1
                rw [e, hd] at h2
                obtain rfl := Option.some.inj h1
                obtain rfl := Option.some.inj h2
                exact ⟨h3, by rw [hA, hBd, h4]⟩
              clear hb hd hcb hpb hcd hpd hbb hdb hcy hA hBd
              by_cases hbd : b = d
              · rw [decide_eq_true hbd] at heq
                have HEq := Lib.hid heq
                have HNx : Hid (k0 < k + 1 → false = true) := Lib.hid fun h => by
                  by_cases e : k0 = k
                  · exact absurd hbd (HAt.out e).1
                  · exact HFb.out (by omega)
                clear heq hbd
                go_upto_region 23 with (fail)
                haveI hNe : Nonempty {V : World // Below wr.heap.size wr V} := ⟨⟨wr, Below.refl _ _⟩⟩
                refine wp_region_quietC (fun w' => ∃ V : {V : World // Below wr.heap.size wr V}, w' = V.1) (by kernel_rfl) (by kernel_rfl) ⟨⟨wr.drew, (Below.refl _ wr).drew⟩, rfl⟩ ?_
                go_big_quiet_step (fail)
                go_big_quiet_step (fail)
                go_big_quiet_step (fail)
                go_big_quiet_step (fail)
                go_big_quiet_want
                refine quietG_value (.int .i64 (N : Int)) (fun w => by go_simp) ?_
                simp only [Act.put, List.setIfInBounds_toArray, List.set_cons_succ, List.set_cons_zero]
                go_big_quiet_on
                go_big_quiet_want
                refine quietG_value (.bool true) (fun w => by go_simp) ?_
                simp only [Act.put, List.setIfInBounds_toArray, List.set_cons_succ, List.set_cons_zero]
                go_big_quiet_on
                go_big_quiet_step (fail)
                go_big_quiet_step (fail)
                go_big_quiet_step (fail)
                go_big_quiet_want
                refine quietG_value (.pointer (some ⟨ga, k, none⟩)) (fun w => by go_simp) ?_
                simp only [Act.put, List.setIfInBounds_toArray, List.set_cons_succ, List.set_cons_zero]
                go_big_quiet_on
                go_big_quiet_want
                refine quietG_world (.slice (some ⟨gb, 0, none⟩) b.length cb) (fun w hw => by have hq := HCi.out w (HBr.out.trans ((Behind.out hw).mono HBr.out.size)); go_simp) ?_
                simp only [Act.put, List.setIfInBounds_toArray, List.set_cons_succ, List.set_cons_zero]
                go_big_quiet_on
                go_big_quiet_step (fail)
                go_big_quiet_step (fail)
                go_big_quiet_want
                refine quietG_value (.pointer (some ⟨gc, k, none⟩)) (fun w => by go_simp) ?_
                simp only [Act.put, List.setIfInBounds_toArray, List.set_cons_succ, List.set_cons_zero]
                go_big_quiet_on
                go_big_quiet_want
                refine quietG_world (.slice (some ⟨gd, 0, none⟩) d.length cd) (fun w hw => by have hq := HCk.out w (HBr.out.trans ((Behind.out hw).mono HBr.out.size)); go_simp) ?_
                simp only [Act.put, List.setIfInBounds_toArray, List.set_cons_succ, List.set_cons_zero]
                go_big_quiet_on
                go_big_quiet_want
                (with_reducible refine quietG_call2 egE (.slice (some ⟨gb, 0, none⟩) b.length cb) (.slice (some ⟨gd, 0, none⟩) d.length cd) (.bool true) ?a1 ?a2 (fun w' hw' => (HEq.out w' (HBr.out.trans ((Behind.out hw').mono HBr.out.size))).mono fun e w'' h => ⟨h.1, Behind.on hw' h.2⟩) ?_); (case a1 => rfl); (case a2 => rfl)
                simp only [Act.put, List.setIfInBounds_toArray, List.set_cons_succ, List.set_cons_zero]
                go_big_quiet_on
                go_big_quiet_want
                refine quietG_value (.bool false) (fun w => by go_simp) ?_
                simp only [Act.put, List.setIfInBounds_toArray, List.set_cons_succ, List.set_cons_zero]
                go_big_quiet_on
                go_big_quiet_want
                refine quietG_value (.bool false) (fun w => by go_simp) ?_
                simp only [Act.put, List.setIfInBounds_toArray, List.set_cons_succ, List.set_cons_zero]
                go_big_quiet_on
                go_big_quiet_step (fail)
                go_big_quiet_step (fail)
                go_big_quiet_step (fail)
                go_big_quiet_step (fail)
                go_big_quiet_step (fail)
                go_big_quiet_step (fail)
                go_big_quiet_step (fail)
                go_big_quiet_step (fail)
                go_big_quiet_step (fail)
                go_big_quiet_step (fail)
                go_big_quiet_step (fail)
                go_big_quiet_step (fail)
                go_big_quiet_want
                refine quietG_value (.bool false) (fun w => by go_simp) ?_
                simp only [Act.put, List.setIfInBounds_toArray, List.set_cons_succ, List.set_cons_zero]
                go_big_quiet_on
                go_big_quiet_want
                refine quietG_value (.bool false) (fun w => by go_simp) ?_
                simp only [Act.put, List.setIfInBounds_toArray, List.set_cons_succ, List.set_cons_zero]
                go_big_quiet_on
                go_big_quiet_step (fail)
                refine wpQuiet_nil ?_
                rintro w9 ⟨⟨_, hW9⟩, rfl⟩
                have HB9 := Lib.hid (HBr.out.trans (hW9.mono HBr.out.size))
                clear hW9 hNe
                go_wp2
                go_roundw
                case rel => exact ⟨k + 1, false, by omega, by go_num, rfl, HNx, HB9.out⟩
                case measure => simp [intOf]; omega
              · rw [decide_eq_false hbd] at heq
                have HEq := Lib.hid heq
                clear heq
                by_cases hsh : A = B
                · have HEl : Hid (∀ V : World, (binOp .eql 26 (.agg (arr32 A)) (.agg (arr32 B))).run Tryd.prog V = .ok (.bool true) V) := Lib.hid fun V => by
                    have := sum_eql A B hAl hBl V
                    rwa [decide_eq_true hsh] at this
                  clear hsh hbd
                  go_upto_region 23 with (fail)
                  haveI hNe : Nonempty {V : World // Below wr.heap.size wr V} := ⟨⟨wr, Below.refl _ _⟩⟩
                  refine wp_region_quietC (fun w' => ∃ V : {V : World // Below wr.heap.size wr V}, w' = V.1) (by kernel_rfl) (by kernel_rfl) ⟨⟨wr.drew, (Below.refl _ wr).drew⟩, rfl⟩ ?_
                  go_big_quiet_step (fail)
                  go_big_quiet_step (fail)
                  go_big_quiet_step (fail)
                  go_big_quiet_step (fail)
                  go_big_quiet_want
                  refine quietG_value (.int .i64 (N : Int)) (fun w => by go_simp) ?_
                  simp only [Act.put, List.setIfInBounds_toArray, List.set_cons_succ, List.set_cons_zero]
                  go_big_quiet_on
                  go_big_quiet_want
                  refine quietG_value (.bool true) (fun w => by go_simp) ?_
                  simp only [Act.put, List.setIfInBounds_toArray, List.set_cons_succ, List.set_cons_zero]
                  go_big_quiet_on
                  go_big_quiet_step (fail)
                  go_big_quiet_step (fail)
                  go_big_quiet_step (fail)
                  go_big_quiet_want
                  refine quietG_value (.pointer (some ⟨ga, k, none⟩)) (fun w => by go_simp) ?_
                  simp only [Act.put, List.setIfInBounds_toArray, List.set_cons_succ, List.set_cons_zero]
                  go_big_quiet_on
                  go_big_quiet_want
                  refine quietG_world (.slice (some ⟨gb, 0, none⟩) b.length cb) (fun w hw => by have hq := HCi.out w (HBr.out.trans ((Behind.out hw).mono HBr.out.size)); go_simp) ?_
                  simp only [Act.put, List.setIfInBounds_toArray, List.set_cons_succ, List.set_cons_zero]
                  go_big_quiet_on
                  go_big_quiet_step (fail)
                  go_big_quiet_step (fail)
                  go_big_quiet_want
                  refine quietG_value (.pointer (some ⟨gc, k, none⟩)) (fun w => by go_simp) ?_
                  simp only [Act.put, List.setIfInBounds_toArray, List.set_cons_succ, List.set_cons_zero]
                  go_big_quiet_on
                  go_big_quiet_want
                  refine quietG_world (.slice (some ⟨gd, 0, none⟩) d.length cd) (fun w hw => by have hq := HCk.out w (HBr.out.trans ((Behind.out hw).mono HBr.out.size)); go_simp) ?_
                  simp only [Act.put, List.setIfInBounds_toArray, List.set_cons_succ, List.set_cons_zero]
                  go_big_quiet_on
                  go_big_quiet_want
                  (with_reducible refine quietG_call2 egE (.slice (some ⟨gb, 0, none⟩) b.length cb) (.slice (some ⟨gd, 0, none⟩) d.length cd) (.bool false) ?a1 ?a2 (fun w' hw' => (HEq.out w' (HBr.out.trans ((Behind.out hw').mono HBr.out.size))).mono fun e w'' h => ⟨h.1, Behind.on hw' h.2⟩) ?_); (case a1 => rfl); (case a2 => rfl)
                  simp only [Act.put, List.setIfInBounds_toArray, List.set_cons_succ, List.set_cons_zero]
                  go_big_quiet_on
                  go_big_quiet_want
                  refine quietG_value (.bool true) (fun w => by go_simp) ?_
                  simp only [Act.put, List.setIfInBounds_toArray, List.set_cons_succ, List.set_cons_zero]
                  go_big_quiet_on
                  go_big_quiet_want
                  refine quietG_value (.bool true) (fun w => by go_simp) ?_
                  simp only [Act.put, List.setIfInBounds_toArray, List.set_cons_succ, List.set_cons_zero]
                  go_big_quiet_on
                  go_big_quiet_step (fail)
                  go_big_quiet_step (fail)
                  go_big_quiet_step (fail)
                  go_big_quiet_want
                  refine quietG_value (.pointer (some ⟨ga, k, none⟩)) (fun w => by go_simp) ?_
                  simp only [Act.put, List.setIfInBounds_toArray, List.set_cons_succ, List.set_cons_zero]
                  go_big_quiet_on
                  go_big_quiet_want
                  refine quietG_world (.slice (some ⟨gb, 0, none⟩) b.length cb) (fun w hw => by have hq := HCi.out w (HBr.out.trans ((Behind.out hw).mono HBr.out.size)); go_simp) ?_
                  simp only [Act.put, List.setIfInBounds_toArray, List.set_cons_succ, List.set_cons_zero]
                  go_big_quiet_on
                  go_big_quiet_want
                  (with_reducible refine quietG_call1 egO (.slice (some ⟨gb, 0, none⟩) b.length cb) (.agg (arr32 A)) ?a1 (fun w' hw' => (HOb.out w' (HBr.out.trans ((Behind.out hw').mono HBr.out.size))).mono fun e w'' h => ⟨h.1, Behind.on hw' h.2⟩) ?_); (case a1 => rfl)
                  simp only [Act.put, List.setIfInBounds_toArray, List.set_cons_succ, List.set_cons_zero]
                  go_big_quiet_on
                  go_big_quiet_step (fail)
                  go_big_quiet_step (fail)
                  go_big_quiet_want
                  refine quietG_value (.pointer (some ⟨gc, k, none⟩)) (fun w => by go_simp) ?_
                  simp only [Act.put, List.setIfInBounds_toArray, List.set_cons_succ, List.set_cons_zero]
                  go_big_quiet_on
                  go_big_quiet_want
                  refine quietG_world (.slice (some ⟨gd, 0, none⟩) d.length cd) (fun w hw => by have hq := HCk.out w (HBr.out.trans ((Behind.out hw).mono HBr.out.size)); go_simp) ?_
                  simp only [Act.put, List.setIfInBounds_toArray, List.set_cons_succ, List.set_cons_zero]
                  go_big_quiet_on
                  go_big_quiet_want
                  (with_reducible refine quietG_call1 egO (.slice (some ⟨gd, 0, none⟩) d.length cd) (.agg (arr32 B)) ?a1 (fun w' hw' => (HOd.out w' (HBr.out.trans ((Behind.out hw').mono HBr.out.size))).mono fun e w'' h => ⟨h.1, Behind.on hw' h.2⟩) ?_); (case a1 => rfl)
                  simp only [Act.put, List.setIfInBounds_toArray, List.set_cons_succ, List.set_cons_zero]
                  go_big_quiet_on
                  go_big_quiet_want
                  have heql := HEl.out
                  have hgd := sum_guard
                  refine quietG_value (.bool true) (fun w => by go_simp) ?_
                  clear heql hgd
                  simp only [Act.put, List.setIfInBounds_toArray, List.set_cons_succ, List.set_cons_zero]
                  go_big_quiet_on
                  go_big_quiet_want
                  refine quietG_value (.bool true) (fun w => by go_simp) ?_
                  simp only [Act.put, List.setIfInBounds_toArray, List.set_cons_succ, List.set_cons_zero]
                  go_big_quiet_on
                  go_big_quiet_want
                  refine quietG_value (.bool true) (fun w => by go_simp) ?_
                  simp only [Act.put, List.setIfInBounds_toArray, List.set_cons_succ, List.set_cons_zero]
                  go_big_quiet_on
                  go_big_quiet_step (fail)
                  refine wpQuiet_nil ?_
                  rintro w9 ⟨⟨_, hW9⟩, rfl⟩
                  have HB9 := Lib.hid (HBr.out.trans (hW9.mono HBr.out.size))
                  clear hW9 hNe
                  go_wp2
                  go_roundw
                  case rel => exact ⟨k + 1, true, by omega, by go_num, rfl, Lib.hid (fun _ => rfl), HB9.out⟩
                  case measure => simp [intOf]; omega
                · have HEl : Hid (∀ V : World, (binOp .eql 26 (.agg (arr32 A)) (.agg (arr32 B))).run Tryd.prog V = .ok (.bool false) V) := Lib.hid fun V => by
                    have := sum_eql A B hAl hBl V
                    rwa [decide_eq_false hsh] at this
                  have HNx : Hid (k0 < k + 1 → false = true) := Lib.hid fun h => by
                    by_cases e : k0 = k
                    · exact absurd (HAt.out e).2 hsh
                    · exact HFb.out (by omega)
                  clear hsh hbd
                  go_upto_region 23 with (fail)
                  haveI hNe : Nonempty {V : World // Below wr.heap.size wr V} := ⟨⟨wr, Below.refl _ _⟩⟩
                  refine wp_region_quietC (fun w' => ∃ V : {V : World // Below wr.heap.size wr V}, w' = V.1) (by kernel_rfl) (by kernel_rfl) ⟨⟨wr.drew, (Below.refl _ wr).drew⟩, rfl⟩ ?_
                  go_big_quiet_step (fail)
                  go_big_quiet_step (fail)
                  go_big_quiet_step (fail)
                  go_big_quiet_step (fail)
                  go_big_quiet_want
                  refine quietG_value (.int .i64 (N : Int)) (fun w => by go_simp) ?_
                  simp only [Act.put, List.setIfInBounds_toArray, List.set_cons_succ, List.set_cons_zero]
                  go_big_quiet_on
                  go_big_quiet_want
                  refine quietG_value (.bool true) (fun w => by go_simp) ?_
                  simp only [Act.put, List.setIfInBounds_toArray, List.set_cons_succ, List.set_cons_zero]
                  go_big_quiet_on
                  go_big_quiet_step (fail)
                  go_big_quiet_step (fail)
                  go_big_quiet_step (fail)
                  go_big_quiet_want
                  refine quietG_value (.pointer (some ⟨ga, k, none⟩)) (fun w => by go_simp) ?_
                  simp only [Act.put, List.setIfInBounds_toArray, List.set_cons_succ, List.set_cons_zero]
                  go_big_quiet_on
                  go_big_quiet_want
                  refine quietG_world (.slice (some ⟨gb, 0, none⟩) b.length cb) (fun w hw => by have hq := HCi.out w (HBr.out.trans ((Behind.out hw).mono HBr.out.size)); go_simp) ?_
                  simp only [Act.put, List.setIfInBounds_toArray, List.set_cons_succ, List.set_cons_zero]
                  go_big_quiet_on
                  go_big_quiet_step (fail)
                  go_big_quiet_step (fail)
                  go_big_quiet_want
                  refine quietG_value (.pointer (some ⟨gc, k, none⟩)) (fun w => by go_simp) ?_
                  simp only [Act.put, List.setIfInBounds_toArray, List.set_cons_succ, List.set_cons_zero]
                  go_big_quiet_on
                  go_big_quiet_want
                  refine quietG_world (.slice (some ⟨gd, 0, none⟩) d.length cd) (fun w hw => by have hq := HCk.out w (HBr.out.trans ((Behind.out hw).mono HBr.out.size)); go_simp) ?_
                  simp only [Act.put, List.setIfInBounds_toArray, List.set_cons_succ, List.set_cons_zero]
                  go_big_quiet_on
                  go_big_quiet_want
                  (with_reducible refine quietG_call2 egE (.slice (some ⟨gb, 0, none⟩) b.length cb) (.slice (some ⟨gd, 0, none⟩) d.length cd) (.bool false) ?a1 ?a2 (fun w' hw' => (HEq.out w' (HBr.out.trans ((Behind.out hw').mono HBr.out.size))).mono fun e w'' h => ⟨h.1, Behind.on hw' h.2⟩) ?_); (case a1 => rfl); (case a2 => rfl)
                  simp only [Act.put, List.setIfInBounds_toArray, List.set_cons_succ, List.set_cons_zero]
                  go_big_quiet_on
                  go_big_quiet_want
                  refine quietG_value (.bool true) (fun w => by go_simp) ?_
                  simp only [Act.put, List.setIfInBounds_toArray, List.set_cons_succ, List.set_cons_zero]
                  go_big_quiet_on
                  go_big_quiet_want
                  refine quietG_value (.bool true) (fun w => by go_simp) ?_
                  simp only [Act.put, List.setIfInBounds_toArray, List.set_cons_succ, List.set_cons_zero]
                  go_big_quiet_on
                  go_big_quiet_step (fail)
                  go_big_quiet_step (fail)
                  go_big_quiet_step (fail)
                  go_big_quiet_want
                  refine quietG_value (.pointer (some ⟨ga, k, none⟩)) (fun w => by go_simp) ?_
                  simp only [Act.put, List.setIfInBounds_toArray, List.set_cons_succ, List.set_cons_zero]
                  go_big_quiet_on
                  go_big_quiet_want
                  refine quietG_world (.slice (some ⟨gb, 0, none⟩) b.length cb) (fun w hw => by have hq := HCi.out w (HBr.out.trans ((Behind.out hw).mono HBr.out.size)); go_simp) ?_
                  simp only [Act.put, List.setIfInBounds_toArray, List.set_cons_succ, List.set_cons_zero]
                  go_big_quiet_on
                  go_big_quiet_want
                  (with_reducible refine quietG_call1 egO (.slice (some ⟨gb, 0, none⟩) b.length cb) (.agg (arr32 A)) ?a1 (fun w' hw' => (HOb.out w' (HBr.out.trans ((Behind.out hw').mono HBr.out.size))).mono fun e w'' h => ⟨h.1, Behind.on hw' h.2⟩) ?_); (case a1 => rfl)
                  simp only [Act.put, List.setIfInBounds_toArray, List.set_cons_succ, List.set_cons_zero]
                  go_big_quiet_on
                  go_big_quiet_step (fail)
                  go_big_quiet_step (fail)
                  go_big_quiet_want
                  refine quietG_value (.pointer (some ⟨gc, k, none⟩)) (fun w => by go_simp) ?_
                  simp only [Act.put, List.setIfInBounds_toArray, List.set_cons_succ, List.set_cons_zero]
                  go_big_quiet_on
                  go_big_quiet_want
                  refine quietG_world (.slice (some ⟨gd, 0, none⟩) d.length cd) (fun w hw => by have hq := HCk.out w (HBr.out.trans ((Behind.out hw).mono HBr.out.size)); go_simp) ?_
                  simp only [Act.put, List.setIfInBounds_toArray, List.set_cons_succ, List.set_cons_zero]
                  go_big_quiet_on
                  go_big_quiet_want
                  (with_reducible refine quietG_call1 egO (.slice (some ⟨gd, 0, none⟩) d.length cd) (.agg (arr32 B)) ?a1 (fun w' hw' => (HOd.out w' (HBr.out.trans ((Behind.out hw').mono HBr.out.size))).mono fun e w'' h => ⟨h.1, Behind.on hw' h.2⟩) ?_); (case a1 => rfl)
                  simp only [Act.put, List.setIfInBounds_toArray, List.set_cons_succ, List.set_cons_zero]
                  go_big_quiet_on
                  go_big_quiet_want
                  have heql := HEl.out
                  have hgd := sum_guard
                  refine quietG_value (.bool false) (fun w => by go_simp) ?_
                  clear heql hgd
                  simp only [Act.put, List.setIfInBounds_toArray, List.set_cons_succ, List.set_cons_zero]
                  go_big_quiet_on
                  go_big_quiet_want
                  refine quietG_value (.bool false) (fun w => by go_simp) ?_
                  simp only [Act.put, List.setIfInBounds_toArray, List.set_cons_succ, List.set_cons_zero]
                  go_big_quiet_on
                  go_big_quiet_want
                  refine quietG_value (.bool false) (fun w => by go_simp) ?_
                  simp only [Act.put, List.setIfInBounds_toArray, List.set_cons_succ, List.set_cons_zero]
                  go_big_quiet_on
                  go_big_quiet_step (fail)
                  refine wpQuiet_nil ?_
                  rintro w9 ⟨⟨_, hW9⟩, rfl⟩
                  have HB9 := Lib.hid (HBr.out.trans (hW9.mono HBr.out.size))
                  clear hW9 hNe
                  go_wp2
                  go_roundw
                  case rel => exact ⟨k + 1, false, by omega, by go_num, rfl, HNx, HB9.out⟩
                  case measure => simp [intOf]; omega
          · obtain rfl : k = N := by omega
            obtain rfl : fb = true := HFb.out hk0N
            have HBz := Lib.hid (HBU.out.trans ((HBy2w.out.trans (HBr.out.mono HBy2w.out.size)).mono HBU.out.size))
            go_wp2_with (go_at_call 15; (with_reducible refine (HAw.out _ (HCw.out _ HBz.out)).mono ?_); rintro e w9 ⟨rfl, hb9⟩; have HB9 := Lib.hid (HBz.out.trans (hb9.mono HBz.out.size)); clear hb9)
            go_ret
            exact ⟨rfl, HB2.out.trans (HB9.out.mono HB2.out.size)⟩
      · rw [decide_eq_false hdec] at hvf
        have HVU := Lib.hid hvf
        clear hvf
        go_upto_region 15 with (first
          | ((with_reducible refine arm_load ⟨g14, 0, none⟩ (arr32 X) _ HX14.out.row Tryd.underlying26 HIX.out ?h1 ?h2 ?_); (case h1 => rfl); (case h2 => rfl))
          | ((with_reducible refine arm_load ⟨g19, 0, none⟩ (arr32 x2) _ HX2.out.row Tryd.underlying26 HI2.out ?h1 ?h2 ?_); (case h1 => rfl); (case h2 => rfl))
          | (go_at_call 42; (with_reducible refine HVU.out.mono ?_); rintro e u1 ⟨rfl, hb⟩; have HBV := Lib.hid hb; clear hb))
        clear HVU
        go_upto_region 26 with (fail)
        change Code.wp _ (Code.region 26 (bdOps 26) true) _ _ _
        refine wp_region_held (S := fun V => Below U.heap.size U V) (by kernel_rfl) ?_
        have hsz : (bdOps 26).size = 18 := by kernel_rfl
        rw [hsz]
        clear hsz
        refine gen_world (P := fun W' => wpAnyH _ _ _ _ _ _ _ _ W') (I := fun V => Below U.heap.size U V) _ HBV.out.drew ?_
        rintro y0 hB
        have HBy := Lib.hid hB
        clear hB HBV
        refine wpAnyH_take (i := 0) (oi := ⟨some 181, _, _, _, _, none⟩) (v := .agg (arr32 X)) rfl (by kernel_rfl) (by kernel_rfl) (by kernel_rfl) (fun _ _ _ h => h) (yieldsIf_load ⟨g14, 0, none⟩ _ _ (fun w hw => (HX14.out.below hw hg14).row) Tryd.underlying26 HIX.out rfl rfl) HBy.out ?_
        try simp only [Act.put, List.setIfInBounds_toArray, List.set_cons_succ, List.set_cons_zero]
        refine wpAnyH_take (i := 1) (oi := ⟨some 182, _, _, _, _, _⟩) (v := .slice (some ⟨g2, off2, none⟩) n c2) rfl (by kernel_rfl) (by kernel_rfl) (by kernel_rfl) (fun _ _ _ h => h) (Or.inl ⟨by rfl, fun w' hw' => by go_simp⟩) HBy.out ?_
        try simp only [Act.put, List.setIfInBounds_toArray, List.set_cons_succ, List.set_cons_zero]
        refine wpAnyH_take (i := 2) (oi := ⟨some 183, _, _, _, _, _⟩) (v := .int .i64 (n : Int)) rfl (by kernel_rfl) (by kernel_rfl) (by kernel_rfl) (fun _ _ _ h => h) (Or.inl ⟨by rfl, fun w' hw' => by go_simp⟩) HBy.out ?_
        try simp only [Act.put, List.setIfInBounds_toArray, List.set_cons_succ, List.set_cons_zero]
        refine wpAnyH_take (i := 3) (oi := ⟨some 184, _, _, _, _, _⟩) (v := .int .i64 (i : Int)) rfl (by kernel_rfl) (by kernel_rfl) (by kernel_rfl) (fun _ _ _ h => h) (Or.inl ⟨by rfl, fun w' hw' => by go_simp⟩) HBy.out ?_
        try simp only [Act.put, List.setIfInBounds_toArray, List.set_cons_succ, List.set_cons_zero]
        refine wpAnyH_take (i := 4) (oi := ⟨some 185, _, _, _, _, _⟩) (v := .slice (some ⟨g2, off2, none⟩) n c2) rfl (by kernel_rfl) (by kernel_rfl) (by kernel_rfl) (fun _ _ _ h => h) (Or.inl ⟨by rfl, fun w' hw' => by go_simp⟩) HBy.out ?_
        try simp only [Act.put, List.setIfInBounds_toArray, List.set_cons_succ, List.set_cons_zero]
        refine wpAnyH_take (i := 5) (oi := ⟨some 186, _, _, _, _, _⟩) (v := .int .i64 (i : Int)) rfl (by kernel_rfl) (by kernel_rfl) (by kernel_rfl) (fun _ _ _ h => h) (Or.inl ⟨by rfl, fun w' hw' => by go_simp⟩) HBy.out ?_
        try simp only [Act.put, List.setIfInBounds_toArray, List.set_cons_succ, List.set_cons_zero]
        refine wpAnyH_take (i := 6) (oi := ⟨some 187, _, _, _, _, _⟩) (v := .pointer (some ⟨g2, off2 + i * 32, none⟩)) rfl (by kernel_rfl) (by kernel_rfl) (by kernel_rfl) (fun _ _ _ h => h) (Or.inl ⟨by rfl, fun w' hw' => by go_simp⟩) HBy.out ?_
        try simp only [Act.put, List.setIfInBounds_toArray, List.set_cons_succ, List.set_cons_zero]
        refine wpAnyH_take (i := 7) (oi := ⟨some 188, _, _, _, _, none⟩) (v := .agg (arr32 x)) rfl (by kernel_rfl) (by kernel_rfl) (by kernel_rfl) (fun _ _ _ h => h) (yieldsIf_load ⟨g2, off2 + i * 32, none⟩ _ _ (fun w hw => HXr.out _ (HBU.out.trans (hw.mono HBU.out.size))) Tryd.underlying26 HIx.out rfl rfl) HBy.out ?_
        try simp only [Act.put, List.setIfInBounds_toArray, List.set_cons_succ, List.set_cons_zero]
        refine wpAnyH_take (i := 8) (oi := ⟨some 189, _, _, _, _, _⟩) (v := .slice aw q cw) rfl (by kernel_rfl) (by kernel_rfl) (by kernel_rfl) (fun _ _ _ h => h) (Or.inl ⟨by rfl, fun w' hw' => by go_simp⟩) HBy.out ?_
        try simp only [Act.put, List.setIfInBounds_toArray, List.set_cons_succ, List.set_cons_zero]
        refine wpAnyH_take (i := 10) (oi := ⟨some 191, _, _, _, _, none⟩) (v := .agg (arr32 x2)) rfl (by kernel_rfl) (by kernel_rfl) (by kernel_rfl) (fun _ _ _ h => h) (yieldsIf_load ⟨g19, 0, none⟩ _ _ (fun w hw => (HX2.out.below hw hg19).row) Tryd.underlying26 HI2.out rfl rfl) HBy.out ?_
        try simp only [Act.put, List.setIfInBounds_toArray, List.set_cons_succ, List.set_cons_zero]
        refine wpAnyH_all (rs := [9, 11]) (by kernel_rfl) (by simp) ?_
        intro jj hi
        have hii : jj = 9 ∨ jj = 11 := by simpa using hi
        clear hi
        rcases hii with rfl | rfl
        · refine wpOp_step (o := ⟨some 190, _, _, _, _, _⟩) rfl (fun K' hK' => ?_)
          rw [if_pos (show Region.wanted _ _ = true from rfl)]
          go_simp
          (with_reducible refine (HCln.out y0 HBy.out).mono ?_)
          rintro e y1 ⟨a3, c3, rfl, ho, hb⟩
          refine hK' _ _ ⟨HBy.out.trans (hb.mono HBy.out.size), ?_⟩
          clear hK' K'
          try simp only [Act.put, List.setIfInBounds_toArray, List.set_cons_succ, List.set_cons_zero]
          have HBy1 := Lib.hid (HBy.out.trans (hb.mono HBy.out.size))
          have HCy1 := Lib.hid (own_low ho HBy.out.size)
          clear ho hb
          refine wpAnyH_all (rs := [11]) (by kernel_rfl) (by simp) ?_
          intro jj hi
          obtain rfl : jj = 11 := by simpa using hi
          clear hi
          refine wpOp_step (o := ⟨some 192, _, _, _, _, _⟩) rfl (fun K' hK' => ?_)
          rw [if_pos (show Region.wanted _ _ = true from rfl)]
          refine opw_slice1 26 i0 _ (arr32 x2) Tryd.underlying49 hi0 hz0 HSx2.out (by rw [hz1]; decide) (by rw [hz1]; decide) rfl ?_
          refine hK' _ _ ⟨HBy1.out.alloc HBy1.out.size _, ?_⟩
          clear hK' K'
          try simp only [Act.put, List.setIfInBounds_toArray, List.set_cons_succ, List.set_cons_zero]
          refine gen_world (P := fun W' => wpAnyH _ _ _ _ _ _ _ _ W') (I := fun V => Below U.heap.size U V ∧ V.ownsRow U.heap.size 26 32 (.slice (some ⟨y1.heap.size, 0, none⟩) 1 1) 1 ([x2].flatMap cellsOf) ∧ V.ownsRow U.heap.size 26 32 (.slice a3 q c3) q (W.flatMap cellsOf)) _ ⟨HBy1.out.alloc HBy1.out.size _, own_lit1 x2 hx21 HBy1.out.size, HCy1.out.alloc _⟩ ?_
          rintro y2 ⟨hB, hZ, hC⟩
          have HBy2 := Lib.hid hB
          have HZy2 := Lib.hid hZ
          have HCy2 := Lib.hid hC
          clear hB hZ hC
          refine wpAnyH_all (rs := [12]) (by kernel_rfl) (by simp) ?_
          intro jj hi
          obtain rfl : jj = 12 := by simpa using hi
          clear hi
          refine wpOp_step (o := ⟨some 193, _, _, _, _, _⟩) rfl (fun K' hK' => ?_)
          rw [if_pos (show Region.wanted _ _ = true from rfl)]
          refine wp_append_own _ _ _ 49 rfl U.heap.size 26 i0 (.agg zero32) 32 32 Tryd.underlying49 hi0 hz0 hz1 hz2 rfl (by decide) _ _ _ rfl HCy2.out ⟨y1.heap.size, 0, none⟩ 1 1 ([x2].flatMap cellsOf) rfl (by rw [List.flatMap_cons, List.flatMap_nil, List.append_nil, cellsOf_len (by omega)]) (fun j u hj => HZy2.out.cells (g := y1.heap.size) rfl j u hj) (by rw [List.flatMap_cons, List.flatMap_nil, List.append_nil]; exact cellsOf_one _) (by unfold maxLen; omega) (by omega) HBy2.out.size (fun v' y3 hown hgrow _ => ?_)
          obtain ⟨aA, cA, rfl, _, _⟩ := own_shape hown
          have HB3 : Hid (Below U.heap.size U y3) := Lib.hid (HBy2.out.grown hgrow HBy2.out.size (fun r hr => (HCy2.out.lt r hr).1))
          refine hK' _ _ ⟨HB3.out, ?_⟩
          clear hK' K'
          try simp only [Act.put, List.setIfInBounds_toArray, List.set_cons_succ, List.set_cons_zero]
          clear hown hgrow
          refine wpAnyH_all (rs := [13]) (by kernel_rfl) (by simp) ?_
          intro jj hi
          obtain rfl : jj = 13 := by simpa using hi
          clear hi
          refine wpOp_step (o := ⟨some 194, _, _, _, _, _⟩) rfl (fun K' hK' => ?_)
          rw [if_pos (show Region.wanted _ _ = true from rfl)]
          go_simp
          (with_reducible refine (HVm.out x aA cA y3).mono ?_)
          rintro e y4 ⟨rfl, hb⟩
          refine hK' _ _ ⟨HB3.out.trans (hb.mono HB3.out.size), ?_⟩
          clear hK' K'
          try simp only [Act.put, List.setIfInBounds_toArray, List.set_cons_succ, List.set_cons_zero]
          have HB4 := Lib.hid (HB3.out.trans (hb.mono HB3.out.size))
          clear hb
          refine wpAnyH_take (i := 14) (oi := ⟨some 180, _, _, _, _, _⟩) (v := .tuple #[.bool false, .int .i64 2]) rfl (by kernel_rfl) (by kernel_rfl) (by kernel_rfl) (fun _ _ _ h => h) (Or.inl ⟨by rfl, fun w' hw' => by go_simp⟩) HB4.out ?_
          try simp only [Act.put, List.setIfInBounds_toArray, List.set_cons_succ, List.set_cons_zero]
          refine wpAnyH_take (i := 15) (oi := ⟨some 195, _, _, _, _, _⟩) (v := .bool false) rfl (by kernel_rfl) (by kernel_rfl) (by kernel_rfl) (fun _ _ _ h => h) (Or.inl ⟨by rfl, fun w' hw' => by go_simp⟩) HB4.out ?_
          try simp only [Act.put, List.setIfInBounds_toArray, List.set_cons_succ, List.set_cons_zero]
          refine wpAnyH_take (i := 16) (oi := ⟨some 196, _, _, _, _, _⟩) (v := .int .i64 2) rfl (by kernel_rfl) (by kernel_rfl) (by kernel_rfl) (fun _ _ _ h => h) (Or.inl ⟨by rfl, fun w' hw' => by go_simp⟩) HB4.out ?_
          try simp only [Act.put, List.setIfInBounds_toArray, List.set_cons_succ, List.set_cons_zero]
          refine wpAnyH_take (i := 17) (oi := ⟨some 18, _, _, _, _, _⟩) (v := .int .i64 2) rfl (by kernel_rfl) (by kernel_rfl) (by kernel_rfl) (fun _ _ _ h => h) (Or.inl ⟨by rfl, fun w' hw' => by go_simp⟩) HB4.out ?_
          try simp only [Act.put, List.setIfInBounds_toArray, List.set_cons_succ, List.set_cons_zero]
          refine wpAnyH_done (by kernel_rfl) ?_ _
          have HBz := Lib.hid (HBU.out.trans (HB4.out.mono HBU.out.size))
          go_wp2_with (go_at_call 15; (with_reducible refine (HAw.out _ (HCw.out _ HBz.out)).mono ?_); rintro e w9 ⟨rfl, hb9⟩; have HB9 := Lib.hid (HBz.out.trans (hb9.mono HBz.out.size)); clear hb9)
          go_ret
          exact ⟨rfl, HB2.out.trans (HB9.out.mono HB2.out.size)⟩
        · refine wpOp_step (o := ⟨some 192, _, _, _, _, _⟩) rfl (fun K' hK' => ?_)
          rw [if_pos (show Region.wanted _ _ = true from rfl)]
          refine opw_slice1 26 i0 _ (arr32 x2) Tryd.underlying49 hi0 hz0 HSx2.out (by rw [hz1]; decide) (by rw [hz1]; decide) rfl ?_
          refine hK' _ _ ⟨HBy.out.alloc HBy.out.size _, ?_⟩
          clear hK' K'
          try simp only [Act.put, List.setIfInBounds_toArray, List.set_cons_succ, List.set_cons_zero]
          refine gen_world (P := fun W' => wpAnyH _ _ _ _ _ _ _ _ W') (I := fun V => Below U.heap.size U V ∧ V.ownsRow U.heap.size 26 32 (.slice (some ⟨y0.heap.size, 0, none⟩) 1 1) 1 ([x2].flatMap cellsOf)) _ ⟨HBy.out.alloc HBy.out.size _, own_lit1 x2 hx21 HBy.out.size⟩ ?_
          rintro y1 ⟨hB, hZ⟩
          have HBy1 := Lib.hid hB
          have HZy1 := Lib.hid hZ
          clear hB hZ
          refine wpAnyH_all (rs := [9]) (by kernel_rfl) (by simp) ?_
          intro jj hi
          obtain rfl : jj = 9 := by simpa using hi
          clear hi
          refine wpOp_step (o := ⟨some 190, _, _, _, _, _⟩) rfl (fun K' hK' => ?_)
          rw [if_pos (show Region.wanted _ _ = true from rfl)]
          go_simp
          (with_reducible refine (HCln.out y1 HBy1.out).mono ?_)
          rintro e y2 ⟨a3, c3, rfl, ho, hb⟩
          refine hK' _ _ ⟨HBy1.out.trans (hb.mono HBy1.out.size), ?_⟩
          clear hK' K'
          try simp only [Act.put, List.setIfInBounds_toArray, List.set_cons_succ, List.set_cons_zero]
          have HBy2 := Lib.hid (HBy1.out.trans (hb.mono HBy1.out.size))
          have HCy2 := Lib.hid (own_low ho HBy1.out.size)
          have HZy2 := Lib.hid (own_below HZy1.out hb)
          clear ho hb
          refine wpAnyH_all (rs := [12]) (by kernel_rfl) (by simp) ?_
          intro jj hi
          obtain rfl : jj = 12 := by simpa using hi
          clear hi
          refine wpOp_step (o := ⟨some 193, _, _, _, _, _⟩) rfl (fun K' hK' => ?_)
          rw [if_pos (show Region.wanted _ _ = true from rfl)]
          refine wp_append_own _ _ _ 49 rfl U.heap.size 26 i0 (.agg zero32) 32 32 Tryd.underlying49 hi0 hz0 hz1 hz2 rfl (by decide) _ _ _ rfl HCy2.out ⟨y0.heap.size, 0, none⟩ 1 1 ([x2].flatMap cellsOf) rfl (by rw [List.flatMap_cons, List.flatMap_nil, List.append_nil, cellsOf_len (by omega)]) (fun j u hj => HZy2.out.cells (g := y0.heap.size) rfl j u hj) (by rw [List.flatMap_cons, List.flatMap_nil, List.append_nil]; exact cellsOf_one _) (by unfold maxLen; omega) (by omega) HBy2.out.size (fun v' y3 hown hgrow _ => ?_)
          obtain ⟨aA, cA, rfl, _, _⟩ := own_shape hown
          have HB3 : Hid (Below U.heap.size U y3) := Lib.hid (HBy2.out.grown hgrow HBy2.out.size (fun r hr => (HCy2.out.lt r hr).1))
          refine hK' _ _ ⟨HB3.out, ?_⟩
          clear hK' K'
          try simp only [Act.put, List.setIfInBounds_toArray, List.set_cons_succ, List.set_cons_zero]
          clear hown hgrow
          refine wpAnyH_all (rs := [13]) (by kernel_rfl) (by simp) ?_
          intro jj hi
          obtain rfl : jj = 13 := by simpa using hi
          clear hi
          refine wpOp_step (o := ⟨some 194, _, _, _, _, _⟩) rfl (fun K' hK' => ?_)
          rw [if_pos (show Region.wanted _ _ = true from rfl)]
          go_simp
          (with_reducible refine (HVm.out x aA cA y3).mono ?_)
          rintro e y4 ⟨rfl, hb⟩
          refine hK' _ _ ⟨HB3.out.trans (hb.mono HB3.out.size), ?_⟩
          clear hK' K'
          try simp only [Act.put, List.setIfInBounds_toArray, List.set_cons_succ, List.set_cons_zero]
          have HB4 := Lib.hid (HB3.out.trans (hb.mono HB3.out.size))
          clear hb
          refine wpAnyH_take (i := 14) (oi := ⟨some 180, _, _, _, _, _⟩) (v := .tuple #[.bool false, .int .i64 2]) rfl (by kernel_rfl) (by kernel_rfl) (by kernel_rfl) (fun _ _ _ h => h) (Or.inl ⟨by rfl, fun w' hw' => by go_simp⟩) HB4.out ?_
          try simp only [Act.put, List.setIfInBounds_toArray, List.set_cons_succ, List.set_cons_zero]
          refine wpAnyH_take (i := 15) (oi := ⟨some 195, _, _, _, _, _⟩) (v := .bool false) rfl (by kernel_rfl) (by kernel_rfl) (by kernel_rfl) (fun _ _ _ h => h) (Or.inl ⟨by rfl, fun w' hw' => by go_simp⟩) HB4.out ?_
          try simp only [Act.put, List.setIfInBounds_toArray, List.set_cons_succ, List.set_cons_zero]
          refine wpAnyH_take (i := 16) (oi := ⟨some 196, _, _, _, _, _⟩) (v := .int .i64 2) rfl (by kernel_rfl) (by kernel_rfl) (by kernel_rfl) (fun _ _ _ h => h) (Or.inl ⟨by rfl, fun w' hw' => by go_simp⟩) HB4.out ?_
          try simp only [Act.put, List.setIfInBounds_toArray, List.set_cons_succ, List.set_cons_zero]
          refine wpAnyH_take (i := 17) (oi := ⟨some 18, _, _, _, _, _⟩) (v := .int .i64 2) rfl (by kernel_rfl) (by kernel_rfl) (by kernel_rfl) (fun _ _ _ h => h) (Or.inl ⟨by rfl, fun w' hw' => by go_simp⟩) HB4.out ?_
          try simp only [Act.put, List.setIfInBounds_toArray, List.set_cons_succ, List.set_cons_zero]
          refine wpAnyH_done (by kernel_rfl) ?_ _
          have HBz := Lib.hid (HBU.out.trans (HB4.out.mono HBU.out.size))
          go_wp2_with (go_at_call 15; (with_reducible refine (HAw.out _ (HCw.out _ HBz.out)).mono ?_); rintro e w9 ⟨rfl, hb9⟩; have HB9 := Lib.hid (HBz.out.trans (hb9.mono HBz.out.size)); clear hb9)
          go_ret
          exact ⟨rfl, HB2.out.trans (HB9.out.mono HB2.out.size)⟩
    clear hK14
    have HRO0 : Hid (RowOk U0 ao co W) := Lib.hid (row_own HO0.out HWok.out HWl.out)
    by_cases hkq1 : k = q
    · have e1 : (k : Int) = (q : Int) := by omega
      obtain ⟨z, hz⟩ : ∃ z, z = x.getD j 0 := ⟨_, rfl⟩
      have hz256 : z < 256 := by rw [hz]; exact Sha.getD_lt HXok.out.2 (by decide) _
      obtain ⟨z2, hz2b, hzne, hxo⟩ := xor_any z (1 + d0) hz256 (by omega) (by omega)
      have hxor : bits BinOp.xor IntKind.u8 (z : Int) (1 + (d0 : Int)) = (z2 : Int) := by rw [show ((1 + d0 : Nat) : Int) = 1 + (d0 : Int) by omega] at hxo; exact hxo
      have c9 : U0.cell? ⟨g19, j, none⟩ = some (.int .u8 (z : Int)) := (HY0.out.cell j).trans (by rw [hz]; exact arr32_get x HXok.out.1 j hj32)
      have f9 : U0.frozen? ⟨g19, j, none⟩ = false := HY0.out.free j
      have HY2 : Hid (Has (U0.setCell ⟨g19, j, none⟩ (.int .u8 (z2 : Int))) g19 26 (arr32 (x.set j z2))) := Lib.hid ((HY0.out.put j _).of_eq (arr_set x HXok.out.1 j z2))
      have Hx2 : Hid ((x.set j z2).length = 32 ∧ Sha.Bytes (x.set j z2)) := Lib.hid ⟨by rw [List.length_set]; exact HXok.out.1, fun u hu => (List.mem_or_eq_of_mem_set hu).elim (HXok.out.2 u) (fun e => by rw [e]; exact hz2b)⟩
      have HNe : Hid (x ≠ x.set j z2) := Lib.hid fun e => hzne (by
        have h2 : (x.set j z2).getD j 0 = z2 := by rw [List.getD_eq_getElem?_getD, List.getElem?_set_self (by rw [HXok.out.1]; exact hj32)]; rfl
        rw [← e] at h2
        rw [hz]
        exact h2.symm)
      clear hz hxo hzne hz256
      go_wp2
      exact HNext14.out _ _ _ _ _ _ _ _ _ _ _ _ _ _ _ _ _ _ _ _ _ _ _ _ _ _ _ _ _ _ _ _ _ _ _ _ _ _ _ _ _ _ _ _ _ _ _ _ _ _ _ _ _ _ _ _ _ _ _ _ _ _ _ _ _ _ _ _ _ _ _ _ _ _ _ _ _ _ _ _ _ _ _ _ _ _ _ _ _ _ _ _ _ _ _ _ _ _ _ _ _ _ _ _ _ _ _ _ _ _ _ _ _ _ _ _ _ _ _ _ _ _ _ _ _ _ _ _ _ _ _ _ _ _ _ _ _ _ _ _ _ _ _ _ _ _ _ _ _ _ _ _ _ _ _ _ _ _ _ _ _ _ _ _ _ _ _ _ _ _ _ _ _ _ _ _ _ _ _ _ _ _ _ _ _ _ _ _ _ _ _ _ _ _ _ _ (x.set j z2) W _ (HB0.out.setCell (show w2.heap.size ≤ g19 by omega) _) (HX0.out.apart (by show g14 ≠ g19; omega) _) HY2.out (rowok_cell HR0.out (fun g hg => by have := HM4.out g hg; show g.block ≠ g19; omega) _) (rowok_cell HRO0.out (fun g hg => by have e := own_adr HO0.out hg; exact HM5.out g.block (by rw [hg, ← e])) _) HWok.out HWl.out Hx2.out (.inl HNe.out)
    · have e1 : ¬ (k : Int) = (q : Int) := by omega
      have hkl : k < q := by omega
      obtain ⟨y, hy⟩ : ∃ y, W[k]? = some y := ⟨_, List.getElem?_eq_getElem (by rw [HWl.out]; exact hkl)⟩
      have hyy := HWok.out y (List.mem_of_getElem? hy)
      obtain ⟨z, hz⟩ : ∃ z, z = y.getD j 0 := ⟨_, rfl⟩
      have hz256 : z < 256 := by rw [hz]; exact Sha.getD_lt hyy.2 (by decide) _
      obtain ⟨z2, hz2b, hzne, hxo⟩ := xor_any z (1 + d0) hz256 (by omega) (by omega)
      have hxor : bits BinOp.xor IntKind.u8 (z : Int) (1 + (d0 : Int)) = (z2 : Int) := by rw [show ((1 + d0 : Nat) : Int) = 1 + (d0 : Int) by omega] at hxo; exact hxo
      obtain ⟨gO, hao, hgO1, hgO2⟩ := own_addr HO0.out (by omega)
      subst hao
      have hgne : gO ≠ g19 := HM5.out gO rfl
      obtain ⟨_, _, hsh, hcO, hcmO⟩ := own_shape HO0.out
      injection hsh with e2 _ e3
      subst e2
      subst e3
      unfold maxLen at hcmO
      have hkc : k < co := by omega
      obtain ⟨O2, hO2⟩ : ∃ O, O = W.set k (y.set j z2) := ⟨_, rfl⟩
      have HOok : Hid (SumsOk O2) := Lib.hid (by rw [hO2]; exact set_ok HWok.out hy hz2b)
      have HOl : Hid (O2.length = q) := Lib.hid (by rw [hO2, List.length_set]; exact HWl.out)
      have HOne : Hid (W ≠ O2) := Lib.hid (by rw [hO2]; exact (set_other hy (by rw [hyy.1]; exact hj32) (by rw [← hz]; exact hzne)).symm)
      have c9 : U0.cell? ⟨gO, k * 32 + j, none⟩ = some (.int .u8 (z : Int)) := own_cellB HO0.out (k * 32 + j) (.int .u8 (z : Int)) (flat_at W HWok.out k y hy j _ (by rw [hz]; exact arr32_get y hyy.1 j hj32))
      have f9 : U0.frozen? ⟨gO, k * 32 + j, none⟩ = false := HO0.out.frozenAt _
      have HSet : Hid ((W.flatMap cellsOf).set (k * 32 + j) (.int .u8 (z2 : Int)) = O2.flatMap cellsOf) := Lib.hid (by rw [hO2]; exact flat_set W HWok.out k y j z2 hy hj32)
      clear hy hyy hz hO2 hzne hxo hz256
      go_upto_region 13 with (fail)
      change Code.wp _ (Code.region 13 (bdOps 13) true) _ _ _
      refine wp_region_held (S := fun _ => True) (by kernel_rfl) ?_
      have hsz : (bdOps 13).size = 15 := by kernel_rfl
      rw [hsz]
      clear hsz
      refine gen_world (P := fun W' => wpAnyH _ _ _ _ _ _ _ _ W') (I := fun V => Below w2.heap.size w2 V ∧ Has V g14 26 (arr32 X) ∧ Has V g19 26 (arr32 x) ∧ RowOk V aw cw W ∧ V.ownsRow M0 26 32 (.slice (some ⟨gO, 0, none⟩) q co) q (W.flatMap cellsOf) ∧ V.cell? ⟨gO, k * 32 + j, none⟩ = some (.int .u8 (z : Int)) ∧ V.frozen? ⟨gO, k * 32 + j, none⟩ = false) _ ⟨HB0.out.drew, HX0.out.drew, HY0.out.drew, HR0.out.below (Below.refl _ U0).drew, own_below HO0.out (Below.refl _ U0).drew, c9, f9⟩ ?_
      rintro U1 ⟨hB, hX, hY, hR, hO, C9, F9⟩
      have HB1 := Lib.hid hB
      have HX1 := Lib.hid hX
      have HY1 := Lib.hid hY
      have HR1 := Lib.hid hR
      have HO1 := Lib.hid hO
      clear hB hX hY hR hO HB0 HX0 HY0 HR0 HO0 HRO0 c9 f9
      refine wpAnyH_take (i := 0) (oi := ⟨some 96, _, _, _, _, _⟩) (v := .slice (some ⟨gO, 0, none⟩) q co) rfl (by kernel_rfl) (by kernel_rfl) (by kernel_rfl) (fun _ _ _ h => h) (Or.inl ⟨by rfl, fun w' hw' => by go_simp⟩) trivial ?_
      try simp only [Act.put, List.setIfInBounds_toArray, List.set_cons_succ, List.set_cons_zero]
      refine wpAnyH_take (i := 1) (oi := ⟨some 97, _, _, _, _, _⟩) (v := .int .i64 (k : Int)) rfl (by kernel_rfl) (by kernel_rfl) (by kernel_rfl) (fun _ _ _ h => h) (Or.inl ⟨by rfl, fun w' hw' => by go_simp⟩) trivial ?_
      try simp only [Act.put, List.setIfInBounds_toArray, List.set_cons_succ, List.set_cons_zero]
      refine wpAnyH_take (i := 2) (oi := ⟨some 98, _, _, _, _, _⟩) (v := .int .u8 (by0 : Int)) rfl (by kernel_rfl) (by kernel_rfl) (by kernel_rfl) (fun _ _ _ h => h) (Or.inl ⟨by rfl, fun w' hw' => by go_simp⟩) trivial ?_
      try simp only [Act.put, List.setIfInBounds_toArray, List.set_cons_succ, List.set_cons_zero]
      refine wpAnyH_take (i := 3) (oi := ⟨some 99, _, _, _, _, _⟩) (v := .int .i64 (by0 : Int)) rfl (by kernel_rfl) (by kernel_rfl) (by kernel_rfl) (fun _ _ _ h => h) (Or.inl ⟨by rfl, fun w' hw' => by go_simp⟩) trivial ?_
      try simp only [Act.put, List.setIfInBounds_toArray, List.set_cons_succ, List.set_cons_zero]
      refine wpAnyH_take (i := 4) (oi := ⟨some 100, _, _, _, _, _⟩) (v := .int .i64 (j : Int)) rfl (by kernel_rfl) (by kernel_rfl) (by kernel_rfl) (fun _ _ _ h => h) (Or.inl ⟨by rfl, fun w' hw' => by go_simp⟩) trivial ?_
      try simp only [Act.put, List.setIfInBounds_toArray, List.set_cons_succ, List.set_cons_zero]
      refine wpAnyH_take (i := 5) (oi := ⟨some 101, _, _, _, _, _⟩) (v := .pointer (some ⟨gO, k * 32, none⟩)) rfl (by kernel_rfl) (by kernel_rfl) (by kernel_rfl) (fun _ _ _ h => h) (Or.inl ⟨by rfl, fun w' hw' => by go_simp⟩) trivial ?_
      try simp only [Act.put, List.setIfInBounds_toArray, List.set_cons_succ, List.set_cons_zero]
      refine wpAnyH_take (i := 6) (oi := ⟨some 102, _, _, _, _, _⟩) (v := .pointer (some ⟨gO, k * 32 + j, none⟩)) rfl (by kernel_rfl) (by kernel_rfl) (by kernel_rfl) (fun _ _ _ h => h) (Or.inl ⟨by rfl, fun w' hw' => by go_simp⟩) trivial ?_
      try simp only [Act.put, List.setIfInBounds_toArray, List.set_cons_succ, List.set_cons_zero]
      refine wpAnyH_take (i := 8) (oi := ⟨some 104, _, _, _, _, _⟩) (v := .int .u8 (by0 : Int)) rfl (by kernel_rfl) (by kernel_rfl) (by kernel_rfl) (fun _ _ _ h => h) (Or.inl ⟨by rfl, fun w' hw' => by go_simp⟩) trivial ?_
      try simp only [Act.put, List.setIfInBounds_toArray, List.set_cons_succ, List.set_cons_zero]
      refine wpAnyH_take (i := 9) (oi := ⟨some 105, _, _, _, _, _⟩) (v := .int .u8 (d0 : Int)) rfl (by kernel_rfl) (by kernel_rfl) (by kernel_rfl) (fun _ _ _ h => h) (Or.inl ⟨by rfl, fun w' hw' => by go_simp⟩) trivial ?_
      try simp only [Act.put, List.setIfInBounds_toArray, List.set_cons_succ, List.set_cons_zero]
      refine wpAnyH_take (i := 10) (oi := ⟨some 106, _, _, _, _, _⟩) (v := .int .u8 (1 + (d0 : Int))) rfl (by kernel_rfl) (by kernel_rfl) (by kernel_rfl) (fun _ _ _ h => h) (Or.inl ⟨by rfl, fun w' hw' => by go_simp⟩) trivial ?_
      try simp only [Act.put, List.setIfInBounds_toArray, List.set_cons_succ, List.set_cons_zero]
      refine wpAnyH_take (i := 12) (oi := ⟨some 108, _, _, _, _, _⟩) (v := .pointer (some ⟨gO, k * 32, none⟩)) rfl (by kernel_rfl) (by kernel_rfl) (by kernel_rfl) (fun _ _ _ h => h) (Or.inl ⟨by rfl, fun w' hw' => by go_simp⟩) trivial ?_
      try simp only [Act.put, List.setIfInBounds_toArray, List.set_cons_succ, List.set_cons_zero]
      refine wpAnyH_all (rs := [7]) (by kernel_rfl) (by simp) ?_
      intro jj hi
      obtain rfl : jj = 7 := by simpa using hi
      clear hi
      refine wpOp_step (o := ⟨some 103, _, _, _, _, _⟩) rfl (fun K' hK' => ?_)
      rw [if_pos (show Region.wanted _ _ = true from rfl)]
      go_simp
      refine hK' _ _ ⟨trivial, ?_⟩
      clear hK' K'
      try simp only [Act.put, List.setIfInBounds_toArray, List.set_cons_succ, List.set_cons_zero]
      refine wpAnyH_take (i := 11) (oi := ⟨some 107, _, _, _, _, _⟩) (v := .int .u8 (z2 : Int)) rfl (by kernel_rfl) (by kernel_rfl) (by kernel_rfl) (fun _ _ _ h => h) (Or.inl ⟨by rfl, fun w' hw' => by go_simp⟩) trivial ?_
      try simp only [Act.put, List.setIfInBounds_toArray, List.set_cons_succ, List.set_cons_zero]
      refine wpAnyH_take (i := 13) (oi := ⟨some 109, _, _, _, _, _⟩) (v := .pointer (some ⟨gO, k * 32 + j, none⟩)) rfl (by kernel_rfl) (by kernel_rfl) (by kernel_rfl) (fun _ _ _ h => h) (Or.inl ⟨by rfl, fun w' hw' => by go_simp⟩) trivial ?_
      try simp only [Act.put, List.setIfInBounds_toArray, List.set_cons_succ, List.set_cons_zero]
      refine wpAnyH_all (rs := [14]) (by kernel_rfl) (by simp) ?_
      intro jj hi
      obtain rfl : jj = 14 := by simpa using hi
      clear hi
      refine wpOp_step (o := ⟨none, _, _, _, _, _⟩) rfl (fun K' hK' => ?_)
      rw [if_pos (show Region.wanted _ _ = true from rfl)]
      go_simp
      refine hK' _ _ ⟨trivial, ?_⟩
      clear hK' K'
      try simp only [Act.put, List.setIfInBounds_toArray, List.set_cons_succ, List.set_cons_zero]
      refine wpAnyH_done (by kernel_rfl) ?_ _
      exact HNext14.out _ _ _ _ _ _ _ _ _ _ _ _ _ _ _ _ _ _ _ _ _ _ _ _ _ _ _ _ _ _ _ _ _ _ _ _ _ _ _ _ _ _ _ _ _ _ _ _ _ _ _ _ _ _ _ _ _ _ _ _ _ _ _ _ _ _ _ _ _ _ _ _ _ _ _ _ _ _ _ _ _ _ _ _ _ _ _ _ _ _ _ _ _ _ _ _ _ _ _ _ _ _ _ _ _ _ _ _ _ _ _ _ _ _ _ _ _ _ _ _ _ _ _ _ _ _ _ _ _ _ _ _ _ _ _ _ _ _ _ _ _ _ _ _ _ _ _ _ _ _ _ _ _ _ _ _ _ _ _ _ _ _ _ _ _ _ _ _ _ _ _ _ _ _ _ _ _ _ _ _ _ _ _ _ _ _ _ _ _ _ _ _ _ _ _ _ x O2 _ (HB1.out.setCell (show w2.heap.size ≤ gO by omega) _) (HX1.out.apart (by show g14 ≠ gO; omega) _) (HY1.out.apart (by show g19 ≠ gO; omega) _) (rowok_cell HR1.out (fun g hg => by have := HM4.out g hg; show g.block ≠ gO; omega) _) (row_lit (own_cast (HO1.out.stored _ _).1 rfl HSet.out) HOok.out HOl.out) HOok.out HOl.out HXok.out (.inr HOne.out)
  change Code.wp _ (Code.region 9 (bdOps 9) true) _ _ _
  refine wp_region_held (S := fun V => Below w2.heap.size w2 V) (by kernel_rfl) ?_
  have hsz : (bdOps 9).size = 9 := by kernel_rfl
  rw [hsz]
  clear hsz
  have hgw : w2.heap.size ≤ w6.heap.size := HB6.out.size
  refine gen_world (P := fun W' => wpAnyH _ _ _ _ _ _ _ _ W') (I := fun V => Below w2.heap.size w2 V ∧ Has V g14 26 (arr32 X) ∧ RowOk V aw cw W) _ ⟨HB6.out.drew, HX6.out.drew, HW6.out.below (Below.refl _ w6).drew⟩ ?_
  rintro y0 ⟨hB, hX, hR⟩
  have HBy := Lib.hid hB
  have HXy := Lib.hid hX
  have HRy := Lib.hid hR
  clear hB hX hR HB6 HX6 HW6 hgw hg14b hg14
  refine wpAnyH_take (i := 0) (oi := ⟨some 70, _, _, _, _, _⟩) (v := .slice (some ⟨g2, off2, none⟩) n c2) rfl (by kernel_rfl) (by kernel_rfl) (by kernel_rfl) (fun _ _ _ h => h) (Or.inl ⟨by rfl, fun w' hw' => by go_simp⟩) HBy.out ?_
  try simp only [Act.put, List.setIfInBounds_toArray, List.set_cons_succ, List.set_cons_zero]
  refine wpAnyH_take (i := 1) (oi := ⟨some 71, _, _, _, _, _⟩) (v := .int .i64 (i : Int)) rfl (by kernel_rfl) (by kernel_rfl) (by kernel_rfl) (fun _ _ _ h => h) (Or.inl ⟨by rfl, fun w' hw' => by go_simp⟩) HBy.out ?_
  try simp only [Act.put, List.setIfInBounds_toArray, List.set_cons_succ, List.set_cons_zero]
  refine wpAnyH_take (i := 2) (oi := ⟨some 72, _, _, _, _, _⟩) (v := .pointer (some ⟨g2, off2 + i * 32, none⟩)) rfl (by kernel_rfl) (by kernel_rfl) (by kernel_rfl) (fun _ _ _ h => h) (Or.inl ⟨by rfl, fun w' hw' => by go_simp⟩) HBy.out ?_
  try simp only [Act.put, List.setIfInBounds_toArray, List.set_cons_succ, List.set_cons_zero]
  refine wpAnyH_take (i := 3) (oi := ⟨some 73, _, _, _, _, none⟩) (v := .agg (arr32 x)) rfl (by kernel_rfl) (by kernel_rfl) (by kernel_rfl) (fun _ _ _ h => h) (yieldsIf_load ⟨g2, off2 + i * 32, none⟩ _ _ (fun w hw => HXr.out _ hw) Tryd.underlying26 HIx.out rfl rfl) HBy.out ?_
  try simp only [Act.put, List.setIfInBounds_toArray, List.set_cons_succ, List.set_cons_zero]
  refine wpAnyH_take (i := 4) (oi := ⟨some 74, _, _, _, _, _⟩) (v := .slice aw q cw) rfl (by kernel_rfl) (by kernel_rfl) (by kernel_rfl) (fun _ _ _ h => h) (Or.inl ⟨by rfl, fun w' hw' => by go_simp⟩) HBy.out ?_
  try simp only [Act.put, List.setIfInBounds_toArray, List.set_cons_succ, List.set_cons_zero]
  refine wpAnyH_all (rs := [5, 6]) (by kernel_rfl) (by simp) ?_
  intro jj hi
  have hii : jj = 5 ∨ jj = 6 := by simpa using hi
  clear hi
  rcases hii with rfl | rfl
  · refine wpOp_step (o := ⟨some 75, _, _, _, _, _⟩) rfl (fun K' hK' => ?_)
    rw [if_pos (show Region.wanted _ _ = true from rfl)]
    go_simp
    (with_reducible refine (HCn.out y0 HRy.out).mono ?_)
    rintro e y1 ⟨ao, co, rfl, ho, hb⟩
    refine hK' _ _ ⟨HBy.out.trans (hb.mono HBy.out.size), ?_⟩
    clear hK' K'
    try simp only [Act.put, List.setIfInBounds_toArray, List.set_cons_succ, List.set_cons_zero]
    have hs01 : y0.heap.size ≤ y1.heap.size := hb.size
    have HBa := Lib.hid (HBy.out.trans (hb.mono HBy.out.size))
    have HXa := Lib.hid (HXy.out.below hb HXy.out.lt)
    have HRa := Lib.hid (HRy.out.below hb)
    have HCa := Lib.hid ho
    clear ho hb
    refine wpAnyH_all (rs := [6]) (by kernel_rfl) (by simp) ?_
    intro jj hi
    obtain rfl : jj = 6 := by simpa using hi
    clear hi
    refine wpOp_step (o := ⟨some 19, _, _, _, _, _⟩) rfl (fun K' hK' => ?_)
    rw [if_pos (show Region.wanted _ _ = true from rfl)]
    go_simp
    refine hK' _ _ ⟨HBa.out.alloc HBa.out.size _, ?_⟩
    clear hK' K'
    try simp only [Act.put, List.setIfInBounds_toArray, List.set_cons_succ, List.set_cons_zero]
    have hne9 : ∀ gO, ao = some ⟨gO, 0, none⟩ → gO ≠ y1.heap.size := fun gO h => by
      subst h
      have := (HCa.out.lt gO rfl).2
      omega
    have hcg : ∀ r, (Value.slice ao q co).ownBlock = some r → r ≠ y1.heap.size := fun r hr => by
      have := (HCa.out.lt r hr).2
      omega
    have hgg : w2.heap.size ≤ y1.heap.size := HBa.out.size
    refine gen_world (P := fun W' => wpAnyH _ _ _ _ _ _ _ _ W') (I := fun V => Below w2.heap.size w2 V ∧ Has V g14 26 (arr32 X) ∧ RowOk V aw cw W ∧ V.ownsRow y0.heap.size 26 32 (.slice ao q co) q (W.flatMap cellsOf) ∧ Has V y1.heap.size 26 zero32) _ ⟨HBa.out.alloc HBa.out.size _, HXa.out.alloc _, HRa.out.below ((Below.refl _ y1).alloc (Nat.le_refl _) _), HCa.out.alloc _, fresh_sum y1⟩ ?_
    rintro y2 ⟨hB, hX, hR, hC, hA⟩
    have HBc := Lib.hid hB
    have HXc := Lib.hid hX
    have HRc := Lib.hid hR
    have HCc := Lib.hid hC
    have HAc := Lib.hid hA
    clear hB hX hR hC hA HBa HXa HRa HCa
    refine wpAnyH_all (rs := [7]) (by kernel_rfl) (by simp) ?_
    intro jj hi
    obtain rfl : jj = 7 := by simpa using hi
    clear hi
    refine wpOp_step (o := ⟨none, _, _, _, _, _⟩) rfl (fun K' hK' => ?_)
    rw [if_pos (show Region.wanted _ _ = true from rfl)]
    refine opw_store y1.heap.size (arr32 x) _ _ HAc.out HSx.out HIx.out (arr32_one _) rfl rfl ?_
    refine hK' _ _ ⟨below_setRow HBc.out hgg _, ?_⟩
    clear hK' K'
    try simp only [Act.put, List.setIfInBounds_toArray, List.set_cons_succ, List.set_cons_zero]
    refine wpAnyH_take (i := 8) (oi := ⟨some 20, _, _, _, _, _⟩) (v := .slice ao q co) rfl (by kernel_rfl) (by kernel_rfl) (by kernel_rfl) (fun _ _ _ h => h) (Or.inl ⟨by rfl, fun w' hw' => by go_simp⟩) (below_setRow HBc.out hgg _) ?_
    try simp only [Act.put, List.setIfInBounds_toArray, List.set_cons_succ, List.set_cons_zero]
    refine wpAnyH_done (by kernel_rfl) ?_ _
    exact HNext9.out _ _ _ _ _ _ _ _ _ _ _ _ _ _ _ _ _ _ _ _ _ _ _ _ _ _ _ _ _ _ _ _ _ _ _ _ _ _ _ _ _ _ _ _ _ _ _ _ _ _ _ _ _ _ _ _ _ _ _ _ _ _ _ _ _ _ _ _ _ _ _ _ _ _ _ _ _ _ _ _ _ _ _ _ _ _ _ _ _ _ _ _ _ _ _ _ _ _ _ _ _ _ _ _ _ _ _ _ _ _ _ _ _ _ _ _ _ _ _ _ _ _ _ _ _ _ _ _ _ _ _ _ _ _ _ _ _ _ _ _ _ _ _ _ _ _ _ _ _ _ _ _ _ _ _ _ _ _ _ _ _ _ _ _ _ _ _ _ _ _ _ _ _ _ _ _ _ _ _ _ _ _ _ _ _ _ _ _ _ _ _ _ _ _ ao co y1.heap.size y0.heap.size _ (below_setRow HBc.out hgg _) (HXc.out.setRow_apart (by have := HXy.out.lt; omega)) HAc.out.setRow (row_apartB HRc.out (fun g hg => by have := rowok_lt HRy.out g hg; omega) _) (own_apart HCc.out hcg _) HBy.out.size HXy.out.lt (by omega) (fun g hg => rowok_lt HRy.out g hg) hne9
  · refine wpOp_step (o := ⟨some 19, _, _, _, _, _⟩) rfl (fun K' hK' => ?_)
    rw [if_pos (show Region.wanted _ _ = true from rfl)]
    go_simp
    refine hK' _ _ ⟨HBy.out.alloc HBy.out.size _, ?_⟩
    clear hK' K'
    try simp only [Act.put, List.setIfInBounds_toArray, List.set_cons_succ, List.set_cons_zero]
    have hgg : w2.heap.size ≤ y0.heap.size := HBy.out.size
    refine gen_world (P := fun W' => wpAnyH _ _ _ _ _ _ _ _ W') (I := fun V => Below w2.heap.size w2 V ∧ Has V g14 26 (arr32 X) ∧ RowOk V aw cw W ∧ Has V y0.heap.size 26 zero32 ∧ V.heap.size = y0.heap.size + 1) _ ⟨HBy.out.alloc HBy.out.size _, HXy.out.alloc _, HRy.out.below ((Below.refl _ y0).alloc (Nat.le_refl _) _), fresh_sum y0, alloc_sizeB _ _⟩ ?_
    rintro y1 ⟨hB, hX, hR, hA, hs⟩
    have HBa := Lib.hid hB
    have HXa := Lib.hid hX
    have HRa := Lib.hid hR
    have HAa := Lib.hid hA
    clear hB hX hR hA
    refine wpAnyH_all (rs := [5]) (by kernel_rfl) (by simp) ?_
    intro jj hi
    obtain rfl : jj = 5 := by simpa using hi
    clear hi
    refine wpOp_step (o := ⟨some 75, _, _, _, _, _⟩) rfl (fun K' hK' => ?_)
    rw [if_pos (show Region.wanted _ _ = true from rfl)]
    go_simp
    (with_reducible refine (HCn.out y1 HRa.out).mono ?_)
    rintro e y2 ⟨ao, co, rfl, ho, hb⟩
    refine hK' _ _ ⟨HBa.out.trans (hb.mono HBa.out.size), ?_⟩
    clear hK' K'
    try simp only [Act.put, List.setIfInBounds_toArray, List.set_cons_succ, List.set_cons_zero]
    have HBc := Lib.hid (HBa.out.trans (hb.mono HBa.out.size))
    have HXc := Lib.hid (HXa.out.below hb HXa.out.lt)
    have HRc := Lib.hid (HRa.out.below hb)
    have HAc := Lib.hid (HAa.out.below hb HAa.out.lt)
    have hne9 : ∀ gO, ao = some ⟨gO, 0, none⟩ → gO ≠ y0.heap.size := fun gO h => by
      subst h
      have := (ho.lt gO rfl).1
      omega
    have hcg : ∀ r, (Value.slice ao q co).ownBlock = some r → r ≠ y0.heap.size := fun r hr => by
      have := (ho.lt r hr).1
      omega
    have HCc := Lib.hid (own_low ho (show y0.heap.size ≤ y1.heap.size by omega))
    clear ho hb HBa HXa HRa HAa
    refine wpAnyH_all (rs := [7]) (by kernel_rfl) (by simp) ?_
    intro jj hi
    obtain rfl : jj = 7 := by simpa using hi
    clear hi
    refine wpOp_step (o := ⟨none, _, _, _, _, _⟩) rfl (fun K' hK' => ?_)
    rw [if_pos (show Region.wanted _ _ = true from rfl)]
    refine opw_store y0.heap.size (arr32 x) _ _ HAc.out HSx.out HIx.out (arr32_one _) rfl rfl ?_
    refine hK' _ _ ⟨below_setRow HBc.out hgg _, ?_⟩
    clear hK' K'
    try simp only [Act.put, List.setIfInBounds_toArray, List.set_cons_succ, List.set_cons_zero]
    refine wpAnyH_take (i := 8) (oi := ⟨some 20, _, _, _, _, _⟩) (v := .slice ao q co) rfl (by kernel_rfl) (by kernel_rfl) (by kernel_rfl) (fun _ _ _ h => h) (Or.inl ⟨by rfl, fun w' hw' => by go_simp⟩) (below_setRow HBc.out hgg _) ?_
    try simp only [Act.put, List.setIfInBounds_toArray, List.set_cons_succ, List.set_cons_zero]
    refine wpAnyH_done (by kernel_rfl) ?_ _
    exact HNext9.out _ _ _ _ _ _ _ _ _ _ _ _ _ _ _ _ _ _ _ _ _ _ _ _ _ _ _ _ _ _ _ _ _ _ _ _ _ _ _ _ _ _ _ _ _ _ _ _ _ _ _ _ _ _ _ _ _ _ _ _ _ _ _ _ _ _ _ _ _ _ _ _ _ _ _ _ _ _ _ _ _ _ _ _ _ _ _ _ _ _ _ _ _ _ _ _ _ _ _ _ _ _ _ _ _ _ _ _ _ _ _ _ _ _ _ _ _ _ _ _ _ _ _ _ _ _ _ _ _ _ _ _ _ _ _ _ _ _ _ _ _ _ _ _ _ _ _ _ _ _ _ _ _ _ _ _ _ _ _ _ _ _ _ _ _ _ _ _ _ _ _ _ _ _ _ _ _ _ _ _ _ _ _ _ _ _ _ _ _ _ _ _ _ _ ao co y0.heap.size y0.heap.size _ (below_setRow HBc.out hgg _) (HXc.out.setRow_apart (by have := HXy.out.lt; omega)) HAc.out.setRow (row_apartB HRc.out (fun g hg => by have := rowok_lt HRy.out g hg; omega) _) (own_apart HCc.out hcg _) HBy.out.size HXy.out.lt (by omega) (fun g hg => rowok_lt HRy.out g hg) hne9
theorem binds_int (bs : List Nat) (hbb : Sha.Bytes bs) (a : Option Addr) (c : Nat) (n1 n2 n3 n4 : Int) (b1 : 0 ≤ n1 ∧ n1 ≤ 255) (b2 : 0 ≤ n2 ∧ n2 ≤ 255) (b3 : 0 ≤ n3 ∧ n3 ≤ 255) (b4 : 0 ≤ n4 ∧ n4 ≤ 255) (w : World) (hp : PartOk w a c bs) (hcap : bs.length ≤ c ∧ c ≤ maxLen) (hc : ConstAt w) :
    Calls Tryd.prog 13 #[.slice a bs.length c, .int .u8 n1, .int .u8 n2, .int .u8 n3, .int .u8 n4] w fun e w' => e = .returned (.bool true) ∧ Below w.heap.size w w' := by
  obtain ⟨m1, rfl⟩ := Int.eq_ofNat_of_zero_le b1.1
  obtain ⟨m2, rfl⟩ := Int.eq_ofNat_of_zero_le b2.1
  obtain ⟨m3, rfl⟩ := Int.eq_ofNat_of_zero_le b3.1
  obtain ⟨m4, rfl⟩ := Int.eq_ofNat_of_zero_le b4.1
  exact binds_law bs hbb a c m1 m2 m3 m4 (by omega) (by omega) (by omega) (by omega) w hp hcap hc
end Go.Proofs.YtffdkniahdekjaaDoor
end
