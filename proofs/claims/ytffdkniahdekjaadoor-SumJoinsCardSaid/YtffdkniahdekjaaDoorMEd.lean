/-
  THE LAW SumJoins, WALKED: true, and nothing that was there is turned.
-/
import Derived.Test.YtffdkniahdekjaaDoorMBl
import Derived.Test.YtffdkniahdekjaaDoorMEa
import Derived.Test.YtffdkniahdekjaaDoorMEb
import Derived.Test.YtffdkniahdekjaaDoorMEc
section
namespace Go.Proofs.YtffdkniahdekjaaDoor
open Go.RowKit Go.Hoar
noncomputable def jnOps (k : Nat) : Array Oper := (Tryd.f10.body.bind (opsAt k)).getD #[]
theorem u8_in (d : Nat) (hd : d < 256) : IntKind.u8.wrap (d : Int) = (d : Int) := by
  simp [IntKind.wrap, IntKind.bits, IntKind.signed]
  omega
/-- A number that is what the loop has still before it, in a world where t draws were taken. -/
def FitOf (P : List Nat) (rem : Nat → Nat) (g2 N i at1 : Nat) (V : World) (μ : Nat) : Prop := ∃ t, KitT V g2 (g2 + 1) P t ∧ t + 2 * μ ≤ 2 * (302 * N) ∧ μ = (i - at1) * N + rem t
theorem fit_down {i at1 n N r0 r1 t0 t1 T : Nat} (h : at1 + n ≤ i) (h1 : 1 ≤ n) (hr : r1 + 1 ≤ N) (ht : t1 ≤ t0 + 2) (hb : t0 + 2 * ((i - at1) * N + r0) ≤ T) :
    (i - (at1 + n)) * N + r1 < (i - at1) * N + r0 ∧ t1 + 2 * ((i - (at1 + n)) * N + r1) ≤ T := by
  have e : (i - at1) * N = (i - (at1 + n)) * N + n * N := by rw [← Nat.add_mul]; congr 1; omega
  have e2 : 1 * N ≤ n * N := Nat.mul_le_mul_right _ h1
  omega
theorem arr_nine (j : Nat) (u : Value) (h : (List.map BV [9])[j]? = some u) : (#[Value.int IntKind.u8 9] : Array Value)[j]? = some u := by
  have e : (#[Value.int IntKind.u8 9] : Array Value) = ([9].map BV).toArray := rfl
  rw [e, List.getElem?_toArray]
  exact h
theorem long_at (d : List Nat) (r : Value) : (stOf d r)[9]? = some (.int .i64 (d.length : Int)) := by
  obtain ⟨h0, h1, h2, h3, h4, h5, h6, h7, e⟩ := len8 (all8 d).1
  unfold stOf
  rw [e]
  rfl
theorem map_cell (bl : List Nat) (i : Nat) (h : i < bl.length) : ((bl.map BV).toArray)[i]? = some (.int .u8 ((bl.getD i 0 : Nat) : Int)) := by
  rw [List.getElem?_toArray, List.getElem?_map, List.getD_eq_getElem?_getD, List.getElem?_eq_getElem h]
  rfl
theorem map_set_BV (bl : List Nat) (i v : Nat) : ((bl.map BV).toArray).setIfInBounds i (.int .u8 (v : Int)) = ((bl.set i v).map BV).toArray := by
  rw [List.setIfInBounds_toArray, List.map_set]
  rfl
set_option maxRecDepth 100000 in
set_option maxHeartbeats 10000000 in
/-- THE LAW's WALK. -/
theorem joins_law (ns ps : List Nat) (hns : Sha.Bytes ns) (hps : Sha.Bytes ps) (a a' : Option Addr) (c c' many : Nat) (hmany : many < 65536) (w : World) (hp : PartOk w a c ns) (hcap : ns.length ≤ c ∧ c ≤ maxLen) (hp' : PartOk w a' c' ps) (hcap' : ps.length ≤ c' ∧ c' ≤ maxLen) (hc : ConstAt w) :
    Calls Tryd.prog 10 #[.slice a ns.length c, .slice a' ps.length c', .int .u16 (many : Int)] w fun e w' => e = .returned (.bool true) ∧ Below w.heap.size w w' := by
  have HOf := Lib.hid (kitOf_any ns hns a c w hp hcap)
  obtain ⟨P, hP⟩ : ∃ P, P = ps.take (min ps.length 300) := ⟨_, rfl⟩
  have hPb : Sha.Bytes P := by rw [hP]; exact bytes_take hps _
  have hPl : P.length ≤ 300 := by rw [hP, List.length_take]; omega
  have HOg : Hid (∀ V, Below w.heap.size w V → Calls Tryd.prog 49 #[.slice a' ps.length c'] V fun e w' => ∃ g, e = .returned (.pointer (some ⟨g, 0, none⟩)) ∧ KitT w' g (g + 1) P 0 ∧ V.heap.size ≤ g ∧ Below V.heap.size V w') := Lib.hid fun V hV => by
    rw [hP]
    exact kitOf_t ps hps a' c' V (hp'.below hV) hcap'
  have HC := Lib.hid hc
  have HAw : Hid (∀ V : World, ConstAt V → Calls Tryd.prog 15 #[] V fun e w' => e = .returned (.bool true) ∧ Below V.heap.size V w') := Lib.hid fun V hV => awake_any V hV
  obtain ⟨m, hm⟩ : ∃ m, m = many % 301 := ⟨_, rfl⟩
  have htm : ((many : Int)).tmod 301 = (m : Int) := by rw [hm]; exact (Int.ofNat_tmod many 301).symm
  have hm300 : m ≤ 300 := by omega
  have hw1 : IntKind.i64.wrap (many : Int) = (many : Int) := IntWalk.i64_in _ (by omega)
  have hmk := make_bytes m (by unfold maxLen; omega) (by omega)
  obtain ⟨rem, hrem, hdown⟩ := Gen.rem_of P hPb hPl
  have HRem := Lib.hid hrem
  have HDown := Lib.hid hdown
  have HPb := Lib.hid hPb
  have hPl2 := hPl
  obtain ⟨n2, hn2⟩ : ∃ n, n = ps.length := ⟨_, rfl⟩
  rw [← hn2] at HOg ⊢
  clear hp hcap hp' hcap' hc hns hps hm hP hPb hrem hdown hn2
  have egO : ∀ args w, (callFunc 17 args).run Tryd.prog w = .ok (.enter 17 args) w := enters_of Tryd.func17 (by kernel_rfl) rfl
  have egA : ∀ args w, (callFunc 15 args).run Tryd.prog w = .ok (.enter 15 args) w := enters_of Tryd.func15 (by kernel_rfl) rfl
  go_enter Tryd.func10, Tryd.ntmps10
  go_upto_region 3 with (first
    | (go_at_call 49; (with_reducible refine HOf.out.mono ?_); rintro e w1 ⟨g, rfl, hK, hgw, hb1⟩; have HK1 := Lib.hid hK; have HB1 := Lib.hid hb1; clear hK hb1))
  have hgl := HK1.out.lt
  refine gen_world (P := fun W => Code.wp _ _ _ _ W) (I := fun V => Below w.heap.size w V ∧ Kit V g (g + 1) 0 ∧ Has V w1.heap.size 5 (List.replicate m (BV 0)).toArray) _ ⟨HB1.out.alloc HB1.out.size _, HK1.out.below (((Below.refl _ w1).alloc (Nat.le_refl _) _).mono hgl), Has.fresh _ _ _⟩ ?_
  rintro w2 ⟨hB, hK, hM⟩
  have hgB : g ≠ w1.heap.size := Nat.ne_of_lt hgl
  have hwB : w.heap.size ≤ w1.heap.size := HB1.out.size
  generalize w1.heap.size = gB at *
  have HB2 := Lib.hid hB
  have HK2 := Lib.hid hK
  have HM2 := Lib.hid hM
  clear hB hK hM HB1 HK1 HOf hmk hw1 htm hPl2
  go_wp2
  go_loopw [30] (fun iv wr => ∃ (i : Nat) (bl : List Nat), i ≤ m ∧ iv = .int .i64 (i : Int) ∧ bl.length = m ∧ Hid (Sha.Bytes bl) ∧ Has wr gB 5 (bl.map BV).toArray ∧ Kit wr g (g + 1) i ∧ Below w.heap.size w wr) (fun iv _ => m - (intOf iv).toNat)
  case atStart => exact ⟨0, List.replicate m 0, Nat.zero_le _, rfl, List.length_replicate, Lib.hid (fun x hx => by rw [(List.mem_replicate.1 hx).2]; decide), HM2.out.of_eq (by rw [List.map_replicate]), HK2.out, HB2.out⟩
  case round =>
    obtain ⟨i, bl, hi, rfl, hbl, HBy, hM, hK, hB⟩ := hrel
    by_cases him : i < m
    · have hlt : (i : Int) < (m : Int) := by omega
      have HLe := Lib.hid (less_any g (g + 1) i (by omega) 256 (by omega) wr hK)
      have HM := Lib.hid hM
      have HB := Lib.hid hB
      clear hM hK hB
      go_upto_region 6 with (fail)
      go_wp2_with (go_at_call 50; (with_reducible refine HLe.out.mono ?_); rintro e w3 ⟨v, rfl, hv0, hv1, _, hK3, hb3⟩; obtain ⟨d, rfl⟩ := Int.eq_ofNat_of_zero_le hv0; have hd : d < 256 := (by have := hv1 (by omega); omega); have hwd := u8_in d hd; have HK3 := Lib.hid hK3; have HM3 := Lib.hid (hb3.has HM.out (Ne.symm hgB)); have HB3 := Lib.hid (HB.out.trans (hb3.below hgw HB.out.size)); have hfree := HM3.out.free i; have c3 : w3.cell? ⟨gB, i, none⟩ = some (.int .u8 ((bl.getD i 0 : Nat) : Int)) := (HM3.out.cell i).trans (map_cell bl i (by omega)); clear hK3 hb3 hv0 hv1; generalize ((bl.getD i 0 : Nat) : Int) = old at c3)
      exact ⟨⟨i + 1, bl.set i d, by omega, by go_num, by rw [List.length_set]; exact hbl, Lib.hid (fun u hu => (List.mem_or_eq_of_mem_set hu).elim (HBy.out u) (fun e => by rw [e]; exact hd)), (HM3.out.put i _).of_eq (map_set_BV bl i d), HK3.out.below ((Below.refl _ w3).setCell (by show g + 1 ≤ gB; omega) _), HB3.out.setCell (by show w.heap.size ≤ gB; omega) _⟩, by simp [intOf]; omega⟩
    · obtain rfl : i = m := by omega
      have HB := Lib.hid hB
      have HM := Lib.hid hM
      have HS0 : Hid (zeroState.size = (stOf [] (.slice none 0 0)).size) := Lib.hid (by rw [stOf_size]; rfl)
      have HI0 := Lib.hid (stOf_info [] (.slice none 0 0))
      have H10 := Lib.hid (stOf_one [] (.slice none 0 0) rfl)
      have hmB : gB < wr.heap.size := hM.lt
      clear hM hB hK HM2 HB2 HK2
      go_upto_region 10 with (first
        | (go_at_call 49; (with_reducible refine (HOg.out _ HB.out).mono ?_); rintro e w4 ⟨g2, rfl, hK, hgw2, hb4⟩; have HK4 := Lib.hid hK; have HB4 := Lib.hid (HB.out.trans (hb4.mono HB.out.size)); have HM4 := Lib.hid (HM.out.below hb4 hmB); have hmB4 : gB < w4.heap.size := HM4.out.lt; clear hK hb4)
        | (go_at_call 24; (with_reducible refine (start_any _).mono ?_); rintro e w5 ⟨rfl, hb5⟩; rw [← stOf_nil]; have HK5 := Lib.hid (HK4.out.below (hb5.mono HK4.out.lt)); have HB5 := Lib.hid (HB4.out.trans (hb5.mono HB4.out.size)); have HM5 := Lib.hid (HM4.out.below hb5 hmB4); have HF : Hid (Has (w5.alloc (.cells zeroState 33)) w5.heap.size 33 zeroState) := Lib.hid (Has.fresh _ _ _); clear hb5)
        | ((with_reducible refine arm_store w5.heap.size (stOf [] (.slice none 0 0)) 33 zeroState HF.out HS0.out HI0.out H10.out ?h5 ?h6 ?_); (case h5 => rfl); (case h6 => rfl)))
      have hg2l : g2 + 1 ≤ w5.heap.size := HK5.out.lt
      have hgBT : gB < w5.heap.size := HM5.out.lt
      refine gen_world (P := fun W => Code.wp _ _ _ _ W) (I := fun V => Below w.heap.size w V ∧ Has V gB 5 (bl.map BV).toArray ∧ KitT V g2 (g2 + 1) P 0 ∧ Has V w5.heap.size 33 (stOf [] (.slice none 0 0))) _ ⟨below_setRow (HB5.out.alloc HB5.out.size _) HB5.out.size _, (HM5.out.alloc _).setRow_apart (Nat.ne_of_lt hgBT), HK5.out.below (below_setRow (((Below.refl _ w5).alloc (Nat.le_refl _) _).mono hg2l) hg2l _), HF.out.setRow⟩ ?_
      rintro w6 ⟨hB, hM, hK, hT⟩
      have hgwT : w.heap.size ≤ w5.heap.size := HB5.out.size
      have hgBg : gB < g2 := by omega
      generalize w5.heap.size = gT at *
      have HB6 := Lib.hid hB
      have HM6 := Lib.hid hM
      have HK6 := Lib.hid hK
      have HT6 := Lib.hid hT
      clear hB hM hK hT HK5 HB5 HM5 HF HK4 HB4 HM4 HM HB hmB hmB4 hgw2 HS0 HI0 H10
      have HBl := Lib.hid hbl
      have hN : ∃ N, N = 1125899906842625 := ⟨_, rfl⟩
      obtain ⟨N, hN⟩ := hN
      have HCw : Hid (∀ V, Below w.heap.size w V → ConstAt V) := Lib.hid fun V hV => HC.out.below hV rfl
      go_wp2
      go_loopw [12] (fun av wr => ∃ (at1 : Nat) (ra : Option Addr) (rc : Nat), at1 ≤ i ∧ av = .int .i64 (at1 : Int) ∧ Has wr gT 33 (stOf (bl.take at1) (.slice ra (restOf (bl.take at1)).length rc)) ∧ PartOk wr ra rc (restOf (bl.take at1)) ∧ Hid (∀ x, ra = some x → x.block ≠ gT ∧ x.block ≠ g2) ∧ Has wr gB 5 (bl.map BV).toArray ∧ (∃ μ, FitOf P rem g2 N i at1 wr μ) ∧ Below w.heap.size w wr) (fun av wr => Joins.leastOf (FitOf P rem g2 N i (intOf av).toNat wr))
      case atStart => exact ⟨0, none, 0, Nat.zero_le _, rfl, HT6.out.of_eq (by rw [List.take_zero]; rfl), .inl ⟨rfl, by rw [List.take_zero]; rfl, rfl⟩, Lib.hid (fun x h => by cases h), HM6.out, ⟨_, 0, HK6.out, by have h1 := HRem.out 0; have h2 : i * N ≤ 300 * N := Nat.mul_le_mul_right _ (by omega); rw [Nat.sub_zero]; omega, rfl⟩, HB6.out⟩
      case round =>
        obtain ⟨at1, ra, rc, hat, rfl, hT, hR, HRn, hM, ⟨μ, hμ⟩, hB⟩ := hrel
        have hint : (intOf (.int .i64 (at1 : Int))).toNat = at1 := by simp [intOf]
        have HT := Lib.hid hT
        have HR := Lib.hid hR
        have HM := Lib.hid hM
        have HB := Lib.hid hB
        by_cases hai : at1 < i
        · have hlt : (at1 : Int) < (i : Int) := by omega
          obtain ⟨t0, hK, hbd, hμ0⟩ := (Joins.leastOf_spec hμ).1
          rw [hμ0] at hbd
          have ht62 : t0 < 4611686018427387900 := by omega
          have hls := less_t g2 (g2 + 1) P t0 HPb.out hPl (by omega) 90 (by decide) (by decide) wr hK
          obtain ⟨r, hr⟩ : ∃ r, r = Gen.drawAt P t0 % 90 := ⟨_, rfl⟩
          rw [← hr, show ((90 : Nat) : Int) = 90 from rfl] at hls
          have HLs := Lib.hid hls
          clear hls
          obtain ⟨n, hn⟩ : ∃ n, n = min r (i - at1) := ⟨_, rfl⟩
          have hmin : min (r : Int) ((i : Int) - (at1 : Int)) = (n : Int) := by omega
          have HMu : Hid (Joins.leastOf (FitOf P rem g2 N i at1 wr) = (i - at1) * N + rem t0) := Lib.hid hμ0
          have HBd := Lib.hid hbd
          have HR0 := Lib.hid hr
          have HN0 := Lib.hid hn
          have hgT2 : gT < wr.heap.size := hT.lt
          have HRg : Hid (∀ x off, ra = some ⟨x, off, none⟩ → x ≠ g2) := Lib.hid (fun x off h => (HRn.out _ h).2)
          clear hT hR hM hB hK hbd hμ0 hμ hr hn
          go_upto_region 13 with (first
            | (go_at_call 50; (with_reducible refine HLs.out.mono ?_); rintro e w7 ⟨rfl, hK7, hb7⟩; have HK7 := Lib.hid hK7; have HT7 := Lib.hid (hb7.has HT.out (by omega)); have HM7 := Lib.hid (hb7.has HM.out (by omega)); have HR7 := Lib.hid (HR.out.but hb7 HRg.out); have HB7 := Lib.hid (HB.out.trans (hb7.below (by omega) HB.out.size)); clear hK7 hb7))
          rename_i K15 hK15 K13 hK13
          have HNext15 : Hid (∀ (s6 s14 s15 s16 s17 s18 s19 s43 s44 s45 s46 s47 s48 s49 s50 s51 s52 s53 s54 s55 s56 s57 s58 s59 s60 s61 s62 s63 s64 s65 s66 s67 s68 s69 s70 s71 s72 s73 s74 s75 s76 s77 s78 s79 s80 s81 s82 s83 s84 s85 s86 s87 s88 s89 s90 s91 s92 s93 s94 s95 s96 s97 s98 s99 s100 s101 s102 s103 s104 s105 s106 : Value) (n t1 : Nat) (U : World), at1 + n ≤ i → KitT U g2 (g2 + 1) P t1 → ((i - (at1 + n)) * N + rem t1 < (i - at1) * N + rem t0 ∧ t1 + 2 * ((i - (at1 + n)) * N + rem t1) ≤ 2 * (302 * N)) → Has U gT 33 (stOf (bl.take at1) (.slice ra (restOf (bl.take at1)).length rc)) → PartOk U ra rc (restOf (bl.take at1)) → Has U gB 5 (bl.map BV).toArray → Below w.heap.size w U → K15 ⟨#[.slice a ns.length c, .slice a' n2 c', .int .u16 (many : Int), undef, undef, undef, s6, .pointer (some ⟨g, 0, none⟩), .slice (some ⟨gB, 0, none⟩) i i, u9, .pointer (some ⟨g2, 0, none⟩), .pointer (some ⟨gT, 0, none⟩), .int .i64 (at1 : Int), .int .i64 (n : Int), s14, s15, s16, s17, s18, s19, undef, undef, .slice a ns.length c, .pointer (some ⟨g, 0, none⟩), .int .u16 (many : Int), .int .i64 (many : Int), .int .i64 (i : Int), .slice (some ⟨gB, 0, none⟩) i i, .slice (some ⟨gB, 0, none⟩) i i, .int .i64 (i : Int), .int .i64 (i : Int), .bool false, u32, u33, u34, u35, u36, u37, u38, u39, .slice a' n2 c', .pointer (some ⟨g2, 0, none⟩), .agg (stOf [] (.slice none 0 0)), s43, s44, s45, s46, s47, s48, s49, s50, s51, s52, s53, s54, s55, s56, s57, s58, s59, s60, s61, s62, s63, s64, s65, s66, s67, s68, s69, s70, s71, s72, s73, s74, s75, s76, s77, s78, s79, s80, s81, s82, s83, s84, s85, s86, s87, s88, s89, s90, s91, s92, s93, s94, s95, s96, s97, s98, s99, s100, s101, s102, s103, s104, s105, s106, undef, undef, undef, undef, undef, undef, undef, undef, undef, undef, undef, undef, undef, undef, undef, undef, undef, undef, undef, undef, undef, undef, undef], []⟩ U) := Lib.hid fun s6 s14 s15 s16 s17 s18 s19 s43 s44 s45 s46 s47 s48 s49 s50 s51 s52 s53 s54 s55 s56 s57 s58 s59 s60 s61 s62 s63 s64 s65 s66 s67 s68 s69 s70 s71 s72 s73 s74 s75 s76 s77 s78 s79 s80 s81 s82 s83 s84 s85 s86 s87 s88 s89 s90 s91 s92 s93 s94 s95 s96 s97 s98 s99 s100 s101 s102 s103 s104 s105 s106 n t1 U hni hK hfit hT hR hM hB => by
            apply hK15
            obtain ⟨D, hD⟩ : ∃ D, D = bl.take at1 := ⟨_, rfl⟩
            obtain ⟨E, hE⟩ : ∃ E, E = (bl.drop at1).take n := ⟨_, rfl⟩
            obtain ⟨D2, hD2⟩ : ∃ D2, D2 = bl.take (at1 + n) := ⟨_, rfl⟩
            have hDE : D ++ E = D2 := by rw [hD, hE, hD2, List.take_add]
            have hDl : D.length = at1 := by rw [hD, List.length_take, HBl.out]; omega
            have hEl : E.length = n := by rw [hE, List.length_take, List.length_drop, HBl.out]; omega
            have hDb : Sha.Bytes D := by rw [hD]; exact bytes_take HBy.out _
            have hEb : Sha.Bytes E := by rw [hE]; exact bytes_take (bytes_drop HBy.out _) _
            have hEg : ∀ k, k < n → E.getD k 0 = bl.getD (at1 + k) 0 := fun k hk => by rw [hE, List.getD_eq_getElem?_getD, List.getD_eq_getElem?_getD, List.getElem?_take_of_lt hk, List.getElem?_drop]
            rw [← hD] at hT hR
            have hcapE : CapOk (some ⟨gB, at1, none⟩) E.length (i - at1) := fun _ _ _ => ⟨by omega, by unfold maxLen; omega⟩
            have hMlt := hM.lt
            have hPE : ∀ V, Below U.heap.size U V → PartOk V (some ⟨gB, at1, none⟩) (i - at1) E := fun V hV => .inr ⟨gB, at1, rfl, Nat.lt_of_lt_of_le hMlt hV.size, fun k hk => by
              rw [hEl] at hk
              rw [hV.cell hMlt, hM.cell, map_cell bl (at1 + k) (by rw [HBl.out]; omega), hEg k hk]⟩
            have HWr : Hid (∀ V, Below U.heap.size U V → Calls Tryd.prog 20 #[.agg (stOf D (.slice ra (restOf D).length rc)), .slice (some ⟨gB, at1, none⟩) n (i - at1)] V fun x w' => ∃ a5 c5, x = .returned (.tuple #[.agg (stOf D2 (.slice a5 (restOf D2).length c5)), .int .i64 0]) ∧ PartOk w' a5 c5 (restOf D2) ∧ (∀ g, a5 = some g → V.heap.size ≤ g.block) ∧ Below V.heap.size V w') := Lib.hid fun V hV => by
              have h := write_more D E hDb hEb (by omega) V ra (some ⟨gB, at1, none⟩) rc (i - at1) (hR.below hV) (hPE V hV) hcapE (HCw.out V (hB.trans (hV.mono hB.size)))
              rw [hDE, hEl] at h
              exact h
            have HIs := Lib.hid fun (r : Value) => stOf_info D r
            have HI2 := Lib.hid fun (r : Value) => stOf_info D2 r
            have HZ2 : Hid (∀ r : Value, zeroState.size = (stOf D2 r).size) := Lib.hid fun r => by rw [stOf_size]; rfl
            have H12 : Hid (∀ (x : Option Addr) (y z : Nat), (stOf D2 (.slice x y z)).all (·.oneCell') = true) := Lib.hid fun x y z => stOf_one _ _ rfl
            have HKU := Lib.hid hK
            have HFit := Lib.hid hfit
            have HTU := Lib.hid hT
            have HRU := Lib.hid hR
            have HMU := Lib.hid hM
            have HBU := Lib.hid hB
            have HDb := Lib.hid hDb
            have HD2e := Lib.hid hD2
            have HDe := Lib.hid hD
            have HDl := Lib.hid hDl
            have hTlt := hT.lt
            have hat2 : at1 + n - at1 = n := by omega
            have hwan : IntKind.i64.wrap ((at1 : Int) + (n : Int)) = (at1 : Int) + (n : Int) := IntWalk.i64_in _ (by omega)
            have han0 : (0 : Int) ≤ (at1 : Int) + (n : Int) := by omega
            have han1 : (at1 : Int) + (n : Int) ≤ (i : Int) := by omega
            have han2 : ((at1 : Int) + (n : Int)).toNat = at1 + n := by omega
            have hne1 : ¬ i = at1 := by omega
            clear hK hfit hT hR hM hB hD hE hD2 hDE hDl hEl hDb hEb hEg hcapE hPE HK7 HT7 HM7 HR7 HB7 HBd HR0 hK15 hK13
            go_upto_region 15 with (fail)
            rename_i K16 hK16
            have HNext16 : Hid (∀ (s6 s16 s17 s18 s19 s43 s44 s45 s46 s47 s48 s49 s50 s51 s52 s53 s54 s55 s56 s57 s58 s59 s60 s61 s62 s63 s64 s65 s66 s67 s68 s69 s70 s71 s72 s73 s74 s75 s76 s77 s78 s79 s80 s81 s82 s83 s84 s85 s86 s87 s88 s89 s90 s91 s92 s93 s94 s95 s96 s97 s98 s99 s100 s101 s102 s103 s104 s105 s106 : Value) (gU : Nat) (a5 : Option Addr) (c5 : Nat) (V : World), Below U.heap.size U V → Has V gU 33 (stOf D2 (.slice a5 (restOf D2).length c5)) → PartOk V a5 c5 (restOf D2) → U.heap.size ≤ gU → (∀ g, a5 = some g → U.heap.size ≤ g.block ∧ g.block ≠ gU) → K16 ⟨#[.slice a ns.length c, .slice a' n2 c', .int .u16 (many : Int), undef, undef, undef, s6, .pointer (some ⟨g, 0, none⟩), .slice (some ⟨gB, 0, none⟩) i i, u9, .pointer (some ⟨g2, 0, none⟩), .pointer (some ⟨gT, 0, none⟩), .int .i64 (at1 : Int), .int .i64 (n : Int), .pointer (some ⟨gU, 0, none⟩), .int .i64 0, s16, s17, s18, s19, undef, undef, .slice a ns.length c, .pointer (some ⟨g, 0, none⟩), .int .u16 (many : Int), .int .i64 (many : Int), .int .i64 (i : Int), .slice (some ⟨gB, 0, none⟩) i i, .slice (some ⟨gB, 0, none⟩) i i, .int .i64 (i : Int), .int .i64 (i : Int), .bool false, u32, u33, u34, u35, u36, u37, u38, u39, .slice a' n2 c', .pointer (some ⟨g2, 0, none⟩), .agg (stOf [] (.slice none 0 0)), s43, s44, s45, s46, s47, s48, s49, s50, s51, s52, s53, s54, s55, s56, s57, s58, s59, s60, s61, s62, s63, s64, s65, s66, s67, s68, s69, s70, s71, s72, s73, s74, s75, s76, s77, s78, s79, s80, s81, s82, s83, s84, s85, s86, s87, s88, s89, s90, s91, s92, s93, s94, s95, s96, s97, s98, s99, s100, s101, s102, s103, s104, s105, s106, undef, undef, undef, undef, undef, undef, undef, undef, undef, undef, undef, undef, undef, undef, undef, undef, undef, undef, undef, undef, undef, undef, undef], []⟩ V) := Lib.hid fun s6 s16 s17 s18 s19 s43 s44 s45 s46 s47 s48 s49 s50 s51 s52 s53 s54 s55 s56 s57 s58 s59 s60 s61 s62 s63 s64 s65 s66 s67 s68 s69 s70 s71 s72 s73 s74 s75 s76 s77 s78 s79 s80 s81 s82 s83 s84 s85 s86 s87 s88 s89 s90 s91 s92 s93 s94 s95 s96 s97 s98 s99 s100 s101 s102 s103 s104 s105 s106 gU a5 c5 V hBV hU hR2 hgU ha5 => by
              apply hK16
              obtain ⟨D3, hD3⟩ : ∃ D3, D3 = D ++ [9] := ⟨_, rfl⟩
              obtain ⟨X, hX⟩ : ∃ X, X = Sha.sha D3 := ⟨_, rfl⟩
              have hX32 : X.length = 32 := by rw [hX]; exact (sha_bytes _).1
              have h9 : Sha.Bytes [9] := fun x hx => by rw [List.mem_singleton.1 hx]; decide
              have hD3b : Sha.Bytes D3 := by
                rw [hD3]
                exact fun x hx => (List.mem_append.1 hx).elim (HDb.out x) (h9 x)
              have hD3l : D3.length = at1 + 1 := by rw [hD3, List.length_append, HDl.out]; rfl
              have hUV : U.heap.size ≤ V.heap.size := hBV.size
              have HTV := Lib.hid (HTU.out.below hBV hTlt)
              have HMV := Lib.hid (HMU.out.below hBV HMU.out.lt)
              have HRV := Lib.hid (HRU.out.below hBV)
              have hTltV := HTV.out.lt
              have hMltV := HMV.out.lt
              have HCV : Hid (∀ W, Below V.heap.size V W → ConstAt W) := Lib.hid fun W hW => HCw.out W (HBU.out.trans ((hBV.trans (hW.mono hUV)).mono HBU.out.size))
              have HW9 : Hid (∀ W, Below V.heap.size V W → Calls Tryd.prog 20 #[.agg (stOf D (.slice ra (restOf D).length rc)), .slice (some ⟨W.heap.size, 0, none⟩) 1 1] (W.alloc (.cells #[.int .u8 9] 5)) fun x w' => ∃ a6 c6, x = .returned (.tuple #[.agg (stOf D3 (.slice a6 (restOf D3).length c6)), .int .i64 0]) ∧ PartOk w' a6 c6 (restOf D3) ∧ Below V.heap.size V w') := Lib.hid fun W hW => by
                have hA : Below V.heap.size V (W.alloc (.cells #[.int .u8 9] 5)) := hW.alloc hW.size _
                have h := write_more D [9] HDb.out h9 (by rw [HDl.out]; show at1 + 1 ≤ 100000; omega) (W.alloc (.cells #[.int .u8 9] 5)) ra (some ⟨W.heap.size, 0, none⟩) rc 1 (HRV.out.below hA) (part_mark W _ _ [9]) (fun _ _ _ => ⟨Nat.le_refl _, by unfold maxLen; omega⟩) (HCV.out _ hA)
                rw [← hD3] at h
                refine h.mono ?_
                rintro x w' ⟨a6, c6, rfl, hp, _, hb⟩
                exact ⟨a6, c6, rfl, hp, hA.trans (hb.mono hA.size)⟩
              have HDn : Hid (∀ (a6 : Option Addr) (c6 : Nat) (W : World), PartOk W a6 c6 (restOf D3) → Below V.heap.size V W → Calls Tryd.prog 22 #[.agg (stOf D3 (.slice a6 (restOf D3).length c6))] W fun x w' => x = .returned (.tuple #[.agg (arr32 X), .int .i64 0]) ∧ Below W.heap.size W w') := Lib.hid fun a6 c6 W hW hb => done_more D3 hD3b (by omega) W a6 c6 hW (HCV.out W hb) X (Lib.hid hX)
              have HZ3 : Hid (∀ r : Value, zeroState.size = (stOf D3 r).size) := Lib.hid fun r => by rw [stOf_size]; rfl
              have HI3 := Lib.hid fun (r : Value) => stOf_info D3 r
              have H13 : Hid (∀ (x : Option Addr) (y z : Nat), (stOf D3 (.slice x y z)).all (·.oneCell') = true) := Lib.hid fun x y z => stOf_one _ _ rfl
              have HIX := Lib.hid (arr32_info X (by omega))
              have HSX := Lib.hid (zero32_size X (by omega))
              have HF0 : Hid (∀ W : World, Has (W.alloc (.cells zeroState 33)) W.heap.size 33 zeroState) := Lib.hid fun W => Has.fresh _ _ _
              have HF1 : Hid (∀ W : World, Has (W.alloc (.cells zero32 26)) W.heap.size 26 zero32) := Lib.hid fun W => fresh_sum W
              have HPB : Hid (∀ W, Below V.heap.size V W → Calls Tryd.prog 16 #[.slice (some ⟨gB, 0, none⟩) at1 i] W fun x w' => ∃ a7 c7, x = .returned (.slice a7 at1 c7) ∧ w'.ownsRow W.heap.size 5 1 (.slice a7 at1 c7) at1 (D.map BV) ∧ Below W.heap.size W w') := Lib.hid fun W hW => by
                have hp : PartOk W (some ⟨gB, 0, none⟩) i D := .inr ⟨gB, 0, rfl, Nat.lt_of_lt_of_le hMltV hW.size, fun k hk => by
                  rw [HDl.out] at hk
                  rw [Nat.zero_add, hW.cell hMltV, HMV.out.cell, map_cell bl k (by rw [HBl.out]; omega), HDe.out, List.getD_eq_getElem?_getD, List.getD_eq_getElem?_getD, List.getElem?_take_of_lt hk]⟩
                have h := clone_part hp (by rw [HDl.out]; omega)
                rw [HDl.out] at h
                exact h
              have HOfX : Hid (∀ (a8 : Option Addr) (c8 : Nat) (W : World), W.ownsRow V.heap.size 5 1 (.slice a8 (at1 + 1) c8) (at1 + 1) (D3.map BV) → Below V.heap.size V W → Calls Tryd.prog 17 #[.slice a8 (at1 + 1) c8] W fun x w' => x = .returned (.agg (arr32 X)) ∧ Below W.heap.size W w') := Lib.hid fun a8 c8 W ho hb => (of_own D3 (at1 + 1) hD3l.symm hD3b (by omega) ho (HCV.out W hb) X (Lib.hid hX)).mono fun x w' h => ⟨h.1, h.2.2⟩
              have HNX : Hid (∀ W : World, (binOp .neq 26 (.agg (arr32 X)) (.agg (arr32 X))).run Tryd.prog W = .ok (.bool false) W) := Lib.hid fun W => by
                have := sum_neq X X hX32 hX32 W
                rwa [decide_eq_true rfl] at this
              have HD3e := Lib.hid hD3
              have HUV := Lib.hid hU
              have HR5 := Lib.hid hR2
              have HBV := Lib.hid hBV
              have HA5 := Lib.hid ha5
              obtain ⟨i8, hi8, hz80, hz81, hz82⟩ := info_parts info8
              clear hBV hU hR2 ha5 hK16 hD3 hX h9 hD3b han2 hne1
              have HBV0 := Lib.hid (Below.refl V.heap.size V)
              go_upto_region 17 with (first
                | ((with_reducible refine arm_load ⟨gT, 0, none⟩ (stOf D (.slice ra (restOf D).length rc)) _ HTV.out.row Tryd.underlying33 (HIs.out _) ?h1 ?h2 ?_); (case h1 => rfl); (case h2 => rfl))
                | (go_at_call 20; (with_reducible refine (HW9.out V HBV0.out).mono ?_); rintro e u1 ⟨a6, c6, rfl, hp6, hb6⟩; have HB6 := Lib.hid hb6; have HP6 := Lib.hid hp6; have HF := Lib.hid (HF0.out u1); clear hb6 hp6)
                | ((with_reducible refine arm_store u1.heap.size (stOf D3 (.slice a6 (restOf D3).length c6)) 33 zeroState HF.out (HZ3.out _) (HI3.out _) (H13.out _ _ _) ?h5 ?h6 ?_); (case h5 => rfl); (case h6 => rfl)))
              refine gen_world (P := fun W => Code.wp _ _ _ _ W) (I := fun W => Below V.heap.size V W ∧ Has W u1.heap.size 33 (stOf D3 (.slice a6 (restOf D3).length c6)) ∧ PartOk W a6 c6 (restOf D3)) _ ⟨below_setRow (HB6.out.alloc HB6.out.size _) HB6.out.size _, HF.out.setRow, (HP6.out.alloc _).setRow (fun g hg => Nat.ne_of_lt (part_lt HP6.out g hg)) _⟩ ?_
              rintro V1 ⟨hB, hS, hP⟩
              generalize u1.heap.size = gV at *
              have HB1 := Lib.hid hB
              have HS1 := Lib.hid hS
              have HP1 := Lib.hid hP
              clear hB hS hP HF HB6 HP6
              go_upto_region 18 with (first
                | ((with_reducible refine arm_load ⟨gV, 0, none⟩ (stOf D3 (.slice a6 (restOf D3).length c6)) _ HS1.out.row Tryd.underlying33 (HI3.out _) ?h1 ?h2 ?_); (case h1 => rfl); (case h2 => rfl))
                | (go_at_call 22; (with_reducible refine (HDn.out a6 c6 V1 HP1.out HB1.out).mono ?_); rintro e u2 ⟨rfl, hb7⟩; have HB7 := Lib.hid (HB1.out.trans (hb7.mono HB1.out.size)); have HF := Lib.hid (HF1.out u2); clear hb7)
                | ((with_reducible refine arm_store u2.heap.size (arr32 X) 26 zero32 HF.out HSX.out HIX.out (arr32_one _) ?h5 ?h6 ?_); (case h5 => rfl); (case h6 => rfl)))
              refine gen_world (P := fun W => Code.wp _ _ _ _ W) (I := fun W => Below V.heap.size V W ∧ Has W u2.heap.size 26 (arr32 X)) _ ⟨below_setRow (HB7.out.alloc HB7.out.size _) HB7.out.size _, HF.out.setRow⟩ ?_
              rintro V2 ⟨hB, hS⟩
              generalize u2.heap.size = gX at *
              have HB2 := Lib.hid hB
              have HS2 := Lib.hid hS
              have hgX := hS.lt
              clear hB hS HF HB7 HB1 HS1 HP1
              have hle : (at1 : Int) ≤ (i : Int) := by omega
              have hone9 : ∀ u ∈ [9].map BV, u.oneCell' = true := fun u hu => by rw [List.mem_singleton.1 hu]; rfl
              change Code.wp _ (Code.region 18 (jnOps 18) true) _ _ _
              refine wp_region_held (S := fun W => Below V.heap.size V W ∧ Has W gX 26 (arr32 X)) (by kernel_rfl) ?_
              have hsz : (jnOps 18).size = 21 := by kernel_rfl
              rw [hsz]
              clear hsz
              refine gen_world (P := fun W' => wpAnyH _ _ _ _ _ _ _ _ W') (I := fun W => Below V.heap.size V W ∧ Has W gX 26 (arr32 X)) _ ⟨HB2.out.drew, HS2.out.drew⟩ ?_
              rintro z0 ⟨hB, hS⟩
              have HBz := Lib.hid hB
              have HSz := Lib.hid hS
              clear hB hS HB2 HS2
              refine wpAnyH_take (i := 0) (oi := ⟨some 82, _, _, _, _, _⟩) (v := .int .i64 0) rfl (by kernel_rfl) (by kernel_rfl) (by kernel_rfl) (fun _ _ _ h => h) (Or.inl ⟨by rfl, fun w' hw' => by go_simp⟩) ⟨HBz.out, HSz.out⟩ ?_
              try simp only [Act.put, List.setIfInBounds_toArray, List.set_cons_succ, List.set_cons_zero]
              refine wpAnyH_take (i := 1) (oi := ⟨some 83, _, _, _, _, _⟩) (v := .bool false) rfl (by kernel_rfl) (by kernel_rfl) (by kernel_rfl) (fun _ _ _ h => h) (Or.inl ⟨by rfl, fun w' hw' => by go_simp⟩) ⟨HBz.out, HSz.out⟩ ?_
              try simp only [Act.put, List.setIfInBounds_toArray, List.set_cons_succ, List.set_cons_zero]
              refine wpAnyH_take (i := 2) (oi := ⟨some 84, _, _, _, _, _⟩) (v := .bool false) rfl (by kernel_rfl) (by kernel_rfl) (by kernel_rfl) (fun _ _ _ h => h) (Or.inl ⟨by rfl, fun w' hw' => by go_simp⟩) ⟨HBz.out, HSz.out⟩ ?_
              try simp only [Act.put, List.setIfInBounds_toArray, List.set_cons_succ, List.set_cons_zero]
              refine wpAnyH_take (i := 3) (oi := ⟨some 85, _, _, _, _, _⟩) (v := .int .i64 0) rfl (by kernel_rfl) (by kernel_rfl) (by kernel_rfl) (fun _ _ _ h => h) (Or.inl ⟨by rfl, fun w' hw' => by go_simp⟩) ⟨HBz.out, HSz.out⟩ ?_
              try simp only [Act.put, List.setIfInBounds_toArray, List.set_cons_succ, List.set_cons_zero]
              refine wpAnyH_take (i := 4) (oi := ⟨some 86, _, _, _, _, _⟩) (v := .bool false) rfl (by kernel_rfl) (by kernel_rfl) (by kernel_rfl) (fun _ _ _ h => h) (Or.inl ⟨by rfl, fun w' hw' => by go_simp⟩) ⟨HBz.out, HSz.out⟩ ?_
              try simp only [Act.put, List.setIfInBounds_toArray, List.set_cons_succ, List.set_cons_zero]
              refine wpAnyH_take (i := 5) (oi := ⟨some 87, _, _, _, _, _⟩) (v := .bool false) rfl (by kernel_rfl) (by kernel_rfl) (by kernel_rfl) (fun _ _ _ h => h) (Or.inl ⟨by rfl, fun w' hw' => by go_simp⟩) ⟨HBz.out, HSz.out⟩ ?_
              try simp only [Act.put, List.setIfInBounds_toArray, List.set_cons_succ, List.set_cons_zero]
              refine wpAnyH_take (i := 6) (oi := ⟨some 88, _, _, _, _, _⟩) (v := .bool false) rfl (by kernel_rfl) (by kernel_rfl) (by kernel_rfl) (fun _ _ _ h => h) (Or.inl ⟨by rfl, fun w' hw' => by go_simp⟩) ⟨HBz.out, HSz.out⟩ ?_
              try simp only [Act.put, List.setIfInBounds_toArray, List.set_cons_succ, List.set_cons_zero]
              refine wpAnyH_take (i := 7) (oi := ⟨some 89, _, _, _, _, _⟩) (v := .int .i64 0) rfl (by kernel_rfl) (by kernel_rfl) (by kernel_rfl) (fun _ _ _ h => h) (Or.inl ⟨by rfl, fun w' hw' => by go_simp⟩) ⟨HBz.out, HSz.out⟩ ?_
              try simp only [Act.put, List.setIfInBounds_toArray, List.set_cons_succ, List.set_cons_zero]
              refine wpAnyH_take (i := 8) (oi := ⟨some 90, _, _, _, _, _⟩) (v := .bool false) rfl (by kernel_rfl) (by kernel_rfl) (by kernel_rfl) (fun _ _ _ h => h) (Or.inl ⟨by rfl, fun w' hw' => by go_simp⟩) ⟨HBz.out, HSz.out⟩ ?_
              try simp only [Act.put, List.setIfInBounds_toArray, List.set_cons_succ, List.set_cons_zero]
              refine wpAnyH_take (i := 9) (oi := ⟨some 91, _, _, _, _, _⟩) (v := .bool false) rfl (by kernel_rfl) (by kernel_rfl) (by kernel_rfl) (fun _ _ _ h => h) (Or.inl ⟨by rfl, fun w' hw' => by go_simp⟩) ⟨HBz.out, HSz.out⟩ ?_
              try simp only [Act.put, List.setIfInBounds_toArray, List.set_cons_succ, List.set_cons_zero]
              refine wpAnyH_take (i := 10) (oi := ⟨some 92, _, _, _, _, _⟩) (v := .bool false) rfl (by kernel_rfl) (by kernel_rfl) (by kernel_rfl) (fun _ _ _ h => h) (Or.inl ⟨by rfl, fun w' hw' => by go_simp⟩) ⟨HBz.out, HSz.out⟩ ?_
              try simp only [Act.put, List.setIfInBounds_toArray, List.set_cons_succ, List.set_cons_zero]
              refine wpAnyH_take (i := 11) (oi := ⟨some 93, _, _, _, _, some _⟩) (v := .agg (arr32 X)) rfl (by kernel_rfl) (by kernel_rfl) (by kernel_rfl) (fun _ _ _ h => h) (yieldsIf_load_g ⟨gX, 0, none⟩ _ _ (fun w hw => hw.2.row) Tryd.underlying26 HIX.out rfl rfl rfl) ⟨HBz.out, HSz.out⟩ ?_
              try simp only [Act.put, List.setIfInBounds_toArray, List.set_cons_succ, List.set_cons_zero]
              refine wpAnyH_take (i := 12) (oi := ⟨some 94, _, _, _, _, _⟩) (v := .slice (some ⟨gB, 0, none⟩) i i) rfl (by kernel_rfl) (by kernel_rfl) (by kernel_rfl) (fun _ _ _ h => h) (Or.inl ⟨by rfl, fun w' hw' => by go_simp⟩) ⟨HBz.out, HSz.out⟩ ?_
              try simp only [Act.put, List.setIfInBounds_toArray, List.set_cons_succ, List.set_cons_zero]
              refine wpAnyH_take (i := 13) (oi := ⟨some 95, _, _, _, _, _⟩) (v := .int .i64 (at1 : Int)) rfl (by kernel_rfl) (by kernel_rfl) (by kernel_rfl) (fun _ _ _ h => h) (Or.inl ⟨by rfl, fun w' hw' => by go_simp⟩) ⟨HBz.out, HSz.out⟩ ?_
              try simp only [Act.put, List.setIfInBounds_toArray, List.set_cons_succ, List.set_cons_zero]
              refine wpAnyH_take (i := 14) (oi := ⟨some 96, _, _, _, _, _⟩) (v := .slice (some ⟨gB, 0, none⟩) at1 i) rfl (by kernel_rfl) (by kernel_rfl) (by kernel_rfl) (fun _ _ _ h => h) (Or.inl ⟨by rfl, fun w' hw' => by go_simp⟩) ⟨HBz.out, HSz.out⟩ ?_
              try simp only [Act.put, List.setIfInBounds_toArray, List.set_cons_succ, List.set_cons_zero]
              refine wpAnyH_all (rs := [15, 16]) (by kernel_rfl) (by simp) ?_
              intro jj hi
              have hii : jj = 15 ∨ jj = 16 := by simpa using hi
              clear hi
              rcases hii with rfl | rfl
              · refine wpOp_step (o := ⟨some 97, _, _, _, _, _⟩) rfl (fun K' hK' => ?_)
                rw [if_pos (show Region.wanted _ _ = true from rfl)]
                go_simp
                (with_reducible refine (HPB.out z0 HBz.out).mono ?_)
                rintro e z1 ⟨a7, c7, rfl, ho, hb⟩
                refine hK' _ _ ⟨⟨HBz.out.trans (hb.mono HBz.out.size), HSz.out.below hb HSz.out.lt⟩, ?_⟩
                clear hK' K'
                try simp only [Act.put, List.setIfInBounds_toArray, List.set_cons_succ, List.set_cons_zero]
                have HBa := Lib.hid (HBz.out.trans (hb.mono HBz.out.size))
                have HSa := Lib.hid (HSz.out.below hb HSz.out.lt)
                have HOa := Lib.hid (own_low ho HBz.out.size)
                have HXb : Hid (∀ r, (Value.slice a7 at1 c7).ownBlock = some r → r ≠ gX) := Lib.hid fun r hr => by
                  have h1 := (ho.lt r hr).1
                  have h2 := HSz.out.lt
                  omega
                clear ho hb
                refine wpAnyH_all (rs := [16]) (by kernel_rfl) (by simp) ?_
                intro jj hi
                obtain rfl : jj = 16 := by simpa using hi
                clear hi
                refine wpOp_step (o := ⟨some 98, _, _, _, _, _⟩) rfl (fun K' hK' => ?_)
                rw [if_pos (show Region.wanted _ _ = true from rfl)]
                go_simp
                refine hK' _ _ ⟨⟨HBa.out.alloc HBa.out.size _, HSa.out.alloc _⟩, ?_⟩
                clear hK' K'
                try simp only [Act.put, List.setIfInBounds_toArray, List.set_cons_succ, List.set_cons_zero]
                refine gen_world (P := fun W' => wpAnyH _ _ _ _ _ _ _ _ W') (I := fun W => Below V.heap.size V W ∧ Has W gX 26 (arr32 X) ∧ W.ownsRow V.heap.size 5 1 (.slice a7 at1 c7) at1 (D.map BV) ∧ Has W z1.heap.size 5 #[.int .u8 9]) _ ⟨HBa.out.alloc HBa.out.size _, HSa.out.alloc _, HOa.out.alloc _, Has.fresh _ _ _⟩ ?_
                rintro z2 ⟨hB, hS, hO, hQ⟩
                have HBb := Lib.hid hB
                have HSb := Lib.hid hS
                have HOb := Lib.hid hO
                have HQb := Lib.hid hQ
                clear hB hS hO hQ HBa HSa HOa
                refine wpAnyH_all (rs := [17]) (by kernel_rfl) (by simp) ?_
                intro jj hi
                obtain rfl : jj = 17 := by simpa using hi
                clear hi
                refine wpOp_step (o := ⟨some 99, _, _, _, _, _⟩) rfl (fun K' hK' => ?_)
                rw [if_pos (show Region.wanted _ _ = true from rfl)]
                refine wp_append_own _ _ _ 22 rfl V.heap.size 5 i8 (.int .u8 0) 1 1 Tryd.underlying22 hi8 hz80 hz81 hz82 rfl (by decide) _ _ _ rfl HOb.out ⟨z1.heap.size, 0, none⟩ 1 1 ([9].map BV) rfl rfl (fun j u hj => HQb.out.row j u (arr_nine j u hj)) hone9 (by unfold maxLen; omega) (by omega) HBb.out.size (fun v' z3 hown hgrow _ => ?_)
                have hown2 := own_cast (ys := D3.map BV) hown rfl (by rw [HD3e.out, List.map_append])
                have hB3 : Below V.heap.size V z3 := HBb.out.grown hgrow HBb.out.size (fun r hr => (HOb.out.lt r hr).1)
                have hS3 : Has z3 gX 26 (arr32 X) := HSb.out.grown hgrow (fun h => HXb.out gX h.symm rfl)
                obtain ⟨a8, c8, rfl, _, _⟩ := own_shape hown2
                refine hK' _ _ ⟨⟨hB3, hS3⟩, ?_⟩
                clear hK' K'
                try simp only [Act.put, List.setIfInBounds_toArray, List.set_cons_succ, List.set_cons_zero]
                have HBq := Lib.hid hB3
                have HSq := Lib.hid hS3
                have HOq := Lib.hid hown2
                clear hown hown2 hgrow hB3 hS3
                refine wpAnyH_all (rs := [18]) (by kernel_rfl) (by simp) ?_
                intro jj hi
                obtain rfl : jj = 18 := by simpa using hi
                clear hi
                refine wpOp_step (o := ⟨some 100, _, _, _, _, _⟩) rfl (fun K' hK' => ?_)
                rw [if_pos (show Region.wanted _ _ = true from rfl)]
                go_simp
                (with_reducible refine (HOfX.out a8 c8 z3 HOq.out HBq.out).mono ?_)
                rintro e z4 ⟨rfl, hb⟩
                refine hK' _ _ ⟨⟨HBq.out.trans (hb.mono HBq.out.size), HSq.out.below hb HSq.out.lt⟩, ?_⟩
                clear hK' K'
                try simp only [Act.put, List.setIfInBounds_toArray, List.set_cons_succ, List.set_cons_zero]
                have HB4 := Lib.hid (HBq.out.trans (hb.mono HBq.out.size))
                have HS4 := Lib.hid (HSq.out.below hb HSq.out.lt)
                clear hb HBq HSq HOq
                have hneq := HNX.out
                have hgd := sum_guard
                refine wpAnyH_take (i := 19) (oi := ⟨some 101, _, _, _, _, _⟩) (v := .bool false) rfl (by kernel_rfl) (by kernel_rfl) (by kernel_rfl) (fun _ _ _ h => h) (Or.inl ⟨by rfl, fun w' hw' => by go_simp⟩) ⟨HB4.out, HS4.out⟩ ?_
                try simp only [Act.put, List.setIfInBounds_toArray, List.set_cons_succ, List.set_cons_zero]
                clear hneq hgd
                refine wpAnyH_take (i := 20) (oi := ⟨some 102, _, _, _, _, _⟩) (v := .bool false) rfl (by kernel_rfl) (by kernel_rfl) (by kernel_rfl) (fun _ _ _ h => h) (Or.inl ⟨by rfl, fun w' hw' => by go_simp⟩) ⟨HB4.out, HS4.out⟩ ?_
                try simp only [Act.put, List.setIfInBounds_toArray, List.set_cons_succ, List.set_cons_zero]
                refine wpAnyH_done (by kernel_rfl) ?_ _
                have hgUl : gU < V.heap.size := HUV.out.lt
                have HT4 := Lib.hid (HTV.out.below HB4.out hTltV)
                have HU4 := Lib.hid (HUV.out.below HB4.out hgUl)
                have HZZ : Hid ((stOf D (.slice ra (restOf D).length rc)).size = (stOf D2 (.slice a5 (restOf D2).length c5)).size) := Lib.hid (by rw [stOf_size, stOf_size])
                go_wp2_with (first
                  | ((with_reducible refine arm_load ⟨gU, 0, none⟩ (stOf D2 (.slice a5 (restOf D2).length c5)) _ HU4.out.row Tryd.underlying33 (HI2.out _) ?h1 ?h2 ?_); (case h1 => rfl); (case h2 => rfl))
                  | ((with_reducible refine arm_store gT (stOf D2 (.slice a5 (restOf D2).length c5)) 33 (stOf D (.slice ra (restOf D).length rc)) HT4.out HZZ.out (HI2.out _) (H12.out _ _ _) ?h5 ?h6 ?_); (case h5 => rfl); (case h6 => rfl)))
                have hgU2 : g2 + 1 ≤ U.heap.size := HKU.out.lt
                have hbz : Below (g2 + 1) U (z4.setRow gT (stOf D2 (.slice a5 (restOf D2).length c5))) := below_setRow ((HBV.out.trans (HB4.out.mono HBV.out.size)).mono hgU2) hg2l _
                have hKz := HKU.out.below hbz
                have hmu : FitOf P rem g2 N i (at1 + n) (z4.setRow gT (stOf D2 (.slice a5 (restOf D2).length c5))) ((i - (at1 + n)) * N + rem t1) := ⟨t1, hKz, HFit.out.2, rfl⟩
                have hint2 : (intOf (.int .i64 ((at1 : Int) + (n : Int)))).toNat = at1 + n := by simp [intOf]; omega
                exact ⟨⟨at1 + n, a5, c5, by omega, by go_num, HD2e.out ▸ HT4.out.setRow, HD2e.out ▸ ((HR5.out.below HB4.out).setRow (fun x hx => by have h1 := (HA5.out x hx).1; omega) _), Lib.hid (fun x hx => by have h1 := (HA5.out x hx).1; exact ⟨by omega, by omega⟩), (HMV.out.below HB4.out hMltV).setRow_apart (Nat.ne_of_lt hgBT), ⟨_, hmu⟩, below_setRow (HBU.out.trans ((HBV.out.trans (HB4.out.mono HBV.out.size)).mono HBU.out.size)) hgwT _⟩, by rw [hint2, hint, HMu.out]; exact Nat.lt_of_le_of_lt (Joins.leastOf_spec hmu).2 HFit.out.1⟩
              · refine wpOp_step (o := ⟨some 98, _, _, _, _, _⟩) rfl (fun K' hK' => ?_)
                rw [if_pos (show Region.wanted _ _ = true from rfl)]
                go_simp
                refine hK' _ _ ⟨⟨HBz.out.alloc HBz.out.size _, HSz.out.alloc _⟩, ?_⟩
                clear hK' K'
                try simp only [Act.put, List.setIfInBounds_toArray, List.set_cons_succ, List.set_cons_zero]
                refine gen_world (P := fun W' => wpAnyH _ _ _ _ _ _ _ _ W') (I := fun W => Below V.heap.size V W ∧ Has W gX 26 (arr32 X) ∧ Has W z0.heap.size 5 #[.int .u8 9]) _ ⟨HBz.out.alloc HBz.out.size _, HSz.out.alloc _, Has.fresh _ _ _⟩ ?_
                rintro z1 ⟨hB, hS, hQ⟩
                have HBa := Lib.hid hB
                have HSa := Lib.hid hS
                have HQa := Lib.hid hQ
                clear hB hS hQ
                refine wpAnyH_all (rs := [15]) (by kernel_rfl) (by simp) ?_
                intro jj hi
                obtain rfl : jj = 15 := by simpa using hi
                clear hi
                refine wpOp_step (o := ⟨some 97, _, _, _, _, _⟩) rfl (fun K' hK' => ?_)
                rw [if_pos (show Region.wanted _ _ = true from rfl)]
                go_simp
                (with_reducible refine (HPB.out z1 HBa.out).mono ?_)
                rintro e z2 ⟨a7, c7, rfl, ho, hb⟩
                refine hK' _ _ ⟨⟨HBa.out.trans (hb.mono HBa.out.size), HSa.out.below hb HSa.out.lt⟩, ?_⟩
                clear hK' K'
                try simp only [Act.put, List.setIfInBounds_toArray, List.set_cons_succ, List.set_cons_zero]
                have HBb := Lib.hid (HBa.out.trans (hb.mono HBa.out.size))
                have HSb := Lib.hid (HSa.out.below hb HSa.out.lt)
                have HQb := Lib.hid (HQa.out.below hb HQa.out.lt)
                have HOb := Lib.hid (own_low ho HBa.out.size)
                have HXb : Hid (∀ r, (Value.slice a7 at1 c7).ownBlock = some r → r ≠ gX) := Lib.hid fun r hr => by
                  have h1 := (ho.lt r hr).1
                  have h2 := HSa.out.lt
                  omega
                clear ho hb HBa HSa HQa
                refine wpAnyH_all (rs := [17]) (by kernel_rfl) (by simp) ?_
                intro jj hi
                obtain rfl : jj = 17 := by simpa using hi
                clear hi
                refine wpOp_step (o := ⟨some 99, _, _, _, _, _⟩) rfl (fun K' hK' => ?_)
                rw [if_pos (show Region.wanted _ _ = true from rfl)]
                refine wp_append_own _ _ _ 22 rfl V.heap.size 5 i8 (.int .u8 0) 1 1 Tryd.underlying22 hi8 hz80 hz81 hz82 rfl (by decide) _ _ _ rfl HOb.out ⟨z0.heap.size, 0, none⟩ 1 1 ([9].map BV) rfl rfl (fun j u hj => HQb.out.row j u (arr_nine j u hj)) hone9 (by unfold maxLen; omega) (by omega) HBb.out.size (fun v' z3 hown hgrow _ => ?_)
                have hown2 := own_cast (ys := D3.map BV) hown rfl (by rw [HD3e.out, List.map_append])
                have hB3 : Below V.heap.size V z3 := HBb.out.grown hgrow HBb.out.size (fun r hr => (HOb.out.lt r hr).1)
                have hS3 : Has z3 gX 26 (arr32 X) := HSb.out.grown hgrow (fun h => HXb.out gX h.symm rfl)
                obtain ⟨a8, c8, rfl, _, _⟩ := own_shape hown2
                refine hK' _ _ ⟨⟨hB3, hS3⟩, ?_⟩
                clear hK' K'
                try simp only [Act.put, List.setIfInBounds_toArray, List.set_cons_succ, List.set_cons_zero]
                have HBq := Lib.hid hB3
                have HSq := Lib.hid hS3
                have HOq := Lib.hid hown2
                clear hown hown2 hgrow hB3 hS3
                refine wpAnyH_all (rs := [18]) (by kernel_rfl) (by simp) ?_
                intro jj hi
                obtain rfl : jj = 18 := by simpa using hi
                clear hi
                refine wpOp_step (o := ⟨some 100, _, _, _, _, _⟩) rfl (fun K' hK' => ?_)
                rw [if_pos (show Region.wanted _ _ = true from rfl)]
                go_simp
                (with_reducible refine (HOfX.out a8 c8 z3 HOq.out HBq.out).mono ?_)
                rintro e z4 ⟨rfl, hb⟩
                refine hK' _ _ ⟨⟨HBq.out.trans (hb.mono HBq.out.size), HSq.out.below hb HSq.out.lt⟩, ?_⟩
                clear hK' K'
                try simp only [Act.put, List.setIfInBounds_toArray, List.set_cons_succ, List.set_cons_zero]
                have HB4 := Lib.hid (HBq.out.trans (hb.mono HBq.out.size))
                have HS4 := Lib.hid (HSq.out.below hb HSq.out.lt)
                clear hb HBq HSq HOq
                have hneq := HNX.out
                have hgd := sum_guard
                refine wpAnyH_take (i := 19) (oi := ⟨some 101, _, _, _, _, _⟩) (v := .bool false) rfl (by kernel_rfl) (by kernel_rfl) (by kernel_rfl) (fun _ _ _ h => h) (Or.inl ⟨by rfl, fun w' hw' => by go_simp⟩) ⟨HB4.out, HS4.out⟩ ?_
                try simp only [Act.put, List.setIfInBounds_toArray, List.set_cons_succ, List.set_cons_zero]
                clear hneq hgd
                refine wpAnyH_take (i := 20) (oi := ⟨some 102, _, _, _, _, _⟩) (v := .bool false) rfl (by kernel_rfl) (by kernel_rfl) (by kernel_rfl) (fun _ _ _ h => h) (Or.inl ⟨by rfl, fun w' hw' => by go_simp⟩) ⟨HB4.out, HS4.out⟩ ?_
                try simp only [Act.put, List.setIfInBounds_toArray, List.set_cons_succ, List.set_cons_zero]
                refine wpAnyH_done (by kernel_rfl) ?_ _
                have hgUl : gU < V.heap.size := HUV.out.lt
                have HT4 := Lib.hid (HTV.out.below HB4.out hTltV)
                have HU4 := Lib.hid (HUV.out.below HB4.out hgUl)
                have HZZ : Hid ((stOf D (.slice ra (restOf D).length rc)).size = (stOf D2 (.slice a5 (restOf D2).length c5)).size) := Lib.hid (by rw [stOf_size, stOf_size])
                go_wp2_with (first
                  | ((with_reducible refine arm_load ⟨gU, 0, none⟩ (stOf D2 (.slice a5 (restOf D2).length c5)) _ HU4.out.row Tryd.underlying33 (HI2.out _) ?h1 ?h2 ?_); (case h1 => rfl); (case h2 => rfl))
                  | ((with_reducible refine arm_store gT (stOf D2 (.slice a5 (restOf D2).length c5)) 33 (stOf D (.slice ra (restOf D).length rc)) HT4.out HZZ.out (HI2.out _) (H12.out _ _ _) ?h5 ?h6 ?_); (case h5 => rfl); (case h6 => rfl)))
                have hgU2 : g2 + 1 ≤ U.heap.size := HKU.out.lt
                have hbz : Below (g2 + 1) U (z4.setRow gT (stOf D2 (.slice a5 (restOf D2).length c5))) := below_setRow ((HBV.out.trans (HB4.out.mono HBV.out.size)).mono hgU2) hg2l _
                have hKz := HKU.out.below hbz
                have hmu : FitOf P rem g2 N i (at1 + n) (z4.setRow gT (stOf D2 (.slice a5 (restOf D2).length c5))) ((i - (at1 + n)) * N + rem t1) := ⟨t1, hKz, HFit.out.2, rfl⟩
                have hint2 : (intOf (.int .i64 ((at1 : Int) + (n : Int)))).toNat = at1 + n := by simp [intOf]; omega
                exact ⟨⟨at1 + n, a5, c5, by omega, by go_num, HD2e.out ▸ HT4.out.setRow, HD2e.out ▸ ((HR5.out.below HB4.out).setRow (fun x hx => by have h1 := (HA5.out x hx).1; omega) _), Lib.hid (fun x hx => by have h1 := (HA5.out x hx).1; exact ⟨by omega, by omega⟩), (HMV.out.below HB4.out hMltV).setRow_apart (Nat.ne_of_lt hgBT), ⟨_, hmu⟩, below_setRow (HBU.out.trans ((HBV.out.trans (HB4.out.mono HBV.out.size)).mono HBU.out.size)) hgwT _⟩, by rw [hint2, hint, HMu.out]; exact Nat.lt_of_le_of_lt (Joins.leastOf_spec hmu).2 HFit.out.1⟩
            clear hK16
            change Code.wp _ (Code.region 15 (jnOps 15) true) _ _ _
            refine wp_region_held (S := fun V => Below U.heap.size U V) (by kernel_rfl) ?_
            have hsz : (jnOps 15).size = 14 := by kernel_rfl
            rw [hsz]
            clear hsz
            refine gen_world (P := fun W' => wpAnyH _ _ _ _ _ _ _ _ W') (I := fun V => Below U.heap.size U V) _ (Below.refl _ U).drew ?_
            rintro y0 hB
            have HBy0 := Lib.hid hB
            clear hB
            refine wpAnyH_take (i := 0) (oi := ⟨some 61, _, _, _, _, none⟩) (v := .agg (stOf D (.slice ra (restOf D).length rc))) rfl (by kernel_rfl) (by kernel_rfl) (by kernel_rfl) (fun _ _ _ h => h) (yieldsIf_load ⟨gT, 0, none⟩ _ _ (fun w hw => (HTU.out.below hw hTlt).row) Tryd.underlying33 (HIs.out _) rfl rfl) HBy0.out ?_
            try simp only [Act.put, List.setIfInBounds_toArray, List.set_cons_succ, List.set_cons_zero]
            refine wpAnyH_take (i := 1) (oi := ⟨some 62, _, _, _, _, _⟩) (v := .slice (some ⟨gB, 0, none⟩) i i) rfl (by kernel_rfl) (by kernel_rfl) (by kernel_rfl) (fun _ _ _ h => h) (Or.inl ⟨by rfl, fun w' hw' => by go_simp⟩) HBy0.out ?_
            try simp only [Act.put, List.setIfInBounds_toArray, List.set_cons_succ, List.set_cons_zero]
            refine wpAnyH_take (i := 2) (oi := ⟨some 63, _, _, _, _, _⟩) (v := .int .i64 (at1 : Int)) rfl (by kernel_rfl) (by kernel_rfl) (by kernel_rfl) (fun _ _ _ h => h) (Or.inl ⟨by rfl, fun w' hw' => by go_simp⟩) HBy0.out ?_
            try simp only [Act.put, List.setIfInBounds_toArray, List.set_cons_succ, List.set_cons_zero]
            refine wpAnyH_take (i := 3) (oi := ⟨some 64, _, _, _, _, _⟩) (v := .int .i64 (at1 : Int)) rfl (by kernel_rfl) (by kernel_rfl) (by kernel_rfl) (fun _ _ _ h => h) (Or.inl ⟨by rfl, fun w' hw' => by go_simp⟩) HBy0.out ?_
            try simp only [Act.put, List.setIfInBounds_toArray, List.set_cons_succ, List.set_cons_zero]
            refine wpAnyH_take (i := 4) (oi := ⟨some 65, _, _, _, _, _⟩) (v := .int .i64 (n : Int)) rfl (by kernel_rfl) (by kernel_rfl) (by kernel_rfl) (fun _ _ _ h => h) (Or.inl ⟨by rfl, fun w' hw' => by go_simp⟩) HBy0.out ?_
            try simp only [Act.put, List.setIfInBounds_toArray, List.set_cons_succ, List.set_cons_zero]
            refine wpAnyH_take (i := 5) (oi := ⟨some 66, _, _, _, _, _⟩) (v := .int .i64 ((at1 : Int) + (n : Int))) rfl (by kernel_rfl) (by kernel_rfl) (by kernel_rfl) (fun _ _ _ h => h) (Or.inl ⟨by rfl, fun w' hw' => by go_simp⟩) HBy0.out ?_
            try simp only [Act.put, List.setIfInBounds_toArray, List.set_cons_succ, List.set_cons_zero]
            refine wpAnyH_take (i := 6) (oi := ⟨some 67, _, _, _, _, _⟩) (v := .slice (some ⟨gB, at1, none⟩) n (i - at1)) rfl (by kernel_rfl) (by kernel_rfl) (by kernel_rfl) (fun _ _ _ h => h) (Or.inl ⟨by rfl, fun w' hw' => by go_simp⟩) HBy0.out ?_
            try simp only [Act.put, List.setIfInBounds_toArray, List.set_cons_succ, List.set_cons_zero]
            refine wpAnyH_all (rs := [7, 11]) (by kernel_rfl) (by simp) ?_
            intro jj hi
            have hii : jj = 7 ∨ jj = 11 := by simpa using hi
            clear hi
            rcases hii with rfl | rfl
            · refine wpOp_step (o := ⟨some 68, _, _, _, _, _⟩) rfl (fun K' hK' => ?_)
              rw [if_pos (show Region.wanted _ _ = true from rfl)]
              go_simp
              (with_reducible refine (HWr.out y0 HBy0.out).mono ?_)
              rintro e y1 ⟨a5, c5, rfl, hp5, hg5, hb⟩
              refine hK' _ _ ⟨HBy0.out.trans (hb.mono HBy0.out.size), ?_⟩
              clear hK' K'
              try simp only [Act.put, List.setIfInBounds_toArray, List.set_cons_succ, List.set_cons_zero]
              have HBa := Lib.hid (HBy0.out.trans (hb.mono HBy0.out.size))
              have HRa := Lib.hid hp5
              have h5 : ∀ g, a5 = some g → U.heap.size ≤ g.block ∧ g.block ≠ y1.heap.size := fun g hg => ⟨Nat.le_trans HBy0.out.size (hg5 g hg), Nat.ne_of_lt (part_lt hp5 g hg)⟩
              clear hp5 hg5 hb
              refine wpAnyH_take (i := 8) (oi := ⟨some 60, _, _, _, _, _⟩) (v := .tuple #[.agg (stOf D2 (.slice a5 (restOf D2).length c5)), .int .i64 0]) rfl (by kernel_rfl) (by kernel_rfl) (by kernel_rfl) (fun _ _ _ h => h) (Or.inl ⟨by rfl, fun w' hw' => by go_simp⟩) HBa.out ?_
              try simp only [Act.put, List.setIfInBounds_toArray, List.set_cons_succ, List.set_cons_zero]
              refine wpAnyH_take (i := 9) (oi := ⟨some 69, _, _, _, _, _⟩) (v := .agg (stOf D2 (.slice a5 (restOf D2).length c5))) rfl (by kernel_rfl) (by kernel_rfl) (by kernel_rfl) (fun _ _ _ h => h) (Or.inl ⟨by rfl, fun w' hw' => by go_simp⟩) HBa.out ?_
              try simp only [Act.put, List.setIfInBounds_toArray, List.set_cons_succ, List.set_cons_zero]
              refine wpAnyH_take (i := 10) (oi := ⟨some 70, _, _, _, _, _⟩) (v := .int .i64 0) rfl (by kernel_rfl) (by kernel_rfl) (by kernel_rfl) (fun _ _ _ h => h) (Or.inl ⟨by rfl, fun w' hw' => by go_simp⟩) HBa.out ?_
              try simp only [Act.put, List.setIfInBounds_toArray, List.set_cons_succ, List.set_cons_zero]
              refine wpAnyH_all (rs := [11]) (by kernel_rfl) (by simp) ?_
              intro jj hi
              obtain rfl : jj = 11 := by simpa using hi
              clear hi
              refine wpOp_step (o := ⟨some 14, _, _, _, _, _⟩) rfl (fun K' hK' => ?_)
              rw [if_pos (show Region.wanted _ _ = true from rfl)]
              go_simp
              refine hK' _ _ ⟨HBa.out.alloc HBa.out.size _, ?_⟩
              clear hK' K'
              try simp only [Act.put, List.setIfInBounds_toArray, List.set_cons_succ, List.set_cons_zero]
              have hgg : U.heap.size ≤ y1.heap.size := HBa.out.size
              refine gen_world (P := fun W' => wpAnyH _ _ _ _ _ _ _ _ W') (I := fun V => Below U.heap.size U V ∧ PartOk V a5 c5 (restOf D2) ∧ Has V y1.heap.size 33 zeroState) _ ⟨HBa.out.alloc HBa.out.size _, HRa.out.alloc _, Has.fresh _ _ _⟩ ?_
              rintro y2 ⟨hB, hR, hA⟩
              have HBc := Lib.hid hB
              have HRc := Lib.hid hR
              have HAc := Lib.hid hA
              clear hB hR hA HBa HRa
              refine wpAnyH_all (rs := [12]) (by kernel_rfl) (by simp) ?_
              intro jj hi
              obtain rfl : jj = 12 := by simpa using hi
              clear hi
              refine wpOp_step (o := ⟨none, _, _, _, _, _⟩) rfl (fun K' hK' => ?_)
              rw [if_pos (show Region.wanted _ _ = true from rfl)]
              refine opw_store y1.heap.size (stOf D2 (.slice a5 (restOf D2).length c5)) _ _ HAc.out (HZ2.out _) (HI2.out _) (H12.out _ _ _) rfl rfl ?_
              refine hK' _ _ ⟨below_setRow HBc.out hgg _, ?_⟩
              clear hK' K'
              try simp only [Act.put, List.setIfInBounds_toArray, List.set_cons_succ, List.set_cons_zero]
              refine wpAnyH_take (i := 13) (oi := ⟨some 15, _, _, _, _, _⟩) (v := .int .i64 0) rfl (by kernel_rfl) (by kernel_rfl) (by kernel_rfl) (fun _ _ _ h => h) (Or.inl ⟨by rfl, fun w' hw' => by go_simp⟩) (below_setRow HBc.out hgg _) ?_
              try simp only [Act.put, List.setIfInBounds_toArray, List.set_cons_succ, List.set_cons_zero]
              refine wpAnyH_done (by kernel_rfl) ?_ _
              exact HNext16.out _ _ _ _ _ _ _ _ _ _ _ _ _ _ _ _ _ _ _ _ _ _ _ _ _ _ _ _ _ _ _ _ _ _ _ _ _ _ _ _ _ _ _ _ _ _ _ _ _ _ _ _ _ _ _ _ _ _ _ _ _ _ _ _ _ _ _ _ _ y1.heap.size a5 c5 _ (below_setRow HBc.out hgg _) HAc.out.setRow (HRc.out.setRow (fun g hg => (h5 g hg).2) _) hgg h5
            · refine wpOp_step (o := ⟨some 14, _, _, _, _, _⟩) rfl (fun K' hK' => ?_)
              rw [if_pos (show Region.wanted _ _ = true from rfl)]
              go_simp
              refine hK' _ _ ⟨HBy0.out.alloc HBy0.out.size _, ?_⟩
              clear hK' K'
              try simp only [Act.put, List.setIfInBounds_toArray, List.set_cons_succ, List.set_cons_zero]
              have hgg : U.heap.size ≤ y0.heap.size := HBy0.out.size
              refine gen_world (P := fun W' => wpAnyH _ _ _ _ _ _ _ _ W') (I := fun V => Below U.heap.size U V ∧ Has V y0.heap.size 33 zeroState ∧ y0.heap.size < V.heap.size) _ ⟨HBy0.out.alloc HBy0.out.size _, Has.fresh _ _ _, (Has.fresh y0 33 zeroState).lt⟩ ?_
              rintro y1 ⟨hB, hA, hs⟩
              have HBa := Lib.hid hB
              have HAa := Lib.hid hA
              clear hB hA
              refine wpAnyH_all (rs := [7]) (by kernel_rfl) (by simp) ?_
              intro jj hi
              obtain rfl : jj = 7 := by simpa using hi
              clear hi
              refine wpOp_step (o := ⟨some 68, _, _, _, _, _⟩) rfl (fun K' hK' => ?_)
              rw [if_pos (show Region.wanted _ _ = true from rfl)]
              go_simp
              (with_reducible refine (HWr.out y1 HBa.out).mono ?_)
              rintro e y2 ⟨a5, c5, rfl, hp5, hg5, hb⟩
              refine hK' _ _ ⟨HBa.out.trans (hb.mono HBa.out.size), ?_⟩
              clear hK' K'
              try simp only [Act.put, List.setIfInBounds_toArray, List.set_cons_succ, List.set_cons_zero]
              have HBc := Lib.hid (HBa.out.trans (hb.mono HBa.out.size))
              have HRc := Lib.hid hp5
              have HAc := Lib.hid (HAa.out.below hb HAa.out.lt)
              have h5 : ∀ g, a5 = some g → U.heap.size ≤ g.block ∧ g.block ≠ y0.heap.size := fun g hg => by
                have h1 := hg5 g hg
                exact ⟨by omega, by omega⟩
              clear hp5 hg5 hb HBa HAa
              refine wpAnyH_take (i := 8) (oi := ⟨some 60, _, _, _, _, _⟩) (v := .tuple #[.agg (stOf D2 (.slice a5 (restOf D2).length c5)), .int .i64 0]) rfl (by kernel_rfl) (by kernel_rfl) (by kernel_rfl) (fun _ _ _ h => h) (Or.inl ⟨by rfl, fun w' hw' => by go_simp⟩) HBc.out ?_
              try simp only [Act.put, List.setIfInBounds_toArray, List.set_cons_succ, List.set_cons_zero]
              refine wpAnyH_take (i := 9) (oi := ⟨some 69, _, _, _, _, _⟩) (v := .agg (stOf D2 (.slice a5 (restOf D2).length c5))) rfl (by kernel_rfl) (by kernel_rfl) (by kernel_rfl) (fun _ _ _ h => h) (Or.inl ⟨by rfl, fun w' hw' => by go_simp⟩) HBc.out ?_
              try simp only [Act.put, List.setIfInBounds_toArray, List.set_cons_succ, List.set_cons_zero]
              refine wpAnyH_take (i := 10) (oi := ⟨some 70, _, _, _, _, _⟩) (v := .int .i64 0) rfl (by kernel_rfl) (by kernel_rfl) (by kernel_rfl) (fun _ _ _ h => h) (Or.inl ⟨by rfl, fun w' hw' => by go_simp⟩) HBc.out ?_
              try simp only [Act.put, List.setIfInBounds_toArray, List.set_cons_succ, List.set_cons_zero]
              refine wpAnyH_all (rs := [12]) (by kernel_rfl) (by simp) ?_
              intro jj hi
              obtain rfl : jj = 12 := by simpa using hi
              clear hi
              refine wpOp_step (o := ⟨none, _, _, _, _, _⟩) rfl (fun K' hK' => ?_)
              rw [if_pos (show Region.wanted _ _ = true from rfl)]
              refine opw_store y0.heap.size (stOf D2 (.slice a5 (restOf D2).length c5)) _ _ HAc.out (HZ2.out _) (HI2.out _) (H12.out _ _ _) rfl rfl ?_
              refine hK' _ _ ⟨below_setRow HBc.out hgg _, ?_⟩
              clear hK' K'
              try simp only [Act.put, List.setIfInBounds_toArray, List.set_cons_succ, List.set_cons_zero]
              refine wpAnyH_take (i := 13) (oi := ⟨some 15, _, _, _, _, _⟩) (v := .int .i64 0) rfl (by kernel_rfl) (by kernel_rfl) (by kernel_rfl) (fun _ _ _ h => h) (Or.inl ⟨by rfl, fun w' hw' => by go_simp⟩) (below_setRow HBc.out hgg _) ?_
              try simp only [Act.put, List.setIfInBounds_toArray, List.set_cons_succ, List.set_cons_zero]
              refine wpAnyH_done (by kernel_rfl) ?_ _
              exact HNext16.out _ _ _ _ _ _ _ _ _ _ _ _ _ _ _ _ _ _ _ _ _ _ _ _ _ _ _ _ _ _ _ _ _ _ _ _ _ _ _ _ _ _ _ _ _ _ _ _ _ _ _ _ _ _ _ _ _ _ _ _ _ _ _ _ _ _ _ _ _ y0.heap.size a5 c5 _ (below_setRow HBc.out hgg _) HAc.out.setRow (HRc.out.setRow (fun g hg => (h5 g hg).2) _) hgg h5
          clear hK15
          by_cases hr0 : r = 0
          · have hn0 : n = 0 := by have := HN0.out; omega
            subst hn0
            have hsd := seldom_t g2 (g2 + 1) P (t0 + 1) HPb.out hPl (by omega) 2 (by decide) (by decide) w7 HK7.out
            have hd0 : Gen.drawAt P t0 % 90 = 0 := by rw [← HR0.out]; exact hr0
            clear hr0 hmin
            by_cases hs : Gen.drawAt P (t0 + 1) % 2 = 0
            · rw [decide_eq_true hs, show ((2 : Nat) : Int) = 2 from rfl] at hsd
              have HSd := Lib.hid hsd
              have HFit := Lib.hid (fit_down (n := 1) (show at1 + 1 ≤ i by omega) (Nat.le_refl _) (show rem (t0 + 2) + 1 ≤ N by have := HRem.out (t0 + 2); omega) (Nat.le_refl _) HBd.out)
              clear hs hd0 hsd
              go_wp2_with (go_at_call 51; (with_reducible refine HSd.out.mono ?_); rintro e w8 ⟨rfl, hK8, hb8⟩; have HK8 := Lib.hid hK8; have HT8 := Lib.hid (hb8.has HT7.out (by omega)); have HM8 := Lib.hid (hb8.has HM7.out (by omega)); have HR8 := Lib.hid (HR7.out.but hb8 HRg.out); have HB8 := Lib.hid (HB7.out.trans (hb8.below (by omega) HB7.out.size)); clear hK8 hb8)
              exact HNext15.out _ _ _ _ _ _ _ _ _ _ _ _ _ _ _ _ _ _ _ _ _ _ _ _ _ _ _ _ _ _ _ _ _ _ _ _ _ _ _ _ _ _ _ _ _ _ _ _ _ _ _ _ _ _ _ _ _ _ _ _ _ _ _ _ _ _ _ _ _ _ _ 1 (t0 + 2) _ (by omega) HK8.out HFit.out HT8.out HR8.out HM8.out HB8.out
            · rw [decide_eq_false hs, show ((2 : Nat) : Int) = 2 from rfl] at hsd
              have HSd := Lib.hid hsd
              have HFit : Hid ((i - (at1 + 0)) * N + rem (t0 + 2) < (i - at1) * N + rem t0 ∧ t0 + 2 + 2 * ((i - (at1 + 0)) * N + rem (t0 + 2)) ≤ 2 * (302 * N)) := Lib.hid (by
                have h1 := HDown.out t0 hd0 (by omega)
                have h2 := HBd.out
                rw [Nat.add_zero]
                omega)
              clear hs hd0 hsd
              go_wp2_with (go_at_call 51; (with_reducible refine HSd.out.mono ?_); rintro e w8 ⟨rfl, hK8, hb8⟩; have HK8 := Lib.hid hK8; have HT8 := Lib.hid (hb8.has HT7.out (by omega)); have HM8 := Lib.hid (hb8.has HM7.out (by omega)); have HR8 := Lib.hid (HR7.out.but hb8 HRg.out); have HB8 := Lib.hid (HB7.out.trans (hb8.below (by omega) HB7.out.size)); clear hK8 hb8)
              exact HNext15.out _ _ _ _ _ _ _ _ _ _ _ _ _ _ _ _ _ _ _ _ _ _ _ _ _ _ _ _ _ _ _ _ _ _ _ _ _ _ _ _ _ _ _ _ _ _ _ _ _ _ _ _ _ _ _ _ _ _ _ _ _ _ _ _ _ _ _ _ _ _ _ 0 (t0 + 2) _ (by omega) HK8.out HFit.out HT8.out HR8.out HM8.out HB8.out
          · have hn1 : ¬ (n : Int) = 0 := by have := HN0.out; omega
            have hni : at1 + n ≤ i := by have := HN0.out; omega
            have HFit := Lib.hid (fit_down hni (show 1 ≤ n by omega) (show rem (t0 + 1) + 1 ≤ N by have := HRem.out (t0 + 1); omega) (Nat.le_succ _) HBd.out)
            go_wp2
            exact HNext15.out _ _ _ _ _ _ _ _ _ _ _ _ _ _ _ _ _ _ _ _ _ _ _ _ _ _ _ _ _ _ _ _ _ _ _ _ _ _ _ _ _ _ _ _ _ _ _ _ _ _ _ _ _ _ _ _ _ _ _ _ _ _ _ _ _ _ _ _ _ _ _ n (t0 + 1) _ hni HK7.out HFit.out HT7.out HR7.out HM7.out HB7.out
        · obtain rfl : at1 = i := by omega
          have htk : bl.take at1 = bl := List.take_of_length_le (by rw [HBl.out]; exact Nat.le_refl _)
          rw [htk] at hT hR
          obtain ⟨X, hX⟩ : ∃ X, X = Sha.sha bl := ⟨_, rfl⟩
          have hX32 : X.length = 32 := by rw [hX]; exact (sha_bytes _).1
          have HTb := Lib.hid hT
          have hgTl : gT < wr.heap.size := hT.lt
          have hgBl : gB < wr.heap.size := hM.lt
          have HDn := Lib.hid (done_more bl HBy.out (by rw [HBl.out]; omega) wr ra rc hR (HCw.out wr hB) X (Lib.hid hX))
          have HOb : Hid (∀ V, Below wr.heap.size wr V → Calls Tryd.prog 17 #[.slice (some ⟨gB, 0, none⟩) at1 at1] V fun e w' => e = .returned (.agg (arr32 X)) ∧ Below V.heap.size V w') := Lib.hid fun V hV => by
            have hp : PartOk V (some ⟨gB, 0, none⟩) at1 bl := .inr ⟨gB, 0, rfl, Nat.lt_of_lt_of_le hgBl hV.size, fun k hk => by
              rw [Nat.zero_add, hV.cell hgBl, hM.cell, map_cell bl k hk]⟩
            have h := of_any bl (some ⟨gB, 0, none⟩) at1 V hp HBy.out (by rw [HBl.out]; omega) (fun _ _ _ => ⟨by rw [HBl.out]; exact Nat.le_refl _, by unfold maxLen; omega⟩) (HCw.out V (hB.trans (hV.mono hB.size))) X (Lib.hid hX)
            rw [HBl.out] at h
            exact h.mono fun e w' k => ⟨k.1, k.2.2⟩
          have HIs := Lib.hid fun (r : Value) => stOf_info bl r
          have HIX := Lib.hid (arr32_info X (by omega))
          have HSX := Lib.hid (zero32_size X (by omega))
          have HF1 : Hid (∀ W : World, Has (W.alloc (.cells zero32 26)) W.heap.size 26 zero32) := Lib.hid fun W => fresh_sum W
          have HEl : Hid (∀ V : World, (binOp .eql 26 (.agg (arr32 X)) (.agg (arr32 X))).run Tryd.prog V = .ok (.bool true) V) := Lib.hid fun V => by
            have := sum_eql X X hX32 hX32 V
            rwa [decide_eq_true rfl] at this
          have hcT : wr.cell? ⟨gT, 9, none⟩ = some (.int .i64 (at1 : Int)) := by
            rw [hT.cell]
            have h := long_at bl (.slice ra (restOf bl).length rc)
            rw [HBl.out] at h
            exact h
          have HcT := Lib.hid hcT
          have HAa : Hid (∀ V, Below wr.heap.size wr V → Calls Tryd.prog 15 #[] V fun e w' => e = .returned (.bool true) ∧ Below V.heap.size V w') := Lib.hid fun V hV => HAw.out V (HCw.out V (hB.trans (hV.mono hB.size)))
          clear hT hR hM hB hX htk hμ hcT
          go_upto_region 23 with (first
            | ((with_reducible refine arm_load ⟨gT, 0, none⟩ (stOf bl (.slice ra (restOf bl).length rc)) _ HTb.out.row Tryd.underlying33 (HIs.out _) ?h1 ?h2 ?_); (case h1 => rfl); (case h2 => rfl))
            | (go_at_call 22; (with_reducible refine HDn.out.mono ?_); rintro e u2 ⟨rfl, hb7⟩; have HB7 := Lib.hid hb7; have HF := Lib.hid (HF1.out u2); clear hb7)
            | ((with_reducible refine arm_store u2.heap.size (arr32 X) 26 zero32 HF.out HSX.out HIX.out (arr32_one _) ?h5 ?h6 ?_); (case h5 => rfl); (case h6 => rfl)))
          refine gen_world (P := fun W => Code.wp _ _ _ _ W) (I := fun W => Below wr.heap.size wr W ∧ Has W u2.heap.size 26 (arr32 X)) _ ⟨below_setRow (HB7.out.alloc HB7.out.size _) HB7.out.size _, HF.out.setRow⟩ ?_
          rintro w8 ⟨hB8, hX8⟩
          generalize u2.heap.size = gX at *
          have HB8 := Lib.hid hB8
          have HX8 := Lib.hid hX8
          have hgX := hX8.lt
          clear hB8 hX8 HF HB7 HDn
          haveI hNe : Nonempty {V : World // Below w8.heap.size w8 V} := ⟨⟨w8, Below.refl _ _⟩⟩
          refine wp_region_quietC (fun w' => ∃ V : {V : World // Below w8.heap.size w8 V}, w' = V.1) (by kernel_rfl) (by kernel_rfl) ⟨⟨w8.drew, (Below.refl _ w8).drew⟩, rfl⟩ ?_
          go_big_quiet_step (fail)
          go_big_quiet_want
          refine quietG_value (.bool true) (fun w => by go_simp) ?_
          simp only [Act.put, List.setIfInBounds_toArray, List.set_cons_succ, List.set_cons_zero]
          go_big_quiet_on
          go_big_quiet_step (fail)
          go_big_quiet_want
          (with_reducible refine quietG_load ⟨gX, 0, none⟩ (arr32 X) _ (fun w' hw' => (HX8.out.below (Behind.out hw') hgX).row) Tryd.underlying26 HIX.out ?l1 ?l2 ?_); (case l1 => rfl); (case l2 => rfl)
          simp only [Act.put, List.setIfInBounds_toArray, List.set_cons_succ, List.set_cons_zero]
          go_big_quiet_on
          go_big_quiet_step (fail)
          go_big_quiet_want
          (with_reducible refine quietG_call1 egO (.slice (some ⟨gB, 0, none⟩) at1 at1) (.agg (arr32 X)) ?a1 (fun w' hw' => (HOb.out w' (HB8.out.trans ((Behind.out hw').mono HB8.out.size))).mono fun e w'' h => ⟨h.1, Behind.on hw' h.2⟩) ?_); (case a1 => rfl)
          simp only [Act.put, List.setIfInBounds_toArray, List.set_cons_succ, List.set_cons_zero]
          go_big_quiet_on
          go_big_quiet_want
          have heql := HEl.out
          have hgd := sum_guard
          refine quietG_value (.bool true) (fun w => by go_simp) ?_
          clear heql hgd
          simp only [Act.put, List.setIfInBounds_toArray, List.set_cons_succ, List.set_cons_zero]
          go_big_quiet_on
          go_big_quiet_want
          refine quietG_value (.bool true) (fun w => by go_simp) ?_
          simp only [Act.put, List.setIfInBounds_toArray, List.set_cons_succ, List.set_cons_zero]
          go_big_quiet_on
          go_big_quiet_step (fail)
          go_big_quiet_want
          refine quietG_value (.pointer (some ⟨gT, 9, none⟩)) (fun w => by go_simp) ?_
          simp only [Act.put, List.setIfInBounds_toArray, List.set_cons_succ, List.set_cons_zero]
          go_big_quiet_on
          go_big_quiet_want
          refine quietG_world (.int .i64 (at1 : Int)) (fun w hw => by have hq := ((HB8.out.trans ((Behind.out hw).mono HB8.out.size)).cell hgTl).trans HcT.out; go_simp) ?_
          simp only [Act.put, List.setIfInBounds_toArray, List.set_cons_succ, List.set_cons_zero]
          go_big_quiet_on
          go_big_quiet_step (fail)
          go_big_quiet_want
          refine quietG_value (.int .i64 (at1 : Int)) (fun w => by go_simp) ?_
          simp only [Act.put, List.setIfInBounds_toArray, List.set_cons_succ, List.set_cons_zero]
          go_big_quiet_on
          go_big_quiet_want
          refine quietG_value (.bool true) (fun w => by go_simp) ?_
          simp only [Act.put, List.setIfInBounds_toArray, List.set_cons_succ, List.set_cons_zero]
          go_big_quiet_on
          go_big_quiet_want
          refine quietG_value (.bool true) (fun w => by go_simp) ?_
          simp only [Act.put, List.setIfInBounds_toArray, List.set_cons_succ, List.set_cons_zero]
          go_big_quiet_on
          go_big_quiet_step (fail)
          go_big_quiet_want
          (with_reducible refine quietG_call0 egA  (.bool true)  (fun w' hw' => (HAa.out w' (HB8.out.trans ((Behind.out hw').mono HB8.out.size))).mono fun e w'' h => ⟨h.1, Behind.on hw' h.2⟩) ?_)
          simp only [Act.put, List.setIfInBounds_toArray, List.set_cons_succ, List.set_cons_zero]
          go_big_quiet_on
          go_big_quiet_want
          refine quietG_value (.bool true) (fun w => by go_simp) ?_
          simp only [Act.put, List.setIfInBounds_toArray, List.set_cons_succ, List.set_cons_zero]
          go_big_quiet_on
          go_big_quiet_step (fail)
          refine wpQuiet_nil ?_
          rintro w9 ⟨⟨_, hW9⟩, rfl⟩
          have HB9 := Lib.hid (HB8.out.trans (hW9.mono HB8.out.size))
          clear hW9 hNe
          go_wp2
          go_ret
          exact ⟨rfl, HB.out.trans (HB9.out.mono HB.out.size)⟩
theorem joins_int (ns ps : List Nat) (hns : Sha.Bytes ns) (hps : Sha.Bytes ps) (a a' : Option Addr) (c c' : Nat) (n1 : Int) (b1 : 0 ≤ n1 ∧ n1 ≤ 65535) (w : World) (hp : PartOk w a c ns) (hcap : ns.length ≤ c ∧ c ≤ maxLen) (hp' : PartOk w a' c' ps) (hcap' : ps.length ≤ c' ∧ c' ≤ maxLen) (hc : ConstAt w) :
    Calls Tryd.prog 10 #[.slice a ns.length c, .slice a' ps.length c', .int .u16 n1] w fun e w' => e = .returned (.bool true) ∧ Below w.heap.size w w' := by
  obtain ⟨m1, rfl⟩ := Int.eq_ofNat_of_zero_le b1.1
  exact joins_law ns ps hns hps a a' c c' m1 (by omega) w hp hcap hp' hcap' hc
end Go.Proofs.YtffdkniahdekjaaDoor
end
