/-
  DIGESTS AND THEIR TEXTS: both have one order; a text of digits is the text of the digest that it is read as.
  · THE REFERENCE's Short.
  · WHAT FIND GIVES FOR THE FIRST DIGITS OF A DIGEST: its first place, if they are those of no other one; an error, if they are.
-/
import Derived.Test.YtffdkniahdekjaaDoorMBm
import Derived.Test.YtffdkniahdekjaaDoorMBl
import Derived.BigQuiet
import Derived.Test.YtffdkniahdekjaaDoorMBh
section
namespace Go.Proofs.YtffdkniahdekjaaDoor
open Go.RowKit Go.Hoar
noncomputable def rsOps (k : Nat) : Array Oper := (Tryd.f48.body.bind (opsAt k)).getD #[]
/-- What one more digest makes of the number of digits. -/
def nStep (x : Dig) (v : Nat) (y : Dig) : Nat := if alikeOf x.1 y.1 < 64 ∧ v < alikeOf x.1 y.1 + 1 then alikeOf x.1 y.1 + 1 else v
def needR (x : Dig) (ys : List Dig) : Nat := ys.foldl (nStep x) 1
theorem alike_self (x : Dig) : alikeOf x.1 x.1 = 64 := Nat.le_antisymm (alike_le _ _) (alike_ge _ _ _ (Nat.le_refl _) (fun _ _ => rfl))
def Good (x : Dig) (pre : List Dig) (v : Nat) : Prop := 1 ≤ v ∧ v ≤ 64 ∧ (∀ y ∈ pre, y ≠ x → alikeOf x.1 y.1 + 1 ≤ v) ∧ (v = 1 ∨ ∃ y ∈ pre, y ≠ x ∧ v = alikeOf x.1 y.1 + 1)
theorem good_step (x : Dig) (pre : List Dig) (v : Nat) (y : Dig) (h : Good x pre v) : Good x (pre ++ [y]) (nStep x v y) := by
  obtain ⟨a, a2, b, c⟩ := h
  have hc : v = 1 ∨ ∃ z ∈ pre ++ [y], z ≠ x ∧ v = alikeOf x.1 z.1 + 1 := by
    rcases c with c | ⟨z, hz, h2, h3⟩
    · exact .inl c
    · exact .inr ⟨z, List.mem_append_left _ hz, h2, h3⟩
  unfold nStep
  split
  · next h =>
    have hne : y ≠ x := fun e => by rw [e, alike_self] at h; omega
    refine ⟨by omega, by omega, fun z hz hzx => ?_, .inr ⟨y, by simp, hne, rfl⟩⟩
    rcases List.mem_append.1 hz with hz | hz
    · have := b z hz hzx
      omega
    · rw [List.mem_singleton.1 hz]
      exact Nat.le_refl _
  · next h =>
    refine ⟨a, a2, fun z hz hzx => ?_, hc⟩
    rcases List.mem_append.1 hz with hz | hz
    · exact b z hz hzx
    · rw [List.mem_singleton.1 hz] at hzx ⊢
      have := alike_lt (Ne.symm hzx)
      omega
theorem good_fold (x : Dig) : ∀ (ys pre : List Dig) (v : Nat), Good x pre v → Good x (pre ++ ys) (ys.foldl (nStep x) v)
  | [], pre, v, h => by rw [List.append_nil]; exact h
  | y :: ys, pre, v, h => by
    have := good_fold x ys (pre ++ [y]) _ (good_step x pre v y h)
    rwa [List.append_assoc] at this
theorem needR_good (x : Dig) (ys : List Dig) : Good x ys (needR x ys) := good_fold x ys [] 1 ⟨Nat.le_refl _, by decide, fun _ h => absurd h List.not_mem_nil, .inl rfl⟩
theorem needR_need (ls : List Dig) (x : Dig) : IsNeed ls x ((needR x ls : Nat) : Int) := by
  obtain ⟨a, _, b, c⟩ := needR_good x ls
  refine ⟨by omega, fun y hy hne => by have := b y hy hne; omega, ?_⟩
  rcases c with c | ⟨y, hy, h2, h3⟩
  · exact .inl (by omega)
  · exact .inr ⟨y, hy, h2, by omega⟩
theorem needR_snoc (x : Dig) (ls : List Dig) (j : Nat) (y : Dig) (h : ls[j]? = some y) : needR x (ls.take (j + 1)) = nStep x (needR x (ls.take j)) y := by
  rw [needR, needR, List.take_add_one, h, List.foldl_append]; rfl
theorem byteAt_hex (x : List Nat) (hxb : Sha.Bytes x) (q : Nat) (hq : q < 64) : byteAt (str (hexOf x)) q = letter (nib x q) := by
  have hlen : (hexOf x).length = 64 := by simp [hexOf]
  have hsz : (str (hexOf x)).size = 64 := by unfold str; simp [ByteArray.size, hlen]
  rw [← byteAt_eq _ q (by omega)]
  show (((hexOf x).map UInt8.ofNat).toArray[q]'(by simp [hlen]; omega)).toNat = _
  have hl := letter_small (nib_lt hxb q)
  simp only [List.getElem_toArray, List.getElem_map, hexOf, List.getElem_range]
  simp
  omega
theorem letter_inj {a b : Nat} (ha : a < 16) (hb : b < 16) (h : letter a = letter b) : a = b := by
  rw [← val_letter ha, ← val_letter hb, h]
theorem alike_is {l m : List Nat} {q : Nat} (hq : q ≤ 64) (h : ∀ i, i < q → nib l i = nib m i) (he : q < 64 → nib l q ≠ nib m q) : alikeOf l m = q := by
  have h1 := alike_ge l m q hq h
  rcases Nat.lt_or_ge q (alikeOf l m) with h2 | h2
  · have := alike_le l m
    exact absurd (alike_same l m q h2) (he (by omega))
  · omega
set_option maxRecDepth 100000 in
set_option maxHeartbeats 6000000 in
theorem refShort_any (ls : List Dig) (a : Option Addr) (c : Nat) (w : World) (hr : RowOk w a c (ls.map (·.1))) (hn : ls.length ≤ 60) :
    Calls Tryd.prog 48 #[.slice a ls.length c] w fun e w' => ∃ v, e = .returned v ∧ w'.ownsRow w.heap.size 3 1 v ls.length (ls.map fun x => .int .i64 ((needR x ls : Nat) : Int)) ∧ Below w.heap.size w w' := by
  obtain ⟨i0, hi0, hz0, hz1, hz2⟩ := info_parts intInfo3
  have HRw := Lib.hid hr
  clear hr
  go_enter Tryd.func48, Tryd.ntmps48
  go_wp2
  go_loopw [3, 14] (fun v i wr => ∃ (k : Nat) (vv : Value), vv = v ∧ k ≤ ls.length ∧ i = .int .i64 k ∧ wr.ownsRow w.heap.size 3 1 vv k ((ls.take k).map fun x => .int .i64 ((needR x ls : Nat) : Int)) ∧ Below w.heap.size w wr) (fun _ i _ => ls.length - (intOf i).toNat)
  case atStart => exact ⟨0, _, rfl, Nat.zero_le _, rfl, World.ownsRow_nil _ _ _ _, Below.refl _ _⟩
  case round =>
    obtain ⟨k, vv, hvv, hk, rfl, hO, hB⟩ := hrel
    subst hvv
    by_cases hlt : k < ls.length
    · obtain ⟨x, hx⟩ : ∃ x, ls[k]? = some x := ⟨_, List.getElem?_eq_getElem hlt⟩
      have hx1 : (ls.map (·.1))[k]? = some x.1 := by rw [List.getElem?_map, hx]; rfl
      rcases HRw.out with ⟨_, he, _⟩ | ⟨g, off, rfl, hg, hs, hcc, hcm⟩
      · rw [he] at hx1; simp at hx1
      rw [List.length_map] at hcc
      have hxl := x.2.1
      have hxb := x.2.2
      have HRow := Lib.hid ((hs.below hg hB).row hx1)
      have HS := Lib.hid hs
      have HI := Lib.hid (arr32_info x.1 (by omega))
      have HSz := Lib.hid (zero32_size x.1 (by omega))
      have HF := Lib.hid (fresh_sum wr)
      obtain ⟨a6, c6, rfl, hc6, hcm6⟩ := own_shape hO
      have HO := Lib.hid hO
      have HB := Lib.hid hB
      unfold maxLen at hcm
      have hkc : k < c := by omega
      have HNext : Hid (((ls.take k).map fun z : Dig => Value.int .i64 ((needR z ls : Nat) : Int)) ++ [.int .i64 ((needR x ls : Nat) : Int)] = (ls.take (k + 1)).map fun z : Dig => Value.int .i64 ((needR z ls : Nat) : Int)) := Lib.hid (by rw [List.take_add_one, hx, List.map_append]; rfl)
      have HNl := Lib.hid (needR_good x ls).2.1
      clear hB hO hs hx hx1
      go_upto_region 5 with (first
        | ((with_reducible refine arm_load (w := wr) ⟨g, off + k * 32, none⟩ _ _ HRow.out Tryd.underlying26 HI.out ?h1 ?h2 ?_); (case h1 => rfl); (case h2 => rfl))
        | ((with_reducible refine arm_store wr.heap.size (arr32 x.1) 26 zero32 HF.out HSz.out HI.out (arr32_one _) ?h5 ?h6 ?_); (case h5 => rfl); (case h6 => rfl)))
      refine gen_world (P := fun W => Code.wp _ _ _ _ W) (I := fun V => Below w.heap.size w V ∧ Has V wr.heap.size 26 (arr32 x.1) ∧ V.ownsRow w.heap.size 3 1 (.slice a6 k c6) k ((ls.take k).map fun x => .int .i64 ((needR x ls : Nat) : Int))) _ ⟨below_setRow (HB.out.alloc HB.out.size _) HB.out.size _, HF.out.setRow, own_setRow (HO.out.alloc _) (fun e => by have := (HO.out.lt _ e).2; omega) _⟩ ?_
      rintro U ⟨hBU, hXU, hOU⟩
      generalize wr.heap.size = b5 at hXU ⊢
      have HBU := Lib.hid hBU
      have HXU := Lib.hid hXU
      have HOU := Lib.hid hOU
      clear hBU hXU hOU HO HB HF HRow
      go_wp2
      go_loopw [6, 20] (fun lv iv wr => ∃ j : Nat, j ≤ ls.length ∧ iv = .int .i64 j ∧ lv = .int .i64 ((needR x (ls.take j) : Nat) : Int) ∧ Below U.heap.size U wr) (fun _ iv _ => ls.length - (intOf iv).toNat)
      case atStart => exact ⟨0, Nat.zero_le _, rfl, rfl, Below.refl _ _⟩
      case round =>
        obtain ⟨j, hj, rfl, rfl, hB⟩ := hrel
        by_cases hjlt : j < ls.length
        · obtain ⟨y, hy⟩ : ∃ y, ls[j]? = some y := ⟨_, List.getElem?_eq_getElem hjlt⟩
          have hy1 : (ls.map (·.1))[j]? = some y.1 := by rw [List.getElem?_map, hy]; rfl
          have hyl := y.2.1
          have hyb := y.2.2
          have hBw : Below w.heap.size w wr := HBU.out.trans (hB.mono HBU.out.size)
          have HRow := Lib.hid ((HS.out.below hg hBw).row hy1)
          have HIy := Lib.hid (arr32_info y.1 (by omega))
          have HSy := Lib.hid (zero32_size y.1 (by omega))
          have HF := Lib.hid (fresh_sum wr)
          have HB := Lib.hid hB
          have hjc : j < c := by omega
          have HSt := Lib.hid (needR_snoc x ls j y hy)
          have hL64 := (needR_good x (ls.take j)).2.1
          generalize needR x (ls.take j) = L at HSt hL64 ⊢
          clear hB hBw hy hy1
          go_upto_region 9 with (first
            | ((with_reducible refine arm_load (w := wr) ⟨g, off + j * 32, none⟩ _ _ HRow.out Tryd.underlying26 HIy.out ?h1 ?h2 ?_); (case h1 => rfl); (case h2 => rfl))
            | ((with_reducible refine arm_store wr.heap.size (arr32 y.1) 26 zero32 HF.out HSy.out HIy.out (arr32_one _) ?h5 ?h6 ?_); (case h5 => rfl); (case h6 => rfl)))
          refine gen_world (P := fun W => Code.wp _ _ _ _ W) (I := fun V => Below U.heap.size U V ∧ Has V wr.heap.size 26 (arr32 y.1)) _ ⟨below_setRow (HB.out.alloc HB.out.size _) HB.out.size _, HF.out.setRow⟩ ?_
          rintro Y ⟨hBY, hYY⟩
          generalize wr.heap.size = b8 at hYY ⊢
          have HBY := Lib.hid hBY
          have HX5 := Lib.hid (HXU.out.below hBY HXU.out.lt)
          have HY8 := Lib.hid hYY
          have HHx : Hid (∀ V : World, Calls Tryd.prog 29 #[.agg (arr32 x.1)] V fun e w' => e = .returned (.string (str (hexOf x.1))) ∧ Below V.heap.size V w') := Lib.hid fun V => refHex_any x.1 hxl hxb V
          have HHy : Hid (∀ V : World, Calls Tryd.prog 29 #[.agg (arr32 y.1)] V fun e w' => e = .returned (.string (str (hexOf y.1))) ∧ Below V.heap.size V w') := Lib.hid fun V => refHex_any y.1 hyl hyb V
          have hix : ∀ q : Nat, q < 64 → ∀ V : World, (Instr.index 9 (.string (str (hexOf x.1))) (.int .i64 (q : Int))).run Tryd.prog V = .ok (.int .u8 ((letter (nib x.1 q) : Nat) : Int)) V := fun q hq V => by
            have := index_str (str (hexOf x.1)) q (by unfold str; simp [ByteArray.size, hexOf]; omega) V
            rwa [byteAt_hex x.1 hxb q hq] at this
          have hiy : ∀ q : Nat, q < 64 → ∀ V : World, (Instr.index 9 (.string (str (hexOf y.1))) (.int .i64 (q : Int))).run Tryd.prog V = .ok (.int .u8 ((letter (nib y.1 q) : Nat) : Int)) V := fun q hq V => by
            have := index_str (str (hexOf y.1)) q (by unfold str; simp [ByteArray.size, hexOf]; omega) V
            rwa [byteAt_hex y.1 hyb q hq] at this
          generalize str (hexOf x.1) = tx at HHx hix
          generalize str (hexOf y.1) = ty at HHy hiy
          have HIX := Lib.hid hix
          have HIY := Lib.hid hiy
          clear hBY hYY HB HF HRow hix hiy
          change Code.wp _ (Code.region 9 (rsOps 9) true) _ _ _
          refine wp_region_held (S := fun V => Below Y.heap.size Y V) (by kernel_rfl) ?_
          have hsz : (rsOps 9).size = 6 := by kernel_rfl
          rw [hsz]
          clear hsz
          refine gen_world (P := fun W' => wpAnyH _ _ _ _ _ _ _ _ W') (I := fun V => Below Y.heap.size Y V) _ (Below.refl _ Y).drew ?_
          rintro V hBV
          have HS0 := Lib.hid hBV
          clear hBV
          refine wpAnyH_take (i := 0) (oi := ⟨some 24, _, _, _, _, none⟩) (v := .agg (arr32 x.1)) rfl (by kernel_rfl) (by kernel_rfl) (by kernel_rfl) (fun _ _ _ h => h) (yieldsIf_load ⟨b5, 0, none⟩ _ _ (fun Z hZ => (HX5.out.below hZ HX5.out.lt).row) Tryd.underlying26 HI.out rfl rfl) HS0.out ?_
          try simp only [Act.put, List.setIfInBounds_toArray, List.set_cons_succ, List.set_cons_zero]
          refine wpAnyH_take (i := 2) (oi := ⟨some 26, _, _, _, _, none⟩) (v := .agg (arr32 y.1)) rfl (by kernel_rfl) (by kernel_rfl) (by kernel_rfl) (fun _ _ _ h => h) (yieldsIf_load ⟨b8, 0, none⟩ _ _ (fun Z hZ => (HY8.out.below hZ HY8.out.lt).row) Tryd.underlying26 HIy.out rfl rfl) HS0.out ?_
          try simp only [Act.put, List.setIfInBounds_toArray, List.set_cons_succ, List.set_cons_zero]
          refine wpAnyH_all (rs := [1]) (by kernel_rfl) (by simp) ?_
          intro i hi
          obtain rfl : i = 1 := by simpa using hi
          clear hi
          refine wpOp_step (o := ⟨some 25, _, _, _, _, _⟩) rfl (fun K' hK' => ?_)
          rw [if_pos (show Region.wanted _ _ = true from rfl)]
          go_simp
          (with_reducible refine (HHx.out V).mono ?_)
          rintro e v1 ⟨rfl, hbx⟩
          have HS1 := Lib.hid (HS0.out.trans (hbx.mono HS0.out.size))
          clear hbx
          refine hK' _ _ ⟨HS1.out, ?_⟩
          clear hK' K'
          try simp only [Act.put, List.setIfInBounds_toArray, List.set_cons_succ, List.set_cons_zero]
          refine wpAnyH_all (rs := [3]) (by kernel_rfl) (by simp) ?_
          intro i hi
          obtain rfl : i = 3 := by simpa using hi
          clear hi
          refine wpOp_step (o := ⟨some 27, _, _, _, _, _⟩) rfl (fun K' hK' => ?_)
          rw [if_pos (show Region.wanted _ _ = true from rfl)]
          go_simp
          (with_reducible refine (HHy.out v1).mono ?_)
          rintro e v2 ⟨rfl, hbx⟩
          have HS2 := Lib.hid (HS1.out.trans (hbx.mono HS1.out.size))
          clear hbx
          refine hK' _ _ ⟨HS2.out, ?_⟩
          clear hK' K'
          try simp only [Act.put, List.setIfInBounds_toArray, List.set_cons_succ, List.set_cons_zero]
          refine wpAnyH_take (i := 4) (oi := ⟨some 9, _, _, _, _, _⟩) (v := ?_) rfl (by kernel_rfl) (by kernel_rfl) (by kernel_rfl) (fun _ _ _ h => h) (Or.inl ⟨by rfl, fun w' hw' => by go_simp; with_reducible rfl⟩) HS2.out ?_
          try simp only [Act.put, List.setIfInBounds_toArray, List.set_cons_succ, List.set_cons_zero]
          refine wpAnyH_take (i := 5) (oi := ⟨some 10, _, _, _, _, _⟩) (v := ?_) rfl (by kernel_rfl) (by kernel_rfl) (by kernel_rfl) (fun _ _ _ h => h) (Or.inl ⟨by rfl, fun w' hw' => by go_simp; with_reducible rfl⟩) HS2.out ?_
          try simp only [Act.put, List.setIfInBounds_toArray, List.set_cons_succ, List.set_cons_zero]
          refine wpAnyH_done (by kernel_rfl) ?_ _
          clear HS1 HS0
          go_wp2
          go_loopw [11] (fun nv wr => ∃ q : Nat, q ≤ 64 ∧ nv = .int .i64 q ∧ Hid (∀ i, i < q → nib x.1 i = nib y.1 i) ∧ Below Y.heap.size Y wr) (fun nv _ => 64 - (intOf nv).toNat)
          case atStart => exact ⟨0, Nat.zero_le _, rfl, Lib.hid (fun i hi => absurd hi (Nat.not_lt_zero _)), HS2.out⟩
          case round =>
            obtain ⟨q, hq, rfl, HN, hB3⟩ := hrel
            have HB3 := Lib.hid hB3
            clear hB3
            by_cases hq64 : q < 64
            · have hx1 := HIX.out q hq64
              have hy1 := HIY.out q hq64
              have hnx := nib_lt hxb q
              have hny := nib_lt hyb q
              have hq0 : decide ((q : Int) < 64) = true := decide_eq_true (by omega)
              by_cases hnib : nib x.1 q = nib y.1 q
              · have hb : (((letter (nib x.1 q) : Nat) : Int) == ((letter (nib y.1 q) : Nat) : Int)) = true := by rw [hnib]; exact beq_self_eq_true _
                have HN2 : Hid (∀ i, i < q + 1 → nib x.1 i = nib y.1 i) := Lib.hid fun i hi => by
                  rcases Nat.lt_or_ge i q with h | h
                  · exact HN.out i h
                  · obtain rfl : i = q := by omega
                    exact hnib
                clear hnib
                go_upto_region 11 with (fail)
                go_quiet (fail)
                go_wp2
                go_roundw
                case rel => exact ⟨q + 1, by omega, by go_num, HN2, below_drewN HB3.out _⟩
                case measure => simp [intOf]; omega
              · have hb : (((letter (nib x.1 q) : Nat) : Int) == ((letter (nib y.1 q) : Nat) : Int)) = false := by
                  rw [beq_eq_false_iff_ne]
                  exact fun e => hnib (letter_inj hnx hny (by omega))
                have hal : alikeOf x.1 y.1 = q := alike_is hq HN.out (fun _ => hnib)
                have HAl := Lib.hid hal
                clear hal hnib
                by_cases hLq : L < q + 1
                · have hLq2 : (L : Int) < (q : Int) + 1 := by omega
                  have HV : Hid (q + 1 = nStep x L y) := Lib.hid (by rw [nStep, HAl.out, if_pos ⟨hq64, hLq⟩])
                  go_upto_region 11 with (fail)
                  go_quiet (fail)
                  go_wp2
                  go_roundw
                  case rel => exact ⟨j + 1, by omega, by go_num, by rw [HSt.out, ← HV.out]; go_num, below_drewN (HBY.out.trans (HB3.out.mono HBY.out.size)) _⟩
                  case measure => simp [intOf]; omega
                · have hLq2 : ¬ (L : Int) < (q : Int) + 1 := by omega
                  have HV : Hid (L = nStep x L y) := Lib.hid (by rw [nStep, if_neg (by rw [HAl.out]; omega)])
                  go_upto_region 11 with (fail)
                  go_quiet (fail)
                  go_wp2
                  go_roundw
                  case rel => exact ⟨j + 1, by omega, by go_num, by rw [HSt.out, ← HV.out], below_drewN (HBY.out.trans (HB3.out.mono HBY.out.size)) _⟩
                  case measure => simp [intOf]; omega
            · have hq0 : decide ((q : Int) < 64) = false := decide_eq_false (by omega)
              have hal : alikeOf x.1 y.1 = q := alike_is hq HN.out (fun h => absurd h hq64)
              have HV : Hid (L = nStep x L y) := Lib.hid (by rw [nStep, if_neg (by rw [hal]; omega)])
              clear hal
              go_upto_region 11 with (fail)
              go_quiet (fail)
              go_wp2
              go_roundw
              case rel => exact ⟨j + 1, by omega, by go_num, by rw [HSt.out, ← HV.out], below_drewN (HBY.out.trans (HB3.out.mono HBY.out.size)) _⟩
              case measure => simp [intOf]; omega
        · obtain rfl : j = ls.length := by omega
          rw [List.take_length]
          have hNl := HNl.out
          generalize needR x ls = NX at HNext hNl ⊢
          have HB := Lib.hid hB
          have HO2 := Lib.hid (own_below HOU.out hB)
          have HBw := Lib.hid (HBU.out.trans (hB.mono HBU.out.size))
          clear hB
          go_wp2_with (first
            | (at_builtin; refine wpList_append_own _ rfl _ _ 68 rfl w.heap.size 3 i0 _ 1 8 Tryd.underlying68 hi0 hz0 hz1 hz2 rfl (by decide) _ _ _ rfl (HO2.out.alloc _) ⟨wr.heap.size, 0, none⟩ 1 1 [.int .i64 (NX : Int)] rfl rfl (cell_row_new _ _ _) (fun u hu => by rw [List.mem_singleton.1 hu]; rfl) (by unfold maxLen; omega) (by omega) (by simp; have := HBw.out.size; omega) ?_; intro v' w3 hown3 hgrow3 _
               have HO3 := Lib.hid hown3
               have HB3 := Lib.hid ((HBw.out.alloc HBw.out.size (.cells #[.int .i64 (NX : Int)] 3)).grown hgrow3 (by simp; have := HBw.out.size; omega) (fun q hq => (HO2.out.lt q hq).1))
               clear hown3 hgrow3))
          go_roundw
          case rel => exact ⟨k + 1, _, rfl, by omega, by go_num, by rw [← HNext.out]; exact HO3.out, HB3.out⟩
          case measure => simp [intOf]; omega
    · obtain rfl : k = ls.length := by omega
      rw [List.take_length] at hO
      have HO := Lib.hid hO
      have HB := Lib.hid hB
      clear hO hB
      go_wp2
      go_ret
      exact ⟨_, rfl, HO.out, HB.out⟩
end Go.Proofs.YtffdkniahdekjaaDoor
end
section
namespace Go.Proofs.YtffdkniahdekjaaDoor
open Go.RowKit Go.Hoar
/-- Where a digest stands first. -/
def firstAt (x : List Nat) : List (List Nat) → Nat
  | [] => 0
  | y :: r => if y = x then 0 else firstAt x r + 1
theorem firstAt_get {x : List Nat} : ∀ ls : List (List Nat), x ∈ ls → ls[firstAt x ls]? = some x
  | [], h => absurd h List.not_mem_nil
  | y :: r, h => by
    rw [firstAt]
    split
    · next e => rw [e]; rfl
    · next e =>
      rw [List.getElem?_cons_succ]
      exact firstAt_get r ((List.mem_cons.1 h).resolve_left (fun k => e k.symm))
theorem firstAt_lt {x : List Nat} {ls : List (List Nat)} (h : x ∈ ls) : firstAt x ls < ls.length := (List.getElem?_eq_some_iff.1 (firstAt_get ls h)).1
theorem firstAt_before {x : List Nat} : ∀ (ls : List (List Nat)) (j : Nat), j < firstAt x ls → ls[j]? ≠ some x
  | [], j, h => absurd h (Nat.not_lt_zero _)
  | y :: r, j, h => by
    rw [firstAt] at h
    split at h
    · exact absurd h (Nat.not_lt_zero _)
    · next e =>
      cases j with
      | zero => intro k; exact e (Option.some.inj k)
      | succ j => rw [List.getElem?_cons_succ]; exact firstAt_before r j (by omega)
theorem findGo_stay {ds x : List Nat} : ∀ (ls : List (List Nat)) (k j : Nat), (∀ y ∈ ls, Starts y ds → y = x) → findGo ds k (some (j, x)) ls = (((j : Nat) : Int), 0)
  | [], k, j, _ => by rw [findGo]
  | y :: r, k, j, h => by
    by_cases hs : Starts y ds
    · obtain rfl := h y List.mem_cons_self hs
      rw [findGo_same hs]
      exact findGo_stay r _ _ (fun z hz => h z (List.mem_cons_of_mem _ hz))
    · rw [findGo_not hs]
      exact findGo_stay r _ _ (fun z hz => h z (List.mem_cons_of_mem _ hz))
theorem findGo_one {ds x : List Nat} (hx : Starts x ds) : ∀ (ls : List (List Nat)) (k : Nat), (∀ y ∈ ls, Starts y ds → y = x) → x ∈ ls → findGo ds k none ls = (((k + firstAt x ls : Nat) : Int), 0)
  | [], k, _, h => absurd h List.not_mem_nil
  | y :: r, k, h, hm => by
    by_cases e : y = x
    · subst e
      rw [findGo_first hx, findGo_stay r _ _ (fun z hz => h z (List.mem_cons_of_mem _ hz)), firstAt, if_pos rfl, Nat.add_zero]
    · rw [findGo_not (fun hs => e (h y List.mem_cons_self hs)), findGo_one hx r (k + 1) (fun z hz => h z (List.mem_cons_of_mem _ hz)) ((List.mem_cons.1 hm).resolve_left (fun q => e q.symm)), firstAt, if_neg e, show k + 1 + firstAt x r = k + (firstAt x r + 1) by omega]
theorem findGo_other {ds y : List Nat} (hy : Starts y ds) : ∀ (ls : List (List Nat)) (k j : Nat) (z : List Nat), y ∈ ls → y ≠ z → findGo ds k (some (j, z)) ls = (0, 7)
  | [], k, j, z, h, _ => absurd h List.not_mem_nil
  | x :: r, k, j, z, h, hne => by
    by_cases hs : Starts x ds
    · by_cases e : x = z
      · subst e
        rw [findGo_same hs]
        exact findGo_other hy r _ _ _ ((List.mem_cons.1 h).resolve_left hne) hne
      · exact findGo_clash hs e
    · rw [findGo_not hs]
      exact findGo_other hy r _ _ _ ((List.mem_cons.1 h).resolve_left (fun q => hs (q ▸ hy))) hne
theorem findGo_two {ds x y : List Nat} (hx : Starts x ds) (hy : Starts y ds) (hxy : x ≠ y) : ∀ (ls : List (List Nat)) (k : Nat), x ∈ ls → y ∈ ls → findGo ds k none ls = (0, 7)
  | [], k, h, _ => absurd h List.not_mem_nil
  | z :: r, k, h1, h2 => by
    by_cases hs : Starts z ds
    · rw [findGo_first hs]
      by_cases e : x = z
      · have hyz : y ≠ z := fun q => hxy (e.trans q.symm)
        exact findGo_other hy r _ _ _ ((List.mem_cons.1 h2).resolve_left hyz) hyz
      · exact findGo_other hx r _ _ _ ((List.mem_cons.1 h1).resolve_left e) e
    · rw [findGo_not hs]
      exact findGo_two hx hy hxy r _ ((List.mem_cons.1 h1).resolve_left (fun q => hs (q ▸ hx))) ((List.mem_cons.1 h2).resolve_left (fun q => hs (q ▸ hy)))
/-- The first letters of a digest's text. -/
def preS (x : List Nat) (v : Nat) : ByteArray := (str (hexOf x)).extract 0 v
theorem hexS_size (x : List Nat) : (str (hexOf x)).size = 64 := by unfold str; simp [ByteArray.size, hexOf]
theorem preS_size (x : List Nat) (v : Nat) (hv : v ≤ 64) : (preS x v).size = v := by
  unfold preS
  rw [ByteArray.size_extract, hexS_size]
  omega
theorem preS_at (x : List Nat) (hxb : Sha.Bytes x) (v : Nat) (hv : v ≤ 64) (i : Nat) (hi : i < v) : byteAt (preS x v) i = letter (nib x i) := by
  have hs := preS_size x v hv
  have h1 := hexS_size x
  rw [← byteAt_eq _ i (by omega), ← byteAt_hex x hxb i (by omega), ← byteAt_eq _ i (by omega)]
  unfold preS
  rw [ByteArray.getElem_extract]
  simp only [Nat.zero_add]
theorem letter_dig {k : Nat} (h : k < 16) : IsDig (letter k) := by
  unfold IsDig letter
  split <;> omega
theorem preS_dig (x : List Nat) (hxb : Sha.Bytes x) (v : Nat) (hv : v ≤ 64) : AllDig (preS x v) := fun i hi => by
  rw [preS_size x v hv] at hi
  rw [preS_at x hxb v hv i hi]
  exact letter_dig (nib_lt hxb i)
theorem preS_digs (x : List Nat) (hxb : Sha.Bytes x) (v : Nat) (hv : v ≤ 64) (i : Nat) (hi : i < v) : (digsK (preS x v) (preS x v).size).getD i 0 = nib x i := by
  rw [preS_size x v hv, List.getD_eq_getElem?_getD, digsK, List.getElem?_map, List.getElem?_range hi]
  show valOf (byteAt (preS x v) i) = nib x i
  rw [preS_at x hxb v hv i hi, val_letter (nib_lt hxb i)]
theorem starts_pre (x y : List Nat) (hxb : Sha.Bytes x) (v : Nat) (hv : v ≤ 64) : Starts y (digsK (preS x v) (preS x v).size) ↔ v ≤ alikeOf x y := by
  have hl : (digsK (preS x v) (preS x v).size).length = v := by rw [digsK_length, preS_size x v hv]
  constructor
  · intro h
    exact alike_ge x y v hv fun j hj => ((h j (by omega)).trans (preS_digs x hxb v hv j hj)).symm
  · intro h i hi
    rw [hl] at hi
    rw [preS_digs x hxb v hv i hi]
    exact (alike_same x y i (by omega)).symm
theorem find_own (xs : List Dig) (x : Dig) (hx : x ∈ xs) : findGo (digsK (preS x.1 (needR x xs)) (preS x.1 (needR x xs)).size) 0 none (xs.map (·.1)) = (((firstAt x.1 (xs.map (·.1)) : Nat) : Int), 0) := by
  obtain ⟨_, b, c, _⟩ := needR_good x xs
  have h := findGo_one (ds := digsK (preS x.1 (needR x xs)) (preS x.1 (needR x xs)).size) (x := x.1) ((starts_pre x.1 x.1 x.2.2 _ b).2 (by rw [alike_self]; exact b)) (xs.map (·.1)) 0 (fun y hy hs => by
    obtain ⟨z, hz, rfl⟩ := List.mem_map.1 hy
    have h1 := (starts_pre x.1 z.1 x.2.2 _ b).1 hs
    by_cases e : z = x
    · rw [e]
    · have := c z hz e
      omega) (List.mem_map.2 ⟨x, hx, rfl⟩)
  rw [Nat.zero_add] at h
  exact h
theorem find_whole (xs : List Dig) (x : Dig) (hx : x ∈ xs) : findGo (digsK (str (hexOf x.1)) (str (hexOf x.1)).size) 0 none (xs.map (·.1)) = (((firstAt x.1 (xs.map (·.1)) : Nat) : Int), 0) := by
  have e : str (hexOf x.1) = preS x.1 64 := by
    unfold preS
    have h := hexS_size x.1
    rw [← h, ByteArray.extract_zero_size]
  rw [e]
  have h := findGo_one (ds := digsK (preS x.1 64) (preS x.1 64).size) (x := x.1) ((starts_pre x.1 x.1 x.2.2 _ (Nat.le_refl _)).2 (by rw [alike_self]; exact Nat.le_refl _)) (xs.map (·.1)) 0 (fun y hy hs => by
    obtain ⟨z, hz, rfl⟩ := List.mem_map.1 hy
    have h1 := (starts_pre x.1 z.1 x.2.2 _ (Nat.le_refl _)).1 hs
    have h2 := alike_le x.1 z.1
    rw [alike_all (show alikeOf x.1 z.1 = 64 by omega)]) (List.mem_map.2 ⟨x, hx, rfl⟩)
  rw [Nat.zero_add] at h
  exact h
theorem find_less (xs : List Dig) (x : Dig) (hx : x ∈ xs) (h1 : 1 < needR x xs) : findGo (digsK (preS x.1 (needR x xs - 1)) (preS x.1 (needR x xs - 1)).size) 0 none (xs.map (·.1)) = (0, 7) := by
  obtain ⟨_, b, _, d⟩ := needR_good x xs
  rcases d with d | ⟨y, hy, hne, e⟩
  · omega
  · have hb : needR x xs - 1 ≤ 64 := by omega
    exact findGo_two ((starts_pre x.1 x.1 x.2.2 _ hb).2 (by rw [alike_self]; exact hb)) ((starts_pre x.1 y.1 x.2.2 _ hb).2 (by omega)) (fun q => hne (Subtype.ext q.symm)) _ _ (List.mem_map.2 ⟨x, hx, rfl⟩) (List.mem_map.2 ⟨y, hy, rfl⟩)
end Go.Proofs.YtffdkniahdekjaaDoor
end
section
namespace Go.Proofs.YtffdkniahdekjaaDoor
open Go.RowKit Go.Hoar
/-- Where two lists of bytes first differ decides. -/
theorem first_decides : ∀ (k : Nat) (a b : List UInt8) (x y : UInt8), (∀ j, j < k → a[j]? = b[j]?) → a[k]? = some x → b[k]? = some y → x < y → Lib.compareBytes a b = -1 ∧ Lib.compareBytes b a = 1 ∧ Op.bytesLess a b = true ∧ Op.bytesLess b a = false
  | 0, [], _, _, _, _, h, _, _ => by simp at h
  | 0, _ :: _, [], _, _, _, _, h, _ => by simp at h
  | 0, p :: a, q :: b, x, y, _, hx, hy, hxy => by
    obtain rfl : p = x := by simpa using hx
    obtain rfl : q = y := by simpa using hy
    have h2 : ¬ q < p := UInt8.lt_asymm hxy
    have h3 : (q == p) = false := beq_eq_false_iff_ne.2 (fun e => UInt8.lt_irrefl _ (e ▸ hxy))
    refine ⟨?_, ?_, ?_, ?_⟩
    · rw [Lib.compareBytes, if_pos hxy]
    · rw [Lib.compareBytes, if_neg h2, if_pos hxy]
    · rw [Op.bytesLess, decide_eq_true hxy, Bool.true_or]
    · rw [Op.bytesLess, decide_eq_false h2, h3]; rfl
  | k + 1, [], _, _, _, _, h, _, _ => by simp at h
  | k + 1, _ :: _, [], _, _, _, _, h, _ => by simp at h
  | k + 1, p :: a, q :: b, x, y, hj, hx, hy, hxy => by
    obtain rfl : p = q := by have := hj 0 (by omega); simpa using this
    obtain ⟨h1, h2, h3, h4⟩ := first_decides k a b x y (fun j h => by have := hj (j + 1) (by omega); simpa using this) (by simpa using hx) (by simpa using hy) hxy
    have i1 := UInt8.lt_irrefl p
    refine ⟨?_, ?_, ?_, ?_⟩
    · rw [Lib.compareBytes, if_neg i1, if_neg i1]; exact h1
    · rw [Lib.compareBytes, if_neg i1, if_neg i1]; exact h2
    · rw [Op.bytesLess, h3]; simp
    · rw [Op.bytesLess, h4, decide_eq_false i1]; simp
theorem less_self : ∀ a : List UInt8, Lib.compareBytes a a = 0 ∧ Op.bytesLess a a = false
  | [] => ⟨rfl, rfl⟩
  | p :: a => by
    obtain ⟨h1, h2⟩ := less_self a
    have i1 := UInt8.lt_irrefl p
    exact ⟨by rw [Lib.compareBytes, if_neg i1, if_neg i1]; exact h1, by rw [Op.bytesLess, h2, decide_eq_false i1]; simp⟩
theorem hexS_list (x : List Nat) : (str (hexOf x)).toList = (hexOf x).map UInt8.ofNat := by
  rw [Lib.toList_data]
  unfold str
  rfl
theorem hexS_at (x : List Nat) (k : Nat) (hk : k < 64) : (str (hexOf x)).toList[k]? = some (UInt8.ofNat (letter (nib x k))) := by
  rw [hexS_list, List.getElem?_map, hexOf, List.getElem?_map, List.getElem?_range hk]
  rfl
theorem key_at (x : List Nat) (hl : x.length = 32) (k : Nat) (hk : k < 32) : (Lib.bytesOf (asInts x))[k]? = some (UInt8.ofNat (16 * nib x (2 * k) + nib x (2 * k + 1))) := by
  have e : Lib.bytesOf (asInts x) = x.map UInt8.ofNat := by unfold Lib.bytesOf asInts; simp
  rw [e, List.getElem?_map, ← nib_two x k, List.getD_eq_getElem?_getD, List.getElem?_eq_getElem (by omega)]
  rfl
theorem ofNat_lt {a b : Nat} (h : a < b) (hb : b < 256) : UInt8.ofNat a < UInt8.ofNat b := by
  rw [UInt8.lt_iff_toNat_lt]
  simp only [UInt8.toNat_ofNat']
  omega
theorem letter_lt {a b : Nat} (h : a < b) (hb : b < 16) : letter a < letter b := by
  unfold letter
  split <;> split <;> omega
/-- The order of two digests is that of their texts: the first digit that differs decides. -/
theorem order_one (x y : Dig) (h : nib x.1 (alikeOf x.1 y.1) < nib y.1 (alikeOf x.1 y.1)) (hk : alikeOf x.1 y.1 < 64) :
    comp x.1 y.1 = -1 ∧ comp y.1 x.1 = 1 ∧ Op.bytesLess (str (hexOf x.1)).toList (str (hexOf y.1)).toList = true ∧ Op.bytesLess (str (hexOf y.1)).toList (str (hexOf x.1)).toList = false := by
  have hs := alike_same x.1 y.1
  generalize alikeOf x.1 y.1 = k at *
  have hx := x.2
  have hy := y.2
  have n1 := nib_lt hx.2 k
  have n2 := nib_lt hy.2 k
  have t := first_decides k (str (hexOf x.1)).toList (str (hexOf y.1)).toList _ _ (fun j hj => by rw [hexS_at _ j (by omega), hexS_at _ j (by omega), hs j hj]) (hexS_at _ k hk) (hexS_at _ k hk) (ofNat_lt (letter_lt h n2) (letter_small n2))
  have c := first_decides (k / 2) (Lib.bytesOf (asInts x.1)) (Lib.bytesOf (asInts y.1)) _ _ (fun j hj => by rw [key_at _ hx.1 j (by omega), key_at _ hy.1 j (by omega), hs (2 * j) (by omega), hs (2 * j + 1) (by omega)]) (key_at _ hx.1 (k / 2) (by omega)) (key_at _ hy.1 (k / 2) (by omega)) (by
    have a1 := nib_lt hx.2 (2 * (k / 2))
    have a2 := nib_lt hx.2 (2 * (k / 2) + 1)
    have b1 := nib_lt hy.2 (2 * (k / 2))
    have b2 := nib_lt hy.2 (2 * (k / 2) + 1)
    refine ofNat_lt ?_ (by omega)
    by_cases he : k % 2 = 0
    · rw [show 2 * (k / 2) = k by omega] at *
      omega
    · have e := hs (2 * (k / 2)) (by omega)
      rw [show 2 * (k / 2) + 1 = k by omega] at *
      omega)
  exact ⟨c.1, c.2.1, t.2.2.1, t.2.2.2⟩
theorem hexS_inj {x y : Dig} (h : str (hexOf x.1) = str (hexOf y.1)) : x = y := by
  refine alike_all (Nat.le_antisymm (alike_le _ _) (alike_ge _ _ _ (Nat.le_refl _) (fun j hj => ?_)))
  have a := byteAt_hex x.1 x.2.2 j hj
  have b := byteAt_hex y.1 y.2.2 j hj
  rw [h] at a
  exact letter_inj (nib_lt x.2.2 j) (nib_lt y.2.2 j) (a.symm.trans b)
/-- What the two comparisons of the texts give, and those of the digests. -/
theorem order_all (x y : Dig) : ∃ (lt eq : Bool) (o : Int), Op.bytesLess (str (hexOf x.1)).toList (str (hexOf y.1)).toList = lt ∧ ((str (hexOf x.1)).toList == (str (hexOf y.1)).toList) = eq ∧ comp x.1 y.1 = o ∧ comp y.1 x.1 = -o ∧ ((lt = true ∧ eq = false ∧ o = -1) ∨ (lt = false ∧ eq = false ∧ o = 1) ∨ (lt = false ∧ eq = true ∧ o = 0)) := by
  by_cases e : x = y
  · subst e
    refine ⟨false, true, 0, (less_self _).2, by simp, ?_, ?_, .inr (.inr ⟨rfl, rfl, rfl⟩)⟩
    · exact (less_self _).1
    · exact (less_self _).1
  · have hk := alike_lt e
    have hne := alike_at x.1 y.1 hk
    have hb : ((str (hexOf x.1)).toList == (str (hexOf y.1)).toList) = false := beq_eq_false_iff_ne.2 (fun h => e (hexS_inj (toList_inj h)))
    rcases Nat.lt_or_gt_of_ne hne with h | h
    · obtain ⟨a, b, c, d⟩ := order_one x y h hk
      exact ⟨true, false, -1, c, hb, a, by rw [b]; rfl, .inl ⟨rfl, rfl, rfl⟩⟩
    · have ec := alike_comm x.1 y.1
      rw [ec] at h hk
      obtain ⟨a, b, c, d⟩ := order_one y x h hk
      exact ⟨false, false, 1, d, hb, b, by rw [a], .inr (.inl ⟨rfl, rfl, rfl⟩)⟩
/-- What a text of digits is read as. -/
theorem packK_bytes (s : ByteArray) (h : s.size = 64) (hd : AllDig s) : (packK s 32).length = 32 ∧ Sha.Bytes (packK s 32) := ⟨packK_length s 32, fun v hv => by
  rw [packK, List.mem_map] at hv
  obtain ⟨i, hi, rfl⟩ := hv
  have hi := List.mem_range.1 hi
  have a := valOf_lt (hd (2 * i) (by omega))
  have b := valOf_lt (hd (2 * i + 1) (by omega))
  omega⟩
theorem packK_nib (s : ByteArray) (h : s.size = 64) (hd : AllDig s) (j : Nat) (hj : j < 64) : nib (packK s 32) j = valOf (byteAt s j) := by
  have e : (packK s 32).getD (j / 2) 0 = valOf (byteAt s (2 * (j / 2))) * 16 + valOf (byteAt s (2 * (j / 2) + 1)) := by
    rw [List.getD_eq_getElem?_getD, packK, List.getElem?_map, List.getElem?_range (by omega)]
    rfl
  have a := valOf_lt (hd (2 * (j / 2)) (by omega))
  have b := valOf_lt (hd (2 * (j / 2) + 1) (by omega))
  unfold nib
  rw [e]
  split
  · rw [show 2 * (j / 2) = j by omega] at *
    omega
  · rw [show 2 * (j / 2) + 1 = j by omega] at *
    omega
theorem hex_pack (s : ByteArray) (h : s.size = 64) (hd : AllDig s) : str (hexOf (packK s 32)) = s := by
  refine ByteArray.ext_getElem (by rw [hexS_size, h]) ?_
  intro i h1 h2
  apply UInt8.toNat_inj.1
  rw [byteAt_eq _ i h1, byteAt_eq _ i h2, byteAt_hex _ (packK_bytes s h hd).2 i (by omega), packK_nib s h hd i (by omega), letter_val (hd i h2)]
theorem pack_hex (x : Dig) : AllDig (str (hexOf x.1)) ∧ packK (str (hexOf x.1)) 32 = x.1 := by
  have hd : AllDig (str (hexOf x.1)) := fun i hi => by
    rw [hexS_size] at hi
    rw [byteAt_hex x.1 x.2.2 i hi]
    exact letter_dig (nib_lt x.2.2 i)
  have hp := packK_bytes _ (hexS_size x.1) hd
  have := hexS_inj (x := ⟨packK (str (hexOf x.1)) 32, hp⟩) (y := x) (hex_pack _ (hexS_size x.1) hd)
  exact ⟨hd, congrArg Subtype.val this⟩
end Go.Proofs.YtffdkniahdekjaaDoor
end
