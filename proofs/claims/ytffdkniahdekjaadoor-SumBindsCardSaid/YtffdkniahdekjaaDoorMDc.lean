/-
  THE LAWS' read: the bytes that are made on the way of a place.
-/
import Derived.Test.YtffdkniahdekjaaDoorMDa
import Derived.Test.YtffdkniahdekjaaDoorMDb
section
namespace Go.Proofs.YtffdkniahdekjaaDoor
open Go.RowKit Go.Hoar
noncomputable def rdOps (k : Nat) : Array Oper := (Tryd.f55.body.bind (opsAt k)).getD #[]
theorem own_not_sum {w : World} {base n g : Nat} {v : Value} {xs : List Value} {cs : Array Value} (h : w.ownsRow base 22 1 v n xs) (hh : Has w g 26 cs) : some g ≠ v.ownBlock := by
  intro e
  rcases h.2 with ⟨rfl, _⟩ | ⟨g', cap, cur, rfl, _, h2, _⟩
  · cases e
  · obtain rfl : g = g' := Option.some.inj e
    have h3 : w.heap[g]? = some (.cells cs 26 (0, 0)) := hh
    rw [h3] at h2
    injection h2 with h2
    injection h2 with _ h2
    exact absurd h2 (by decide)
def ReadOk (f : Nat) : Prop := ∀ (n i : Nat) (x : List Nat) (way : List (List Nat)) (a : Option Addr) (c : Nat) (w : World) (k : Nat), 1 ≤ n → n ≤ 100 → i < n → f ≤ 200 → x.length = 32 ∧ Sha.Bytes x → SumsOk way → (climb f n i x way).2 = true → way.length = k → RowOk w a c way → ConstAt w →
    Calls Tryd.prog 55 #[.int .i64 (n : Int), .int .i64 (i : Int), .agg (arr32 x), .slice a k c] w fun e w' => ∃ v vals, e = .returned v ∧ w'.ownsRow w.heap.size 22 1 v (readOf f n i x way).length vals ∧ BRows w' vals (readOf f n i x way) ∧ Below w.heap.size w w'
set_option maxRecDepth 100000 in
set_option maxHeartbeats 3000000 in
theorem read_one (f i : Nat) (x : List Nat) (way : List (List Nat)) (hx : x.length = 32 ∧ Sha.Bytes x) (a : Option Addr) (c k : Nat) (w : World) (hc : ConstAt w) :
    Calls Tryd.prog 55 #[.int .i64 1, .int .i64 (i : Int), .agg (arr32 x), .slice a k c] w fun e w' => ∃ v vals, e = .returned v ∧ w'.ownsRow w.heap.size 22 1 v (readOf (f + 1) 1 i x way).length vals ∧ BRows w' vals (readOf (f + 1) 1 i x way) ∧ Below w.heap.size w w' := by
  obtain ⟨i9, hi9, hz90, hz91, _⟩ := info_parts sumInfo3
  obtain ⟨out, hout⟩ : ∃ out, out = Sha.sha (1 :: x) := ⟨_, rfl⟩
  have hol : out.length = 32 := by rw [hout]; exact (sha_bytes _).1
  have hx1 := hx.1
  have HJ : Hid (∀ (gq : Nat) (V : World), Below w.heap.size w V → V.ownsRow w.heap.size 26 32 (.slice (some ⟨gq, 0, none⟩) 1 1) 1 ([x].flatMap cellsOf) → Calls Tryd.prog 86 #[.int .u8 1, .slice (some ⟨gq, 0, none⟩) 1 1] V fun e w' => ∃ g7 c7, e = .returned (.tuple #[.agg (arr32 out), .slice (some ⟨g7, 0, none⟩) 33 c7]) ∧ BPart w' (.slice (some ⟨g7, 0, none⟩) 33 c7) (1 :: x) ∧ Below V.heap.size V w') := Lib.hid fun gq V hV ho => by
    have h := joined_lit 1 (by decide) [x] (fun l hl => by rw [List.mem_singleton.1 hl]; exact hx) 1 rfl (by decide) gq 1 w.heap.size V ho (hc.below hV rfl) 33 rfl
    have e : [x].flatten = x := by simp
    rw [e, ← hout] at h
    exact h
  have HI := Lib.hid (arr32_info x (by omega))
  have HIo := Lib.hid (arr32_info out (by omega))
  have HSo := Lib.hid (zero32_size out (by omega))
  have HSx : Hid ((arr32 x).size = i9.size) := Lib.hid (by rw [hz91]; exact arr32_size x (by omega))
  have hsz : (arr32 x).size = 32 := arr32_size x (by omega)
  have HF0 : Hid (∀ V : World, Has (V.alloc (.cells zero32 26)) V.heap.size 26 zero32) := Lib.hid fun V => fresh_sum V
  have HS1 : Hid ((arr32 x).size ≤ 1000) := Lib.hid (by omega)
  have HS2 : Hid (0 < (arr32 x).size) := Lib.hid (by omega)
  have HRf : Hid (readOf (f + 1) 1 i x way = [1 :: x]) := Lib.hid (by rw [readOf, if_pos (Nat.le_refl _)])
  clear hc hout hsz
  go_enter Tryd.func55, Tryd.ntmps55
  go_upto_region 1 with (fail)
  refine gen_world (P := fun W => Code.wp _ _ _ _ W) (I := fun W => Below w.heap.size w W ∧ Has W w.heap.size 26 (arr32 x)) _ ⟨(Below.refl _ w).alloc (Nat.le_refl _) _, Has.fresh_at _ _ _ _ rfl⟩ ?_
  rintro w1 ⟨hB, hX⟩
  have HB1 := Lib.hid hB
  have HX1 := Lib.hid hX
  have HOx := Lib.hid (own_lit1 x hx1 (V := w1) (base := w.heap.size) hB.size)
  have HBx := Lib.hid (hB.alloc hB.size (.cells (arr32 x) 26))
  clear hB hX
  go_upto_region 3 with (first
    | ((with_reducible refine arm_load ⟨w.heap.size, 0, none⟩ (arr32 x) _ HX1.out.row Tryd.underlying26 HI.out ?h1 ?h2 ?_); (case h1 => rfl); (case h2 => rfl))
    | ((with_reducible refine arm_slice1 26 i9 _ (arr32 x) Tryd.underlying49 hi9 hz90 HSx.out HS1.out HS2.out ?s3 ?_); (case s3 => rfl))
    | (go_at_call 86; (with_reducible refine (HJ.out _ _ HBx.out HOx.out).mono ?_); rintro e w2 ⟨g7, c7, rfl, hv, hb⟩; have HB2 := Lib.hid (HBx.out.trans (hb.mono HBx.out.size)); have HV2 := Lib.hid hv; have HF := Lib.hid (HF0.out w2); clear hb hv)
    | ((with_reducible refine arm_store w2.heap.size (arr32 out) 26 zero32 HF.out HSo.out HIo.out (arr32_one _) ?h5 ?h6 ?_); (case h5 => rfl); (case h6 => rfl)))
  refine gen_world (P := fun W => Code.wp _ _ _ _ W) (I := fun V => Below w.heap.size w V ∧ BPart V (.slice (some ⟨g7, 0, none⟩) 33 c7) (1 :: x)) _ ⟨below_setRow (HB2.out.alloc HB2.out.size _) HB2.out.size _, (HV2.out.below ((Below.refl _ w2).alloc (Nat.le_refl _) _)).setRow (bpart_not_sum (HV2.out.below ((Below.refl _ w2).alloc (Nat.le_refl _) _)) HF.out) _⟩ ?_
  rintro V ⟨hB, hV⟩
  have HB := Lib.hid hB
  have HV := Lib.hid hV
  clear hB hV HF HB2 HV2
  go_wp2
  go_ret
  rw [HRf.out]
  exact ⟨_, [.slice (some ⟨g7, 0, none⟩) 33 c7], rfl, own_one (Has.fresh _ _ _) HB.out.size, ⟨HV.out.below ((Below.refl _ V).alloc (Nat.le_refl _) _), trivial⟩, HB.out.alloc HB.out.size _⟩
set_option maxRecDepth 100000 in
set_option maxHeartbeats 6000000 in
theorem read_many (f : Nat) (ih : ReadOk f) (n i : Nat) (x : List Nat) (way : List (List Nat)) (last : List Nat) (h2 : 2 ≤ n) (hn : n ≤ 100) (hi : i < n) (hf : f ≤ 200) (hx : x.length = 32 ∧ Sha.Bytes x) (hok : SumsOk (way ++ [last])) (hcl : (climb (f + 1) n i x (way ++ [last])).2 = true) (k : Nat) (hk : way.length = k) (g off c : Nat) (w : World) (hs : SumsAt w g off (way ++ [last])) (hg : g < w.heap.size) (hkc : k + 1 ≤ c) (hcm : c ≤ maxLen) (hc : ConstAt w) :
    Calls Tryd.prog 55 #[.int .i64 (n : Int), .int .i64 (i : Int), .agg (arr32 x), .slice (some ⟨g, off, none⟩) (k + 1) c] w fun e w' => ∃ v vals, e = .returned v ∧ w'.ownsRow w.heap.size 22 1 v (readOf (f + 1) n i x (way ++ [last])).length vals ∧ BRows w' vals (readOf (f + 1) n i x (way ++ [last])) ∧ Below w.heap.size w w' := by
  obtain ⟨i9, hi9, hz90, hz91, _⟩ := info_parts sumInfo3
  obtain ⟨ib, hib, hb10, hb11, hb12⟩ := info_parts bytesInfo3
  have hll : last.length = 32 ∧ Sha.Bytes last := hok last (by simp)
  have hwok : SumsOk way := fun l hl => hok l (List.mem_append_left _ hl)
  have hx1 := hx.1
  have hl1 := hll.1
  obtain ⟨q, hq⟩ : ∃ q, q = halfOf n := ⟨_, rfl⟩
  obtain ⟨_, b2, _⟩ := halfOf_bounds (n := n) h2 (by omega)
  have b1 := halfOf_pos n
  rw [← hq] at b1 b2
  unfold maxLen at hcm
  have HrW : Hid (∀ V, Below w.heap.size w V → RowOk V (some ⟨g, off, none⟩) c way) := Lib.hid fun V hV => .inr ⟨g, off, rfl, Nat.lt_of_lt_of_le hg hV.size, by have h := (hs.below hg hV).take way.length; rwa [List.take_left] at h, by omega, by unfold maxLen; omega⟩
  have HRl : Hid (∀ V, Below w.heap.size w V → ∀ j u, (arr32 last)[j]? = some u → V.cell? ((⟨g, off + k * 32, none⟩ : Addr).add j) = some u) := Lib.hid fun V hV => (hs.below hg hV).row (i := k) (by rw [← hk]; simp)
  have HF0 : Hid (∀ V : World, Has (V.alloc (.cells zero32 26)) V.heap.size 26 zero32) := Lib.hid fun V => fresh_sum V
  have HIx := Lib.hid (arr32_info x (by omega))
  have HIl := Lib.hid (arr32_info last (by omega))
  have HSl := Lib.hid (zero32_size last (by omega))
  have HSzl : Hid ((arr32 last).size = i9.size) := Lib.hid (by rw [hz91]; exact arr32_size last (by omega))
  have HLok := Lib.hid hll
  have HLl := Lib.hid hll.1
  have HXok := Lib.hid hx
  have HWok := Lib.hid hwok
  have HIh := Lib.hid ih
  have HCl := Lib.hid hcl
  have HKl := Lib.hid hk
  have HQ := Lib.hid hq
  have HC := Lib.hid hc
  have hkf : k ≤ 200 := by have h := cl_len (f + 1) n i x _ HCl.out; rw [List.length_append, List.length_singleton, HKl.out] at h; omega
  have hk1 : (k : Int) + 1 - 1 = (k : Int) := by omega
  clear hs hq hc ih hok hcl hk hll hwok hx
  go_enter Tryd.func55, Tryd.ntmps55
  go_upto_region 1 with (fail)
  refine gen_world (P := fun W => Code.wp _ _ _ _ W) (I := fun W => Below w.heap.size w W ∧ Has W w.heap.size 26 (arr32 x)) _ ⟨(Below.refl _ w).alloc (Nat.le_refl _) _, Has.fresh_at _ _ _ _ rfl⟩ ?_
  rintro w1 ⟨hB, hX⟩
  have HB1 := Lib.hid hB
  have HX1 := Lib.hid hX
  have hn1 : ¬ (n : Int) = 1 := by omega
  clear hB hX
  go_wp2
  go_loop [11] (fun v => ∃ e : Nat, 2 ^ e < n ∧ v = .int .i64 ((2 ^ e : Nat) : Int)) (fun v => n - (intOf v).toNat)
  case atStart => exact ⟨0, by omega, rfl⟩
  case round =>
    obtain ⟨e, he, rfl⟩ := hrel
    have HK := Lib.hid (show 2 ^ (e + 1) = 2 * 2 ^ e by rw [Nat.pow_succ]; omega)
    have HE : Hid (n ≤ 2 * 2 ^ e → 2 ^ e = q) := Lib.hid fun h => by rw [HQ.out]; exact (halfOf_is n e he h (by omega)).symm
    have HP := Lib.hid (Nat.two_pow_pos e)
    by_cases hlt : 2 * 2 ^ e < n
    · generalize 2 ^ e = p at *
      have hp := HP.out
      have hlt2 : 2 * (p : Int) < (n : Int) := by omega
      go_wp2
      go_round
      case rel => exact ⟨e + 1, by rw [HK.out]; exact hlt, by rw [HK.out]; go_num⟩
      case measure => simp [intOf]; omega
    · have hpq := HE.out (by omega)
      clear HK HE HP
      generalize 2 ^ e = p at *
      subst hpq
      have hlt2 : ¬ 2 * (p : Int) < (n : Int) := by omega
      have hkc2 : k < c := by omega
      have hkc3 : ¬ c < k := by omega
      have hkc4 : k ≤ c := by omega
      have hwk : IntKind.i64.wrap (k : Int) = (k : Int) := IntWalk.i64_in _ (by omega)
      have HF1 := Lib.hid (HF0.out w1)
      go_upto_region 8 with (first
        | ((with_reducible refine arm_load ⟨g, off + k * 32, none⟩ (arr32 last) _ (HRl.out _ HB1.out) Tryd.underlying26 HIl.out ?h1 ?h2 ?_); (case h1 => rfl); (case h2 => rfl))
        | ((with_reducible refine arm_store w1.heap.size (arr32 last) 26 zero32 HF1.out HSl.out HIl.out (arr32_one _) ?h5 ?h6 ?_); (case h5 => rfl); (case h6 => rfl)))
      refine gen_world (P := fun W => Code.wp _ _ _ _ W) (I := fun V => Below w.heap.size w V ∧ Has V w.heap.size 26 (arr32 x) ∧ Has V w1.heap.size 26 (arr32 last)) _ ⟨below_setRow (HB1.out.alloc HB1.out.size _) HB1.out.size _, (HX1.out.alloc _).setRow_apart (by have := HX1.out.lt; omega), HF1.out.setRow⟩ ?_
      rintro w5 ⟨hB, hX, hL⟩
      generalize w1.heap.size = g12 at hL ⊢
      have hg6x := hX.lt
      have hg12 := hL.lt
      have HB5 := Lib.hid hB
      have HX5 := Lib.hid hX
      have HL5 := Lib.hid hL
      clear hB hX hL HB1 HX1 HF1
      by_cases hip : i < p
      · have hip2 : (i : Int) < (p : Int) := by omega
        obtain ⟨BS, hBS⟩ : ∃ B, B = readOf f p i x way := ⟨_, rfl⟩
        obtain ⟨A, hA⟩ : ∃ A, A = Sha.sha (BS.headD []) := ⟨_, rfl⟩
        have hp0 : p = halfOf n := HQ.out
        have hcl := HCl.out
        rw [cl_left (by omega) (by rw [← hp0]; omega), ← hp0] at hcl
        have hrf : readOf (f + 1) n i x (way ++ [last]) = (2 :: (A ++ last)) :: BS := by rw [readOf_left (by omega) (by rw [← hp0]; omega), ← hp0, ← hBS, ← hA]
        obtain ⟨hne, _⟩ := read_head f p i x way hcl
        rw [← hBS] at hne
        have hAok : A.length = 32 ∧ Sha.Bytes A := by rw [hA]; exact sha_bytes _
        obtain ⟨N, hN⟩ : ∃ N, BS.length = N := ⟨_, rfl⟩
        have hNp : 0 < N := by rw [← hN]; exact List.length_pos_iff.2 hne
        have hNf : N ≤ f := by rw [← hN, hBS]; exact readOf_len _ _ _ _ _
        have HRd : Hid (∀ V, Below w5.heap.size w5 V → Calls Tryd.prog 55 #[.int .i64 (p : Int), .int .i64 (i : Int), .agg (arr32 x), .slice (some ⟨g, off, none⟩) k c] V fun e w' => ∃ gl cl vl, e = .returned (.slice (some ⟨gl, 0, none⟩) N cl) ∧ w'.ownsRow V.heap.size 22 1 (.slice (some ⟨gl, 0, none⟩) N cl) N vl ∧ BRows w' vl BS ∧ Below V.heap.size V w') := Lib.hid fun V hV => by
          have hVw := HB5.out.trans (hV.mono HB5.out.size)
          have h := HIh.out p i x way _ c V k (by omega) (by omega) (by omega) (by omega) HXok.out HWok.out hcl HKl.out (HrW.out V hVw) (HC.out.below hVw rfl)
          rw [← hBS, hN] at h
          refine h.mono ?_
          rintro e w' ⟨v, vals, rfl, ho, hr, hb⟩
          obtain ⟨a, cl, rfl, _, _⟩ := own_shape ho
          obtain ⟨gl, rfl, _, _⟩ := own_addr ho hNp
          exact ⟨gl, cl, vals, rfl, ho, hr, hb⟩
        have HBy0 : Hid (∀ b ∈ BS, Sha.Bytes b ∧ b.length ≤ 1000000) := Lib.hid (by rw [hBS]; exact readOf_bytes f _ _ x way HXok.out HWok.out)
        have HAe := Lib.hid hA
        have HNl := Lib.hid hN
        have HRf := Lib.hid hrf
        have HAok := Lib.hid hAok
        have HLa := Lib.hid hAok.1
        have HSza : Hid ((arr32 A).size = i9.size) := Lib.hid (by rw [hz91]; exact arr32_size A (by omega))
        clear hBS hA hp0 hcl hrf hne hAok hN
        go_upto_region 9 with (fail)
        change Code.wp _ (Code.region 9 (rdOps 9) true) _ _ _
        refine wp_region_held (S := fun V => Below w5.heap.size w5 V) (by kernel_rfl) ?_
        have hsz : (rdOps 9).size = 10 := by kernel_rfl
        rw [hsz]
        clear hsz
        refine gen_world (P := fun W' => wpAnyH _ _ _ _ _ _ _ _ W') (I := fun V => Below w5.heap.size w5 V) _ (Below.refl _ w5).drew ?_
        rintro y0 hB
        have HBy := Lib.hid hB
        clear hB
        refine wpAnyH_take (i := 0) (oi := ⟨some 44, _, _, _, _, _⟩) (v := .int .i64 (p : Int)) rfl (by kernel_rfl) (by kernel_rfl) (by kernel_rfl) (fun _ _ _ h => h) (Or.inl ⟨by rfl, fun w' hw' => by go_simp⟩) HBy.out ?_
        try simp only [Act.put, List.setIfInBounds_toArray, List.set_cons_succ, List.set_cons_zero]
        refine wpAnyH_take (i := 1) (oi := ⟨some 45, _, _, _, _, _⟩) (v := .int .i64 (i : Int)) rfl (by kernel_rfl) (by kernel_rfl) (by kernel_rfl) (fun _ _ _ h => h) (Or.inl ⟨by rfl, fun w' hw' => by go_simp⟩) HBy.out ?_
        try simp only [Act.put, List.setIfInBounds_toArray, List.set_cons_succ, List.set_cons_zero]
        refine wpAnyH_take (i := 2) (oi := ⟨some 46, _, _, _, _, none⟩) (v := .agg (arr32 x)) rfl (by kernel_rfl) (by kernel_rfl) (by kernel_rfl) (fun _ _ _ h => h) (yieldsIf_load ⟨w.heap.size, 0, none⟩ _ _ (fun w hw => (HX5.out.below hw hg6x).row) Tryd.underlying26 HIx.out rfl rfl) HBy.out ?_
        try simp only [Act.put, List.setIfInBounds_toArray, List.set_cons_succ, List.set_cons_zero]
        refine wpAnyH_take (i := 3) (oi := ⟨some 47, _, _, _, _, _⟩) (v := .slice (some ⟨g, off, none⟩) (k + 1) c) rfl (by kernel_rfl) (by kernel_rfl) (by kernel_rfl) (fun _ _ _ h => h) (Or.inl ⟨by rfl, fun w' hw' => by go_simp⟩) HBy.out ?_
        try simp only [Act.put, List.setIfInBounds_toArray, List.set_cons_succ, List.set_cons_zero]
        refine wpAnyH_take (i := 4) (oi := ⟨some 48, _, _, _, _, _⟩) (v := .slice (some ⟨g, off, none⟩) (k + 1) c) rfl (by kernel_rfl) (by kernel_rfl) (by kernel_rfl) (fun _ _ _ h => h) (Or.inl ⟨by rfl, fun w' hw' => by go_simp⟩) HBy.out ?_
        try simp only [Act.put, List.setIfInBounds_toArray, List.set_cons_succ, List.set_cons_zero]
        refine wpAnyH_take (i := 5) (oi := ⟨some 49, _, _, _, _, _⟩) (v := .int .i64 ((k : Int) + 1)) rfl (by kernel_rfl) (by kernel_rfl) (by kernel_rfl) (fun _ _ _ h => h) (Or.inl ⟨by rfl, fun w' hw' => by go_simp⟩) HBy.out ?_
        try simp only [Act.put, List.setIfInBounds_toArray, List.set_cons_succ, List.set_cons_zero]
        refine wpAnyH_take (i := 6) (oi := ⟨some 50, _, _, _, _, _⟩) (v := .int .i64 (k : Int)) rfl (by kernel_rfl) (by kernel_rfl) (by kernel_rfl) (fun _ _ _ h => h) (Or.inl ⟨by rfl, fun w' hw' => by go_simp⟩) HBy.out ?_
        try simp only [Act.put, List.setIfInBounds_toArray, List.set_cons_succ, List.set_cons_zero]
        refine wpAnyH_take (i := 7) (oi := ⟨some 51, _, _, _, _, _⟩) (v := .slice (some ⟨g, off, none⟩) k c) rfl (by kernel_rfl) (by kernel_rfl) (by kernel_rfl) (fun _ _ _ h => h) (Or.inl ⟨by rfl, fun w' hw' => by go_simp⟩) HBy.out ?_
        try simp only [Act.put, List.setIfInBounds_toArray, List.set_cons_succ, List.set_cons_zero]
        refine wpAnyH_all (rs := [8]) (by kernel_rfl) (by simp) ?_
        intro jj hi
        obtain rfl : jj = 8 := by simpa using hi
        clear hi
        refine wpOp_step (o := ⟨some 52, _, _, _, _, _⟩) rfl (fun K' hK' => ?_)
        rw [if_pos (show Region.wanted _ _ = true from rfl)]
        go_simp
        (with_reducible refine (HRd.out y0 HBy.out).mono ?_)
        rintro e U ⟨gl, cl, vl, rfl, ho, hn, hb⟩
        refine hK' _ _ ⟨HBy.out.trans (hb.mono HBy.out.size), ?_⟩
        clear hK' K'
        try simp only [Act.put, List.setIfInBounds_toArray, List.set_cons_succ, List.set_cons_zero]
        have HBU := Lib.hid (HBy.out.trans (hb.mono HBy.out.size))
        have hou := own_low ho (Nat.le_trans HB5.out.size HBy.out.size)
        clear hb
        refine wpAnyH_take (i := 9) (oi := ⟨some 13, _, _, _, _, _⟩) (v := .slice (some ⟨gl, 0, none⟩) N cl) rfl (by kernel_rfl) (by kernel_rfl) (by kernel_rfl) (fun _ _ _ h => h) (Or.inl ⟨by rfl, fun w' hw' => by go_simp⟩) HBU.out ?_
        try simp only [Act.put, List.setIfInBounds_toArray, List.set_cons_succ, List.set_cons_zero]
        refine wpAnyH_done (by kernel_rfl) ?_ _
        go_upto_region 10 with (fail)
        rename_i KK hKK
        obtain ⟨b0, hb0⟩ : ∃ b0, BS[0]? = some b0 := ⟨_, List.getElem?_eq_getElem (by rw [HNl.out]; exact hNp)⟩
        obtain ⟨gb, cb, hcb, hpb, hlb, hmb⟩ := part_of hou hn hb0
        obtain ⟨hbb, hbl⟩ := HBy0.out b0 (List.mem_of_getElem? hb0)
        have hAe : A = Sha.sha b0 := by rw [HAe.out, List.headD_eq_head?_getD, List.head?_eq_getElem?, hb0]; rfl
        have HBw := Lib.hid (HB5.out.trans (HBU.out.mono HB5.out.size))
        have HOfA : Hid (∀ V, Below U.heap.size U V → Calls Tryd.prog 17 #[.slice (some ⟨gb, 0, none⟩) b0.length cb] V fun e w' => e = .returned (.agg (arr32 A)) ∧ Below V.heap.size V w') := Lib.hid fun V hV => (of_any b0 _ cb V (hpb.below hV) hbb (by omega) (fun _ _ _ => ⟨hlb, hmb⟩) (HC.out.below (HBw.out.trans (hV.mono HBw.out.size)) rfl) A (Lib.hid hAe)).mono fun e w' h => ⟨h.1, h.2.2⟩
        have hgl := (hou.lt gl rfl).2
        have HCb : Hid (∀ V, Below U.heap.size U V → V.cell? ⟨gl, 0, none⟩ = some (.slice (some ⟨gb, 0, none⟩) b0.length cb)) := Lib.hid fun V hV => (hV.cell hgl).trans hcb
        have HLs : Hid (∀ V, Below U.heap.size U V → ∀ j u, (arr32 last)[j]? = some u → V.cell? ((⟨g12, 0, none⟩ : Addr).add j) = some u) := Lib.hid fun V hV => ((HL5.out.below (HBU.out) hg12).below hV (Nat.lt_of_lt_of_le hg12 HBU.out.size)).row
        obtain ⟨out, hout⟩ : ∃ out, out = Sha.sha (2 :: (A ++ last)) := ⟨_, rfl⟩
        have hol : out.length = 32 := by rw [hout]; exact (sha_bytes _).1
        have HIo := Lib.hid (arr32_info out (by omega))
        have HSo := Lib.hid (zero32_size out (by omega))
        have HJ : Hid (∀ (g8 : Nat) (V : World), Below U.heap.size U V → V.ownsRow w.heap.size 26 32 (.slice (some ⟨g8, 0, none⟩) 2 2) 2 ([A, last].flatMap cellsOf) → Calls Tryd.prog 86 #[.int .u8 2, .slice (some ⟨g8, 0, none⟩) 2 2] V fun e w' => ∃ g7 c7, e = .returned (.tuple #[.agg (arr32 out), .slice (some ⟨g7, 0, none⟩) 65 c7]) ∧ BPart w' (.slice (some ⟨g7, 0, none⟩) 65 c7) (2 :: (A ++ last)) ∧ Below V.heap.size V w') := Lib.hid fun g8 V hV ho => by
          have h := joined_lit 2 (by decide) [A, last] (fun l hl => by
            simp only [List.mem_cons, List.not_mem_nil, or_false] at hl
            rcases hl with rfl | rfl
            · exact HAok.out
            · exact HLok.out) 2 rfl (by decide) g8 2 w.heap.size V ho (HC.out.below (HBw.out.trans (hV.mono HBw.out.size)) rfl) 65 rfl
          have e : [A, last].flatten = A ++ last := by simp
          rw [e, ← hout] at h
          exact h
        have HOU := Lib.hid hou
        have HNU := Lib.hid hn
        clear ho hou hn hb0 hcb hpb hbb hAe hout
        have HNext : Hid (∀ (s0 s1 s2 s3 s4 s5 s6 s7 s8 s9 s10 s11 s12 s14 s16 s17 s18 s19 s20 s21 s22 s23 s24 s25 s26 s27 s28 s29 s30 s31 s32 s33 s34 s35 s36 s37 s38 s39 s40 s41 s42 s43 s44 s45 s46 s47 s48 s49 s50 s51 s52 s53 s54 s55 s56 s57 s58 s59 s60 s61 s62 s63 s64 s65 s66 s67 s68 s69 s70 s71 s72 s73 s74 s75 s76 s77 s78 s79 s80 s81 s82 s83 s84 s85 s86 s87 s88 s89 s90 s91 s92 s93 : Value) (g7 c7 : Nat) (V : World), Below U.heap.size U V → V.ownsRow w.heap.size 22 1 (.slice (some ⟨gl, 0, none⟩) N cl) N vl → BRows V vl BS → BPart V (.slice (some ⟨g7, 0, none⟩) 65 c7) (2 :: (A ++ last)) → KK ⟨#[s0, s1, s2, s3, s4, s5, s6, s7, s8, s9, s10, s11, s12, .slice (some ⟨gl, 0, none⟩) N cl, s14, .slice (some ⟨g7, 0, none⟩) 65 c7, s16, s17, s18, s19, s20, s21, s22, s23, s24, s25, s26, s27, s28, s29, s30, s31, s32, s33, s34, s35, s36, s37, s38, s39, s40, s41, s42, s43, s44, s45, s46, s47, s48, s49, s50, s51, s52, s53, s54, s55, s56, s57, s58, s59, s60, s61, s62, s63, s64, s65, s66, s67, s68, s69, s70, s71, s72, s73, s74, s75, s76, s77, s78, s79, s80, s81, s82, s83, s84, s85, s86, s87, s88, s89, s90, s91, s92, s93], []⟩ V) := Lib.hid fun s0 s1 s2 s3 s4 s5 s6 s7 s8 s9 s10 s11 s12 s14 s16 s17 s18 s19 s20 s21 s22 s23 s24 s25 s26 s27 s28 s29 s30 s31 s32 s33 s34 s35 s36 s37 s38 s39 s40 s41 s42 s43 s44 s45 s46 s47 s48 s49 s50 s51 s52 s53 s54 s55 s56 s57 s58 s59 s60 s61 s62 s63 s64 s65 s66 s67 s68 s69 s70 s71 s72 s73 s74 s75 s76 s77 s78 s79 s80 s81 s82 s83 s84 s85 s86 s87 s88 s89 s90 s91 s92 s93 g7 c7 V hBV hOV hNV hVV => by
          apply hKK
          have HBV := Lib.hid (HBw.out.trans (hBV.mono HBw.out.size))
          have HOV := Lib.hid (hOV.alloc (.cells #[.slice (some ⟨g7, 0, none⟩) 65 c7] 22))
          have hba := (Below.refl _ V).alloc (Nat.le_refl _) (.cells #[.slice (some ⟨g7, 0, none⟩) 65 c7] 22)
          have HNV := Lib.hid (hNV.below hba)
          have HVV := Lib.hid (hVV.below hba)
          have HB1 := Lib.hid (HBV.out.alloc HBV.out.size (.cells #[.slice (some ⟨g7, 0, none⟩) 65 c7] 22))
          have HO1 : Hid ((V.alloc (.cells #[.slice (some ⟨g7, 0, none⟩) 65 c7] 22)).ownsRow w.heap.size 22 1 (.slice (some ⟨V.heap.size, 0, none⟩) 1 1) 1 [.slice (some ⟨g7, 0, none⟩) 65 c7]) := Lib.hid (own_one (Has.fresh _ _ _) HBV.out.size)
          clear hBV hOV hNV hVV hba hKK
          go_wp2_with (at_builtin; refine wpList_append_own _ rfl _ _ 84 rfl w.heap.size 22 ib (.slice none 0 0) 1 24 Tryd.underlying84 hib hb10 hb11 hb12 rfl (by decide) _ _ _ rfl HO1.out ⟨gl, 0, none⟩ N cl vl rfl (by rw [Nat.mul_one, HNV.out.len]; exact HNl.out) (own_news HOV.out) (brows_one HNV.out) (by unfold maxLen; omega) (by omega) HB1.out.size ?_; intro v' w9 hown hgrow _; have HW9 := Lib.hid hown; have HV9 := Lib.hid (HVV.out.grown HO1.out hgrow); have HN9 := Lib.hid (HNV.out.grown HO1.out hgrow); have HB9 := Lib.hid (HB1.out.grown hgrow HB1.out.size (fun r hr => (HO1.out.lt r hr).1)); clear hown hgrow)
          go_ret
          exact ⟨v', rfl, _, own_cast HW9.out (by rw [HRf.out, ← HNl.out, List.length_cons]; omega) rfl, by rw [HRf.out]; exact ⟨HV9.out, HN9.out⟩, HB9.out⟩
        clear hKK
        change Code.wp _ (Code.region 10 (rdOps 10) true) _ _ _
        refine wp_region_held (S := fun V => Below U.heap.size U V) (by kernel_rfl) ?_
        have hsz : (rdOps 10).size = 13 := by kernel_rfl
        rw [hsz]
        clear hsz
        refine gen_world (P := fun W' => wpAnyH _ _ _ _ _ _ _ _ W') (I := fun V => Below U.heap.size U V ∧ V.ownsRow w.heap.size 22 1 (.slice (some ⟨gl, 0, none⟩) N cl) N vl ∧ BRows V vl BS) _ ⟨(Below.refl _ U).drew, own_below HOU.out (Below.refl _ U).drew, HNU.out.below (Below.refl _ U).drew⟩ ?_
        rintro z0 ⟨hB, hO, hN⟩
        have HBz0 := Lib.hid hB
        have HOz0 := Lib.hid hO
        have HNz0 := Lib.hid hN
        clear hB hO hN
        refine wpAnyH_take (i := 0) (oi := ⟨some 54, _, _, _, _, _⟩) (v := .slice (some ⟨gl, 0, none⟩) N cl) rfl (by kernel_rfl) (by kernel_rfl) (by kernel_rfl) (fun _ _ _ h => h) (Or.inl ⟨by rfl, fun w' hw' => by go_simp⟩) HBz0.out ?_
        try simp only [Act.put, List.setIfInBounds_toArray, List.set_cons_succ, List.set_cons_zero]
        refine wpAnyH_take (i := 1) (oi := ⟨some 55, _, _, _, _, _⟩) (v := .pointer (some ⟨gl, 0, none⟩)) rfl (by kernel_rfl) (by kernel_rfl) (by kernel_rfl) (fun _ _ _ h => h) (Or.inl ⟨by rfl, fun w' hw' => by go_simp⟩) HBz0.out ?_
        try simp only [Act.put, List.setIfInBounds_toArray, List.set_cons_succ, List.set_cons_zero]
        refine wpAnyH_take (i := 2) (oi := ⟨some 56, _, _, _, _, _⟩) (v := .slice (some ⟨gb, 0, none⟩) b0.length cb) rfl (by kernel_rfl) (by kernel_rfl) (by kernel_rfl) (fun _ _ _ h => h) (Or.inl ⟨by rfl, fun w' hw' => by have hq := HCb.out w' hw'; go_simp⟩) HBz0.out ?_
        try simp only [Act.put, List.setIfInBounds_toArray, List.set_cons_succ, List.set_cons_zero]
        refine wpAnyH_take (i := 4) (oi := ⟨some 58, _, _, _, _, none⟩) (v := .agg (arr32 last)) rfl (by kernel_rfl) (by kernel_rfl) (by kernel_rfl) (fun _ _ _ h => h) (yieldsIf_load ⟨g12, 0, none⟩ _ _ (fun w hw => HLs.out w hw) Tryd.underlying26 HIl.out rfl rfl) HBz0.out ?_
        try simp only [Act.put, List.setIfInBounds_toArray, List.set_cons_succ, List.set_cons_zero]
        refine wpAnyH_all (rs := [3, 10]) (by kernel_rfl) (by simp) ?_
        intro jj hi
        have hi2 : jj = 3 ∨ jj = 10 := by simpa using hi
        clear hi
        rcases hi2 with rfl | rfl
        · refine wpOp_step (o := ⟨some 57, _, _, _, _, _⟩) rfl (fun K' hK' => ?_)
          rw [if_pos (show Region.wanted _ _ = true from rfl)]
          go_simp
          (with_reducible refine (HOfA.out z0 HBz0.out).mono ?_)
          rintro e z1 ⟨rfl, hb⟩
          refine hK' _ _ ⟨HBz0.out.trans (hb.mono HBz0.out.size), ?_⟩
          clear hK' K'
          try simp only [Act.put, List.setIfInBounds_toArray, List.set_cons_succ, List.set_cons_zero]
          have HBz1 := Lib.hid (HBz0.out.trans (hb.mono HBz0.out.size))
          have HOz1 := Lib.hid (own_below HOz0.out hb)
          have HNz1 := Lib.hid (HNz0.out.below hb)
          clear hb
          refine wpAnyH_all (rs := [5, 10]) (by kernel_rfl) (by simp) ?_
          intro jj hi
          have hi2 : jj = 5 ∨ jj = 10 := by simpa using hi
          clear hi
          rcases hi2 with rfl | rfl
          · refine wpOp_step (o := ⟨some 59, _, _, _, _, _⟩) rfl (fun K' hK' => ?_)
            rw [if_pos (show Region.wanted _ _ = true from rfl)]
            refine opw_slice2 26 i9 _ (arr32 A) (arr32 last) Tryd.underlying49 hi9 hz90 HSza.out HSzl.out (by rw [hz91]; decide) (by rw [hz91]; decide) rfl rfl ?_
            refine hK' _ _ ⟨HBz1.out.alloc HBz1.out.size _, ?_⟩
            clear hK' K'
            try simp only [Act.put, List.setIfInBounds_toArray, List.set_cons_succ, List.set_cons_zero]
            refine gen_world (P := fun W' => wpAnyH _ _ _ _ _ _ _ _ W') (I := fun V => Below U.heap.size U V ∧ V.ownsRow w.heap.size 22 1 (.slice (some ⟨gl, 0, none⟩) N cl) N vl ∧ BRows V vl BS ∧ V.ownsRow w.heap.size 26 32 (.slice (some ⟨z1.heap.size, 0, none⟩) 2 2) 2 ([A, last].flatMap cellsOf)) _ ⟨HBz1.out.alloc HBz1.out.size _, HOz1.out.alloc _, HNz1.out.below ((Below.refl _ z1).alloc (Nat.le_refl _) _), own_lit2 _ _ HLa.out HLl.out (Nat.le_trans HBw.out.size HBz1.out.size)⟩ ?_
            rintro z2 ⟨hB, hO, hN, hS⟩
            generalize z1.heap.size = g8 at *
            have HBz2 := Lib.hid hB
            have HOz2 := Lib.hid hO
            have HNz2 := Lib.hid hN
            have HSz2 := Lib.hid hS
            clear hB hO hN hS
            refine wpAnyH_all (rs := [6, 10]) (by kernel_rfl) (by simp) ?_
            intro jj hi
            have hi2 : jj = 6 ∨ jj = 10 := by simpa using hi
            clear hi
            rcases hi2 with rfl | rfl
            · refine wpOp_step (o := ⟨some 60, _, _, _, _, _⟩) rfl (fun K' hK' => ?_)
              rw [if_pos (show Region.wanted _ _ = true from rfl)]
              go_simp
              (with_reducible refine (HJ.out g8 z2 HBz2.out HSz2.out).mono ?_)
              rintro e z3 ⟨g7, c7, rfl, hv, hb⟩
              refine hK' _ _ ⟨HBz2.out.trans (hb.mono HBz2.out.size), ?_⟩
              clear hK' K'
              try simp only [Act.put, List.setIfInBounds_toArray, List.set_cons_succ, List.set_cons_zero]
              have HBz3 := Lib.hid (HBz2.out.trans (hb.mono HBz2.out.size))
              have HOz3 := Lib.hid (own_below HOz2.out hb)
              have HNz3 := Lib.hid (HNz2.out.below hb)
              have HVz3 := Lib.hid hv
              clear hb hv
              refine wpAnyH_take (i := 7) (oi := ⟨some 53, _, _, _, _, _⟩) (v := .tuple #[.agg (arr32 out), .slice (some ⟨g7, 0, none⟩) 65 c7]) rfl (by kernel_rfl) (by kernel_rfl) (by kernel_rfl) (fun _ _ _ h => h) (Or.inl ⟨by rfl, fun w' hw' => by go_simp⟩) HBz3.out ?_
              try simp only [Act.put, List.setIfInBounds_toArray, List.set_cons_succ, List.set_cons_zero]
              refine wpAnyH_take (i := 8) (oi := ⟨some 61, _, _, _, _, _⟩) (v := .agg (arr32 out)) rfl (by kernel_rfl) (by kernel_rfl) (by kernel_rfl) (fun _ _ _ h => h) (Or.inl ⟨by rfl, fun w' hw' => by go_simp⟩) HBz3.out ?_
              try simp only [Act.put, List.setIfInBounds_toArray, List.set_cons_succ, List.set_cons_zero]
              refine wpAnyH_take (i := 9) (oi := ⟨some 62, _, _, _, _, _⟩) (v := .slice (some ⟨g7, 0, none⟩) 65 c7) rfl (by kernel_rfl) (by kernel_rfl) (by kernel_rfl) (fun _ _ _ h => h) (Or.inl ⟨by rfl, fun w' hw' => by go_simp⟩) HBz3.out ?_
              try simp only [Act.put, List.setIfInBounds_toArray, List.set_cons_succ, List.set_cons_zero]
              refine wpAnyH_all (rs := [10]) (by kernel_rfl) (by simp) ?_
              intro jj hi
              obtain rfl : jj = 10 := by simpa using hi
              clear hi
              refine wpOp_step (o := ⟨some 14, _, _, _, _, _⟩) rfl (fun K' hK' => ?_)
              rw [if_pos (show Region.wanted _ _ = true from rfl)]
              go_simp
              refine hK' _ _ ⟨HBz3.out.alloc HBz3.out.size _, ?_⟩
              clear hK' K'
              try simp only [Act.put, List.setIfInBounds_toArray, List.set_cons_succ, List.set_cons_zero]
              have hg6 : U.heap.size ≤ z3.heap.size := HBz3.out.size
              refine gen_world (P := fun W' => wpAnyH _ _ _ _ _ _ _ _ W') (I := fun V => Below U.heap.size U V ∧ V.ownsRow w.heap.size 22 1 (.slice (some ⟨gl, 0, none⟩) N cl) N vl ∧ BRows V vl BS ∧ Has V z3.heap.size 26 zero32 ∧ BPart V (.slice (some ⟨g7, 0, none⟩) 65 c7) (2 :: (A ++ last))) _ ⟨HBz3.out.alloc HBz3.out.size _, HOz3.out.alloc _, HNz3.out.below ((Below.refl _ z3).alloc (Nat.le_refl _) _), fresh_sum z3, HVz3.out.below ((Below.refl _ z3).alloc (Nat.le_refl _) _)⟩ ?_
              rintro z3a ⟨hB, hO, hN, hA, hV⟩
              generalize z3.heap.size = g6 at *
              have HBz3a := Lib.hid hB
              have HOz3a := Lib.hid hO
              have HNz3a := Lib.hid hN
              have HAz3a := Lib.hid hA
              have HVz3a := Lib.hid hV
              clear hB hO hN hA hV
              refine wpAnyH_all (rs := [11]) (by kernel_rfl) (by simp) ?_
              intro jj hi
              obtain rfl : jj = 11 := by simpa using hi
              clear hi
              refine wpOp_step (o := ⟨none, _, _, _, _, _⟩) rfl (fun K' hK' => ?_)
              rw [if_pos (show Region.wanted _ _ = true from rfl)]
              refine opw_store g6 (arr32 out) _ _ HAz3a.out HSo.out HIo.out (arr32_one _) rfl rfl ?_
              refine hK' _ _ ⟨below_setRow HBz3a.out hg6 _, ?_⟩
              clear hK' K'
              try simp only [Act.put, List.setIfInBounds_toArray, List.set_cons_succ, List.set_cons_zero]
              refine wpAnyH_take (i := 12) (oi := ⟨some 15, _, _, _, _, _⟩) (v := .slice (some ⟨g7, 0, none⟩) 65 c7) rfl (by kernel_rfl) (by kernel_rfl) (by kernel_rfl) (fun _ _ _ h => h) (Or.inl ⟨by rfl, fun w' hw' => by go_simp⟩) (below_setRow HBz3a.out hg6 _) ?_
              try simp only [Act.put, List.setIfInBounds_toArray, List.set_cons_succ, List.set_cons_zero]
              refine wpAnyH_done (by kernel_rfl) ?_ _
              exact HNext.out _ _ _ _ _ _ _ _ _ _ _ _ _ _ _ _ _ _ _ _ _ _ _ _ _ _ _ _ _ _ _ _ _ _ _ _ _ _ _ _ _ _ _ _ _ _ _ _ _ _ _ _ _ _ _ _ _ _ _ _ _ _ _ _ _ _ _ _ _ _ _ _ _ _ _ _ _ _ _ _ _ _ _ _ _ _ _ _ _ _ _ _ g7 c7 _ (below_setRow HBz3a.out hg6 _) (own_setRow HOz3a.out (fun e => own_not_sum HOz3a.out HAz3a.out e.symm) _) (HNz3a.out.on fun v b k => k.setRow (bpart_not_sum k HAz3a.out) _) (HVz3a.out.setRow (bpart_not_sum HVz3a.out HAz3a.out) _)
            · refine wpOp_step (o := ⟨some 14, _, _, _, _, _⟩) rfl (fun K' hK' => ?_)
              rw [if_pos (show Region.wanted _ _ = true from rfl)]
              go_simp
              refine hK' _ _ ⟨HBz2.out.alloc HBz2.out.size _, ?_⟩
              clear hK' K'
              try simp only [Act.put, List.setIfInBounds_toArray, List.set_cons_succ, List.set_cons_zero]
              have hg6 : U.heap.size ≤ z2.heap.size := HBz2.out.size
              refine gen_world (P := fun W' => wpAnyH _ _ _ _ _ _ _ _ W') (I := fun V => Below U.heap.size U V ∧ V.ownsRow w.heap.size 22 1 (.slice (some ⟨gl, 0, none⟩) N cl) N vl ∧ BRows V vl BS ∧ Has V z2.heap.size 26 zero32 ∧ V.ownsRow w.heap.size 26 32 (.slice (some ⟨g8, 0, none⟩) 2 2) 2 ([A, last].flatMap cellsOf)) _ ⟨HBz2.out.alloc HBz2.out.size _, HOz2.out.alloc _, HNz2.out.below ((Below.refl _ z2).alloc (Nat.le_refl _) _), fresh_sum z2, HSz2.out.alloc _⟩ ?_
              rintro z2a ⟨hB, hO, hN, hA, hS⟩
              generalize z2.heap.size = g6 at *
              have HBz2a := Lib.hid hB
              have HOz2a := Lib.hid hO
              have HNz2a := Lib.hid hN
              have HAz2a := Lib.hid hA
              have HSz2a := Lib.hid hS
              clear hB hO hN hA hS
              refine wpAnyH_all (rs := [6]) (by kernel_rfl) (by simp) ?_
              intro jj hi
              obtain rfl : jj = 6 := by simpa using hi
              clear hi
              refine wpOp_step (o := ⟨some 60, _, _, _, _, _⟩) rfl (fun K' hK' => ?_)
              rw [if_pos (show Region.wanted _ _ = true from rfl)]
              go_simp
              (with_reducible refine (HJ.out g8 z2a HBz2a.out HSz2a.out).mono ?_)
              rintro e z3a ⟨g7, c7, rfl, hv, hb⟩
              refine hK' _ _ ⟨HBz2a.out.trans (hb.mono HBz2a.out.size), ?_⟩
              clear hK' K'
              try simp only [Act.put, List.setIfInBounds_toArray, List.set_cons_succ, List.set_cons_zero]
              have HBz3a := Lib.hid (HBz2a.out.trans (hb.mono HBz2a.out.size))
              have HOz3a := Lib.hid (own_below HOz2a.out hb)
              have HNz3a := Lib.hid (HNz2a.out.below hb)
              have HAz3a := Lib.hid (HAz2a.out.below hb HAz2a.out.lt)
              have HVz3a := Lib.hid hv
              clear hb hv
              refine wpAnyH_take (i := 7) (oi := ⟨some 53, _, _, _, _, _⟩) (v := .tuple #[.agg (arr32 out), .slice (some ⟨g7, 0, none⟩) 65 c7]) rfl (by kernel_rfl) (by kernel_rfl) (by kernel_rfl) (fun _ _ _ h => h) (Or.inl ⟨by rfl, fun w' hw' => by go_simp⟩) HBz3a.out ?_
              try simp only [Act.put, List.setIfInBounds_toArray, List.set_cons_succ, List.set_cons_zero]
              refine wpAnyH_take (i := 8) (oi := ⟨some 61, _, _, _, _, _⟩) (v := .agg (arr32 out)) rfl (by kernel_rfl) (by kernel_rfl) (by kernel_rfl) (fun _ _ _ h => h) (Or.inl ⟨by rfl, fun w' hw' => by go_simp⟩) HBz3a.out ?_
              try simp only [Act.put, List.setIfInBounds_toArray, List.set_cons_succ, List.set_cons_zero]
              refine wpAnyH_take (i := 9) (oi := ⟨some 62, _, _, _, _, _⟩) (v := .slice (some ⟨g7, 0, none⟩) 65 c7) rfl (by kernel_rfl) (by kernel_rfl) (by kernel_rfl) (fun _ _ _ h => h) (Or.inl ⟨by rfl, fun w' hw' => by go_simp⟩) HBz3a.out ?_
              try simp only [Act.put, List.setIfInBounds_toArray, List.set_cons_succ, List.set_cons_zero]
              refine wpAnyH_all (rs := [11]) (by kernel_rfl) (by simp) ?_
              intro jj hi
              obtain rfl : jj = 11 := by simpa using hi
              clear hi
              refine wpOp_step (o := ⟨none, _, _, _, _, _⟩) rfl (fun K' hK' => ?_)
              rw [if_pos (show Region.wanted _ _ = true from rfl)]
              refine opw_store g6 (arr32 out) _ _ HAz3a.out HSo.out HIo.out (arr32_one _) rfl rfl ?_
              refine hK' _ _ ⟨below_setRow HBz3a.out hg6 _, ?_⟩
              clear hK' K'
              try simp only [Act.put, List.setIfInBounds_toArray, List.set_cons_succ, List.set_cons_zero]
              refine wpAnyH_take (i := 12) (oi := ⟨some 15, _, _, _, _, _⟩) (v := .slice (some ⟨g7, 0, none⟩) 65 c7) rfl (by kernel_rfl) (by kernel_rfl) (by kernel_rfl) (fun _ _ _ h => h) (Or.inl ⟨by rfl, fun w' hw' => by go_simp⟩) (below_setRow HBz3a.out hg6 _) ?_
              try simp only [Act.put, List.setIfInBounds_toArray, List.set_cons_succ, List.set_cons_zero]
              refine wpAnyH_done (by kernel_rfl) ?_ _
              exact HNext.out _ _ _ _ _ _ _ _ _ _ _ _ _ _ _ _ _ _ _ _ _ _ _ _ _ _ _ _ _ _ _ _ _ _ _ _ _ _ _ _ _ _ _ _ _ _ _ _ _ _ _ _ _ _ _ _ _ _ _ _ _ _ _ _ _ _ _ _ _ _ _ _ _ _ _ _ _ _ _ _ _ _ _ _ _ _ _ _ _ _ _ _ g7 c7 _ (below_setRow HBz3a.out hg6 _) (own_setRow HOz3a.out (fun e => own_not_sum HOz3a.out HAz3a.out e.symm) _) (HNz3a.out.on fun v b k => k.setRow (bpart_not_sum k HAz3a.out) _) (HVz3a.out.setRow (bpart_not_sum HVz3a.out HAz3a.out) _)
          · refine wpOp_step (o := ⟨some 14, _, _, _, _, _⟩) rfl (fun K' hK' => ?_)
            rw [if_pos (show Region.wanted _ _ = true from rfl)]
            go_simp
            refine hK' _ _ ⟨HBz1.out.alloc HBz1.out.size _, ?_⟩
            clear hK' K'
            try simp only [Act.put, List.setIfInBounds_toArray, List.set_cons_succ, List.set_cons_zero]
            have hg6 : U.heap.size ≤ z1.heap.size := HBz1.out.size
            refine gen_world (P := fun W' => wpAnyH _ _ _ _ _ _ _ _ W') (I := fun V => Below U.heap.size U V ∧ V.ownsRow w.heap.size 22 1 (.slice (some ⟨gl, 0, none⟩) N cl) N vl ∧ BRows V vl BS ∧ Has V z1.heap.size 26 zero32) _ ⟨HBz1.out.alloc HBz1.out.size _, HOz1.out.alloc _, HNz1.out.below ((Below.refl _ z1).alloc (Nat.le_refl _) _), fresh_sum z1⟩ ?_
            rintro z1a ⟨hB, hO, hN, hA⟩
            generalize z1.heap.size = g6 at *
            have HBz1a := Lib.hid hB
            have HOz1a := Lib.hid hO
            have HNz1a := Lib.hid hN
            have HAz1a := Lib.hid hA
            clear hB hO hN hA
            refine wpAnyH_all (rs := [5]) (by kernel_rfl) (by simp) ?_
            intro jj hi
            obtain rfl : jj = 5 := by simpa using hi
            clear hi
            refine wpOp_step (o := ⟨some 59, _, _, _, _, _⟩) rfl (fun K' hK' => ?_)
            rw [if_pos (show Region.wanted _ _ = true from rfl)]
            refine opw_slice2 26 i9 _ (arr32 A) (arr32 last) Tryd.underlying49 hi9 hz90 HSza.out HSzl.out (by rw [hz91]; decide) (by rw [hz91]; decide) rfl rfl ?_
            refine hK' _ _ ⟨HBz1a.out.alloc HBz1a.out.size _, ?_⟩
            clear hK' K'
            try simp only [Act.put, List.setIfInBounds_toArray, List.set_cons_succ, List.set_cons_zero]
            refine gen_world (P := fun W' => wpAnyH _ _ _ _ _ _ _ _ W') (I := fun V => Below U.heap.size U V ∧ V.ownsRow w.heap.size 22 1 (.slice (some ⟨gl, 0, none⟩) N cl) N vl ∧ BRows V vl BS ∧ V.ownsRow w.heap.size 26 32 (.slice (some ⟨z1a.heap.size, 0, none⟩) 2 2) 2 ([A, last].flatMap cellsOf) ∧ Has V g6 26 zero32) _ ⟨HBz1a.out.alloc HBz1a.out.size _, HOz1a.out.alloc _, HNz1a.out.below ((Below.refl _ z1a).alloc (Nat.le_refl _) _), own_lit2 _ _ HLa.out HLl.out (Nat.le_trans HBw.out.size HBz1a.out.size), HAz1a.out.alloc _⟩ ?_
            rintro z2a ⟨hB, hO, hN, hS, hA⟩
            generalize z1a.heap.size = g8 at *
            have HBz2a := Lib.hid hB
            have HOz2a := Lib.hid hO
            have HNz2a := Lib.hid hN
            have HSz2a := Lib.hid hS
            have HAz2a := Lib.hid hA
            clear hB hO hN hS hA
            refine wpAnyH_all (rs := [6]) (by kernel_rfl) (by simp) ?_
            intro jj hi
            obtain rfl : jj = 6 := by simpa using hi
            clear hi
            refine wpOp_step (o := ⟨some 60, _, _, _, _, _⟩) rfl (fun K' hK' => ?_)
            rw [if_pos (show Region.wanted _ _ = true from rfl)]
            go_simp
            (with_reducible refine (HJ.out g8 z2a HBz2a.out HSz2a.out).mono ?_)
            rintro e z3a ⟨g7, c7, rfl, hv, hb⟩
            refine hK' _ _ ⟨HBz2a.out.trans (hb.mono HBz2a.out.size), ?_⟩
            clear hK' K'
            try simp only [Act.put, List.setIfInBounds_toArray, List.set_cons_succ, List.set_cons_zero]
            have HBz3a := Lib.hid (HBz2a.out.trans (hb.mono HBz2a.out.size))
            have HOz3a := Lib.hid (own_below HOz2a.out hb)
            have HNz3a := Lib.hid (HNz2a.out.below hb)
            have HAz3a := Lib.hid (HAz2a.out.below hb HAz2a.out.lt)
            have HVz3a := Lib.hid hv
            clear hb hv
            refine wpAnyH_take (i := 7) (oi := ⟨some 53, _, _, _, _, _⟩) (v := .tuple #[.agg (arr32 out), .slice (some ⟨g7, 0, none⟩) 65 c7]) rfl (by kernel_rfl) (by kernel_rfl) (by kernel_rfl) (fun _ _ _ h => h) (Or.inl ⟨by rfl, fun w' hw' => by go_simp⟩) HBz3a.out ?_
            try simp only [Act.put, List.setIfInBounds_toArray, List.set_cons_succ, List.set_cons_zero]
            refine wpAnyH_take (i := 8) (oi := ⟨some 61, _, _, _, _, _⟩) (v := .agg (arr32 out)) rfl (by kernel_rfl) (by kernel_rfl) (by kernel_rfl) (fun _ _ _ h => h) (Or.inl ⟨by rfl, fun w' hw' => by go_simp⟩) HBz3a.out ?_
            try simp only [Act.put, List.setIfInBounds_toArray, List.set_cons_succ, List.set_cons_zero]
            refine wpAnyH_take (i := 9) (oi := ⟨some 62, _, _, _, _, _⟩) (v := .slice (some ⟨g7, 0, none⟩) 65 c7) rfl (by kernel_rfl) (by kernel_rfl) (by kernel_rfl) (fun _ _ _ h => h) (Or.inl ⟨by rfl, fun w' hw' => by go_simp⟩) HBz3a.out ?_
            try simp only [Act.put, List.setIfInBounds_toArray, List.set_cons_succ, List.set_cons_zero]
            refine wpAnyH_all (rs := [11]) (by kernel_rfl) (by simp) ?_
            intro jj hi
            obtain rfl : jj = 11 := by simpa using hi
            clear hi
            refine wpOp_step (o := ⟨none, _, _, _, _, _⟩) rfl (fun K' hK' => ?_)
            rw [if_pos (show Region.wanted _ _ = true from rfl)]
            refine opw_store g6 (arr32 out) _ _ HAz3a.out HSo.out HIo.out (arr32_one _) rfl rfl ?_
            refine hK' _ _ ⟨below_setRow HBz3a.out hg6 _, ?_⟩
            clear hK' K'
            try simp only [Act.put, List.setIfInBounds_toArray, List.set_cons_succ, List.set_cons_zero]
            refine wpAnyH_take (i := 12) (oi := ⟨some 15, _, _, _, _, _⟩) (v := .slice (some ⟨g7, 0, none⟩) 65 c7) rfl (by kernel_rfl) (by kernel_rfl) (by kernel_rfl) (fun _ _ _ h => h) (Or.inl ⟨by rfl, fun w' hw' => by go_simp⟩) (below_setRow HBz3a.out hg6 _) ?_
            try simp only [Act.put, List.setIfInBounds_toArray, List.set_cons_succ, List.set_cons_zero]
            refine wpAnyH_done (by kernel_rfl) ?_ _
            exact HNext.out _ _ _ _ _ _ _ _ _ _ _ _ _ _ _ _ _ _ _ _ _ _ _ _ _ _ _ _ _ _ _ _ _ _ _ _ _ _ _ _ _ _ _ _ _ _ _ _ _ _ _ _ _ _ _ _ _ _ _ _ _ _ _ _ _ _ _ _ _ _ _ _ _ _ _ _ _ _ _ _ _ _ _ _ _ _ _ _ _ _ _ _ g7 c7 _ (below_setRow HBz3a.out hg6 _) (own_setRow HOz3a.out (fun e => own_not_sum HOz3a.out HAz3a.out e.symm) _) (HNz3a.out.on fun v b k => k.setRow (bpart_not_sum k HAz3a.out) _) (HVz3a.out.setRow (bpart_not_sum HVz3a.out HAz3a.out) _)
        · refine wpOp_step (o := ⟨some 14, _, _, _, _, _⟩) rfl (fun K' hK' => ?_)
          rw [if_pos (show Region.wanted _ _ = true from rfl)]
          go_simp
          refine hK' _ _ ⟨HBz0.out.alloc HBz0.out.size _, ?_⟩
          clear hK' K'
          try simp only [Act.put, List.setIfInBounds_toArray, List.set_cons_succ, List.set_cons_zero]
          have hg6 : U.heap.size ≤ z0.heap.size := HBz0.out.size
          refine gen_world (P := fun W' => wpAnyH _ _ _ _ _ _ _ _ W') (I := fun V => Below U.heap.size U V ∧ V.ownsRow w.heap.size 22 1 (.slice (some ⟨gl, 0, none⟩) N cl) N vl ∧ BRows V vl BS ∧ Has V z0.heap.size 26 zero32) _ ⟨HBz0.out.alloc HBz0.out.size _, HOz0.out.alloc _, HNz0.out.below ((Below.refl _ z0).alloc (Nat.le_refl _) _), fresh_sum z0⟩ ?_
          rintro z0a ⟨hB, hO, hN, hA⟩
          generalize z0.heap.size = g6 at *
          have HBz0a := Lib.hid hB
          have HOz0a := Lib.hid hO
          have HNz0a := Lib.hid hN
          have HAz0a := Lib.hid hA
          clear hB hO hN hA
          refine wpAnyH_all (rs := [3]) (by kernel_rfl) (by simp) ?_
          intro jj hi
          obtain rfl : jj = 3 := by simpa using hi
          clear hi
          refine wpOp_step (o := ⟨some 57, _, _, _, _, _⟩) rfl (fun K' hK' => ?_)
          rw [if_pos (show Region.wanted _ _ = true from rfl)]
          go_simp
          (with_reducible refine (HOfA.out z0a HBz0a.out).mono ?_)
          rintro e z1a ⟨rfl, hb⟩
          refine hK' _ _ ⟨HBz0a.out.trans (hb.mono HBz0a.out.size), ?_⟩
          clear hK' K'
          try simp only [Act.put, List.setIfInBounds_toArray, List.set_cons_succ, List.set_cons_zero]
          have HBz1a := Lib.hid (HBz0a.out.trans (hb.mono HBz0a.out.size))
          have HOz1a := Lib.hid (own_below HOz0a.out hb)
          have HNz1a := Lib.hid (HNz0a.out.below hb)
          have HAz1a := Lib.hid (HAz0a.out.below hb HAz0a.out.lt)
          clear hb
          refine wpAnyH_all (rs := [5]) (by kernel_rfl) (by simp) ?_
          intro jj hi
          obtain rfl : jj = 5 := by simpa using hi
          clear hi
          refine wpOp_step (o := ⟨some 59, _, _, _, _, _⟩) rfl (fun K' hK' => ?_)
          rw [if_pos (show Region.wanted _ _ = true from rfl)]
          refine opw_slice2 26 i9 _ (arr32 A) (arr32 last) Tryd.underlying49 hi9 hz90 HSza.out HSzl.out (by rw [hz91]; decide) (by rw [hz91]; decide) rfl rfl ?_
          refine hK' _ _ ⟨HBz1a.out.alloc HBz1a.out.size _, ?_⟩
          clear hK' K'
          try simp only [Act.put, List.setIfInBounds_toArray, List.set_cons_succ, List.set_cons_zero]
          refine gen_world (P := fun W' => wpAnyH _ _ _ _ _ _ _ _ W') (I := fun V => Below U.heap.size U V ∧ V.ownsRow w.heap.size 22 1 (.slice (some ⟨gl, 0, none⟩) N cl) N vl ∧ BRows V vl BS ∧ V.ownsRow w.heap.size 26 32 (.slice (some ⟨z1a.heap.size, 0, none⟩) 2 2) 2 ([A, last].flatMap cellsOf) ∧ Has V g6 26 zero32) _ ⟨HBz1a.out.alloc HBz1a.out.size _, HOz1a.out.alloc _, HNz1a.out.below ((Below.refl _ z1a).alloc (Nat.le_refl _) _), own_lit2 _ _ HLa.out HLl.out (Nat.le_trans HBw.out.size HBz1a.out.size), HAz1a.out.alloc _⟩ ?_
          rintro z2a ⟨hB, hO, hN, hS, hA⟩
          generalize z1a.heap.size = g8 at *
          have HBz2a := Lib.hid hB
          have HOz2a := Lib.hid hO
          have HNz2a := Lib.hid hN
          have HSz2a := Lib.hid hS
          have HAz2a := Lib.hid hA
          clear hB hO hN hS hA
          refine wpAnyH_all (rs := [6]) (by kernel_rfl) (by simp) ?_
          intro jj hi
          obtain rfl : jj = 6 := by simpa using hi
          clear hi
          refine wpOp_step (o := ⟨some 60, _, _, _, _, _⟩) rfl (fun K' hK' => ?_)
          rw [if_pos (show Region.wanted _ _ = true from rfl)]
          go_simp
          (with_reducible refine (HJ.out g8 z2a HBz2a.out HSz2a.out).mono ?_)
          rintro e z3a ⟨g7, c7, rfl, hv, hb⟩
          refine hK' _ _ ⟨HBz2a.out.trans (hb.mono HBz2a.out.size), ?_⟩
          clear hK' K'
          try simp only [Act.put, List.setIfInBounds_toArray, List.set_cons_succ, List.set_cons_zero]
          have HBz3a := Lib.hid (HBz2a.out.trans (hb.mono HBz2a.out.size))
          have HOz3a := Lib.hid (own_below HOz2a.out hb)
          have HNz3a := Lib.hid (HNz2a.out.below hb)
          have HAz3a := Lib.hid (HAz2a.out.below hb HAz2a.out.lt)
          have HVz3a := Lib.hid hv
          clear hb hv
          refine wpAnyH_take (i := 7) (oi := ⟨some 53, _, _, _, _, _⟩) (v := .tuple #[.agg (arr32 out), .slice (some ⟨g7, 0, none⟩) 65 c7]) rfl (by kernel_rfl) (by kernel_rfl) (by kernel_rfl) (fun _ _ _ h => h) (Or.inl ⟨by rfl, fun w' hw' => by go_simp⟩) HBz3a.out ?_
          try simp only [Act.put, List.setIfInBounds_toArray, List.set_cons_succ, List.set_cons_zero]
          refine wpAnyH_take (i := 8) (oi := ⟨some 61, _, _, _, _, _⟩) (v := .agg (arr32 out)) rfl (by kernel_rfl) (by kernel_rfl) (by kernel_rfl) (fun _ _ _ h => h) (Or.inl ⟨by rfl, fun w' hw' => by go_simp⟩) HBz3a.out ?_
          try simp only [Act.put, List.setIfInBounds_toArray, List.set_cons_succ, List.set_cons_zero]
          refine wpAnyH_take (i := 9) (oi := ⟨some 62, _, _, _, _, _⟩) (v := .slice (some ⟨g7, 0, none⟩) 65 c7) rfl (by kernel_rfl) (by kernel_rfl) (by kernel_rfl) (fun _ _ _ h => h) (Or.inl ⟨by rfl, fun w' hw' => by go_simp⟩) HBz3a.out ?_
          try simp only [Act.put, List.setIfInBounds_toArray, List.set_cons_succ, List.set_cons_zero]
          refine wpAnyH_all (rs := [11]) (by kernel_rfl) (by simp) ?_
          intro jj hi
          obtain rfl : jj = 11 := by simpa using hi
          clear hi
          refine wpOp_step (o := ⟨none, _, _, _, _, _⟩) rfl (fun K' hK' => ?_)
          rw [if_pos (show Region.wanted _ _ = true from rfl)]
          refine opw_store g6 (arr32 out) _ _ HAz3a.out HSo.out HIo.out (arr32_one _) rfl rfl ?_
          refine hK' _ _ ⟨below_setRow HBz3a.out hg6 _, ?_⟩
          clear hK' K'
          try simp only [Act.put, List.setIfInBounds_toArray, List.set_cons_succ, List.set_cons_zero]
          refine wpAnyH_take (i := 12) (oi := ⟨some 15, _, _, _, _, _⟩) (v := .slice (some ⟨g7, 0, none⟩) 65 c7) rfl (by kernel_rfl) (by kernel_rfl) (by kernel_rfl) (fun _ _ _ h => h) (Or.inl ⟨by rfl, fun w' hw' => by go_simp⟩) (below_setRow HBz3a.out hg6 _) ?_
          try simp only [Act.put, List.setIfInBounds_toArray, List.set_cons_succ, List.set_cons_zero]
          refine wpAnyH_done (by kernel_rfl) ?_ _
          exact HNext.out _ _ _ _ _ _ _ _ _ _ _ _ _ _ _ _ _ _ _ _ _ _ _ _ _ _ _ _ _ _ _ _ _ _ _ _ _ _ _ _ _ _ _ _ _ _ _ _ _ _ _ _ _ _ _ _ _ _ _ _ _ _ _ _ _ _ _ _ _ _ _ _ _ _ _ _ _ _ _ _ _ _ _ _ _ _ _ _ _ _ _ _ g7 c7 _ (below_setRow HBz3a.out hg6 _) (own_setRow HOz3a.out (fun e => own_not_sum HOz3a.out HAz3a.out e.symm) _) (HNz3a.out.on fun v b k => k.setRow (bpart_not_sum k HAz3a.out) _) (HVz3a.out.setRow (bpart_not_sum HVz3a.out HAz3a.out) _)
      · have hip2 : ¬ (i : Int) < (p : Int) := by omega
        have hnp : (n : Int) - (p : Int) = ((n - p : Nat) : Int) := by omega
        have hipn : (i : Int) - (p : Int) = ((i - p : Nat) : Int) := by omega
        have hwn : IntKind.i64.wrap ((n - p : Nat) : Int) = ((n - p : Nat) : Int) := IntWalk.i64_in _ (by omega)
        have hwi : IntKind.i64.wrap ((i - p : Nat) : Int) = ((i - p : Nat) : Int) := IntWalk.i64_in _ (by omega)
        obtain ⟨BS, hBS⟩ : ∃ B, B = readOf f (n - p) (i - p) x way := ⟨_, rfl⟩
        obtain ⟨A, hA⟩ : ∃ A, A = Sha.sha (BS.headD []) := ⟨_, rfl⟩
        have hp0 : p = halfOf n := HQ.out
        have hcl := HCl.out
        rw [cl_right (by omega) (by rw [← hp0]; omega), ← hp0] at hcl
        have hrf : readOf (f + 1) n i x (way ++ [last]) = (2 :: (last ++ A)) :: BS := by rw [readOf_right (by omega) (by rw [← hp0]; omega), ← hp0, ← hBS, ← hA]
        obtain ⟨hne, _⟩ := read_head f (n - p) (i - p) x way hcl
        rw [← hBS] at hne
        have hAok : A.length = 32 ∧ Sha.Bytes A := by rw [hA]; exact sha_bytes _
        obtain ⟨N, hN⟩ : ∃ N, BS.length = N := ⟨_, rfl⟩
        have hNp : 0 < N := by rw [← hN]; exact List.length_pos_iff.2 hne
        have hNf : N ≤ f := by rw [← hN, hBS]; exact readOf_len _ _ _ _ _
        have HRd : Hid (∀ V, Below w5.heap.size w5 V → Calls Tryd.prog 55 #[.int .i64 ((n - p : Nat) : Int), .int .i64 ((i - p : Nat) : Int), .agg (arr32 x), .slice (some ⟨g, off, none⟩) k c] V fun e w' => ∃ gl cl vl, e = .returned (.slice (some ⟨gl, 0, none⟩) N cl) ∧ w'.ownsRow V.heap.size 22 1 (.slice (some ⟨gl, 0, none⟩) N cl) N vl ∧ BRows w' vl BS ∧ Below V.heap.size V w') := Lib.hid fun V hV => by
          have hVw := HB5.out.trans (hV.mono HB5.out.size)
          have h := HIh.out (n - p) (i - p) x way _ c V k (by omega) (by omega) (by omega) (by omega) HXok.out HWok.out hcl HKl.out (HrW.out V hVw) (HC.out.below hVw rfl)
          rw [← hBS, hN] at h
          refine h.mono ?_
          rintro e w' ⟨v, vals, rfl, ho, hr, hb⟩
          obtain ⟨a, cl, rfl, _, _⟩ := own_shape ho
          obtain ⟨gl, rfl, _, _⟩ := own_addr ho hNp
          exact ⟨gl, cl, vals, rfl, ho, hr, hb⟩
        have HBy0 : Hid (∀ b ∈ BS, Sha.Bytes b ∧ b.length ≤ 1000000) := Lib.hid (by rw [hBS]; exact readOf_bytes f _ _ x way HXok.out HWok.out)
        have HAe := Lib.hid hA
        have HNl := Lib.hid hN
        have HRf := Lib.hid hrf
        have HAok := Lib.hid hAok
        have HLa := Lib.hid hAok.1
        have HSza : Hid ((arr32 A).size = i9.size) := Lib.hid (by rw [hz91]; exact arr32_size A (by omega))
        clear hBS hA hp0 hcl hrf hne hAok hN
        go_upto_region 12 with (fail)
        change Code.wp _ (Code.region 12 (rdOps 12) true) _ _ _
        refine wp_region_held (S := fun V => Below w5.heap.size w5 V) (by kernel_rfl) ?_
        have hsz : (rdOps 12).size = 14 := by kernel_rfl
        rw [hsz]
        clear hsz
        refine gen_world (P := fun W' => wpAnyH _ _ _ _ _ _ _ _ W') (I := fun V => Below w5.heap.size w5 V) _ (Below.refl _ w5).drew ?_
        rintro y0 hB
        have HBy := Lib.hid hB
        clear hB
        refine wpAnyH_take (i := 0) (oi := ⟨some 67, _, _, _, _, _⟩) (v := .int .i64 (n : Int)) rfl (by kernel_rfl) (by kernel_rfl) (by kernel_rfl) (fun _ _ _ h => h) (Or.inl ⟨by rfl, fun w' hw' => by go_simp⟩) HBy.out ?_
        try simp only [Act.put, List.setIfInBounds_toArray, List.set_cons_succ, List.set_cons_zero]
        refine wpAnyH_take (i := 1) (oi := ⟨some 68, _, _, _, _, _⟩) (v := .int .i64 (p : Int)) rfl (by kernel_rfl) (by kernel_rfl) (by kernel_rfl) (fun _ _ _ h => h) (Or.inl ⟨by rfl, fun w' hw' => by go_simp⟩) HBy.out ?_
        try simp only [Act.put, List.setIfInBounds_toArray, List.set_cons_succ, List.set_cons_zero]
        refine wpAnyH_take (i := 2) (oi := ⟨some 69, _, _, _, _, _⟩) (v := .int .i64 ((n - p : Nat) : Int)) rfl (by kernel_rfl) (by kernel_rfl) (by kernel_rfl) (fun _ _ _ h => h) (Or.inl ⟨by rfl, fun w' hw' => by go_simp⟩) HBy.out ?_
        try simp only [Act.put, List.setIfInBounds_toArray, List.set_cons_succ, List.set_cons_zero]
        refine wpAnyH_take (i := 3) (oi := ⟨some 70, _, _, _, _, _⟩) (v := .int .i64 (i : Int)) rfl (by kernel_rfl) (by kernel_rfl) (by kernel_rfl) (fun _ _ _ h => h) (Or.inl ⟨by rfl, fun w' hw' => by go_simp⟩) HBy.out ?_
        try simp only [Act.put, List.setIfInBounds_toArray, List.set_cons_succ, List.set_cons_zero]
        refine wpAnyH_take (i := 4) (oi := ⟨some 71, _, _, _, _, _⟩) (v := .int .i64 (p : Int)) rfl (by kernel_rfl) (by kernel_rfl) (by kernel_rfl) (fun _ _ _ h => h) (Or.inl ⟨by rfl, fun w' hw' => by go_simp⟩) HBy.out ?_
        try simp only [Act.put, List.setIfInBounds_toArray, List.set_cons_succ, List.set_cons_zero]
        refine wpAnyH_take (i := 5) (oi := ⟨some 72, _, _, _, _, _⟩) (v := .int .i64 ((i - p : Nat) : Int)) rfl (by kernel_rfl) (by kernel_rfl) (by kernel_rfl) (fun _ _ _ h => h) (Or.inl ⟨by rfl, fun w' hw' => by go_simp⟩) HBy.out ?_
        try simp only [Act.put, List.setIfInBounds_toArray, List.set_cons_succ, List.set_cons_zero]
        refine wpAnyH_take (i := 6) (oi := ⟨some 73, _, _, _, _, none⟩) (v := .agg (arr32 x)) rfl (by kernel_rfl) (by kernel_rfl) (by kernel_rfl) (fun _ _ _ h => h) (yieldsIf_load ⟨w.heap.size, 0, none⟩ _ _ (fun w hw => (HX5.out.below hw hg6x).row) Tryd.underlying26 HIx.out rfl rfl) HBy.out ?_
        try simp only [Act.put, List.setIfInBounds_toArray, List.set_cons_succ, List.set_cons_zero]
        refine wpAnyH_take (i := 7) (oi := ⟨some 74, _, _, _, _, _⟩) (v := .slice (some ⟨g, off, none⟩) (k + 1) c) rfl (by kernel_rfl) (by kernel_rfl) (by kernel_rfl) (fun _ _ _ h => h) (Or.inl ⟨by rfl, fun w' hw' => by go_simp⟩) HBy.out ?_
        try simp only [Act.put, List.setIfInBounds_toArray, List.set_cons_succ, List.set_cons_zero]
        refine wpAnyH_take (i := 8) (oi := ⟨some 75, _, _, _, _, _⟩) (v := .slice (some ⟨g, off, none⟩) (k + 1) c) rfl (by kernel_rfl) (by kernel_rfl) (by kernel_rfl) (fun _ _ _ h => h) (Or.inl ⟨by rfl, fun w' hw' => by go_simp⟩) HBy.out ?_
        try simp only [Act.put, List.setIfInBounds_toArray, List.set_cons_succ, List.set_cons_zero]
        refine wpAnyH_take (i := 9) (oi := ⟨some 76, _, _, _, _, _⟩) (v := .int .i64 ((k : Int) + 1)) rfl (by kernel_rfl) (by kernel_rfl) (by kernel_rfl) (fun _ _ _ h => h) (Or.inl ⟨by rfl, fun w' hw' => by go_simp⟩) HBy.out ?_
        try simp only [Act.put, List.setIfInBounds_toArray, List.set_cons_succ, List.set_cons_zero]
        refine wpAnyH_take (i := 10) (oi := ⟨some 77, _, _, _, _, _⟩) (v := .int .i64 (k : Int)) rfl (by kernel_rfl) (by kernel_rfl) (by kernel_rfl) (fun _ _ _ h => h) (Or.inl ⟨by rfl, fun w' hw' => by go_simp⟩) HBy.out ?_
        try simp only [Act.put, List.setIfInBounds_toArray, List.set_cons_succ, List.set_cons_zero]
        refine wpAnyH_take (i := 11) (oi := ⟨some 78, _, _, _, _, _⟩) (v := .slice (some ⟨g, off, none⟩) k c) rfl (by kernel_rfl) (by kernel_rfl) (by kernel_rfl) (fun _ _ _ h => h) (Or.inl ⟨by rfl, fun w' hw' => by go_simp⟩) HBy.out ?_
        try simp only [Act.put, List.setIfInBounds_toArray, List.set_cons_succ, List.set_cons_zero]
        refine wpAnyH_all (rs := [12]) (by kernel_rfl) (by simp) ?_
        intro jj hi
        obtain rfl : jj = 12 := by simpa using hi
        clear hi
        refine wpOp_step (o := ⟨some 79, _, _, _, _, _⟩) rfl (fun K' hK' => ?_)
        rw [if_pos (show Region.wanted _ _ = true from rfl)]
        go_simp
        (with_reducible refine (HRd.out y0 HBy.out).mono ?_)
        rintro e U ⟨gl, cl, vl, rfl, ho, hn, hb⟩
        refine hK' _ _ ⟨HBy.out.trans (hb.mono HBy.out.size), ?_⟩
        clear hK' K'
        try simp only [Act.put, List.setIfInBounds_toArray, List.set_cons_succ, List.set_cons_zero]
        have HBU := Lib.hid (HBy.out.trans (hb.mono HBy.out.size))
        have hou := own_low ho (Nat.le_trans HB5.out.size HBy.out.size)
        clear hb
        refine wpAnyH_take (i := 13) (oi := ⟨some 16, _, _, _, _, _⟩) (v := .slice (some ⟨gl, 0, none⟩) N cl) rfl (by kernel_rfl) (by kernel_rfl) (by kernel_rfl) (fun _ _ _ h => h) (Or.inl ⟨by rfl, fun w' hw' => by go_simp⟩) HBU.out ?_
        try simp only [Act.put, List.setIfInBounds_toArray, List.set_cons_succ, List.set_cons_zero]
        refine wpAnyH_done (by kernel_rfl) ?_ _
        go_upto_region 13 with (fail)
        rename_i KK hKK
        obtain ⟨b0, hb0⟩ : ∃ b0, BS[0]? = some b0 := ⟨_, List.getElem?_eq_getElem (by rw [HNl.out]; exact hNp)⟩
        obtain ⟨gb, cb, hcb, hpb, hlb, hmb⟩ := part_of hou hn hb0
        obtain ⟨hbb, hbl⟩ := HBy0.out b0 (List.mem_of_getElem? hb0)
        have hAe : A = Sha.sha b0 := by rw [HAe.out, List.headD_eq_head?_getD, List.head?_eq_getElem?, hb0]; rfl
        have HBw := Lib.hid (HB5.out.trans (HBU.out.mono HB5.out.size))
        have HOfA : Hid (∀ V, Below U.heap.size U V → Calls Tryd.prog 17 #[.slice (some ⟨gb, 0, none⟩) b0.length cb] V fun e w' => e = .returned (.agg (arr32 A)) ∧ Below V.heap.size V w') := Lib.hid fun V hV => (of_any b0 _ cb V (hpb.below hV) hbb (by omega) (fun _ _ _ => ⟨hlb, hmb⟩) (HC.out.below (HBw.out.trans (hV.mono HBw.out.size)) rfl) A (Lib.hid hAe)).mono fun e w' h => ⟨h.1, h.2.2⟩
        have hgl := (hou.lt gl rfl).2
        have HCb : Hid (∀ V, Below U.heap.size U V → V.cell? ⟨gl, 0, none⟩ = some (.slice (some ⟨gb, 0, none⟩) b0.length cb)) := Lib.hid fun V hV => (hV.cell hgl).trans hcb
        have HLs : Hid (∀ V, Below U.heap.size U V → ∀ j u, (arr32 last)[j]? = some u → V.cell? ((⟨g12, 0, none⟩ : Addr).add j) = some u) := Lib.hid fun V hV => ((HL5.out.below (HBU.out) hg12).below hV (Nat.lt_of_lt_of_le hg12 HBU.out.size)).row
        obtain ⟨out, hout⟩ : ∃ out, out = Sha.sha (2 :: (last ++ A)) := ⟨_, rfl⟩
        have hol : out.length = 32 := by rw [hout]; exact (sha_bytes _).1
        have HIo := Lib.hid (arr32_info out (by omega))
        have HSo := Lib.hid (zero32_size out (by omega))
        have HJ : Hid (∀ (g8 : Nat) (V : World), Below U.heap.size U V → V.ownsRow w.heap.size 26 32 (.slice (some ⟨g8, 0, none⟩) 2 2) 2 ([last, A].flatMap cellsOf) → Calls Tryd.prog 86 #[.int .u8 2, .slice (some ⟨g8, 0, none⟩) 2 2] V fun e w' => ∃ g7 c7, e = .returned (.tuple #[.agg (arr32 out), .slice (some ⟨g7, 0, none⟩) 65 c7]) ∧ BPart w' (.slice (some ⟨g7, 0, none⟩) 65 c7) (2 :: (last ++ A)) ∧ Below V.heap.size V w') := Lib.hid fun g8 V hV ho => by
          have h := joined_lit 2 (by decide) [last, A] (fun l hl => by
            simp only [List.mem_cons, List.not_mem_nil, or_false] at hl
            rcases hl with rfl | rfl
            · exact HLok.out
            · exact HAok.out) 2 rfl (by decide) g8 2 w.heap.size V ho (HC.out.below (HBw.out.trans (hV.mono HBw.out.size)) rfl) 65 rfl
          have e : [last, A].flatten = last ++ A := by simp
          rw [e, ← hout] at h
          exact h
        have HOU := Lib.hid hou
        have HNU := Lib.hid hn
        clear ho hou hn hb0 hcb hpb hbb hAe hout
        have HNext : Hid (∀ (s0 s1 s2 s3 s4 s5 s6 s7 s8 s9 s10 s11 s12 s13 s14 s15 s17 s19 s20 s21 s22 s23 s24 s25 s26 s27 s28 s29 s30 s31 s32 s33 s34 s35 s36 s37 s38 s39 s40 s41 s42 s43 s44 s45 s46 s47 s48 s49 s50 s51 s52 s53 s54 s55 s56 s57 s58 s59 s60 s61 s62 s63 s64 s65 s66 s67 s68 s69 s70 s71 s72 s73 s74 s75 s76 s77 s78 s79 s80 s81 s82 s83 s84 s85 s86 s87 s88 s89 s90 s91 s92 s93 : Value) (g7 c7 : Nat) (V : World), Below U.heap.size U V → V.ownsRow w.heap.size 22 1 (.slice (some ⟨gl, 0, none⟩) N cl) N vl → BRows V vl BS → BPart V (.slice (some ⟨g7, 0, none⟩) 65 c7) (2 :: (last ++ A)) → KK ⟨#[s0, s1, s2, s3, s4, s5, s6, s7, s8, s9, s10, s11, s12, s13, s14, s15, .slice (some ⟨gl, 0, none⟩) N cl, s17, .slice (some ⟨g7, 0, none⟩) 65 c7, s19, s20, s21, s22, s23, s24, s25, s26, s27, s28, s29, s30, s31, s32, s33, s34, s35, s36, s37, s38, s39, s40, s41, s42, s43, s44, s45, s46, s47, s48, s49, s50, s51, s52, s53, s54, s55, s56, s57, s58, s59, s60, s61, s62, s63, s64, s65, s66, s67, s68, s69, s70, s71, s72, s73, s74, s75, s76, s77, s78, s79, s80, s81, s82, s83, s84, s85, s86, s87, s88, s89, s90, s91, s92, s93], []⟩ V) := Lib.hid fun s0 s1 s2 s3 s4 s5 s6 s7 s8 s9 s10 s11 s12 s13 s14 s15 s17 s19 s20 s21 s22 s23 s24 s25 s26 s27 s28 s29 s30 s31 s32 s33 s34 s35 s36 s37 s38 s39 s40 s41 s42 s43 s44 s45 s46 s47 s48 s49 s50 s51 s52 s53 s54 s55 s56 s57 s58 s59 s60 s61 s62 s63 s64 s65 s66 s67 s68 s69 s70 s71 s72 s73 s74 s75 s76 s77 s78 s79 s80 s81 s82 s83 s84 s85 s86 s87 s88 s89 s90 s91 s92 s93 g7 c7 V hBV hOV hNV hVV => by
          apply hKK
          have HBV := Lib.hid (HBw.out.trans (hBV.mono HBw.out.size))
          have HOV := Lib.hid (hOV.alloc (.cells #[.slice (some ⟨g7, 0, none⟩) 65 c7] 22))
          have hba := (Below.refl _ V).alloc (Nat.le_refl _) (.cells #[.slice (some ⟨g7, 0, none⟩) 65 c7] 22)
          have HNV := Lib.hid (hNV.below hba)
          have HVV := Lib.hid (hVV.below hba)
          have HB1 := Lib.hid (HBV.out.alloc HBV.out.size (.cells #[.slice (some ⟨g7, 0, none⟩) 65 c7] 22))
          have HO1 : Hid ((V.alloc (.cells #[.slice (some ⟨g7, 0, none⟩) 65 c7] 22)).ownsRow w.heap.size 22 1 (.slice (some ⟨V.heap.size, 0, none⟩) 1 1) 1 [.slice (some ⟨g7, 0, none⟩) 65 c7]) := Lib.hid (own_one (Has.fresh _ _ _) HBV.out.size)
          clear hBV hOV hNV hVV hba hKK
          go_wp2_with (at_builtin; refine wpList_append_own _ rfl _ _ 84 rfl w.heap.size 22 ib (.slice none 0 0) 1 24 Tryd.underlying84 hib hb10 hb11 hb12 rfl (by decide) _ _ _ rfl HO1.out ⟨gl, 0, none⟩ N cl vl rfl (by rw [Nat.mul_one, HNV.out.len]; exact HNl.out) (own_news HOV.out) (brows_one HNV.out) (by unfold maxLen; omega) (by omega) HB1.out.size ?_; intro v' w9 hown hgrow _; have HW9 := Lib.hid hown; have HV9 := Lib.hid (HVV.out.grown HO1.out hgrow); have HN9 := Lib.hid (HNV.out.grown HO1.out hgrow); have HB9 := Lib.hid (HB1.out.grown hgrow HB1.out.size (fun r hr => (HO1.out.lt r hr).1)); clear hown hgrow)
          go_ret
          exact ⟨v', rfl, _, own_cast HW9.out (by rw [HRf.out, ← HNl.out, List.length_cons]; omega) rfl, by rw [HRf.out]; exact ⟨HV9.out, HN9.out⟩, HB9.out⟩
        clear hKK
        change Code.wp _ (Code.region 13 (rdOps 13) true) _ _ _
        refine wp_region_held (S := fun V => Below U.heap.size U V) (by kernel_rfl) ?_
        have hsz : (rdOps 13).size = 13 := by kernel_rfl
        rw [hsz]
        clear hsz
        refine gen_world (P := fun W' => wpAnyH _ _ _ _ _ _ _ _ W') (I := fun V => Below U.heap.size U V ∧ V.ownsRow w.heap.size 22 1 (.slice (some ⟨gl, 0, none⟩) N cl) N vl ∧ BRows V vl BS) _ ⟨(Below.refl _ U).drew, own_below HOU.out (Below.refl _ U).drew, HNU.out.below (Below.refl _ U).drew⟩ ?_
        rintro z0 ⟨hB, hO, hN⟩
        have HBz0 := Lib.hid hB
        have HOz0 := Lib.hid hO
        have HNz0 := Lib.hid hN
        clear hB hO hN
        refine wpAnyH_take (i := 0) (oi := ⟨some 81, _, _, _, _, none⟩) (v := .agg (arr32 last)) rfl (by kernel_rfl) (by kernel_rfl) (by kernel_rfl) (fun _ _ _ h => h) (yieldsIf_load ⟨g12, 0, none⟩ _ _ (fun w hw => HLs.out w hw) Tryd.underlying26 HIl.out rfl rfl) HBz0.out ?_
        try simp only [Act.put, List.setIfInBounds_toArray, List.set_cons_succ, List.set_cons_zero]
        refine wpAnyH_take (i := 1) (oi := ⟨some 82, _, _, _, _, _⟩) (v := .slice (some ⟨gl, 0, none⟩) N cl) rfl (by kernel_rfl) (by kernel_rfl) (by kernel_rfl) (fun _ _ _ h => h) (Or.inl ⟨by rfl, fun w' hw' => by go_simp⟩) HBz0.out ?_
        try simp only [Act.put, List.setIfInBounds_toArray, List.set_cons_succ, List.set_cons_zero]
        refine wpAnyH_take (i := 2) (oi := ⟨some 83, _, _, _, _, _⟩) (v := .pointer (some ⟨gl, 0, none⟩)) rfl (by kernel_rfl) (by kernel_rfl) (by kernel_rfl) (fun _ _ _ h => h) (Or.inl ⟨by rfl, fun w' hw' => by go_simp⟩) HBz0.out ?_
        try simp only [Act.put, List.setIfInBounds_toArray, List.set_cons_succ, List.set_cons_zero]
        refine wpAnyH_take (i := 3) (oi := ⟨some 84, _, _, _, _, _⟩) (v := .slice (some ⟨gb, 0, none⟩) b0.length cb) rfl (by kernel_rfl) (by kernel_rfl) (by kernel_rfl) (fun _ _ _ h => h) (Or.inl ⟨by rfl, fun w' hw' => by have hq := HCb.out w' hw'; go_simp⟩) HBz0.out ?_
        try simp only [Act.put, List.setIfInBounds_toArray, List.set_cons_succ, List.set_cons_zero]
        refine wpAnyH_all (rs := [4, 10]) (by kernel_rfl) (by simp) ?_
        intro jj hi
        have hi2 : jj = 4 ∨ jj = 10 := by simpa using hi
        clear hi
        rcases hi2 with rfl | rfl
        · refine wpOp_step (o := ⟨some 85, _, _, _, _, _⟩) rfl (fun K' hK' => ?_)
          rw [if_pos (show Region.wanted _ _ = true from rfl)]
          go_simp
          (with_reducible refine (HOfA.out z0 HBz0.out).mono ?_)
          rintro e z1 ⟨rfl, hb⟩
          refine hK' _ _ ⟨HBz0.out.trans (hb.mono HBz0.out.size), ?_⟩
          clear hK' K'
          try simp only [Act.put, List.setIfInBounds_toArray, List.set_cons_succ, List.set_cons_zero]
          have HBz1 := Lib.hid (HBz0.out.trans (hb.mono HBz0.out.size))
          have HOz1 := Lib.hid (own_below HOz0.out hb)
          have HNz1 := Lib.hid (HNz0.out.below hb)
          clear hb
          refine wpAnyH_all (rs := [5, 10]) (by kernel_rfl) (by simp) ?_
          intro jj hi
          have hi2 : jj = 5 ∨ jj = 10 := by simpa using hi
          clear hi
          rcases hi2 with rfl | rfl
          · refine wpOp_step (o := ⟨some 86, _, _, _, _, _⟩) rfl (fun K' hK' => ?_)
            rw [if_pos (show Region.wanted _ _ = true from rfl)]
            refine opw_slice2 26 i9 _ (arr32 last) (arr32 A) Tryd.underlying49 hi9 hz90 HSzl.out HSza.out (by rw [hz91]; decide) (by rw [hz91]; decide) rfl rfl ?_
            refine hK' _ _ ⟨HBz1.out.alloc HBz1.out.size _, ?_⟩
            clear hK' K'
            try simp only [Act.put, List.setIfInBounds_toArray, List.set_cons_succ, List.set_cons_zero]
            refine gen_world (P := fun W' => wpAnyH _ _ _ _ _ _ _ _ W') (I := fun V => Below U.heap.size U V ∧ V.ownsRow w.heap.size 22 1 (.slice (some ⟨gl, 0, none⟩) N cl) N vl ∧ BRows V vl BS ∧ V.ownsRow w.heap.size 26 32 (.slice (some ⟨z1.heap.size, 0, none⟩) 2 2) 2 ([last, A].flatMap cellsOf)) _ ⟨HBz1.out.alloc HBz1.out.size _, HOz1.out.alloc _, HNz1.out.below ((Below.refl _ z1).alloc (Nat.le_refl _) _), own_lit2 _ _ HLl.out HLa.out (Nat.le_trans HBw.out.size HBz1.out.size)⟩ ?_
            rintro z2 ⟨hB, hO, hN, hS⟩
            generalize z1.heap.size = g8 at *
            have HBz2 := Lib.hid hB
            have HOz2 := Lib.hid hO
            have HNz2 := Lib.hid hN
            have HSz2 := Lib.hid hS
            clear hB hO hN hS
            refine wpAnyH_all (rs := [6, 10]) (by kernel_rfl) (by simp) ?_
            intro jj hi
            have hi2 : jj = 6 ∨ jj = 10 := by simpa using hi
            clear hi
            rcases hi2 with rfl | rfl
            · refine wpOp_step (o := ⟨some 87, _, _, _, _, _⟩) rfl (fun K' hK' => ?_)
              rw [if_pos (show Region.wanted _ _ = true from rfl)]
              go_simp
              (with_reducible refine (HJ.out g8 z2 HBz2.out HSz2.out).mono ?_)
              rintro e z3 ⟨g7, c7, rfl, hv, hb⟩
              refine hK' _ _ ⟨HBz2.out.trans (hb.mono HBz2.out.size), ?_⟩
              clear hK' K'
              try simp only [Act.put, List.setIfInBounds_toArray, List.set_cons_succ, List.set_cons_zero]
              have HBz3 := Lib.hid (HBz2.out.trans (hb.mono HBz2.out.size))
              have HOz3 := Lib.hid (own_below HOz2.out hb)
              have HNz3 := Lib.hid (HNz2.out.below hb)
              have HVz3 := Lib.hid hv
              clear hb hv
              refine wpAnyH_take (i := 7) (oi := ⟨some 80, _, _, _, _, _⟩) (v := .tuple #[.agg (arr32 out), .slice (some ⟨g7, 0, none⟩) 65 c7]) rfl (by kernel_rfl) (by kernel_rfl) (by kernel_rfl) (fun _ _ _ h => h) (Or.inl ⟨by rfl, fun w' hw' => by go_simp⟩) HBz3.out ?_
              try simp only [Act.put, List.setIfInBounds_toArray, List.set_cons_succ, List.set_cons_zero]
              refine wpAnyH_take (i := 8) (oi := ⟨some 88, _, _, _, _, _⟩) (v := .agg (arr32 out)) rfl (by kernel_rfl) (by kernel_rfl) (by kernel_rfl) (fun _ _ _ h => h) (Or.inl ⟨by rfl, fun w' hw' => by go_simp⟩) HBz3.out ?_
              try simp only [Act.put, List.setIfInBounds_toArray, List.set_cons_succ, List.set_cons_zero]
              refine wpAnyH_take (i := 9) (oi := ⟨some 89, _, _, _, _, _⟩) (v := .slice (some ⟨g7, 0, none⟩) 65 c7) rfl (by kernel_rfl) (by kernel_rfl) (by kernel_rfl) (fun _ _ _ h => h) (Or.inl ⟨by rfl, fun w' hw' => by go_simp⟩) HBz3.out ?_
              try simp only [Act.put, List.setIfInBounds_toArray, List.set_cons_succ, List.set_cons_zero]
              refine wpAnyH_all (rs := [10]) (by kernel_rfl) (by simp) ?_
              intro jj hi
              obtain rfl : jj = 10 := by simpa using hi
              clear hi
              refine wpOp_step (o := ⟨some 17, _, _, _, _, _⟩) rfl (fun K' hK' => ?_)
              rw [if_pos (show Region.wanted _ _ = true from rfl)]
              go_simp
              refine hK' _ _ ⟨HBz3.out.alloc HBz3.out.size _, ?_⟩
              clear hK' K'
              try simp only [Act.put, List.setIfInBounds_toArray, List.set_cons_succ, List.set_cons_zero]
              have hg6 : U.heap.size ≤ z3.heap.size := HBz3.out.size
              refine gen_world (P := fun W' => wpAnyH _ _ _ _ _ _ _ _ W') (I := fun V => Below U.heap.size U V ∧ V.ownsRow w.heap.size 22 1 (.slice (some ⟨gl, 0, none⟩) N cl) N vl ∧ BRows V vl BS ∧ Has V z3.heap.size 26 zero32 ∧ BPart V (.slice (some ⟨g7, 0, none⟩) 65 c7) (2 :: (last ++ A))) _ ⟨HBz3.out.alloc HBz3.out.size _, HOz3.out.alloc _, HNz3.out.below ((Below.refl _ z3).alloc (Nat.le_refl _) _), fresh_sum z3, HVz3.out.below ((Below.refl _ z3).alloc (Nat.le_refl _) _)⟩ ?_
              rintro z3a ⟨hB, hO, hN, hA, hV⟩
              generalize z3.heap.size = g6 at *
              have HBz3a := Lib.hid hB
              have HOz3a := Lib.hid hO
              have HNz3a := Lib.hid hN
              have HAz3a := Lib.hid hA
              have HVz3a := Lib.hid hV
              clear hB hO hN hA hV
              refine wpAnyH_all (rs := [11]) (by kernel_rfl) (by simp) ?_
              intro jj hi
              obtain rfl : jj = 11 := by simpa using hi
              clear hi
              refine wpOp_step (o := ⟨none, _, _, _, _, _⟩) rfl (fun K' hK' => ?_)
              rw [if_pos (show Region.wanted _ _ = true from rfl)]
              refine opw_store g6 (arr32 out) _ _ HAz3a.out HSo.out HIo.out (arr32_one _) rfl rfl ?_
              refine hK' _ _ ⟨below_setRow HBz3a.out hg6 _, ?_⟩
              clear hK' K'
              try simp only [Act.put, List.setIfInBounds_toArray, List.set_cons_succ, List.set_cons_zero]
              refine wpAnyH_take (i := 12) (oi := ⟨some 18, _, _, _, _, _⟩) (v := .slice (some ⟨g7, 0, none⟩) 65 c7) rfl (by kernel_rfl) (by kernel_rfl) (by kernel_rfl) (fun _ _ _ h => h) (Or.inl ⟨by rfl, fun w' hw' => by go_simp⟩) (below_setRow HBz3a.out hg6 _) ?_
              try simp only [Act.put, List.setIfInBounds_toArray, List.set_cons_succ, List.set_cons_zero]
              refine wpAnyH_done (by kernel_rfl) ?_ _
              exact HNext.out _ _ _ _ _ _ _ _ _ _ _ _ _ _ _ _ _ _ _ _ _ _ _ _ _ _ _ _ _ _ _ _ _ _ _ _ _ _ _ _ _ _ _ _ _ _ _ _ _ _ _ _ _ _ _ _ _ _ _ _ _ _ _ _ _ _ _ _ _ _ _ _ _ _ _ _ _ _ _ _ _ _ _ _ _ _ _ _ _ _ _ _ g7 c7 _ (below_setRow HBz3a.out hg6 _) (own_setRow HOz3a.out (fun e => own_not_sum HOz3a.out HAz3a.out e.symm) _) (HNz3a.out.on fun v b k => k.setRow (bpart_not_sum k HAz3a.out) _) (HVz3a.out.setRow (bpart_not_sum HVz3a.out HAz3a.out) _)
            · refine wpOp_step (o := ⟨some 17, _, _, _, _, _⟩) rfl (fun K' hK' => ?_)
              rw [if_pos (show Region.wanted _ _ = true from rfl)]
              go_simp
              refine hK' _ _ ⟨HBz2.out.alloc HBz2.out.size _, ?_⟩
              clear hK' K'
              try simp only [Act.put, List.setIfInBounds_toArray, List.set_cons_succ, List.set_cons_zero]
              have hg6 : U.heap.size ≤ z2.heap.size := HBz2.out.size
              refine gen_world (P := fun W' => wpAnyH _ _ _ _ _ _ _ _ W') (I := fun V => Below U.heap.size U V ∧ V.ownsRow w.heap.size 22 1 (.slice (some ⟨gl, 0, none⟩) N cl) N vl ∧ BRows V vl BS ∧ Has V z2.heap.size 26 zero32 ∧ V.ownsRow w.heap.size 26 32 (.slice (some ⟨g8, 0, none⟩) 2 2) 2 ([last, A].flatMap cellsOf)) _ ⟨HBz2.out.alloc HBz2.out.size _, HOz2.out.alloc _, HNz2.out.below ((Below.refl _ z2).alloc (Nat.le_refl _) _), fresh_sum z2, HSz2.out.alloc _⟩ ?_
              rintro z2a ⟨hB, hO, hN, hA, hS⟩
              generalize z2.heap.size = g6 at *
              have HBz2a := Lib.hid hB
              have HOz2a := Lib.hid hO
              have HNz2a := Lib.hid hN
              have HAz2a := Lib.hid hA
              have HSz2a := Lib.hid hS
              clear hB hO hN hA hS
              refine wpAnyH_all (rs := [6]) (by kernel_rfl) (by simp) ?_
              intro jj hi
              obtain rfl : jj = 6 := by simpa using hi
              clear hi
              refine wpOp_step (o := ⟨some 87, _, _, _, _, _⟩) rfl (fun K' hK' => ?_)
              rw [if_pos (show Region.wanted _ _ = true from rfl)]
              go_simp
              (with_reducible refine (HJ.out g8 z2a HBz2a.out HSz2a.out).mono ?_)
              rintro e z3a ⟨g7, c7, rfl, hv, hb⟩
              refine hK' _ _ ⟨HBz2a.out.trans (hb.mono HBz2a.out.size), ?_⟩
              clear hK' K'
              try simp only [Act.put, List.setIfInBounds_toArray, List.set_cons_succ, List.set_cons_zero]
              have HBz3a := Lib.hid (HBz2a.out.trans (hb.mono HBz2a.out.size))
              have HOz3a := Lib.hid (own_below HOz2a.out hb)
              have HNz3a := Lib.hid (HNz2a.out.below hb)
              have HAz3a := Lib.hid (HAz2a.out.below hb HAz2a.out.lt)
              have HVz3a := Lib.hid hv
              clear hb hv
              refine wpAnyH_take (i := 7) (oi := ⟨some 80, _, _, _, _, _⟩) (v := .tuple #[.agg (arr32 out), .slice (some ⟨g7, 0, none⟩) 65 c7]) rfl (by kernel_rfl) (by kernel_rfl) (by kernel_rfl) (fun _ _ _ h => h) (Or.inl ⟨by rfl, fun w' hw' => by go_simp⟩) HBz3a.out ?_
              try simp only [Act.put, List.setIfInBounds_toArray, List.set_cons_succ, List.set_cons_zero]
              refine wpAnyH_take (i := 8) (oi := ⟨some 88, _, _, _, _, _⟩) (v := .agg (arr32 out)) rfl (by kernel_rfl) (by kernel_rfl) (by kernel_rfl) (fun _ _ _ h => h) (Or.inl ⟨by rfl, fun w' hw' => by go_simp⟩) HBz3a.out ?_
              try simp only [Act.put, List.setIfInBounds_toArray, List.set_cons_succ, List.set_cons_zero]
              refine wpAnyH_take (i := 9) (oi := ⟨some 89, _, _, _, _, _⟩) (v := .slice (some ⟨g7, 0, none⟩) 65 c7) rfl (by kernel_rfl) (by kernel_rfl) (by kernel_rfl) (fun _ _ _ h => h) (Or.inl ⟨by rfl, fun w' hw' => by go_simp⟩) HBz3a.out ?_
              try simp only [Act.put, List.setIfInBounds_toArray, List.set_cons_succ, List.set_cons_zero]
              refine wpAnyH_all (rs := [11]) (by kernel_rfl) (by simp) ?_
              intro jj hi
              obtain rfl : jj = 11 := by simpa using hi
              clear hi
              refine wpOp_step (o := ⟨none, _, _, _, _, _⟩) rfl (fun K' hK' => ?_)
              rw [if_pos (show Region.wanted _ _ = true from rfl)]
              refine opw_store g6 (arr32 out) _ _ HAz3a.out HSo.out HIo.out (arr32_one _) rfl rfl ?_
              refine hK' _ _ ⟨below_setRow HBz3a.out hg6 _, ?_⟩
              clear hK' K'
              try simp only [Act.put, List.setIfInBounds_toArray, List.set_cons_succ, List.set_cons_zero]
              refine wpAnyH_take (i := 12) (oi := ⟨some 18, _, _, _, _, _⟩) (v := .slice (some ⟨g7, 0, none⟩) 65 c7) rfl (by kernel_rfl) (by kernel_rfl) (by kernel_rfl) (fun _ _ _ h => h) (Or.inl ⟨by rfl, fun w' hw' => by go_simp⟩) (below_setRow HBz3a.out hg6 _) ?_
              try simp only [Act.put, List.setIfInBounds_toArray, List.set_cons_succ, List.set_cons_zero]
              refine wpAnyH_done (by kernel_rfl) ?_ _
              exact HNext.out _ _ _ _ _ _ _ _ _ _ _ _ _ _ _ _ _ _ _ _ _ _ _ _ _ _ _ _ _ _ _ _ _ _ _ _ _ _ _ _ _ _ _ _ _ _ _ _ _ _ _ _ _ _ _ _ _ _ _ _ _ _ _ _ _ _ _ _ _ _ _ _ _ _ _ _ _ _ _ _ _ _ _ _ _ _ _ _ _ _ _ _ g7 c7 _ (below_setRow HBz3a.out hg6 _) (own_setRow HOz3a.out (fun e => own_not_sum HOz3a.out HAz3a.out e.symm) _) (HNz3a.out.on fun v b k => k.setRow (bpart_not_sum k HAz3a.out) _) (HVz3a.out.setRow (bpart_not_sum HVz3a.out HAz3a.out) _)
          · refine wpOp_step (o := ⟨some 17, _, _, _, _, _⟩) rfl (fun K' hK' => ?_)
            rw [if_pos (show Region.wanted _ _ = true from rfl)]
            go_simp
            refine hK' _ _ ⟨HBz1.out.alloc HBz1.out.size _, ?_⟩
            clear hK' K'
            try simp only [Act.put, List.setIfInBounds_toArray, List.set_cons_succ, List.set_cons_zero]
            have hg6 : U.heap.size ≤ z1.heap.size := HBz1.out.size
            refine gen_world (P := fun W' => wpAnyH _ _ _ _ _ _ _ _ W') (I := fun V => Below U.heap.size U V ∧ V.ownsRow w.heap.size 22 1 (.slice (some ⟨gl, 0, none⟩) N cl) N vl ∧ BRows V vl BS ∧ Has V z1.heap.size 26 zero32) _ ⟨HBz1.out.alloc HBz1.out.size _, HOz1.out.alloc _, HNz1.out.below ((Below.refl _ z1).alloc (Nat.le_refl _) _), fresh_sum z1⟩ ?_
            rintro z1a ⟨hB, hO, hN, hA⟩
            generalize z1.heap.size = g6 at *
            have HBz1a := Lib.hid hB
            have HOz1a := Lib.hid hO
            have HNz1a := Lib.hid hN
            have HAz1a := Lib.hid hA
            clear hB hO hN hA
            refine wpAnyH_all (rs := [5]) (by kernel_rfl) (by simp) ?_
            intro jj hi
            obtain rfl : jj = 5 := by simpa using hi
            clear hi
            refine wpOp_step (o := ⟨some 86, _, _, _, _, _⟩) rfl (fun K' hK' => ?_)
            rw [if_pos (show Region.wanted _ _ = true from rfl)]
            refine opw_slice2 26 i9 _ (arr32 last) (arr32 A) Tryd.underlying49 hi9 hz90 HSzl.out HSza.out (by rw [hz91]; decide) (by rw [hz91]; decide) rfl rfl ?_
            refine hK' _ _ ⟨HBz1a.out.alloc HBz1a.out.size _, ?_⟩
            clear hK' K'
            try simp only [Act.put, List.setIfInBounds_toArray, List.set_cons_succ, List.set_cons_zero]
            refine gen_world (P := fun W' => wpAnyH _ _ _ _ _ _ _ _ W') (I := fun V => Below U.heap.size U V ∧ V.ownsRow w.heap.size 22 1 (.slice (some ⟨gl, 0, none⟩) N cl) N vl ∧ BRows V vl BS ∧ V.ownsRow w.heap.size 26 32 (.slice (some ⟨z1a.heap.size, 0, none⟩) 2 2) 2 ([last, A].flatMap cellsOf) ∧ Has V g6 26 zero32) _ ⟨HBz1a.out.alloc HBz1a.out.size _, HOz1a.out.alloc _, HNz1a.out.below ((Below.refl _ z1a).alloc (Nat.le_refl _) _), own_lit2 _ _ HLl.out HLa.out (Nat.le_trans HBw.out.size HBz1a.out.size), HAz1a.out.alloc _⟩ ?_
            rintro z2a ⟨hB, hO, hN, hS, hA⟩
            generalize z1a.heap.size = g8 at *
            have HBz2a := Lib.hid hB
            have HOz2a := Lib.hid hO
            have HNz2a := Lib.hid hN
            have HSz2a := Lib.hid hS
            have HAz2a := Lib.hid hA
            clear hB hO hN hS hA
            refine wpAnyH_all (rs := [6]) (by kernel_rfl) (by simp) ?_
            intro jj hi
            obtain rfl : jj = 6 := by simpa using hi
            clear hi
            refine wpOp_step (o := ⟨some 87, _, _, _, _, _⟩) rfl (fun K' hK' => ?_)
            rw [if_pos (show Region.wanted _ _ = true from rfl)]
            go_simp
            (with_reducible refine (HJ.out g8 z2a HBz2a.out HSz2a.out).mono ?_)
            rintro e z3a ⟨g7, c7, rfl, hv, hb⟩
            refine hK' _ _ ⟨HBz2a.out.trans (hb.mono HBz2a.out.size), ?_⟩
            clear hK' K'
            try simp only [Act.put, List.setIfInBounds_toArray, List.set_cons_succ, List.set_cons_zero]
            have HBz3a := Lib.hid (HBz2a.out.trans (hb.mono HBz2a.out.size))
            have HOz3a := Lib.hid (own_below HOz2a.out hb)
            have HNz3a := Lib.hid (HNz2a.out.below hb)
            have HAz3a := Lib.hid (HAz2a.out.below hb HAz2a.out.lt)
            have HVz3a := Lib.hid hv
            clear hb hv
            refine wpAnyH_take (i := 7) (oi := ⟨some 80, _, _, _, _, _⟩) (v := .tuple #[.agg (arr32 out), .slice (some ⟨g7, 0, none⟩) 65 c7]) rfl (by kernel_rfl) (by kernel_rfl) (by kernel_rfl) (fun _ _ _ h => h) (Or.inl ⟨by rfl, fun w' hw' => by go_simp⟩) HBz3a.out ?_
            try simp only [Act.put, List.setIfInBounds_toArray, List.set_cons_succ, List.set_cons_zero]
            refine wpAnyH_take (i := 8) (oi := ⟨some 88, _, _, _, _, _⟩) (v := .agg (arr32 out)) rfl (by kernel_rfl) (by kernel_rfl) (by kernel_rfl) (fun _ _ _ h => h) (Or.inl ⟨by rfl, fun w' hw' => by go_simp⟩) HBz3a.out ?_
            try simp only [Act.put, List.setIfInBounds_toArray, List.set_cons_succ, List.set_cons_zero]
            refine wpAnyH_take (i := 9) (oi := ⟨some 89, _, _, _, _, _⟩) (v := .slice (some ⟨g7, 0, none⟩) 65 c7) rfl (by kernel_rfl) (by kernel_rfl) (by kernel_rfl) (fun _ _ _ h => h) (Or.inl ⟨by rfl, fun w' hw' => by go_simp⟩) HBz3a.out ?_
            try simp only [Act.put, List.setIfInBounds_toArray, List.set_cons_succ, List.set_cons_zero]
            refine wpAnyH_all (rs := [11]) (by kernel_rfl) (by simp) ?_
            intro jj hi
            obtain rfl : jj = 11 := by simpa using hi
            clear hi
            refine wpOp_step (o := ⟨none, _, _, _, _, _⟩) rfl (fun K' hK' => ?_)
            rw [if_pos (show Region.wanted _ _ = true from rfl)]
            refine opw_store g6 (arr32 out) _ _ HAz3a.out HSo.out HIo.out (arr32_one _) rfl rfl ?_
            refine hK' _ _ ⟨below_setRow HBz3a.out hg6 _, ?_⟩
            clear hK' K'
            try simp only [Act.put, List.setIfInBounds_toArray, List.set_cons_succ, List.set_cons_zero]
            refine wpAnyH_take (i := 12) (oi := ⟨some 18, _, _, _, _, _⟩) (v := .slice (some ⟨g7, 0, none⟩) 65 c7) rfl (by kernel_rfl) (by kernel_rfl) (by kernel_rfl) (fun _ _ _ h => h) (Or.inl ⟨by rfl, fun w' hw' => by go_simp⟩) (below_setRow HBz3a.out hg6 _) ?_
            try simp only [Act.put, List.setIfInBounds_toArray, List.set_cons_succ, List.set_cons_zero]
            refine wpAnyH_done (by kernel_rfl) ?_ _
            exact HNext.out _ _ _ _ _ _ _ _ _ _ _ _ _ _ _ _ _ _ _ _ _ _ _ _ _ _ _ _ _ _ _ _ _ _ _ _ _ _ _ _ _ _ _ _ _ _ _ _ _ _ _ _ _ _ _ _ _ _ _ _ _ _ _ _ _ _ _ _ _ _ _ _ _ _ _ _ _ _ _ _ _ _ _ _ _ _ _ _ _ _ _ _ g7 c7 _ (below_setRow HBz3a.out hg6 _) (own_setRow HOz3a.out (fun e => own_not_sum HOz3a.out HAz3a.out e.symm) _) (HNz3a.out.on fun v b k => k.setRow (bpart_not_sum k HAz3a.out) _) (HVz3a.out.setRow (bpart_not_sum HVz3a.out HAz3a.out) _)
        · refine wpOp_step (o := ⟨some 17, _, _, _, _, _⟩) rfl (fun K' hK' => ?_)
          rw [if_pos (show Region.wanted _ _ = true from rfl)]
          go_simp
          refine hK' _ _ ⟨HBz0.out.alloc HBz0.out.size _, ?_⟩
          clear hK' K'
          try simp only [Act.put, List.setIfInBounds_toArray, List.set_cons_succ, List.set_cons_zero]
          have hg6 : U.heap.size ≤ z0.heap.size := HBz0.out.size
          refine gen_world (P := fun W' => wpAnyH _ _ _ _ _ _ _ _ W') (I := fun V => Below U.heap.size U V ∧ V.ownsRow w.heap.size 22 1 (.slice (some ⟨gl, 0, none⟩) N cl) N vl ∧ BRows V vl BS ∧ Has V z0.heap.size 26 zero32) _ ⟨HBz0.out.alloc HBz0.out.size _, HOz0.out.alloc _, HNz0.out.below ((Below.refl _ z0).alloc (Nat.le_refl _) _), fresh_sum z0⟩ ?_
          rintro z0a ⟨hB, hO, hN, hA⟩
          generalize z0.heap.size = g6 at *
          have HBz0a := Lib.hid hB
          have HOz0a := Lib.hid hO
          have HNz0a := Lib.hid hN
          have HAz0a := Lib.hid hA
          clear hB hO hN hA
          refine wpAnyH_all (rs := [4]) (by kernel_rfl) (by simp) ?_
          intro jj hi
          obtain rfl : jj = 4 := by simpa using hi
          clear hi
          refine wpOp_step (o := ⟨some 85, _, _, _, _, _⟩) rfl (fun K' hK' => ?_)
          rw [if_pos (show Region.wanted _ _ = true from rfl)]
          go_simp
          (with_reducible refine (HOfA.out z0a HBz0a.out).mono ?_)
          rintro e z1a ⟨rfl, hb⟩
          refine hK' _ _ ⟨HBz0a.out.trans (hb.mono HBz0a.out.size), ?_⟩
          clear hK' K'
          try simp only [Act.put, List.setIfInBounds_toArray, List.set_cons_succ, List.set_cons_zero]
          have HBz1a := Lib.hid (HBz0a.out.trans (hb.mono HBz0a.out.size))
          have HOz1a := Lib.hid (own_below HOz0a.out hb)
          have HNz1a := Lib.hid (HNz0a.out.below hb)
          have HAz1a := Lib.hid (HAz0a.out.below hb HAz0a.out.lt)
          clear hb
          refine wpAnyH_all (rs := [5]) (by kernel_rfl) (by simp) ?_
          intro jj hi
          obtain rfl : jj = 5 := by simpa using hi
          clear hi
          refine wpOp_step (o := ⟨some 86, _, _, _, _, _⟩) rfl (fun K' hK' => ?_)
          rw [if_pos (show Region.wanted _ _ = true from rfl)]
          refine opw_slice2 26 i9 _ (arr32 last) (arr32 A) Tryd.underlying49 hi9 hz90 HSzl.out HSza.out (by rw [hz91]; decide) (by rw [hz91]; decide) rfl rfl ?_
          refine hK' _ _ ⟨HBz1a.out.alloc HBz1a.out.size _, ?_⟩
          clear hK' K'
          try simp only [Act.put, List.setIfInBounds_toArray, List.set_cons_succ, List.set_cons_zero]
          refine gen_world (P := fun W' => wpAnyH _ _ _ _ _ _ _ _ W') (I := fun V => Below U.heap.size U V ∧ V.ownsRow w.heap.size 22 1 (.slice (some ⟨gl, 0, none⟩) N cl) N vl ∧ BRows V vl BS ∧ V.ownsRow w.heap.size 26 32 (.slice (some ⟨z1a.heap.size, 0, none⟩) 2 2) 2 ([last, A].flatMap cellsOf) ∧ Has V g6 26 zero32) _ ⟨HBz1a.out.alloc HBz1a.out.size _, HOz1a.out.alloc _, HNz1a.out.below ((Below.refl _ z1a).alloc (Nat.le_refl _) _), own_lit2 _ _ HLl.out HLa.out (Nat.le_trans HBw.out.size HBz1a.out.size), HAz1a.out.alloc _⟩ ?_
          rintro z2a ⟨hB, hO, hN, hS, hA⟩
          generalize z1a.heap.size = g8 at *
          have HBz2a := Lib.hid hB
          have HOz2a := Lib.hid hO
          have HNz2a := Lib.hid hN
          have HSz2a := Lib.hid hS
          have HAz2a := Lib.hid hA
          clear hB hO hN hS hA
          refine wpAnyH_all (rs := [6]) (by kernel_rfl) (by simp) ?_
          intro jj hi
          obtain rfl : jj = 6 := by simpa using hi
          clear hi
          refine wpOp_step (o := ⟨some 87, _, _, _, _, _⟩) rfl (fun K' hK' => ?_)
          rw [if_pos (show Region.wanted _ _ = true from rfl)]
          go_simp
          (with_reducible refine (HJ.out g8 z2a HBz2a.out HSz2a.out).mono ?_)
          rintro e z3a ⟨g7, c7, rfl, hv, hb⟩
          refine hK' _ _ ⟨HBz2a.out.trans (hb.mono HBz2a.out.size), ?_⟩
          clear hK' K'
          try simp only [Act.put, List.setIfInBounds_toArray, List.set_cons_succ, List.set_cons_zero]
          have HBz3a := Lib.hid (HBz2a.out.trans (hb.mono HBz2a.out.size))
          have HOz3a := Lib.hid (own_below HOz2a.out hb)
          have HNz3a := Lib.hid (HNz2a.out.below hb)
          have HAz3a := Lib.hid (HAz2a.out.below hb HAz2a.out.lt)
          have HVz3a := Lib.hid hv
          clear hb hv
          refine wpAnyH_take (i := 7) (oi := ⟨some 80, _, _, _, _, _⟩) (v := .tuple #[.agg (arr32 out), .slice (some ⟨g7, 0, none⟩) 65 c7]) rfl (by kernel_rfl) (by kernel_rfl) (by kernel_rfl) (fun _ _ _ h => h) (Or.inl ⟨by rfl, fun w' hw' => by go_simp⟩) HBz3a.out ?_
          try simp only [Act.put, List.setIfInBounds_toArray, List.set_cons_succ, List.set_cons_zero]
          refine wpAnyH_take (i := 8) (oi := ⟨some 88, _, _, _, _, _⟩) (v := .agg (arr32 out)) rfl (by kernel_rfl) (by kernel_rfl) (by kernel_rfl) (fun _ _ _ h => h) (Or.inl ⟨by rfl, fun w' hw' => by go_simp⟩) HBz3a.out ?_
          try simp only [Act.put, List.setIfInBounds_toArray, List.set_cons_succ, List.set_cons_zero]
          refine wpAnyH_take (i := 9) (oi := ⟨some 89, _, _, _, _, _⟩) (v := .slice (some ⟨g7, 0, none⟩) 65 c7) rfl (by kernel_rfl) (by kernel_rfl) (by kernel_rfl) (fun _ _ _ h => h) (Or.inl ⟨by rfl, fun w' hw' => by go_simp⟩) HBz3a.out ?_
          try simp only [Act.put, List.setIfInBounds_toArray, List.set_cons_succ, List.set_cons_zero]
          refine wpAnyH_all (rs := [11]) (by kernel_rfl) (by simp) ?_
          intro jj hi
          obtain rfl : jj = 11 := by simpa using hi
          clear hi
          refine wpOp_step (o := ⟨none, _, _, _, _, _⟩) rfl (fun K' hK' => ?_)
          rw [if_pos (show Region.wanted _ _ = true from rfl)]
          refine opw_store g6 (arr32 out) _ _ HAz3a.out HSo.out HIo.out (arr32_one _) rfl rfl ?_
          refine hK' _ _ ⟨below_setRow HBz3a.out hg6 _, ?_⟩
          clear hK' K'
          try simp only [Act.put, List.setIfInBounds_toArray, List.set_cons_succ, List.set_cons_zero]
          refine wpAnyH_take (i := 12) (oi := ⟨some 18, _, _, _, _, _⟩) (v := .slice (some ⟨g7, 0, none⟩) 65 c7) rfl (by kernel_rfl) (by kernel_rfl) (by kernel_rfl) (fun _ _ _ h => h) (Or.inl ⟨by rfl, fun w' hw' => by go_simp⟩) (below_setRow HBz3a.out hg6 _) ?_
          try simp only [Act.put, List.setIfInBounds_toArray, List.set_cons_succ, List.set_cons_zero]
          refine wpAnyH_done (by kernel_rfl) ?_ _
          exact HNext.out _ _ _ _ _ _ _ _ _ _ _ _ _ _ _ _ _ _ _ _ _ _ _ _ _ _ _ _ _ _ _ _ _ _ _ _ _ _ _ _ _ _ _ _ _ _ _ _ _ _ _ _ _ _ _ _ _ _ _ _ _ _ _ _ _ _ _ _ _ _ _ _ _ _ _ _ _ _ _ _ _ _ _ _ _ _ _ _ _ _ _ _ g7 c7 _ (below_setRow HBz3a.out hg6 _) (own_setRow HOz3a.out (fun e => own_not_sum HOz3a.out HAz3a.out e.symm) _) (HNz3a.out.on fun v b k => k.setRow (bpart_not_sum k HAz3a.out) _) (HVz3a.out.setRow (bpart_not_sum HVz3a.out HAz3a.out) _)
theorem read_any : ∀ f : Nat, ReadOk f
  | 0 => fun n i x way a c w k _ _ _ _ _ _ h => by rw [climb] at h; cases h
  | f + 1 => fun n i x way a c w k h1 hn hi hf hx hok hcl hk hr hc => by
    by_cases he : n = 1
    · subst he
      exact read_one f i x way hx a c k w hc
    · rcases List.eq_nil_or_concat way with rfl | ⟨w1, last, rfl⟩
      · rw [cl_none (by omega)] at hcl; cases hcl
      · rw [List.concat_eq_append] at *
        rcases hr with ⟨_, he, _⟩ | ⟨g, off, rfl, hg, hs, hc1, hm⟩
        · simp at he
        · have hl2 : (w1 ++ [last]).length = w1.length + 1 := by simp
          rw [hl2] at hk hc1
          subst hk
          exact read_many f (read_any f) n i x w1 last (by omega) hn hi (by omega) hx hok hcl w1.length rfl g off c w hs hg hc1 hm hc
end Go.Proofs.YtffdkniahdekjaaDoor
end
