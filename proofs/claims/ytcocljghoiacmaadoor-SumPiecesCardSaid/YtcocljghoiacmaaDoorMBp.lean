/-
  THE LAW SumPieces, WALKED: true, and nothing that was there is turned.
-/
import Derived.Test.YtcocljghoiacmaaDoorMBl
import Derived.Test.YtcocljghoiacmaaDoorMBo
import Derived.Test.YtcocljghoiacmaaDoorMBm
import Derived.Test.YtcocljghoiacmaaDoorMBe
import Derived.Test.YtcocljghoiacmaaDoorMBf
section
namespace Go.Proofs.YtcocljghoiacmaaDoor
open Go.RowKit Go.Hoar
noncomputable def pcOps (k : Nat) : Array Oper := (Tryd.f4.body.bind (opsAt k)).getD #[]
theorem equal_same (bs : List Nat) (hbs : Sha.Bytes bs) (a b : Option Addr) (c d : Nat) (w : World) (ha : PartOk w a c bs) (hb : PartOk w b d bs) :
    Calls Tryd.prog 19 #[.slice a bs.length c, .slice b bs.length d] w fun e w' => e = .returned (.bool true) ∧ Below w.heap.size w w' := by
  refine (equal_any bs bs hbs hbs a b c d w ha hb).mono ?_
  rintro e w' ⟨rfl, rfl⟩
  exact ⟨by rw [decide_eq_true rfl], Below.refl _ _⟩
theorem equal_keep (bs : List Nat) (hbs : Sha.Bytes bs) (a b : Option Addr) (c d : Nat) (w : World) (ha : PartOk w a c bs) (hb : PartOk w b d bs) :
    Calls Tryd.prog 19 #[.slice a bs.length c, .slice b bs.length d] w fun e w' => e = .returned (.bool true) ∧ w = w' := by
  refine (equal_any bs bs hbs hbs a b c d w ha hb).mono ?_
  rintro e w' ⟨rfl, rfl⟩
  exact ⟨by rw [decide_eq_true rfl], rfl⟩
theorem u8_all : ((Value.int .u8 0).cells.all fun x => x.oneCell') = true := by first | decide | simp [Value.cells, Value.oneCell'] | simp [Value.cells]
theorem pieces_big (words : Array Value) (n m : Nat) (long : Int) (hbig : 200 < n ∨ 3000 < m) (a b : Option Addr) (c d : Nat) (w : World) (hc : ConstAt w) :
    Calls Tryd.prog 4 #[.agg words, .slice a n c, .int .i64 long, .slice b m d] w fun e w' => e = .returned (.bool true) ∧ Below w.heap.size w w' := by
  have HAw : Hid (∀ V : World, Below w.heap.size w V → Calls Tryd.prog 15 #[] V fun e w' => e = .returned (.bool true) ∧ Below V.heap.size V w') := Lib.hid fun V hV => awake_any V (hc.below hV rfl)
  clear hc
  by_cases h0 : 200 < n
  · have hb2 : (200 : Int) < n := by omega
    clear hbig
    go_enter Tryd.func4, Tryd.ntmps4
    go_upto_region 1 with (fail)
    refine gen_world (P := fun W => Code.wp _ _ _ _ W) (I := fun W => Below w.heap.size w W) _ ((Below.refl _ w).alloc (Nat.le_refl _) _) ?_
    intro W hB
    have HB := Lib.hid hB
    clear hB
    go_wp2_with (go_at_call 15; (with_reducible refine (HAw.out _ HB.out).mono ?_); rintro e w1 ⟨rfl, hb1⟩; have HB1 := Lib.hid (HB.out.trans (hb1.mono HB.out.size)); clear hb1)
    go_ret
    exact ⟨rfl, HB1.out⟩
  · have hb1 : ¬ (200 : Int) < n := by omega
    have hb2 : (3000 : Int) < m := by omega
    clear hbig
    go_enter Tryd.func4, Tryd.ntmps4
    go_upto_region 1 with (fail)
    refine gen_world (P := fun W => Code.wp _ _ _ _ W) (I := fun W => Below w.heap.size w W) _ ((Below.refl _ w).alloc (Nat.le_refl _) _) ?_
    intro W hB
    have HB := Lib.hid hB
    clear hB
    go_wp2_with (go_at_call 15; (with_reducible refine (HAw.out _ HB.out).mono ?_); rintro e w1 ⟨rfl, hb1⟩; have HB1 := Lib.hid (HB.out.trans (hb1.mono HB.out.size)); clear hb1)
    go_ret
    exact ⟨rfl, HB1.out⟩
set_option maxRecDepth 100000 in
set_option maxHeartbeats 6000000 in
/-- THE LAW's WALK. -/
theorem pieces_law (h rb bs : List Nat) (hh : h.length = 8) (hw : Sha.Words h) (hrb : Sha.Bytes rb) (hbs : Sha.Bytes bs) (ra a : Option Addr) (rc c : Nat) (long : Int) (hl : -9223372036854775808 ≤ long) (hl2 : long ≤ 9223372036854775807) (w : World) (hp : PartOk w ra rc rb) (hq : PartOk w a c bs) (hc : ConstAt w) :
    Calls Tryd.prog 4 #[.agg (w8 h), .slice ra rb.length rc, .int .i64 long, .slice a bs.length c] w fun e w' => e = .returned (.bool true) ∧ Below w.heap.size w w' := by
  by_cases hbig : 200 < rb.length ∨ 3000 < bs.length
  · exact pieces_big (w8 h) rb.length bs.length long hbig ra a rc c w hc
  · have hb1 : ¬ (200 : Int) < rb.length := by omega
    have hb2 : ¬ (3000 : Int) < bs.length := by omega
    have hrl : rb.length ≤ 200 := by omega
    have hbl : bs.length ≤ 3000 := by omega
    obtain ⟨i0, hi0, hz0, hz1, hz2⟩ := info_parts info8
    obtain ⟨H, Rr, N, er, hHl, hRl, hRb, wr1, wr2⟩ := write_both h rb bs long hh hw hrb hbs (by omega) (by omega) hl hl2
    obtain ⟨X, er2, hXl, dn1, dn2⟩ := done_both h rb long hh hw hrb (by omega) hl
    have HWr1 := Lib.hid wr1
    have HWr2 := Lib.hid wr2
    have HDn1 := Lib.hid dn1
    have HDn2 := Lib.hid dn2
    have HP := Lib.hid hp
    have HQ := Lib.hid hq
    have HC := Lib.hid hc
    have HRB := Lib.hid hrb
    have HBS := Lib.hid hbs
    have HRRB := Lib.hid hRb
    have HAw : Hid (∀ V : World, ConstAt V → Calls Tryd.prog 15 #[] V fun e w' => e = .returned (.bool true) ∧ Below V.heap.size V w') := Lib.hid fun V hV => awake_any V hV
    have HIh := Lib.hid (w8_info h hh)
    have HIH := Lib.hid (w8_info H hHl)
    have HOH := Lib.hid (w8_one H)
    have HSH : Hid ((#[.int .u32 0, .int .u32 0, .int .u32 0, .int .u32 0, .int .u32 0, .int .u32 0, .int .u32 0, .int .u32 0] : Array Value).size = (w8 H).size) := Lib.hid (by rw [w8_size _ hHl]; rfl)
    have HIX := Lib.hid (arr32_info X (by omega))
    have HSX := Lib.hid (zero32_size X (by omega))
    have HIs := Lib.hid fun (r : Value) => state_info h r long hh
    have HIS := Lib.hid fun (r : Value) => state_info H r N hHl
    have HZs : Hid (∀ (r : Value), zeroState.size = (stateCells h r long).size) := Lib.hid fun r => by rw [state_size h r long hh]; rfl
    have HZS : Hid (∀ (r : Value), zeroState.size = (stateCells H r N).size) := Lib.hid fun r => by rw [state_size H r N hHl]; rfl
    have HBuild := Lib.hid fun (r : Option Addr) (n c : Nat) (V : World) => run_state h hh r n c long V
    have hn8 : ∀ V : World, (binOp .neq 31 (.agg (w8 H)) (.agg (w8 H))).run Tryd.prog V = .ok (.bool false) V := fun V => words_neq H hHl V
    have he8 : ∀ V : World, (binOp .eql 31 (.agg (w8 h)) (.agg (w8 h))).run Tryd.prog V = .ok (.bool true) V := fun V => words_eql h hh V
    have hf8 : ∀ V : World, (binOp .eql 31 (.agg (w8 Sha.first)) (.agg (w8 Sha.first))).run Tryd.prog V = .ok (.bool true) V := fun V => words_eql Sha.first rfl V
    have hnX : ∀ V : World, (binOp .neq 26 (.agg (arr32 X)) (.agg (arr32 X))).run Tryd.prog V = .ok (.bool false) V := fun V => by
      have := sum_neq X X hXl hXl V
      rwa [decide_eq_true rfl] at this
    have hg1 := sum_guard
    have hg2 := words_guard
    have HN8 := Lib.hid hn8
    have HE8 := Lib.hid he8
    have HF8 := Lib.hid hf8
    have HNX := Lib.hid hnX
    have HG1 := Lib.hid hg1
    have HG2 := Lib.hid hg2
    clear hp hq hc hbig wr1 wr2 dn1 dn2 hrb hbs hRb hn8 he8 hf8 hnX hg1 hg2
    go_enter Tryd.func4, Tryd.ntmps4
    go_upto_region 1 with (fail)
    refine gen_world (P := fun W => Code.wp _ _ _ _ W) (I := fun W => Below w.heap.size w W ∧ Has W w.heap.size 31 (w8 h)) _ ⟨(Below.refl _ w).alloc (Nat.le_refl _) _, Has.fresh_at _ _ _ _ rfl⟩ ?_
    rintro W ⟨hB, hH4⟩
    have HB := Lib.hid hB
    have H4 := Lib.hid hH4
    clear hB hH4
    go_upto_region 3 with (fail)
    change Code.wp _ (Code.region 3 (pcOps 3) true) _ _ _
    refine wp_region_held (S := fun V => Below W.heap.size W V) (by kernel_rfl) ?_
    have hsz : (pcOps 3).size = 7 := by kernel_rfl
    rw [hsz]
    clear hsz
    refine gen_world (P := fun W' => wpAnyH _ _ _ _ _ _ _ _ W') (I := fun V => Below W.heap.size W V) _ (Below.refl _ W).drew ?_
    intro V hBV
    have HS0 := Lib.hid hBV
    clear hBV
    refine wpAnyH_take (i := 0) (oi := ⟨some 31, _, _, _, _, none⟩) (v := .agg (w8 h)) rfl (by kernel_rfl) (by kernel_rfl) (by kernel_rfl) (fun _ _ _ h => h) (yieldsIf_load ⟨w.heap.size, 0, none⟩ _ _ (fun x hx => (H4.out.below hx H4.out.lt).row) Tryd.underlying31 HIh.out rfl rfl) HS0.out ?_
    try simp only [Act.put, List.setIfInBounds_toArray, List.set_cons_succ, List.set_cons_zero]
    refine wpAnyH_take (i := 1) (oi := ⟨some 32, _, _, _, _, _⟩) (v := ?_) rfl (by kernel_rfl) (by kernel_rfl) (by kernel_rfl) (fun _ _ _ h => h) (Or.inl ⟨by rfl, fun w' hw' => by go_simp; with_reducible rfl⟩) HS0.out ?_
    try simp only [Act.put, List.setIfInBounds_toArray, List.set_cons_succ, List.set_cons_zero]
    refine wpAnyH_take (i := 3) (oi := ⟨some 34, _, _, _, _, _⟩) (v := ?_) rfl (by kernel_rfl) (by kernel_rfl) (by kernel_rfl) (fun _ _ _ h => h) (Or.inl ⟨by rfl, fun w' hw' => by go_simp; with_reducible rfl⟩) HS0.out ?_
    try simp only [Act.put, List.setIfInBounds_toArray, List.set_cons_succ, List.set_cons_zero]
    refine wpAnyH_all (rs := [2, 5]) (by kernel_rfl) (by simp) ?_
    intro j hj
    have hj2 : j = 2 ∨ j = 5 := by simpa using hj
    clear hj
    rcases hj2 with rfl | rfl
    · refine wpOp_step (o := ⟨some 33, _, _, _, _, _⟩) rfl (fun K' hK' => ?_)
      rw [if_pos (show Region.wanted _ _ = true from rfl)]
      go_simp
      (with_reducible refine (clone_part (HP.out.below (HB.out.trans (HS0.out.mono HB.out.size))) (by omega)).mono ?_)
      rintro e v1 ⟨a1, c1, rfl, ho1, hbx⟩
      have HS1 := Lib.hid (HS0.out.trans (hbx.mono HS0.out.size))
      have HO1 := Lib.hid ho1
      clear hbx ho1
      refine hK' _ _ ⟨HS1.out, ?_⟩
      clear hK' K'
      try simp only [Act.put, List.setIfInBounds_toArray, List.set_cons_succ, List.set_cons_zero]
      have hbd := HBuild.out a1 rb.length c1
      refine wpAnyH_take (i := 4) (oi := ⟨some 35, _, _, _, _, _⟩) (v := .agg (stateCells h (.slice a1 rb.length c1) long)) rfl (by kernel_rfl) (by kernel_rfl) (by kernel_rfl) (fun _ _ _ h => h) (Or.inl ⟨by rfl, fun w' hw' => by unfold execOp; simp only [Sem.run_bind, List.map_toArray, List.map_cons, List.map_nil]; exact congrArg (fun r => Result.andThen r _) (hbd w')⟩) HS1.out ?_
      try simp only [Act.put, List.setIfInBounds_toArray, List.set_cons_succ, List.set_cons_zero]
      clear hbd
      have HF1 : Hid (Has (v1.alloc (.cells zeroState 33)) v1.heap.size 33 zeroState) := Lib.hid (Has.fresh v1 33 _)
      refine wpAnyH_all (rs := [5]) (by kernel_rfl) (by simp) ?_
      intro i hi
      obtain rfl : i = 5 := by simpa using hi
      clear hi
      refine wpOp_step (o := ⟨some 9, _, _, _, _, _⟩) rfl (fun K' hK' => ?_)
      rw [if_pos (show Region.wanted _ _ = true from rfl)]
      go_simp
      refine hK' _ _ ⟨HS1.out.alloc HS1.out.size _, ?_⟩
      clear hK' K'
      try simp only [Act.put, List.setIfInBounds_toArray, List.set_cons_succ, List.set_cons_zero]
      refine wpAnyH_all (rs := [6]) (by kernel_rfl) (by simp) ?_
      intro i hi
      obtain rfl : i = 6 := by simpa using hi
      clear hi
      refine wpOp_step (o := ⟨none, _, _, _, _, _⟩) rfl (fun K' hK' => ?_)
      rw [if_pos (show Region.wanted _ _ = true from rfl)]
      refine opw_store v1.heap.size (stateCells h (.slice a1 rb.length c1) long) 33 zeroState HF1.out (HZs.out _) (HIs.out _) (state_one _ _ _ rfl) rfl rfl ?_
      refine hK' _ _ ⟨below_setRow (HS1.out.alloc HS1.out.size _) HS1.out.size _, ?_⟩
      clear hK' K'
      try simp only [Act.put, List.setIfInBounds_toArray, List.set_cons_succ, List.set_cons_zero]
      refine wpAnyH_done (by kernel_rfl) ?_ _
      refine gen_world (P := fun W => _) (I := fun Z => Below W.heap.size W Z ∧ Has Z v1.heap.size 33 (stateCells h (.slice a1 rb.length c1) long) ∧ PartOk Z a1 c1 rb) _ ⟨below_setRow (HS1.out.alloc HS1.out.size _) HS1.out.size _, HF1.out.setRow, part_row (((part_own HO1.out).1.below ((Below.refl _ v1).alloc (Nat.le_refl _) _))) (fun x hx => by subst hx; have := part_lt2 (part_own HO1.out).1; omega) _⟩ ?_
      rintro U3 ⟨hB, hS9, hP1⟩
      generalize v1.heap.size = p9 at hS9 ⊢
      have HB3 := Lib.hid (HB.out.trans (hB.mono HB.out.size))
      have S9_3 := Lib.hid hS9
      have P1_3 := Lib.hid hP1
      have H4_3 := Lib.hid (H4.out.below hB H4.out.lt)
      clear hB hS9 hP1
      have HCl := Lib.hid (clone_part (HQ.out.below HB3.out) (by omega))
      go_upto_region 5 with (go_at_call 16; (with_reducible refine HCl.out.mono ?_); rintro e z4 ⟨a2, c2, rfl, ho4, hb4⟩; have P2_4 := Lib.hid (part_own ho4).1; have hcap4 : CapOk a2 bs.length c2 := fun g off e => (by have := own_cap ho4 g off e; exact ⟨this.1, this.2.1⟩); have H4_4 := Lib.hid (H4_3.out.below hb4 H4_3.out.lt); have S9_4 := Lib.hid (S9_3.out.below hb4 S9_3.out.lt); have P1_4 := Lib.hid (P1_3.out.below hb4); have HB4 := Lib.hid (HB3.out.trans (hb4.mono HB3.out.size)); clear H4_3; clear S9_3; clear P1_3; clear ho4 hb4)
      have S9k := S9_4
      have H4k := H4_4
      have P1k := P1_4
      have P2k := P2_4
      have BK_4 : Hid (Below z4.heap.size z4 z4) := Lib.hid (Below.refl _ z4)
      go_upto_region 6 with (first
        | ((with_reducible refine arm_load ⟨p9, 0, none⟩ (stateCells h (.slice a1 rb.length c1) long) _ S9_4.out.row Tryd.underlying33 (HIs.out _) ?h1 ?h2 ?_); (case h1 => rfl); (case h2 => rfl))
        | (go_at_call 20; (with_reducible refine (HWr1.out _ _ _ _ _ P1_4.out P2_4.out hcap4 (HC.out.below HB4.out rfl)).mono ?_); rintro e z5 ⟨a5, c5, rfl, ho5, hb⟩; have H4_5c := Lib.hid (H4_4.out.below hb H4_4.out.lt); have S9_5c := Lib.hid (S9_4.out.below hb S9_4.out.lt); have P1_5c := Lib.hid (P1_4.out.below hb); have P2_5c := Lib.hid (P2_4.out.below hb); have BK_5c := Lib.hid (BK_4.out.trans (hb.mono BK_4.out.size)); have HB5c := Lib.hid (HB4.out.trans (hb.mono HB4.out.size)); clear H4_4; clear S9_4; clear P1_4; clear P2_4; clear BK_4; have HF5 : Hid (Has (z5.alloc (.cells zeroState 33)) z5.heap.size 33 zeroState) := Lib.hid (Has.fresh z5 33 _); have O5_5c := Lib.hid ho5; clear ho5; clear hb)
        | ((with_reducible refine arm_store z5.heap.size (stateCells H (.slice a5 Rr.length c5) N) 33 _ HF5.out (HZS.out _) (HIS.out _) (state_one _ _ _ rfl) ?h5 ?h6 ?_); (case h5 => rfl); (case h6 => rfl)))
      refine gen_world (P := fun W => Code.wp _ _ _ _ W) (I := fun Z => Below z5.heap.size z5 Z ∧ Has Z z5.heap.size 33 (stateCells H (.slice a5 Rr.length c5) N)) _ ⟨below_setRow ((Below.refl _ z5).alloc (Nat.le_refl _) _) (Nat.le_refl _) _, HF5.out.setRow⟩ ?_
      rintro U5 ⟨hb, hN⟩
      have T11_5 := Lib.hid hN
      have H4_5 := Lib.hid (H4_5c.out.below hb H4_5c.out.lt)
      have S9_5 := Lib.hid (S9_5c.out.below hb S9_5c.out.lt)
      have P1_5 := Lib.hid (P1_5c.out.below hb)
      have P2_5 := Lib.hid (P2_5c.out.below hb)
      have BK_5 := Lib.hid (BK_5c.out.trans (hb.mono BK_5c.out.size))
      have HB5 := Lib.hid (HB5c.out.trans (hb.mono HB5c.out.size))
      clear H4_5c
      clear S9_5c
      clear P1_5c
      clear P2_5c
      clear BK_5c
      have O5_5 := Lib.hid (own_below O5_5c.out hb)
      clear O5_5c
      clear hb hN HF5
      go_upto_region 7 with (first
        | ((with_reducible refine arm_load ⟨w.heap.size, 0, none⟩ (w8 h) _ H4_5.out.row Tryd.underlying31 HIh.out ?h1 ?h2 ?_); (case h1 => rfl); (case h2 => rfl))
        | (go_at_call 21; (with_reducible refine (HWr2.out _ _ _ _ _ (HP.out.below HB5.out) (HQ.out.below HB5.out)).mono ?_); rintro e z6 ⟨a6, c6, rfl, hp6, hb⟩; have H4_6c := Lib.hid (H4_5.out.below hb H4_5.out.lt); have S9_6c := Lib.hid (S9_5.out.below hb S9_5.out.lt); have P1_6c := Lib.hid (P1_5.out.below hb); have P2_6c := Lib.hid (P2_5.out.below hb); have BK_6c := Lib.hid (BK_5.out.trans (hb.mono BK_5.out.size)); have T11_6c := Lib.hid (T11_5.out.below hb T11_5.out.lt); have O5_6c := Lib.hid (own_below O5_5.out hb); have HB6c := Lib.hid (HB5.out.trans (hb.mono HB5.out.size)); clear H4_5; clear S9_5; clear P1_5; clear P2_5; clear BK_5; clear T11_5; clear O5_5; have HF6 : Hid (Has (z6.alloc (.cells #[.int .u32 0, .int .u32 0, .int .u32 0, .int .u32 0, .int .u32 0, .int .u32 0, .int .u32 0, .int .u32 0] 31)) z6.heap.size 31 #[.int .u32 0, .int .u32 0, .int .u32 0, .int .u32 0, .int .u32 0, .int .u32 0, .int .u32 0, .int .u32 0]) := Lib.hid (Has.fresh z6 31 _); have P6_6c := Lib.hid hp6; clear hp6; clear hb)
        | ((with_reducible refine arm_store z6.heap.size (w8 H) 31 _ HF6.out HSH.out HIH.out HOH.out ?h5 ?h6 ?_); (case h5 => rfl); (case h6 => rfl)))
      refine gen_world (P := fun W => Code.wp _ _ _ _ W) (I := fun Z => Below z6.heap.size z6 Z ∧ Has Z z6.heap.size 31 (w8 H)) _ ⟨below_setRow ((Below.refl _ z6).alloc (Nat.le_refl _) _) (Nat.le_refl _) _, HF6.out.setRow⟩ ?_
      rintro U6 ⟨hb, hN⟩
      have W13_6 := Lib.hid hN
      have H4_6 := Lib.hid (H4_6c.out.below hb H4_6c.out.lt)
      have S9_6 := Lib.hid (S9_6c.out.below hb S9_6c.out.lt)
      have P1_6 := Lib.hid (P1_6c.out.below hb)
      have P2_6 := Lib.hid (P2_6c.out.below hb)
      have BK_6 := Lib.hid (BK_6c.out.trans (hb.mono BK_6c.out.size))
      have T11_6 := Lib.hid (T11_6c.out.below hb T11_6c.out.lt)
      have O5_6 := Lib.hid (own_below O5_6c.out hb)
      have HB6 := Lib.hid (HB6c.out.trans (hb.mono HB6c.out.size))
      clear H4_6c
      clear S9_6c
      clear P1_6c
      clear P2_6c
      clear BK_6c
      clear T11_6c
      clear O5_6c
      have P6_6 := Lib.hid (P6_6c.out.below hb)
      clear P6_6c
      clear hb hN HF6
      go_upto_region 8 with (first
        | ((with_reducible refine arm_load ⟨p9, 0, none⟩ (stateCells h (.slice a1 rb.length c1) long) _ S9_6.out.row Tryd.underlying33 (HIs.out _) ?h1 ?h2 ?_); (case h1 => rfl); (case h2 => rfl))
        | (go_at_call 22; (with_reducible refine (HDn1.out _ _ _ P1_6.out (HC.out.below HB6.out rfl)).mono ?_); rintro e z7 ⟨rfl, hb⟩; have H4_7c := Lib.hid (H4_6.out.below hb H4_6.out.lt); have S9_7c := Lib.hid (S9_6.out.below hb S9_6.out.lt); have P1_7c := Lib.hid (P1_6.out.below hb); have P2_7c := Lib.hid (P2_6.out.below hb); have BK_7c := Lib.hid (BK_6.out.trans (hb.mono BK_6.out.size)); have T11_7c := Lib.hid (T11_6.out.below hb T11_6.out.lt); have O5_7c := Lib.hid (own_below O5_6.out hb); have W13_7c := Lib.hid (W13_6.out.below hb W13_6.out.lt); have P6_7c := Lib.hid (P6_6.out.below hb); have HB7c := Lib.hid (HB6.out.trans (hb.mono HB6.out.size)); clear H4_6; clear S9_6; clear P1_6; clear P2_6; clear BK_6; clear T11_6; clear O5_6; clear W13_6; clear P6_6; have HF7 : Hid (Has (z7.alloc (.cells zero32 26)) z7.heap.size 26 zero32) := Lib.hid (Has.fresh z7 26 _); clear hb)
        | ((with_reducible refine arm_store z7.heap.size (arr32 X) 26 _ HF7.out HSX.out HIX.out (arr32_one _) ?h5 ?h6 ?_); (case h5 => rfl); (case h6 => rfl)))
      refine gen_world (P := fun W => Code.wp _ _ _ _ W) (I := fun Z => Below z7.heap.size z7 Z ∧ Has Z z7.heap.size 26 (arr32 X)) _ ⟨below_setRow ((Below.refl _ z7).alloc (Nat.le_refl _) _) (Nat.le_refl _) _, HF7.out.setRow⟩ ?_
      rintro U7 ⟨hb, hN⟩
      have X17_7 := Lib.hid hN
      have H4_7 := Lib.hid (H4_7c.out.below hb H4_7c.out.lt)
      have S9_7 := Lib.hid (S9_7c.out.below hb S9_7c.out.lt)
      have P1_7 := Lib.hid (P1_7c.out.below hb)
      have P2_7 := Lib.hid (P2_7c.out.below hb)
      have BK_7 := Lib.hid (BK_7c.out.trans (hb.mono BK_7c.out.size))
      have T11_7 := Lib.hid (T11_7c.out.below hb T11_7c.out.lt)
      have O5_7 := Lib.hid (own_below O5_7c.out hb)
      have W13_7 := Lib.hid (W13_7c.out.below hb W13_7c.out.lt)
      have P6_7 := Lib.hid (P6_7c.out.below hb)
      have HB7 := Lib.hid (HB7c.out.trans (hb.mono HB7c.out.size))
      clear H4_7c
      clear S9_7c
      clear P1_7c
      clear P2_7c
      clear BK_7c
      clear T11_7c
      clear O5_7c
      clear W13_7c
      clear P6_7c
      clear hb hN HF7
      go_upto_region 9 with (first
        | ((with_reducible refine arm_load ⟨w.heap.size, 0, none⟩ (w8 h) _ H4_7.out.row Tryd.underlying31 HIh.out ?h1 ?h2 ?_); (case h1 => rfl); (case h2 => rfl))
        | (go_at_call 23; (with_reducible refine (HDn2.out _ _ _ (HP.out.below HB7.out)).mono ?_); rintro e z8 ⟨rfl, hb⟩; have H4_8c := Lib.hid (H4_7.out.below hb H4_7.out.lt); have S9_8c := Lib.hid (S9_7.out.below hb S9_7.out.lt); have P1_8c := Lib.hid (P1_7.out.below hb); have P2_8c := Lib.hid (P2_7.out.below hb); have BK_8c := Lib.hid (BK_7.out.trans (hb.mono BK_7.out.size)); have T11_8c := Lib.hid (T11_7.out.below hb T11_7.out.lt); have O5_8c := Lib.hid (own_below O5_7.out hb); have W13_8c := Lib.hid (W13_7.out.below hb W13_7.out.lt); have P6_8c := Lib.hid (P6_7.out.below hb); have X17_8c := Lib.hid (X17_7.out.below hb X17_7.out.lt); have HB8c := Lib.hid (HB7.out.trans (hb.mono HB7.out.size)); clear H4_7; clear S9_7; clear P1_7; clear P2_7; clear BK_7; clear T11_7; clear O5_7; clear W13_7; clear P6_7; clear X17_7; have HF8 : Hid (Has (z8.alloc (.cells zero32 26)) z8.heap.size 26 zero32) := Lib.hid (Has.fresh z8 26 _); clear hb)
        | ((with_reducible refine arm_store z8.heap.size (arr32 X) 26 _ HF8.out HSX.out HIX.out (arr32_one _) ?h5 ?h6 ?_); (case h5 => rfl); (case h6 => rfl)))
      refine gen_world (P := fun W => Code.wp _ _ _ _ W) (I := fun Z => Below z8.heap.size z8 Z ∧ Has Z z8.heap.size 26 (arr32 X)) _ ⟨below_setRow ((Below.refl _ z8).alloc (Nat.le_refl _) _) (Nat.le_refl _) _, HF8.out.setRow⟩ ?_
      rintro U8 ⟨hb, hN⟩
      have Y19_8 := Lib.hid hN
      have H4_8 := Lib.hid (H4_8c.out.below hb H4_8c.out.lt)
      have S9_8 := Lib.hid (S9_8c.out.below hb S9_8c.out.lt)
      have P1_8 := Lib.hid (P1_8c.out.below hb)
      have P2_8 := Lib.hid (P2_8c.out.below hb)
      have BK_8 := Lib.hid (BK_8c.out.trans (hb.mono BK_8c.out.size))
      have T11_8 := Lib.hid (T11_8c.out.below hb T11_8c.out.lt)
      have O5_8 := Lib.hid (own_below O5_8c.out hb)
      have W13_8 := Lib.hid (W13_8c.out.below hb W13_8c.out.lt)
      have P6_8 := Lib.hid (P6_8c.out.below hb)
      have X17_8 := Lib.hid (X17_8c.out.below hb X17_8c.out.lt)
      have HB8 := Lib.hid (HB8c.out.trans (hb.mono HB8c.out.size))
      clear H4_8c
      clear S9_8c
      clear P1_8c
      clear P2_8c
      clear BK_8c
      clear T11_8c
      clear O5_8c
      clear W13_8c
      clear P6_8c
      clear X17_8c
      clear hb hN HF8
      have hr8 := state_rest T11_8.out hHl
      have hl8 := state_long T11_8.out hHl
      have HPart5 := Lib.hid (part_own O5_8.out).1
      have hn8 := HN8.out
      have hnX := HNX.out
      have hg1 := HG1.out
      have hg2 := HG2.out
      go_upto_region 12 with (first
        | ((with_reducible refine arm_load ⟨z5.heap.size, 0, none⟩ (w8 H) _ (state_words T11_8.out) Tryd.underlying31 HIH.out ?h1 ?h2 ?_); (case h1 => rfl); (case h2 => rfl))
        | ((with_reducible refine arm_load ⟨z6.heap.size, 0, none⟩ (w8 H) _ W13_8.out.row Tryd.underlying31 HIH.out ?h1 ?h2 ?_); (case h1 => rfl); (case h2 => rfl))
        | ((with_reducible refine arm_load_g ⟨z7.heap.size, 0, none⟩ (arr32 X) _ X17_8.out.row Tryd.underlying26 HIX.out ?h1 ?h2 ?h3 ?_); (case h1 => rfl); (case h2 => rfl); (case h3 => rfl))
        | ((with_reducible refine arm_load_g ⟨z8.heap.size, 0, none⟩ (arr32 X) _ Y19_8.out.row Tryd.underlying26 HIX.out ?h1 ?h2 ?h3 ?_); (case h1 => rfl); (case h2 => rfl); (case h3 => rfl))
        | (go_at_call 19; (with_reducible refine (equal_keep Rr HRRB.out _ _ _ _ _ HPart5.out P6_8.out).mono ?_); rintro e z9 ⟨rfl, rfl⟩)
        | ((with_reducible refine wpList_clear_own z4.heap.size _ 1 (.slice a5 Rr.length c5) _ Tryd.underlying22 i0 _ hi0 hz0 rfl u8_all (by decide) ?h5 O5_8.out ?_); (case h5 => rfl); intro z11 hg11; have BK_11 := Lib.hid (BK_8.out.grown hg11 BK_8.out.size (fun j hj => (O5_8.out.lt j hj).1)); clear hg11))
      have HB11 := Lib.hid (HB4.out.trans (BK_11.out.mono HB4.out.size))
      have H4_11 := Lib.hid (H4k.out.below BK_11.out H4k.out.lt)
      have S9_11 := Lib.hid (S9k.out.below BK_11.out S9k.out.lt)
      have P1_11 := Lib.hid (P1k.out.below BK_11.out)
      have P2_11 := Lib.hid (P2k.out.below BK_11.out)
      clear hn8 hnX hg1 hg2 hr8 hl8 H4_8 S9_8 P1_8 P2_8 T11_8 O5_8 W13_8 P6_8 X17_8 Y19_8 BK_8 HPart5
      have HIf := Lib.hid (state_info Sha.first (.slice none 0 0) 0 rfl)
      have HZf : Hid (zeroState.size = (stateCells Sha.first (.slice none 0 0) 0).size) := Lib.hid rfl
      have HOf := Lib.hid (state_one Sha.first (.slice none 0 0) 0 rfl)
      have HWf := Lib.hid (w8_info Sha.first rfl)
      have HNew := Lib.hid fun V : World => start_any V
      go_upto_region 13 with (first
        | (go_at_call 24; (with_reducible refine (HNew.out _).mono ?_); rintro e z12 ⟨rfl, hb⟩; have H4_12c := Lib.hid (H4_11.out.below hb H4_11.out.lt); have S9_12c := Lib.hid (S9_11.out.below hb S9_11.out.lt); have P1_12c := Lib.hid (P1_11.out.below hb); have P2_12c := Lib.hid (P2_11.out.below hb); have HB12c := Lib.hid (HB11.out.trans (hb.mono HB11.out.size)); clear H4_11; clear S9_11; clear P1_11; clear P2_11; have HF12 : Hid (Has (z12.alloc (.cells zeroState 33)) z12.heap.size 33 zeroState) := Lib.hid (Has.fresh z12 33 _); clear hb)
        | ((with_reducible refine arm_store z12.heap.size (stateCells Sha.first (.slice none 0 0) 0) 33 _ HF12.out HZf.out HIf.out HOf.out ?h5 ?h6 ?_); (case h5 => rfl); (case h6 => rfl)))
      refine gen_world (P := fun W => Code.wp _ _ _ _ W) (I := fun Z => Below z12.heap.size z12 Z ∧ Has Z z12.heap.size 33 (stateCells Sha.first (.slice none 0 0) 0)) _ ⟨below_setRow ((Below.refl _ z12).alloc (Nat.le_refl _) _) (Nat.le_refl _) _, HF12.out.setRow⟩ ?_
      rintro U12 ⟨hb, hN⟩
      have F21_12 := Lib.hid hN
      have H4_12 := Lib.hid (H4_12c.out.below hb H4_12c.out.lt)
      have S9_12 := Lib.hid (S9_12c.out.below hb S9_12c.out.lt)
      have P1_12 := Lib.hid (P1_12c.out.below hb)
      have P2_12 := Lib.hid (P2_12c.out.below hb)
      have HB12 := Lib.hid (HB12c.out.trans (hb.mono HB12c.out.size))
      clear H4_12c
      clear S9_12c
      clear P1_12c
      clear P2_12c
      clear hb hN HF12
      change Code.wp _ (Code.region 13 (pcOps 13) true) _ _ _
      refine wp_region_held (S := fun V => Below U12.heap.size U12 V) (by kernel_rfl) ?_
      have hsz : (pcOps 13).size = 42 := by kernel_rfl
      rw [hsz]
      clear hsz
      refine gen_world (P := fun W' => wpAnyH _ _ _ _ _ _ _ _ W') (I := fun V => Below U12.heap.size U12 V) _ (Below.refl _ U12).drew ?_
      intro V13 hBV
      have T0 := Lib.hid hBV
      clear hBV
      have he8 := HE8.out
      have hf8 := HF8.out
      have hg2 := HG2.out
      refine wpAnyH_take (i := 0) (oi := ⟨some 101, _, _, _, _, _⟩) (v := .pointer (some ⟨p9, 0, none⟩)) rfl (by kernel_rfl) (by kernel_rfl) (by kernel_rfl) (fun _ _ _ h => h) (Or.inl ⟨by rfl, fun w' hw' => by go_simp⟩) T0.out ?_
      try simp only [Act.put, List.setIfInBounds_toArray, List.set_cons_succ, List.set_cons_zero]
      refine wpAnyH_take (i := 1) (oi := ⟨some 102, _, _, _, _, none⟩) (v := .agg (w8 h)) rfl (by kernel_rfl) (by kernel_rfl) (by kernel_rfl) (fun _ _ _ h => h) (yieldsIf_load ⟨p9, 0, none⟩ _ _ (fun x hx => state_words (S9_12.out.below hx S9_12.out.lt)) Tryd.underlying31 HIh.out rfl rfl) T0.out ?_
      try simp only [Act.put, List.setIfInBounds_toArray, List.set_cons_succ, List.set_cons_zero]
      refine wpAnyH_take (i := 2) (oi := ⟨some 103, _, _, _, _, none⟩) (v := .agg (w8 h)) rfl (by kernel_rfl) (by kernel_rfl) (by kernel_rfl) (fun _ _ _ h => h) (yieldsIf_load ⟨w.heap.size, 0, none⟩ _ _ (fun x hx => (H4_12.out.below hx H4_12.out.lt).row) Tryd.underlying31 HIh.out rfl rfl) T0.out ?_
      try simp only [Act.put, List.setIfInBounds_toArray, List.set_cons_succ, List.set_cons_zero]
      refine wpAnyH_take (i := 3) (oi := ⟨some 104, _, _, _, _, _⟩) (v := ?_) rfl (by kernel_rfl) (by kernel_rfl) (by kernel_rfl) (fun _ _ _ h => h) (Or.inl ⟨by rfl, fun w' hw' => by go_simp; with_reducible rfl⟩) T0.out ?_
      try simp only [Act.put, List.setIfInBounds_toArray, List.set_cons_succ, List.set_cons_zero]
      refine wpAnyH_take (i := 4) (oi := ⟨some 105, _, _, _, _, _⟩) (v := ?_) rfl (by kernel_rfl) (by kernel_rfl) (by kernel_rfl) (fun _ _ _ h => h) (Or.inl ⟨by rfl, fun w' hw' => by go_simp; with_reducible rfl⟩) T0.out ?_
      try simp only [Act.put, List.setIfInBounds_toArray, List.set_cons_succ, List.set_cons_zero]
      refine wpAnyH_take (i := 5) (oi := ⟨some 106, _, _, _, _, _⟩) (v := .pointer (some ⟨p9, 8, none⟩)) rfl (by kernel_rfl) (by kernel_rfl) (by kernel_rfl) (fun _ _ _ h => h) (Or.inl ⟨by rfl, fun w' hw' => by go_simp⟩) T0.out ?_
      try simp only [Act.put, List.setIfInBounds_toArray, List.set_cons_succ, List.set_cons_zero]
      refine wpAnyH_take (i := 6) (oi := ⟨some 107, _, _, _, _, _⟩) (v := .slice a1 rb.length c1) rfl (by kernel_rfl) (by kernel_rfl) (by kernel_rfl) (fun _ _ _ h => h) (Or.inl ⟨by rfl, fun w' hw' => by have hq := state_rest (S9_12.out.below hw' S9_12.out.lt) hh; go_simp⟩) T0.out ?_
      try simp only [Act.put, List.setIfInBounds_toArray, List.set_cons_succ, List.set_cons_zero]
      refine wpAnyH_take (i := 7) (oi := ⟨some 108, _, _, _, _, _⟩) (v := ?_) rfl (by kernel_rfl) (by kernel_rfl) (by kernel_rfl) (fun _ _ _ h => h) (Or.inl ⟨by rfl, fun w' hw' => by go_simp; with_reducible rfl⟩) T0.out ?_
      try simp only [Act.put, List.setIfInBounds_toArray, List.set_cons_succ, List.set_cons_zero]
      refine wpAnyH_all (rs := [8]) (by kernel_rfl) (by simp) ?_
      intro i hi
      obtain rfl : i = 8 := by simpa using hi
      clear hi
      refine wpOp_step (o := ⟨some 109, _, _, _, _, _⟩) rfl (fun K' hK' => ?_)
      rw [if_pos (show Region.wanted _ _ = true from rfl)]
      go_simp
      (with_reducible refine (equal_same rb HRB.out _ _ _ _ _ (P1_12.out.below T0.out) (HP.out.below (HB12.out.trans (T0.out.mono HB12.out.size)))).mono ?_)
      rintro e y1 ⟨rfl, hbx⟩
      have T1 := Lib.hid (T0.out.trans (hbx.mono T0.out.size))
      clear hbx
      refine hK' _ _ ⟨T1.out, ?_⟩
      clear hK' K'
      try simp only [Act.put, List.setIfInBounds_toArray, List.set_cons_succ, List.set_cons_zero]
      refine wpAnyH_take (i := 9) (oi := ⟨some 110, _, _, _, _, _⟩) (v := ?_) rfl (by kernel_rfl) (by kernel_rfl) (by kernel_rfl) (fun _ _ _ h => h) (Or.inl ⟨by rfl, fun w' hw' => by go_simp; with_reducible rfl⟩) T1.out ?_
      try simp only [Act.put, List.setIfInBounds_toArray, List.set_cons_succ, List.set_cons_zero]
      refine wpAnyH_take (i := 10) (oi := ⟨some 111, _, _, _, _, _⟩) (v := ?_) rfl (by kernel_rfl) (by kernel_rfl) (by kernel_rfl) (fun _ _ _ h => h) (Or.inl ⟨by rfl, fun w' hw' => by go_simp; with_reducible rfl⟩) T1.out ?_
      try simp only [Act.put, List.setIfInBounds_toArray, List.set_cons_succ, List.set_cons_zero]
      refine wpAnyH_take (i := 11) (oi := ⟨some 112, _, _, _, _, _⟩) (v := .pointer (some ⟨p9, 9, none⟩)) rfl (by kernel_rfl) (by kernel_rfl) (by kernel_rfl) (fun _ _ _ h => h) (Or.inl ⟨by rfl, fun w' hw' => by go_simp⟩) T1.out ?_
      try simp only [Act.put, List.setIfInBounds_toArray, List.set_cons_succ, List.set_cons_zero]
      refine wpAnyH_take (i := 12) (oi := ⟨some 113, _, _, _, _, _⟩) (v := .int .i64 long) rfl (by kernel_rfl) (by kernel_rfl) (by kernel_rfl) (fun _ _ _ h => h) (Or.inl ⟨by rfl, fun w' hw' => by have hq := state_long (S9_12.out.below hw' S9_12.out.lt) hh; go_simp⟩) T1.out ?_
      try simp only [Act.put, List.setIfInBounds_toArray, List.set_cons_succ, List.set_cons_zero]
      refine wpAnyH_take (i := 13) (oi := ⟨some 114, _, _, _, _, _⟩) (v := ?_) rfl (by kernel_rfl) (by kernel_rfl) (by kernel_rfl) (fun _ _ _ h => h) (Or.inl ⟨by rfl, fun w' hw' => by go_simp; with_reducible rfl⟩) T1.out ?_
      try simp only [Act.put, List.setIfInBounds_toArray, List.set_cons_succ, List.set_cons_zero]
      refine wpAnyH_take (i := 14) (oi := ⟨some 115, _, _, _, _, _⟩) (v := ?_) rfl (by kernel_rfl) (by kernel_rfl) (by kernel_rfl) (fun _ _ _ h => h) (Or.inl ⟨by rfl, fun w' hw' => by go_simp; with_reducible rfl⟩) T1.out ?_
      try simp only [Act.put, List.setIfInBounds_toArray, List.set_cons_succ, List.set_cons_zero]
      refine wpAnyH_take (i := 15) (oi := ⟨some 116, _, _, _, _, _⟩) (v := ?_) rfl (by kernel_rfl) (by kernel_rfl) (by kernel_rfl) (fun _ _ _ h => h) (Or.inl ⟨by rfl, fun w' hw' => by go_simp; with_reducible rfl⟩) T1.out ?_
      try simp only [Act.put, List.setIfInBounds_toArray, List.set_cons_succ, List.set_cons_zero]
      refine wpAnyH_take (i := 16) (oi := ⟨some 117, _, _, _, _, _⟩) (v := ?_) rfl (by kernel_rfl) (by kernel_rfl) (by kernel_rfl) (fun _ _ _ h => h) (Or.inl ⟨by rfl, fun w' hw' => by go_simp; with_reducible rfl⟩) T1.out ?_
      try simp only [Act.put, List.setIfInBounds_toArray, List.set_cons_succ, List.set_cons_zero]
      refine wpAnyH_take (i := 17) (oi := ⟨some 118, _, _, _, _, _⟩) (v := ?_) rfl (by kernel_rfl) (by kernel_rfl) (by kernel_rfl) (fun _ _ _ h => h) (Or.inl ⟨by rfl, fun w' hw' => by go_simp; with_reducible rfl⟩) T1.out ?_
      try simp only [Act.put, List.setIfInBounds_toArray, List.set_cons_succ, List.set_cons_zero]
      refine wpAnyH_take (i := 18) (oi := ⟨some 119, _, _, _, _, _⟩) (v := ?_) rfl (by kernel_rfl) (by kernel_rfl) (by kernel_rfl) (fun _ _ _ h => h) (Or.inl ⟨by rfl, fun w' hw' => by go_simp; with_reducible rfl⟩) T1.out ?_
      try simp only [Act.put, List.setIfInBounds_toArray, List.set_cons_succ, List.set_cons_zero]
      refine wpAnyH_all (rs := [19]) (by kernel_rfl) (by simp) ?_
      intro i hi
      obtain rfl : i = 19 := by simpa using hi
      clear hi
      refine wpOp_step (o := ⟨some 120, _, _, _, _, _⟩) rfl (fun K' hK' => ?_)
      rw [if_pos (show Region.wanted _ _ = true from rfl)]
      go_simp
      (with_reducible refine (equal_same bs HBS.out _ _ _ _ _ (P2_12.out.below T1.out) (HQ.out.below (HB12.out.trans (T1.out.mono HB12.out.size)))).mono ?_)
      rintro e y2 ⟨rfl, hbx⟩
      have T2 := Lib.hid (T1.out.trans (hbx.mono T1.out.size))
      clear hbx
      refine hK' _ _ ⟨T2.out, ?_⟩
      clear hK' K'
      try simp only [Act.put, List.setIfInBounds_toArray, List.set_cons_succ, List.set_cons_zero]
      refine wpAnyH_take (i := 20) (oi := ⟨some 121, _, _, _, _, _⟩) (v := ?_) rfl (by kernel_rfl) (by kernel_rfl) (by kernel_rfl) (fun _ _ _ h => h) (Or.inl ⟨by rfl, fun w' hw' => by go_simp; with_reducible rfl⟩) T2.out ?_
      try simp only [Act.put, List.setIfInBounds_toArray, List.set_cons_succ, List.set_cons_zero]
      refine wpAnyH_take (i := 21) (oi := ⟨some 122, _, _, _, _, _⟩) (v := ?_) rfl (by kernel_rfl) (by kernel_rfl) (by kernel_rfl) (fun _ _ _ h => h) (Or.inl ⟨by rfl, fun w' hw' => by go_simp; with_reducible rfl⟩) T2.out ?_
      try simp only [Act.put, List.setIfInBounds_toArray, List.set_cons_succ, List.set_cons_zero]
      refine wpAnyH_take (i := 22) (oi := ⟨some 123, _, _, _, _, _⟩) (v := .pointer (some ⟨z12.heap.size, 0, none⟩)) rfl (by kernel_rfl) (by kernel_rfl) (by kernel_rfl) (fun _ _ _ h => h) (Or.inl ⟨by rfl, fun w' hw' => by go_simp⟩) T2.out ?_
      try simp only [Act.put, List.setIfInBounds_toArray, List.set_cons_succ, List.set_cons_zero]
      refine wpAnyH_take (i := 23) (oi := ⟨some 124, _, _, _, _, some _⟩) (v := .agg (w8 Sha.first)) rfl (by kernel_rfl) (by kernel_rfl) (by kernel_rfl) (fun _ _ _ h => h) (yieldsIf_load_g ⟨z12.heap.size, 0, none⟩ _ _ (fun x hx => state_words (F21_12.out.below hx F21_12.out.lt)) Tryd.underlying31 HWf.out rfl rfl rfl) T2.out ?_
      try simp only [Act.put, List.setIfInBounds_toArray, List.set_cons_succ, List.set_cons_zero]
      refine wpAnyH_all (rs := [24]) (by kernel_rfl) (by simp) ?_
      intro i hi
      obtain rfl : i = 24 := by simpa using hi
      clear hi
      refine wpOp_step (o := ⟨some 125, _, _, _, _, _⟩) rfl (fun K' hK' => ?_)
      rw [if_pos (show Region.wanted _ _ = true from rfl)]
      go_simp
      (with_reducible refine (refFirst_any _).mono ?_)
      rintro e y3 ⟨rfl, hbx⟩
      have T3 := Lib.hid (T2.out.trans (hbx.mono T2.out.size))
      clear hbx
      refine hK' _ _ ⟨T3.out, ?_⟩
      clear hK' K'
      try simp only [Act.put, List.setIfInBounds_toArray, List.set_cons_succ, List.set_cons_zero]
      refine wpAnyH_take (i := 25) (oi := ⟨some 126, _, _, _, _, _⟩) (v := ?_) rfl (by kernel_rfl) (by kernel_rfl) (by kernel_rfl) (fun _ _ _ h => h) (Or.inl ⟨by rfl, fun w' hw' => by go_simp; with_reducible rfl⟩) T3.out ?_
      try simp only [Act.put, List.setIfInBounds_toArray, List.set_cons_succ, List.set_cons_zero]
      refine wpAnyH_take (i := 26) (oi := ⟨some 127, _, _, _, _, _⟩) (v := ?_) rfl (by kernel_rfl) (by kernel_rfl) (by kernel_rfl) (fun _ _ _ h => h) (Or.inl ⟨by rfl, fun w' hw' => by go_simp; with_reducible rfl⟩) T3.out ?_
      try simp only [Act.put, List.setIfInBounds_toArray, List.set_cons_succ, List.set_cons_zero]
      refine wpAnyH_take (i := 27) (oi := ⟨some 128, _, _, _, _, _⟩) (v := ?_) rfl (by kernel_rfl) (by kernel_rfl) (by kernel_rfl) (fun _ _ _ h => h) (Or.inl ⟨by rfl, fun w' hw' => by go_simp; with_reducible rfl⟩) T3.out ?_
      try simp only [Act.put, List.setIfInBounds_toArray, List.set_cons_succ, List.set_cons_zero]
      refine wpAnyH_take (i := 28) (oi := ⟨some 129, _, _, _, _, _⟩) (v := .pointer (some ⟨z12.heap.size, 8, none⟩)) rfl (by kernel_rfl) (by kernel_rfl) (by kernel_rfl) (fun _ _ _ h => h) (Or.inl ⟨by rfl, fun w' hw' => by go_simp⟩) T3.out ?_
      try simp only [Act.put, List.setIfInBounds_toArray, List.set_cons_succ, List.set_cons_zero]
      refine wpAnyH_take (i := 29) (oi := ⟨some 130, _, _, _, _, _⟩) (v := .slice none 0 0) rfl (by kernel_rfl) (by kernel_rfl) (by kernel_rfl) (fun _ _ _ h => h) (Or.inl ⟨by rfl, fun w' hw' => by have hq := state_rest (F21_12.out.below hw' F21_12.out.lt) rfl; go_simp⟩) T3.out ?_
      try simp only [Act.put, List.setIfInBounds_toArray, List.set_cons_succ, List.set_cons_zero]
      refine wpAnyH_take (i := 30) (oi := ⟨some 131, _, _, _, _, _⟩) (v := ?_) rfl (by kernel_rfl) (by kernel_rfl) (by kernel_rfl) (fun _ _ _ h => h) (Or.inl ⟨by rfl, fun w' hw' => by go_simp; with_reducible rfl⟩) T3.out ?_
      try simp only [Act.put, List.setIfInBounds_toArray, List.set_cons_succ, List.set_cons_zero]
      refine wpAnyH_take (i := 31) (oi := ⟨some 132, _, _, _, _, _⟩) (v := ?_) rfl (by kernel_rfl) (by kernel_rfl) (by kernel_rfl) (fun _ _ _ h => h) (Or.inl ⟨by rfl, fun w' hw' => by go_simp; with_reducible rfl⟩) T3.out ?_
      try simp only [Act.put, List.setIfInBounds_toArray, List.set_cons_succ, List.set_cons_zero]
      refine wpAnyH_take (i := 32) (oi := ⟨some 133, _, _, _, _, _⟩) (v := ?_) rfl (by kernel_rfl) (by kernel_rfl) (by kernel_rfl) (fun _ _ _ h => h) (Or.inl ⟨by rfl, fun w' hw' => by go_simp; with_reducible rfl⟩) T3.out ?_
      try simp only [Act.put, List.setIfInBounds_toArray, List.set_cons_succ, List.set_cons_zero]
      refine wpAnyH_take (i := 33) (oi := ⟨some 134, _, _, _, _, _⟩) (v := ?_) rfl (by kernel_rfl) (by kernel_rfl) (by kernel_rfl) (fun _ _ _ h => h) (Or.inl ⟨by rfl, fun w' hw' => by go_simp; with_reducible rfl⟩) T3.out ?_
      try simp only [Act.put, List.setIfInBounds_toArray, List.set_cons_succ, List.set_cons_zero]
      refine wpAnyH_take (i := 34) (oi := ⟨some 135, _, _, _, _, _⟩) (v := .pointer (some ⟨z12.heap.size, 9, none⟩)) rfl (by kernel_rfl) (by kernel_rfl) (by kernel_rfl) (fun _ _ _ h => h) (Or.inl ⟨by rfl, fun w' hw' => by go_simp⟩) T3.out ?_
      try simp only [Act.put, List.setIfInBounds_toArray, List.set_cons_succ, List.set_cons_zero]
      refine wpAnyH_take (i := 35) (oi := ⟨some 136, _, _, _, _, _⟩) (v := .int .i64 0) rfl (by kernel_rfl) (by kernel_rfl) (by kernel_rfl) (fun _ _ _ h => h) (Or.inl ⟨by rfl, fun w' hw' => by have hq := state_long (F21_12.out.below hw' F21_12.out.lt) rfl; go_simp⟩) T3.out ?_
      try simp only [Act.put, List.setIfInBounds_toArray, List.set_cons_succ, List.set_cons_zero]
      refine wpAnyH_take (i := 36) (oi := ⟨some 137, _, _, _, _, _⟩) (v := ?_) rfl (by kernel_rfl) (by kernel_rfl) (by kernel_rfl) (fun _ _ _ h => h) (Or.inl ⟨by rfl, fun w' hw' => by go_simp; with_reducible rfl⟩) T3.out ?_
      try simp only [Act.put, List.setIfInBounds_toArray, List.set_cons_succ, List.set_cons_zero]
      refine wpAnyH_take (i := 37) (oi := ⟨some 138, _, _, _, _, _⟩) (v := ?_) rfl (by kernel_rfl) (by kernel_rfl) (by kernel_rfl) (fun _ _ _ h => h) (Or.inl ⟨by rfl, fun w' hw' => by go_simp; with_reducible rfl⟩) T3.out ?_
      try simp only [Act.put, List.setIfInBounds_toArray, List.set_cons_succ, List.set_cons_zero]
      refine wpAnyH_take (i := 38) (oi := ⟨some 139, _, _, _, _, _⟩) (v := ?_) rfl (by kernel_rfl) (by kernel_rfl) (by kernel_rfl) (fun _ _ _ h => h) (Or.inl ⟨by rfl, fun w' hw' => by go_simp; with_reducible rfl⟩) T3.out ?_
      try simp only [Act.put, List.setIfInBounds_toArray, List.set_cons_succ, List.set_cons_zero]
      refine wpAnyH_all (rs := [39]) (by kernel_rfl) (by simp) ?_
      intro i hi
      obtain rfl : i = 39 := by simpa using hi
      clear hi
      refine wpOp_step (o := ⟨some 140, _, _, _, _, _⟩) rfl (fun K' hK' => ?_)
      rw [if_pos (show Region.wanted _ _ = true from rfl)]
      go_simp
      (with_reducible refine (HAw.out _ (HC.out.below (HB12.out.trans (T3.out.mono HB12.out.size)) rfl)).mono ?_)
      rintro e y4 ⟨rfl, hbx⟩
      have T4 := Lib.hid (T3.out.trans (hbx.mono T3.out.size))
      clear hbx
      refine hK' _ _ ⟨T4.out, ?_⟩
      clear hK' K'
      try simp only [Act.put, List.setIfInBounds_toArray, List.set_cons_succ, List.set_cons_zero]
      refine wpAnyH_take (i := 40) (oi := ⟨some 141, _, _, _, _, _⟩) (v := ?_) rfl (by kernel_rfl) (by kernel_rfl) (by kernel_rfl) (fun _ _ _ h => h) (Or.inl ⟨by rfl, fun w' hw' => by go_simp; with_reducible rfl⟩) T4.out ?_
      try simp only [Act.put, List.setIfInBounds_toArray, List.set_cons_succ, List.set_cons_zero]
      refine wpAnyH_take (i := 41) (oi := ⟨some 8, _, _, _, _, _⟩) (v := ?_) rfl (by kernel_rfl) (by kernel_rfl) (by kernel_rfl) (fun _ _ _ h => h) (Or.inl ⟨by rfl, fun w' hw' => by go_simp; with_reducible rfl⟩) T4.out ?_
      try simp only [Act.put, List.setIfInBounds_toArray, List.set_cons_succ, List.set_cons_zero]
      refine wpAnyH_done (by kernel_rfl) ?_ _
      go_wp2
      go_ret
      exact ⟨rfl, HB12.out.trans (T4.out.mono HB12.out.size)⟩
    · have HF1 : Hid (Has (V.alloc (.cells zeroState 33)) V.heap.size 33 zeroState) := Lib.hid (Has.fresh V 33 _)
      refine wpOp_step (o := ⟨some 9, _, _, _, _, _⟩) rfl (fun K' hK' => ?_)
      rw [if_pos (show Region.wanted _ _ = true from rfl)]
      go_simp
      refine hK' _ _ ⟨HS0.out.alloc HS0.out.size _, ?_⟩
      clear hK' K'
      try simp only [Act.put, List.setIfInBounds_toArray, List.set_cons_succ, List.set_cons_zero]
      have HSa := Lib.hid (HS0.out.alloc HS0.out.size (.cells zeroState 33))
      refine wpAnyH_all (rs := [2]) (by kernel_rfl) (by simp) ?_
      intro i hi
      obtain rfl : i = 2 := by simpa using hi
      clear hi
      refine wpOp_step (o := ⟨some 33, _, _, _, _, _⟩) rfl (fun K' hK' => ?_)
      rw [if_pos (show Region.wanted _ _ = true from rfl)]
      go_simp
      (with_reducible refine (clone_part (HP.out.below (HB.out.trans (HSa.out.mono HB.out.size))) (by omega)).mono ?_)
      rintro e v1 ⟨a1, c1, rfl, ho1, hbx⟩
      have HS1 := Lib.hid (HSa.out.trans (hbx.mono HSa.out.size))
      have HO1 := Lib.hid ho1
      have HF2 := Lib.hid (HF1.out.below hbx HF1.out.lt)
      clear hbx ho1
      refine hK' _ _ ⟨HS1.out, ?_⟩
      clear hK' K'
      try simp only [Act.put, List.setIfInBounds_toArray, List.set_cons_succ, List.set_cons_zero]
      have hbd := HBuild.out a1 rb.length c1
      refine wpAnyH_take (i := 4) (oi := ⟨some 35, _, _, _, _, _⟩) (v := .agg (stateCells h (.slice a1 rb.length c1) long)) rfl (by kernel_rfl) (by kernel_rfl) (by kernel_rfl) (fun _ _ _ h => h) (Or.inl ⟨by rfl, fun w' hw' => by unfold execOp; simp only [Sem.run_bind, List.map_toArray, List.map_cons, List.map_nil]; exact congrArg (fun r => Result.andThen r _) (hbd w')⟩) HS1.out ?_
      try simp only [Act.put, List.setIfInBounds_toArray, List.set_cons_succ, List.set_cons_zero]
      clear hbd
      refine wpAnyH_all (rs := [6]) (by kernel_rfl) (by simp) ?_
      intro i hi
      obtain rfl : i = 6 := by simpa using hi
      clear hi
      refine wpOp_step (o := ⟨none, _, _, _, _, _⟩) rfl (fun K' hK' => ?_)
      rw [if_pos (show Region.wanted _ _ = true from rfl)]
      refine opw_store V.heap.size (stateCells h (.slice a1 rb.length c1) long) 33 zeroState HF2.out (HZs.out _) (HIs.out _) (state_one _ _ _ rfl) rfl rfl ?_
      refine hK' _ _ ⟨below_setRow HS1.out HS0.out.size _, ?_⟩
      clear hK' K'
      try simp only [Act.put, List.setIfInBounds_toArray, List.set_cons_succ, List.set_cons_zero]
      refine wpAnyH_done (by kernel_rfl) ?_ _
      refine gen_world (P := fun W => _) (I := fun Z => Below W.heap.size W Z ∧ Has Z V.heap.size 33 (stateCells h (.slice a1 rb.length c1) long) ∧ PartOk Z a1 c1 rb) _ ⟨below_setRow HS1.out HS0.out.size _, HF2.out.setRow, part_row (part_own HO1.out).1 (fun x hx => by subst hx; have := (HO1.out.lt x.block rfl).1; simp at this; omega) _⟩ ?_
      rintro U3 ⟨hB, hS9, hP1⟩
      generalize V.heap.size = p9 at hS9 ⊢
      have HB3 := Lib.hid (HB.out.trans (hB.mono HB.out.size))
      have S9_3 := Lib.hid hS9
      have P1_3 := Lib.hid hP1
      have H4_3 := Lib.hid (H4.out.below hB H4.out.lt)
      clear hB hS9 hP1
      have HCl := Lib.hid (clone_part (HQ.out.below HB3.out) (by omega))
      go_upto_region 5 with (go_at_call 16; (with_reducible refine HCl.out.mono ?_); rintro e z4 ⟨a2, c2, rfl, ho4, hb4⟩; have P2_4 := Lib.hid (part_own ho4).1; have hcap4 : CapOk a2 bs.length c2 := fun g off e => (by have := own_cap ho4 g off e; exact ⟨this.1, this.2.1⟩); have H4_4 := Lib.hid (H4_3.out.below hb4 H4_3.out.lt); have S9_4 := Lib.hid (S9_3.out.below hb4 S9_3.out.lt); have P1_4 := Lib.hid (P1_3.out.below hb4); have HB4 := Lib.hid (HB3.out.trans (hb4.mono HB3.out.size)); clear H4_3; clear S9_3; clear P1_3; clear ho4 hb4)
      have S9k := S9_4
      have H4k := H4_4
      have P1k := P1_4
      have P2k := P2_4
      have BK_4 : Hid (Below z4.heap.size z4 z4) := Lib.hid (Below.refl _ z4)
      go_upto_region 6 with (first
        | ((with_reducible refine arm_load ⟨p9, 0, none⟩ (stateCells h (.slice a1 rb.length c1) long) _ S9_4.out.row Tryd.underlying33 (HIs.out _) ?h1 ?h2 ?_); (case h1 => rfl); (case h2 => rfl))
        | (go_at_call 20; (with_reducible refine (HWr1.out _ _ _ _ _ P1_4.out P2_4.out hcap4 (HC.out.below HB4.out rfl)).mono ?_); rintro e z5 ⟨a5, c5, rfl, ho5, hb⟩; have H4_5c := Lib.hid (H4_4.out.below hb H4_4.out.lt); have S9_5c := Lib.hid (S9_4.out.below hb S9_4.out.lt); have P1_5c := Lib.hid (P1_4.out.below hb); have P2_5c := Lib.hid (P2_4.out.below hb); have BK_5c := Lib.hid (BK_4.out.trans (hb.mono BK_4.out.size)); have HB5c := Lib.hid (HB4.out.trans (hb.mono HB4.out.size)); clear H4_4; clear S9_4; clear P1_4; clear P2_4; clear BK_4; have HF5 : Hid (Has (z5.alloc (.cells zeroState 33)) z5.heap.size 33 zeroState) := Lib.hid (Has.fresh z5 33 _); have O5_5c := Lib.hid ho5; clear ho5; clear hb)
        | ((with_reducible refine arm_store z5.heap.size (stateCells H (.slice a5 Rr.length c5) N) 33 _ HF5.out (HZS.out _) (HIS.out _) (state_one _ _ _ rfl) ?h5 ?h6 ?_); (case h5 => rfl); (case h6 => rfl)))
      refine gen_world (P := fun W => Code.wp _ _ _ _ W) (I := fun Z => Below z5.heap.size z5 Z ∧ Has Z z5.heap.size 33 (stateCells H (.slice a5 Rr.length c5) N)) _ ⟨below_setRow ((Below.refl _ z5).alloc (Nat.le_refl _) _) (Nat.le_refl _) _, HF5.out.setRow⟩ ?_
      rintro U5 ⟨hb, hN⟩
      have T11_5 := Lib.hid hN
      have H4_5 := Lib.hid (H4_5c.out.below hb H4_5c.out.lt)
      have S9_5 := Lib.hid (S9_5c.out.below hb S9_5c.out.lt)
      have P1_5 := Lib.hid (P1_5c.out.below hb)
      have P2_5 := Lib.hid (P2_5c.out.below hb)
      have BK_5 := Lib.hid (BK_5c.out.trans (hb.mono BK_5c.out.size))
      have HB5 := Lib.hid (HB5c.out.trans (hb.mono HB5c.out.size))
      clear H4_5c
      clear S9_5c
      clear P1_5c
      clear P2_5c
      clear BK_5c
      have O5_5 := Lib.hid (own_below O5_5c.out hb)
      clear O5_5c
      clear hb hN HF5
      go_upto_region 7 with (first
        | ((with_reducible refine arm_load ⟨w.heap.size, 0, none⟩ (w8 h) _ H4_5.out.row Tryd.underlying31 HIh.out ?h1 ?h2 ?_); (case h1 => rfl); (case h2 => rfl))
        | (go_at_call 21; (with_reducible refine (HWr2.out _ _ _ _ _ (HP.out.below HB5.out) (HQ.out.below HB5.out)).mono ?_); rintro e z6 ⟨a6, c6, rfl, hp6, hb⟩; have H4_6c := Lib.hid (H4_5.out.below hb H4_5.out.lt); have S9_6c := Lib.hid (S9_5.out.below hb S9_5.out.lt); have P1_6c := Lib.hid (P1_5.out.below hb); have P2_6c := Lib.hid (P2_5.out.below hb); have BK_6c := Lib.hid (BK_5.out.trans (hb.mono BK_5.out.size)); have T11_6c := Lib.hid (T11_5.out.below hb T11_5.out.lt); have O5_6c := Lib.hid (own_below O5_5.out hb); have HB6c := Lib.hid (HB5.out.trans (hb.mono HB5.out.size)); clear H4_5; clear S9_5; clear P1_5; clear P2_5; clear BK_5; clear T11_5; clear O5_5; have HF6 : Hid (Has (z6.alloc (.cells #[.int .u32 0, .int .u32 0, .int .u32 0, .int .u32 0, .int .u32 0, .int .u32 0, .int .u32 0, .int .u32 0] 31)) z6.heap.size 31 #[.int .u32 0, .int .u32 0, .int .u32 0, .int .u32 0, .int .u32 0, .int .u32 0, .int .u32 0, .int .u32 0]) := Lib.hid (Has.fresh z6 31 _); have P6_6c := Lib.hid hp6; clear hp6; clear hb)
        | ((with_reducible refine arm_store z6.heap.size (w8 H) 31 _ HF6.out HSH.out HIH.out HOH.out ?h5 ?h6 ?_); (case h5 => rfl); (case h6 => rfl)))
      refine gen_world (P := fun W => Code.wp _ _ _ _ W) (I := fun Z => Below z6.heap.size z6 Z ∧ Has Z z6.heap.size 31 (w8 H)) _ ⟨below_setRow ((Below.refl _ z6).alloc (Nat.le_refl _) _) (Nat.le_refl _) _, HF6.out.setRow⟩ ?_
      rintro U6 ⟨hb, hN⟩
      have W13_6 := Lib.hid hN
      have H4_6 := Lib.hid (H4_6c.out.below hb H4_6c.out.lt)
      have S9_6 := Lib.hid (S9_6c.out.below hb S9_6c.out.lt)
      have P1_6 := Lib.hid (P1_6c.out.below hb)
      have P2_6 := Lib.hid (P2_6c.out.below hb)
      have BK_6 := Lib.hid (BK_6c.out.trans (hb.mono BK_6c.out.size))
      have T11_6 := Lib.hid (T11_6c.out.below hb T11_6c.out.lt)
      have O5_6 := Lib.hid (own_below O5_6c.out hb)
      have HB6 := Lib.hid (HB6c.out.trans (hb.mono HB6c.out.size))
      clear H4_6c
      clear S9_6c
      clear P1_6c
      clear P2_6c
      clear BK_6c
      clear T11_6c
      clear O5_6c
      have P6_6 := Lib.hid (P6_6c.out.below hb)
      clear P6_6c
      clear hb hN HF6
      go_upto_region 8 with (first
        | ((with_reducible refine arm_load ⟨p9, 0, none⟩ (stateCells h (.slice a1 rb.length c1) long) _ S9_6.out.row Tryd.underlying33 (HIs.out _) ?h1 ?h2 ?_); (case h1 => rfl); (case h2 => rfl))
        | (go_at_call 22; (with_reducible refine (HDn1.out _ _ _ P1_6.out (HC.out.below HB6.out rfl)).mono ?_); rintro e z7 ⟨rfl, hb⟩; have H4_7c := Lib.hid (H4_6.out.below hb H4_6.out.lt); have S9_7c := Lib.hid (S9_6.out.below hb S9_6.out.lt); have P1_7c := Lib.hid (P1_6.out.below hb); have P2_7c := Lib.hid (P2_6.out.below hb); have BK_7c := Lib.hid (BK_6.out.trans (hb.mono BK_6.out.size)); have T11_7c := Lib.hid (T11_6.out.below hb T11_6.out.lt); have O5_7c := Lib.hid (own_below O5_6.out hb); have W13_7c := Lib.hid (W13_6.out.below hb W13_6.out.lt); have P6_7c := Lib.hid (P6_6.out.below hb); have HB7c := Lib.hid (HB6.out.trans (hb.mono HB6.out.size)); clear H4_6; clear S9_6; clear P1_6; clear P2_6; clear BK_6; clear T11_6; clear O5_6; clear W13_6; clear P6_6; have HF7 : Hid (Has (z7.alloc (.cells zero32 26)) z7.heap.size 26 zero32) := Lib.hid (Has.fresh z7 26 _); clear hb)
        | ((with_reducible refine arm_store z7.heap.size (arr32 X) 26 _ HF7.out HSX.out HIX.out (arr32_one _) ?h5 ?h6 ?_); (case h5 => rfl); (case h6 => rfl)))
      refine gen_world (P := fun W => Code.wp _ _ _ _ W) (I := fun Z => Below z7.heap.size z7 Z ∧ Has Z z7.heap.size 26 (arr32 X)) _ ⟨below_setRow ((Below.refl _ z7).alloc (Nat.le_refl _) _) (Nat.le_refl _) _, HF7.out.setRow⟩ ?_
      rintro U7 ⟨hb, hN⟩
      have X17_7 := Lib.hid hN
      have H4_7 := Lib.hid (H4_7c.out.below hb H4_7c.out.lt)
      have S9_7 := Lib.hid (S9_7c.out.below hb S9_7c.out.lt)
      have P1_7 := Lib.hid (P1_7c.out.below hb)
      have P2_7 := Lib.hid (P2_7c.out.below hb)
      have BK_7 := Lib.hid (BK_7c.out.trans (hb.mono BK_7c.out.size))
      have T11_7 := Lib.hid (T11_7c.out.below hb T11_7c.out.lt)
      have O5_7 := Lib.hid (own_below O5_7c.out hb)
      have W13_7 := Lib.hid (W13_7c.out.below hb W13_7c.out.lt)
      have P6_7 := Lib.hid (P6_7c.out.below hb)
      have HB7 := Lib.hid (HB7c.out.trans (hb.mono HB7c.out.size))
      clear H4_7c
      clear S9_7c
      clear P1_7c
      clear P2_7c
      clear BK_7c
      clear T11_7c
      clear O5_7c
      clear W13_7c
      clear P6_7c
      clear hb hN HF7
      go_upto_region 9 with (first
        | ((with_reducible refine arm_load ⟨w.heap.size, 0, none⟩ (w8 h) _ H4_7.out.row Tryd.underlying31 HIh.out ?h1 ?h2 ?_); (case h1 => rfl); (case h2 => rfl))
        | (go_at_call 23; (with_reducible refine (HDn2.out _ _ _ (HP.out.below HB7.out)).mono ?_); rintro e z8 ⟨rfl, hb⟩; have H4_8c := Lib.hid (H4_7.out.below hb H4_7.out.lt); have S9_8c := Lib.hid (S9_7.out.below hb S9_7.out.lt); have P1_8c := Lib.hid (P1_7.out.below hb); have P2_8c := Lib.hid (P2_7.out.below hb); have BK_8c := Lib.hid (BK_7.out.trans (hb.mono BK_7.out.size)); have T11_8c := Lib.hid (T11_7.out.below hb T11_7.out.lt); have O5_8c := Lib.hid (own_below O5_7.out hb); have W13_8c := Lib.hid (W13_7.out.below hb W13_7.out.lt); have P6_8c := Lib.hid (P6_7.out.below hb); have X17_8c := Lib.hid (X17_7.out.below hb X17_7.out.lt); have HB8c := Lib.hid (HB7.out.trans (hb.mono HB7.out.size)); clear H4_7; clear S9_7; clear P1_7; clear P2_7; clear BK_7; clear T11_7; clear O5_7; clear W13_7; clear P6_7; clear X17_7; have HF8 : Hid (Has (z8.alloc (.cells zero32 26)) z8.heap.size 26 zero32) := Lib.hid (Has.fresh z8 26 _); clear hb)
        | ((with_reducible refine arm_store z8.heap.size (arr32 X) 26 _ HF8.out HSX.out HIX.out (arr32_one _) ?h5 ?h6 ?_); (case h5 => rfl); (case h6 => rfl)))
      refine gen_world (P := fun W => Code.wp _ _ _ _ W) (I := fun Z => Below z8.heap.size z8 Z ∧ Has Z z8.heap.size 26 (arr32 X)) _ ⟨below_setRow ((Below.refl _ z8).alloc (Nat.le_refl _) _) (Nat.le_refl _) _, HF8.out.setRow⟩ ?_
      rintro U8 ⟨hb, hN⟩
      have Y19_8 := Lib.hid hN
      have H4_8 := Lib.hid (H4_8c.out.below hb H4_8c.out.lt)
      have S9_8 := Lib.hid (S9_8c.out.below hb S9_8c.out.lt)
      have P1_8 := Lib.hid (P1_8c.out.below hb)
      have P2_8 := Lib.hid (P2_8c.out.below hb)
      have BK_8 := Lib.hid (BK_8c.out.trans (hb.mono BK_8c.out.size))
      have T11_8 := Lib.hid (T11_8c.out.below hb T11_8c.out.lt)
      have O5_8 := Lib.hid (own_below O5_8c.out hb)
      have W13_8 := Lib.hid (W13_8c.out.below hb W13_8c.out.lt)
      have P6_8 := Lib.hid (P6_8c.out.below hb)
      have X17_8 := Lib.hid (X17_8c.out.below hb X17_8c.out.lt)
      have HB8 := Lib.hid (HB8c.out.trans (hb.mono HB8c.out.size))
      clear H4_8c
      clear S9_8c
      clear P1_8c
      clear P2_8c
      clear BK_8c
      clear T11_8c
      clear O5_8c
      clear W13_8c
      clear P6_8c
      clear X17_8c
      clear hb hN HF8
      have hr8 := state_rest T11_8.out hHl
      have hl8 := state_long T11_8.out hHl
      have HPart5 := Lib.hid (part_own O5_8.out).1
      have hn8 := HN8.out
      have hnX := HNX.out
      have hg1 := HG1.out
      have hg2 := HG2.out
      go_upto_region 12 with (first
        | ((with_reducible refine arm_load ⟨z5.heap.size, 0, none⟩ (w8 H) _ (state_words T11_8.out) Tryd.underlying31 HIH.out ?h1 ?h2 ?_); (case h1 => rfl); (case h2 => rfl))
        | ((with_reducible refine arm_load ⟨z6.heap.size, 0, none⟩ (w8 H) _ W13_8.out.row Tryd.underlying31 HIH.out ?h1 ?h2 ?_); (case h1 => rfl); (case h2 => rfl))
        | ((with_reducible refine arm_load_g ⟨z7.heap.size, 0, none⟩ (arr32 X) _ X17_8.out.row Tryd.underlying26 HIX.out ?h1 ?h2 ?h3 ?_); (case h1 => rfl); (case h2 => rfl); (case h3 => rfl))
        | ((with_reducible refine arm_load_g ⟨z8.heap.size, 0, none⟩ (arr32 X) _ Y19_8.out.row Tryd.underlying26 HIX.out ?h1 ?h2 ?h3 ?_); (case h1 => rfl); (case h2 => rfl); (case h3 => rfl))
        | (go_at_call 19; (with_reducible refine (equal_keep Rr HRRB.out _ _ _ _ _ HPart5.out P6_8.out).mono ?_); rintro e z9 ⟨rfl, rfl⟩)
        | ((with_reducible refine wpList_clear_own z4.heap.size _ 1 (.slice a5 Rr.length c5) _ Tryd.underlying22 i0 _ hi0 hz0 rfl u8_all (by decide) ?h5 O5_8.out ?_); (case h5 => rfl); intro z11 hg11; have BK_11 := Lib.hid (BK_8.out.grown hg11 BK_8.out.size (fun j hj => (O5_8.out.lt j hj).1)); clear hg11))
      have HB11 := Lib.hid (HB4.out.trans (BK_11.out.mono HB4.out.size))
      have H4_11 := Lib.hid (H4k.out.below BK_11.out H4k.out.lt)
      have S9_11 := Lib.hid (S9k.out.below BK_11.out S9k.out.lt)
      have P1_11 := Lib.hid (P1k.out.below BK_11.out)
      have P2_11 := Lib.hid (P2k.out.below BK_11.out)
      clear hn8 hnX hg1 hg2 hr8 hl8 H4_8 S9_8 P1_8 P2_8 T11_8 O5_8 W13_8 P6_8 X17_8 Y19_8 BK_8 HPart5
      have HIf := Lib.hid (state_info Sha.first (.slice none 0 0) 0 rfl)
      have HZf : Hid (zeroState.size = (stateCells Sha.first (.slice none 0 0) 0).size) := Lib.hid rfl
      have HOf := Lib.hid (state_one Sha.first (.slice none 0 0) 0 rfl)
      have HWf := Lib.hid (w8_info Sha.first rfl)
      have HNew := Lib.hid fun V : World => start_any V
      go_upto_region 13 with (first
        | (go_at_call 24; (with_reducible refine (HNew.out _).mono ?_); rintro e z12 ⟨rfl, hb⟩; have H4_12c := Lib.hid (H4_11.out.below hb H4_11.out.lt); have S9_12c := Lib.hid (S9_11.out.below hb S9_11.out.lt); have P1_12c := Lib.hid (P1_11.out.below hb); have P2_12c := Lib.hid (P2_11.out.below hb); have HB12c := Lib.hid (HB11.out.trans (hb.mono HB11.out.size)); clear H4_11; clear S9_11; clear P1_11; clear P2_11; have HF12 : Hid (Has (z12.alloc (.cells zeroState 33)) z12.heap.size 33 zeroState) := Lib.hid (Has.fresh z12 33 _); clear hb)
        | ((with_reducible refine arm_store z12.heap.size (stateCells Sha.first (.slice none 0 0) 0) 33 _ HF12.out HZf.out HIf.out HOf.out ?h5 ?h6 ?_); (case h5 => rfl); (case h6 => rfl)))
      refine gen_world (P := fun W => Code.wp _ _ _ _ W) (I := fun Z => Below z12.heap.size z12 Z ∧ Has Z z12.heap.size 33 (stateCells Sha.first (.slice none 0 0) 0)) _ ⟨below_setRow ((Below.refl _ z12).alloc (Nat.le_refl _) _) (Nat.le_refl _) _, HF12.out.setRow⟩ ?_
      rintro U12 ⟨hb, hN⟩
      have F21_12 := Lib.hid hN
      have H4_12 := Lib.hid (H4_12c.out.below hb H4_12c.out.lt)
      have S9_12 := Lib.hid (S9_12c.out.below hb S9_12c.out.lt)
      have P1_12 := Lib.hid (P1_12c.out.below hb)
      have P2_12 := Lib.hid (P2_12c.out.below hb)
      have HB12 := Lib.hid (HB12c.out.trans (hb.mono HB12c.out.size))
      clear H4_12c
      clear S9_12c
      clear P1_12c
      clear P2_12c
      clear hb hN HF12
      change Code.wp _ (Code.region 13 (pcOps 13) true) _ _ _
      refine wp_region_held (S := fun V => Below U12.heap.size U12 V) (by kernel_rfl) ?_
      have hsz : (pcOps 13).size = 42 := by kernel_rfl
      rw [hsz]
      clear hsz
      refine gen_world (P := fun W' => wpAnyH _ _ _ _ _ _ _ _ W') (I := fun V => Below U12.heap.size U12 V) _ (Below.refl _ U12).drew ?_
      intro V13 hBV
      have T0 := Lib.hid hBV
      clear hBV
      have he8 := HE8.out
      have hf8 := HF8.out
      have hg2 := HG2.out
      refine wpAnyH_take (i := 0) (oi := ⟨some 101, _, _, _, _, _⟩) (v := .pointer (some ⟨p9, 0, none⟩)) rfl (by kernel_rfl) (by kernel_rfl) (by kernel_rfl) (fun _ _ _ h => h) (Or.inl ⟨by rfl, fun w' hw' => by go_simp⟩) T0.out ?_
      try simp only [Act.put, List.setIfInBounds_toArray, List.set_cons_succ, List.set_cons_zero]
      refine wpAnyH_take (i := 1) (oi := ⟨some 102, _, _, _, _, none⟩) (v := .agg (w8 h)) rfl (by kernel_rfl) (by kernel_rfl) (by kernel_rfl) (fun _ _ _ h => h) (yieldsIf_load ⟨p9, 0, none⟩ _ _ (fun x hx => state_words (S9_12.out.below hx S9_12.out.lt)) Tryd.underlying31 HIh.out rfl rfl) T0.out ?_
      try simp only [Act.put, List.setIfInBounds_toArray, List.set_cons_succ, List.set_cons_zero]
      refine wpAnyH_take (i := 2) (oi := ⟨some 103, _, _, _, _, none⟩) (v := .agg (w8 h)) rfl (by kernel_rfl) (by kernel_rfl) (by kernel_rfl) (fun _ _ _ h => h) (yieldsIf_load ⟨w.heap.size, 0, none⟩ _ _ (fun x hx => (H4_12.out.below hx H4_12.out.lt).row) Tryd.underlying31 HIh.out rfl rfl) T0.out ?_
      try simp only [Act.put, List.setIfInBounds_toArray, List.set_cons_succ, List.set_cons_zero]
      refine wpAnyH_take (i := 3) (oi := ⟨some 104, _, _, _, _, _⟩) (v := ?_) rfl (by kernel_rfl) (by kernel_rfl) (by kernel_rfl) (fun _ _ _ h => h) (Or.inl ⟨by rfl, fun w' hw' => by go_simp; with_reducible rfl⟩) T0.out ?_
      try simp only [Act.put, List.setIfInBounds_toArray, List.set_cons_succ, List.set_cons_zero]
      refine wpAnyH_take (i := 4) (oi := ⟨some 105, _, _, _, _, _⟩) (v := ?_) rfl (by kernel_rfl) (by kernel_rfl) (by kernel_rfl) (fun _ _ _ h => h) (Or.inl ⟨by rfl, fun w' hw' => by go_simp; with_reducible rfl⟩) T0.out ?_
      try simp only [Act.put, List.setIfInBounds_toArray, List.set_cons_succ, List.set_cons_zero]
      refine wpAnyH_take (i := 5) (oi := ⟨some 106, _, _, _, _, _⟩) (v := .pointer (some ⟨p9, 8, none⟩)) rfl (by kernel_rfl) (by kernel_rfl) (by kernel_rfl) (fun _ _ _ h => h) (Or.inl ⟨by rfl, fun w' hw' => by go_simp⟩) T0.out ?_
      try simp only [Act.put, List.setIfInBounds_toArray, List.set_cons_succ, List.set_cons_zero]
      refine wpAnyH_take (i := 6) (oi := ⟨some 107, _, _, _, _, _⟩) (v := .slice a1 rb.length c1) rfl (by kernel_rfl) (by kernel_rfl) (by kernel_rfl) (fun _ _ _ h => h) (Or.inl ⟨by rfl, fun w' hw' => by have hq := state_rest (S9_12.out.below hw' S9_12.out.lt) hh; go_simp⟩) T0.out ?_
      try simp only [Act.put, List.setIfInBounds_toArray, List.set_cons_succ, List.set_cons_zero]
      refine wpAnyH_take (i := 7) (oi := ⟨some 108, _, _, _, _, _⟩) (v := ?_) rfl (by kernel_rfl) (by kernel_rfl) (by kernel_rfl) (fun _ _ _ h => h) (Or.inl ⟨by rfl, fun w' hw' => by go_simp; with_reducible rfl⟩) T0.out ?_
      try simp only [Act.put, List.setIfInBounds_toArray, List.set_cons_succ, List.set_cons_zero]
      refine wpAnyH_all (rs := [8]) (by kernel_rfl) (by simp) ?_
      intro i hi
      obtain rfl : i = 8 := by simpa using hi
      clear hi
      refine wpOp_step (o := ⟨some 109, _, _, _, _, _⟩) rfl (fun K' hK' => ?_)
      rw [if_pos (show Region.wanted _ _ = true from rfl)]
      go_simp
      (with_reducible refine (equal_same rb HRB.out _ _ _ _ _ (P1_12.out.below T0.out) (HP.out.below (HB12.out.trans (T0.out.mono HB12.out.size)))).mono ?_)
      rintro e y1 ⟨rfl, hbx⟩
      have T1 := Lib.hid (T0.out.trans (hbx.mono T0.out.size))
      clear hbx
      refine hK' _ _ ⟨T1.out, ?_⟩
      clear hK' K'
      try simp only [Act.put, List.setIfInBounds_toArray, List.set_cons_succ, List.set_cons_zero]
      refine wpAnyH_take (i := 9) (oi := ⟨some 110, _, _, _, _, _⟩) (v := ?_) rfl (by kernel_rfl) (by kernel_rfl) (by kernel_rfl) (fun _ _ _ h => h) (Or.inl ⟨by rfl, fun w' hw' => by go_simp; with_reducible rfl⟩) T1.out ?_
      try simp only [Act.put, List.setIfInBounds_toArray, List.set_cons_succ, List.set_cons_zero]
      refine wpAnyH_take (i := 10) (oi := ⟨some 111, _, _, _, _, _⟩) (v := ?_) rfl (by kernel_rfl) (by kernel_rfl) (by kernel_rfl) (fun _ _ _ h => h) (Or.inl ⟨by rfl, fun w' hw' => by go_simp; with_reducible rfl⟩) T1.out ?_
      try simp only [Act.put, List.setIfInBounds_toArray, List.set_cons_succ, List.set_cons_zero]
      refine wpAnyH_take (i := 11) (oi := ⟨some 112, _, _, _, _, _⟩) (v := .pointer (some ⟨p9, 9, none⟩)) rfl (by kernel_rfl) (by kernel_rfl) (by kernel_rfl) (fun _ _ _ h => h) (Or.inl ⟨by rfl, fun w' hw' => by go_simp⟩) T1.out ?_
      try simp only [Act.put, List.setIfInBounds_toArray, List.set_cons_succ, List.set_cons_zero]
      refine wpAnyH_take (i := 12) (oi := ⟨some 113, _, _, _, _, _⟩) (v := .int .i64 long) rfl (by kernel_rfl) (by kernel_rfl) (by kernel_rfl) (fun _ _ _ h => h) (Or.inl ⟨by rfl, fun w' hw' => by have hq := state_long (S9_12.out.below hw' S9_12.out.lt) hh; go_simp⟩) T1.out ?_
      try simp only [Act.put, List.setIfInBounds_toArray, List.set_cons_succ, List.set_cons_zero]
      refine wpAnyH_take (i := 13) (oi := ⟨some 114, _, _, _, _, _⟩) (v := ?_) rfl (by kernel_rfl) (by kernel_rfl) (by kernel_rfl) (fun _ _ _ h => h) (Or.inl ⟨by rfl, fun w' hw' => by go_simp; with_reducible rfl⟩) T1.out ?_
      try simp only [Act.put, List.setIfInBounds_toArray, List.set_cons_succ, List.set_cons_zero]
      refine wpAnyH_take (i := 14) (oi := ⟨some 115, _, _, _, _, _⟩) (v := ?_) rfl (by kernel_rfl) (by kernel_rfl) (by kernel_rfl) (fun _ _ _ h => h) (Or.inl ⟨by rfl, fun w' hw' => by go_simp; with_reducible rfl⟩) T1.out ?_
      try simp only [Act.put, List.setIfInBounds_toArray, List.set_cons_succ, List.set_cons_zero]
      refine wpAnyH_take (i := 15) (oi := ⟨some 116, _, _, _, _, _⟩) (v := ?_) rfl (by kernel_rfl) (by kernel_rfl) (by kernel_rfl) (fun _ _ _ h => h) (Or.inl ⟨by rfl, fun w' hw' => by go_simp; with_reducible rfl⟩) T1.out ?_
      try simp only [Act.put, List.setIfInBounds_toArray, List.set_cons_succ, List.set_cons_zero]
      refine wpAnyH_take (i := 16) (oi := ⟨some 117, _, _, _, _, _⟩) (v := ?_) rfl (by kernel_rfl) (by kernel_rfl) (by kernel_rfl) (fun _ _ _ h => h) (Or.inl ⟨by rfl, fun w' hw' => by go_simp; with_reducible rfl⟩) T1.out ?_
      try simp only [Act.put, List.setIfInBounds_toArray, List.set_cons_succ, List.set_cons_zero]
      refine wpAnyH_take (i := 17) (oi := ⟨some 118, _, _, _, _, _⟩) (v := ?_) rfl (by kernel_rfl) (by kernel_rfl) (by kernel_rfl) (fun _ _ _ h => h) (Or.inl ⟨by rfl, fun w' hw' => by go_simp; with_reducible rfl⟩) T1.out ?_
      try simp only [Act.put, List.setIfInBounds_toArray, List.set_cons_succ, List.set_cons_zero]
      refine wpAnyH_take (i := 18) (oi := ⟨some 119, _, _, _, _, _⟩) (v := ?_) rfl (by kernel_rfl) (by kernel_rfl) (by kernel_rfl) (fun _ _ _ h => h) (Or.inl ⟨by rfl, fun w' hw' => by go_simp; with_reducible rfl⟩) T1.out ?_
      try simp only [Act.put, List.setIfInBounds_toArray, List.set_cons_succ, List.set_cons_zero]
      refine wpAnyH_all (rs := [19]) (by kernel_rfl) (by simp) ?_
      intro i hi
      obtain rfl : i = 19 := by simpa using hi
      clear hi
      refine wpOp_step (o := ⟨some 120, _, _, _, _, _⟩) rfl (fun K' hK' => ?_)
      rw [if_pos (show Region.wanted _ _ = true from rfl)]
      go_simp
      (with_reducible refine (equal_same bs HBS.out _ _ _ _ _ (P2_12.out.below T1.out) (HQ.out.below (HB12.out.trans (T1.out.mono HB12.out.size)))).mono ?_)
      rintro e y2 ⟨rfl, hbx⟩
      have T2 := Lib.hid (T1.out.trans (hbx.mono T1.out.size))
      clear hbx
      refine hK' _ _ ⟨T2.out, ?_⟩
      clear hK' K'
      try simp only [Act.put, List.setIfInBounds_toArray, List.set_cons_succ, List.set_cons_zero]
      refine wpAnyH_take (i := 20) (oi := ⟨some 121, _, _, _, _, _⟩) (v := ?_) rfl (by kernel_rfl) (by kernel_rfl) (by kernel_rfl) (fun _ _ _ h => h) (Or.inl ⟨by rfl, fun w' hw' => by go_simp; with_reducible rfl⟩) T2.out ?_
      try simp only [Act.put, List.setIfInBounds_toArray, List.set_cons_succ, List.set_cons_zero]
      refine wpAnyH_take (i := 21) (oi := ⟨some 122, _, _, _, _, _⟩) (v := ?_) rfl (by kernel_rfl) (by kernel_rfl) (by kernel_rfl) (fun _ _ _ h => h) (Or.inl ⟨by rfl, fun w' hw' => by go_simp; with_reducible rfl⟩) T2.out ?_
      try simp only [Act.put, List.setIfInBounds_toArray, List.set_cons_succ, List.set_cons_zero]
      refine wpAnyH_take (i := 22) (oi := ⟨some 123, _, _, _, _, _⟩) (v := .pointer (some ⟨z12.heap.size, 0, none⟩)) rfl (by kernel_rfl) (by kernel_rfl) (by kernel_rfl) (fun _ _ _ h => h) (Or.inl ⟨by rfl, fun w' hw' => by go_simp⟩) T2.out ?_
      try simp only [Act.put, List.setIfInBounds_toArray, List.set_cons_succ, List.set_cons_zero]
      refine wpAnyH_take (i := 23) (oi := ⟨some 124, _, _, _, _, some _⟩) (v := .agg (w8 Sha.first)) rfl (by kernel_rfl) (by kernel_rfl) (by kernel_rfl) (fun _ _ _ h => h) (yieldsIf_load_g ⟨z12.heap.size, 0, none⟩ _ _ (fun x hx => state_words (F21_12.out.below hx F21_12.out.lt)) Tryd.underlying31 HWf.out rfl rfl rfl) T2.out ?_
      try simp only [Act.put, List.setIfInBounds_toArray, List.set_cons_succ, List.set_cons_zero]
      refine wpAnyH_all (rs := [24]) (by kernel_rfl) (by simp) ?_
      intro i hi
      obtain rfl : i = 24 := by simpa using hi
      clear hi
      refine wpOp_step (o := ⟨some 125, _, _, _, _, _⟩) rfl (fun K' hK' => ?_)
      rw [if_pos (show Region.wanted _ _ = true from rfl)]
      go_simp
      (with_reducible refine (refFirst_any _).mono ?_)
      rintro e y3 ⟨rfl, hbx⟩
      have T3 := Lib.hid (T2.out.trans (hbx.mono T2.out.size))
      clear hbx
      refine hK' _ _ ⟨T3.out, ?_⟩
      clear hK' K'
      try simp only [Act.put, List.setIfInBounds_toArray, List.set_cons_succ, List.set_cons_zero]
      refine wpAnyH_take (i := 25) (oi := ⟨some 126, _, _, _, _, _⟩) (v := ?_) rfl (by kernel_rfl) (by kernel_rfl) (by kernel_rfl) (fun _ _ _ h => h) (Or.inl ⟨by rfl, fun w' hw' => by go_simp; with_reducible rfl⟩) T3.out ?_
      try simp only [Act.put, List.setIfInBounds_toArray, List.set_cons_succ, List.set_cons_zero]
      refine wpAnyH_take (i := 26) (oi := ⟨some 127, _, _, _, _, _⟩) (v := ?_) rfl (by kernel_rfl) (by kernel_rfl) (by kernel_rfl) (fun _ _ _ h => h) (Or.inl ⟨by rfl, fun w' hw' => by go_simp; with_reducible rfl⟩) T3.out ?_
      try simp only [Act.put, List.setIfInBounds_toArray, List.set_cons_succ, List.set_cons_zero]
      refine wpAnyH_take (i := 27) (oi := ⟨some 128, _, _, _, _, _⟩) (v := ?_) rfl (by kernel_rfl) (by kernel_rfl) (by kernel_rfl) (fun _ _ _ h => h) (Or.inl ⟨by rfl, fun w' hw' => by go_simp; with_reducible rfl⟩) T3.out ?_
      try simp only [Act.put, List.setIfInBounds_toArray, List.set_cons_succ, List.set_cons_zero]
      refine wpAnyH_take (i := 28) (oi := ⟨some 129, _, _, _, _, _⟩) (v := .pointer (some ⟨z12.heap.size, 8, none⟩)) rfl (by kernel_rfl) (by kernel_rfl) (by kernel_rfl) (fun _ _ _ h => h) (Or.inl ⟨by rfl, fun w' hw' => by go_simp⟩) T3.out ?_
      try simp only [Act.put, List.setIfInBounds_toArray, List.set_cons_succ, List.set_cons_zero]
      refine wpAnyH_take (i := 29) (oi := ⟨some 130, _, _, _, _, _⟩) (v := .slice none 0 0) rfl (by kernel_rfl) (by kernel_rfl) (by kernel_rfl) (fun _ _ _ h => h) (Or.inl ⟨by rfl, fun w' hw' => by have hq := state_rest (F21_12.out.below hw' F21_12.out.lt) rfl; go_simp⟩) T3.out ?_
      try simp only [Act.put, List.setIfInBounds_toArray, List.set_cons_succ, List.set_cons_zero]
      refine wpAnyH_take (i := 30) (oi := ⟨some 131, _, _, _, _, _⟩) (v := ?_) rfl (by kernel_rfl) (by kernel_rfl) (by kernel_rfl) (fun _ _ _ h => h) (Or.inl ⟨by rfl, fun w' hw' => by go_simp; with_reducible rfl⟩) T3.out ?_
      try simp only [Act.put, List.setIfInBounds_toArray, List.set_cons_succ, List.set_cons_zero]
      refine wpAnyH_take (i := 31) (oi := ⟨some 132, _, _, _, _, _⟩) (v := ?_) rfl (by kernel_rfl) (by kernel_rfl) (by kernel_rfl) (fun _ _ _ h => h) (Or.inl ⟨by rfl, fun w' hw' => by go_simp; with_reducible rfl⟩) T3.out ?_
      try simp only [Act.put, List.setIfInBounds_toArray, List.set_cons_succ, List.set_cons_zero]
      refine wpAnyH_take (i := 32) (oi := ⟨some 133, _, _, _, _, _⟩) (v := ?_) rfl (by kernel_rfl) (by kernel_rfl) (by kernel_rfl) (fun _ _ _ h => h) (Or.inl ⟨by rfl, fun w' hw' => by go_simp; with_reducible rfl⟩) T3.out ?_
      try simp only [Act.put, List.setIfInBounds_toArray, List.set_cons_succ, List.set_cons_zero]
      refine wpAnyH_take (i := 33) (oi := ⟨some 134, _, _, _, _, _⟩) (v := ?_) rfl (by kernel_rfl) (by kernel_rfl) (by kernel_rfl) (fun _ _ _ h => h) (Or.inl ⟨by rfl, fun w' hw' => by go_simp; with_reducible rfl⟩) T3.out ?_
      try simp only [Act.put, List.setIfInBounds_toArray, List.set_cons_succ, List.set_cons_zero]
      refine wpAnyH_take (i := 34) (oi := ⟨some 135, _, _, _, _, _⟩) (v := .pointer (some ⟨z12.heap.size, 9, none⟩)) rfl (by kernel_rfl) (by kernel_rfl) (by kernel_rfl) (fun _ _ _ h => h) (Or.inl ⟨by rfl, fun w' hw' => by go_simp⟩) T3.out ?_
      try simp only [Act.put, List.setIfInBounds_toArray, List.set_cons_succ, List.set_cons_zero]
      refine wpAnyH_take (i := 35) (oi := ⟨some 136, _, _, _, _, _⟩) (v := .int .i64 0) rfl (by kernel_rfl) (by kernel_rfl) (by kernel_rfl) (fun _ _ _ h => h) (Or.inl ⟨by rfl, fun w' hw' => by have hq := state_long (F21_12.out.below hw' F21_12.out.lt) rfl; go_simp⟩) T3.out ?_
      try simp only [Act.put, List.setIfInBounds_toArray, List.set_cons_succ, List.set_cons_zero]
      refine wpAnyH_take (i := 36) (oi := ⟨some 137, _, _, _, _, _⟩) (v := ?_) rfl (by kernel_rfl) (by kernel_rfl) (by kernel_rfl) (fun _ _ _ h => h) (Or.inl ⟨by rfl, fun w' hw' => by go_simp; with_reducible rfl⟩) T3.out ?_
      try simp only [Act.put, List.setIfInBounds_toArray, List.set_cons_succ, List.set_cons_zero]
      refine wpAnyH_take (i := 37) (oi := ⟨some 138, _, _, _, _, _⟩) (v := ?_) rfl (by kernel_rfl) (by kernel_rfl) (by kernel_rfl) (fun _ _ _ h => h) (Or.inl ⟨by rfl, fun w' hw' => by go_simp; with_reducible rfl⟩) T3.out ?_
      try simp only [Act.put, List.setIfInBounds_toArray, List.set_cons_succ, List.set_cons_zero]
      refine wpAnyH_take (i := 38) (oi := ⟨some 139, _, _, _, _, _⟩) (v := ?_) rfl (by kernel_rfl) (by kernel_rfl) (by kernel_rfl) (fun _ _ _ h => h) (Or.inl ⟨by rfl, fun w' hw' => by go_simp; with_reducible rfl⟩) T3.out ?_
      try simp only [Act.put, List.setIfInBounds_toArray, List.set_cons_succ, List.set_cons_zero]
      refine wpAnyH_all (rs := [39]) (by kernel_rfl) (by simp) ?_
      intro i hi
      obtain rfl : i = 39 := by simpa using hi
      clear hi
      refine wpOp_step (o := ⟨some 140, _, _, _, _, _⟩) rfl (fun K' hK' => ?_)
      rw [if_pos (show Region.wanted _ _ = true from rfl)]
      go_simp
      (with_reducible refine (HAw.out _ (HC.out.below (HB12.out.trans (T3.out.mono HB12.out.size)) rfl)).mono ?_)
      rintro e y4 ⟨rfl, hbx⟩
      have T4 := Lib.hid (T3.out.trans (hbx.mono T3.out.size))
      clear hbx
      refine hK' _ _ ⟨T4.out, ?_⟩
      clear hK' K'
      try simp only [Act.put, List.setIfInBounds_toArray, List.set_cons_succ, List.set_cons_zero]
      refine wpAnyH_take (i := 40) (oi := ⟨some 141, _, _, _, _, _⟩) (v := ?_) rfl (by kernel_rfl) (by kernel_rfl) (by kernel_rfl) (fun _ _ _ h => h) (Or.inl ⟨by rfl, fun w' hw' => by go_simp; with_reducible rfl⟩) T4.out ?_
      try simp only [Act.put, List.setIfInBounds_toArray, List.set_cons_succ, List.set_cons_zero]
      refine wpAnyH_take (i := 41) (oi := ⟨some 8, _, _, _, _, _⟩) (v := ?_) rfl (by kernel_rfl) (by kernel_rfl) (by kernel_rfl) (fun _ _ _ h => h) (Or.inl ⟨by rfl, fun w' hw' => by go_simp; with_reducible rfl⟩) T4.out ?_
      try simp only [Act.put, List.setIfInBounds_toArray, List.set_cons_succ, List.set_cons_zero]
      refine wpAnyH_done (by kernel_rfl) ?_ _
      go_wp2
      go_ret
      exact ⟨rfl, HB12.out.trans (T4.out.mono HB12.out.size)⟩
end Go.Proofs.YtcocljghoiacmaaDoor
end
