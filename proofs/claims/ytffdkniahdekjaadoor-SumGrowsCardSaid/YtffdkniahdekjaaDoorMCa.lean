/-
  sum.Root's error; the digest of the tree of no digest.
  · THE REFERENCE's List: the digest of a list.
  · THE DIGEST OF A LIST, empty or not, by both; rows of digests behind new blocks.
  · THE LAWS' MADE-UP DIGESTS: so many as are asked for, of 32 bytes each.
  · A TREE THAT GROWS HAS THE DIGEST OF ITS LIST; two unlike lists with one digest show two unlike lists of bytes with one digest.
  · sum.Grow's errors.
  · THE REFERENCE's Powers: how many powers of 2 there are in a number.
  · THE REFERENCE's Root: the digest of a tree's list, by its peaks.
-/
import Derived.Test.YtffdkniahdekjaaDoorMBl
import Derived.Test.YtffdkniahdekjaaDoorMBc
import Derived.Test.YtffdkniahdekjaaDoorMBj
import Derived.Test.YtffdkniahdekjaaDoorMBd
import Derived.Test.YtffdkniahdekjaaDoorMBf
import Derived.Test.YtffdkniahdekjaaDoorMBi
section
namespace Go.Proofs.YtffdkniahdekjaaDoor
open Go.RowKit Go.Hoar
noncomputable def listOps : Array Oper := (Tryd.f36.body.bind (opsAt 6)).getD #[]
set_option maxRecDepth 100000 in
set_option maxHeartbeats 1000000 in
theorem refList_none (a : Option Addr) (c : Nat) (w : World) (out : List Nat) (hout : Hid (out = Sha.sha [0])) :
    Calls Tryd.prog 36 #[.slice a 0 c] w fun e w' => e = .returned (.agg (arr32 out)) ∧ out.length = 32 ∧ Below w.heap.size w w' := by
  have hof : ∀ (V : World) (g : Nat), Has V g 5 #[.int .u8 0] → Calls Tryd.prog 18 #[.slice (some ⟨g, 0, none⟩) 1 1] V fun e w' => e = .returned (.agg (arr32 out)) ∧ out.length = 32 ∧ Below V.heap.size V w' := fun V g h =>
    (refOf_any [0] (some ⟨g, 0, none⟩) 1 V (fun x hx => by rw [List.mem_singleton.1 hx]; decide) (pad_part (bs := [0]) h) (Nat.le_refl _) (by decide) (by decide) (by decide) out hout).mono fun e w' ⟨he, hb⟩ => ⟨he, by rw [hout.out]; exact (sha_bytes _).1, hb⟩
  have HOf := Lib.hid hof
  clear hof
  go_enter Tryd.func36, Tryd.ntmps36
  go_upto_region 1 with (fail)
  refine gen_world (P := fun W => Code.wp _ _ _ _ W) (I := fun W => Below w.heap.size w W ∧ Has W w.heap.size 26 (arr32 []) ∧ W.heap.size = w.heap.size + 1) _ ⟨(Below.refl _ w).alloc (Nat.le_refl _) _, Has.fresh_at _ _ _ _ rfl, by simp⟩ ?_
  rintro W ⟨hB, hR, hsz⟩
  have HBa := Lib.hid (hB.alloc hB.size (.cells #[.int .u8 0] 5))
  have HRa := Lib.hid (hR.alloc (.cells #[.int .u8 0] 5))
  clear hB hR
  go_wp2_with (first
    | (go_at_call 18; refine (HOf.out _ _ (Has.fresh_at W 5 _ (w.heap.size + 1) hsz.symm)).mono ?_; rintro e w3 ⟨rfl, hol, hbel⟩; have HB3 := Lib.hid hbel; have HR3 := Lib.hid (HRa.out.below hbel HRa.out.lt); have HI32 := Lib.hid (arr32_info out (by omega)); have HS32 := Lib.hid ((arr32_size [] (by simp)).trans (arr32_size out (by omega)).symm); clear hbel)
    | ((with_reducible refine arm_store w.heap.size _ _ _ HR3.out HS32.out HI32.out (arr32_one _) ?h5 ?h6 ?_); (case h5 => rfl); (case h6 => rfl)))
  exact bodyPost_ret (results_cell_row (P := Tryd.prog) rfl _ _ w.heap.size 26 (arr32 out) (0, 0) _ rfl HR3.out.setRow Tryd.underlying26 rfl HI32.out) rfl ⟨rfl, hol, below_setRow (HBa.out.trans (HB3.out.mono HBa.out.size)) (Nat.le_refl _) _⟩
set_option maxRecDepth 100000 in
set_option maxHeartbeats 1000000 in
theorem refList_one (l : List Nat) (g off c : Nat) (w : World) (hs : SumsAt w g off [l]) (hg : g < w.heap.size) (_hcm : c ≤ maxLen) (_h1c : 1 ≤ c) (out : List Nat) (hout : Hid (out = Sha.sha (1 :: l))) :
    Calls Tryd.prog 36 #[.slice (some ⟨g, off, none⟩) 1 c] w fun e w' => e = .returned (.agg (arr32 out)) ∧ out.length = 32 ∧ Below w.heap.size w w' := by
  obtain ⟨hl, hlb, _⟩ := hs 0 l rfl
  unfold maxLen at _hcm
  have HI := Lib.hid (arr32_info l (by omega))
  go_enter Tryd.func36, Tryd.ntmps36
  go_upto_region 1 with (fail)
  refine gen_world (P := fun W => Code.wp _ _ _ _ W) (I := fun W => Below w.heap.size w W ∧ Has W w.heap.size 26 (arr32 [])) _ ⟨(Below.refl _ w).alloc (Nat.le_refl _) _, Has.fresh_at _ _ _ _ rfl⟩ ?_
  rintro W ⟨hB, hR⟩
  have hrow := (hs.below hg hB).row (i := 0) (l := l) rfl
  rw [Nat.zero_mul, Nat.add_zero] at hrow
  have HRow := Lib.hid hrow
  have HB := Lib.hid hB
  have HR := Lib.hid hR
  clear hB hR hs hrow
  go_wp2_with (first
    | ((with_reducible refine arm_load ⟨g, off, none⟩ _ _ HRow.out Tryd.underlying26 HI.out ?h1 ?h2 ?_); (case h1 => rfl); (case h2 => rfl))
    | (go_at_call 72; refine (refLeaf_any l hl hlb _ out hout).mono ?_; rintro e w3 ⟨rfl, hol, hbel⟩; have HB3 := Lib.hid hbel; have HR3 := Lib.hid (HR.out.below hbel HR.out.lt); have HI32 := Lib.hid (arr32_info out (by omega)); have HS32 := Lib.hid ((arr32_size [] (by simp)).trans (arr32_size out (by omega)).symm); clear hbel)
    | ((with_reducible refine arm_store w.heap.size _ _ _ HR3.out HS32.out HI32.out (arr32_one _) ?h5 ?h6 ?_); (case h5 => rfl); (case h6 => rfl)))
  exact bodyPost_ret (results_cell_row (P := Tryd.prog) rfl _ _ w.heap.size 26 (arr32 out) (0, 0) _ rfl HR3.out.setRow Tryd.underlying26 rfl HI32.out) rfl ⟨rfl, hol, below_setRow (HB.out.trans (HB3.out.mono HB.out.size)) (Nat.le_refl _) _⟩
def RefListOk (f : Nat) : Prop := ∀ (ls : List (List Nat)) (g off c : Nat) (w : World), ls.length < f → 0 < ls.length → ls.length ≤ c → c ≤ maxLen → ls.length ≤ 140737488355328 → SumsAt w g off ls → g < w.heap.size → ∀ out, Hid (out = listOf f ls) →
    Calls Tryd.prog 36 #[.slice (some ⟨g, off, none⟩) ls.length c] w fun e w' => e = .returned (.agg (arr32 out)) ∧ out.length = 32 ∧ Below w.heap.size w w'
set_option maxRecDepth 100000 in
set_option maxHeartbeats 2000000 in
theorem refList_step (f : Nat) (ih : RefListOk f) (ls : List (List Nat)) (n : Nat) (hnl : n = ls.length) (h2 : 2 ≤ n) (g off c : Nat) (w : World) (hf : n < f + 1) (hnc : n ≤ c) (hcm : c ≤ maxLen) (hn : n ≤ 140737488355328) (hs : SumsAt w g off ls) (hg : g < w.heap.size) (out : List Nat)
    (hlo : out = Sha.sha (2 :: (listOf f (ls.take (halfOf n)) ++ listOf f (ls.drop (halfOf n))))) :
    Calls Tryd.prog 36 #[.slice (some ⟨g, off, none⟩) n c] w fun e w' => e = .returned (.agg (arr32 out)) ∧ out.length = 32 ∧ Below w.heap.size w w' := by
  obtain ⟨_, b2, _⟩ := halfOf_bounds h2 hn
  have b0 := halfOf_pos n
  obtain ⟨h, hh⟩ : ∃ h, h = halfOf n := ⟨_, rfl⟩
  rw [← hh] at b2 b0 hlo
  have lt1 : (ls.take h).length = h := by rw [List.length_take]; omega
  have lt2 : (ls.drop h).length = n - h := by rw [List.length_drop]; omega
  obtain ⟨A, hA⟩ : ∃ A, A = listOf f (ls.take h) := ⟨_, rfl⟩
  obtain ⟨B, hB⟩ : ∃ B, B = listOf f (ls.drop h) := ⟨_, rfl⟩
  have hAb : Sha.Bytes A := by rw [hA]; exact listOf_bytes _ _
  have hBb : Sha.Bytes B := by rw [hB]; exact listOf_bytes _ _
  rw [← hA, ← hB] at hlo
  have hfirst : ∀ V, Below w.heap.size w V → Calls Tryd.prog 36 #[.slice (some ⟨g, off, none⟩) h c] V fun e w' => e = .returned (.agg (arr32 A)) ∧ A.length = 32 ∧ Below V.heap.size V w' := fun V hv => by
    have k := ih (ls.take h) g off c V (by rw [lt1]; omega) (by rw [lt1]; omega) (by rw [lt1]; omega) hcm (by rw [lt1]; omega) ((hs.below hg hv).take h) (Nat.lt_of_lt_of_le hg hv.size) A (Lib.hid hA)
    rwa [lt1] at k
  have hrest : ∀ V, Below w.heap.size w V → Calls Tryd.prog 36 #[.slice (some ⟨g, off + h * 32, none⟩) (n - h) (c - h)] V fun e w' => e = .returned (.agg (arr32 B)) ∧ B.length = 32 ∧ Below V.heap.size V w' := fun V hv => by
    have k := ih (ls.drop h) g (off + h * 32) (c - h) V (by rw [lt2]; omega) (by rw [lt2]; omega) (by rw [lt2]; omega) (by omega) (by rw [lt2]; omega) ((hs.below hg hv).drop h) (Nat.lt_of_lt_of_le hg hv.size) B (Lib.hid hB)
    rwa [lt2] at k
  have hpair : ∀ V, Below w.heap.size w V → A.length = 32 → B.length = 32 → Calls Tryd.prog 73 #[.agg (arr32 A), .agg (arr32 B)] V fun e w' => e = .returned (.agg (arr32 out)) ∧ out.length = 32 ∧ Below V.heap.size V w' := fun V hv ha hb => refInner_any A B ha hb hAb hBb V out (Lib.hid hlo)
  have hcut := refBelow_any n h2 hn
  rw [← hh] at hcut
  unfold maxLen at hcm
  have HF := Lib.hid hfirst
  have HS := Lib.hid hrest
  have HP := Lib.hid hpair
  have HK := Lib.hid hcut
  have n0 : ¬ n = 0 := by omega
  have n1 : ¬ n = 1 := by omega
  clear hfirst hrest hpair hcut hs hA hB hlo lt1 lt2 hnl hh ih
  go_enter Tryd.func36, Tryd.ntmps36
  go_upto_region 1 with (fail)
  refine gen_world (P := fun W => Code.wp _ _ _ _ W) (I := fun W => Below w.heap.size w W ∧ Has W w.heap.size 26 (arr32 [])) _ ⟨(Below.refl _ w).alloc (Nat.le_refl _) _, Has.fresh_at _ _ _ _ rfl⟩ ?_
  rintro W ⟨hBW, hRW⟩
  have HB := Lib.hid hBW
  have HR := Lib.hid hRW
  clear hBW hRW
  have hhc : ¬ c = h := by omega
  have hhc2 : h ≤ c := by omega
  have hhn : h ≤ n := by omega
  go_upto_region 6 with (go_at_call 71; (with_reducible refine (HK.out _).mono ?_); rintro e w1 ⟨rfl, rfl⟩)
  change Code.wp _ (Code.region 6 listOps true) _ _ _
  refine wp_region_held (S := fun V => Below w.heap.size w V) (by kernel_rfl) ?_
  have hsz : listOps.size = 10 := by kernel_rfl
  rw [hsz]
  clear hsz
  refine gen_world (P := fun W' => wpAnyH _ _ _ _ _ _ _ _ W') (I := fun V => Below w.heap.size w V ∧ Has V w.heap.size 26 (arr32 [])) _ ⟨HB.out.drew, HR.out.drew⟩ ?_
  rintro V ⟨hBV, hRV⟩
  have HB0 := Lib.hid hBV
  have HR0 := Lib.hid hRV
  clear hBV hRV HB HR
  refine wpAnyH_take (i := 0) (oi := ⟨some 19, _, _, _, _, _⟩) (v := .slice (some ⟨g, off, none⟩) n c) rfl (by kernel_rfl) (by kernel_rfl) (by kernel_rfl) (fun _ _ _ h => h) (Or.inl ⟨by rfl, fun w' hw' => by go_simp⟩) HB0.out ?_
  try simp only [Act.put, List.setIfInBounds_toArray, List.set_cons_succ, List.set_cons_zero]
  refine wpAnyH_take (i := 1) (oi := ⟨some 20, _, _, _, _, _⟩) (v := .int .i64 (h : Int)) rfl (by kernel_rfl) (by kernel_rfl) (by kernel_rfl) (fun _ _ _ h => h) (Or.inl ⟨by rfl, fun w' hw' => by go_simp⟩) HB0.out ?_
  try simp only [Act.put, List.setIfInBounds_toArray, List.set_cons_succ, List.set_cons_zero]
  refine wpAnyH_take (i := 2) (oi := ⟨some 21, _, _, _, _, _⟩) (v := .slice (some ⟨g, off, none⟩) h c) rfl (by kernel_rfl) (by kernel_rfl) (by kernel_rfl) (fun _ _ _ h => h) (Or.inl ⟨by rfl, fun w' hw' => by go_simp⟩) HB0.out ?_
  try simp only [Act.put, List.setIfInBounds_toArray, List.set_cons_succ, List.set_cons_zero]
  refine wpAnyH_take (i := 4) (oi := ⟨some 23, _, _, _, _, _⟩) (v := .slice (some ⟨g, off, none⟩) n c) rfl (by kernel_rfl) (by kernel_rfl) (by kernel_rfl) (fun _ _ _ h => h) (Or.inl ⟨by rfl, fun w' hw' => by go_simp⟩) HB0.out ?_
  try simp only [Act.put, List.setIfInBounds_toArray, List.set_cons_succ, List.set_cons_zero]
  refine wpAnyH_take (i := 5) (oi := ⟨some 24, _, _, _, _, _⟩) (v := .int .i64 (h : Int)) rfl (by kernel_rfl) (by kernel_rfl) (by kernel_rfl) (fun _ _ _ h => h) (Or.inl ⟨by rfl, fun w' hw' => by go_simp⟩) HB0.out ?_
  try simp only [Act.put, List.setIfInBounds_toArray, List.set_cons_succ, List.set_cons_zero]
  refine wpAnyH_take (i := 6) (oi := ⟨some 25, _, _, _, _, _⟩) (v := .slice (some ⟨g, off + h * 32, none⟩) (n - h) (c - h)) rfl (by kernel_rfl) (by kernel_rfl) (by kernel_rfl) (fun _ _ _ h => h) (Or.inl ⟨by rfl, fun w' hw' => by go_simp⟩) HB0.out ?_
  try simp only [Act.put, List.setIfInBounds_toArray, List.set_cons_succ, List.set_cons_zero]
  refine wpAnyH_all (rs := [3]) (by kernel_rfl) (by simp) ?_
  intro i hi
  obtain rfl : i = 3 := by simpa using hi
  clear hi
  refine wpOp_step (o := ⟨some 22, _, _, _, _, _⟩) rfl (fun K' hK' => ?_)
  rw [if_pos (show Region.wanted _ _ = true from rfl)]
  go_simp
  (with_reducible refine (HF.out _ HB0.out).mono ?_)
  rintro e v1 ⟨rfl, hal, hbx⟩
  have HB1 := Lib.hid (HB0.out.trans (hbx.mono HB0.out.size))
  have HR1 := Lib.hid (HR0.out.below hbx HR0.out.lt)
  clear hbx
  refine hK' _ _ ⟨HB1.out, ?_⟩
  clear hK' K'
  try simp only [Act.put, List.setIfInBounds_toArray, List.set_cons_succ, List.set_cons_zero]
  refine wpAnyH_all (rs := [7]) (by kernel_rfl) (by simp) ?_
  intro i hi
  obtain rfl : i = 7 := by simpa using hi
  clear hi
  refine wpOp_step (o := ⟨some 26, _, _, _, _, _⟩) rfl (fun K' hK' => ?_)
  rw [if_pos (show Region.wanted _ _ = true from rfl)]
  go_simp
  (with_reducible refine (HS.out _ HB1.out).mono ?_)
  rintro e v2 ⟨rfl, hbl, hbx⟩
  have HB2 := Lib.hid (HB1.out.trans (hbx.mono HB1.out.size))
  have HR2 := Lib.hid (HR1.out.below hbx HR1.out.lt)
  clear hbx
  refine hK' _ _ ⟨HB2.out, ?_⟩
  clear hK' K'
  try simp only [Act.put, List.setIfInBounds_toArray, List.set_cons_succ, List.set_cons_zero]
  refine wpAnyH_all (rs := [8]) (by kernel_rfl) (by simp) ?_
  intro i hi
  obtain rfl : i = 8 := by simpa using hi
  clear hi
  refine wpOp_step (o := ⟨some 27, _, _, _, _, _⟩) rfl (fun K' hK' => ?_)
  rw [if_pos (show Region.wanted _ _ = true from rfl)]
  go_simp
  (with_reducible refine (HP.out _ HB2.out hal hbl).mono ?_)
  rintro e v3 ⟨rfl, hol, hbx⟩
  have HB4 := Lib.hid (HB2.out.trans (hbx.mono HB2.out.size))
  have HR4 := Lib.hid (HR2.out.below hbx HR2.out.lt)
  clear hbx
  refine hK' _ _ ⟨HB4.out, ?_⟩
  clear hK' K'
  try simp only [Act.put, List.setIfInBounds_toArray, List.set_cons_succ, List.set_cons_zero]
  have HI32 := Lib.hid (arr32_info out (by omega))
  have HS32 := Lib.hid ((arr32_size [] (by simp)).trans (arr32_size out (by omega)).symm)
  refine wpAnyH_all (rs := [9]) (by kernel_rfl) (by simp) ?_
  intro i hi
  obtain rfl : i = 9 := by simpa using hi
  clear hi
  refine wpOp_step (o := ⟨none, _, _, _, _, _⟩) rfl (fun K' hK' => ?_)
  rw [if_pos (show Region.wanted _ _ = true from rfl)]
  refine opw_store w.heap.size (arr32 out) _ _ HR4.out HS32.out HI32.out (arr32_one _) rfl rfl ?_
  refine hK' _ _ ⟨below_setRow HB4.out (Nat.le_refl _) _, ?_⟩
  clear hK' K'
  try simp only [Act.put, List.setIfInBounds_toArray, List.set_cons_succ, List.set_cons_zero]
  refine wpAnyH_done (by kernel_rfl) ?_ _
  go_wp2
  exact bodyPost_ret (results_cell_row (P := Tryd.prog) rfl _ _ w.heap.size 26 (arr32 out) (0, 0) _ rfl HR4.out.setRow Tryd.underlying26 rfl HI32.out) rfl ⟨rfl, hol, below_setRow HB4.out (Nat.le_refl _) _⟩
theorem refList_any : ∀ (f : Nat), RefListOk f
  | 0 => fun _ _ _ _ _ h _ _ _ _ _ _ _ _ => absurd h (Nat.not_lt_zero _)
  | f + 1 => fun ls g off c w hf hp hnc hcm hn hs hg out hout => by
    match ls, hf, hp, hnc, hn, hs, hout with
    | [], _, hp, _, _, _, _ => exact absurd hp (Nat.lt_irrefl _)
    | [x], _, _, h1, _, hs, hout => exact refList_one x g off c w hs hg hcm h1 out (Lib.hid (hout.out.trans (by rw [listOf])))
    | x :: y :: r, hf, _, hnc, hn, hs, hout => exact refList_step f (refList_any f) (x :: y :: r) _ rfl (by simp) g off c w hf hnc hcm hn hs hg out (hout.out.trans (by rw [listOf]; exact Eq.refl _))
end Go.Proofs.YtffdkniahdekjaaDoor
end
section
namespace Go.Proofs.YtffdkniahdekjaaDoor
open Go.RowKit Go.Hoar
theorem listAll_any (ls : List (List Nat)) (V : World) (a : Option Addr) (c : Nat) (hr : RowOk V a c ls) (hn : ls.length ≤ 1073741824) (hc : ConstAt V) :
    Calls Tryd.prog 33 #[.slice a ls.length c] V fun e w' => e = .returned (.agg (arr32 (listOf (ls.length + 1) ls))) ∧ (listOf (ls.length + 1) ls).length = 32 ∧ Below V.heap.size V w' := by
  rcases hr with ⟨rfl, rfl, rfl⟩ | ⟨g, off, rfl, hg, hs, hc1, hm⟩
  · exact list_none none 0 V hc _ (Lib.hid (by rw [listOf]))
  · rcases Nat.eq_zero_or_pos ls.length with h0 | hp
    · obtain rfl := List.length_eq_zero_iff.1 h0
      exact list_none _ c V hc _ (Lib.hid (by rw [listOf]))
    · exact list_any (ls.length + 1) ls g off c V (Nat.lt_succ_self _) hp hc1 hm (by omega) hs hg hc _ (Lib.hid rfl)
theorem refListAll_any (ls : List (List Nat)) (V : World) (a : Option Addr) (c : Nat) (hr : RowOk V a c ls) (hn : ls.length ≤ 1073741824) :
    Calls Tryd.prog 36 #[.slice a ls.length c] V fun e w' => e = .returned (.agg (arr32 (listOf (ls.length + 1) ls))) ∧ (listOf (ls.length + 1) ls).length = 32 ∧ Below V.heap.size V w' := by
  rcases hr with ⟨rfl, rfl, rfl⟩ | ⟨g, off, rfl, hg, hs, hc1, hm⟩
  · exact refList_none none 0 V _ (Lib.hid (by rw [listOf]))
  · rcases Nat.eq_zero_or_pos ls.length with h0 | hp
    · obtain rfl := List.length_eq_zero_iff.1 h0
      exact refList_none _ c V _ (Lib.hid (by rw [listOf]))
    · exact refList_any (ls.length + 1) ls g off c V (Nat.lt_succ_self _) hp hc1 hm (by omega) hs hg _ (Lib.hid rfl)
theorem zero32_all : ((Value.agg zero32).cells.all fun x => x.oneCell') = true := by
  first | rfl | simp [Value.cells, zero32, Value.oneCell']
/-- slices.Equal of a list with itself. -/
theorem sumsEqual_same (ls : List (List Nat)) (hok : SumsOk ls) (hn : ls.length ≤ 1000000) (a b : Option Addr) (c d : Nat) (w : World) (ha : RowOk w a c ls) (hb : RowOk w b d ls) :
    Calls Tryd.prog 37 #[.slice a ls.length c, .slice b ls.length d] w fun e w' => e = .returned (.bool true) ∧ Below w.heap.size w w' := by
  refine (sumsEqual_any ls ls hok hok a b c d w ha hb hn hn).mono ?_
  rintro e w' ⟨rfl, q, rfl⟩
  exact ⟨by rw [decide_eq_true rfl], below_drewN (Below.refl _ _) _⟩
end Go.Proofs.YtffdkniahdekjaaDoor
end
section
namespace Go.Proofs.YtffdkniahdekjaaDoor
open Go.RowKit Go.Hoar
noncomputable def smOps (k : Nat) : Array Oper := (Tryd.f52.body.bind (opsAt k)).getD #[]
theorem own_but {w w' : World} {g base : Nat} {e : TypeId} {size : Nat} {v : Value} {n : Nat} {xs : List Value} (h : w.ownsRow base e size v n xs) (hb : But g w w') (hg : g < base) : w'.ownsRow base e size v n xs :=
  h.kept (row := some g) ⟨hb.os, hb.tape, hb.output, hb.size, fun k hk hne => hb.block k hk (fun e => hne (by rw [e]))⟩ (.inr (fun e => by have := (h.lt _ e).1; omega))
theorem xor_byte (x q : Nat) (hx : x < 256) (hq : q < 8) : ∃ z : Nat, z < 256 ∧ bits BinOp.xor IntKind.u8 (x : Int) (IntKind.u8.wrap ((2 : Int) ^ q)) = (z : Int) := by
  have key : ∀ (x : Fin 256) (q : Fin 8), 0 ≤ bits BinOp.xor IntKind.u8 (x.val : Int) (IntKind.u8.wrap ((2 : Int) ^ q.val)) ∧ bits BinOp.xor IntKind.u8 (x.val : Int) (IntKind.u8.wrap ((2 : Int) ^ q.val)) < 256 := by decide +kernel
  have := key ⟨x, hx⟩ ⟨q, hq⟩
  dsimp only at this
  exact ⟨(bits BinOp.xor IntKind.u8 (x : Int) (IntKind.u8.wrap ((2 : Int) ^ q))).toNat, by omega, by omega⟩
theorem arr32_setAt (y : List Nat) (h : y.length = 32) (p z : Nat) : (arr32 y).setIfInBounds p (.int .u8 (z : Int)) = arr32 (y.set p z) := by
  unfold arr32
  rw [List.length_set, h]
  simp [BV, List.map_set]
set_option maxRecDepth 100000 in
set_option maxHeartbeats 6000000 in
theorem some_any (g B k many : Nat) (hm : many ≤ 100) (hk : k < 1000000) (w : World) (hK : Kit w g B k) (hBw : B ≤ w.heap.size) :
    Calls Tryd.prog 52 #[.pointer (some ⟨g, 0, none⟩), .int .i64 (many : Int)] w fun e w' => ∃ (v : Value) (L : List (List Nat)), e = .returned v ∧ L.length = many ∧ SumsOk L ∧ w'.ownsRow w.heap.size 26 32 v many (L.flatMap cellsOf) ∧ Kit w' g B (k + 40 * many) ∧ But g w w' := by
  obtain ⟨i0, hi0, hz0, hz1, hz2⟩ := info_parts sumInfo3
  have hgB : g < B := hK.1
  have HK := Lib.hid hK
  clear hK
  go_enter Tryd.func52, Tryd.ntmps52
  go_wp2
  go_loopw [5, 8] (fun v i wr => ∃ (j : Nat) (vv : Value) (L : List (List Nat)), vv = v ∧ j ≤ many ∧ i = .int .i64 (j : Int) ∧ L.length = j ∧ Hid (SumsOk L) ∧ wr.ownsRow w.heap.size 26 32 vv j (L.flatMap cellsOf) ∧ Kit wr g B (k + 40 * j) ∧ But g w wr) (fun _ i _ => many - (intOf i).toNat)
  case atStart => exact ⟨0, _, [], rfl, Nat.zero_le _, rfl, rfl, Lib.hid (fun l hl => absurd hl List.not_mem_nil), World.ownsRow_nil _ _ _ _, HK.out, But.refl _ _⟩
  case round =>
    obtain ⟨j, vv, L, hvv, hj, rfl, hL, HL, hO, hKr, hB⟩ := hrel
    subst hvv
    by_cases hlt : j < many
    · obtain ⟨a6, c6, rfl, hc6, hcm6⟩ := own_shape hO
      have hBr : B ≤ wr.heap.size := Nat.le_trans hBw hB.size
      have HS := Lib.hid (sum_some g B (k + 40 * j) (by omega) wr hKr hBr)
      have HO := Lib.hid hO
      have HB := Lib.hid hB
      unfold maxLen at hcm6
      clear hO hB hKr
      go_upto_region 5 with (first
        | (go_at_call 84; (with_reducible refine HS.out.mono ?_); rintro e w1 ⟨x, rfl, hxl, hxb, hK1, hb1⟩; have HK1 := Lib.hid hK1; have HO1 := Lib.hid (own_but HO.out hb1 (by omega)); have HB1 := Lib.hid (HB.out.trans hb1); have HF := Lib.hid (fresh_sum w1); have HSz := Lib.hid (zero32_size x (by omega)); have HI := Lib.hid (arr32_info x (by omega)); have hg1 := hK1.lt; clear hK1 hb1)
        | ((with_reducible refine arm_store w1.heap.size (arr32 x) 26 zero32 HF.out HSz.out HI.out (arr32_one _) ?h5 ?h6 ?_); (case h5 => rfl); (case h6 => rfl)))
      have hlt1 : ∀ q, (Value.slice a6 j c6).ownBlock = some q → q < w1.heap.size := fun q hq => (HO1.out.lt q hq).2
      refine gen_world (P := fun W => Code.wp _ _ _ _ W) (I := fun V => Below w1.heap.size w1 V ∧ Has V w1.heap.size 26 (arr32 x) ∧ V.ownsRow w.heap.size 26 32 (.slice a6 j c6) j (L.flatMap cellsOf)) _ ⟨below_setRow ((Below.refl _ w1).alloc (Nat.le_refl _) _) (Nat.le_refl _) _, HF.out.setRow, own_setRow (HO1.out.alloc _) (fun e => by have := hlt1 _ e; omega) _⟩ ?_
      rintro V ⟨hBV, hXV, hOV⟩
      have hw1B : B ≤ w1.heap.size := by have := HB1.out.size; omega
      have hKV := HK1.out.below (hBV.mono hw1B)
      have hBut : But g w V := HB1.out.trans (But.of_below hBV)
      have hb6g : g < w1.heap.size := hg1
      have hb6w : w.heap.size ≤ w1.heap.size := HB1.out.size
      generalize w1.heap.size = b6 at *
      have HKV := Lib.hid hKV
      have HXV := Lib.hid hXV
      have HOV := Lib.hid hOV
      have HBV := Lib.hid hBut
      clear hBV hXV hOV hKV hBut HK1 HO1 HB1 HF HSz HS HO HB
      rcases Nat.eq_zero_or_pos j with hj0 | hj0
      · have hj1 : ¬ (0 : Int) < (j : Int) := by omega
        go_wp2_with (first
          | ((with_reducible refine arm_load ⟨b6, 0, none⟩ (arr32 x) _ HXV.out.row Tryd.underlying26 HI.out ?h1 ?h2 ?_); (case h1 => rfl); (case h2 => rfl))
          | ((with_reducible refine arm_slice1 26 i0 _ (arr32 x) Tryd.underlying49 hi0 hz0 (by rw [arr32_size x (by omega), hz1]) ?s1 ?s2 ?s3 ?_); (case s1 => rw [arr32_size x (by omega)]; omega); (case s2 => rw [arr32_size x (by omega)]; omega); (case s3 => rfl))
          | (at_builtin; refine wpList_append_own _ rfl _ _ 49 rfl w.heap.size 26 i0 _ 32 32 Tryd.underlying49 hi0 hz0 hz1 hz2 rfl (by decide) _ _ _ rfl (HOV.out.alloc _) ⟨V.heap.size, 0, none⟩ 1 1 (cellsOf x) rfl (by rw [cellsOf_len (by omega)]) (cell_row_new _ _ _) (cellsOf_one _) (by unfold maxLen; omega) (by omega) (by simp; have := HBV.out.size; omega) ?_; intro v' w9 hown9 hgrow9 _
             have hb9 : Below w.heap.size V w9 := ((Below.refl _ V).alloc HBV.out.size (.cells (arr32 x) 26)).grown hgrow9 (by simp; have := HBV.out.size; omega) (fun q hq => (HOV.out.lt q hq).1)
             have HO9 := Lib.hid hown9
             have HK9 := Lib.hid (HKV.out.below (hb9.mono hBw))
             have HB9 : Hid (But g w w9) := Lib.hid ⟨hb9.os.trans HBV.out.os, hb9.tape.trans HBV.out.tape, hb9.output.trans HBV.out.output, Nat.le_trans HBV.out.size hb9.size, fun q hq hne => (hb9.block q hq).trans (HBV.out.block q hq hne)⟩
             clear hown9 hgrow9 hb9))
        go_roundw
        case rel => exact ⟨j + 1, _, L ++ [x], rfl, by omega, by go_num, by simp [hL], Lib.hid (fun l hl => by rcases List.mem_append.1 hl with h | h; exact HL.out l h; rw [List.mem_singleton.1 h]; exact ⟨hxl, hxb⟩), by rw [List.flatMap_append, List.flatMap_cons, List.flatMap_nil, List.append_nil]; exact HO9.out, HK9.out.mono (by omega), HB9.out⟩
        case measure => simp [intOf]; omega
      · have hj1 : (0 : Int) < (j : Int) := by omega
        have HSd := Lib.hid (seldom_any g B (k + 40 * j + 32) (by omega) 4 (by omega) V HKV.out)
        obtain ⟨g6, rfl, hg6b, _⟩ := own_addr HOV.out hj0
        go_upto_region 6 with (first
          | (go_at_call 51; (with_reducible refine HSd.out.mono ?_); rintro e w2 ⟨b, rfl, hK2, hb2⟩; have HK2 := Lib.hid hK2; have HX2 := Lib.hid (hb2.has HXV.out (by omega)); have HO2 := Lib.hid (own_but HOV.out hb2 (by omega)); have HB2 := Lib.hid (HBV.out.trans hb2); have hg2 := hK2.lt; clear hK2 hb2; cases b)
          | ((with_reducible refine arm_load ⟨b6, 0, none⟩ (arr32 x) _ HX2.out.row Tryd.underlying26 HI.out ?h1 ?h2 ?_); (case h1 => rfl); (case h2 => rfl))
          | ((with_reducible refine arm_slice1 26 i0 _ (arr32 x) Tryd.underlying49 hi0 hz0 (by rw [arr32_size x (by omega), hz1]) ?s1 ?s2 ?s3 ?_); (case s1 => rw [arr32_size x (by omega)]; omega); (case s2 => rw [arr32_size x (by omega)]; omega); (case s3 => rfl))
          | (at_builtin; refine wpList_append_own _ rfl _ _ 49 rfl w.heap.size 26 i0 _ 32 32 Tryd.underlying49 hi0 hz0 hz1 hz2 rfl (by decide) _ _ _ rfl (HO2.out.alloc _) ⟨w2.heap.size, 0, none⟩ 1 1 (cellsOf x) rfl (by rw [cellsOf_len (by omega)]) (cell_row_new _ _ _) (cellsOf_one _) (by unfold maxLen; omega) (by omega) (by simp; have := HB2.out.size; omega) ?_; intro v' w9 hown9 hgrow9 _
             have hb9 : Below w.heap.size w2 w9 := ((Below.refl _ w2).alloc HB2.out.size (.cells (arr32 x) 26)).grown hgrow9 (by simp; have := HB2.out.size; omega) (fun q hq => (HO2.out.lt q hq).1)
             have HO9 := Lib.hid hown9
             have HK9 := Lib.hid (HK2.out.below (hb9.mono hBw))
             have HB9 : Hid (But g w w9) := Lib.hid ⟨hb9.os.trans HB2.out.os, hb9.tape.trans HB2.out.tape, hb9.output.trans HB2.out.output, Nat.le_trans HB2.out.size hb9.size, fun q hq hne => (hb9.block q hq).trans (HB2.out.block q hq hne)⟩
             clear hown9 hgrow9 hb9))
        · go_roundw
          case rel => exact ⟨j + 1, _, L ++ [x], rfl, by omega, by go_num, by simp [hL], Lib.hid (fun l hl => by rcases List.mem_append.1 hl with h | h; exact HL.out l h; rw [List.mem_singleton.1 h]; exact ⟨hxl, hxb⟩), by rw [List.flatMap_append, List.flatMap_cons, List.flatMap_nil, List.append_nil]; exact HO9.out, HK9.out.mono (by omega), HB9.out⟩
          case measure => simp [intOf]; omega
        · have HLs := Lib.hid (less_any g B (k + 40 * j + 32 + 1) (by omega) (j : Int) (by omega) w2 HK2.out)
          go_upto_region 7 with (fail)
          go_at_call 50
          (with_reducible refine HLs.out.mono ?_)
          rintro e w3 ⟨v, rfl, hv0, hv1, _, hK3, hb3⟩
          obtain ⟨v, rfl⟩ := Int.eq_ofNat_of_zero_le hv0
          have hv2 : (v : Int) < (j : Int) := hv1 (by omega)
          have hv3 : v < j := by omega
          obtain ⟨y, hy⟩ : ∃ y, L[v]? = some y := ⟨_, List.getElem?_eq_getElem (by omega)⟩
          have hyl := HL.out y (List.mem_of_getElem? hy)
          have HO3 := Lib.hid (own_but HO2.out hb3 (by omega))
          have HX3 := Lib.hid (hb3.has HX2.out (by omega))
          have HB3 := Lib.hid (HB2.out.trans hb3)
          have HK3 := Lib.hid hK3
          have HRow : Hid (∀ i u, (arr32 y)[i]? = some u → w3.cell? ((⟨g6, v * 32, none⟩ : Addr).add i) = some u) := Lib.hid (fun i u hi => by have h := HO3.out.cells (g := g6) rfl (v * 32 + i) u (flat_at L HL.out v y hy i u hi); rw [Addr.add_lit, Nat.zero_add] at h; rw [Addr.add_lit]; exact h)
          have HIy := Lib.hid (arr32_info y (by omega))
          have HSy : Hid ((arr32 x).size = (arr32 y).size) := Lib.hid ((arr32_size x (by omega)).trans (arr32_size y (by omega)).symm)
          have hvc : v < c6 := by omega
          clear hK3 hb3 hy
          go_upto_region 7 with (first
            | ((with_reducible refine arm_load ⟨g6, v * 32, none⟩ (arr32 y) _ HRow.out Tryd.underlying26 HIy.out ?h1 ?h2 ?_); (case h1 => rfl); (case h2 => rfl))
            | ((with_reducible refine arm_store b6 (arr32 y) 26 (arr32 x) HX3.out HSy.out HIy.out (arr32_one _) ?h5 ?h6 ?_); (case h5 => rfl); (case h6 => rfl)))
          have hne6 : ∀ q, (Value.slice (some ⟨g6, 0, none⟩) j c6).ownBlock = some q → q ≠ b6 := fun q hq e => by
            have h := hlt1 q hq
            omega
          refine gen_world (P := fun W => Code.wp _ _ _ _ W) (I := fun Z => Kit Z g B (k + 40 * j + 34) ∧ Has Z b6 26 (arr32 y) ∧ Z.ownsRow w.heap.size 26 32 (.slice (some ⟨g6, 0, none⟩) j c6) j (L.flatMap cellsOf) ∧ But g w Z) _ ⟨(HK3.out.below (below_setRow (Below.refl B w3) hw1B _)).mono (by omega), HX3.out.setRow, own_setRow HO3.out (fun e => hne6 _ e rfl) _, HB3.out.newRow hb6w _⟩ ?_
          rintro Z ⟨hKZ, hXZ, hOZ, hBZ⟩
          have HKZ := Lib.hid hKZ
          have HXZ := Lib.hid hXZ
          have HOZ := Lib.hid hOZ
          have HBZ := Lib.hid hBZ
          clear hKZ hXZ hOZ hBZ HK3 HX3 HO3 HB3 HRow HK2 HX2 HO2 HB2 HLs HSd
          have HSd := Lib.hid (seldom_any g B (k + 40 * j + 34) (by omega) 2 (by omega) Z HKZ.out)
          have hyl1 := hyl.1
          have hyl2 := hyl.2
          go_upto_region 8 with (first
            | (go_at_call 51; (with_reducible refine HSd.out.mono ?_); rintro e w4 ⟨b, rfl, hK2, hb2⟩; have HK4 := Lib.hid hK2; have HX4 := Lib.hid (hb2.has HXZ.out (by omega)); have HO4 := Lib.hid (own_but HOZ.out hb2 (by omega)); have HB4 := Lib.hid (HBZ.out.trans hb2); clear hK2 hb2; cases b)
            | ((with_reducible refine arm_load ⟨b6, 0, none⟩ (arr32 y) _ HX4.out.row Tryd.underlying26 HIy.out ?h1 ?h2 ?_); (case h1 => rfl); (case h2 => rfl))
            | ((with_reducible refine arm_slice1 26 i0 _ (arr32 y) Tryd.underlying49 hi0 hz0 (by rw [arr32_size y (by omega), hz1]) ?s1 ?s2 ?s3 ?_); (case s1 => rw [arr32_size y (by omega)]; omega); (case s2 => rw [arr32_size y (by omega)]; omega); (case s3 => rfl))
            | (at_builtin; refine wpList_append_own _ rfl _ _ 49 rfl w.heap.size 26 i0 _ 32 32 Tryd.underlying49 hi0 hz0 hz1 hz2 rfl (by decide) _ _ _ rfl (HO4.out.alloc _) ⟨w4.heap.size, 0, none⟩ 1 1 (cellsOf y) rfl (by rw [cellsOf_len (by omega)]) (cell_row_new _ _ _) (cellsOf_one _) (by unfold maxLen; omega) (by omega) (by simp; have := HB4.out.size; omega) ?_; intro v' w9 hown9 hgrow9 _
               have hb9 : Below w.heap.size w4 w9 := ((Below.refl _ w4).alloc HB4.out.size (.cells (arr32 y) 26)).grown hgrow9 (by simp; have := HB4.out.size; omega) (fun q hq => (HO4.out.lt q hq).1)
               have HO9 := Lib.hid hown9
               have HK9 := Lib.hid (HK4.out.below (hb9.mono hBw))
               have HB9 : Hid (But g w w9) := Lib.hid ⟨hb9.os.trans HB4.out.os, hb9.tape.trans HB4.out.tape, hb9.output.trans HB4.out.output, Nat.le_trans HB4.out.size hb9.size, fun q hq hne => (hb9.block q hq).trans (HB4.out.block q hq hne)⟩
               clear hown9 hgrow9 hb9))
          · go_roundw
            case rel => exact ⟨j + 1, _, L ++ [y], rfl, by omega, by go_num, by simp [hL], Lib.hid (fun l hl => by rcases List.mem_append.1 hl with h | h; exact HL.out l h; rw [List.mem_singleton.1 h]; exact ⟨hyl1, hyl2⟩), by rw [List.flatMap_append, List.flatMap_cons, List.flatMap_nil, List.append_nil]; exact HO9.out, HK9.out.mono (by omega), HB9.out⟩
            case measure => simp [intOf]; omega
          · go_upto_region 8 with (fail)
            change Code.wp _ (Code.region 8 (smOps 8) true) _ _ _
            refine wp_region_held (S := fun V => But g w V) (by kernel_rfl) ?_
            have hsz : (smOps 8).size = 10 := by kernel_rfl
            rw [hsz]
            clear hsz
            refine gen_world (P := fun W' => wpAnyH _ _ _ _ _ _ _ _ W') (I := fun V => Below w4.heap.size w4 V) _ (Below.refl _ w4).drew ?_
            rintro V5 hBV
            have HX5 := Lib.hid (HX4.out.below hBV HX4.out.lt)
            have HO5 := Lib.hid (own_below HO4.out hBV)
            have HB5 := Lib.hid (HB4.out.trans (But.of_below (b := g) hBV))
            have HK5 := Lib.hid (HK4.out.below (hBV.mono (Nat.le_trans hBw HB4.out.size)))
            clear hBV
            have hfr : Calls Tryd.prog 85 #[.pointer (some ⟨g, 0, none⟩), .int .i64 1, .int .i64 31] V5 fun e w' => ∃ v : Nat, e = .returned (.int .i64 (v : Int)) ∧ 1 ≤ v ∧ v ≤ 31 ∧ Kit w' g B (k + 40 * j + 34 + 1 + 1) ∧ But g V5 w' := from_any g B (k + 40 * j + 34 + 1) (by omega) 1 31 (by omega) (by omega) V5 HK5.out
            have HFr := Lib.hid hfr
            clear hfr
            refine wpAnyH_take (i := 0) (oi := ⟨some 28, _, _, _, _, _⟩) (v := ?_) rfl (by kernel_rfl) (by kernel_rfl) (by kernel_rfl) (fun _ _ _ h => h) (Or.inl ⟨by rfl, fun w' hw' => by go_simp; with_reducible rfl⟩) HB5.out ?_
            try simp only [Act.put, List.setIfInBounds_toArray, List.set_cons_succ, List.set_cons_zero]
            refine wpAnyH_take (i := 4) (oi := ⟨some 32, _, _, _, _, _⟩) (v := ?_) rfl (by kernel_rfl) (by kernel_rfl) (by kernel_rfl) (fun _ _ _ h => h) (Or.inl ⟨by rfl, fun w' hw' => by go_simp; with_reducible rfl⟩) HB5.out ?_
            try simp only [Act.put, List.setIfInBounds_toArray, List.set_cons_succ, List.set_cons_zero]
            refine wpAnyH_all (rs := [1]) (by kernel_rfl) (by simp) ?_
            intro i hi
            obtain rfl : i = 1 := by simpa using hi
            clear hi
            refine wpOp_step (o := ⟨some 29, _, _, _, _, _⟩) rfl (fun K' hK' => ?_)
            rw [if_pos (show Region.wanted _ _ = true from rfl)]
            go_simp
            (with_reducible refine HFr.out.mono ?_)
            rintro e w6 ⟨p, rfl, hp1, hp2, hKx, hbx⟩
            have HX6 := Lib.hid (hbx.has HX5.out (by omega))
            have HO6 := Lib.hid (own_but HO5.out hbx (by omega))
            have HB6 := Lib.hid (HB5.out.trans hbx)
            have HK6 := Lib.hid hKx
            clear hbx hKx
            have HLe := Lib.hid (less_any g B (k + 40 * j + 34 + 1 + 1) (by omega) 8 (by omega) w6 HK6.out)
            refine hK' _ _ ⟨HB6.out, ?_⟩
            clear hK' K'
            try simp only [Act.put, List.setIfInBounds_toArray, List.set_cons_succ, List.set_cons_zero]
            have hp3 : (p : Int) < 32 := by omega
            have hpb : p < 32 := by omega
            obtain ⟨z0, hz9⟩ : ∃ z0, z0 = y.getD p 0 := ⟨_, rfl⟩
            have hcy : (arr32 y)[p]? = some (.int .u8 (z0 : Int)) := by rw [hz9]; exact arr32_get y hyl1 p hpb
            have hz256 : z0 < 256 := by rw [hz9]; exact Sha.getD_lt hyl2 (by decide) _
            have cc6 : w6.cell? ⟨b6, p, none⟩ = some (.int .u8 (z0 : Int)) := (HX6.out.cell p).trans hcy
            have HCy := Lib.hid hcy
            clear hz9 hcy
            refine wpAnyH_take (i := 2) (oi := ⟨some 30, _, _, _, _, _⟩) (v := .pointer (some ⟨b6, p, none⟩)) rfl (by kernel_rfl) (by kernel_rfl) (by kernel_rfl) (fun _ _ _ h => h) (Or.inl ⟨by rfl, fun w' hw' => by go_simp⟩) HB6.out ?_
            try simp only [Act.put, List.setIfInBounds_toArray, List.set_cons_succ, List.set_cons_zero]
            refine wpAnyH_all (rs := [3, 5]) (by kernel_rfl) (by simp) ?_
            intro jj hjj
            have hj2 : jj = 3 ∨ jj = 5 := by simpa using hjj
            clear hjj
            rcases hj2 with rfl | rfl
            · refine wpOp_step (o := ⟨some 31, _, _, _, _, _⟩) rfl (fun K' hK' => ?_)
              rw [if_pos (show Region.wanted _ _ = true from rfl)]
              go_simp
              refine hK' _ _ ⟨HB6.out, ?_⟩
              clear hK' K'
              try simp only [Act.put, List.setIfInBounds_toArray, List.set_cons_succ, List.set_cons_zero]
              refine wpAnyH_all (rs := [5]) (by kernel_rfl) (by simp) ?_
              intro i hi
              obtain rfl : i = 5 := by simpa using hi
              clear hi
              refine wpOp_step (o := ⟨some 33, _, _, _, _, _⟩) rfl (fun K' hK' => ?_)
              rw [if_pos (show Region.wanted _ _ = true from rfl)]
              go_simp
              (with_reducible refine HLe.out.mono ?_)
              rintro e w7 ⟨q, rfl, hq0, hq1, _, hKx, hbx⟩
              obtain ⟨q, rfl⟩ := Int.eq_ofNat_of_zero_le hq0
              have hq8 : q < 8 := by have := hq1 (by omega); omega
              have HX7 := Lib.hid (hbx.has HX6.out (by omega))
              have HO7 := Lib.hid (own_but HO6.out hbx (by omega))
              have HB7 := Lib.hid (HB6.out.trans hbx)
              have HK7 := Lib.hid hKx
              clear hbx hKx
              have c7 : w7.cell? ⟨b6, p, none⟩ = some (.int .u8 (z0 : Int)) := (HX7.out.cell p).trans HCy.out
              have f7 := HX7.out.free p
              refine hK' _ _ ⟨HB7.out, ?_⟩
              clear hK' K'
              try simp only [Act.put, List.setIfInBounds_toArray, List.set_cons_succ, List.set_cons_zero]
              obtain ⟨z, hz, hzz⟩ := xor_byte z0 q hz256 hq8
              refine wpAnyH_take (i := 6) (oi := ⟨some 34, _, _, _, _, _⟩) (v := ?_) rfl (by kernel_rfl) (by kernel_rfl) (by kernel_rfl) (fun _ _ _ h => h) (Or.inl ⟨by rfl, fun w' hw' => by go_simp; with_reducible rfl⟩) HB7.out ?_
              try simp only [Act.put, List.setIfInBounds_toArray, List.set_cons_succ, List.set_cons_zero]
              refine wpAnyH_take (i := 7) (oi := ⟨some 35, _, _, _, _, _⟩) (v := .int .u8 (z : Int)) rfl (by kernel_rfl) (by kernel_rfl) (by kernel_rfl) (fun _ _ _ h => h) (Or.inl ⟨by rfl, fun w' hw' => by go_simp⟩) HB7.out ?_
              try simp only [Act.put, List.setIfInBounds_toArray, List.set_cons_succ, List.set_cons_zero]
              refine wpAnyH_take (i := 8) (oi := ⟨some 36, _, _, _, _, _⟩) (v := .pointer (some ⟨b6, p, none⟩)) rfl (by kernel_rfl) (by kernel_rfl) (by kernel_rfl) (fun _ _ _ h => h) (Or.inl ⟨by rfl, fun w' hw' => by go_simp⟩) HB7.out ?_
              try simp only [Act.put, List.setIfInBounds_toArray, List.set_cons_succ, List.set_cons_zero]
              refine wpAnyH_all (rs := [9]) (by kernel_rfl) (by simp) ?_
              intro i hi
              obtain rfl : i = 9 := by simpa using hi
              clear hi
              refine wpOp_step (o := ⟨none, _, _, _, _, _⟩) rfl (fun K' hK' => ?_)
              rw [if_pos (show Region.wanted _ _ = true from rfl)]
              go_simp
              refine hK' _ _ ⟨HB7.out.new hb6w _, ?_⟩
              clear hK' K'
              try simp only [Act.put, List.setIfInBounds_toArray, List.set_cons_succ, List.set_cons_zero]
              refine wpAnyH_done (by kernel_rfl) ?_ _
              have hyy : (y.set p z).length = 32 ∧ Sha.Bytes (y.set p z) := ⟨by rw [List.length_set, hyl1], fun v hv => (List.mem_or_eq_of_mem_set hv).elim (hyl2 v) (fun e => by rw [e]; exact hz)⟩
              refine gen_world (P := fun W => _) (I := fun Y => Kit Y g B (k + 40 * j + 38) ∧ Has Y b6 26 (arr32 (y.set p z)) ∧ Y.ownsRow w.heap.size 26 32 (.slice (some ⟨g6, 0, none⟩) j c6) j (L.flatMap cellsOf) ∧ But g w Y) _ ⟨(HK7.out.below ((Below.refl B w7).setCell hw1B _)).mono (by omega), (HX7.out.put p _).of_eq (arr32_setAt y hyl1 p z), ownsRow_setCell_other HO7.out (fun e => hne6 _ e rfl) _, HB7.out.new hb6w _⟩ ?_
              generalize y.set p z = t at hyy ⊢
              rintro w8 ⟨hK8, hX8, hO8, hB8⟩
              have HK8 := Lib.hid hK8
              have HX8 := Lib.hid hX8
              have HO8 := Lib.hid hO8
              have HB8 := Lib.hid hB8
              have hyt1 := hyy.1
              have hyt2 := hyy.2
              have HIt := Lib.hid (arr32_info t (by omega))
              clear hK8 hX8 hO8 hB8 hyy cc6 c7 f7
              go_wp2_with (first
                | ((with_reducible refine arm_load ⟨b6, 0, none⟩ (arr32 t) _ HX8.out.row Tryd.underlying26 HIt.out ?h1 ?h2 ?_); (case h1 => rfl); (case h2 => rfl))
                | ((with_reducible refine arm_slice1 26 i0 _ (arr32 t) Tryd.underlying49 hi0 hz0 (by rw [arr32_size t (by omega), hz1]) ?s1 ?s2 ?s3 ?_); (case s1 => rw [arr32_size t (by omega)]; omega); (case s2 => rw [arr32_size t (by omega)]; omega); (case s3 => rfl))
                | (at_builtin; refine wpList_append_own _ rfl _ _ 49 rfl w.heap.size 26 i0 _ 32 32 Tryd.underlying49 hi0 hz0 hz1 hz2 rfl (by decide) _ _ _ rfl (HO8.out.alloc _) ⟨w8.heap.size, 0, none⟩ 1 1 (cellsOf t) rfl (by rw [cellsOf_len (by omega)]) (cell_row_new _ _ _) (cellsOf_one _) (by unfold maxLen; omega) (by omega) (by simp; have := HB8.out.size; omega) ?_; intro v' w9 hown9 hgrow9 _
                   have hb9 : Below w.heap.size w8 w9 := ((Below.refl _ w8).alloc HB8.out.size (.cells (arr32 t) 26)).grown hgrow9 (by simp; have := HB8.out.size; omega) (fun q hq => (HO8.out.lt q hq).1)
                   have HO9 := Lib.hid hown9
                   have HK9 := Lib.hid (HK8.out.below (hb9.mono hBw))
                   have HB9 : Hid (But g w w9) := Lib.hid ⟨hb9.os.trans HB8.out.os, hb9.tape.trans HB8.out.tape, hb9.output.trans HB8.out.output, Nat.le_trans HB8.out.size hb9.size, fun q hq hne => (hb9.block q hq).trans (HB8.out.block q hq hne)⟩
                   clear hown9 hgrow9 hb9))
              go_roundw
              case rel => exact ⟨j + 1, _, L ++ [t], rfl, by omega, by go_num, by simp [hL], Lib.hid (fun l hl => by rcases List.mem_append.1 hl with h | h; exact HL.out l h; rw [List.mem_singleton.1 h]; exact ⟨hyt1, hyt2⟩), by rw [List.flatMap_append, List.flatMap_cons, List.flatMap_nil, List.append_nil]; exact HO9.out, HK9.out.mono (by omega), HB9.out⟩
              case measure => simp [intOf]; omega
            · refine wpOp_step (o := ⟨some 33, _, _, _, _, _⟩) rfl (fun K' hK' => ?_)
              rw [if_pos (show Region.wanted _ _ = true from rfl)]
              go_simp
              (with_reducible refine HLe.out.mono ?_)
              rintro e w7 ⟨q, rfl, hq0, hq1, _, hKx, hbx⟩
              obtain ⟨q, rfl⟩ := Int.eq_ofNat_of_zero_le hq0
              have hq8 : q < 8 := by have := hq1 (by omega); omega
              have HX7 := Lib.hid (hbx.has HX6.out (by omega))
              have HO7 := Lib.hid (own_but HO6.out hbx (by omega))
              have HB7 := Lib.hid (HB6.out.trans hbx)
              have HK7 := Lib.hid hKx
              clear hbx hKx
              have c7 : w7.cell? ⟨b6, p, none⟩ = some (.int .u8 (z0 : Int)) := (HX7.out.cell p).trans HCy.out
              have f7 := HX7.out.free p
              refine hK' _ _ ⟨HB7.out, ?_⟩
              clear hK' K'
              try simp only [Act.put, List.setIfInBounds_toArray, List.set_cons_succ, List.set_cons_zero]
              refine wpAnyH_take (i := 6) (oi := ⟨some 34, _, _, _, _, _⟩) (v := ?_) rfl (by kernel_rfl) (by kernel_rfl) (by kernel_rfl) (fun _ _ _ h => h) (Or.inl ⟨by rfl, fun w' hw' => by go_simp; with_reducible rfl⟩) HB7.out ?_
              try simp only [Act.put, List.setIfInBounds_toArray, List.set_cons_succ, List.set_cons_zero]
              refine wpAnyH_all (rs := [3]) (by kernel_rfl) (by simp) ?_
              intro i hi
              obtain rfl : i = 3 := by simpa using hi
              clear hi
              refine wpOp_step (o := ⟨some 31, _, _, _, _, _⟩) rfl (fun K' hK' => ?_)
              rw [if_pos (show Region.wanted _ _ = true from rfl)]
              go_simp
              refine hK' _ _ ⟨HB7.out, ?_⟩
              clear hK' K'
              try simp only [Act.put, List.setIfInBounds_toArray, List.set_cons_succ, List.set_cons_zero]
              obtain ⟨z, hz, hzz⟩ := xor_byte z0 q hz256 hq8
              refine wpAnyH_take (i := 7) (oi := ⟨some 35, _, _, _, _, _⟩) (v := .int .u8 (z : Int)) rfl (by kernel_rfl) (by kernel_rfl) (by kernel_rfl) (fun _ _ _ h => h) (Or.inl ⟨by rfl, fun w' hw' => by go_simp⟩) HB7.out ?_
              try simp only [Act.put, List.setIfInBounds_toArray, List.set_cons_succ, List.set_cons_zero]
              refine wpAnyH_take (i := 8) (oi := ⟨some 36, _, _, _, _, _⟩) (v := .pointer (some ⟨b6, p, none⟩)) rfl (by kernel_rfl) (by kernel_rfl) (by kernel_rfl) (fun _ _ _ h => h) (Or.inl ⟨by rfl, fun w' hw' => by go_simp⟩) HB7.out ?_
              try simp only [Act.put, List.setIfInBounds_toArray, List.set_cons_succ, List.set_cons_zero]
              refine wpAnyH_all (rs := [9]) (by kernel_rfl) (by simp) ?_
              intro i hi
              obtain rfl : i = 9 := by simpa using hi
              clear hi
              refine wpOp_step (o := ⟨none, _, _, _, _, _⟩) rfl (fun K' hK' => ?_)
              rw [if_pos (show Region.wanted _ _ = true from rfl)]
              go_simp
              refine hK' _ _ ⟨HB7.out.new hb6w _, ?_⟩
              clear hK' K'
              try simp only [Act.put, List.setIfInBounds_toArray, List.set_cons_succ, List.set_cons_zero]
              refine wpAnyH_done (by kernel_rfl) ?_ _
              have hyy : (y.set p z).length = 32 ∧ Sha.Bytes (y.set p z) := ⟨by rw [List.length_set, hyl1], fun v hv => (List.mem_or_eq_of_mem_set hv).elim (hyl2 v) (fun e => by rw [e]; exact hz)⟩
              refine gen_world (P := fun W => _) (I := fun Y => Kit Y g B (k + 40 * j + 38) ∧ Has Y b6 26 (arr32 (y.set p z)) ∧ Y.ownsRow w.heap.size 26 32 (.slice (some ⟨g6, 0, none⟩) j c6) j (L.flatMap cellsOf) ∧ But g w Y) _ ⟨(HK7.out.below ((Below.refl B w7).setCell hw1B _)).mono (by omega), (HX7.out.put p _).of_eq (arr32_setAt y hyl1 p z), ownsRow_setCell_other HO7.out (fun e => hne6 _ e rfl) _, HB7.out.new hb6w _⟩ ?_
              generalize y.set p z = t at hyy ⊢
              rintro w8 ⟨hK8, hX8, hO8, hB8⟩
              have HK8 := Lib.hid hK8
              have HX8 := Lib.hid hX8
              have HO8 := Lib.hid hO8
              have HB8 := Lib.hid hB8
              have hyt1 := hyy.1
              have hyt2 := hyy.2
              have HIt := Lib.hid (arr32_info t (by omega))
              clear hK8 hX8 hO8 hB8 hyy cc6 c7 f7
              go_wp2_with (first
                | ((with_reducible refine arm_load ⟨b6, 0, none⟩ (arr32 t) _ HX8.out.row Tryd.underlying26 HIt.out ?h1 ?h2 ?_); (case h1 => rfl); (case h2 => rfl))
                | ((with_reducible refine arm_slice1 26 i0 _ (arr32 t) Tryd.underlying49 hi0 hz0 (by rw [arr32_size t (by omega), hz1]) ?s1 ?s2 ?s3 ?_); (case s1 => rw [arr32_size t (by omega)]; omega); (case s2 => rw [arr32_size t (by omega)]; omega); (case s3 => rfl))
                | (at_builtin; refine wpList_append_own _ rfl _ _ 49 rfl w.heap.size 26 i0 _ 32 32 Tryd.underlying49 hi0 hz0 hz1 hz2 rfl (by decide) _ _ _ rfl (HO8.out.alloc _) ⟨w8.heap.size, 0, none⟩ 1 1 (cellsOf t) rfl (by rw [cellsOf_len (by omega)]) (cell_row_new _ _ _) (cellsOf_one _) (by unfold maxLen; omega) (by omega) (by simp; have := HB8.out.size; omega) ?_; intro v' w9 hown9 hgrow9 _
                   have hb9 : Below w.heap.size w8 w9 := ((Below.refl _ w8).alloc HB8.out.size (.cells (arr32 t) 26)).grown hgrow9 (by simp; have := HB8.out.size; omega) (fun q hq => (HO8.out.lt q hq).1)
                   have HO9 := Lib.hid hown9
                   have HK9 := Lib.hid (HK8.out.below (hb9.mono hBw))
                   have HB9 : Hid (But g w w9) := Lib.hid ⟨hb9.os.trans HB8.out.os, hb9.tape.trans HB8.out.tape, hb9.output.trans HB8.out.output, Nat.le_trans HB8.out.size hb9.size, fun q hq hne => (hb9.block q hq).trans (HB8.out.block q hq hne)⟩
                   clear hown9 hgrow9 hb9))
              go_roundw
              case rel => exact ⟨j + 1, _, L ++ [t], rfl, by omega, by go_num, by simp [hL], Lib.hid (fun l hl => by rcases List.mem_append.1 hl with h | h; exact HL.out l h; rw [List.mem_singleton.1 h]; exact ⟨hyt1, hyt2⟩), by rw [List.flatMap_append, List.flatMap_cons, List.flatMap_nil, List.append_nil]; exact HO9.out, HK9.out.mono (by omega), HB9.out⟩
              case measure => simp [intOf]; omega
    · obtain rfl : j = many := by omega
      have HO := Lib.hid hO
      have HB := Lib.hid hB
      have HKr := Lib.hid hKr
      clear hO hB hKr
      go_wp2
      go_ret
      exact ⟨_, L, rfl, hL, HL.out, HO.out, HKr.out, HB.out⟩
end Go.Proofs.YtffdkniahdekjaaDoor
end
section
namespace Go.Proofs.YtffdkniahdekjaaDoor
open Go.RowKit Go.Hoar
/-- The digest of a list. -/
def rootOf (ls : List (List Nat)) : List Nat := listOf (ls.length + 1) ls
theorem rootOf_len (ls : List (List Nat)) : (rootOf ls).length = 32 ∧ Sha.Bytes (rootOf ls) := listOf_len _ _
theorem listOf_fuel : ∀ (f g : Nat) (ls : List (List Nat)), ls.length < f → ls.length < g → ls.length ≤ 1000000 → listOf f ls = listOf g ls
  | 0, _, _, h, _, _ => absurd h (Nat.not_lt_zero _)
  | _ + 1, 0, _, _, h, _ => absurd h (Nat.not_lt_zero _)
  | f + 1, g + 1, [], _, _, _ => by rw [listOf, listOf]
  | f + 1, g + 1, [x], _, _, _ => by rw [listOf, listOf]
  | f + 1, g + 1, x :: y :: r, hf, hg, hb => by
    have hl : (x :: y :: r).length = r.length + 2 := rfl
    obtain ⟨_, b2, _⟩ := halfOf_bounds (n := r.length + 2) (by omega) (by omega)
    have b1 := halfOf_pos (r.length + 2)
    rw [listOf, listOf]
    generalize halfOf (r.length + 2) = p at *
    have h1 : ((x :: y :: r).take p).length = p := by rw [List.length_take]; omega
    have h2 : ((x :: y :: r).drop p).length = r.length + 2 - p := by rw [List.length_drop]; rfl
    rw [listOf_fuel f g _ (by omega) (by omega) (by omega), listOf_fuel f g ((x :: y :: r).drop p) (by omega) (by omega) (by omega)]
theorem rootOf_none : rootOf [] = Sha.sha [0] := by rw [rootOf, List.length_nil, listOf]
theorem rootOf_one (x : List Nat) : rootOf [x] = Sha.sha (1 :: x) := by rw [rootOf]; rfl
theorem rootOf_many (ls : List (List Nat)) (h2 : 2 ≤ ls.length) (hb : ls.length ≤ 1000000) : rootOf ls = Sha.sha (2 :: (rootOf (ls.take (halfOf ls.length)) ++ rootOf (ls.drop (halfOf ls.length)))) := by
  obtain ⟨_, b2, _⟩ := halfOf_bounds (n := ls.length) h2 (by omega)
  have b1 := halfOf_pos ls.length
  match ls, h2, hb, b2, b1 with
  | [], h2, _, _, _ => simp at h2
  | [_], h2, _, _, _ => simp at h2
  | x :: y :: r, _, hb, b2, b1 =>
    have hl : (x :: y :: r).length = r.length + 2 := rfl
    rw [rootOf, hl, listOf, rootOf, rootOf]
    rw [hl] at b2 b1
    generalize halfOf (r.length + 2) = p at *
    have h1 : ((x :: y :: r).take p).length = p := by rw [List.length_take]; omega
    have h2 : ((x :: y :: r).drop p).length = r.length + 2 - p := by rw [List.length_drop]; rfl
    rw [listOf_fuel (r.length + 2) (((x :: y :: r).take p).length + 1) _ (by omega) (by omega) (by omega), listOf_fuel (r.length + 2) (((x :: y :: r).drop p).length + 1) _ (by omega) (by omega) (by omega)]
/-- The greatest power of 2 below a number is the one that lies so. -/
theorem halfOf_is (n k : Nat) (h1 : 2 ^ k < n) (h2 : n ≤ 2 * 2 ^ k) (hb : n ≤ 1000000) : halfOf n = 2 ^ k := by
  have hp : 0 < 2 ^ k := Nat.two_pow_pos k
  obtain ⟨_, b2, b3⟩ := halfOf_bounds (n := n) (by omega) (by omega)
  obtain ⟨j, hj⟩ : ∃ j, halfOf n = 2 ^ j := ⟨_, rfl⟩
  rw [hj] at b2 b3 ⊢
  rcases Nat.lt_trichotomy j k with h | h | h
  · have : 2 ^ (j + 1) ≤ 2 ^ k := Nat.pow_le_pow_right (by decide) h
    rw [Nat.pow_succ] at this
    omega
  · rw [h]
  · have : 2 ^ (k + 1) ≤ 2 ^ j := Nat.pow_le_pow_right (by decide) h
    rw [Nat.pow_succ] at this
    omega
/-- The peaks of a list, from the greatest one on. -/
def peaksK : Nat → List (List Nat) → List (List Nat)
  | 0, _ => []
  | k + 1, ls => if 2 ^ k ≤ ls.length then rootOf (ls.take (2 ^ k)) :: peaksK k (ls.drop (2 ^ k)) else peaksK k ls
theorem peaksK_nil : ∀ k, peaksK k [] = []
  | 0 => rfl
  | k + 1 => by
    have hp : 0 < 2 ^ k := Nat.two_pow_pos k
    rw [peaksK, if_neg (by rw [List.length_nil]; omega), peaksK_nil k]
theorem peaksK_ok : ∀ (k : Nat) (ls : List (List Nat)), SumsOk (peaksK k ls)
  | 0, _ => fun _ h => absurd h List.not_mem_nil
  | k + 1, ls => by
    rw [peaksK]
    split
    · intro l hl
      rcases List.mem_cons.1 hl with rfl | hl
      · exact rootOf_len _
      · exact peaksK_ok k _ l hl
    · exact peaksK_ok k ls
theorem ones_top (k r : Nat) (hr : r < 2 ^ k) (hk : k < 31) : ones (2 ^ k + r) = 1 + ones r := by
  induction k generalizing r with
  | zero =>
    obtain rfl : r = 0 := by simpa using hr
    decide
  | succ k ih =>
    have h1 : 2 ^ (k + 1) ≤ 2 ^ 31 := Nat.pow_le_pow_right (by decide) (by omega)
    rw [Nat.pow_succ] at *
    rw [ones_step (2 ^ k * 2 + r) (by omega), ones_step r (by omega), show (2 ^ k * 2 + r) % 2 = r % 2 by omega, show (2 ^ k * 2 + r) / 2 = 2 ^ k + r / 2 by omega, ih (r / 2) (by omega) (by omega)]
    omega
theorem ones_zero : ones 0 = 0 := onesF_zero 32
theorem peaksK_len : ∀ (k : Nat) (ls : List (List Nat)), k < 31 → ls.length < 2 ^ k → (peaksK k ls).length = ones ls.length
  | 0, ls, _, h => by
    have h0 : ls.length = 0 := by simpa using h
    rw [h0, ones_zero]; rfl
  | k + 1, ls, hk, h => by
    rw [Nat.pow_succ] at h
    rw [peaksK]
    split
    · next hp =>
      have hd : (ls.drop (2 ^ k)).length = ls.length - 2 ^ k := List.length_drop
      rw [List.length_cons, peaksK_len k _ (by omega) (by omega), hd]
      have := ones_top k (ls.length - 2 ^ k) (by omega) (by omega)
      rw [show 2 ^ k + (ls.length - 2 ^ k) = ls.length by omega] at this
      omega
    · exact peaksK_len k ls (by omega) (by omega)
/-- What the peaks are together. -/
def topOf : List (List Nat) → List Nat
  | [] => Sha.sha [0]
  | [p] => p
  | p :: q :: r => Sha.sha (2 :: (p ++ topOf (q :: r)))
theorem topOf_cons (p : List Nat) (l : List (List Nat)) (h : l ≠ []) : topOf (p :: l) = Sha.sha (2 :: (p ++ topOf l)) := by
  cases l with
  | nil => exact absurd rfl h
  | cons q r => rfl
theorem peaksK_ne : ∀ (k : Nat) (ls : List (List Nat)), ls.length < 2 ^ k → ls ≠ [] → peaksK k ls ≠ []
  | 0, ls, h, hn => absurd (List.length_eq_zero_iff.1 (by simpa using h)) hn
  | k + 1, ls, h, hn => by
    rw [peaksK]
    split
    · exact List.cons_ne_nil _ _
    · exact peaksK_ne k ls (by omega) hn
theorem top_peaks : ∀ (k : Nat) (ls : List (List Nat)), k < 19 → ls.length < 2 ^ k → topOf (peaksK k ls) = rootOf ls
  | 0, ls, _, h => by
    obtain rfl : ls = [] := List.length_eq_zero_iff.1 (by simpa using h)
    rw [rootOf_none]; rfl
  | k + 1, ls, hk, h => by
    have hpw : 2 ^ k ≤ 2 ^ 17 := Nat.pow_le_pow_right (by decide) (by omega)
    rw [Nat.pow_succ] at h
    rw [peaksK]
    split
    · next hp =>
      have hd : (ls.drop (2 ^ k)).length = ls.length - 2 ^ k := List.length_drop
      by_cases he : ls.length = 2 ^ k
      · have e1 : ls.drop (2 ^ k) = [] := List.length_eq_zero_iff.1 (by omega)
        have e2 : ls.take (2 ^ k) = ls := List.take_of_length_le (by omega)
        rw [e1, e2, peaksK_nil]
        rfl
      · have hne : ls.drop (2 ^ k) ≠ [] := fun e => by rw [e, List.length_nil] at hd; omega
        rw [topOf_cons _ _ (peaksK_ne k _ (by omega) hne), top_peaks k _ (by omega) (by omega), rootOf_many ls (by have := Nat.two_pow_pos k; omega) (by omega), halfOf_is ls.length k (by omega) (by omega) (by omega)]
    · exact top_peaks k ls (by omega) (by omega)
theorem getLastD_cons {P : List Nat} {ps : List (List Nat)} (h : ps ≠ []) : (P :: ps).getLastD [] = ps.getLastD [] ∧ (P :: ps).dropLast = P :: ps.dropLast := by
  cases ps with
  | nil => exact absurd rfl h
  | cons q r => exact ⟨by simp, rfl⟩
theorem grow_under (P : List Nat) : ∀ (f k r : Nat) (ps : List (List Nat)) (pk : List Nat), r + 1 < 2 ^ k → k < 31 → ps.length = ones r → growOf f (2 ^ k + r) (P :: ps) pk = P :: growOf f r ps pk
  | 0, k, r, ps, pk, _, _, _ => by rw [growOf, growOf]; rfl
  | f + 1, 0, r, ps, pk, h, _, _ => by simp at h
  | f + 1, k + 1, r, ps, pk, h, hk, hl => by
    have hpw : 2 ^ (k + 1) ≤ 2 ^ 31 := Nat.pow_le_pow_right (by decide) (by omega)
    rw [Nat.pow_succ] at *
    rw [growOf, growOf, show (2 ^ k * 2 + r) % 2 = r % 2 by omega]
    split
    · next ho =>
      rw [ones_step r (by omega)] at hl
      have hne : ps ≠ [] := fun e => by rw [e, List.length_nil] at hl; omega
      obtain ⟨e1, e2⟩ := getLastD_cons (P := P) hne
      rw [e1, e2, show (2 ^ k * 2 + r) / 2 = 2 ^ k + r / 2 by omega]
      exact grow_under P f k (r / 2) _ _ (by omega) (by omega) (by rw [List.length_dropLast]; omega)
    · rfl
theorem grow_over (P : List Nat) : ∀ (k f r : Nat) (ps : List (List Nat)) (pk y : List Nat), r + 1 = 2 ^ k → k < 31 → k < f → ps.length = ones r → growOf f r ps pk = [y] → growOf f (2 ^ k + r) (P :: ps) pk = [Sha.sha (2 :: (P ++ y))]
  | _, 0, _, _, _, _, _, _, h, _, _ => absurd h (Nat.not_lt_zero _)
  | 0, f + 1, r, ps, pk, y, h, _, _, hl, hg => by
    obtain rfl : r = 0 := by simpa using h
    rw [ones_zero] at hl
    obtain rfl := List.length_eq_zero_iff.1 hl
    rw [growOf, if_neg (by decide), List.nil_append] at hg
    obtain rfl : pk = y := by simpa using hg
    rw [growOf, if_pos (by decide)]
    cases f with
    | zero => rw [growOf]; rfl
    | succ f => rw [growOf, if_neg (by decide)]; rfl
  | k + 1, f + 1, r, ps, pk, y, h, hk, hf, hl, hg => by
    have hpw : 2 ^ (k + 1) ≤ 2 ^ 31 := Nat.pow_le_pow_right (by decide) (by omega)
    have h0 := Nat.two_pow_pos k
    rw [Nat.pow_succ] at *
    rw [ones_step r (by omega)] at hl
    have hne : ps ≠ [] := fun e => by rw [e, List.length_nil] at hl; omega
    obtain ⟨e1, e2⟩ := getLastD_cons (P := P) hne
    rw [growOf, if_pos (by omega)] at hg
    rw [growOf, if_pos (by omega), e1, e2, show (2 ^ k * 2 + r) / 2 = 2 ^ k + r / 2 by omega]
    exact grow_over P k f (r / 2) _ _ y (by omega) (by omega) (by omega) (by rw [List.length_dropLast]; omega) hg
/-- A tree that grows by one digest. -/
theorem grow_peaks (x : List Nat) (f : Nat) : ∀ (k : Nat) (ls : List (List Nat)), k < 19 → k < f →
    (ls.length + 1 < 2 ^ k → growOf f ls.length (peaksK k ls) (Sha.sha (1 :: x)) = peaksK k (ls ++ [x])) ∧
    (ls.length + 1 = 2 ^ k → growOf f ls.length (peaksK k ls) (Sha.sha (1 :: x)) = [rootOf (ls ++ [x])])
  | 0, ls, _, hf => by
    refine ⟨fun h => by simp at h, fun h => ?_⟩
    obtain rfl : ls = [] := List.length_eq_zero_iff.1 (by simpa using h)
    rw [List.nil_append, rootOf_one]
    cases f with
    | zero => exact absurd hf (Nat.not_lt_zero _)
    | succ f => rw [List.length_nil, growOf, if_neg (by decide)]; rfl
  | k + 1, ls, hk, hf => by
    have hpw : 2 ^ k ≤ 2 ^ 18 := Nat.pow_le_pow_right (by decide) (by omega)
    have h0 := Nat.two_pow_pos k
    have hl1 : (ls ++ [x]).length = ls.length + 1 := by simp
    rw [Nat.pow_succ]
    by_cases hp : 2 ^ k ≤ ls.length
    · have hd : (ls.drop (2 ^ k)).length = ls.length - 2 ^ k := List.length_drop
      have e1 : (ls ++ [x]).take (2 ^ k) = ls.take (2 ^ k) := List.take_append_of_le_length hp
      have e2 : (ls ++ [x]).drop (2 ^ k) = ls.drop (2 ^ k) ++ [x] := List.drop_append_of_le_length hp
      obtain ⟨i1, i2⟩ := grow_peaks x f k (ls.drop (2 ^ k)) (by omega) (by omega)
      rw [hd] at i1 i2
      have el : ls.length = 2 ^ k + (ls.length - 2 ^ k) := by omega
      refine ⟨fun h => ?_, fun h => ?_⟩
      · rw [peaksK, if_pos hp, peaksK, if_pos (by omega), e1, e2, ← i1 (by omega)]
        have := grow_under (rootOf (ls.take (2 ^ k))) f k (ls.length - 2 ^ k) (peaksK k (ls.drop (2 ^ k))) (Sha.sha (1 :: x)) (by omega) (by omega) (by rw [peaksK_len k _ (by omega) (by omega), hd])
        rwa [← el] at this
      · rw [peaksK, if_pos hp, rootOf_many (ls ++ [x]) (by omega) (by omega), halfOf_is (ls ++ [x]).length k (by omega) (by omega) (by omega), e1, e2]
        have := grow_over (rootOf (ls.take (2 ^ k))) k f (ls.length - 2 ^ k) (peaksK k (ls.drop (2 ^ k))) (Sha.sha (1 :: x)) _ (by omega) (by omega) (by omega) (by rw [peaksK_len k _ (by omega) (by omega), hd]) (i2 (by omega))
        rwa [← el] at this
    · obtain ⟨i1, i2⟩ := grow_peaks x f k ls (by omega) (by omega)
      refine ⟨fun h => ?_, fun h => by omega⟩
      rw [peaksK, if_neg hp]
      by_cases hq : ls.length + 1 = 2 ^ k
      · have e1 : (ls ++ [x]).take (2 ^ k) = ls ++ [x] := List.take_of_length_le (by omega)
        have e2 : (ls ++ [x]).drop (2 ^ k) = [] := List.drop_eq_nil_of_le (by omega)
        rw [peaksK, if_pos (by omega), e1, e2, peaksK_nil]
        exact i2 hq
      · rw [peaksK, if_neg (by omega)]
        exact i1 (by omega)
/-- The lists of bytes that are made for the digest of a list. -/
def madeOf : Nat → List (List Nat) → List (List Nat)
  | 0, _ => []
  | f + 1, ls =>
    match ls with
    | [] => [[0]]
    | [x] => [1 :: x]
    | x :: y :: r => ((2 :: (rootOf ((x :: y :: r).take (halfOf (r.length + 2))) ++ rootOf ((x :: y :: r).drop (halfOf (r.length + 2))))) :: madeOf f ((x :: y :: r).take (halfOf (r.length + 2)))) ++ madeOf f ((x :: y :: r).drop (halfOf (r.length + 2)))
theorem madeOf_many (f : Nat) (ls : List (List Nat)) (h2 : 2 ≤ ls.length) : madeOf (f + 1) ls = ((2 :: (rootOf (ls.take (halfOf ls.length)) ++ rootOf (ls.drop (halfOf ls.length)))) :: madeOf f (ls.take (halfOf ls.length))) ++ madeOf f (ls.drop (halfOf ls.length)) := by
  match ls, h2 with
  | [], h2 => simp at h2
  | [_], h2 => simp at h2
  | x :: y :: r, _ => rfl
/-- The first one of them. -/
def headOf (ls : List (List Nat)) : List Nat :=
  match ls with
  | [] => [0]
  | [x] => 1 :: x
  | x :: y :: r => 2 :: (rootOf ((x :: y :: r).take (halfOf (r.length + 2))) ++ rootOf ((x :: y :: r).drop (halfOf (r.length + 2))))
theorem headOf_many (ls : List (List Nat)) (h2 : 2 ≤ ls.length) : headOf ls = 2 :: (rootOf (ls.take (halfOf ls.length)) ++ rootOf (ls.drop (halfOf ls.length))) := by
  match ls, h2 with
  | [], h2 => simp at h2
  | [_], h2 => simp at h2
  | x :: y :: r, _ => rfl
theorem headOf_sha (ls : List (List Nat)) (hb : ls.length ≤ 1000000) : Sha.sha (headOf ls) = rootOf ls := by
  match ls, hb with
  | [], _ => rw [rootOf_none]; rfl
  | [x], _ => rw [rootOf_one]; rfl
  | x :: y :: r, hb =>
    have h2 : 2 ≤ (x :: y :: r).length := by simp
    rw [rootOf_many _ h2 hb, headOf_many _ h2]
theorem headOf_mem (f : Nat) (ls : List (List Nat)) : headOf ls ∈ madeOf (f + 1) ls := by
  match ls with
  | [] => exact List.mem_singleton.2 rfl
  | [x] => exact List.mem_singleton.2 rfl
  | x :: y :: r =>
    have h2 : 2 ≤ (x :: y :: r).length := by simp
    rw [madeOf_many f _ h2, headOf_many _ h2]
    exact List.mem_append_left _ List.mem_cons_self
/-- Two unlike lists with one digest: among what is made for them are two unlike lists of bytes with one digest. -/
theorem clash_of : ∀ (f : Nat) (l m : List (List Nat)), l.length < f → m.length < f → l.length ≤ 1000000 → m.length ≤ 1000000 → l ≠ m → rootOf l = rootOf m → ∃ b ∈ madeOf f l, ∃ d ∈ madeOf f m, b ≠ d ∧ Sha.sha b = Sha.sha d
  | 0, _, _, h, _, _, _, _, _ => absurd h (Nat.not_lt_zero _)
  | f + 1, l, m, hl, hm, bl, bm, hne, he => by
    by_cases hh : headOf l = headOf m
    · rcases Nat.lt_or_ge l.length 2 with h1 | h1
      · match l, h1, hne, hh with
        | [], _, hne, hh =>
          match m, hne, hh with
          | [], hne, _ => exact absurd rfl hne
          | [y], _, hh => cases hh
          | y :: z :: r, _, hh => cases hh
        | [x], _, hne, hh =>
          match m, hne, hh with
          | [], _, hh => cases hh
          | [y], hne, hh =>
            injection hh with _ hh
            exact absurd (by rw [hh]) hne
          | y :: z :: r, _, hh => cases hh
      · rcases Nat.lt_or_ge m.length 2 with h2 | h2
        · match m, h2, hh with
          | [], _, hh => rw [headOf_many l h1] at hh; cases hh
          | [y], _, hh => rw [headOf_many l h1] at hh; cases hh
        · rw [headOf_many l h1, headOf_many m h2] at hh
          obtain ⟨_, b2, _⟩ := halfOf_bounds (n := l.length) h1 (by omega)
          obtain ⟨_, c2, _⟩ := halfOf_bounds (n := m.length) h2 (by omega)
          have b1 := halfOf_pos l.length
          have c1 := halfOf_pos m.length
          rw [madeOf_many f l h1, madeOf_many f m h2]
          generalize halfOf l.length = p at *
          generalize halfOf m.length = q at *
          injection hh with _ hh
          obtain ⟨e1, e2⟩ := List.append_inj hh (by rw [(rootOf_len _).1, (rootOf_len _).1])
          have l1 : (l.take p).length = p := by rw [List.length_take]; omega
          have l2 : (l.drop p).length = l.length - p := List.length_drop
          have m1 : (m.take q).length = q := by rw [List.length_take]; omega
          have m2 : (m.drop q).length = m.length - q := List.length_drop
          by_cases ht : l.take p = m.take q
          · have hd : l.drop p ≠ m.drop q := fun e => hne (by rw [← List.take_append_drop p l, ← List.take_append_drop q m, ht, e])
            obtain ⟨b, hb, d, hdm, h3, h4⟩ := clash_of f _ _ (by omega) (by omega) (by omega) (by omega) hd e2
            exact ⟨b, List.mem_append_right _ hb, d, List.mem_append_right _ hdm, h3, h4⟩
          · obtain ⟨b, hb, d, hdm, h3, h4⟩ := clash_of f _ _ (by omega) (by omega) (by omega) (by omega) ht e1
            exact ⟨b, List.mem_append_left _ (List.mem_cons_of_mem _ hb), d, List.mem_append_left _ (List.mem_cons_of_mem _ hdm), h3, h4⟩
    · exact ⟨headOf l, headOf_mem f l, headOf m, headOf_mem f m, hh, by rw [headOf_sha l bl, headOf_sha m bm, he]⟩
end Go.Proofs.YtffdkniahdekjaaDoor
end
section
namespace Go.Proofs.YtffdkniahdekjaaDoor
open Go.RowKit Go.Hoar
set_option maxRecDepth 100000 in
set_option maxHeartbeats 1000000 in
theorem treeGrow_wrong (a : Option Addr) (n c : Nat) (many : Int) (x : Array Value) (w : World) (h : ¬ TreeOk n many) :
    Calls Tryd.prog 38 #[.agg #[.int .i64 many, .slice a n c], .agg x] w fun e w' => e = .returned (.tuple #[.agg #[.int .i64 0, .slice none 0 0], .int .i64 14]) ∧ Below w.heap.size w w' := by
  have hk : ∀ V : World, Calls Tryd.prog 74 #[.agg #[.int .i64 many, .slice a n c]] V fun e w' => e = .returned (.bool false) ∧ Below V.heap.size V w' := fun V => by
    have := treeOk_any a n c many V
    rwa [decide_eq_false h] at this
  have HK := Lib.hid hk
  have HI : Hid ((Tryd.prog.info? 57).map (·.size) = some (#[.int .i64 many, .slice a n c] : Array Value).size) := Lib.hid treeInfo
  have HI0 : Hid ((Tryd.prog.info? 57).map (·.size) = some (#[.int .i64 0, .slice none 0 0] : Array Value).size) := Lib.hid treeInfo
  have HO : Hid ((#[.int .i64 0, .slice none 0 0] : Array Value).all (·.oneCell') = true) := Lib.hid (by simp [Value.oneCell'])
  clear hk h
  go_enter Tryd.func38, Tryd.ntmps38
  go_upto_region 1 with (fail)
  refine gen_world (P := fun W => Code.wp _ _ _ _ W) (I := fun W => Below w.heap.size w W ∧ Has W w.heap.size 57 #[.int .i64 many, .slice a n c] ∧ Has W (w.heap.size + 1 + 1) 57 #[.int .i64 0, .slice none 0 0]) _ ⟨(((Below.refl _ w).alloc (Nat.le_refl _) _).alloc (by simp) _).alloc (by simp; omega) _, ((Has.fresh_at _ _ _ _ rfl).alloc _).alloc _, Has.fresh_at _ _ _ _ (by simp)⟩ ?_
  rintro W ⟨hB, hT, hR⟩
  have HB := Lib.hid hB
  have HT := Lib.hid hT
  have HR := Lib.hid hR
  clear hB hT hR
  go_wp2_with (first
    | ((with_reducible refine arm_load ⟨w.heap.size, 0, none⟩ #[.int .i64 many, .slice a n c] _ HT.out.row Tryd.underlying57 HI.out ?h1 ?h2 ?_); (case h1 => rfl); (case h2 => rfl))
    | (go_at_call 74; (with_reducible refine (HK.out _).mono ?_); rintro e w1 ⟨rfl, hb1⟩; have HB1 := Lib.hid (HB.out.trans (hb1.mono HB.out.size)); have HR1 := Lib.hid (HR.out.below hb1 HR.out.lt); clear hb1)
    | ((with_reducible refine arm_store (w.heap.size + 1 + 1) #[.int .i64 0, .slice none 0 0] _ _ HR1.out rfl HI0.out HO.out ?h5 ?h6 ?_); (case h5 => rfl); (case h6 => rfl)))
  exact bodyPost_ret (results_row_tmp rfl _ _ (w.heap.size + 1 + 1) 57 #[.int .i64 0, .slice none 0 0] (0, 0) _ rfl HR1.out.setRow rfl Tryd.underlying57 HI0.out) rfl ⟨rfl, below_setRow HB1.out (by omega) _⟩
set_option maxRecDepth 100000 in
set_option maxHeartbeats 1000000 in
theorem treeGrow_full (a : Option Addr) (c : Nat) (x : Array Value) (w : World) :
    Calls Tryd.prog 38 #[.agg #[.int .i64 1073741824, .slice a 1 c], .agg x] w fun e w' => e = .returned (.tuple #[.agg #[.int .i64 0, .slice none 0 0], .int .i64 12]) ∧ Below w.heap.size w w' := by
  have hk : ∀ V : World, Calls Tryd.prog 74 #[.agg #[.int .i64 1073741824, .slice a 1 c]] V fun e w' => e = .returned (.bool true) ∧ Below V.heap.size V w' := fun V => by
    have := treeOk_any a 1 c 1073741824 V
    rwa [show decide (TreeOk 1 1073741824) = true by decide +kernel] at this
  have HK := Lib.hid hk
  have HI : Hid ((Tryd.prog.info? 57).map (·.size) = some (#[.int .i64 1073741824, .slice a 1 c] : Array Value).size) := Lib.hid treeInfo
  have HI0 : Hid ((Tryd.prog.info? 57).map (·.size) = some (#[.int .i64 0, .slice none 0 0] : Array Value).size) := Lib.hid treeInfo
  have HO : Hid ((#[.int .i64 0, .slice none 0 0] : Array Value).all (·.oneCell') = true) := Lib.hid (by simp [Value.oneCell'])
  clear hk
  go_enter Tryd.func38, Tryd.ntmps38
  go_upto_region 1 with (fail)
  refine gen_world (P := fun W => Code.wp _ _ _ _ W) (I := fun W => Below w.heap.size w W ∧ Has W w.heap.size 57 #[.int .i64 1073741824, .slice a 1 c] ∧ Has W (w.heap.size + 1 + 1) 57 #[.int .i64 0, .slice none 0 0]) _ ⟨(((Below.refl _ w).alloc (Nat.le_refl _) _).alloc (by simp) _).alloc (by simp; omega) _, ((Has.fresh_at _ _ _ _ rfl).alloc _).alloc _, Has.fresh_at _ _ _ _ (by simp)⟩ ?_
  rintro W ⟨hB, hT, hR⟩
  have HB := Lib.hid hB
  have HT := Lib.hid hT
  have HR := Lib.hid hR
  clear hB hT hR
  go_upto_region 3 with (first
    | ((with_reducible refine arm_load ⟨w.heap.size, 0, none⟩ #[.int .i64 1073741824, .slice a 1 c] _ HT.out.row Tryd.underlying57 HI.out ?h1 ?h2 ?_); (case h1 => rfl); (case h2 => rfl))
    | (go_at_call 74; (with_reducible refine (HK.out _).mono ?_); rintro e w1 ⟨rfl, hb1⟩; have HB1 := Lib.hid (HB.out.trans (hb1.mono HB.out.size)); have HR1 := Lib.hid (HR.out.below hb1 HR.out.lt); have t0 : w1.cell? ⟨w.heap.size, 0, none⟩ = some (.int .i64 1073741824) := (hb1.cell HT.out.lt).trans (HT.out.cell 0); clear hb1))
  go_wp2_with (first
    | ((with_reducible refine arm_store (w.heap.size + 1 + 1) #[.int .i64 0, .slice none 0 0] _ _ HR1.out rfl HI0.out HO.out ?h5 ?h6 ?_); (case h5 => rfl); (case h6 => rfl)))
  exact bodyPost_ret (results_row_tmp rfl _ _ (w.heap.size + 1 + 1) 57 #[.int .i64 0, .slice none 0 0] (0, 0) _ rfl HR1.out.setRow rfl Tryd.underlying57 HI0.out) rfl ⟨rfl, below_setRow HB1.out (by omega) _⟩
end Go.Proofs.YtffdkniahdekjaaDoor
end
section
namespace Go.Proofs.YtffdkniahdekjaaDoor
open Go.RowKit Go.Hoar
set_option maxHeartbeats 1000000 in
theorem refPow_any (n : Nat) (hn : n < 4294967296) (w : World) :
    Calls Tryd.prog 75 #[.int .i64 (n : Int)] w fun e w' => e = .returned (.int .i64 ((ones n : Nat) : Int)) ∧ w = w' := by
  have hle : ones n ≤ 32 := onesF_le _ _
  generalize hon : ones n = o at hle
  have HO := Lib.hid hon
  clear hon
  go_enter Tryd.func75, Tryd.ntmps75
  go_wp2
  go_loop [0, 3] (fun v u => ∃ m s f : Nat, v = .int .i64 (m : Int) ∧ u = .int .i64 (s : Int) ∧ m < 4294967296 ∧ s ≤ 32 ∧ Hid (m < 2 ^ f ∧ s + onesF f m = o)) (fun v _ => (intOf v).toNat)
  case atStart => exact ⟨n, 0, 32, rfl, rfl, hn, by omega, Lib.hid ⟨hn, by rw [Nat.zero_add]; exact HO.out⟩⟩
  case round =>
    obtain ⟨m, s, f, rfl, rfl, hm, hs, hrest⟩ := hrel
    by_cases h0 : 0 < m
    · have h0i : (0 : Int) < m := by omega
      have hstep : Hid (∃ g, m / 2 < 2 ^ g ∧ s + m % 2 + onesF g (m / 2) = o ∧ s + m % 2 ≤ 32) := Lib.hid (by
        obtain ⟨h1, h2⟩ := hrest.out
        cases f with
        | zero => simp at h1; omega
        | succ g =>
          rw [onesF] at h2
          exact ⟨g, by rw [Nat.pow_succ] at h1; omega, by omega, by omega⟩)
      clear hrest
      go_wp2
      go_round
      case rel =>
        obtain ⟨g, h1, h2, h3⟩ := hstep.out
        exact ⟨m / 2, s + m % 2, g, by go_num, by go_num, by omega, h3, Lib.hid ⟨h1, h2⟩⟩
      case measure => simp [intOf]; omega
    · have h0i : ¬ (0 : Int) < m := by omega
      have hz : m = 0 := by omega
      have HE : Hid (s = o) := Lib.hid (by
        have := hrest.out.2
        rw [hz, onesF_zero] at this
        omega)
      clear hrest
      subst hz
      go_wp2
      go_ret
      exact ⟨by rw [HE.out]; exact Eq.refl _, rfl⟩
end Go.Proofs.YtffdkniahdekjaaDoor
end
section
namespace Go.Proofs.YtffdkniahdekjaaDoor
open Go.RowKit Go.Hoar
noncomputable def rootOps (k : Nat) : Array Oper := (Tryd.f41.body.bind (opsAt k)).getD #[]
/-- What the peaks behind a place make of the last one. -/
def accOf (q : List (List Nat)) (last : List Nat) (k : Nat) : List Nat := (q.drop k).foldr (fun p r => Sha.sha (2 :: (p ++ r))) last
theorem accOf_end (q : List (List Nat)) (last : List Nat) : accOf q last q.length = last := by rw [accOf, List.drop_length]; rfl
theorem accOf_step (q : List (List Nat)) (last p : List Nat) (j : Nat) (h : q[j]? = some p) : accOf q last j = Sha.sha (2 :: (p ++ accOf q last (j + 1))) := by
  rw [accOf, drop_at h, List.foldr_cons]; rfl
theorem accOf_len (q : List (List Nat)) (last : List Nat) (hl : last.length = 32 ∧ Sha.Bytes last) (k : Nat) : (accOf q last k).length = 32 ∧ Sha.Bytes (accOf q last k) := by
  rw [accOf]
  cases q.drop k with
  | nil => exact hl
  | cons p r => exact sha_bytes _
theorem onesF_pos : ∀ f x : Nat, 0 < x → x < 2 ^ f → 0 < onesF f x
  | 0, x, h, hx => by simp at hx; omega
  | f + 1, x, h, hx => by
    rw [onesF]
    by_cases h2 : x % 2 = 1
    · omega
    · have := onesF_pos f (x / 2) (by omega) (by rw [Nat.pow_succ] at hx; omega)
      omega
theorem ones_pos {x : Nat} (h : 0 < x) (hx : x < 4294967296) : 0 < ones x := onesF_pos 32 x h hx
set_option maxRecDepth 100000 in
set_option maxHeartbeats 1000000 in
theorem refRoot_wrong (a : Option Addr) (n c : Nat) (many : Int) (_hn : n ≤ 1000000) (w : World) (h : ¬ TreeOk n many) :
    Calls Tryd.prog 41 #[.int .i64 many, .slice a n c] w fun e w' => e = .returned (.tuple #[.agg (arr32 []), .int .i64 14]) ∧ Below w.heap.size w w' := by
  have hz : arr32 [] = zero32 := rfl
  rw [hz]
  have HIO := Lib.hid (arr32_info [] (by simp))
  rw [hz] at HIO
  have HO : Hid (zero32.all (·.oneCell') = true) := Lib.hid (by rw [← hz]; exact arr32_one _)
  clear hz
  by_cases g0 : 0 ≤ many
  · by_cases g1 : many ≤ 1073741824
    · obtain ⟨m, rfl⟩ := Int.eq_ofNat_of_zero_le g0
      have g2 : n ≠ ones m := fun e => h ⟨g0, g1, by rw [Int.toNat_natCast]; exact e⟩
      have HP := Lib.hid fun V : World => refPow_any m (by omega) V
      have hle : ones m ≤ 32 := onesF_le _ _
      generalize ones m = o at g2 HP hle
      have hd : ((n : Int) != (o : Int)) = true := by rw [bne_iff_ne]; omega
      have k0 : ¬ (m : Int) < 0 := by omega
      have k1 : ¬ (1073741824 : Int) < (m : Int) := by omega
      clear h g2
      go_enter Tryd.func41, Tryd.ntmps41
      go_upto_region 1 with (fail)
      refine gen_world (P := fun W => Code.wp _ _ _ _ W) (I := fun W => Below w.heap.size w W ∧ Has W w.heap.size 26 zero32) _ ⟨(Below.refl _ w).alloc (Nat.le_refl _) _, fresh_sum w⟩ ?_
      rintro W ⟨hB, hR⟩
      have HB := Lib.hid hB
      have HR := Lib.hid hR
      clear hB hR
      go_wp2_with (first
        | (go_at_call 75; (with_reducible refine (HP.out _).mono ?_); rintro e w1 ⟨rfl, rfl⟩)
        | ((with_reducible refine arm_store w.heap.size zero32 _ _ HR.out rfl HIO.out HO.out ?h5 ?h6 ?_); (case h5 => rfl); (case h6 => rfl)))
      exact bodyPost_ret (results_row_tmp rfl _ _ w.heap.size 26 zero32 (0, 0) _ rfl HR.out.setRow rfl Tryd.underlying26 HIO.out) rfl ⟨rfl, below_setRow HB.out (Nat.le_refl _) _⟩
    · have k0 : ¬ many < 0 := by omega
      have k1 : (1073741824 : Int) < many := by omega
      clear h
      go_enter Tryd.func41, Tryd.ntmps41
      go_upto_region 1 with (fail)
      refine gen_world (P := fun W => Code.wp _ _ _ _ W) (I := fun W => Below w.heap.size w W ∧ Has W w.heap.size 26 zero32) _ ⟨(Below.refl _ w).alloc (Nat.le_refl _) _, fresh_sum w⟩ ?_
      rintro W ⟨hB, hR⟩
      have HB := Lib.hid hB
      have HR := Lib.hid hR
      clear hB hR
      go_wp2_with (first
        | ((with_reducible refine arm_store w.heap.size zero32 _ _ HR.out rfl HIO.out HO.out ?h5 ?h6 ?_); (case h5 => rfl); (case h6 => rfl)))
      exact bodyPost_ret (results_row_tmp rfl _ _ w.heap.size 26 zero32 (0, 0) _ rfl HR.out.setRow rfl Tryd.underlying26 HIO.out) rfl ⟨rfl, below_setRow HB.out (Nat.le_refl _) _⟩
  · have k0 : many < 0 := by omega
    clear h
    go_enter Tryd.func41, Tryd.ntmps41
    go_upto_region 1 with (fail)
    refine gen_world (P := fun W => Code.wp _ _ _ _ W) (I := fun W => Below w.heap.size w W ∧ Has W w.heap.size 26 zero32) _ ⟨(Below.refl _ w).alloc (Nat.le_refl _) _, fresh_sum w⟩ ?_
    rintro W ⟨hB, hR⟩
    have HB := Lib.hid hB
    have HR := Lib.hid hR
    clear hB hR
    go_wp2_with (first
      | ((with_reducible refine arm_store w.heap.size zero32 _ _ HR.out rfl HIO.out HO.out ?h5 ?h6 ?_); (case h5 => rfl); (case h6 => rfl)))
    exact bodyPost_ret (results_row_tmp rfl _ _ w.heap.size 26 zero32 (0, 0) _ rfl HR.out.setRow rfl Tryd.underlying26 HIO.out) rfl ⟨rfl, below_setRow HB.out (Nat.le_refl _) _⟩
set_option maxRecDepth 100000 in
set_option maxHeartbeats 1000000 in
theorem refRoot_none (a : Option Addr) (c : Nat) (w : World) (out : List Nat) (hout : Hid (out = Sha.sha [0])) :
    Calls Tryd.prog 41 #[.int .i64 0, .slice a 0 c] w fun e w' => e = .returned (.tuple #[.agg (arr32 out), .int .i64 0]) ∧ Below w.heap.size w w' := by
  have hol : out.length = 32 := by rw [hout.out]; exact (sha_bytes _).1
  have HIo := Lib.hid (arr32_info out (by omega))
  have HSo := Lib.hid (zero32_size out (by omega))
  have HL : Hid (∀ V : World, Calls Tryd.prog 36 #[.slice none 0 0] V fun e w' => e = .returned (.agg (arr32 out)) ∧ Below V.heap.size V w') := Lib.hid fun V => (refList_none none 0 V out hout).mono fun e w' ⟨h1, _, h2⟩ => ⟨h1, h2⟩
  have HP : Hid (∀ V : World, Calls Tryd.prog 75 #[.int .i64 0] V fun e w' => e = .returned (.int .i64 0) ∧ V = w') := Lib.hid fun V => refPow_any 0 (by omega) V
  clear hout
  go_enter Tryd.func41, Tryd.ntmps41
  go_upto_region 1 with (fail)
  refine gen_world (P := fun W => Code.wp _ _ _ _ W) (I := fun W => Below w.heap.size w W ∧ Has W w.heap.size 26 zero32) _ ⟨(Below.refl _ w).alloc (Nat.le_refl _) _, fresh_sum w⟩ ?_
  rintro W ⟨hB, hR⟩
  have HB := Lib.hid hB
  have HR := Lib.hid hR
  clear hB hR
  go_wp2_with (first
    | (go_at_call 75; (with_reducible refine (HP.out _).mono ?_); rintro e w1 ⟨rfl, rfl⟩)
    | (go_at_call 36; (with_reducible refine (HL.out _).mono ?_); rintro e w1 ⟨rfl, hb1⟩; have HB1 := Lib.hid (HB.out.trans (hb1.mono HB.out.size)); have HR1 := Lib.hid (HR.out.below hb1 HR.out.lt); clear hb1)
    | ((with_reducible refine arm_store w.heap.size (arr32 out) 26 zero32 HR1.out HSo.out HIo.out (arr32_one _) ?h5 ?h6 ?_); (case h5 => rfl); (case h6 => rfl)))
  exact bodyPost_ret (results_row_tmp rfl _ _ w.heap.size 26 (arr32 out) (0, 0) _ rfl HR1.out.setRow rfl Tryd.underlying26 HIo.out) rfl ⟨rfl, below_setRow HB1.out (Nat.le_refl _) _⟩
set_option maxRecDepth 100000 in
set_option maxHeartbeats 3000000 in
theorem refRoot_main (q : List (List Nat)) (last : List Nat) (hok : SumsOk (q ++ [last])) (m : Nat) (hm : 0 < m) (hm2 : m ≤ 1073741824) (hlen : q.length + 1 = ones m) (g off c : Nat) (w : World) (hs : SumsAt w g off (q ++ [last])) (hg : g < w.heap.size) (hc : q.length + 1 ≤ c) (hcm : c ≤ maxLen) (out : List Nat) (hout : Hid (out = accOf q last 0)) :
    Calls Tryd.prog 41 #[.int .i64 (m : Int), .slice (some ⟨g, off, none⟩) (q.length + 1) c] w fun e w' => e = .returned (.tuple #[.agg (arr32 out), .int .i64 0]) ∧ Below w.heap.size w w' := by
  have hll : last.length = 32 ∧ Sha.Bytes last := hok last (by simp)
  have hol : out.length = 32 := by rw [hout.out]; exact (accOf_len _ _ hll _).1
  have HIo := Lib.hid (arr32_info out (by omega))
  have HSo := Lib.hid (zero32_size out (by omega))
  have HIl := Lib.hid (arr32_info last (by omega))
  have HSl := Lib.hid (zero32_size last (by omega))
  have hle : ones m ≤ 32 := onesF_le _ _
  have hpow : ∀ V : World, Calls Tryd.prog 75 #[.int .i64 (m : Int)] V fun e w' => e = .returned (.int .i64 ((q.length : Int) + 1)) ∧ V = w' := fun V => by
    have := refPow_any m (by omega) V
    rwa [← hlen, Int.natCast_add] at this
  rw [← hlen] at hle
  have hlq : (q ++ [last])[q.length]? = some last := by simp
  have HQ : Hid (∀ j p, q[j]? = some p → (q ++ [last])[j]? = some p) := Lib.hid fun j p h => by rw [List.getElem?_append_left (List.getElem?_eq_some_iff.1 h).1]; exact h
  have HLast : Hid (∀ V, Below w.heap.size w V → ∀ j u, (arr32 last)[j]? = some u → V.cell? ((⟨g, off + q.length * 32, none⟩ : Addr).add j) = some u) := Lib.hid fun V hv => (hs.below hg hv).row hlq
  have HS := Lib.hid hs
  have HOk := Lib.hid hok
  have HEnd := Lib.hid (accOf_end q last)
  have HLL := Lib.hid hll
  obtain ⟨n, hn⟩ : ∃ n, n = q.length := ⟨_, rfl⟩
  rw [← hn] at hpow hle hc HLast HEnd ⊢
  have HP := Lib.hid hpow
  have m0 : ¬ (m : Int) = 0 := by omega
  have k0 : ¬ (m : Int) < 0 := by omega
  have k1 : ¬ (1073741824 : Int) < (m : Int) := by omega
  have k2 : n < c := by omega
  unfold maxLen at hcm
  have HN := Lib.hid hn
  clear hpow hs hok hlq hlen hll hn
  go_enter Tryd.func41, Tryd.ntmps41
  go_upto_region 1 with (fail)
  refine gen_world (P := fun W => Code.wp _ _ _ _ W) (I := fun W => Below w.heap.size w W ∧ Has W w.heap.size 26 zero32) _ ⟨(Below.refl _ w).alloc (Nat.le_refl _) _, fresh_sum w⟩ ?_
  rintro W ⟨hB, hR⟩
  have HB := Lib.hid hB
  have HR := Lib.hid hR
  have HF := Lib.hid (fresh_sum W)
  clear hB hR
  go_upto_region 6 with (first
    | (go_at_call 75; (with_reducible refine (HP.out _).mono ?_); rintro e w1 ⟨rfl, rfl⟩)
    | ((with_reducible refine arm_load ⟨g, off + n * 32, none⟩ (arr32 last) _ (HLast.out _ HB.out) Tryd.underlying26 HIl.out ?h1 ?h2 ?_); (case h1 => rfl); (case h2 => rfl))
    | ((with_reducible refine arm_store W.heap.size (arr32 last) 26 zero32 HF.out HSl.out HIl.out (arr32_one _) ?h5 ?h6 ?_); (case h5 => rfl); (case h6 => rfl)))
  go_wp2
  go_loopw [7] (fun ix wr => ∃ (k : Nat) (x : Int), k ≤ n ∧ ix = .int .i64 x ∧ x = (k : Int) - 1 ∧ Below W.heap.size W wr ∧ Has wr W.heap.size 26 (arr32 (accOf q last k))) (fun ix _ => (intOf ix + 1).toNat)
  case atStart => exact ⟨n, _, Nat.le_refl _, rfl, by go_num, below_setRow ((Below.refl _ W).alloc (Nat.le_refl _) _) (Nat.le_refl _) _, by rw [HEnd.out]; exact HF.out.setRow⟩
  case round =>
    obtain ⟨k, x, hk, rfl, hx, hB, hX⟩ := hrel
    have HX := Lib.hid hX
    have HB2 := Lib.hid hB
    clear hX hB
    cases k with
    | zero =>
      have hx0 : ¬ (0 : Int) ≤ x := by omega
      clear hx
      rw [← hout.out] at HX
      have HR2 := Lib.hid (HR.out.below HB2.out HR.out.lt)
      go_wp2_with (first
        | ((with_reducible refine arm_load ⟨W.heap.size, 0, none⟩ (arr32 out) _ HX.out.row Tryd.underlying26 HIo.out ?h1 ?h2 ?_); (case h1 => rfl); (case h2 => rfl))
        | ((with_reducible refine arm_store w.heap.size (arr32 out) 26 zero32 HR2.out HSo.out HIo.out (arr32_one _) ?h5 ?h6 ?_); (case h5 => rfl); (case h6 => rfl)))
      exact bodyPost_ret (results_row_tmp rfl _ _ w.heap.size 26 (arr32 out) (0, 0) _ rfl HR2.out.setRow rfl Tryd.underlying26 HIo.out) rfl ⟨rfl, below_setRow (HB.out.trans (HB2.out.mono HB.out.size)) (Nat.le_refl _) _⟩
    | succ j =>
      obtain rfl : x = (j : Int) := by omega
      clear hx
      have hj : j < q.length := by have := HN.out; omega
      obtain ⟨p, hp⟩ : ∃ p, q[j]? = some p := ⟨_, List.getElem?_eq_getElem hj⟩
      have hpl := HOk.out p (List.mem_of_getElem? (HQ.out j p hp))
      obtain ⟨up, hup⟩ : ∃ up, up = accOf q last (j + 1) := ⟨_, rfl⟩
      have hupl : up.length = 32 ∧ Sha.Bytes up := by rw [hup]; exact accOf_len _ _ HLL.out _
      obtain ⟨nu, hnu⟩ : ∃ nu, nu = Sha.sha (2 :: (p ++ up)) := ⟨_, rfl⟩
      have HNu : Hid (nu = accOf q last j) := Lib.hid (by rw [hnu, hup]; exact (accOf_step q last p j hp).symm)
      have hnl : nu.length = 32 := by rw [hnu]; exact (sha_bytes _).1
      rw [← hup] at HX
      have HIp := Lib.hid (arr32_info p (by omega))
      have HIu := Lib.hid (arr32_info up (by omega))
      have HIn := Lib.hid (arr32_info nu (by omega))
      have HSn : Hid ((arr32 up).size = (arr32 nu).size) := Lib.hid ((arr32_size up (by omega)).trans (arr32_size nu (by omega)).symm)
      have HPr : Hid (∀ V : World, Calls Tryd.prog 73 #[.agg (arr32 p), .agg (arr32 up)] V fun e w' => e = .returned (.agg (arr32 nu)) ∧ Below V.heap.size V w') := Lib.hid fun V => (refInner_any p up hpl.1 hupl.1 hpl.2 hupl.2 V nu (Lib.hid hnu)).mono fun e w' ⟨h1, _, h2⟩ => ⟨h1, h2⟩
      have HWR : Hid (∀ Z, Below W.heap.size wr Z → ∀ i u, (arr32 p)[i]? = some u → Z.cell? ((⟨g, off + j * 32, none⟩ : Addr).add i) = some u) := Lib.hid fun Z hZ =>
        (HS.out.below hg (HB.out.trans ((HB2.out.trans hZ).mono HB.out.size))).row (HQ.out j p hp)
      have j0 : (0 : Int) ≤ (j : Int) := by omega
      have j1 : (j : Int) < (n : Int) + 1 := by omega
      have j2 : j < n + 1 := by omega
      have j3 : j < c := by omega
      clear hnu hup hp
      go_upto_region 9 with (fail)
      change Code.wp _ (Code.region 9 (rootOps 9) true) _ _ _
      refine wp_region_held (S := fun V => Below W.heap.size wr V) (by kernel_rfl) ?_
      have hsz : (rootOps 9).size = 7 := by kernel_rfl
      rw [hsz]
      clear hsz
      refine gen_world (P := fun W' => wpAnyH _ _ _ _ _ _ _ _ W') (I := fun V => Below wr.heap.size wr V) _ (Below.refl _ wr).drew ?_
      rintro V hBV
      have HS0 := Lib.hid (hBV.mono (Nat.le_of_lt HX.out.lt))
      have HXV := Lib.hid (HX.out.below hBV HX.out.lt)
      clear hBV
      refine wpAnyH_take (i := 0) (oi := ⟨some 38, _, _, _, _, _⟩) (v := ?_) rfl (by kernel_rfl) (by kernel_rfl) (by kernel_rfl) (fun _ _ _ h => h) (Or.inl ⟨by rfl, fun w' hw' => by go_simp; with_reducible rfl⟩) HS0.out ?_
      try simp only [Act.put, List.setIfInBounds_toArray, List.set_cons_succ, List.set_cons_zero]
      refine wpAnyH_take (i := 1) (oi := ⟨some 39, _, _, _, _, _⟩) (v := ?_) rfl (by kernel_rfl) (by kernel_rfl) (by kernel_rfl) (fun _ _ _ h => h) (Or.inl ⟨by rfl, fun w' hw' => by go_simp; with_reducible rfl⟩) HS0.out ?_
      try simp only [Act.put, List.setIfInBounds_toArray, List.set_cons_succ, List.set_cons_zero]
      refine wpAnyH_take (i := 2) (oi := ⟨some 40, _, _, _, _, _⟩) (v := .pointer (some ⟨g, off + j * 32, none⟩)) rfl (by kernel_rfl) (by kernel_rfl) (by kernel_rfl) (fun _ _ _ h => h) (Or.inl ⟨by rfl, fun w' hw' => by go_simp⟩) HS0.out ?_
      try simp only [Act.put, List.setIfInBounds_toArray, List.set_cons_succ, List.set_cons_zero]
      refine wpAnyH_take (i := 3) (oi := ⟨some 41, _, _, _, _, none⟩) (v := .agg (arr32 p)) rfl (by kernel_rfl) (by kernel_rfl) (by kernel_rfl) (fun _ _ _ h => h) (yieldsIf_load ⟨g, off + j * 32, none⟩ _ _ HWR.out Tryd.underlying26 HIp.out rfl rfl) HS0.out ?_
      try simp only [Act.put, List.setIfInBounds_toArray, List.set_cons_succ, List.set_cons_zero]
      refine wpAnyH_all (rs := [4]) (by kernel_rfl) (by simp) ?_
      intro i hi
      obtain rfl : i = 4 := by simpa using hi
      clear hi
      refine wpOp_step (o := ⟨some 42, _, _, _, _, _⟩) rfl (fun K' hK' => ?_)
      rw [if_pos (show Region.wanted _ _ = true from rfl)]
      refine opw_load ⟨W.heap.size, 0, none⟩ (arr32 up) _ HXV.out.row Tryd.underlying26 HIu.out rfl rfl ?_
      refine hK' _ _ ⟨HS0.out, ?_⟩
      clear hK' K'
      try simp only [Act.put, List.setIfInBounds_toArray, List.set_cons_succ, List.set_cons_zero]
      refine wpAnyH_all (rs := [5]) (by kernel_rfl) (by simp) ?_
      intro i hi
      obtain rfl : i = 5 := by simpa using hi
      clear hi
      refine wpOp_step (o := ⟨some 43, _, _, _, _, _⟩) rfl (fun K' hK' => ?_)
      rw [if_pos (show Region.wanted _ _ = true from rfl)]
      go_simp
      (with_reducible refine (HPr.out V).mono ?_)
      rintro e v1 ⟨rfl, hbx⟩
      have HS1 := Lib.hid (HS0.out.trans (hbx.mono (Nat.le_of_lt HXV.out.lt)))
      have HX1 := Lib.hid (HXV.out.below hbx HXV.out.lt)
      clear hbx
      refine hK' _ _ ⟨HS1.out, ?_⟩
      clear hK' K'
      try simp only [Act.put, List.setIfInBounds_toArray, List.set_cons_succ, List.set_cons_zero]
      refine wpAnyH_all (rs := [6]) (by kernel_rfl) (by simp) ?_
      intro i hi
      obtain rfl : i = 6 := by simpa using hi
      clear hi
      refine wpOp_step (o := ⟨none, _, _, _, _, _⟩) rfl (fun K' hK' => ?_)
      rw [if_pos (show Region.wanted _ _ = true from rfl)]
      refine opw_store W.heap.size (arr32 nu) 26 (arr32 up) HX1.out HSn.out HIn.out (arr32_one _) rfl rfl ?_
      refine hK' _ _ ⟨below_setRow HS1.out (Nat.le_refl _) _, ?_⟩
      clear hK' K'
      try simp only [Act.put, List.setIfInBounds_toArray, List.set_cons_succ, List.set_cons_zero]
      refine wpAnyH_done (by kernel_rfl) ?_ _
      have HX2 := Lib.hid (HX1.out.setRow (cs' := arr32 nu))
      have HS2 := Lib.hid (HB2.out.trans (below_setRow HS1.out (Nat.le_refl _) (arr32 nu)))
      clear HX1 HS1 HS0 HXV
      go_wp2
      go_roundw
      case rel => exact ⟨j, _, by omega, rfl, by go_num, HS2.out, HX2.out.of_eq (congrArg arr32 HNu.out)⟩
      case measure => simp [intOf]
end Go.Proofs.YtffdkniahdekjaaDoor
end
section
namespace Go.Proofs.YtffdkniahdekjaaDoor
open Go.RowKit Go.Hoar
set_option maxRecDepth 100000 in
set_option maxHeartbeats 1000000 in
theorem root_wrong (a : Option Addr) (n c : Nat) (many : Int) (w : World) (h : ¬ TreeOk n many) :
    Calls Tryd.prog 40 #[.agg #[.int .i64 many, .slice a n c]] w fun e w' => e = .returned (.tuple #[.agg (arr32 []), .int .i64 14]) ∧ Below w.heap.size w w' := by
  have hk : ∀ V : World, Calls Tryd.prog 74 #[.agg #[.int .i64 many, .slice a n c]] V fun e w' => e = .returned (.bool false) ∧ Below V.heap.size V w' := fun V => by
    have := treeOk_any a n c many V
    rwa [decide_eq_false h] at this
  have HK := Lib.hid hk
  have HI : Hid ((Tryd.prog.info? 57).map (·.size) = some (#[.int .i64 many, .slice a n c] : Array Value).size) := Lib.hid treeInfo
  have hz : arr32 [] = zero32 := rfl
  rw [hz]
  have HIO := Lib.hid (arr32_info [] (by simp))
  rw [hz] at HIO
  have HO : Hid (zero32.all (·.oneCell') = true) := Lib.hid (by rw [← hz]; exact arr32_one _)
  clear hz hk h
  go_enter Tryd.func40, Tryd.ntmps40
  go_upto_region 1 with (fail)
  refine gen_world (P := fun W => Code.wp _ _ _ _ W) (I := fun W => Below w.heap.size w W ∧ Has W w.heap.size 57 #[.int .i64 many, .slice a n c] ∧ Has W (w.heap.size + 1) 26 zero32) _ ⟨((Below.refl _ w).alloc (Nat.le_refl _) _).alloc (by simp) _, (Has.fresh_at _ _ _ _ rfl).alloc _, Has.fresh_at _ _ _ _ (by simp)⟩ ?_
  rintro W ⟨hB, hT, hR⟩
  have HB := Lib.hid hB
  have HT := Lib.hid hT
  have HR := Lib.hid hR
  clear hB hT hR
  go_wp2_with (first
    | ((with_reducible refine arm_load ⟨w.heap.size, 0, none⟩ #[.int .i64 many, .slice a n c] _ HT.out.row Tryd.underlying57 HI.out ?h1 ?h2 ?_); (case h1 => rfl); (case h2 => rfl))
    | (go_at_call 74; (with_reducible refine (HK.out _).mono ?_); rintro e w1 ⟨rfl, hb1⟩; have HB1 := Lib.hid (HB.out.trans (hb1.mono HB.out.size)); have HR1 := Lib.hid (HR.out.below hb1 HR.out.lt); clear hb1)
    | ((with_reducible refine arm_store (w.heap.size + 1) zero32 _ _ HR1.out rfl HIO.out HO.out ?h5 ?h6 ?_); (case h5 => rfl); (case h6 => rfl)))
  exact bodyPost_ret (results_row_tmp rfl _ _ (w.heap.size + 1) 26 zero32 (0, 0) _ rfl HR1.out.setRow rfl Tryd.underlying26 HIO.out) rfl ⟨rfl, below_setRow HB1.out (by omega) _⟩
set_option maxRecDepth 100000 in
set_option maxHeartbeats 1000000 in
theorem root_none (a : Option Addr) (c : Nat) (w : World) (hc : ConstAt w) (out : List Nat) (hout : Hid (out = Sha.sha [0])) :
    Calls Tryd.prog 40 #[.agg #[.int .i64 0, .slice a 0 c]] w fun e w' => e = .returned (.tuple #[.agg (arr32 out), .int .i64 0]) ∧ Below w.heap.size w w' := by
  have hk : ∀ V : World, Calls Tryd.prog 74 #[.agg #[.int .i64 0, .slice a 0 c]] V fun e w' => e = .returned (.bool true) ∧ Below V.heap.size V w' := fun V => by
    have := treeOk_any a 0 c 0 V
    rwa [show decide (TreeOk 0 0) = true by decide +kernel] at this
  have HK := Lib.hid hk
  have HI : Hid ((Tryd.prog.info? 57).map (·.size) = some (#[.int .i64 0, .slice a 0 c] : Array Value).size) := Lib.hid treeInfo
  have hol : out.length = 32 := by rw [hout.out]; exact (sha_bytes _).1
  have HIo := Lib.hid (arr32_info out (by omega))
  have HSo := Lib.hid (zero32_size out (by omega))
  have HL : Hid (∀ V : World, ConstAt V → Calls Tryd.prog 33 #[.slice none 0 0] V fun e w' => e = .returned (.agg (arr32 out)) ∧ Below V.heap.size V w') := Lib.hid fun V hV => (list_none none 0 V hV out hout).mono fun e w' ⟨h1, _, h2⟩ => ⟨h1, h2⟩
  have HC := Lib.hid hc
  clear hk hc hout
  go_enter Tryd.func40, Tryd.ntmps40
  go_upto_region 1 with (fail)
  refine gen_world (P := fun W => Code.wp _ _ _ _ W) (I := fun W => Below w.heap.size w W ∧ Has W w.heap.size 57 #[.int .i64 0, .slice a 0 c] ∧ Has W (w.heap.size + 1) 26 zero32) _ ⟨((Below.refl _ w).alloc (Nat.le_refl _) _).alloc (by simp) _, (Has.fresh_at _ _ _ _ rfl).alloc _, Has.fresh_at _ _ _ _ (by simp)⟩ ?_
  rintro W ⟨hB, hT, hR⟩
  have HB := Lib.hid hB
  have HT := Lib.hid hT
  have HR := Lib.hid hR
  clear hB hT hR
  go_upto_region 3 with (first
    | ((with_reducible refine arm_load ⟨w.heap.size, 0, none⟩ #[.int .i64 0, .slice a 0 c] _ HT.out.row Tryd.underlying57 HI.out ?h1 ?h2 ?_); (case h1 => rfl); (case h2 => rfl))
    | (go_at_call 74; (with_reducible refine (HK.out _).mono ?_); rintro e w1 ⟨rfl, hb1⟩; have HB1 := Lib.hid (HB.out.trans (hb1.mono HB.out.size)); have HR1 := Lib.hid (HR.out.below hb1 HR.out.lt); have t1 : w1.cell? ⟨w.heap.size, 1, none⟩ = some (.slice a 0 c) := (hb1.cell HT.out.lt).trans (HT.out.cell 1); clear hb1))
  go_wp2_with (first
    | (go_at_call 33; (with_reducible refine (HL.out _ (HC.out.below HB1.out rfl)).mono ?_); rintro e w2 ⟨rfl, hb2⟩; have HB2 := Lib.hid (HB1.out.trans (hb2.mono HB1.out.size)); have HR2 := Lib.hid (HR1.out.below hb2 HR1.out.lt); clear hb2)
    | ((with_reducible refine arm_store (w.heap.size + 1) (arr32 out) _ _ HR2.out HSo.out HIo.out (arr32_one _) ?h5 ?h6 ?_); (case h5 => rfl); (case h6 => rfl)))
  exact bodyPost_ret (results_row_tmp rfl _ _ (w.heap.size + 1) 26 (arr32 out) (0, 0) _ rfl HR2.out.setRow rfl Tryd.underlying26 HIo.out) rfl ⟨rfl, below_setRow HB2.out (by omega) _⟩
end Go.Proofs.YtffdkniahdekjaaDoor
end
