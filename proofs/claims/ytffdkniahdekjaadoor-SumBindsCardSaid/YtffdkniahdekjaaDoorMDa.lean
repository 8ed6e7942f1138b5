/-
  ROWS OF SLICES OF BYTES: each has a block of bytes of its own.
  · THE REFERENCE's List: the digest of a list.
  · THE DIGEST OF A LIST, empty or not, by both; rows of digests behind new blocks.
  · THE LAWS' MADE-UP DIGESTS: so many as are asked for, of 32 bytes each.
  · THE WAY OF A PLACE, AND WHAT A WAY LEADS TO, as the reference reckons them: from the root down, where the program goes over spans.
  · A TREE THAT GROWS HAS THE DIGEST OF ITS LIST; two unlike lists with one digest show two unlike lists of bytes with one digest.
  · WHAT IS READ OFF A WAY; two unlike ways that lead to one root show two unlike lists of bytes with one digest.
-/
import Derived.Test.YtffdkniahdekjaaDoorMBl
import Derived.Test.YtffdkniahdekjaaDoorMBc
import Derived.Test.YtffdkniahdekjaaDoorMBj
import Derived.Test.YtffdkniahdekjaaDoorMBd
import Derived.Great.BuildSlice
section
namespace Go.Proofs.YtffdkniahdekjaaDoor
open Go.RowKit Go.Hoar
noncomputable def listOps : Array Oper := (Tryd.f36.body.bind (opsAt 6)).getD #[]
set_option maxRecDepth 100000 in
set_option maxHeartbeats 1000000 in
theorem refList_none (a : Option Addr) (c : Nat) (w : World) (out : List Nat) (hout : Hid (out = Sha.sha [0])) :
    Calls Tryd.prog 36 #[.slice a 0 c] w fun e w' => e = .returned (.agg (arr32 out)) ∧ out.length = 32 ∧ Below w.heap.size w w' := by
  have hof : ∀ (V : World) (g : Nat), Has V g 5 #[.int .u8 0] → Calls Tryd.prog 18 #[.slice (some ⟨g, 0, none⟩) 1 1] V fun e w' => e = .returned (.agg (arr32 out)) ∧ out.length = 32 ∧ Below V.heap.size V w' := fun V g h =>
    (refOf_any [0] (some ⟨g, 0, none⟩) 1 V (fun x hx => by rw [List.mem_singleton.1 hx]; decide) (pad_part (bs := [0]) h) (Nat.le_refl _) (by decide) (by decide) (by decide) out hout).mono fun e w' ⟨he, hb⟩ => ⟨he, by rw [hout.out]; exact (sha_bytes _).1, hb⟩
  have HOf := Lib.hid hof
  clear hof
  go_enter Tryd.func36, Tryd.ntmps36
  go_upto_region 1 with (fail)
  refine gen_world (P := fun W => Code.wp _ _ _ _ W) (I := fun W => Below w.heap.size w W ∧ Has W w.heap.size 26 (arr32 []) ∧ W.heap.size = w.heap.size + 1) _ ⟨(Below.refl _ w).alloc (Nat.le_refl _) _, Has.fresh_at _ _ _ _ rfl, by simp⟩ ?_
  rintro W ⟨hB, hR, hsz⟩
  have HBa := Lib.hid (hB.alloc hB.size (.cells #[.int .u8 0] 5))
  have HRa := Lib.hid (hR.alloc (.cells #[.int .u8 0] 5))
  clear hB hR
  go_wp2_with (first
    | (go_at_call 18; refine (HOf.out _ _ (Has.fresh_at W 5 _ (w.heap.size + 1) hsz.symm)).mono ?_; rintro e w3 ⟨rfl, hol, hbel⟩; have HB3 := Lib.hid hbel; have HR3 := Lib.hid (HRa.out.below hbel HRa.out.lt); have HI32 := Lib.hid (arr32_info out (by omega)); have HS32 := Lib.hid ((arr32_size [] (by simp)).trans (arr32_size out (by omega)).symm); clear hbel)
    | ((with_reducible refine arm_store w.heap.size _ _ _ HR3.out HS32.out HI32.out (arr32_one _) ?h5 ?h6 ?_); (case h5 => rfl); (case h6 => rfl)))
  exact bodyPost_ret (results_cell_row (P := Tryd.prog) rfl _ _ w.heap.size 26 (arr32 out) (0, 0) _ rfl HR3.out.setRow Tryd.underlying26 rfl HI32.out) rfl ⟨rfl, hol, below_setRow (HBa.out.trans (HB3.out.mono HBa.out.size)) (Nat.le_refl _) _⟩
set_option maxRecDepth 100000 in
set_option maxHeartbeats 1000000 in
theorem refList_one (l : List Nat) (g off c : Nat) (w : World) (hs : SumsAt w g off [l]) (hg : g < w.heap.size) (_hcm : c ≤ maxLen) (_h1c : 1 ≤ c) (out : List Nat) (hout : Hid (out = Sha.sha (1 :: l))) :
    Calls Tryd.prog 36 #[.slice (some ⟨g, off, none⟩) 1 c] w fun e w' => e = .returned (.agg (arr32 out)) ∧ out.length = 32 ∧ Below w.heap.size w w' := by
  obtain ⟨hl, hlb, _⟩ := hs 0 l rfl
  unfold maxLen at _hcm
  have HI := Lib.hid (arr32_info l (by omega))
  go_enter Tryd.func36, Tryd.ntmps36
  go_upto_region 1 with (fail)
  refine gen_world (P := fun W => Code.wp _ _ _ _ W) (I := fun W => Below w.heap.size w W ∧ Has W w.heap.size 26 (arr32 [])) _ ⟨(Below.refl _ w).alloc (Nat.le_refl _) _, Has.fresh_at _ _ _ _ rfl⟩ ?_
  rintro W ⟨hB, hR⟩
  have hrow := (hs.below hg hB).row (i := 0) (l := l) rfl
  rw [Nat.zero_mul, Nat.add_zero] at hrow
  have HRow := Lib.hid hrow
  have HB := Lib.hid hB
  have HR := Lib.hid hR
  clear hB hR hs hrow
  go_wp2_with (first
    | ((with_reducible refine arm_load ⟨g, off, none⟩ _ _ HRow.out Tryd.underlying26 HI.out ?h1 ?h2 ?_); (case h1 => rfl); (case h2 => rfl))
    | (go_at_call 72; refine (refLeaf_any l hl hlb _ out hout).mono ?_; rintro e w3 ⟨rfl, hol, hbel⟩; have HB3 := Lib.hid hbel; have HR3 := Lib.hid (HR.out.below hbel HR.out.lt); have HI32 := Lib.hid (arr32_info out (by omega)); have HS32 := Lib.hid ((arr32_size [] (by simp)).trans (arr32_size out (by omega)).symm); clear hbel)
    | ((with_reducible refine arm_store w.heap.size _ _ _ HR3.out HS32.out HI32.out (arr32_one _) ?h5 ?h6 ?_); (case h5 => rfl); (case h6 => rfl)))
  exact bodyPost_ret (results_cell_row (P := Tryd.prog) rfl _ _ w.heap.size 26 (arr32 out) (0, 0) _ rfl HR3.out.setRow Tryd.underlying26 rfl HI32.out) rfl ⟨rfl, hol, below_setRow (HB.out.trans (HB3.out.mono HB.out.size)) (Nat.le_refl _) _⟩
def RefListOk (f : Nat) : Prop := ∀ (ls : List (List Nat)) (g off c : Nat) (w : World), ls.length < f → 0 < ls.length → ls.length ≤ c → c ≤ maxLen → ls.length ≤ 140737488355328 → SumsAt w g off ls → g < w.heap.size → ∀ out, Hid (out = listOf f ls) →
    Calls Tryd.prog 36 #[.slice (some ⟨g, off, none⟩) ls.length c] w fun e w' => e = .returned (.agg (arr32 out)) ∧ out.length = 32 ∧ Below w.heap.size w w'
set_option maxRecDepth 100000 in
set_option maxHeartbeats 2000000 in
theorem refList_step (f : Nat) (ih : RefListOk f) (ls : List (List Nat)) (n : Nat) (hnl : n = ls.length) (h2 : 2 ≤ n) (g off c : Nat) (w : World) (hf : n < f + 1) (hnc : n ≤ c) (hcm : c ≤ maxLen) (hn : n ≤ 140737488355328) (hs : SumsAt w g off ls) (hg : g < w.heap.size) (out : List Nat)
    (hlo : out = Sha.sha (2 :: (listOf f (ls.take (halfOf n)) ++ listOf f (ls.drop (halfOf n))))) :
    Calls Tryd.prog 36 #[.slice (some ⟨g, off, none⟩) n c] w fun e w' => e = .returned (.agg (arr32 out)) ∧ out.length = 32 ∧ Below w.heap.size w w' := by
  obtain ⟨_, b2, _⟩ := halfOf_bounds h2 hn
  have b0 := halfOf_pos n
  obtain ⟨h, hh⟩ : ∃ h, h = halfOf n := ⟨_, rfl⟩
  rw [← hh] at b2 b0 hlo
  have lt1 : (ls.take h).length = h := by rw [List.length_take]; omega
  have lt2 : (ls.drop h).length = n - h := by rw [List.length_drop]; omega
  obtain ⟨A, hA⟩ : ∃ A, A = listOf f (ls.take h) := ⟨_, rfl⟩
  obtain ⟨B, hB⟩ : ∃ B, B = listOf f (ls.drop h) := ⟨_, rfl⟩
  have hAb : Sha.Bytes A := by rw [hA]; exact listOf_bytes _ _
  have hBb : Sha.Bytes B := by rw [hB]; exact listOf_bytes _ _
  rw [← hA, ← hB] at hlo
  have hfirst : ∀ V, Below w.heap.size w V → Calls Tryd.prog 36 #[.slice (some ⟨g, off, none⟩) h c] V fun e w' => e = .returned (.agg (arr32 A)) ∧ A.length = 32 ∧ Below V.heap.size V w' := fun V hv => by
    have k := ih (ls.take h) g off c V (by rw [lt1]; omega) (by rw [lt1]; omega) (by rw [lt1]; omega) hcm (by rw [lt1]; omega) ((hs.below hg hv).take h) (Nat.lt_of_lt_of_le hg hv.size) A (Lib.hid hA)
    rwa [lt1] at k
  have hrest : ∀ V, Below w.heap.size w V → Calls Tryd.prog 36 #[.slice (some ⟨g, off + h * 32, none⟩) (n - h) (c - h)] V fun e w' => e = .returned (.agg (arr32 B)) ∧ B.length = 32 ∧ Below V.heap.size V w' := fun V hv => by
    have k := ih (ls.drop h) g (off + h * 32) (c - h) V (by rw [lt2]; omega) (by rw [lt2]; omega) (by rw [lt2]; omega) (by omega) (by rw [lt2]; omega) ((hs.below hg hv).drop h) (Nat.lt_of_lt_of_le hg hv.size) B (Lib.hid hB)
    rwa [lt2] at k
  have hpair : ∀ V, Below w.heap.size w V → A.length = 32 → B.length = 32 → Calls Tryd.prog 73 #[.agg (arr32 A), .agg (arr32 B)] V fun e w' => e = .returned (.agg (arr32 out)) ∧ out.length = 32 ∧ Below V.heap.size V w' := fun V hv ha hb => refInner_any A B ha hb hAb hBb V out (Lib.hid hlo)
  have hcut := refBelow_any n h2 hn
  rw [← hh] at hcut
  unfold maxLen at hcm
  have HF := Lib.hid hfirst
  have HS := Lib.hid hrest
  have HP := Lib.hid hpair
  have HK := Lib.hid hcut
  have n0 : ¬ n = 0 := by omega
  have n1 : ¬ n = 1 := by omega
  clear hfirst hrest hpair hcut hs hA hB hlo lt1 lt2 hnl hh ih
  go_enter Tryd.func36, Tryd.ntmps36
  go_upto_region 1 with (fail)
  refine gen_world (P := fun W => Code.wp _ _ _ _ W) (I := fun W => Below w.heap.size w W ∧ Has W w.heap.size 26 (arr32 [])) _ ⟨(Below.refl _ w).alloc (Nat.le_refl _) _, Has.fresh_at _ _ _ _ rfl⟩ ?_
  rintro W ⟨hBW, hRW⟩
  have HB := Lib.hid hBW
  have HR := Lib.hid hRW
  clear hBW hRW
  have hhc : ¬ c = h := by omega
  have hhc2 : h ≤ c := by omega
  have hhn : h ≤ n := by omega
  go_upto_region 6 with (go_at_call 71; (with_reducible refine (HK.out _).mono ?_); rintro e w1 ⟨rfl, rfl⟩)
  change Code.wp _ (Code.region 6 listOps true) _ _ _
  refine wp_region_held (S := fun V => Below w.heap.size w V) (by kernel_rfl) ?_
  have hsz : listOps.size = 10 := by kernel_rfl
  rw [hsz]
  clear hsz
  refine gen_world (P := fun W' => wpAnyH _ _ _ _ _ _ _ _ W') (I := fun V => Below w.heap.size w V ∧ Has V w.heap.size 26 (arr32 [])) _ ⟨HB.out.drew, HR.out.drew⟩ ?_
  rintro V ⟨hBV, hRV⟩
  have HB0 := Lib.hid hBV
  have HR0 := Lib.hid hRV
  clear hBV hRV HB HR
  refine wpAnyH_take (i := 0) (oi := ⟨some 19, _, _, _, _, _⟩) (v := .slice (some ⟨g, off, none⟩) n c) rfl (by kernel_rfl) (by kernel_rfl) (by kernel_rfl) (fun _ _ _ h => h) (Or.inl ⟨by rfl, fun w' hw' => by go_simp⟩) HB0.out ?_
  try simp only [Act.put, List.setIfInBounds_toArray, List.set_cons_succ, List.set_cons_zero]
  refine wpAnyH_take (i := 1) (oi := ⟨some 20, _, _, _, _, _⟩) (v := .int .i64 (h : Int)) rfl (by kernel_rfl) (by kernel_rfl) (by kernel_rfl) (fun _ _ _ h => h) (Or.inl ⟨by rfl, fun w' hw' => by go_simp⟩) HB0.out ?_
  try simp only [Act.put, List.setIfInBounds_toArray, List.set_cons_succ, List.set_cons_zero]
  refine wpAnyH_take (i := 2) (oi := ⟨some 21, _, _, _, _, _⟩) (v := .slice (some ⟨g, off, none⟩) h c) rfl (by kernel_rfl) (by kernel_rfl) (by kernel_rfl) (fun _ _ _ h => h) (Or.inl ⟨by rfl, fun w' hw' => by go_simp⟩) HB0.out ?_
  try simp only [Act.put, List.setIfInBounds_toArray, List.set_cons_succ, List.set_cons_zero]
  refine wpAnyH_take (i := 4) (oi := ⟨some 23, _, _, _, _, _⟩) (v := .slice (some ⟨g, off, none⟩) n c) rfl (by kernel_rfl) (by kernel_rfl) (by kernel_rfl) (fun _ _ _ h => h) (Or.inl ⟨by rfl, fun w' hw' => by go_simp⟩) HB0.out ?_
  try simp only [Act.put, List.setIfInBounds_toArray, List.set_cons_succ, List.set_cons_zero]
  refine wpAnyH_take (i := 5) (oi := ⟨some 24, _, _, _, _, _⟩) (v := .int .i64 (h : Int)) rfl (by kernel_rfl) (by kernel_rfl) (by kernel_rfl) (fun _ _ _ h => h) (Or.inl ⟨by rfl, fun w' hw' => by go_simp⟩) HB0.out ?_
  try simp only [Act.put, List.setIfInBounds_toArray, List.set_cons_succ, List.set_cons_zero]
  refine wpAnyH_take (i := 6) (oi := ⟨some 25, _, _, _, _, _⟩) (v := .slice (some ⟨g, off + h * 32, none⟩) (n - h) (c - h)) rfl (by kernel_rfl) (by kernel_rfl) (by kernel_rfl) (fun _ _ _ h => h) (Or.inl ⟨by rfl, fun w' hw' => by go_simp⟩) HB0.out ?_
  try simp only [Act.put, List.setIfInBounds_toArray, List.set_cons_succ, List.set_cons_zero]
  refine wpAnyH_all (rs := [3]) (by kernel_rfl) (by simp) ?_
  intro i hi
  obtain rfl : i = 3 := by simpa using hi
  clear hi
  refine wpOp_step (o := ⟨some 22, _, _, _, _, _⟩) rfl (fun K' hK' => ?_)
  rw [if_pos (show Region.wanted _ _ = true from rfl)]
  go_simp
  (with_reducible refine (HF.out _ HB0.out).mono ?_)
  rintro e v1 ⟨rfl, hal, hbx⟩
  have HB1 := Lib.hid (HB0.out.trans (hbx.mono HB0.out.size))
  have HR1 := Lib.hid (HR0.out.below hbx HR0.out.lt)
  clear hbx
  refine hK' _ _ ⟨HB1.out, ?_⟩
  clear hK' K'
  try simp only [Act.put, List.setIfInBounds_toArray, List.set_cons_succ, List.set_cons_zero]
  refine wpAnyH_all (rs := [7]) (by kernel_rfl) (by simp) ?_
  intro i hi
  obtain rfl : i = 7 := by simpa using hi
  clear hi
  refine wpOp_step (o := ⟨some 26, _, _, _, _, _⟩) rfl (fun K' hK' => ?_)
  rw [if_pos (show Region.wanted _ _ = true from rfl)]
  go_simp
  (with_reducible refine (HS.out _ HB1.out).mono ?_)
  rintro e v2 ⟨rfl, hbl, hbx⟩
  have HB2 := Lib.hid (HB1.out.trans (hbx.mono HB1.out.size))
  have HR2 := Lib.hid (HR1.out.below hbx HR1.out.lt)
  clear hbx
  refine hK' _ _ ⟨HB2.out, ?_⟩
  clear hK' K'
  try simp only [Act.put, List.setIfInBounds_toArray, List.set_cons_succ, List.set_cons_zero]
  refine wpAnyH_all (rs := [8]) (by kernel_rfl) (by simp) ?_
  intro i hi
  obtain rfl : i = 8 := by simpa using hi
  clear hi
  refine wpOp_step (o := ⟨some 27, _, _, _, _, _⟩) rfl (fun K' hK' => ?_)
  rw [if_pos (show Region.wanted _ _ = true from rfl)]
  go_simp
  (with_reducible refine (HP.out _ HB2.out hal hbl).mono ?_)
  rintro e v3 ⟨rfl, hol, hbx⟩
  have HB4 := Lib.hid (HB2.out.trans (hbx.mono HB2.out.size))
  have HR4 := Lib.hid (HR2.out.below hbx HR2.out.lt)
  clear hbx
  refine hK' _ _ ⟨HB4.out, ?_⟩
  clear hK' K'
  try simp only [Act.put, List.setIfInBounds_toArray, List.set_cons_succ, List.set_cons_zero]
  have HI32 := Lib.hid (arr32_info out (by omega))
  have HS32 := Lib.hid ((arr32_size [] (by simp)).trans (arr32_size out (by omega)).symm)
  refine wpAnyH_all (rs := [9]) (by kernel_rfl) (by simp) ?_
  intro i hi
  obtain rfl : i = 9 := by simpa using hi
  clear hi
  refine wpOp_step (o := ⟨none, _, _, _, _, _⟩) rfl (fun K' hK' => ?_)
  rw [if_pos (show Region.wanted _ _ = true from rfl)]
  refine opw_store w.heap.size (arr32 out) _ _ HR4.out HS32.out HI32.out (arr32_one _) rfl rfl ?_
  refine hK' _ _ ⟨below_setRow HB4.out (Nat.le_refl _) _, ?_⟩
  clear hK' K'
  try simp only [Act.put, List.setIfInBounds_toArray, List.set_cons_succ, List.set_cons_zero]
  refine wpAnyH_done (by kernel_rfl) ?_ _
  go_wp2
  exact bodyPost_ret (results_cell_row (P := Tryd.prog) rfl _ _ w.heap.size 26 (arr32 out) (0, 0) _ rfl HR4.out.setRow Tryd.underlying26 rfl HI32.out) rfl ⟨rfl, hol, below_setRow HB4.out (Nat.le_refl _) _⟩
theorem refList_any : ∀ (f : Nat), RefListOk f
  | 0 => fun _ _ _ _ _ h _ _ _ _ _ _ _ _ => absurd h (Nat.not_lt_zero _)
  | f + 1 => fun ls g off c w hf hp hnc hcm hn hs hg out hout => by
    match ls, hf, hp, hnc, hn, hs, hout with
    | [], _, hp, _, _, _, _ => exact absurd hp (Nat.lt_irrefl _)
    | [x], _, _, h1, _, hs, hout => exact refList_one x g off c w hs hg hcm h1 out (Lib.hid (hout.out.trans (by rw [listOf])))
    | x :: y :: r, hf, _, hnc, hn, hs, hout => exact refList_step f (refList_any f) (x :: y :: r) _ rfl (by simp) g off c w hf hnc hcm hn hs hg out (hout.out.trans (by rw [listOf]; exact Eq.refl _))
end Go.Proofs.YtffdkniahdekjaaDoor
end
section
namespace Go.Proofs.YtffdkniahdekjaaDoor
open Go.RowKit Go.Hoar
theorem listAll_any (ls : List (List Nat)) (V : World) (a : Option Addr) (c : Nat) (hr : RowOk V a c ls) (hn : ls.length ≤ 1073741824) (hc : ConstAt V) :
    Calls Tryd.prog 33 #[.slice a ls.length c] V fun e w' => e = .returned (.agg (arr32 (listOf (ls.length + 1) ls))) ∧ (listOf (ls.length + 1) ls).length = 32 ∧ Below V.heap.size V w' := by
  rcases hr with ⟨rfl, rfl, rfl⟩ | ⟨g, off, rfl, hg, hs, hc1, hm⟩
  · exact list_none none 0 V hc _ (Lib.hid (by rw [listOf]))
  · rcases Nat.eq_zero_or_pos ls.length with h0 | hp
    · obtain rfl := List.length_eq_zero_iff.1 h0
      exact list_none _ c V hc _ (Lib.hid (by rw [listOf]))
    · exact list_any (ls.length + 1) ls g off c V (Nat.lt_succ_self _) hp hc1 hm (by omega) hs hg hc _ (Lib.hid rfl)
theorem refListAll_any (ls : List (List Nat)) (V : World) (a : Option Addr) (c : Nat) (hr : RowOk V a c ls) (hn : ls.length ≤ 1073741824) :
    Calls Tryd.prog 36 #[.slice a ls.length c] V fun e w' => e = .returned (.agg (arr32 (listOf (ls.length + 1) ls))) ∧ (listOf (ls.length + 1) ls).length = 32 ∧ Below V.heap.size V w' := by
  rcases hr with ⟨rfl, rfl, rfl⟩ | ⟨g, off, rfl, hg, hs, hc1, hm⟩
  · exact refList_none none 0 V _ (Lib.hid (by rw [listOf]))
  · rcases Nat.eq_zero_or_pos ls.length with h0 | hp
    · obtain rfl := List.length_eq_zero_iff.1 h0
      exact refList_none _ c V _ (Lib.hid (by rw [listOf]))
    · exact refList_any (ls.length + 1) ls g off c V (Nat.lt_succ_self _) hp hc1 hm (by omega) hs hg _ (Lib.hid rfl)
theorem zero32_all : ((Value.agg zero32).cells.all fun x => x.oneCell') = true := by
  first | rfl | simp [Value.cells, zero32, Value.oneCell']
/-- slices.Equal of a list with itself. -/
theorem sumsEqual_same (ls : List (List Nat)) (hok : SumsOk ls) (hn : ls.length ≤ 1000000) (a b : Option Addr) (c d : Nat) (w : World) (ha : RowOk w a c ls) (hb : RowOk w b d ls) :
    Calls Tryd.prog 37 #[.slice a ls.length c, .slice b ls.length d] w fun e w' => e = .returned (.bool true) ∧ Below w.heap.size w w' := by
  refine (sumsEqual_any ls ls hok hok a b c d w ha hb hn hn).mono ?_
  rintro e w' ⟨rfl, q, rfl⟩
  exact ⟨by rw [decide_eq_true rfl], below_drewN (Below.refl _ _) _⟩
end Go.Proofs.YtffdkniahdekjaaDoor
end
section
namespace Go.Proofs.YtffdkniahdekjaaDoor
open Go.RowKit Go.Hoar
noncomputable def smOps (k : Nat) : Array Oper := (Tryd.f52.body.bind (opsAt k)).getD #[]
theorem own_but {w w' : World} {g base : Nat} {e : TypeId} {size : Nat} {v : Value} {n : Nat} {xs : List Value} (h : w.ownsRow base e size v n xs) (hb : But g w w') (hg : g < base) : w'.ownsRow base e size v n xs :=
  h.kept (row := some g) ⟨hb.os, hb.tape, hb.output, hb.size, fun k hk hne => hb.block k hk (fun e => hne (by rw [e]))⟩ (.inr (fun e => by have := (h.lt _ e).1; omega))
theorem xor_byte (x q : Nat) (hx : x < 256) (hq : q < 8) : ∃ z : Nat, z < 256 ∧ bits BinOp.xor IntKind.u8 (x : Int) (IntKind.u8.wrap ((2 : Int) ^ q)) = (z : Int) := by
  have key : ∀ (x : Fin 256) (q : Fin 8), 0 ≤ bits BinOp.xor IntKind.u8 (x.val : Int) (IntKind.u8.wrap ((2 : Int) ^ q.val)) ∧ bits BinOp.xor IntKind.u8 (x.val : Int) (IntKind.u8.wrap ((2 : Int) ^ q.val)) < 256 := by decide +kernel
  have := key ⟨x, hx⟩ ⟨q, hq⟩
  dsimp only at this
  exact ⟨(bits BinOp.xor IntKind.u8 (x : Int) (IntKind.u8.wrap ((2 : Int) ^ q))).toNat, by omega, by omega⟩
theorem arr32_setAt (y : List Nat) (h : y.length = 32) (p z : Nat) : (arr32 y).setIfInBounds p (.int .u8 (z : Int)) = arr32 (y.set p z) := by
  unfold arr32
  rw [List.length_set, h]
  simp [BV, List.map_set]
set_option maxRecDepth 100000 in
set_option maxHeartbeats 6000000 in
theorem some_any (g B k many : Nat) (hm : many ≤ 100) (hk : k < 1000000) (w : World) (hK : Kit w g B k) (hBw : B ≤ w.heap.size) :
    Calls Tryd.prog 52 #[.pointer (some ⟨g, 0, none⟩), .int .i64 (many : Int)] w fun e w' => ∃ (v : Value) (L : List (List Nat)), e = .returned v ∧ L.length = many ∧ SumsOk L ∧ w'.ownsRow w.heap.size 26 32 v many (L.flatMap cellsOf) ∧ Kit w' g B (k + 40 * many) ∧ But g w w' := by
  obtain ⟨i0, hi0, hz0, hz1, hz2⟩ := info_parts sumInfo3
  have hgB : g < B := hK.1
  have HK := Lib.hid hK
  clear hK
  go_enter Tryd.func52, Tryd.ntmps52
  go_wp2
  go_loopw [5, 8] (fun v i wr => ∃ (j : Nat) (vv : Value) (L : List (List Nat)), vv = v ∧ j ≤ many ∧ i = .int .i64 (j : Int) ∧ L.length = j ∧ Hid (SumsOk L) ∧ wr.ownsRow w.heap.size 26 32 vv j (L.flatMap cellsOf) ∧ Kit wr g B (k + 40 * j) ∧ But g w wr) (fun _ i _ => many - (intOf i).toNat)
  case atStart => exact ⟨0, _, [], rfl, Nat.zero_le _, rfl, rfl, Lib.hid (fun l hl => absurd hl List.not_mem_nil), World.ownsRow_nil _ _ _ _, HK.out, But.refl _ _⟩
  case round =>
    obtain ⟨j, vv, L, hvv, hj, rfl, hL, HL, hO, hKr, hB⟩ := hrel
    subst hvv
    by_cases hlt : j < many
    · obtain ⟨a6, c6, rfl, hc6, hcm6⟩ := own_shape hO
      have hBr : B ≤ wr.heap.size := Nat.le_trans hBw hB.size
      have HS := Lib.hid (sum_some g B (k + 40 * j) (by omega) wr hKr hBr)
      have HO := Lib.hid hO
      have HB := Lib.hid hB
      unfold maxLen at hcm6
      clear hO hB hKr
      go_upto_region 5 with (first
        | (go_at_call 84; (with_reducible refine HS.out.mono ?_); rintro e w1 ⟨x, rfl, hxl, hxb, hK1, hb1⟩; have HK1 := Lib.hid hK1; have HO1 := Lib.hid (own_but HO.out hb1 (by omega)); have HB1 := Lib.hid (HB.out.trans hb1); have HF := Lib.hid (fresh_sum w1); have HSz := Lib.hid (zero32_size x (by omega)); have HI := Lib.hid (arr32_info x (by omega)); have hg1 := hK1.lt; clear hK1 hb1)
        | ((with_reducible refine arm_store w1.heap.size (arr32 x) 26 zero32 HF.out HSz.out HI.out (arr32_one _) ?h5 ?h6 ?_); (case h5 => rfl); (case h6 => rfl)))
      have hlt1 : ∀ q, (Value.slice a6 j c6).ownBlock = some q → q < w1.heap.size := fun q hq => (HO1.out.lt q hq).2
      refine gen_world (P := fun W => Code.wp _ _ _ _ W) (I := fun V => Below w1.heap.size w1 V ∧ Has V w1.heap.size 26 (arr32 x) ∧ V.ownsRow w.heap.size 26 32 (.slice a6 j c6) j (L.flatMap cellsOf)) _ ⟨below_setRow ((Below.refl _ w1).alloc (Nat.le_refl _) _) (Nat.le_refl _) _, HF.out.setRow, own_setRow (HO1.out.alloc _) (fun e => by have := hlt1 _ e; omega) _⟩ ?_
      rintro V ⟨hBV, hXV, hOV⟩
      have hw1B : B ≤ w1.heap.size := by have := HB1.out.size; omega
      have hKV := HK1.out.below (hBV.mono hw1B)
      have hBut : But g w V := HB1.out.trans (But.of_below hBV)
      have hb6g : g < w1.heap.size := hg1
      have hb6w : w.heap.size ≤ w1.heap.size := HB1.out.size
      generalize w1.heap.size = b6 at *
      have HKV := Lib.hid hKV
      have HXV := Lib.hid hXV
      have HOV := Lib.hid hOV
      have HBV := Lib.hid hBut
      clear hBV hXV hOV hKV hBut HK1 HO1 HB1 HF HSz HS HO HB
      rcases Nat.eq_zero_or_pos j with hj0 | hj0
      · have hj1 : ¬ (0 : Int) < (j : Int) := by omega
        go_wp2_with (first
          | ((with_reducible refine arm_load ⟨b6, 0, none⟩ (arr32 x) _ HXV.out.row Tryd.underlying26 HI.out ?h1 ?h2 ?_); (case h1 => rfl); (case h2 => rfl))
          | ((with_reducible refine arm_slice1 26 i0 _ (arr32 x) Tryd.underlying49 hi0 hz0 (by rw [arr32_size x (by omega), hz1]) ?s1 ?s2 ?s3 ?_); (case s1 => rw [arr32_size x (by omega)]; omega); (case s2 => rw [arr32_size x (by omega)]; omega); (case s3 => rfl))
          | (at_builtin; refine wpList_append_own _ rfl _ _ 49 rfl w.heap.size 26 i0 _ 32 32 Tryd.underlying49 hi0 hz0 hz1 hz2 rfl (by decide) _ _ _ rfl (HOV.out.alloc _) ⟨V.heap.size, 0, none⟩ 1 1 (cellsOf x) rfl (by rw [cellsOf_len (by omega)]) (cell_row_new _ _ _) (cellsOf_one _) (by unfold maxLen; omega) (by omega) (by simp; have := HBV.out.size; omega) ?_; intro v' w9 hown9 hgrow9 _
             have hb9 : Below w.heap.size V w9 := ((Below.refl _ V).alloc HBV.out.size (.cells (arr32 x) 26)).grown hgrow9 (by simp; have := HBV.out.size; omega) (fun q hq => (HOV.out.lt q hq).1)
             have HO9 := Lib.hid hown9
             have HK9 := Lib.hid (HKV.out.below (hb9.mono hBw))
             have HB9 : Hid (But g w w9) := Lib.hid ⟨hb9.os.trans HBV.out.os, hb9.tape.trans HBV.out.tape, hb9.output.trans HBV.out.output, Nat.le_trans HBV.out.size hb9.size, fun q hq hne => (hb9.block q hq).trans (HBV.out.block q hq hne)⟩
             clear hown9 hgrow9 hb9))
        go_roundw
        case rel => exact ⟨j + 1, _, L ++ [x], rfl, by omega, by go_num, by simp [hL], Lib.hid (fun l hl => by rcases List.mem_append.1 hl with h | h; exact HL.out l h; rw [List.mem_singleton.1 h]; exact ⟨hxl, hxb⟩), by rw [List.flatMap_append, List.flatMap_cons, List.flatMap_nil, List.append_nil]; exact HO9.out, HK9.out.mono (by omega), HB9.out⟩
        case measure => simp [intOf]; omega
      · have hj1 : (0 : Int) < (j : Int) := by omega
        have HSd := Lib.hid (seldom_any g B (k + 40 * j + 32) (by omega) 4 (by omega) V HKV.out)
        obtain ⟨g6, rfl, hg6b, _⟩ := own_addr HOV.out hj0
        go_upto_region 6 with (first
          | (go_at_call 51; (with_reducible refine HSd.out.mono ?_); rintro e w2 ⟨b, rfl, hK2, hb2⟩; have HK2 := Lib.hid hK2; have HX2 := Lib.hid (hb2.has HXV.out (by omega)); have HO2 := Lib.hid (own_but HOV.out hb2 (by omega)); have HB2 := Lib.hid (HBV.out.trans hb2); have hg2 := hK2.lt; clear hK2 hb2; cases b)
          | ((with_reducible refine arm_load ⟨b6, 0, none⟩ (arr32 x) _ HX2.out.row Tryd.underlying26 HI.out ?h1 ?h2 ?_); (case h1 => rfl); (case h2 => rfl))
          | ((with_reducible refine arm_slice1 26 i0 _ (arr32 x) Tryd.underlying49 hi0 hz0 (by rw [arr32_size x (by omega), hz1]) ?s1 ?s2 ?s3 ?_); (case s1 => rw [arr32_size x (by omega)]; omega); (case s2 => rw [arr32_size x (by omega)]; omega); (case s3 => rfl))
          | (at_builtin; refine wpList_append_own _ rfl _ _ 49 rfl w.heap.size 26 i0 _ 32 32 Tryd.underlying49 hi0 hz0 hz1 hz2 rfl (by decide) _ _ _ rfl (HO2.out.alloc _) ⟨w2.heap.size, 0, none⟩ 1 1 (cellsOf x) rfl (by rw [cellsOf_len (by omega)]) (cell_row_new _ _ _) (cellsOf_one _) (by unfold maxLen; omega) (by omega) (by simp; have := HB2.out.size; omega) ?_; intro v' w9 hown9 hgrow9 _
             have hb9 : Below w.heap.size w2 w9 := ((Below.refl _ w2).alloc HB2.out.size (.cells (arr32 x) 26)).grown hgrow9 (by simp; have := HB2.out.size; omega) (fun q hq => (HO2.out.lt q hq).1)
             have HO9 := Lib.hid hown9
             have HK9 := Lib.hid (HK2.out.below (hb9.mono hBw))
             have HB9 : Hid (But g w w9) := Lib.hid ⟨hb9.os.trans HB2.out.os, hb9.tape.trans HB2.out.tape, hb9.output.trans HB2.out.output, Nat.le_trans HB2.out.size hb9.size, fun q hq hne => (hb9.block q hq).trans (HB2.out.block q hq hne)⟩
             clear hown9 hgrow9 hb9))
        · go_roundw
          case rel => exact ⟨j + 1, _, L ++ [x], rfl, by omega, by go_num, by simp [hL], Lib.hid (fun l hl => by rcases List.mem_append.1 hl with h | h; exact HL.out l h; rw [List.mem_singleton.1 h]; exact ⟨hxl, hxb⟩), by rw [List.flatMap_append, List.flatMap_cons, List.flatMap_nil, List.append_nil]; exact HO9.out, HK9.out.mono (by omega), HB9.out⟩
          case measure => simp [intOf]; omega
        · have HLs := Lib.hid (less_any g B (k + 40 * j + 32 + 1) (by omega) (j : Int) (by omega) w2 HK2.out)
          go_upto_region 7 with (fail)
          go_at_call 50
          (with_reducible refine HLs.out.mono ?_)
          rintro e w3 ⟨v, rfl, hv0, hv1, _, hK3, hb3⟩
          obtain ⟨v, rfl⟩ := Int.eq_ofNat_of_zero_le hv0
          have hv2 : (v : Int) < (j : Int) := hv1 (by omega)
          have hv3 : v < j := by omega
          obtain ⟨y, hy⟩ : ∃ y, L[v]? = some y := ⟨_, List.getElem?_eq_getElem (by omega)⟩
          have hyl := HL.out y (List.mem_of_getElem? hy)
          have HO3 := Lib.hid (own_but HO2.out hb3 (by omega))
          have HX3 := Lib.hid (hb3.has HX2.out (by omega))
          have HB3 := Lib.hid (HB2.out.trans hb3)
          have HK3 := Lib.hid hK3
          have HRow : Hid (∀ i u, (arr32 y)[i]? = some u → w3.cell? ((⟨g6, v * 32, none⟩ : Addr).add i) = some u) := Lib.hid (fun i u hi => by have h := HO3.out.cells (g := g6) rfl (v * 32 + i) u (flat_at L HL.out v y hy i u hi); rw [Addr.add_lit, Nat.zero_add] at h; rw [Addr.add_lit]; exact h)
          have HIy := Lib.hid (arr32_info y (by omega))
          have HSy : Hid ((arr32 x).size = (arr32 y).size) := Lib.hid ((arr32_size x (by omega)).trans (arr32_size y (by omega)).symm)
          have hvc : v < c6 := by omega
          clear hK3 hb3 hy
          go_upto_region 7 with (first
            | ((with_reducible refine arm_load ⟨g6, v * 32, none⟩ (arr32 y) _ HRow.out Tryd.underlying26 HIy.out ?h1 ?h2 ?_); (case h1 => rfl); (case h2 => rfl))
            | ((with_reducible refine arm_store b6 (arr32 y) 26 (arr32 x) HX3.out HSy.out HIy.out (arr32_one _) ?h5 ?h6 ?_); (case h5 => rfl); (case h6 => rfl)))
          have hne6 : ∀ q, (Value.slice (some ⟨g6, 0, none⟩) j c6).ownBlock = some q → q ≠ b6 := fun q hq e => by
            have h := hlt1 q hq
            omega
          refine gen_world (P := fun W => Code.wp _ _ _ _ W) (I := fun Z => Kit Z g B (k + 40 * j + 34) ∧ Has Z b6 26 (arr32 y) ∧ Z.ownsRow w.heap.size 26 32 (.slice (some ⟨g6, 0, none⟩) j c6) j (L.flatMap cellsOf) ∧ But g w Z) _ ⟨(HK3.out.below (below_setRow (Below.refl B w3) hw1B _)).mono (by omega), HX3.out.setRow, own_setRow HO3.out (fun e => hne6 _ e rfl) _, HB3.out.newRow hb6w _⟩ ?_
          rintro Z ⟨hKZ, hXZ, hOZ, hBZ⟩
          have HKZ := Lib.hid hKZ
          have HXZ := Lib.hid hXZ
          have HOZ := Lib.hid hOZ
          have HBZ := Lib.hid hBZ
          clear hKZ hXZ hOZ hBZ HK3 HX3 HO3 HB3 HRow HK2 HX2 HO2 HB2 HLs HSd
          have HSd := Lib.hid (seldom_any g B (k + 40 * j + 34) (by omega) 2 (by omega) Z HKZ.out)
          have hyl1 := hyl.1
          have hyl2 := hyl.2
          go_upto_region 8 with (first
            | (go_at_call 51; (with_reducible refine HSd.out.mono ?_); rintro e w4 ⟨b, rfl, hK2, hb2⟩; have HK4 := Lib.hid hK2; have HX4 := Lib.hid (hb2.has HXZ.out (by omega)); have HO4 := Lib.hid (own_but HOZ.out hb2 (by omega)); have HB4 := Lib.hid (HBZ.out.trans hb2); clear hK2 hb2; cases b)
            | ((with_reducible refine arm_load ⟨b6, 0, none⟩ (arr32 y) _ HX4.out.row Tryd.underlying26 HIy.out ?h1 ?h2 ?_); (case h1 => rfl); (case h2 => rfl))
            | ((with_reducible refine arm_slice1 26 i0 _ (arr32 y) Tryd.underlying49 hi0 hz0 (by rw [arr32_size y (by omega), hz1]) ?s1 ?s2 ?s3 ?_); (case s1 => rw [arr32_size y (by omega)]; omega); (case s2 => rw [arr32_size y (by omega)]; omega); (case s3 => rfl))
            | (at_builtin; refine wpList_append_own _ rfl _ _ 49 rfl w.heap.size 26 i0 _ 32 32 Tryd.underlying49 hi0 hz0 hz1 hz2 rfl (by decide) _ _ _ rfl (HO4.out.alloc _) ⟨w4.heap.size, 0, none⟩ 1 1 (cellsOf y) rfl (by rw [cellsOf_len (by omega)]) (cell_row_new _ _ _) (cellsOf_one _) (by unfold maxLen; omega) (by omega) (by simp; have := HB4.out.size; omega) ?_; intro v' w9 hown9 hgrow9 _
               have hb9 : Below w.heap.size w4 w9 := ((Below.refl _ w4).alloc HB4.out.size (.cells (arr32 y) 26)).grown hgrow9 (by simp; have := HB4.out.size; omega) (fun q hq => (HO4.out.lt q hq).1)
               have HO9 := Lib.hid hown9
               have HK9 := Lib.hid (HK4.out.below (hb9.mono hBw))
               have HB9 : Hid (But g w w9) := Lib.hid ⟨hb9.os.trans HB4.out.os, hb9.tape.trans HB4.out.tape, hb9.output.trans HB4.out.output, Nat.le_trans HB4.out.size hb9.size, fun q hq hne => (hb9.block q hq).trans (HB4.out.block q hq hne)⟩
               clear hown9 hgrow9 hb9))
          · go_roundw
            case rel => exact ⟨j + 1, _, L ++ [y], rfl, by omega, by go_num, by simp [hL], Lib.hid (fun l hl => by rcases List.mem_append.1 hl with h | h; exact HL.out l h; rw [List.mem_singleton.1 h]; exact ⟨hyl1, hyl2⟩), by rw [List.flatMap_append, List.flatMap_cons, List.flatMap_nil, List.append_nil]; exact HO9.out, HK9.out.mono (by omega), HB9.out⟩
            case measure => simp [intOf]; omega
          · go_upto_region 8 with (fail)
            change Code.wp _ (Code.region 8 (smOps 8) true) _ _ _
            refine wp_region_held (S := fun V => But g w V) (by kernel_rfl) ?_
            have hsz : (smOps 8).size = 10 := by kernel_rfl
            rw [hsz]
            clear hsz
            refine gen_world (P := fun W' => wpAnyH _ _ _ _ _ _ _ _ W') (I := fun V => Below w4.heap.size w4 V) _ (Below.refl _ w4).drew ?_
            rintro V5 hBV
            have HX5 := Lib.hid (HX4.out.below hBV HX4.out.lt)
            have HO5 := Lib.hid (own_below HO4.out hBV)
            have HB5 := Lib.hid (HB4.out.trans (But.of_below (b := g) hBV))
            have HK5 := Lib.hid (HK4.out.below (hBV.mono (Nat.le_trans hBw HB4.out.size)))
            clear hBV
            have hfr : Calls Tryd.prog 85 #[.pointer (some ⟨g, 0, none⟩), .int .i64 1, .int .i64 31] V5 fun e w' => ∃ v : Nat, e = .returned (.int .i64 (v : Int)) ∧ 1 ≤ v ∧ v ≤ 31 ∧ Kit w' g B (k + 40 * j + 34 + 1 + 1) ∧ But g V5 w' := from_any g B (k + 40 * j + 34 + 1) (by omega) 1 31 (by omega) (by omega) V5 HK5.out
            have HFr := Lib.hid hfr
            clear hfr
            refine wpAnyH_take (i := 0) (oi := ⟨some 28, _, _, _, _, _⟩) (v := ?_) rfl (by kernel_rfl) (by kernel_rfl) (by kernel_rfl) (fun _ _ _ h => h) (Or.inl ⟨by rfl, fun w' hw' => by go_simp; with_reducible rfl⟩) HB5.out ?_
            try simp only [Act.put, List.setIfInBounds_toArray, List.set_cons_succ, List.set_cons_zero]
            refine wpAnyH_take (i := 4) (oi := ⟨some 32, _, _, _, _, _⟩) (v := ?_) rfl (by kernel_rfl) (by kernel_rfl) (by kernel_rfl) (fun _ _ _ h => h) (Or.inl ⟨by rfl, fun w' hw' => by go_simp; with_reducible rfl⟩) HB5.out ?_
            try simp only [Act.put, List.setIfInBounds_toArray, List.set_cons_succ, List.set_cons_zero]
            refine wpAnyH_all (rs := [1]) (by kernel_rfl) (by simp) ?_
            intro i hi
            obtain rfl : i = 1 := by simpa using hi
            clear hi
            refine wpOp_step (o := ⟨some 29, _, _, _, _, _⟩) rfl (fun K' hK' => ?_)
            rw [if_pos (show Region.wanted _ _ = true from rfl)]
            go_simp
            (with_reducible refine HFr.out.mono ?_)
            rintro e w6 ⟨p, rfl, hp1, hp2, hKx, hbx⟩
            have HX6 := Lib.hid (hbx.has HX5.out (by omega))
            have HO6 := Lib.hid (own_but HO5.out hbx (by omega))
            have HB6 := Lib.hid (HB5.out.trans hbx)
            have HK6 := Lib.hid hKx
            clear hbx hKx
            have HLe := Lib.hid (less_any g B (k + 40 * j + 34 + 1 + 1) (by omega) 8 (by omega) w6 HK6.out)
            refine hK' _ _ ⟨HB6.out, ?_⟩
            clear hK' K'
            try simp only [Act.put, List.setIfInBounds_toArray, List.set_cons_succ, List.set_cons_zero]
            have hp3 : (p : Int) < 32 := by omega
            have hpb : p < 32 := by omega
            obtain ⟨z0, hz9⟩ : ∃ z0, z0 = y.getD p 0 := ⟨_, rfl⟩
            have hcy : (arr32 y)[p]? = some (.int .u8 (z0 : Int)) := by rw [hz9]; exact arr32_get y hyl1 p hpb
            have hz256 : z0 < 256 := by rw [hz9]; exact Sha.getD_lt hyl2 (by decide) _
            have cc6 : w6.cell? ⟨b6, p, none⟩ = some (.int .u8 (z0 : Int)) := (HX6.out.cell p).trans hcy
            have HCy := Lib.hid hcy
            clear hz9 hcy
            refine wpAnyH_take (i := 2) (oi := ⟨some 30, _, _, _, _, _⟩) (v := .pointer (some ⟨b6, p, none⟩)) rfl (by kernel_rfl) (by kernel_rfl) (by kernel_rfl) (fun _ _ _ h => h) (Or.inl ⟨by rfl, fun w' hw' => by go_simp⟩) HB6.out ?_
            try simp only [Act.put, List.setIfInBounds_toArray, List.set_cons_succ, List.set_cons_zero]
            refine wpAnyH_all (rs := [3, 5]) (by kernel_rfl) (by simp) ?_
            intro jj hjj
            have hj2 : jj = 3 ∨ jj = 5 := by simpa using hjj
            clear hjj
            rcases hj2 with rfl | rfl
            · refine wpOp_step (o := ⟨some 31, _, _, _, _, _⟩) rfl (fun K' hK' => ?_)
              rw [if_pos (show Region.wanted _ _ = true from rfl)]
              go_simp
              refine hK' _ _ ⟨HB6.out, ?_⟩
              clear hK' K'
              try simp only [Act.put, List.setIfInBounds_toArray, List.set_cons_succ, List.set_cons_zero]
              refine wpAnyH_all (rs := [5]) (by kernel_rfl) (by simp) ?_
              intro i hi
              obtain rfl : i = 5 := by simpa using hi
              clear hi
              refine wpOp_step (o := ⟨some 33, _, _, _, _, _⟩) rfl (fun K' hK' => ?_)
              rw [if_pos (show Region.wanted _ _ = true from rfl)]
              go_simp
              (with_reducible refine HLe.out.mono ?_)
              rintro e w7 ⟨q, rfl, hq0, hq1, _, hKx, hbx⟩
              obtain ⟨q, rfl⟩ := Int.eq_ofNat_of_zero_le hq0
              have hq8 : q < 8 := by have := hq1 (by omega); omega
              have HX7 := Lib.hid (hbx.has HX6.out (by omega))
              have HO7 := Lib.hid (own_but HO6.out hbx (by omega))
              have HB7 := Lib.hid (HB6.out.trans hbx)
              have HK7 := Lib.hid hKx
              clear hbx hKx
              have c7 : w7.cell? ⟨b6, p, none⟩ = some (.int .u8 (z0 : Int)) := (HX7.out.cell p).trans HCy.out
              have f7 := HX7.out.free p
              refine hK' _ _ ⟨HB7.out, ?_⟩
              clear hK' K'
              try simp only [Act.put, List.setIfInBounds_toArray, List.set_cons_succ, List.set_cons_zero]
              obtain ⟨z, hz, hzz⟩ := xor_byte z0 q hz256 hq8
              refine wpAnyH_take (i := 6) (oi := ⟨some 34, _, _, _, _, _⟩) (v := ?_) rfl (by kernel_rfl) (by kernel_rfl) (by kernel_rfl) (fun _ _ _ h => h) (Or.inl ⟨by rfl, fun w' hw' => by go_simp; with_reducible rfl⟩) HB7.out ?_
              try simp only [Act.put, List.setIfInBounds_toArray, List.set_cons_succ, List.set_cons_zero]
              refine wpAnyH_take (i := 7) (oi := ⟨some 35, _, _, _, _, _⟩) (v := .int .u8 (z : Int)) rfl (by kernel_rfl) (by kernel_rfl) (by kernel_rfl) (fun _ _ _ h => h) (Or.inl ⟨by rfl, fun w' hw' => by go_simp⟩) HB7.out ?_
              try simp only [Act.put, List.setIfInBounds_toArray, List.set_cons_succ, List.set_cons_zero]
              refine wpAnyH_take (i := 8) (oi := ⟨some 36, _, _, _, _, _⟩) (v := .pointer (some ⟨b6, p, none⟩)) rfl (by kernel_rfl) (by kernel_rfl) (by kernel_rfl) (fun _ _ _ h => h) (Or.inl ⟨by rfl, fun w' hw' => by go_simp⟩) HB7.out ?_
              try simp only [Act.put, List.setIfInBounds_toArray, List.set_cons_succ, List.set_cons_zero]
              refine wpAnyH_all (rs := [9]) (by kernel_rfl) (by simp) ?_
              intro i hi
              obtain rfl : i = 9 := by simpa using hi
              clear hi
              refine wpOp_step (o := ⟨none, _, _, _, _, _⟩) rfl (fun K' hK' => ?_)
              rw [if_pos (show Region.wanted _ _ = true from rfl)]
              go_simp
              refine hK' _ _ ⟨HB7.out.new hb6w _, ?_⟩
              clear hK' K'
              try simp only [Act.put, List.setIfInBounds_toArray, List.set_cons_succ, List.set_cons_zero]
              refine wpAnyH_done (by kernel_rfl) ?_ _
              have hyy : (y.set p z).length = 32 ∧ Sha.Bytes (y.set p z) := ⟨by rw [List.length_set, hyl1], fun v hv => (List.mem_or_eq_of_mem_set hv).elim (hyl2 v) (fun e => by rw [e]; exact hz)⟩
              refine gen_world (P := fun W => _) (I := fun Y => Kit Y g B (k + 40 * j + 38) ∧ Has Y b6 26 (arr32 (y.set p z)) ∧ Y.ownsRow w.heap.size 26 32 (.slice (some ⟨g6, 0, none⟩) j c6) j (L.flatMap cellsOf) ∧ But g w Y) _ ⟨(HK7.out.below ((Below.refl B w7).setCell hw1B _)).mono (by omega), (HX7.out.put p _).of_eq (arr32_setAt y hyl1 p z), ownsRow_setCell_other HO7.out (fun e => hne6 _ e rfl) _, HB7.out.new hb6w _⟩ ?_
              generalize y.set p z = t at hyy ⊢
              rintro w8 ⟨hK8, hX8, hO8, hB8⟩
              have HK8 := Lib.hid hK8
              have HX8 := Lib.hid hX8
              have HO8 := Lib.hid hO8
              have HB8 := Lib.hid hB8
              have hyt1 := hyy.1
              have hyt2 := hyy.2
              have HIt := Lib.hid (arr32_info t (by omega))
              clear hK8 hX8 hO8 hB8 hyy cc6 c7 f7
              go_wp2_with (first
                | ((with_reducible refine arm_load ⟨b6, 0, none⟩ (arr32 t) _ HX8.out.row Tryd.underlying26 HIt.out ?h1 ?h2 ?_); (case h1 => rfl); (case h2 => rfl))
                | ((with_reducible refine arm_slice1 26 i0 _ (arr32 t) Tryd.underlying49 hi0 hz0 (by rw [arr32_size t (by omega), hz1]) ?s1 ?s2 ?s3 ?_); (case s1 => rw [arr32_size t (by omega)]; omega); (case s2 => rw [arr32_size t (by omega)]; omega); (case s3 => rfl))
                | (at_builtin; refine wpList_append_own _ rfl _ _ 49 rfl w.heap.size 26 i0 _ 32 32 Tryd.underlying49 hi0 hz0 hz1 hz2 rfl (by decide) _ _ _ rfl (HO8.out.alloc _) ⟨w8.heap.size, 0, none⟩ 1 1 (cellsOf t) rfl (by rw [cellsOf_len (by omega)]) (cell_row_new _ _ _) (cellsOf_one _) (by unfold maxLen; omega) (by omega) (by simp; have := HB8.out.size; omega) ?_; intro v' w9 hown9 hgrow9 _
                   have hb9 : Below w.heap.size w8 w9 := ((Below.refl _ w8).alloc HB8.out.size (.cells (arr32 t) 26)).grown hgrow9 (by simp; have := HB8.out.size; omega) (fun q hq => (HO8.out.lt q hq).1)
                   have HO9 := Lib.hid hown9
                   have HK9 := Lib.hid (HK8.out.below (hb9.mono hBw))
                   have HB9 : Hid (But g w w9) := Lib.hid ⟨hb9.os.trans HB8.out.os, hb9.tape.trans HB8.out.tape, hb9.output.trans HB8.out.output, Nat.le_trans HB8.out.size hb9.size, fun q hq hne => (hb9.block q hq).trans (HB8.out.block q hq hne)⟩
                   clear hown9 hgrow9 hb9))
              go_roundw
              case rel => exact ⟨j + 1, _, L ++ [t], rfl, by omega, by go_num, by simp [hL], Lib.hid (fun l hl => by rcases List.mem_append.1 hl with h | h; exact HL.out l h; rw [List.mem_singleton.1 h]; exact ⟨hyt1, hyt2⟩), by rw [List.flatMap_append, List.flatMap_cons, List.flatMap_nil, List.append_nil]; exact HO9.out, HK9.out.mono (by omega), HB9.out⟩
              case measure => simp [intOf]; omega
            · refine wpOp_step (o := ⟨some 33, _, _, _, _, _⟩) rfl (fun K' hK' => ?_)
              rw [if_pos (show Region.wanted _ _ = true from rfl)]
              go_simp
              (with_reducible refine HLe.out.mono ?_)
              rintro e w7 ⟨q, rfl, hq0, hq1, _, hKx, hbx⟩
              obtain ⟨q, rfl⟩ := Int.eq_ofNat_of_zero_le hq0
              have hq8 : q < 8 := by have := hq1 (by omega); omega
              have HX7 := Lib.hid (hbx.has HX6.out (by omega))
              have HO7 := Lib.hid (own_but HO6.out hbx (by omega))
              have HB7 := Lib.hid (HB6.out.trans hbx)
              have HK7 := Lib.hid hKx
              clear hbx hKx
              have c7 : w7.cell? ⟨b6, p, none⟩ = some (.int .u8 (z0 : Int)) := (HX7.out.cell p).trans HCy.out
              have f7 := HX7.out.free p
              refine hK' _ _ ⟨HB7.out, ?_⟩
              clear hK' K'
              try simp only [Act.put, List.setIfInBounds_toArray, List.set_cons_succ, List.set_cons_zero]
              refine wpAnyH_take (i := 6) (oi := ⟨some 34, _, _, _, _, _⟩) (v := ?_) rfl (by kernel_rfl) (by kernel_rfl) (by kernel_rfl) (fun _ _ _ h => h) (Or.inl ⟨by rfl, fun w' hw' => by go_simp; with_reducible rfl⟩) HB7.out ?_
              try simp only [Act.put, List.setIfInBounds_toArray, List.set_cons_succ, List.set_cons_zero]
              refine wpAnyH_all (rs := [3]) (by kernel_rfl) (by simp) ?_
              intro i hi
              obtain rfl : i = 3 := by simpa using hi
              clear hi
              refine wpOp_step (o := ⟨some 31, _, _, _, _, _⟩) rfl (fun K' hK' => ?_)
              rw [if_pos (show Region.wanted _ _ = true from rfl)]
              go_simp
              refine hK' _ _ ⟨HB7.out, ?_⟩
              clear hK' K'
              try simp only [Act.put, List.setIfInBounds_toArray, List.set_cons_succ, List.set_cons_zero]
              obtain ⟨z, hz, hzz⟩ := xor_byte z0 q hz256 hq8
              refine wpAnyH_take (i := 7) (oi := ⟨some 35, _, _, _, _, _⟩) (v := .int .u8 (z : Int)) rfl (by kernel_rfl) (by kernel_rfl) (by kernel_rfl) (fun _ _ _ h => h) (Or.inl ⟨by rfl, fun w' hw' => by go_simp⟩) HB7.out ?_
              try simp only [Act.put, List.setIfInBounds_toArray, List.set_cons_succ, List.set_cons_zero]
              refine wpAnyH_take (i := 8) (oi := ⟨some 36, _, _, _, _, _⟩) (v := .pointer (some ⟨b6, p, none⟩)) rfl (by kernel_rfl) (by kernel_rfl) (by kernel_rfl) (fun _ _ _ h => h) (Or.inl ⟨by rfl, fun w' hw' => by go_simp⟩) HB7.out ?_
              try simp only [Act.put, List.setIfInBounds_toArray, List.set_cons_succ, List.set_cons_zero]
              refine wpAnyH_all (rs := [9]) (by kernel_rfl) (by simp) ?_
              intro i hi
              obtain rfl : i = 9 := by simpa using hi
              clear hi
              refine wpOp_step (o := ⟨none, _, _, _, _, _⟩) rfl (fun K' hK' => ?_)
              rw [if_pos (show Region.wanted _ _ = true from rfl)]
              go_simp
              refine hK' _ _ ⟨HB7.out.new hb6w _, ?_⟩
              clear hK' K'
              try simp only [Act.put, List.setIfInBounds_toArray, List.set_cons_succ, List.set_cons_zero]
              refine wpAnyH_done (by kernel_rfl) ?_ _
              have hyy : (y.set p z).length = 32 ∧ Sha.Bytes (y.set p z) := ⟨by rw [List.length_set, hyl1], fun v hv => (List.mem_or_eq_of_mem_set hv).elim (hyl2 v) (fun e => by rw [e]; exact hz)⟩
              refine gen_world (P := fun W => _) (I := fun Y => Kit Y g B (k + 40 * j + 38) ∧ Has Y b6 26 (arr32 (y.set p z)) ∧ Y.ownsRow w.heap.size 26 32 (.slice (some ⟨g6, 0, none⟩) j c6) j (L.flatMap cellsOf) ∧ But g w Y) _ ⟨(HK7.out.below ((Below.refl B w7).setCell hw1B _)).mono (by omega), (HX7.out.put p _).of_eq (arr32_setAt y hyl1 p z), ownsRow_setCell_other HO7.out (fun e => hne6 _ e rfl) _, HB7.out.new hb6w _⟩ ?_
              generalize y.set p z = t at hyy ⊢
              rintro w8 ⟨hK8, hX8, hO8, hB8⟩
              have HK8 := Lib.hid hK8
              have HX8 := Lib.hid hX8
              have HO8 := Lib.hid hO8
              have HB8 := Lib.hid hB8
              have hyt1 := hyy.1
              have hyt2 := hyy.2
              have HIt := Lib.hid (arr32_info t (by omega))
              clear hK8 hX8 hO8 hB8 hyy cc6 c7 f7
              go_wp2_with (first
                | ((with_reducible refine arm_load ⟨b6, 0, none⟩ (arr32 t) _ HX8.out.row Tryd.underlying26 HIt.out ?h1 ?h2 ?_); (case h1 => rfl); (case h2 => rfl))
                | ((with_reducible refine arm_slice1 26 i0 _ (arr32 t) Tryd.underlying49 hi0 hz0 (by rw [arr32_size t (by omega), hz1]) ?s1 ?s2 ?s3 ?_); (case s1 => rw [arr32_size t (by omega)]; omega); (case s2 => rw [arr32_size t (by omega)]; omega); (case s3 => rfl))
                | (at_builtin; refine wpList_append_own _ rfl _ _ 49 rfl w.heap.size 26 i0 _ 32 32 Tryd.underlying49 hi0 hz0 hz1 hz2 rfl (by decide) _ _ _ rfl (HO8.out.alloc _) ⟨w8.heap.size, 0, none⟩ 1 1 (cellsOf t) rfl (by rw [cellsOf_len (by omega)]) (cell_row_new _ _ _) (cellsOf_one _) (by unfold maxLen; omega) (by omega) (by simp; have := HB8.out.size; omega) ?_; intro v' w9 hown9 hgrow9 _
                   have hb9 : Below w.heap.size w8 w9 := ((Below.refl _ w8).alloc HB8.out.size (.cells (arr32 t) 26)).grown hgrow9 (by simp; have := HB8.out.size; omega) (fun q hq => (HO8.out.lt q hq).1)
                   have HO9 := Lib.hid hown9
                   have HK9 := Lib.hid (HK8.out.below (hb9.mono hBw))
                   have HB9 : Hid (But g w w9) := Lib.hid ⟨hb9.os.trans HB8.out.os, hb9.tape.trans HB8.out.tape, hb9.output.trans HB8.out.output, Nat.le_trans HB8.out.size hb9.size, fun q hq hne => (hb9.block q hq).trans (HB8.out.block q hq hne)⟩
                   clear hown9 hgrow9 hb9))
              go_roundw
              case rel => exact ⟨j + 1, _, L ++ [t], rfl, by omega, by go_num, by simp [hL], Lib.hid (fun l hl => by rcases List.mem_append.1 hl with h | h; exact HL.out l h; rw [List.mem_singleton.1 h]; exact ⟨hyt1, hyt2⟩), by rw [List.flatMap_append, List.flatMap_cons, List.flatMap_nil, List.append_nil]; exact HO9.out, HK9.out.mono (by omega), HB9.out⟩
              case measure => simp [intOf]; omega
    · obtain rfl : j = many := by omega
      have HO := Lib.hid hO
      have HB := Lib.hid hB
      have HKr := Lib.hid hKr
      clear hO hB hKr
      go_wp2
      go_ret
      exact ⟨_, L, rfl, hL, HL.out, HO.out, HKr.out, HB.out⟩
end Go.Proofs.YtffdkniahdekjaaDoor
end
section
namespace Go.Proofs.YtffdkniahdekjaaDoor
open Go.RowKit Go.Hoar
/-- The way of a place, list by list. -/
def refWay : Nat → List (List Nat) → Nat → List (List Nat)
  | 0, _, _ => []
  | f + 1, ls, i =>
    if ls.length ≤ 1 then []
    else if i < halfOf ls.length then refWay f (ls.take (halfOf ls.length)) i ++ [listOf ((ls.drop (halfOf ls.length)).length + 1) (ls.drop (halfOf ls.length))]
    else refWay f (ls.drop (halfOf ls.length)) (i - halfOf ls.length) ++ [listOf ((ls.take (halfOf ls.length)).length + 1) (ls.take (halfOf ls.length))]
theorem refWay_one (f : Nat) (ls : List (List Nat)) (i : Nat) (h : ls.length ≤ 1) : refWay f ls i = [] := by
  cases f with
  | zero => rfl
  | succ f => rw [refWay, if_pos h]
theorem ways_ref (ls0 : List (List Nat)) (hn : ls0.length ≤ 1073741824) : ∀ (f a b i : Nat), b ≤ ls0.length → a ≤ i → (spansF f a b i).reverse.map (spanSum ls0) = refWay f ((ls0.drop a).take (b - a)) (i - a)
  | 0, _, _, _, _, _ => rfl
  | f + 1, a, b, i, hb, hai => by
    have hlen : ((ls0.drop a).take (b - a)).length = b - a := by rw [List.length_take, List.length_drop]; omega
    by_cases h : a + 2 ≤ b
    · obtain ⟨_, b2, _⟩ := halfOf_bounds (n := b - a) (by omega) (by omega)
      have b0 : 0 < halfOf (b - a) := halfOf_pos _
      obtain ⟨m, hm⟩ : ∃ m, m = halfOf (b - a) := ⟨_, rfl⟩
      rw [← hm] at b2 b0
      have htake : ((ls0.drop a).take (b - a)).take m = (ls0.drop a).take (a + m - a) := by rw [List.take_take, Nat.add_sub_cancel_left, Nat.min_eq_left (by omega)]
      have hdrop : ((ls0.drop a).take (b - a)).drop m = (ls0.drop (a + m)).take (b - (a + m)) := by
        rw [List.drop_take, List.drop_drop]
        congr 1
        omega
      by_cases hi : i < a + m
      · have hi2 : i - a < m := by omega
        rw [spansF_left h (by rw [← hm]; exact hi), ← hm, List.reverse_cons, List.map_append, ways_ref ls0 hn f a (a + m) i (by omega) hai, refWay, hlen, ← hm, if_neg (by omega), if_pos hi2, htake, hdrop, List.map_cons, List.map_nil]
        congr 2
        rw [spanSum, List.length_take, List.length_drop]
        congr 2
        dsimp only
        omega
      · have hi2 : ¬ i - a < m := by omega
        rw [spansF_right h (by rw [← hm]; exact hi), ← hm, List.reverse_cons, List.map_append, ways_ref ls0 hn f (a + m) b i hb (by omega), refWay, hlen, ← hm, if_neg (by omega), if_neg hi2, htake, hdrop, List.map_cons, List.map_nil, show i - (a + m) = i - a - m by omega]
        congr 2
        rw [spanSum, List.length_take, List.length_drop]
        congr 2
        dsimp only
        omega
    · rw [spansF, if_pos (by omega), refWay, hlen, if_pos (by omega)]
      rfl
/-- The way of a place in a list. -/
theorem ways_list (ls : List (List Nat)) (hn : ls.length ≤ 1073741824) (i : Nat) : (waysOf ls.length i).map (spanSum ls) = refWay ls.length ls i := by
  have := ways_ref ls hn ls.length 0 ls.length i (Nat.le_refl _) (Nat.zero_le _)
  rw [List.drop_zero, Nat.sub_zero, Nat.sub_zero, List.take_length] at this
  exact this
/-- What a way leads to from a digest at a place, and whether it is as long as it must be; beside it the digest that it is where the way ends too early. -/
def climb : Nat → Nat → Nat → List Nat → List (List Nat) → List Nat × Bool
  | 0, _, _, _, _ => ([], false)
  | f + 1, n, i, x, way =>
    if n ≤ 1 then (Sha.sha (1 :: x), decide (way.length = 0))
    else match way.getLast? with
      | none => (List.replicate 32 0, false)
      | some last =>
        if i < halfOf n then (Sha.sha (2 :: ((climb f (halfOf n) i x way.dropLast).1 ++ last)), (climb f (halfOf n) i x way.dropLast).2)
        else (Sha.sha (2 :: (last ++ (climb f (n - halfOf n) (i - halfOf n) x way.dropLast).1)), (climb f (n - halfOf n) (i - halfOf n) x way.dropLast).2)
/-- One step up. -/
def upStep (i : Nat) (up : List Nat) (s : (Nat × Nat) × List Nat) : List Nat := if i < s.1.1 then Sha.sha (2 :: (up ++ s.2)) else Sha.sha (2 :: (s.2 ++ up))
/-- All steps up. -/
def upAll (i : Nat) (x : List Nat) (ps : List (Nat × Nat)) (way : List (List Nat)) : List Nat := (ps.zip way).foldl (upStep i) (Sha.sha (1 :: x))
theorem upAll_snoc (i : Nat) (x : List Nat) (ps : List (Nat × Nat)) (p : Nat × Nat) (way : List (List Nat)) (l : List Nat) (h : ps.length = way.length) : upAll i x (ps ++ [p]) (way ++ [l]) = upStep i (upAll i x ps way) (p, l) := by
  rw [upAll, upAll, List.zip_append h, List.foldl_append]
  rfl
theorem climb_up (x : List Nat) : ∀ (f a b i : Nat), b - a < f → b ≤ 1073741824 → a ≤ i → i < b → ∀ way : List (List Nat),
    (climb f (b - a) (i - a) x way).2 = decide (way.length = (spansF f a b i).length) ∧ (way.length = (spansF f a b i).length → (climb f (b - a) (i - a) x way).1 = upAll i x (spansF f a b i).reverse way)
  | 0, _, _, _, h, _, _, _, _ => absurd h (Nat.not_lt_zero _)
  | f + 1, a, b, i, hf, hb, hai, hib, way => by
    by_cases h : a + 2 ≤ b
    · obtain ⟨_, b2, _⟩ := halfOf_bounds (n := b - a) (by omega) (by omega)
      have b0 : 0 < halfOf (b - a) := halfOf_pos _
      obtain ⟨m, hm⟩ : ∃ m, m = halfOf (b - a) := ⟨_, rfl⟩
      rw [← hm] at b2 b0
      rcases List.eq_nil_or_concat way with rfl | ⟨way', last, rfl⟩
      · have hn : (spansF (f + 1) a b i).length ≠ 0 := by
          by_cases hi : i < a + m
          · rw [spansF_left h (by rw [← hm]; exact hi)]; simp
          · rw [spansF_right h (by rw [← hm]; exact hi)]; simp
        rw [climb, if_neg (by omega)]
        simp only [List.getLast?_nil, List.length_nil]
        exact ⟨(decide_eq_false (fun e => hn e.symm)).symm, fun e => absurd e.symm hn⟩
      · rw [climb, if_neg (by omega)]
        simp only [List.concat_eq_append, List.getLast?_concat, List.dropLast_concat, ← hm]
        by_cases hi : i < a + m
        · have hi2 : i - a < m := by omega
          obtain ⟨h1, h2⟩ := climb_up x f a (a + m) i (by omega) (by omega) hai hi way'
          rw [Nat.add_sub_cancel_left] at h1 h2
          rw [spansF_left h (by rw [← hm]; exact hi), ← hm, if_pos hi2, List.length_cons, List.length_append, List.length_cons, List.length_nil]
          refine ⟨by rw [h1]; simp, fun e => ?_⟩
          have e2 : way'.length = (spansF f a (a + m) i).length := by omega
          rw [List.reverse_cons, upAll_snoc _ _ _ _ _ _ (by rw [List.length_reverse]; exact e2.symm), ← h2 e2, upStep, if_pos hi]
        · have hi2 : ¬ i - a < m := by omega
          obtain ⟨h1, h2⟩ := climb_up x f (a + m) b i (by omega) hb (by omega) hib way'
          rw [show b - (a + m) = b - a - m by omega, show i - (a + m) = i - a - m by omega] at h1 h2
          rw [spansF_right h (by rw [← hm]; exact hi), ← hm, if_neg hi2, List.length_cons, List.length_append, List.length_cons, List.length_nil]
          refine ⟨by rw [h1]; simp, fun e => ?_⟩
          have e2 : way'.length = (spansF f (a + m) b i).length := by omega
          rw [List.reverse_cons, upAll_snoc _ _ _ _ _ _ (by rw [List.length_reverse]; exact e2.symm), ← h2 e2, upStep, if_neg (by dsimp only; omega)]
    · rw [climb, if_pos (by omega), spansF, if_pos (by omega)]
      refine ⟨rfl, fun e => ?_⟩
      obtain rfl := List.length_eq_zero_iff.1 e
      rfl
theorem spansF_more : ∀ (f a b i : Nat), b - a ≤ f → b ≤ 1073741824 → spansF (f + 1) a b i = spansF f a b i
  | 0, a, b, i, h, _ => by
    show (if b ≤ a + 1 then [] else _) = _
    rw [if_pos (by omega)]
    rfl
  | f + 1, a, b, i, h, hb => by
    by_cases h2 : a + 2 ≤ b
    · obtain ⟨_, b2, _⟩ := halfOf_bounds (n := b - a) (by omega) (by omega)
      have b0 : 0 < halfOf (b - a) := halfOf_pos _
      by_cases hi : i < a + halfOf (b - a)
      · rw [spansF_left h2 hi, spansF_left h2 hi, spansF_more f _ _ i (by omega) (by omega)]
      · rw [spansF_right h2 hi, spansF_right h2 hi, spansF_more f _ _ i (by omega) (by omega)]
    · rw [spansF, if_pos (by omega), spansF, if_pos (by omega)]
theorem climb_ways (x : List Nat) (n i : Nat) (hi : i < n) (hn : n ≤ 1073741824) (way : List (List Nat)) :
    (climb (n + 1) n i x way).2 = decide (way.length = (waysOf n i).length) ∧ (way.length = (waysOf n i).length → (climb (n + 1) n i x way).1 = upAll i x (waysOf n i) way) := by
  have h := climb_up x (n + 1) 0 n i (by omega) hn (Nat.zero_le _) hi way
  rw [Nat.sub_zero, Nat.sub_zero] at h
  have e : spansF (n + 1) 0 n i = spansF n 0 n i := spansF_more n 0 n i (by omega) (by omega)
  rw [e] at h
  rw [waysOf, List.length_reverse]
  exact h
end Go.Proofs.YtffdkniahdekjaaDoor
end
section
namespace Go.Proofs.YtffdkniahdekjaaDoor
open Go.RowKit Go.Hoar
/-- The digest of a list. -/
def rootOf (ls : List (List Nat)) : List Nat := listOf (ls.length + 1) ls
theorem rootOf_len (ls : List (List Nat)) : (rootOf ls).length = 32 ∧ Sha.Bytes (rootOf ls) := listOf_len _ _
theorem listOf_fuel : ∀ (f g : Nat) (ls : List (List Nat)), ls.length < f → ls.length < g → ls.length ≤ 1000000 → listOf f ls = listOf g ls
  | 0, _, _, h, _, _ => absurd h (Nat.not_lt_zero _)
  | _ + 1, 0, _, _, h, _ => absurd h (Nat.not_lt_zero _)
  | f + 1, g + 1, [], _, _, _ => by rw [listOf, listOf]
  | f + 1, g + 1, [x], _, _, _ => by rw [listOf, listOf]
  | f + 1, g + 1, x :: y :: r, hf, hg, hb => by
    have hl : (x :: y :: r).length = r.length + 2 := rfl
    obtain ⟨_, b2, _⟩ := halfOf_bounds (n := r.length + 2) (by omega) (by omega)
    have b1 := halfOf_pos (r.length + 2)
    rw [listOf, listOf]
    generalize halfOf (r.length + 2) = p at *
    have h1 : ((x :: y :: r).take p).length = p := by rw [List.length_take]; omega
    have h2 : ((x :: y :: r).drop p).length = r.length + 2 - p := by rw [List.length_drop]; rfl
    rw [listOf_fuel f g _ (by omega) (by omega) (by omega), listOf_fuel f g ((x :: y :: r).drop p) (by omega) (by omega) (by omega)]
theorem rootOf_none : rootOf [] = Sha.sha [0] := by rw [rootOf, List.length_nil, listOf]
theorem rootOf_one (x : List Nat) : rootOf [x] = Sha.sha (1 :: x) := by rw [rootOf]; rfl
theorem rootOf_many (ls : List (List Nat)) (h2 : 2 ≤ ls.length) (hb : ls.length ≤ 1000000) : rootOf ls = Sha.sha (2 :: (rootOf (ls.take (halfOf ls.length)) ++ rootOf (ls.drop (halfOf ls.length)))) := by
  obtain ⟨_, b2, _⟩ := halfOf_bounds (n := ls.length) h2 (by omega)
  have b1 := halfOf_pos ls.length
  match ls, h2, hb, b2, b1 with
  | [], h2, _, _, _ => simp at h2
  | [_], h2, _, _, _ => simp at h2
  | x :: y :: r, _, hb, b2, b1 =>
    have hl : (x :: y :: r).length = r.length + 2 := rfl
    rw [rootOf, hl, listOf, rootOf, rootOf]
    rw [hl] at b2 b1
    generalize halfOf (r.length + 2) = p at *
    have h1 : ((x :: y :: r).take p).length = p := by rw [List.length_take]; omega
    have h2 : ((x :: y :: r).drop p).length = r.length + 2 - p := by rw [List.length_drop]; rfl
    rw [listOf_fuel (r.length + 2) (((x :: y :: r).take p).length + 1) _ (by omega) (by omega) (by omega), listOf_fuel (r.length + 2) (((x :: y :: r).drop p).length + 1) _ (by omega) (by omega) (by omega)]
/-- The greatest power of 2 below a number is the one that lies so. -/
theorem halfOf_is (n k : Nat) (h1 : 2 ^ k < n) (h2 : n ≤ 2 * 2 ^ k) (hb : n ≤ 1000000) : halfOf n = 2 ^ k := by
  have hp : 0 < 2 ^ k := Nat.two_pow_pos k
  obtain ⟨_, b2, b3⟩ := halfOf_bounds (n := n) (by omega) (by omega)
  obtain ⟨j, hj⟩ : ∃ j, halfOf n = 2 ^ j := ⟨_, rfl⟩
  rw [hj] at b2 b3 ⊢
  rcases Nat.lt_trichotomy j k with h | h | h
  · have : 2 ^ (j + 1) ≤ 2 ^ k := Nat.pow_le_pow_right (by decide) h
    rw [Nat.pow_succ] at this
    omega
  · rw [h]
  · have : 2 ^ (k + 1) ≤ 2 ^ j := Nat.pow_le_pow_right (by decide) h
    rw [Nat.pow_succ] at this
    omega
/-- The peaks of a list, from the greatest one on. -/
def peaksK : Nat → List (List Nat) → List (List Nat)
  | 0, _ => []
  | k + 1, ls => if 2 ^ k ≤ ls.length then rootOf (ls.take (2 ^ k)) :: peaksK k (ls.drop (2 ^ k)) else peaksK k ls
theorem peaksK_nil : ∀ k, peaksK k [] = []
  | 0 => rfl
  | k + 1 => by
    have hp : 0 < 2 ^ k := Nat.two_pow_pos k
    rw [peaksK, if_neg (by rw [List.length_nil]; omega), peaksK_nil k]
theorem peaksK_ok : ∀ (k : Nat) (ls : List (List Nat)), SumsOk (peaksK k ls)
  | 0, _ => fun _ h => absurd h List.not_mem_nil
  | k + 1, ls => by
    rw [peaksK]
    split
    · intro l hl
      rcases List.mem_cons.1 hl with rfl | hl
      · exact rootOf_len _
      · exact peaksK_ok k _ l hl
    · exact peaksK_ok k ls
theorem ones_top (k r : Nat) (hr : r < 2 ^ k) (hk : k < 31) : ones (2 ^ k + r) = 1 + ones r := by
  induction k generalizing r with
  | zero =>
    obtain rfl : r = 0 := by simpa using hr
    decide
  | succ k ih =>
    have h1 : 2 ^ (k + 1) ≤ 2 ^ 31 := Nat.pow_le_pow_right (by decide) (by omega)
    rw [Nat.pow_succ] at *
    rw [ones_step (2 ^ k * 2 + r) (by omega), ones_step r (by omega), show (2 ^ k * 2 + r) % 2 = r % 2 by omega, show (2 ^ k * 2 + r) / 2 = 2 ^ k + r / 2 by omega, ih (r / 2) (by omega) (by omega)]
    omega
theorem ones_zero : ones 0 = 0 := onesF_zero 32
theorem peaksK_len : ∀ (k : Nat) (ls : List (List Nat)), k < 31 → ls.length < 2 ^ k → (peaksK k ls).length = ones ls.length
  | 0, ls, _, h => by
    have h0 : ls.length = 0 := by simpa using h
    rw [h0, ones_zero]; rfl
  | k + 1, ls, hk, h => by
    rw [Nat.pow_succ] at h
    rw [peaksK]
    split
    · next hp =>
      have hd : (ls.drop (2 ^ k)).length = ls.length - 2 ^ k := List.length_drop
      rw [List.length_cons, peaksK_len k _ (by omega) (by omega), hd]
      have := ones_top k (ls.length - 2 ^ k) (by omega) (by omega)
      rw [show 2 ^ k + (ls.length - 2 ^ k) = ls.length by omega] at this
      omega
    · exact peaksK_len k ls (by omega) (by omega)
/-- What the peaks are together. -/
def topOf : List (List Nat) → List Nat
  | [] => Sha.sha [0]
  | [p] => p
  | p :: q :: r => Sha.sha (2 :: (p ++ topOf (q :: r)))
theorem topOf_cons (p : List Nat) (l : List (List Nat)) (h : l ≠ []) : topOf (p :: l) = Sha.sha (2 :: (p ++ topOf l)) := by
  cases l with
  | nil => exact absurd rfl h
  | cons q r => rfl
theorem peaksK_ne : ∀ (k : Nat) (ls : List (List Nat)), ls.length < 2 ^ k → ls ≠ [] → peaksK k ls ≠ []
  | 0, ls, h, hn => absurd (List.length_eq_zero_iff.1 (by simpa using h)) hn
  | k + 1, ls, h, hn => by
    rw [peaksK]
    split
    · exact List.cons_ne_nil _ _
    · exact peaksK_ne k ls (by omega) hn
theorem top_peaks : ∀ (k : Nat) (ls : List (List Nat)), k < 19 → ls.length < 2 ^ k → topOf (peaksK k ls) = rootOf ls
  | 0, ls, _, h => by
    obtain rfl : ls = [] := List.length_eq_zero_iff.1 (by simpa using h)
    rw [rootOf_none]; rfl
  | k + 1, ls, hk, h => by
    have hpw : 2 ^ k ≤ 2 ^ 17 := Nat.pow_le_pow_right (by decide) (by omega)
    rw [Nat.pow_succ] at h
    rw [peaksK]
    split
    · next hp =>
      have hd : (ls.drop (2 ^ k)).length = ls.length - 2 ^ k := List.length_drop
      by_cases he : ls.length = 2 ^ k
      · have e1 : ls.drop (2 ^ k) = [] := List.length_eq_zero_iff.1 (by omega)
        have e2 : ls.take (2 ^ k) = ls := List.take_of_length_le (by omega)
        rw [e1, e2, peaksK_nil]
        rfl
      · have hne : ls.drop (2 ^ k) ≠ [] := fun e => by rw [e, List.length_nil] at hd; omega
        rw [topOf_cons _ _ (peaksK_ne k _ (by omega) hne), top_peaks k _ (by omega) (by omega), rootOf_many ls (by have := Nat.two_pow_pos k; omega) (by omega), halfOf_is ls.length k (by omega) (by omega) (by omega)]
    · exact top_peaks k ls (by omega) (by omega)
theorem getLastD_cons {P : List Nat} {ps : List (List Nat)} (h : ps ≠ []) : (P :: ps).getLastD [] = ps.getLastD [] ∧ (P :: ps).dropLast = P :: ps.dropLast := by
  cases ps with
  | nil => exact absurd rfl h
  | cons q r => exact ⟨by simp, rfl⟩
theorem grow_under (P : List Nat) : ∀ (f k r : Nat) (ps : List (List Nat)) (pk : List Nat), r + 1 < 2 ^ k → k < 31 → ps.length = ones r → growOf f (2 ^ k + r) (P :: ps) pk = P :: growOf f r ps pk
  | 0, k, r, ps, pk, _, _, _ => by rw [growOf, growOf]; rfl
  | f + 1, 0, r, ps, pk, h, _, _ => by simp at h
  | f + 1, k + 1, r, ps, pk, h, hk, hl => by
    have hpw : 2 ^ (k + 1) ≤ 2 ^ 31 := Nat.pow_le_pow_right (by decide) (by omega)
    rw [Nat.pow_succ] at *
    rw [growOf, growOf, show (2 ^ k * 2 + r) % 2 = r % 2 by omega]
    split
    · next ho =>
      rw [ones_step r (by omega)] at hl
      have hne : ps ≠ [] := fun e => by rw [e, List.length_nil] at hl; omega
      obtain ⟨e1, e2⟩ := getLastD_cons (P := P) hne
      rw [e1, e2, show (2 ^ k * 2 + r) / 2 = 2 ^ k + r / 2 by omega]
      exact grow_under P f k (r / 2) _ _ (by omega) (by omega) (by rw [List.length_dropLast]; omega)
    · rfl
theorem grow_over (P : List Nat) : ∀ (k f r : Nat) (ps : List (List Nat)) (pk y : List Nat), r + 1 = 2 ^ k → k < 31 → k < f → ps.length = ones r → growOf f r ps pk = [y] → growOf f (2 ^ k + r) (P :: ps) pk = [Sha.sha (2 :: (P ++ y))]
  | _, 0, _, _, _, _, _, _, h, _, _ => absurd h (Nat.not_lt_zero _)
  | 0, f + 1, r, ps, pk, y, h, _, _, hl, hg => by
    obtain rfl : r = 0 := by simpa using h
    rw [ones_zero] at hl
    obtain rfl := List.length_eq_zero_iff.1 hl
    rw [growOf, if_neg (by decide), List.nil_append] at hg
    obtain rfl : pk = y := by simpa using hg
    rw [growOf, if_pos (by decide)]
    cases f with
    | zero => rw [growOf]; rfl
    | succ f => rw [growOf, if_neg (by decide)]; rfl
  | k + 1, f + 1, r, ps, pk, y, h, hk, hf, hl, hg => by
    have hpw : 2 ^ (k + 1) ≤ 2 ^ 31 := Nat.pow_le_pow_right (by decide) (by omega)
    have h0 := Nat.two_pow_pos k
    rw [Nat.pow_succ] at *
    rw [ones_step r (by omega)] at hl
    have hne : ps ≠ [] := fun e => by rw [e, List.length_nil] at hl; omega
    obtain ⟨e1, e2⟩ := getLastD_cons (P := P) hne
    rw [growOf, if_pos (by omega)] at hg
    rw [growOf, if_pos (by omega), e1, e2, show (2 ^ k * 2 + r) / 2 = 2 ^ k + r / 2 by omega]
    exact grow_over P k f (r / 2) _ _ y (by omega) (by omega) (by omega) (by rw [List.length_dropLast]; omega) hg
/-- A tree that grows by one digest. -/
theorem grow_peaks (x : List Nat) (f : Nat) : ∀ (k : Nat) (ls : List (List Nat)), k < 19 → k < f →
    (ls.length + 1 < 2 ^ k → growOf f ls.length (peaksK k ls) (Sha.sha (1 :: x)) = peaksK k (ls ++ [x])) ∧
    (ls.length + 1 = 2 ^ k → growOf f ls.length (peaksK k ls) (Sha.sha (1 :: x)) = [rootOf (ls ++ [x])])
  | 0, ls, _, hf => by
    refine ⟨fun h => by simp at h, fun h => ?_⟩
    obtain rfl : ls = [] := List.length_eq_zero_iff.1 (by simpa using h)
    rw [List.nil_append, rootOf_one]
    cases f with
    | zero => exact absurd hf (Nat.not_lt_zero _)
    | succ f => rw [List.length_nil, growOf, if_neg (by decide)]; rfl
  | k + 1, ls, hk, hf => by
    have hpw : 2 ^ k ≤ 2 ^ 18 := Nat.pow_le_pow_right (by decide) (by omega)
    have h0 := Nat.two_pow_pos k
    have hl1 : (ls ++ [x]).length = ls.length + 1 := by simp
    rw [Nat.pow_succ]
    by_cases hp : 2 ^ k ≤ ls.length
    · have hd : (ls.drop (2 ^ k)).length = ls.length - 2 ^ k := List.length_drop
      have e1 : (ls ++ [x]).take (2 ^ k) = ls.take (2 ^ k) := List.take_append_of_le_length hp
      have e2 : (ls ++ [x]).drop (2 ^ k) = ls.drop (2 ^ k) ++ [x] := List.drop_append_of_le_length hp
      obtain ⟨i1, i2⟩ := grow_peaks x f k (ls.drop (2 ^ k)) (by omega) (by omega)
      rw [hd] at i1 i2
      have el : ls.length = 2 ^ k + (ls.length - 2 ^ k) := by omega
      refine ⟨fun h => ?_, fun h => ?_⟩
      · rw [peaksK, if_pos hp, peaksK, if_pos (by omega), e1, e2, ← i1 (by omega)]
        have := grow_under (rootOf (ls.take (2 ^ k))) f k (ls.length - 2 ^ k) (peaksK k (ls.drop (2 ^ k))) (Sha.sha (1 :: x)) (by omega) (by omega) (by rw [peaksK_len k _ (by omega) (by omega), hd])
        rwa [← el] at this
      · rw [peaksK, if_pos hp, rootOf_many (ls ++ [x]) (by omega) (by omega), halfOf_is (ls ++ [x]).length k (by omega) (by omega) (by omega), e1, e2]
        have := grow_over (rootOf (ls.take (2 ^ k))) k f (ls.length - 2 ^ k) (peaksK k (ls.drop (2 ^ k))) (Sha.sha (1 :: x)) _ (by omega) (by omega) (by omega) (by rw [peaksK_len k _ (by omega) (by omega), hd]) (i2 (by omega))
        rwa [← el] at this
    · obtain ⟨i1, i2⟩ := grow_peaks x f k ls (by omega) (by omega)
      refine ⟨fun h => ?_, fun h => by omega⟩
      rw [peaksK, if_neg hp]
      by_cases hq : ls.length + 1 = 2 ^ k
      · have e1 : (ls ++ [x]).take (2 ^ k) = ls ++ [x] := List.take_of_length_le (by omega)
        have e2 : (ls ++ [x]).drop (2 ^ k) = [] := List.drop_eq_nil_of_le (by omega)
        rw [peaksK, if_pos (by omega), e1, e2, peaksK_nil]
        exact i2 hq
      · rw [peaksK, if_neg (by omega)]
        exact i1 (by omega)
/-- The lists of bytes that are made for the digest of a list. -/
def madeOf : Nat → List (List Nat) → List (List Nat)
  | 0, _ => []
  | f + 1, ls =>
    match ls with
    | [] => [[0]]
    | [x] => [1 :: x]
    | x :: y :: r => ((2 :: (rootOf ((x :: y :: r).take (halfOf (r.length + 2))) ++ rootOf ((x :: y :: r).drop (halfOf (r.length + 2))))) :: madeOf f ((x :: y :: r).take (halfOf (r.length + 2)))) ++ madeOf f ((x :: y :: r).drop (halfOf (r.length + 2)))
theorem madeOf_many (f : Nat) (ls : List (List Nat)) (h2 : 2 ≤ ls.length) : madeOf (f + 1) ls = ((2 :: (rootOf (ls.take (halfOf ls.length)) ++ rootOf (ls.drop (halfOf ls.length)))) :: madeOf f (ls.take (halfOf ls.length))) ++ madeOf f (ls.drop (halfOf ls.length)) := by
  match ls, h2 with
  | [], h2 => simp at h2
  | [_], h2 => simp at h2
  | x :: y :: r, _ => rfl
/-- The first one of them. -/
def headOf (ls : List (List Nat)) : List Nat :=
  match ls with
  | [] => [0]
  | [x] => 1 :: x
  | x :: y :: r => 2 :: (rootOf ((x :: y :: r).take (halfOf (r.length + 2))) ++ rootOf ((x :: y :: r).drop (halfOf (r.length + 2))))
theorem headOf_many (ls : List (List Nat)) (h2 : 2 ≤ ls.length) : headOf ls = 2 :: (rootOf (ls.take (halfOf ls.length)) ++ rootOf (ls.drop (halfOf ls.length))) := by
  match ls, h2 with
  | [], h2 => simp at h2
  | [_], h2 => simp at h2
  | x :: y :: r, _ => rfl
theorem headOf_sha (ls : List (List Nat)) (hb : ls.length ≤ 1000000) : Sha.sha (headOf ls) = rootOf ls := by
  match ls, hb with
  | [], _ => rw [rootOf_none]; rfl
  | [x], _ => rw [rootOf_one]; rfl
  | x :: y :: r, hb =>
    have h2 : 2 ≤ (x :: y :: r).length := by simp
    rw [rootOf_many _ h2 hb, headOf_many _ h2]
theorem headOf_mem (f : Nat) (ls : List (List Nat)) : headOf ls ∈ madeOf (f + 1) ls := by
  match ls with
  | [] => exact List.mem_singleton.2 rfl
  | [x] => exact List.mem_singleton.2 rfl
  | x :: y :: r =>
    have h2 : 2 ≤ (x :: y :: r).length := by simp
    rw [madeOf_many f _ h2, headOf_many _ h2]
    exact List.mem_append_left _ List.mem_cons_self
/-- Two unlike lists with one digest: among what is made for them are two unlike lists of bytes with one digest. -/
theorem clash_of : ∀ (f : Nat) (l m : List (List Nat)), l.length < f → m.length < f → l.length ≤ 1000000 → m.length ≤ 1000000 → l ≠ m → rootOf l = rootOf m → ∃ b ∈ madeOf f l, ∃ d ∈ madeOf f m, b ≠ d ∧ Sha.sha b = Sha.sha d
  | 0, _, _, h, _, _, _, _, _ => absurd h (Nat.not_lt_zero _)
  | f + 1, l, m, hl, hm, bl, bm, hne, he => by
    by_cases hh : headOf l = headOf m
    · rcases Nat.lt_or_ge l.length 2 with h1 | h1
      · match l, h1, hne, hh with
        | [], _, hne, hh =>
          match m, hne, hh with
          | [], hne, _ => exact absurd rfl hne
          | [y], _, hh => cases hh
          | y :: z :: r, _, hh => cases hh
        | [x], _, hne, hh =>
          match m, hne, hh with
          | [], _, hh => cases hh
          | [y], hne, hh =>
            injection hh with _ hh
            exact absurd (by rw [hh]) hne
          | y :: z :: r, _, hh => cases hh
      · rcases Nat.lt_or_ge m.length 2 with h2 | h2
        · match m, h2, hh with
          | [], _, hh => rw [headOf_many l h1] at hh; cases hh
          | [y], _, hh => rw [headOf_many l h1] at hh; cases hh
        · rw [headOf_many l h1, headOf_many m h2] at hh
          obtain ⟨_, b2, _⟩ := halfOf_bounds (n := l.length) h1 (by omega)
          obtain ⟨_, c2, _⟩ := halfOf_bounds (n := m.length) h2 (by omega)
          have b1 := halfOf_pos l.length
          have c1 := halfOf_pos m.length
          rw [madeOf_many f l h1, madeOf_many f m h2]
          generalize halfOf l.length = p at *
          generalize halfOf m.length = q at *
          injection hh with _ hh
          obtain ⟨e1, e2⟩ := List.append_inj hh (by rw [(rootOf_len _).1, (rootOf_len _).1])
          have l1 : (l.take p).length = p := by rw [List.length_take]; omega
          have l2 : (l.drop p).length = l.length - p := List.length_drop
          have m1 : (m.take q).length = q := by rw [List.length_take]; omega
          have m2 : (m.drop q).length = m.length - q := List.length_drop
          by_cases ht : l.take p = m.take q
          · have hd : l.drop p ≠ m.drop q := fun e => hne (by rw [← List.take_append_drop p l, ← List.take_append_drop q m, ht, e])
            obtain ⟨b, hb, d, hdm, h3, h4⟩ := clash_of f _ _ (by omega) (by omega) (by omega) (by omega) hd e2
            exact ⟨b, List.mem_append_right _ hb, d, List.mem_append_right _ hdm, h3, h4⟩
          · obtain ⟨b, hb, d, hdm, h3, h4⟩ := clash_of f _ _ (by omega) (by omega) (by omega) (by omega) ht e1
            exact ⟨b, List.mem_append_left _ (List.mem_cons_of_mem _ hb), d, List.mem_append_left _ (List.mem_cons_of_mem _ hdm), h3, h4⟩
    · exact ⟨headOf l, headOf_mem f l, headOf m, headOf_mem f m, hh, by rw [headOf_sha l bl, headOf_sha m bm, he]⟩
end Go.Proofs.YtffdkniahdekjaaDoor
end
section
namespace Go.Proofs.YtffdkniahdekjaaDoor
open Go.RowKit Go.Hoar
/-- The bytes that are made on the way of a place, from the root down. -/
def readOf : Nat → Nat → Nat → List Nat → List (List Nat) → List (List Nat)
  | 0, _, _, _, _ => []
  | f + 1, n, i, x, way =>
    if n ≤ 1 then [1 :: x]
    else if i < halfOf n then (2 :: (Sha.sha ((readOf f (halfOf n) i x way.dropLast).headD []) ++ way.getLastD [])) :: readOf f (halfOf n) i x way.dropLast
    else (2 :: (way.getLastD [] ++ Sha.sha ((readOf f (n - halfOf n) (i - halfOf n) x way.dropLast).headD []))) :: readOf f (n - halfOf n) (i - halfOf n) x way.dropLast
theorem cl_none {f n i : Nat} {x : List Nat} (h : ¬ n ≤ 1) : (climb (f + 1) n i x []).2 = false := by
  rw [climb, if_neg h]
  rfl
theorem cl_left {f n i : Nat} {x last : List Nat} {way : List (List Nat)} (h : ¬ n ≤ 1) (hi : i < halfOf n) : climb (f + 1) n i x (way ++ [last]) = (Sha.sha (2 :: ((climb f (halfOf n) i x way).1 ++ last)), (climb f (halfOf n) i x way).2) := by
  rw [climb, if_neg h]
  simp only [List.getLast?_concat, List.dropLast_concat]
  rw [if_pos hi]
theorem cl_right {f n i : Nat} {x last : List Nat} {way : List (List Nat)} (h : ¬ n ≤ 1) (hi : ¬ i < halfOf n) : climb (f + 1) n i x (way ++ [last]) = (Sha.sha (2 :: (last ++ (climb f (n - halfOf n) (i - halfOf n) x way).1)), (climb f (n - halfOf n) (i - halfOf n) x way).2) := by
  rw [climb, if_neg h]
  simp only [List.getLast?_concat, List.dropLast_concat]
  rw [if_neg hi]
theorem readOf_left {f n i : Nat} {x last : List Nat} {way : List (List Nat)} (h : ¬ n ≤ 1) (hi : i < halfOf n) : readOf (f + 1) n i x (way ++ [last]) = (2 :: (Sha.sha ((readOf f (halfOf n) i x way).headD []) ++ last)) :: readOf f (halfOf n) i x way := by
  rw [readOf, if_neg h, if_pos hi, List.dropLast_concat]
  simp
theorem readOf_right {f n i : Nat} {x last : List Nat} {way : List (List Nat)} (h : ¬ n ≤ 1) (hi : ¬ i < halfOf n) : readOf (f + 1) n i x (way ++ [last]) = (2 :: (last ++ Sha.sha ((readOf f (n - halfOf n) (i - halfOf n) x way).headD []))) :: readOf f (n - halfOf n) (i - halfOf n) x way := by
  rw [readOf, if_neg h, if_neg hi, List.dropLast_concat]
  simp
/-- The first of them has the digest to which the way leads. -/
theorem read_head : ∀ (f n i : Nat) (x : List Nat) (way : List (List Nat)), (climb f n i x way).2 = true → readOf f n i x way ≠ [] ∧ Sha.sha ((readOf f n i x way).headD []) = (climb f n i x way).1
  | 0, n, i, x, way, h => by rw [climb] at h; cases h
  | f + 1, n, i, x, way, h => by
    by_cases hn : n ≤ 1
    · rw [readOf, if_pos hn, climb, if_pos hn]
      exact ⟨by simp, rfl⟩
    · rcases List.eq_nil_or_concat way with rfl | ⟨w1, last, rfl⟩
      · rw [cl_none hn] at h; cases h
      · rw [List.concat_eq_append] at *
        by_cases hi : i < halfOf n
        · rw [cl_left hn hi] at h ⊢
          have ih := read_head f _ _ x w1 h
          rw [readOf_left hn hi]
          exact ⟨by simp, by rw [← ih.2]; rfl⟩
        · rw [cl_right hn hi] at h ⊢
          have ih := read_head f _ _ x w1 h
          rw [readOf_right hn hi]
          exact ⟨by simp, by rw [← ih.2]; rfl⟩
theorem cl_len : ∀ (f n i : Nat) (x : List Nat) (way : List (List Nat)), (climb f n i x way).2 = true → way.length < f
  | 0, n, i, x, way, h => by rw [climb] at h; cases h
  | f + 1, n, i, x, way, h => by
    by_cases hn : n ≤ 1
    · rw [climb, if_pos hn] at h
      have := of_decide_eq_true h
      omega
    · rcases List.eq_nil_or_concat way with rfl | ⟨w1, last, rfl⟩
      · simp
      · rw [List.concat_eq_append] at *
        rw [List.length_append, List.length_singleton]
        by_cases hi : i < halfOf n
        · rw [cl_left hn hi] at h
          have := cl_len f _ _ x w1 h
          omega
        · rw [cl_right hn hi] at h
          have := cl_len f _ _ x w1 h
          omega
theorem readOf_same : ∀ (f n i : Nat) (x y : List Nat) (v w : List (List Nat)), (climb f n i x v).2 = true → (climb f n i y w).2 = true → (readOf f n i x v).length = (readOf f n i y w).length
  | 0, _, _, _, _, _, _, _, _ => rfl
  | f + 1, n, i, x, y, v, w, h1, h2 => by
    by_cases hn : n ≤ 1
    · rw [readOf, readOf, if_pos hn, if_pos hn]; rfl
    · rcases List.eq_nil_or_concat v with rfl | ⟨v1, l1, rfl⟩
      · rw [cl_none hn] at h1; cases h1
      · rcases List.eq_nil_or_concat w with rfl | ⟨w1, l2, rfl⟩
        · rw [cl_none hn] at h2; cases h2
        · rw [List.concat_eq_append] at *
          rw [List.concat_eq_append] at *
          by_cases hi : i < halfOf n
          · rw [cl_left hn hi] at h1 h2
            rw [readOf_left hn hi, readOf_left hn hi, List.length_cons, List.length_cons, readOf_same f _ _ x y v1 w1 h1 h2]
          · rw [cl_right hn hi] at h1 h2
            rw [readOf_right hn hi, readOf_right hn hi, List.length_cons, List.length_cons, readOf_same f _ _ x y v1 w1 h1 h2]
theorem readOf_len : ∀ (f n i : Nat) (x : List Nat) (w : List (List Nat)), (readOf f n i x w).length ≤ f
  | 0, _, _, _, _ => Nat.le_refl _
  | f + 1, n, i, x, w => by
    rw [readOf]
    split
    · simp
    · split
      · rw [List.length_cons]; have := readOf_len f (halfOf n) i x w.dropLast; omega
      · rw [List.length_cons]; have := readOf_len f (n - halfOf n) (i - halfOf n) x w.dropLast; omega
theorem readOf_bytes : ∀ (f n i : Nat) (x : List Nat) (w : List (List Nat)), x.length = 32 ∧ Sha.Bytes x → SumsOk w → ∀ b ∈ readOf f n i x w, Sha.Bytes b ∧ b.length ≤ 1000000
  | 0, _, _, _, _, _, _, b, hb => by rw [readOf] at hb; exact absurd hb List.not_mem_nil
  | f + 1, n, i, x, w, hx, hw, b, hb => by
    have hl : (w.getLastD []).length ≤ 32 ∧ Sha.Bytes (w.getLastD []) := by
      rcases List.eq_nil_or_concat w with rfl | ⟨w1, last, rfl⟩
      · exact ⟨by simp, fun v hv => absurd hv List.not_mem_nil⟩
      · have h := hw last (by simp)
        simp only [List.concat_eq_append, List.getLastD_concat]
        exact ⟨by omega, h.2⟩
    have hd : SumsOk w.dropLast := fun l hl => hw l (List.dropLast_subset _ hl)
    rw [readOf] at hb
    split at hb
    · rw [List.mem_singleton.1 hb]
      exact ⟨fun v hv => (List.mem_cons.1 hv).elim (fun e => by omega) (hx.2 v), by rw [List.length_cons, hx.1]; decide⟩
    · split at hb
      · rcases List.mem_cons.1 hb with rfl | hb
        · have hs := sha_bytes ((readOf f (halfOf n) i x w.dropLast).headD [])
          exact ⟨fun v hv => (List.mem_cons.1 hv).elim (fun e => by omega) (fun hv => (List.mem_append.1 hv).elim (hs.2 v) (hl.2 v)), by rw [List.length_cons, List.length_append, hs.1]; omega⟩
        · exact readOf_bytes f _ _ x _ hx hd b hb
      · rcases List.mem_cons.1 hb with rfl | hb
        · have hs := sha_bytes ((readOf f (n - halfOf n) (i - halfOf n) x w.dropLast).headD [])
          exact ⟨fun v hv => (List.mem_cons.1 hv).elim (fun e => by omega) (fun hv => (List.mem_append.1 hv).elim (hl.2 v) (hs.2 v)), by rw [List.length_cons, List.length_append, hs.1]; omega⟩
        · exact readOf_bytes f _ _ x _ hx hd b hb
/-- Two unlike ways to one root. -/
theorem read_clash : ∀ (f n i : Nat) (x y : List Nat) (v w : List (List Nat)), SumsOk v → SumsOk w → (climb f n i x v).2 = true → (climb f n i y w).2 = true → (climb f n i x v).1 = (climb f n i y w).1 → (x ≠ y ∨ v ≠ w) →
    ∃ (k : Nat) (b d : List Nat), (readOf f n i x v)[k]? = some b ∧ (readOf f n i y w)[k]? = some d ∧ b ≠ d ∧ Sha.sha b = Sha.sha d
  | 0, n, i, x, y, v, w, _, _, h, _, _, _ => by rw [climb] at h; cases h
  | f + 1, n, i, x, y, v, w, hv, hw, h1, h2, he, hne => by
    by_cases hn : n ≤ 1
    · rw [climb, if_pos hn] at h1 h2 he
      rw [climb, if_pos hn] at he
      have e1 : v = [] := List.length_eq_zero_iff.1 (of_decide_eq_true h1)
      have e2 : w = [] := List.length_eq_zero_iff.1 (of_decide_eq_true h2)
      have hxy : x ≠ y := hne.elim id (fun h => absurd (e1.trans e2.symm) h)
      rw [readOf, if_pos hn, readOf, if_pos hn]
      exact ⟨0, 1 :: x, 1 :: y, rfl, rfl, fun e => hxy (by injection e), he⟩
    · rcases List.eq_nil_or_concat v with rfl | ⟨v1, l1, rfl⟩
      · rw [cl_none hn] at h1; cases h1
      · rcases List.eq_nil_or_concat w with rfl | ⟨w1, l2, rfl⟩
        · rw [cl_none hn] at h2; cases h2
        · rw [List.concat_eq_append] at *
          rw [List.concat_eq_append] at *
          have k1 := hv l1 (by simp)
          have k2 := hw l2 (by simp)
          have hv1 : SumsOk v1 := fun l hl => hv l (List.mem_append_left _ hl)
          have hw1 : SumsOk w1 := fun l hl => hw l (List.mem_append_left _ hl)
          have r1 := read_head (f + 1) n i x _ h1
          have r2 := read_head (f + 1) n i y _ h2
          by_cases hi : i < halfOf n
          · rw [cl_left hn hi] at h1 h2
            have q1 := read_head f _ _ x v1 h1
            have q2 := read_head f _ _ y w1 h2
            rw [he, ← r2.2] at r1
            rw [readOf_left hn hi] at r1 ⊢
            rw [readOf_left hn hi] at r1 ⊢
            by_cases hb : (2 :: (Sha.sha ((readOf f (halfOf n) i x v1).headD []) ++ l1)) = (2 :: (Sha.sha ((readOf f (halfOf n) i y w1).headD []) ++ l2))
            · injection hb with _ hb
              obtain ⟨e1, e2⟩ := List.append_inj hb (by rw [(sha_bytes _).1, (sha_bytes _).1])
              rw [q1.2, q2.2] at e1
              obtain ⟨k, b, d, hk⟩ := read_clash f _ _ x y v1 w1 hv1 hw1 h1 h2 e1 (hne.imp id (fun h e => h (by rw [e, e2])))
              exact ⟨k + 1, b, d, hk⟩
            · exact ⟨0, _, _, rfl, rfl, hb, r1.2⟩
          · rw [cl_right hn hi] at h1 h2
            have q1 := read_head f _ _ x v1 h1
            have q2 := read_head f _ _ y w1 h2
            rw [he, ← r2.2] at r1
            rw [readOf_right hn hi] at r1 ⊢
            rw [readOf_right hn hi] at r1 ⊢
            by_cases hb : (2 :: (l1 ++ Sha.sha ((readOf f (n - halfOf n) (i - halfOf n) x v1).headD []))) = (2 :: (l2 ++ Sha.sha ((readOf f (n - halfOf n) (i - halfOf n) y w1).headD [])))
            · injection hb with _ hb
              obtain ⟨e2, e1⟩ := List.append_inj hb (by rw [k1.1, k2.1])
              rw [q1.2, q2.2] at e1
              obtain ⟨k, b, d, hk⟩ := read_clash f _ _ x y v1 w1 hv1 hw1 h1 h2 e1 (hne.imp id (fun h e => h (by rw [e, e2])))
              exact ⟨k + 1, b, d, hk⟩
            · exact ⟨0, _, _, rfl, rfl, hb, r1.2⟩
/-- The way of a place leads to the root. -/
theorem cl_root : ∀ (f g : Nat) (ls : List (List Nat)) (i : Nat) (x : List Nat), ls.length ≤ f → ls.length ≤ g + 1 → ls.length ≤ 1000000 → ls[i]? = some x → climb f ls.length i x (refWay g ls i) = (rootOf ls, true)
  | 0, g, ls, i, x, hf, _, _, hx => by
    have := (List.getElem?_eq_some_iff.1 hx).1
    omega
  | f + 1, g, ls, i, x, hf, hg, hb, hx => by
    have hi := (List.getElem?_eq_some_iff.1 hx).1
    by_cases hn : ls.length ≤ 1
    · match ls, hn, hi, hx with
      | [y], _, _, hx =>
        obtain rfl : i = 0 := by simpa using (List.getElem?_eq_some_iff.1 hx).1
        obtain rfl : y = x := by simpa using hx
        rw [refWay_one _ _ _ (by simp), climb, if_pos (by simp), rootOf_one]
        rfl
      | [], _, hi, _ => simp at hi
    · match g, hg with
      | 0, hg => omega
      | g + 1, hg =>
        obtain ⟨_, b2, _⟩ := halfOf_bounds (n := ls.length) (by omega) (by omega)
        have b1 := halfOf_pos ls.length
        have hroot := rootOf_many ls (by omega) hb
        rw [refWay, if_neg hn]
        by_cases hlt : i < halfOf ls.length
        · rw [if_pos hlt, cl_left hn hlt]
          generalize halfOf ls.length = m at *
          have l1 : (ls.take m).length = m := by rw [List.length_take]; omega
          have ih := cl_root f g (ls.take m) i x (by omega) (by omega) (by omega) (by rw [List.getElem?_take_of_lt hlt]; exact hx)
          rw [l1] at ih
          rw [ih, hroot]
          rfl
        · rw [if_neg hlt, cl_right hn hlt]
          generalize halfOf ls.length = m at *
          have l2 : (ls.drop m).length = ls.length - m := List.length_drop
          have ih := cl_root f g (ls.drop m) (i - m) x (by omega) (by omega) (by omega) (by rw [List.getElem?_drop, show m + (i - m) = i by omega]; exact hx)
          rw [l2] at ih
          rw [ih, hroot]
          rfl
end Go.Proofs.YtffdkniahdekjaaDoor
end
section
namespace Go.Proofs.YtffdkniahdekjaaDoor
open Go.RowKit Go.Hoar
/-- A slice from the first place of a block of bytes on. -/
def BPart (w : World) (v : Value) (b : List Nat) : Prop := ∃ (g c : Nat) (cs : Array Value), v = .slice (some ⟨g, 0, none⟩) b.length c ∧ Has w g 5 cs ∧ cs.toList.take b.length = b.map BV ∧ b.length ≤ c ∧ c ≤ maxLen
theorem bpart_own {V : World} {base n : Nat} {v : Value} {b : List Nat} (h : V.ownsRow base 5 1 v n (b.map BV)) (hn : n = b.length) (hp : 0 < n) : BPart V v b := by
  subst hn
  rcases h.2 with ⟨_, h0⟩ | ⟨g, cap, cur, rfl, _, hh, hc, hm, _, ht⟩
  · omega
  · exact ⟨g, cap, cur, rfl, hh, by rw [Nat.mul_one] at ht; exact ht, hc, hm⟩
theorem BPart.part {w : World} {v : Value} {b : List Nat} (h : BPart w v b) : ∃ g c, v = .slice (some ⟨g, 0, none⟩) b.length c ∧ PartOk w (some ⟨g, 0, none⟩) c b ∧ b.length ≤ c ∧ c ≤ maxLen := by
  obtain ⟨g, c, cs, rfl, hh, ht, hc, hm⟩ := h
  refine ⟨g, c, rfl, .inr ⟨g, 0, rfl, hh.lt, fun i hi => ?_⟩, hc, hm⟩
  rw [Nat.zero_add, hh.cell, ← Array.getElem?_toList, ← List.getElem?_take_of_lt hi, ht, List.getElem?_map, List.getD_eq_getElem?_getD, List.getElem?_eq_getElem hi]
  rfl
theorem BPart.on {w w' : World} {v : Value} {b : List Nat} (h : BPart w v b) (hk : ∀ g t cs, Has w g t cs → v.ownBlock = some g → t = 5 → Has w' g t cs) : BPart w' v b := by
  obtain ⟨g, c, cs, rfl, hh, ht, hc, hm⟩ := h
  exact ⟨g, c, cs, rfl, hk g _ cs hh rfl rfl, ht, hc, hm⟩
theorem BPart.below {w w' : World} {v : Value} {b : List Nat} (h : BPart w v b) (hb : Below w.heap.size w w') : BPart w' v b := h.on fun _ _ _ hh _ _ => hh.below hb hh.lt
theorem BPart.setRow {w : World} {v : Value} {b : List Nat} (h : BPart w v b) {g0 : Nat} (hne : v.ownBlock ≠ some g0) (cs0 : Array Value) : BPart (w.setRow g0 cs0) v b := h.on fun g _ _ hh hv _ => (setRow_heap_other w g0 g cs0 (fun e => hne (by rw [hv, e]))).trans hh
/-- A row of slices is no block of bytes. -/
theorem own_not_bytes {w : World} {base n g : Nat} {v : Value} {xs : List Value} {cs : Array Value} (h : w.ownsRow base 22 1 v n xs) (hh : Has w g 5 cs) : some g ≠ v.ownBlock := by
  intro e
  rcases h.2 with ⟨rfl, _⟩ | ⟨g', cap, cur, rfl, _, h2, _⟩
  · cases e
  · obtain rfl : g = g' := Option.some.inj e
    have h3 : w.heap[g]? = some (.cells cs 5 (0, 0)) := hh
    rw [h3] at h2
    injection h2 with h2
    injection h2 with _ h2
    exact absurd h2 (by decide)
theorem BPart.grown {w w' : World} {v r : Value} {b : List Nat} {base n : Nat} {xs : List Value} (h : BPart w v b) (ho : w.ownsRow base 22 1 r n xs) (hg : w.grownBy w' r.ownBlock) : BPart w' v b := h.on fun g _ _ hh _ ht => by
  subst ht
  exact has_grown hh hg (own_not_bytes ho hh)
/-- Slices of bytes, one for each. -/
def BRows (w : World) : List Value → List (List Nat) → Prop
  | [], [] => True
  | v :: vs, b :: bs => BPart w v b ∧ BRows w vs bs
  | _, _ => False
theorem BRows.on {w w' : World} (hk : ∀ v b, BPart w v b → BPart w' v b) : ∀ {vs : List Value} {bs : List (List Nat)}, BRows w vs bs → BRows w' vs bs
  | [], [], _ => trivial
  | _ :: _, _ :: _, h => ⟨hk _ _ h.1, BRows.on hk h.2⟩
  | [], _ :: _, h => h
  | _ :: _, [], h => h
theorem BRows.below {w w' : World} {vs : List Value} {bs : List (List Nat)} (h : BRows w vs bs) (hb : Below w.heap.size w w') : BRows w' vs bs := h.on fun _ _ k => k.below hb
theorem BRows.grown {w w' : World} {r : Value} {base n : Nat} {xs vs : List Value} {bs : List (List Nat)} (h : BRows w vs bs) (ho : w.ownsRow base 22 1 r n xs) (hg : w.grownBy w' r.ownBlock) : BRows w' vs bs := h.on fun _ _ k => k.grown ho hg
theorem BRows.append {w : World} : ∀ {vs us : List Value} {bs cs : List (List Nat)}, BRows w vs bs → BRows w us cs → BRows w (vs ++ us) (bs ++ cs)
  | [], _, [], _, _, k => k
  | _ :: _, _, _ :: _, _, h, k => ⟨h.1, BRows.append h.2 k⟩
  | [], _, _ :: _, _, h, _ => h.elim
  | _ :: _, _, [], _, h, _ => h.elim
theorem BRows.len {w : World} : ∀ {vs : List Value} {bs : List (List Nat)}, BRows w vs bs → vs.length = bs.length
  | [], [], _ => rfl
  | _ :: _, _ :: _, h => by rw [List.length_cons, List.length_cons, BRows.len h.2]
  | [], _ :: _, h => h.elim
  | _ :: _, [], h => h.elim
theorem BRows.get {w : World} : ∀ {vs : List Value} {bs : List (List Nat)} (i : Nat) {b : List Nat}, BRows w vs bs → bs[i]? = some b → ∃ v, vs[i]? = some v ∧ BPart w v b
  | [], [], i, b, _, hi => by simp at hi
  | v :: _, _ :: _, 0, b, h, hi => ⟨v, rfl, by simp at hi; rw [← hi]; exact h.1⟩
  | _ :: _, _ :: _, i + 1, b, h, hi => by
    rw [List.getElem?_cons_succ] at hi ⊢
    exact BRows.get i h.2 hi
  | [], _ :: _, _, _, h, _ => h.elim
  | _ :: _, [], _, _, h, _ => h.elim
theorem brows_one {w : World} : ∀ {vs : List Value} {bs : List (List Nat)}, BRows w vs bs → ∀ u ∈ vs, u.oneCell' = true
  | [], _, _, u, hu => absurd hu List.not_mem_nil
  | v :: vs, b :: bs, h, u, hu => by
    rcases List.mem_cons.1 hu with rfl | hu
    · obtain ⟨g, c, cs, rfl, _⟩ := h.1
      rfl
    · exact brows_one h.2 u hu
  | _ :: _, [], h, _, _ => h.elim
/-- A row of one slice. -/
theorem own_one {V : World} {g base : Nat} {u : Value} (h : Has V g 22 #[u]) (hb : base ≤ g) : V.ownsRow base 22 1 (.slice (some ⟨g, 0, none⟩) 1 1) 1 [u] :=
  ⟨rfl, .inr ⟨g, 1, #[u], rfl, hb, h, Nat.le_refl _, by decide, rfl, rfl⟩⟩
theorem bytesInfo3 : (Tryd.prog.info? 22).map (fun i => (i.zero, i.size, i.bytes)) = some (some (.slice none 0 0), 1, 24) := by kernel_rfl
/-- The cells of a row, where it is read as news. -/
theorem own_news {w : World} {base n g c : Nat} {e : TypeId} {xs : List Value} (h : w.ownsRow base e 1 (.slice (some ⟨g, 0, none⟩) n c) n xs) : ∀ j u, xs[j]? = some u → w.cell? ((⟨g, 0, none⟩ : Addr).add j) = some u := fun j u hj => h.cells (g := g) rfl j u hj
end Go.Proofs.YtffdkniahdekjaaDoor
namespace Go.Hoar
open Go Go.RowKit
/-- A slice literal of arrays or structs, as one operation of a region that draws its order. -/
theorem opw_slices {P : Program} {a : Act} {w : World} {K : Act → World → Prop} {Q : Exit → Act → World → Prop} {dst : Option Tmp} {t T : TypeId} {xs : Array (Nat × Operand)} {n : Nat} {pos : String} {af : Array Edge}
    (e : TypeId) (ie : TypeInfo) (z : Value) (css : List (Array Value)) (hu : P.underlying t = some (.slice e)) (hie : P.info? e = some ie) (hz : ie.zero = some z) (hsz : ∀ c ∈ css, c.size = ie.size) (hn : n = css.length) (hsmall : n * ie.size ≤ 1000) (hpos : 0 < n * ie.size)
    (hx : (xs.map fun (i, x) => (i, a.eval x)).toList = (css.zipIdx 0).map fun x => (x.2, Value.agg x.1)) (h : K (a.put dst (.slice (some ⟨w.heap.size, 0, none⟩) n n)) (w.alloc (.cells (css.flatMap Array.toList).toArray e))) :
    Oper.wp P ⟨dst, .buildSlice t n xs, T, pos, af, none⟩ a w K Q := by
  refine wp_buildSlice t e n _ rfl _ ie z hu hie hz (by omega) (by omega) ?_ h
  have ht : ∀ A : Array Value, A.toList.toArray = A := fun A => by simp
  have hf := fill_rows ie.size css 0 [] ((Array.range (n * ie.size)).map (z.cells[· % z.cells.size]!)).toList hsz (by simp [hn]) (by simp)
  rw [hx]
  rw [List.nil_append, ht] at hf
  rw [hf]
  simp
end Go.Hoar
end
