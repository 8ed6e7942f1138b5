/-
  WHAT SHORT SAYS: one digit more than any other digest has alike, at least one.
  · THE REFERENCE's List: the digest of a list.
  · THE DIGEST OF A LIST, empty or not, by both; rows of digests behind new blocks.
  · THE LAWS' MADE-UP DIGESTS: so many as are asked for, of 32 bytes each.
  · YtffdkniahdekjaaDoorRefDig
  · YtffdkniahdekjaaDoorRefHex
  · YtffdkniahdekjaaDoorRefUnhex
  · THE REFERENCE's Find.
  · HOW MANY DIGITS NAME A DIGEST: the neighbours in the order are enough.
-/
import Derived.Test.YtffdkniahdekjaaDoorMBl
import Derived.Test.YtffdkniahdekjaaDoorMBc
import Derived.Test.YtffdkniahdekjaaDoorMBj
import Derived.Test.YtffdkniahdekjaaDoorMBd
import Derived.Test.YtffdkniahdekjaaDoorMBh
import Derived.BigQuiet
import Derived.Test.YtffdkniahdekjaaDoorMBi
section
namespace Go.Proofs.YtffdkniahdekjaaDoor
open Go.RowKit Go.Hoar
noncomputable def listOps : Array Oper := (Tryd.f36.body.bind (opsAt 6)).getD #[]
set_option maxRecDepth 100000 in
set_option maxHeartbeats 1000000 in
theorem refList_none (a : Option Addr) (c : Nat) (w : World) (out : List Nat) (hout : Hid (out = Sha.sha [0])) :
    Calls Tryd.prog 36 #[.slice a 0 c] w fun e w' => e = .returned (.agg (arr32 out)) ∧ out.length = 32 ∧ Below w.heap.size w w' := by
  have hof : ∀ (V : World) (g : Nat), Has V g 5 #[.int .u8 0] → Calls Tryd.prog 18 #[.slice (some ⟨g, 0, none⟩) 1 1] V fun e w' => e = .returned (.agg (arr32 out)) ∧ out.length = 32 ∧ Below V.heap.size V w' := fun V g h =>
    (refOf_any [0] (some ⟨g, 0, none⟩) 1 V (fun x hx => by rw [List.mem_singleton.1 hx]; decide) (pad_part (bs := [0]) h) (Nat.le_refl _) (by decide) (by decide) (by decide) out hout).mono fun e w' ⟨he, hb⟩ => ⟨he, by rw [hout.out]; exact (sha_bytes _).1, hb⟩
  have HOf := Lib.hid hof
  clear hof
  go_enter Tryd.func36, Tryd.ntmps36
  go_upto_region 1 with (fail)
  refine gen_world (P := fun W => Code.wp _ _ _ _ W) (I := fun W => Below w.heap.size w W ∧ Has W w.heap.size 26 (arr32 []) ∧ W.heap.size = w.heap.size + 1) _ ⟨(Below.refl _ w).alloc (Nat.le_refl _) _, Has.fresh_at _ _ _ _ rfl, by simp⟩ ?_
  rintro W ⟨hB, hR, hsz⟩
  have HBa := Lib.hid (hB.alloc hB.size (.cells #[.int .u8 0] 5))
  have HRa := Lib.hid (hR.alloc (.cells #[.int .u8 0] 5))
  clear hB hR
  go_wp2_with (first
    | (go_at_call 18; refine (HOf.out _ _ (Has.fresh_at W 5 _ (w.heap.size + 1) hsz.symm)).mono ?_; rintro e w3 ⟨rfl, hol, hbel⟩; have HB3 := Lib.hid hbel; have HR3 := Lib.hid (HRa.out.below hbel HRa.out.lt); have HI32 := Lib.hid (arr32_info out (by omega)); have HS32 := Lib.hid ((arr32_size [] (by simp)).trans (arr32_size out (by omega)).symm); clear hbel)
    | ((with_reducible refine arm_store w.heap.size _ _ _ HR3.out HS32.out HI32.out (arr32_one _) ?h5 ?h6 ?_); (case h5 => rfl); (case h6 => rfl)))
  exact bodyPost_ret (results_cell_row (P := Tryd.prog) rfl _ _ w.heap.size 26 (arr32 out) (0, 0) _ rfl HR3.out.setRow Tryd.underlying26 rfl HI32.out) rfl ⟨rfl, hol, below_setRow (HBa.out.trans (HB3.out.mono HBa.out.size)) (Nat.le_refl _) _⟩
set_option maxRecDepth 100000 in
set_option maxHeartbeats 1000000 in
theorem refList_one (l : List Nat) (g off c : Nat) (w : World) (hs : SumsAt w g off [l]) (hg : g < w.heap.size) (_hcm : c ≤ maxLen) (_h1c : 1 ≤ c) (out : List Nat) (hout : Hid (out = Sha.sha (1 :: l))) :
    Calls Tryd.prog 36 #[.slice (some ⟨g, off, none⟩) 1 c] w fun e w' => e = .returned (.agg (arr32 out)) ∧ out.length = 32 ∧ Below w.heap.size w w' := by
  obtain ⟨hl, hlb, _⟩ := hs 0 l rfl
  unfold maxLen at _hcm
  have HI := Lib.hid (arr32_info l (by omega))
  go_enter Tryd.func36, Tryd.ntmps36
  go_upto_region 1 with (fail)
  refine gen_world (P := fun W => Code.wp _ _ _ _ W) (I := fun W => Below w.heap.size w W ∧ Has W w.heap.size 26 (arr32 [])) _ ⟨(Below.refl _ w).alloc (Nat.le_refl _) _, Has.fresh_at _ _ _ _ rfl⟩ ?_
  rintro W ⟨hB, hR⟩
  have hrow := (hs.below hg hB).row (i := 0) (l := l) rfl
  rw [Nat.zero_mul, Nat.add_zero] at hrow
  have HRow := Lib.hid hrow
  have HB := Lib.hid hB
  have HR := Lib.hid hR
  clear hB hR hs hrow
  go_wp2_with (first
    | ((with_reducible refine arm_load ⟨g, off, none⟩ _ _ HRow.out Tryd.underlying26 HI.out ?h1 ?h2 ?_); (case h1 => rfl); (case h2 => rfl))
    | (go_at_call 72; refine (refLeaf_any l hl hlb _ out hout).mono ?_; rintro e w3 ⟨rfl, hol, hbel⟩; have HB3 := Lib.hid hbel; have HR3 := Lib.hid (HR.out.below hbel HR.out.lt); have HI32 := Lib.hid (arr32_info out (by omega)); have HS32 := Lib.hid ((arr32_size [] (by simp)).trans (arr32_size out (by omega)).symm); clear hbel)
    | ((with_reducible refine arm_store w.heap.size _ _ _ HR3.out HS32.out HI32.out (arr32_one _) ?h5 ?h6 ?_); (case h5 => rfl); (case h6 => rfl)))
  exact bodyPost_ret (results_cell_row (P := Tryd.prog) rfl _ _ w.heap.size 26 (arr32 out) (0, 0) _ rfl HR3.out.setRow Tryd.underlying26 rfl HI32.out) rfl ⟨rfl, hol, below_setRow (HB.out.trans (HB3.out.mono HB.out.size)) (Nat.le_refl _) _⟩
def RefListOk (f : Nat) : Prop := ∀ (ls : List (List Nat)) (g off c : Nat) (w : World), ls.length < f → 0 < ls.length → ls.length ≤ c → c ≤ maxLen → ls.length ≤ 140737488355328 → SumsAt w g off ls → g < w.heap.size → ∀ out, Hid (out = listOf f ls) →
    Calls Tryd.prog 36 #[.slice (some ⟨g, off, none⟩) ls.length c] w fun e w' => e = .returned (.agg (arr32 out)) ∧ out.length = 32 ∧ Below w.heap.size w w'
set_option maxRecDepth 100000 in
set_option maxHeartbeats 2000000 in
theorem refList_step (f : Nat) (ih : RefListOk f) (ls : List (List Nat)) (n : Nat) (hnl : n = ls.length) (h2 : 2 ≤ n) (g off c : Nat) (w : World) (hf : n < f + 1) (hnc : n ≤ c) (hcm : c ≤ maxLen) (hn : n ≤ 140737488355328) (hs : SumsAt w g off ls) (hg : g < w.heap.size) (out : List Nat)
    (hlo : out = Sha.sha (2 :: (listOf f (ls.take (halfOf n)) ++ listOf f (ls.drop (halfOf n))))) :
    Calls Tryd.prog 36 #[.slice (some ⟨g, off, none⟩) n c] w fun e w' => e = .returned (.agg (arr32 out)) ∧ out.length = 32 ∧ Below w.heap.size w w' := by
  obtain ⟨_, b2, _⟩ := halfOf_bounds h2 hn
  have b0 := halfOf_pos n
  obtain ⟨h, hh⟩ : ∃ h, h = halfOf n := ⟨_, rfl⟩
  rw [← hh] at b2 b0 hlo
  have lt1 : (ls.take h).length = h := by rw [List.length_take]; omega
  have lt2 : (ls.drop h).length = n - h := by rw [List.length_drop]; omega
  obtain ⟨A, hA⟩ : ∃ A, A = listOf f (ls.take h) := ⟨_, rfl⟩
  obtain ⟨B, hB⟩ : ∃ B, B = listOf f (ls.drop h) := ⟨_, rfl⟩
  have hAb : Sha.Bytes A := by rw [hA]; exact listOf_bytes _ _
  have hBb : Sha.Bytes B := by rw [hB]; exact listOf_bytes _ _
  rw [← hA, ← hB] at hlo
  have hfirst : ∀ V, Below w.heap.size w V → Calls Tryd.prog 36 #[.slice (some ⟨g, off, none⟩) h c] V fun e w' => e = .returned (.agg (arr32 A)) ∧ A.length = 32 ∧ Below V.heap.size V w' := fun V hv => by
    have k := ih (ls.take h) g off c V (by rw [lt1]; omega) (by rw [lt1]; omega) (by rw [lt1]; omega) hcm (by rw [lt1]; omega) ((hs.below hg hv).take h) (Nat.lt_of_lt_of_le hg hv.size) A (Lib.hid hA)
    rwa [lt1] at k
  have hrest : ∀ V, Below w.heap.size w V → Calls Tryd.prog 36 #[.slice (some ⟨g, off + h * 32, none⟩) (n - h) (c - h)] V fun e w' => e = .returned (.agg (arr32 B)) ∧ B.length = 32 ∧ Below V.heap.size V w' := fun V hv => by
    have k := ih (ls.drop h) g (off + h * 32) (c - h) V (by rw [lt2]; omega) (by rw [lt2]; omega) (by rw [lt2]; omega) (by omega) (by rw [lt2]; omega) ((hs.below hg hv).drop h) (Nat.lt_of_lt_of_le hg hv.size) B (Lib.hid hB)
    rwa [lt2] at k
  have hpair : ∀ V, Below w.heap.size w V → A.length = 32 → B.length = 32 → Calls Tryd.prog 73 #[.agg (arr32 A), .agg (arr32 B)] V fun e w' => e = .returned (.agg (arr32 out)) ∧ out.length = 32 ∧ Below V.heap.size V w' := fun V hv ha hb => refInner_any A B ha hb hAb hBb V out (Lib.hid hlo)
  have hcut := refBelow_any n h2 hn
  rw [← hh] at hcut
  unfold maxLen at hcm
  have HF := Lib.hid hfirst
  have HS := Lib.hid hrest
  have HP := Lib.hid hpair
  have HK := Lib.hid hcut
  have n0 : ¬ n = 0 := by omega
  have n1 : ¬ n = 1 := by omega
  clear hfirst hrest hpair hcut hs hA hB hlo lt1 lt2 hnl hh ih
  go_enter Tryd.func36, Tryd.ntmps36
  go_upto_region 1 with (fail)
  refine gen_world (P := fun W => Code.wp _ _ _ _ W) (I := fun W => Below w.heap.size w W ∧ Has W w.heap.size 26 (arr32 [])) _ ⟨(Below.refl _ w).alloc (Nat.le_refl _) _, Has.fresh_at _ _ _ _ rfl⟩ ?_
  rintro W ⟨hBW, hRW⟩
  have HB := Lib.hid hBW
  have HR := Lib.hid hRW
  clear hBW hRW
  have hhc : ¬ c = h := by omega
  have hhc2 : h ≤ c := by omega
  have hhn : h ≤ n := by omega
  go_upto_region 6 with (go_at_call 71; (with_reducible refine (HK.out _).mono ?_); rintro e w1 ⟨rfl, rfl⟩)
  change Code.wp _ (Code.region 6 listOps true) _ _ _
  refine wp_region_held (S := fun V => Below w.heap.size w V) (by kernel_rfl) ?_
  have hsz : listOps.size = 10 := by kernel_rfl
  rw [hsz]
  clear hsz
  refine gen_world (P := fun W' => wpAnyH _ _ _ _ _ _ _ _ W') (I := fun V => Below w.heap.size w V ∧ Has V w.heap.size 26 (arr32 [])) _ ⟨HB.out.drew, HR.out.drew⟩ ?_
  rintro V ⟨hBV, hRV⟩
  have HB0 := Lib.hid hBV
  have HR0 := Lib.hid hRV
  clear hBV hRV HB HR
  refine wpAnyH_take (i := 0) (oi := ⟨some 19, _, _, _, _, _⟩) (v := .slice (some ⟨g, off, none⟩) n c) rfl (by kernel_rfl) (by kernel_rfl) (by kernel_rfl) (fun _ _ _ h => h) (Or.inl ⟨by rfl, fun w' hw' => by go_simp⟩) HB0.out ?_
  try simp only [Act.put, List.setIfInBounds_toArray, List.set_cons_succ, List.set_cons_zero]
  refine wpAnyH_take (i := 1) (oi := ⟨some 20, _, _, _, _, _⟩) (v := .int .i64 (h : Int)) rfl (by kernel_rfl) (by kernel_rfl) (by kernel_rfl) (fun _ _ _ h => h) (Or.inl ⟨by rfl, fun w' hw' => by go_simp⟩) HB0.out ?_
  try simp only [Act.put, List.setIfInBounds_toArray, List.set_cons_succ, List.set_cons_zero]
  refine wpAnyH_take (i := 2) (oi := ⟨some 21, _, _, _, _, _⟩) (v := .slice (some ⟨g, off, none⟩) h c) rfl (by kernel_rfl) (by kernel_rfl) (by kernel_rfl) (fun _ _ _ h => h) (Or.inl ⟨by rfl, fun w' hw' => by go_simp⟩) HB0.out ?_
  try simp only [Act.put, List.setIfInBounds_toArray, List.set_cons_succ, List.set_cons_zero]
  refine wpAnyH_take (i := 4) (oi := ⟨some 23, _, _, _, _, _⟩) (v := .slice (some ⟨g, off, none⟩) n c) rfl (by kernel_rfl) (by kernel_rfl) (by kernel_rfl) (fun _ _ _ h => h) (Or.inl ⟨by rfl, fun w' hw' => by go_simp⟩) HB0.out ?_
  try simp only [Act.put, List.setIfInBounds_toArray, List.set_cons_succ, List.set_cons_zero]
  refine wpAnyH_take (i := 5) (oi := ⟨some 24, _, _, _, _, _⟩) (v := .int .i64 (h : Int)) rfl (by kernel_rfl) (by kernel_rfl) (by kernel_rfl) (fun _ _ _ h => h) (Or.inl ⟨by rfl, fun w' hw' => by go_simp⟩) HB0.out ?_
  try simp only [Act.put, List.setIfInBounds_toArray, List.set_cons_succ, List.set_cons_zero]
  refine wpAnyH_take (i := 6) (oi := ⟨some 25, _, _, _, _, _⟩) (v := .slice (some ⟨g, off + h * 32, none⟩) (n - h) (c - h)) rfl (by kernel_rfl) (by kernel_rfl) (by kernel_rfl) (fun _ _ _ h => h) (Or.inl ⟨by rfl, fun w' hw' => by go_simp⟩) HB0.out ?_
  try simp only [Act.put, List.setIfInBounds_toArray, List.set_cons_succ, List.set_cons_zero]
  refine wpAnyH_all (rs := [3]) (by kernel_rfl) (by simp) ?_
  intro i hi
  obtain rfl : i = 3 := by simpa using hi
  clear hi
  refine wpOp_step (o := ⟨some 22, _, _, _, _, _⟩) rfl (fun K' hK' => ?_)
  rw [if_pos (show Region.wanted _ _ = true from rfl)]
  go_simp
  (with_reducible refine (HF.out _ HB0.out).mono ?_)
  rintro e v1 ⟨rfl, hal, hbx⟩
  have HB1 := Lib.hid (HB0.out.trans (hbx.mono HB0.out.size))
  have HR1 := Lib.hid (HR0.out.below hbx HR0.out.lt)
  clear hbx
  refine hK' _ _ ⟨HB1.out, ?_⟩
  clear hK' K'
  try simp only [Act.put, List.setIfInBounds_toArray, List.set_cons_succ, List.set_cons_zero]
  refine wpAnyH_all (rs := [7]) (by kernel_rfl) (by simp) ?_
  intro i hi
  obtain rfl : i = 7 := by simpa using hi
  clear hi
  refine wpOp_step (o := ⟨some 26, _, _, _, _, _⟩) rfl (fun K' hK' => ?_)
  rw [if_pos (show Region.wanted _ _ = true from rfl)]
  go_simp
  (with_reducible refine (HS.out _ HB1.out).mono ?_)
  rintro e v2 ⟨rfl, hbl, hbx⟩
  have HB2 := Lib.hid (HB1.out.trans (hbx.mono HB1.out.size))
  have HR2 := Lib.hid (HR1.out.below hbx HR1.out.lt)
  clear hbx
  refine hK' _ _ ⟨HB2.out, ?_⟩
  clear hK' K'
  try simp only [Act.put, List.setIfInBounds_toArray, List.set_cons_succ, List.set_cons_zero]
  refine wpAnyH_all (rs := [8]) (by kernel_rfl) (by simp) ?_
  intro i hi
  obtain rfl : i = 8 := by simpa using hi
  clear hi
  refine wpOp_step (o := ⟨some 27, _, _, _, _, _⟩) rfl (fun K' hK' => ?_)
  rw [if_pos (show Region.wanted _ _ = true from rfl)]
  go_simp
  (with_reducible refine (HP.out _ HB2.out hal hbl).mono ?_)
  rintro e v3 ⟨rfl, hol, hbx⟩
  have HB4 := Lib.hid (HB2.out.trans (hbx.mono HB2.out.size))
  have HR4 := Lib.hid (HR2.out.below hbx HR2.out.lt)
  clear hbx
  refine hK' _ _ ⟨HB4.out, ?_⟩
  clear hK' K'
  try simp only [Act.put, List.setIfInBounds_toArray, List.set_cons_succ, List.set_cons_zero]
  have HI32 := Lib.hid (arr32_info out (by omega))
  have HS32 := Lib.hid ((arr32_size [] (by simp)).trans (arr32_size out (by omega)).symm)
  refine wpAnyH_all (rs := [9]) (by kernel_rfl) (by simp) ?_
  intro i hi
  obtain rfl : i = 9 := by simpa using hi
  clear hi
  refine wpOp_step (o := ⟨none, _, _, _, _, _⟩) rfl (fun K' hK' => ?_)
  rw [if_pos (show Region.wanted _ _ = true from rfl)]
  refine opw_store w.heap.size (arr32 out) _ _ HR4.out HS32.out HI32.out (arr32_one _) rfl rfl ?_
  refine hK' _ _ ⟨below_setRow HB4.out (Nat.le_refl _) _, ?_⟩
  clear hK' K'
  try simp only [Act.put, List.setIfInBounds_toArray, List.set_cons_succ, List.set_cons_zero]
  refine wpAnyH_done (by kernel_rfl) ?_ _
  go_wp2
  exact bodyPost_ret (results_cell_row (P := Tryd.prog) rfl _ _ w.heap.size 26 (arr32 out) (0, 0) _ rfl HR4.out.setRow Tryd.underlying26 rfl HI32.out) rfl ⟨rfl, hol, below_setRow HB4.out (Nat.le_refl _) _⟩
theorem refList_any : ∀ (f : Nat), RefListOk f
  | 0 => fun _ _ _ _ _ h _ _ _ _ _ _ _ _ => absurd h (Nat.not_lt_zero _)
  | f + 1 => fun ls g off c w hf hp hnc hcm hn hs hg out hout => by
    match ls, hf, hp, hnc, hn, hs, hout with
    | [], _, hp, _, _, _, _ => exact absurd hp (Nat.lt_irrefl _)
    | [x], _, _, h1, _, hs, hout => exact refList_one x g off c w hs hg hcm h1 out (Lib.hid (hout.out.trans (by rw [listOf])))
    | x :: y :: r, hf, _, hnc, hn, hs, hout => exact refList_step f (refList_any f) (x :: y :: r) _ rfl (by simp) g off c w hf hnc hcm hn hs hg out (hout.out.trans (by rw [listOf]; exact Eq.refl _))
end Go.Proofs.YtffdkniahdekjaaDoor
end
section
namespace Go.Proofs.YtffdkniahdekjaaDoor
open Go.RowKit Go.Hoar
theorem listAll_any (ls : List (List Nat)) (V : World) (a : Option Addr) (c : Nat) (hr : RowOk V a c ls) (hn : ls.length ≤ 1073741824) (hc : ConstAt V) :
    Calls Tryd.prog 33 #[.slice a ls.length c] V fun e w' => e = .returned (.agg (arr32 (listOf (ls.length + 1) ls))) ∧ (listOf (ls.length + 1) ls).length = 32 ∧ Below V.heap.size V w' := by
  rcases hr with ⟨rfl, rfl, rfl⟩ | ⟨g, off, rfl, hg, hs, hc1, hm⟩
  · exact list_none none 0 V hc _ (Lib.hid (by rw [listOf]))
  · rcases Nat.eq_zero_or_pos ls.length with h0 | hp
    · obtain rfl := List.length_eq_zero_iff.1 h0
      exact list_none _ c V hc _ (Lib.hid (by rw [listOf]))
    · exact list_any (ls.length + 1) ls g off c V (Nat.lt_succ_self _) hp hc1 hm (by omega) hs hg hc _ (Lib.hid rfl)
theorem refListAll_any (ls : List (List Nat)) (V : World) (a : Option Addr) (c : Nat) (hr : RowOk V a c ls) (hn : ls.length ≤ 1073741824) :
    Calls Tryd.prog 36 #[.slice a ls.length c] V fun e w' => e = .returned (.agg (arr32 (listOf (ls.length + 1) ls))) ∧ (listOf (ls.length + 1) ls).length = 32 ∧ Below V.heap.size V w' := by
  rcases hr with ⟨rfl, rfl, rfl⟩ | ⟨g, off, rfl, hg, hs, hc1, hm⟩
  · exact refList_none none 0 V _ (Lib.hid (by rw [listOf]))
  · rcases Nat.eq_zero_or_pos ls.length with h0 | hp
    · obtain rfl := List.length_eq_zero_iff.1 h0
      exact refList_none _ c V _ (Lib.hid (by rw [listOf]))
    · exact refList_any (ls.length + 1) ls g off c V (Nat.lt_succ_self _) hp hc1 hm (by omega) hs hg _ (Lib.hid rfl)
theorem zero32_all : ((Value.agg zero32).cells.all fun x => x.oneCell') = true := by
  first | rfl | simp [Value.cells, zero32, Value.oneCell']
/-- slices.Equal of a list with itself. -/
theorem sumsEqual_same (ls : List (List Nat)) (hok : SumsOk ls) (hn : ls.length ≤ 1000000) (a b : Option Addr) (c d : Nat) (w : World) (ha : RowOk w a c ls) (hb : RowOk w b d ls) :
    Calls Tryd.prog 37 #[.slice a ls.length c, .slice b ls.length d] w fun e w' => e = .returned (.bool true) ∧ Below w.heap.size w w' := by
  refine (sumsEqual_any ls ls hok hok a b c d w ha hb hn hn).mono ?_
  rintro e w' ⟨rfl, q, rfl⟩
  exact ⟨by rw [decide_eq_true rfl], below_drewN (Below.refl _ _) _⟩
end Go.Proofs.YtffdkniahdekjaaDoor
end
section
namespace Go.Proofs.YtffdkniahdekjaaDoor
open Go.RowKit Go.Hoar
noncomputable def smOps (k : Nat) : Array Oper := (Tryd.f52.body.bind (opsAt k)).getD #[]
theorem own_but {w w' : World} {g base : Nat} {e : TypeId} {size : Nat} {v : Value} {n : Nat} {xs : List Value} (h : w.ownsRow base e size v n xs) (hb : But g w w') (hg : g < base) : w'.ownsRow base e size v n xs :=
  h.kept (row := some g) ⟨hb.os, hb.tape, hb.output, hb.size, fun k hk hne => hb.block k hk (fun e => hne (by rw [e]))⟩ (.inr (fun e => by have := (h.lt _ e).1; omega))
theorem xor_byte (x q : Nat) (hx : x < 256) (hq : q < 8) : ∃ z : Nat, z < 256 ∧ bits BinOp.xor IntKind.u8 (x : Int) (IntKind.u8.wrap ((2 : Int) ^ q)) = (z : Int) := by
  have key : ∀ (x : Fin 256) (q : Fin 8), 0 ≤ bits BinOp.xor IntKind.u8 (x.val : Int) (IntKind.u8.wrap ((2 : Int) ^ q.val)) ∧ bits BinOp.xor IntKind.u8 (x.val : Int) (IntKind.u8.wrap ((2 : Int) ^ q.val)) < 256 := by decide +kernel
  have := key ⟨x, hx⟩ ⟨q, hq⟩
  dsimp only at this
  exact ⟨(bits BinOp.xor IntKind.u8 (x : Int) (IntKind.u8.wrap ((2 : Int) ^ q))).toNat, by omega, by omega⟩
theorem arr32_setAt (y : List Nat) (h : y.length = 32) (p z : Nat) : (arr32 y).setIfInBounds p (.int .u8 (z : Int)) = arr32 (y.set p z) := by
  unfold arr32
  rw [List.length_set, h]
  simp [BV, List.map_set]
set_option maxRecDepth 100000 in
set_option maxHeartbeats 6000000 in
theorem some_any (g B k many : Nat) (hm : many ≤ 100) (hk : k < 1000000) (w : World) (hK : Kit w g B k) (hBw : B ≤ w.heap.size) :
    Calls Tryd.prog 52 #[.pointer (some ⟨g, 0, none⟩), .int .i64 (many : Int)] w fun e w' => ∃ (v : Value) (L : List (List Nat)), e = .returned v ∧ L.length = many ∧ SumsOk L ∧ w'.ownsRow w.heap.size 26 32 v many (L.flatMap cellsOf) ∧ Kit w' g B (k + 40 * many) ∧ But g w w' := by
  obtain ⟨i0, hi0, hz0, hz1, hz2⟩ := info_parts sumInfo3
  have hgB : g < B := hK.1
  have HK := Lib.hid hK
  clear hK
  go_enter Tryd.func52, Tryd.ntmps52
  go_wp2
  go_loopw [5, 8] (fun v i wr => ∃ (j : Nat) (vv : Value) (L : List (List Nat)), vv = v ∧ j ≤ many ∧ i = .int .i64 (j : Int) ∧ L.length = j ∧ Hid (SumsOk L) ∧ wr.ownsRow w.heap.size 26 32 vv j (L.flatMap cellsOf) ∧ Kit wr g B (k + 40 * j) ∧ But g w wr) (fun _ i _ => many - (intOf i).toNat)
  case atStart => exact ⟨0, _, [], rfl, Nat.zero_le _, rfl, rfl, Lib.hid (fun l hl => absurd hl List.not_mem_nil), World.ownsRow_nil _ _ _ _, HK.out, But.refl _ _⟩
  case round =>
    obtain ⟨j, vv, L, hvv, hj, rfl, hL, HL, hO, hKr, hB⟩ := hrel
    subst hvv
    by_cases hlt : j < many
    · obtain ⟨a6, c6, rfl, hc6, hcm6⟩ := own_shape hO
      have hBr : B ≤ wr.heap.size := Nat.le_trans hBw hB.size
      have HS := Lib.hid (sum_some g B (k + 40 * j) (by omega) wr hKr hBr)
      have HO := Lib.hid hO
      have HB := Lib.hid hB
      unfold maxLen at hcm6
      clear hO hB hKr
      go_upto_region 5 with (first
        | (go_at_call 84; (with_reducible refine HS.out.mono ?_); rintro e w1 ⟨x, rfl, hxl, hxb, hK1, hb1⟩; have HK1 := Lib.hid hK1; have HO1 := Lib.hid (own_but HO.out hb1 (by omega)); have HB1 := Lib.hid (HB.out.trans hb1); have HF := Lib.hid (fresh_sum w1); have HSz := Lib.hid (zero32_size x (by omega)); have HI := Lib.hid (arr32_info x (by omega)); have hg1 := hK1.lt; clear hK1 hb1)
        | ((with_reducible refine arm_store w1.heap.size (arr32 x) 26 zero32 HF.out HSz.out HI.out (arr32_one _) ?h5 ?h6 ?_); (case h5 => rfl); (case h6 => rfl)))
      have hlt1 : ∀ q, (Value.slice a6 j c6).ownBlock = some q → q < w1.heap.size := fun q hq => (HO1.out.lt q hq).2
      refine gen_world (P := fun W => Code.wp _ _ _ _ W) (I := fun V => Below w1.heap.size w1 V ∧ Has V w1.heap.size 26 (arr32 x) ∧ V.ownsRow w.heap.size 26 32 (.slice a6 j c6) j (L.flatMap cellsOf)) _ ⟨below_setRow ((Below.refl _ w1).alloc (Nat.le_refl _) _) (Nat.le_refl _) _, HF.out.setRow, own_setRow (HO1.out.alloc _) (fun e => by have := hlt1 _ e; omega) _⟩ ?_
      rintro V ⟨hBV, hXV, hOV⟩
      have hw1B : B ≤ w1.heap.size := by have := HB1.out.size; omega
      have hKV := HK1.out.below (hBV.mono hw1B)
      have hBut : But g w V := HB1.out.trans (But.of_below hBV)
      have hb6g : g < w1.heap.size := hg1
      have hb6w : w.heap.size ≤ w1.heap.size := HB1.out.size
      generalize w1.heap.size = b6 at *
      have HKV := Lib.hid hKV
      have HXV := Lib.hid hXV
      have HOV := Lib.hid hOV
      have HBV := Lib.hid hBut
      clear hBV hXV hOV hKV hBut HK1 HO1 HB1 HF HSz HS HO HB
      rcases Nat.eq_zero_or_pos j with hj0 | hj0
      · have hj1 : ¬ (0 : Int) < (j : Int) := by omega
        go_wp2_with (first
          | ((with_reducible refine arm_load ⟨b6, 0, none⟩ (arr32 x) _ HXV.out.row Tryd.underlying26 HI.out ?h1 ?h2 ?_); (case h1 => rfl); (case h2 => rfl))
          | ((with_reducible refine arm_slice1 26 i0 _ (arr32 x) Tryd.underlying49 hi0 hz0 (by rw [arr32_size x (by omega), hz1]) ?s1 ?s2 ?s3 ?_); (case s1 => rw [arr32_size x (by omega)]; omega); (case s2 => rw [arr32_size x (by omega)]; omega); (case s3 => rfl))
          | (at_builtin; refine wpList_append_own _ rfl _ _ 49 rfl w.heap.size 26 i0 _ 32 32 Tryd.underlying49 hi0 hz0 hz1 hz2 rfl (by decide) _ _ _ rfl (HOV.out.alloc _) ⟨V.heap.size, 0, none⟩ 1 1 (cellsOf x) rfl (by rw [cellsOf_len (by omega)]) (cell_row_new _ _ _) (cellsOf_one _) (by unfold maxLen; omega) (by omega) (by simp; have := HBV.out.size; omega) ?_; intro v' w9 hown9 hgrow9 _
             have hb9 : Below w.heap.size V w9 := ((Below.refl _ V).alloc HBV.out.size (.cells (arr32 x) 26)).grown hgrow9 (by simp; have := HBV.out.size; omega) (fun q hq => (HOV.out.lt q hq).1)
             have HO9 := Lib.hid hown9
             have HK9 := Lib.hid (HKV.out.below (hb9.mono hBw))
             have HB9 : Hid (But g w w9) := Lib.hid ⟨hb9.os.trans HBV.out.os, hb9.tape.trans HBV.out.tape, hb9.output.trans HBV.out.output, Nat.le_trans HBV.out.size hb9.size, fun q hq hne => (hb9.block q hq).trans (HBV.out.block q hq hne)⟩
             clear hown9 hgrow9 hb9))
        go_roundw
        case rel => exact ⟨j + 1, _, L ++ [x], rfl, by omega, by go_num, by simp [hL], Lib.hid (fun l hl => by rcases List.mem_append.1 hl with h | h; exact HL.out l h; rw [List.mem_singleton.1 h]; exact ⟨hxl, hxb⟩), by rw [List.flatMap_append, List.flatMap_cons, List.flatMap_nil, List.append_nil]; exact HO9.out, HK9.out.mono (by omega), HB9.out⟩
        case measure => simp [intOf]; omega
      · have hj1 : (0 : Int) < (j : Int) := by omega
        have HSd := Lib.hid (seldom_any g B (k + 40 * j + 32) (by omega) 4 (by omega) V HKV.out)
        obtain ⟨g6, rfl, hg6b, _⟩ := own_addr HOV.out hj0
        go_upto_region 6 with (first
          | (go_at_call 51; (with_reducible refine HSd.out.mono ?_); rintro e w2 ⟨b, rfl, hK2, hb2⟩; have HK2 := Lib.hid hK2; have HX2 := Lib.hid (hb2.has HXV.out (by omega)); have HO2 := Lib.hid (own_but HOV.out hb2 (by omega)); have HB2 := Lib.hid (HBV.out.trans hb2); have hg2 := hK2.lt; clear hK2 hb2; cases b)
          | ((with_reducible refine arm_load ⟨b6, 0, none⟩ (arr32 x) _ HX2.out.row Tryd.underlying26 HI.out ?h1 ?h2 ?_); (case h1 => rfl); (case h2 => rfl))
          | ((with_reducible refine arm_slice1 26 i0 _ (arr32 x) Tryd.underlying49 hi0 hz0 (by rw [arr32_size x (by omega), hz1]) ?s1 ?s2 ?s3 ?_); (case s1 => rw [arr32_size x (by omega)]; omega); (case s2 => rw [arr32_size x (by omega)]; omega); (case s3 => rfl))
          | (at_builtin; refine wpList_append_own _ rfl _ _ 49 rfl w.heap.size 26 i0 _ 32 32 Tryd.underlying49 hi0 hz0 hz1 hz2 rfl (by decide) _ _ _ rfl (HO2.out.alloc _) ⟨w2.heap.size, 0, none⟩ 1 1 (cellsOf x) rfl (by rw [cellsOf_len (by omega)]) (cell_row_new _ _ _) (cellsOf_one _) (by unfold maxLen; omega) (by omega) (by simp; have := HB2.out.size; omega) ?_; intro v' w9 hown9 hgrow9 _
             have hb9 : Below w.heap.size w2 w9 := ((Below.refl _ w2).alloc HB2.out.size (.cells (arr32 x) 26)).grown hgrow9 (by simp; have := HB2.out.size; omega) (fun q hq => (HO2.out.lt q hq).1)
             have HO9 := Lib.hid hown9
             have HK9 := Lib.hid (HK2.out.below (hb9.mono hBw))
             have HB9 : Hid (But g w w9) := Lib.hid ⟨hb9.os.trans HB2.out.os, hb9.tape.trans HB2.out.tape, hb9.output.trans HB2.out.output, Nat.le_trans HB2.out.size hb9.size, fun q hq hne => (hb9.block q hq).trans (HB2.out.block q hq hne)⟩
             clear hown9 hgrow9 hb9))
        · go_roundw
          case rel => exact ⟨j + 1, _, L ++ [x], rfl, by omega, by go_num, by simp [hL], Lib.hid (fun l hl => by rcases List.mem_append.1 hl with h | h; exact HL.out l h; rw [List.mem_singleton.1 h]; exact ⟨hxl, hxb⟩), by rw [List.flatMap_append, List.flatMap_cons, List.flatMap_nil, List.append_nil]; exact HO9.out, HK9.out.mono (by omega), HB9.out⟩
          case measure => simp [intOf]; omega
        · have HLs := Lib.hid (less_any g B (k + 40 * j + 32 + 1) (by omega) (j : Int) (by omega) w2 HK2.out)
          go_upto_region 7 with (fail)
          go_at_call 50
          (with_reducible refine HLs.out.mono ?_)
          rintro e w3 ⟨v, rfl, hv0, hv1, _, hK3, hb3⟩
          obtain ⟨v, rfl⟩ := Int.eq_ofNat_of_zero_le hv0
          have hv2 : (v : Int) < (j : Int) := hv1 (by omega)
          have hv3 : v < j := by omega
          obtain ⟨y, hy⟩ : ∃ y, L[v]? = some y := ⟨_, List.getElem?_eq_getElem (by omega)⟩
          have hyl := HL.out y (List.mem_of_getElem? hy)
          have HO3 := Lib.hid (own_but HO2.out hb3 (by omega))
          have HX3 := Lib.hid (hb3.has HX2.out (by omega))
          have HB3 := Lib.hid (HB2.out.trans hb3)
          have HK3 := Lib.hid hK3
          have HRow : Hid (∀ i u, (arr32 y)[i]? = some u → w3.cell? ((⟨g6, v * 32, none⟩ : Addr).add i) = some u) := Lib.hid (fun i u hi => by have h := HO3.out.cells (g := g6) rfl (v * 32 + i) u (flat_at L HL.out v y hy i u hi); rw [Addr.add_lit, Nat.zero_add] at h; rw [Addr.add_lit]; exact h)
          have HIy := Lib.hid (arr32_info y (by omega))
          have HSy : Hid ((arr32 x).size = (arr32 y).size) := Lib.hid ((arr32_size x (by omega)).trans (arr32_size y (by omega)).symm)
          have hvc : v < c6 := by omega
          clear hK3 hb3 hy
          go_upto_region 7 with (first
            | ((with_reducible refine arm_load ⟨g6, v * 32, none⟩ (arr32 y) _ HRow.out Tryd.underlying26 HIy.out ?h1 ?h2 ?_); (case h1 => rfl); (case h2 => rfl))
            | ((with_reducible refine arm_store b6 (arr32 y) 26 (arr32 x) HX3.out HSy.out HIy.out (arr32_one _) ?h5 ?h6 ?_); (case h5 => rfl); (case h6 => rfl)))
          have hne6 : ∀ q, (Value.slice (some ⟨g6, 0, none⟩) j c6).ownBlock = some q → q ≠ b6 := fun q hq e => by
            have h := hlt1 q hq
            omega
          refine gen_world (P := fun W => Code.wp _ _ _ _ W) (I := fun Z => Kit Z g B (k + 40 * j + 34) ∧ Has Z b6 26 (arr32 y) ∧ Z.ownsRow w.heap.size 26 32 (.slice (some ⟨g6, 0, none⟩) j c6) j (L.flatMap cellsOf) ∧ But g w Z) _ ⟨(HK3.out.below (below_setRow (Below.refl B w3) hw1B _)).mono (by omega), HX3.out.setRow, own_setRow HO3.out (fun e => hne6 _ e rfl) _, HB3.out.newRow hb6w _⟩ ?_
          rintro Z ⟨hKZ, hXZ, hOZ, hBZ⟩
          have HKZ := Lib.hid hKZ
          have HXZ := Lib.hid hXZ
          have HOZ := Lib.hid hOZ
          have HBZ := Lib.hid hBZ
          clear hKZ hXZ hOZ hBZ HK3 HX3 HO3 HB3 HRow HK2 HX2 HO2 HB2 HLs HSd
          have HSd := Lib.hid (seldom_any g B (k + 40 * j + 34) (by omega) 2 (by omega) Z HKZ.out)
          have hyl1 := hyl.1
          have hyl2 := hyl.2
          go_upto_region 8 with (first
            | (go_at_call 51; (with_reducible refine HSd.out.mono ?_); rintro e w4 ⟨b, rfl, hK2, hb2⟩; have HK4 := Lib.hid hK2; have HX4 := Lib.hid (hb2.has HXZ.out (by omega)); have HO4 := Lib.hid (own_but HOZ.out hb2 (by omega)); have HB4 := Lib.hid (HBZ.out.trans hb2); clear hK2 hb2; cases b)
            | ((with_reducible refine arm_load ⟨b6, 0, none⟩ (arr32 y) _ HX4.out.row Tryd.underlying26 HIy.out ?h1 ?h2 ?_); (case h1 => rfl); (case h2 => rfl))
            | ((with_reducible refine arm_slice1 26 i0 _ (arr32 y) Tryd.underlying49 hi0 hz0 (by rw [arr32_size y (by omega), hz1]) ?s1 ?s2 ?s3 ?_); (case s1 => rw [arr32_size y (by omega)]; omega); (case s2 => rw [arr32_size y (by omega)]; omega); (case s3 => rfl))
            | (at_builtin; refine wpList_append_own _ rfl _ _ 49 rfl w.heap.size 26 i0 _ 32 32 Tryd.underlying49 hi0 hz0 hz1 hz2 rfl (by decide) _ _ _ rfl (HO4.out.alloc _) ⟨w4.heap.size, 0, none⟩ 1 1 (cellsOf y) rfl (by rw [cellsOf_len (by omega)]) (cell_row_new _ _ _) (cellsOf_one _) (by unfold maxLen; omega) (by omega) (by simp; have := HB4.out.size; omega) ?_; intro v' w9 hown9 hgrow9 _
               have hb9 : Below w.heap.size w4 w9 := ((Below.refl _ w4).alloc HB4.out.size (.cells (arr32 y) 26)).grown hgrow9 (by simp; have := HB4.out.size; omega) (fun q hq => (HO4.out.lt q hq).1)
               have HO9 := Lib.hid hown9
               have HK9 := Lib.hid (HK4.out.below (hb9.mono hBw))
               have HB9 : Hid (But g w w9) := Lib.hid ⟨hb9.os.trans HB4.out.os, hb9.tape.trans HB4.out.tape, hb9.output.trans HB4.out.output, Nat.le_trans HB4.out.size hb9.size, fun q hq hne => (hb9.block q hq).trans (HB4.out.block q hq hne)⟩
               clear hown9 hgrow9 hb9))
          · go_roundw
            case rel => exact ⟨j + 1, _, L ++ [y], rfl, by omega, by go_num, by simp [hL], Lib.hid (fun l hl => by rcases List.mem_append.1 hl with h | h; exact HL.out l h; rw [List.mem_singleton.1 h]; exact ⟨hyl1, hyl2⟩), by rw [List.flatMap_append, List.flatMap_cons, List.flatMap_nil, List.append_nil]; exact HO9.out, HK9.out.mono (by omega), HB9.out⟩
            case measure => simp [intOf]; omega
          · go_upto_region 8 with (fail)
            change Code.wp _ (Code.region 8 (smOps 8) true) _ _ _
            refine wp_region_held (S := fun V => But g w V) (by kernel_rfl) ?_
            have hsz : (smOps 8).size = 10 := by kernel_rfl
            rw [hsz]
            clear hsz
            refine gen_world (P := fun W' => wpAnyH _ _ _ _ _ _ _ _ W') (I := fun V => Below w4.heap.size w4 V) _ (Below.refl _ w4).drew ?_
            rintro V5 hBV
            have HX5 := Lib.hid (HX4.out.below hBV HX4.out.lt)
            have HO5 := Lib.hid (own_below HO4.out hBV)
            have HB5 := Lib.hid (HB4.out.trans (But.of_below (b := g) hBV))
            have HK5 := Lib.hid (HK4.out.below (hBV.mono (Nat.le_trans hBw HB4.out.size)))
            clear hBV
            have hfr : Calls Tryd.prog 85 #[.pointer (some ⟨g, 0, none⟩), .int .i64 1, .int .i64 31] V5 fun e w' => ∃ v : Nat, e = .returned (.int .i64 (v : Int)) ∧ 1 ≤ v ∧ v ≤ 31 ∧ Kit w' g B (k + 40 * j + 34 + 1 + 1) ∧ But g V5 w' := from_any g B (k + 40 * j + 34 + 1) (by omega) 1 31 (by omega) (by omega) V5 HK5.out
            have HFr := Lib.hid hfr
            clear hfr
            refine wpAnyH_take (i := 0) (oi := ⟨some 28, _, _, _, _, _⟩) (v := ?_) rfl (by kernel_rfl) (by kernel_rfl) (by kernel_rfl) (fun _ _ _ h => h) (Or.inl ⟨by rfl, fun w' hw' => by go_simp; with_reducible rfl⟩) HB5.out ?_
            try simp only [Act.put, List.setIfInBounds_toArray, List.set_cons_succ, List.set_cons_zero]
            refine wpAnyH_take (i := 4) (oi := ⟨some 32, _, _, _, _, _⟩) (v := ?_) rfl (by kernel_rfl) (by kernel_rfl) (by kernel_rfl) (fun _ _ _ h => h) (Or.inl ⟨by rfl, fun w' hw' => by go_simp; with_reducible rfl⟩) HB5.out ?_
            try simp only [Act.put, List.setIfInBounds_toArray, List.set_cons_succ, List.set_cons_zero]
            refine wpAnyH_all (rs := [1]) (by kernel_rfl) (by simp) ?_
            intro i hi
            obtain rfl : i = 1 := by simpa using hi
            clear hi
            refine wpOp_step (o := ⟨some 29, _, _, _, _, _⟩) rfl (fun K' hK' => ?_)
            rw [if_pos (show Region.wanted _ _ = true from rfl)]
            go_simp
            (with_reducible refine HFr.out.mono ?_)
            rintro e w6 ⟨p, rfl, hp1, hp2, hKx, hbx⟩
            have HX6 := Lib.hid (hbx.has HX5.out (by omega))
            have HO6 := Lib.hid (own_but HO5.out hbx (by omega))
            have HB6 := Lib.hid (HB5.out.trans hbx)
            have HK6 := Lib.hid hKx
            clear hbx hKx
            have HLe := Lib.hid (less_any g B (k + 40 * j + 34 + 1 + 1) (by omega) 8 (by omega) w6 HK6.out)
            refine hK' _ _ ⟨HB6.out, ?_⟩
            clear hK' K'
            try simp only [Act.put, List.setIfInBounds_toArray, List.set_cons_succ, List.set_cons_zero]
            have hp3 : (p : Int) < 32 := by omega
            have hpb : p < 32 := by omega
            obtain ⟨z0, hz9⟩ : ∃ z0, z0 = y.getD p 0 := ⟨_, rfl⟩
            have hcy : (arr32 y)[p]? = some (.int .u8 (z0 : Int)) := by rw [hz9]; exact arr32_get y hyl1 p hpb
            have hz256 : z0 < 256 := by rw [hz9]; exact Sha.getD_lt hyl2 (by decide) _
            have cc6 : w6.cell? ⟨b6, p, none⟩ = some (.int .u8 (z0 : Int)) := (HX6.out.cell p).trans hcy
            have HCy := Lib.hid hcy
            clear hz9 hcy
            refine wpAnyH_take (i := 2) (oi := ⟨some 30, _, _, _, _, _⟩) (v := .pointer (some ⟨b6, p, none⟩)) rfl (by kernel_rfl) (by kernel_rfl) (by kernel_rfl) (fun _ _ _ h => h) (Or.inl ⟨by rfl, fun w' hw' => by go_simp⟩) HB6.out ?_
            try simp only [Act.put, List.setIfInBounds_toArray, List.set_cons_succ, List.set_cons_zero]
            refine wpAnyH_all (rs := [3, 5]) (by kernel_rfl) (by simp) ?_
            intro jj hjj
            have hj2 : jj = 3 ∨ jj = 5 := by simpa using hjj
            clear hjj
            rcases hj2 with rfl | rfl
            · refine wpOp_step (o := ⟨some 31, _, _, _, _, _⟩) rfl (fun K' hK' => ?_)
              rw [if_pos (show Region.wanted _ _ = true from rfl)]
              go_simp
              refine hK' _ _ ⟨HB6.out, ?_⟩
              clear hK' K'
              try simp only [Act.put, List.setIfInBounds_toArray, List.set_cons_succ, List.set_cons_zero]
              refine wpAnyH_all (rs := [5]) (by kernel_rfl) (by simp) ?_
              intro i hi
              obtain rfl : i = 5 := by simpa using hi
              clear hi
              refine wpOp_step (o := ⟨some 33, _, _, _, _, _⟩) rfl (fun K' hK' => ?_)
              rw [if_pos (show Region.wanted _ _ = true from rfl)]
              go_simp
              (with_reducible refine HLe.out.mono ?_)
              rintro e w7 ⟨q, rfl, hq0, hq1, _, hKx, hbx⟩
              obtain ⟨q, rfl⟩ := Int.eq_ofNat_of_zero_le hq0
              have hq8 : q < 8 := by have := hq1 (by omega); omega
              have HX7 := Lib.hid (hbx.has HX6.out (by omega))
              have HO7 := Lib.hid (own_but HO6.out hbx (by omega))
              have HB7 := Lib.hid (HB6.out.trans hbx)
              have HK7 := Lib.hid hKx
              clear hbx hKx
              have c7 : w7.cell? ⟨b6, p, none⟩ = some (.int .u8 (z0 : Int)) := (HX7.out.cell p).trans HCy.out
              have f7 := HX7.out.free p
              refine hK' _ _ ⟨HB7.out, ?_⟩
              clear hK' K'
              try simp only [Act.put, List.setIfInBounds_toArray, List.set_cons_succ, List.set_cons_zero]
              obtain ⟨z, hz, hzz⟩ := xor_byte z0 q hz256 hq8
              refine wpAnyH_take (i := 6) (oi := ⟨some 34, _, _, _, _, _⟩) (v := ?_) rfl (by kernel_rfl) (by kernel_rfl) (by kernel_rfl) (fun _ _ _ h => h) (Or.inl ⟨by rfl, fun w' hw' => by go_simp; with_reducible rfl⟩) HB7.out ?_
              try simp only [Act.put, List.setIfInBounds_toArray, List.set_cons_succ, List.set_cons_zero]
              refine wpAnyH_take (i := 7) (oi := ⟨some 35, _, _, _, _, _⟩) (v := .int .u8 (z : Int)) rfl (by kernel_rfl) (by kernel_rfl) (by kernel_rfl) (fun _ _ _ h => h) (Or.inl ⟨by rfl, fun w' hw' => by go_simp⟩) HB7.out ?_
              try simp only [Act.put, List.setIfInBounds_toArray, List.set_cons_succ, List.set_cons_zero]
              refine wpAnyH_take (i := 8) (oi := ⟨some 36, _, _, _, _, _⟩) (v := .pointer (some ⟨b6, p, none⟩)) rfl (by kernel_rfl) (by kernel_rfl) (by kernel_rfl) (fun _ _ _ h => h) (Or.inl ⟨by rfl, fun w' hw' => by go_simp⟩) HB7.out ?_
              try simp only [Act.put, List.setIfInBounds_toArray, List.set_cons_succ, List.set_cons_zero]
              refine wpAnyH_all (rs := [9]) (by kernel_rfl) (by simp) ?_
              intro i hi
              obtain rfl : i = 9 := by simpa using hi
              clear hi
              refine wpOp_step (o := ⟨none, _, _, _, _, _⟩) rfl (fun K' hK' => ?_)
              rw [if_pos (show Region.wanted _ _ = true from rfl)]
              go_simp
              refine hK' _ _ ⟨HB7.out.new hb6w _, ?_⟩
              clear hK' K'
              try simp only [Act.put, List.setIfInBounds_toArray, List.set_cons_succ, List.set_cons_zero]
              refine wpAnyH_done (by kernel_rfl) ?_ _
              have hyy : (y.set p z).length = 32 ∧ Sha.Bytes (y.set p z) := ⟨by rw [List.length_set, hyl1], fun v hv => (List.mem_or_eq_of_mem_set hv).elim (hyl2 v) (fun e => by rw [e]; exact hz)⟩
              refine gen_world (P := fun W => _) (I := fun Y => Kit Y g B (k + 40 * j + 38) ∧ Has Y b6 26 (arr32 (y.set p z)) ∧ Y.ownsRow w.heap.size 26 32 (.slice (some ⟨g6, 0, none⟩) j c6) j (L.flatMap cellsOf) ∧ But g w Y) _ ⟨(HK7.out.below ((Below.refl B w7).setCell hw1B _)).mono (by omega), (HX7.out.put p _).of_eq (arr32_setAt y hyl1 p z), ownsRow_setCell_other HO7.out (fun e => hne6 _ e rfl) _, HB7.out.new hb6w _⟩ ?_
              generalize y.set p z = t at hyy ⊢
              rintro w8 ⟨hK8, hX8, hO8, hB8⟩
              have HK8 := Lib.hid hK8
              have HX8 := Lib.hid hX8
              have HO8 := Lib.hid hO8
              have HB8 := Lib.hid hB8
              have hyt1 := hyy.1
              have hyt2 := hyy.2
              have HIt := Lib.hid (arr32_info t (by omega))
              clear hK8 hX8 hO8 hB8 hyy cc6 c7 f7
              go_wp2_with (first
                | ((with_reducible refine arm_load ⟨b6, 0, none⟩ (arr32 t) _ HX8.out.row Tryd.underlying26 HIt.out ?h1 ?h2 ?_); (case h1 => rfl); (case h2 => rfl))
                | ((with_reducible refine arm_slice1 26 i0 _ (arr32 t) Tryd.underlying49 hi0 hz0 (by rw [arr32_size t (by omega), hz1]) ?s1 ?s2 ?s3 ?_); (case s1 => rw [arr32_size t (by omega)]; omega); (case s2 => rw [arr32_size t (by omega)]; omega); (case s3 => rfl))
                | (at_builtin; refine wpList_append_own _ rfl _ _ 49 rfl w.heap.size 26 i0 _ 32 32 Tryd.underlying49 hi0 hz0 hz1 hz2 rfl (by decide) _ _ _ rfl (HO8.out.alloc _) ⟨w8.heap.size, 0, none⟩ 1 1 (cellsOf t) rfl (by rw [cellsOf_len (by omega)]) (cell_row_new _ _ _) (cellsOf_one _) (by unfold maxLen; omega) (by omega) (by simp; have := HB8.out.size; omega) ?_; intro v' w9 hown9 hgrow9 _
                   have hb9 : Below w.heap.size w8 w9 := ((Below.refl _ w8).alloc HB8.out.size (.cells (arr32 t) 26)).grown hgrow9 (by simp; have := HB8.out.size; omega) (fun q hq => (HO8.out.lt q hq).1)
                   have HO9 := Lib.hid hown9
                   have HK9 := Lib.hid (HK8.out.below (hb9.mono hBw))
                   have HB9 : Hid (But g w w9) := Lib.hid ⟨hb9.os.trans HB8.out.os, hb9.tape.trans HB8.out.tape, hb9.output.trans HB8.out.output, Nat.le_trans HB8.out.size hb9.size, fun q hq hne => (hb9.block q hq).trans (HB8.out.block q hq hne)⟩
                   clear hown9 hgrow9 hb9))
              go_roundw
              case rel => exact ⟨j + 1, _, L ++ [t], rfl, by omega, by go_num, by simp [hL], Lib.hid (fun l hl => by rcases List.mem_append.1 hl with h | h; exact HL.out l h; rw [List.mem_singleton.1 h]; exact ⟨hyt1, hyt2⟩), by rw [List.flatMap_append, List.flatMap_cons, List.flatMap_nil, List.append_nil]; exact HO9.out, HK9.out.mono (by omega), HB9.out⟩
              case measure => simp [intOf]; omega
            · refine wpOp_step (o := ⟨some 33, _, _, _, _, _⟩) rfl (fun K' hK' => ?_)
              rw [if_pos (show Region.wanted _ _ = true from rfl)]
              go_simp
              (with_reducible refine HLe.out.mono ?_)
              rintro e w7 ⟨q, rfl, hq0, hq1, _, hKx, hbx⟩
              obtain ⟨q, rfl⟩ := Int.eq_ofNat_of_zero_le hq0
              have hq8 : q < 8 := by have := hq1 (by omega); omega
              have HX7 := Lib.hid (hbx.has HX6.out (by omega))
              have HO7 := Lib.hid (own_but HO6.out hbx (by omega))
              have HB7 := Lib.hid (HB6.out.trans hbx)
              have HK7 := Lib.hid hKx
              clear hbx hKx
              have c7 : w7.cell? ⟨b6, p, none⟩ = some (.int .u8 (z0 : Int)) := (HX7.out.cell p).trans HCy.out
              have f7 := HX7.out.free p
              refine hK' _ _ ⟨HB7.out, ?_⟩
              clear hK' K'
              try simp only [Act.put, List.setIfInBounds_toArray, List.set_cons_succ, List.set_cons_zero]
              refine wpAnyH_take (i := 6) (oi := ⟨some 34, _, _, _, _, _⟩) (v := ?_) rfl (by kernel_rfl) (by kernel_rfl) (by kernel_rfl) (fun _ _ _ h => h) (Or.inl ⟨by rfl, fun w' hw' => by go_simp; with_reducible rfl⟩) HB7.out ?_
              try simp only [Act.put, List.setIfInBounds_toArray, List.set_cons_succ, List.set_cons_zero]
              refine wpAnyH_all (rs := [3]) (by kernel_rfl) (by simp) ?_
              intro i hi
              obtain rfl : i = 3 := by simpa using hi
              clear hi
              refine wpOp_step (o := ⟨some 31, _, _, _, _, _⟩) rfl (fun K' hK' => ?_)
              rw [if_pos (show Region.wanted _ _ = true from rfl)]
              go_simp
              refine hK' _ _ ⟨HB7.out, ?_⟩
              clear hK' K'
              try simp only [Act.put, List.setIfInBounds_toArray, List.set_cons_succ, List.set_cons_zero]
              obtain ⟨z, hz, hzz⟩ := xor_byte z0 q hz256 hq8
              refine wpAnyH_take (i := 7) (oi := ⟨some 35, _, _, _, _, _⟩) (v := .int .u8 (z : Int)) rfl (by kernel_rfl) (by kernel_rfl) (by kernel_rfl) (fun _ _ _ h => h) (Or.inl ⟨by rfl, fun w' hw' => by go_simp⟩) HB7.out ?_
              try simp only [Act.put, List.setIfInBounds_toArray, List.set_cons_succ, List.set_cons_zero]
              refine wpAnyH_take (i := 8) (oi := ⟨some 36, _, _, _, _, _⟩) (v := .pointer (some ⟨b6, p, none⟩)) rfl (by kernel_rfl) (by kernel_rfl) (by kernel_rfl) (fun _ _ _ h => h) (Or.inl ⟨by rfl, fun w' hw' => by go_simp⟩) HB7.out ?_
              try simp only [Act.put, List.setIfInBounds_toArray, List.set_cons_succ, List.set_cons_zero]
              refine wpAnyH_all (rs := [9]) (by kernel_rfl) (by simp) ?_
              intro i hi
              obtain rfl : i = 9 := by simpa using hi
              clear hi
              refine wpOp_step (o := ⟨none, _, _, _, _, _⟩) rfl (fun K' hK' => ?_)
              rw [if_pos (show Region.wanted _ _ = true from rfl)]
              go_simp
              refine hK' _ _ ⟨HB7.out.new hb6w _, ?_⟩
              clear hK' K'
              try simp only [Act.put, List.setIfInBounds_toArray, List.set_cons_succ, List.set_cons_zero]
              refine wpAnyH_done (by kernel_rfl) ?_ _
              have hyy : (y.set p z).length = 32 ∧ Sha.Bytes (y.set p z) := ⟨by rw [List.length_set, hyl1], fun v hv => (List.mem_or_eq_of_mem_set hv).elim (hyl2 v) (fun e => by rw [e]; exact hz)⟩
              refine gen_world (P := fun W => _) (I := fun Y => Kit Y g B (k + 40 * j + 38) ∧ Has Y b6 26 (arr32 (y.set p z)) ∧ Y.ownsRow w.heap.size 26 32 (.slice (some ⟨g6, 0, none⟩) j c6) j (L.flatMap cellsOf) ∧ But g w Y) _ ⟨(HK7.out.below ((Below.refl B w7).setCell hw1B _)).mono (by omega), (HX7.out.put p _).of_eq (arr32_setAt y hyl1 p z), ownsRow_setCell_other HO7.out (fun e => hne6 _ e rfl) _, HB7.out.new hb6w _⟩ ?_
              generalize y.set p z = t at hyy ⊢
              rintro w8 ⟨hK8, hX8, hO8, hB8⟩
              have HK8 := Lib.hid hK8
              have HX8 := Lib.hid hX8
              have HO8 := Lib.hid hO8
              have HB8 := Lib.hid hB8
              have hyt1 := hyy.1
              have hyt2 := hyy.2
              have HIt := Lib.hid (arr32_info t (by omega))
              clear hK8 hX8 hO8 hB8 hyy cc6 c7 f7
              go_wp2_with (first
                | ((with_reducible refine arm_load ⟨b6, 0, none⟩ (arr32 t) _ HX8.out.row Tryd.underlying26 HIt.out ?h1 ?h2 ?_); (case h1 => rfl); (case h2 => rfl))
                | ((with_reducible refine arm_slice1 26 i0 _ (arr32 t) Tryd.underlying49 hi0 hz0 (by rw [arr32_size t (by omega), hz1]) ?s1 ?s2 ?s3 ?_); (case s1 => rw [arr32_size t (by omega)]; omega); (case s2 => rw [arr32_size t (by omega)]; omega); (case s3 => rfl))
                | (at_builtin; refine wpList_append_own _ rfl _ _ 49 rfl w.heap.size 26 i0 _ 32 32 Tryd.underlying49 hi0 hz0 hz1 hz2 rfl (by decide) _ _ _ rfl (HO8.out.alloc _) ⟨w8.heap.size, 0, none⟩ 1 1 (cellsOf t) rfl (by rw [cellsOf_len (by omega)]) (cell_row_new _ _ _) (cellsOf_one _) (by unfold maxLen; omega) (by omega) (by simp; have := HB8.out.size; omega) ?_; intro v' w9 hown9 hgrow9 _
                   have hb9 : Below w.heap.size w8 w9 := ((Below.refl _ w8).alloc HB8.out.size (.cells (arr32 t) 26)).grown hgrow9 (by simp; have := HB8.out.size; omega) (fun q hq => (HO8.out.lt q hq).1)
                   have HO9 := Lib.hid hown9
                   have HK9 := Lib.hid (HK8.out.below (hb9.mono hBw))
                   have HB9 : Hid (But g w w9) := Lib.hid ⟨hb9.os.trans HB8.out.os, hb9.tape.trans HB8.out.tape, hb9.output.trans HB8.out.output, Nat.le_trans HB8.out.size hb9.size, fun q hq hne => (hb9.block q hq).trans (HB8.out.block q hq hne)⟩
                   clear hown9 hgrow9 hb9))
              go_roundw
              case rel => exact ⟨j + 1, _, L ++ [t], rfl, by omega, by go_num, by simp [hL], Lib.hid (fun l hl => by rcases List.mem_append.1 hl with h | h; exact HL.out l h; rw [List.mem_singleton.1 h]; exact ⟨hyt1, hyt2⟩), by rw [List.flatMap_append, List.flatMap_cons, List.flatMap_nil, List.append_nil]; exact HO9.out, HK9.out.mono (by omega), HB9.out⟩
              case measure => simp [intOf]; omega
    · obtain rfl : j = many := by omega
      have HO := Lib.hid hO
      have HB := Lib.hid hB
      have HKr := Lib.hid hKr
      clear hO hB hKr
      go_wp2
      go_ret
      exact ⟨_, L, rfl, hL, HL.out, HO.out, HKr.out, HB.out⟩
end Go.Proofs.YtffdkniahdekjaaDoor
end
section
namespace Go.Proofs.YtffdkniahdekjaaDoor
open Go.RowKit Go.Hoar
def digOf (c : Nat) : Int := if IsDig c then (valOf c : Nat) else -1
theorem digOf_letter (k : Nat) (hk : k < 16) : digOf (letter k) = k := by
  have : ∀ k, k < 16 → digOf (letter k) = k := by decide
  exact this k hk
theorem digOf_none (c : Nat) (h : ∀ j, j < 16 → letter j ≠ c) : digOf c = -1 := by
  have e : ∀ j, j < 16 → letter j ≠ c := h
  unfold digOf
  rw [if_neg]
  intro hd
  unfold IsDig at hd
  rcases hd with ⟨h1, h2⟩ | ⟨h1, h2⟩
  · exact e (c - 48) (by omega) (by unfold letter; rw [if_pos (by omega)]; omega)
  · exact e (c - 87) (by omega) (by unfold letter; rw [if_neg (by omega)]; omega)
theorem index_letter (k : Nat) (hk : k < 16) (w : World) : (Instr.index 9 (.string ⟨#[48, 49, 50, 51, 52, 53, 54, 55, 56, 57, 97, 98, 99, 100, 101, 102]⟩) (.int .i64 (k : Int))).run Tryd.prog w = .ok (.int .u8 ((letter k : Nat) : Int)) w := by
  obtain rfl | rfl | rfl | rfl | rfl | rfl | rfl | rfl | rfl | rfl | rfl | rfl | rfl | rfl | rfl | rfl : k = 0 ∨ k = 1 ∨ k = 2 ∨ k = 3 ∨ k = 4 ∨ k = 5 ∨ k = 6 ∨ k = 7 ∨ k = 8 ∨ k = 9 ∨ k = 10 ∨ k = 11 ∨ k = 12 ∨ k = 13 ∨ k = 14 ∨ k = 15 := by omega
  all_goals kernel_rfl
set_option maxRecDepth 100000 in
set_option maxHeartbeats 2000000 in
theorem refDigit_any (c : Nat) (_hc : c < 256) (w : World) : Calls Tryd.prog 64 #[.int .u8 (c : Int)] w fun e w' => e = .returned (.int .i64 (digOf c)) ∧ w' = w := by
  go_enter Tryd.func64, Tryd.ntmps64
  go_wp2
  go_loop [3] (fun i => ∃ k : Nat, k ≤ 16 ∧ i = .int .i64 k ∧ Hid (∀ j, j < k → letter j ≠ c)) (fun i => 16 - (intOf i).toNat)
  case atStart => exact ⟨0, Nat.zero_le _, rfl, Lib.hid (fun j hj => absurd hj (Nat.not_lt_zero _))⟩
  case round =>
    obtain ⟨k, hk, rfl, HN⟩ := hrel
    by_cases hlt : k < 16
    · have hix := index_letter k hlt
      obtain ⟨d, hd⟩ : ∃ d, d = letter k := ⟨_, rfl⟩
      rw [← hd] at hix
      by_cases hq : d = c
      · have hr : digOf c = k := by rw [← hq, hd]; exact digOf_letter k hlt
        have HR := Lib.hid hr
        have HD := Lib.hid hd
        clear hr hd
        have hb : (((d : Nat) : Int) == (c : Int)) = true := by rw [hq]; exact beq_self_eq_true _
        clear hq
        go_wp2
        go_ret
        exact ⟨by rw [HR.out]; rfl, rfl⟩
      · have HN2 : Hid (∀ j, j < k + 1 → letter j ≠ c) := Lib.hid fun j hj => by
          rcases Nat.lt_or_ge j k with h | h
          · exact HN.out j h
          · obtain rfl : j = k := by omega
            rw [← hd]
            exact hq
        have HD := Lib.hid hd
        clear hd
        have hb : (((d : Nat) : Int) == (c : Int)) = false := by rw [beq_eq_false_iff_ne]; omega
        clear hq
        go_wp2
        go_round
        case rel => exact ⟨k + 1, by omega, by go_num, HN2⟩
        case measure => simp [intOf]; omega
    · have HR := Lib.hid (digOf_none c (fun j hj => HN.out j (by omega)))
      go_wp2
      go_ret
      exact ⟨by rw [HR.out]; rfl, rfl⟩
end Go.Proofs.YtffdkniahdekjaaDoor
end
section
namespace Go.Proofs.YtffdkniahdekjaaDoor
open Go.RowKit Go.Hoar
def str (l : List Nat) : ByteArray := ⟨(l.map UInt8.ofNat).toArray⟩
theorem str_append (a b : List Nat) : str a ++ str b = str (a ++ b) := by
  unfold str
  rw [List.map_append]
  apply ByteArray.ext
  simp
theorem slice_letter (d : Nat) (hd : d < 16) (w : World) : (Instr.sliceAt 9 (.string ⟨#[48, 49, 50, 51, 52, 53, 54, 55, 56, 57, 97, 98, 99, 100, 101, 102]⟩) (some (.int .u8 (d : Int))) (some (.int .u8 ((d : Int) + 1))) none).run Tryd.prog w = .ok (.string (str [letter d])) w := by
  obtain rfl | rfl | rfl | rfl | rfl | rfl | rfl | rfl | rfl | rfl | rfl | rfl | rfl | rfl | rfl | rfl : d = 0 ∨ d = 1 ∨ d = 2 ∨ d = 3 ∨ d = 4 ∨ d = 5 ∨ d = 6 ∨ d = 7 ∨ d = 8 ∨ d = 9 ∨ d = 10 ∨ d = 11 ∨ d = 12 ∨ d = 13 ∨ d = 14 ∨ d = 15 := by omega
  all_goals kernel_rfl
def hexP (l : List Nat) (k : Nat) : List Nat := (List.range k).map fun i => letter (nib l i)
theorem hexP_two (l : List Nat) (k : Nat) : hexP l (2 * (k + 1)) = hexP l (2 * k) ++ [letter (l.getD k 0 / 16), letter (l.getD k 0 % 16)] := by
  unfold hexP
  rw [show 2 * (k + 1) = 2 * k + 1 + 1 by omega, List.range_succ, List.range_succ]
  simp only [List.map_append, List.map_cons, List.map_nil, List.append_assoc, List.cons_append, List.nil_append]
  have e1 : nib l (2 * k) = l.getD k 0 / 16 := by unfold nib; rw [if_pos (by omega), show 2 * k / 2 = k by omega]
  have e2 : nib l (2 * k + 1) = l.getD k 0 % 16 := by unfold nib; rw [if_neg (by omega), show (2 * k + 1) / 2 = k by omega]
  rw [e1, e2]
set_option maxRecDepth 100000 in
set_option maxHeartbeats 2000000 in
theorem refHex_any (l : List Nat) (hl : l.length = 32) (hlb : Sha.Bytes l) (w : World) :
    Calls Tryd.prog 29 #[.agg (arr32 l)] w fun e w' => e = .returned (.string (str (hexOf l))) ∧ Below w.heap.size w w' := by
  go_enter Tryd.func29, Tryd.ntmps29
  go_upto_region 1 with (fail)
  refine gen_world (P := fun W => Code.wp _ _ _ _ W) (I := fun W => Below w.heap.size w W ∧ Has W w.heap.size 26 (arr32 l)) _ ⟨(Below.refl _ w).alloc (Nat.le_refl _) _, Has.fresh_at _ _ _ _ rfl⟩ ?_
  rintro W ⟨hB, hL⟩
  have HB := Lib.hid hB
  generalize w.heap.size = p at hL ⊢
  have HL := Lib.hid hL
  have HLB := Lib.hid hlb
  clear hB hL
  go_wp2
  go_loopw [3, 4] (fun o i wr => ∃ k q : Nat, k ≤ 32 ∧ i = .int .i64 k ∧ o = .string (str (hexP l (2 * k))) ∧ wr = W.drewN q) (fun _ i _ => 32 - (intOf i).toNat)
  case atStart => exact ⟨0, 0, Nat.zero_le _, rfl, by rw [Nat.mul_zero]; rfl, rfl⟩
  case round =>
    obtain ⟨k, q, hk, rfl, rfl, rfl⟩ := hrel
    by_cases hlt : k < 32
    · obtain ⟨x, hx⟩ : ∃ x, x = l.getD k 0 := ⟨_, rfl⟩
      have hx2 : x < 256 := by rw [hx]; exact Sha.getD_lt hlb (by decide) k
      have c1 : ∀ n, (W.drewN n).cell? ⟨p, k, none⟩ = some (.int .u8 (x : Int)) := fun n => by rw [(HL.out.drewN n).cell, arr32_get l hl k hlt, hx]
      have h2 := hexP_two l k
      rw [← hx] at h2
      obtain ⟨h, hh⟩ : ∃ h, h = x / 16 := ⟨_, rfl⟩
      obtain ⟨r, hr⟩ : ∃ r, r = x % 16 := ⟨_, rfl⟩
      rw [← hh, ← hr] at h2
      have hh16 : h < 16 := by omega
      have hr16 : r < 16 := by omega
      have e1 : (x : Int) / 16 = (h : Int) := by omega
      have e2 : (x : Int) % 16 = (r : Int) := by omega
      have e3 : (x : Int).tmod 16 = (r : Int) := by rw [Int.tmod_eq_emod_of_nonneg (by omega)]; exact e2
      have e4 : (x : Int).tdiv 16 = (h : Int) := by rw [Int.tdiv_eq_ediv_of_nonneg (by omega)]; exact e1
      have s1 := slice_letter h hh16
      have s2 := slice_letter r hr16
      have w1 : IntKind.u8.wrap ((h : Int) + 1) = (h : Int) + 1 := by
        unfold IntKind.wrap
        simp [IntKind.bits, IntKind.signed]
        omega
      have w2 : IntKind.u8.wrap ((r : Int) + 1) = (r : Int) + 1 := by
        unfold IntKind.wrap
        simp [IntKind.bits, IntKind.signed]
        omega
      have w3 : IntKind.u8.wrap (h : Int) = (h : Int) := by
        unfold IntKind.wrap
        simp [IntKind.bits, IntKind.signed]
        omega
      have w4 : IntKind.u8.wrap (r : Int) = (r : Int) := by
        unfold IntKind.wrap
        simp [IntKind.bits, IntKind.signed]
        omega
      have z1 : (str [letter h]).size = 1 := rfl
      have z2 : (str [letter r]).size = 1 := rfl
      have z3 : (str [letter h, letter r]).size = 2 := rfl
      have z4 : (str (hexP l (2 * k))).size = 2 * k := by simp [str, ByteArray.size, hexP]
      have a1 : str [letter h] ++ str [letter r] = str [letter h, letter r] := str_append _ _
      have a2 : str (hexP l (2 * k)) ++ str [letter h, letter r] = str (hexP l (2 * (k + 1))) := by rw [str_append, h2]
      have H2 := Lib.hid h2
      have HX := Lib.hid (And.intro hx (And.intro hh hr))
      clear hx hh hr h2
      go_wp2
      go_quiet (fail)
      go_wp2
      exact ⟨⟨k + 1, _, by omega, by go_num, rfl, rfl⟩, by simp [intOf]; omega⟩
    · obtain rfl : k = 32 := by omega
      go_wp2
      go_ret
      exact ⟨rfl, below_drewN HB.out q⟩
end Go.Proofs.YtffdkniahdekjaaDoor
end
section
namespace Go.Proofs.YtffdkniahdekjaaDoor
open Go.RowKit Go.Hoar
/-- The array behind so many letters. -/
def outAt (s : ByteArray) (k : Nat) : List Nat := packK s (k / 2) ++ if k % 2 = 1 then [valOf (byteAt s (k - 1))] else []
def prevAt (s : ByteArray) (k : Nat) : Nat := if k % 2 = 1 then valOf (byteAt s (k - 1)) else 0
theorem outAt_cell (s : ByteArray) (k : Nat) (hk : k < 64) : (arr32 (outAt s k))[k / 2]? = some (.int .u8 ((prevAt s k : Nat) : Int)) := by
  unfold outAt prevAt
  have hl := packK_length s (k / 2)
  split
  · rw [arr32, List.getElem?_toArray, List.map_append, List.append_assoc, List.getElem?_append_right (by simp [hl]), List.length_map, hl, Nat.sub_self]
    rfl
  · rw [List.append_nil]
    have := arr32_end (packK s (k / 2)) (by omega)
    rwa [hl] at this
theorem outAt_step (s : ByteArray) (k : Nat) (hk : k < 64) : (arr32 (outAt s k)).setIfInBounds (k / 2) (BV (prevAt s k * 16 + valOf (byteAt s k))) = arr32 (outAt s (k + 1)) := by
  have hl := packK_length s (k / 2)
  unfold outAt prevAt
  by_cases h : k % 2 = 1
  · have h' : ¬ (k + 1) % 2 = 1 := by omega
    simp only [if_pos h, if_neg h', List.append_nil]
    rw [show (k + 1) / 2 = k / 2 + 1 by omega, packK_succ]
    have e1 := arr32_set (packK s (k / 2)) (valOf (byteAt s (k - 1))) (by omega)
    have e2 := arr32_set (packK s (k / 2)) (valOf (byteAt s (k - 1)) * 16 + valOf (byteAt s k)) (by omega)
    rw [hl] at e1 e2
    rw [← e1, Array.setIfInBounds_setIfInBounds, e2, show 2 * (k / 2) = k - 1 by omega, show k - 1 + 1 = k by omega]
  · have h' : (k + 1) % 2 = 1 := by omega
    simp only [if_neg h, if_pos h', List.append_nil]
    rw [show (k + 1) / 2 = k / 2 by omega, show k + 1 - 1 = k by omega]
    have e1 := arr32_set (packK s (k / 2)) (0 * 16 + valOf (byteAt s k)) (by omega)
    rw [hl] at e1
    rw [e1, Nat.zero_mul, Nat.zero_add]
theorem index_str (s : ByteArray) (k : Nat) (hk : k < s.size) (w : World) : (Instr.index 9 (.string s) (.int .i64 (k : Int))).run Tryd.prog w = .ok (.int .u8 ((byteAt s k : Nat) : Int)) w := by
  rw [run_index_string w 9 s .i64 (k : Int) Tryd.underlying9]
  have := byteAt_eq s k hk
  simp [hk, this]
set_option maxRecDepth 100000 in
set_option maxHeartbeats 1000000 in
theorem refUnhex_many (s : ByteArray) (h : s.size ≠ 64) (_hsz : s.size ≤ 1099511627776) (w : World) :
    Calls Tryd.prog 27 #[.string s] w fun e w' => e = .returned (.tuple #[.agg (arr32 []), .int .i64 2]) ∧ Below w.heap.size w w' := by
  have hne : ¬ (s.size : Int) = 64 := by omega
  have HI32 := Lib.hid (arr32_info [] (by simp))
  go_enter Tryd.func27, Tryd.ntmps27
  go_upto_region 2 with (fail)
  refine gen_world (P := fun W => Code.wp _ _ _ _ W) (I := fun W => Below w.heap.size w W ∧ Has W w.heap.size 26 (arr32 []) ∧ Has W (w.heap.size + 1) 26 (arr32 [])) _ ⟨((Below.refl _ w).alloc (Nat.le_refl _) _).alloc (by simp) _, (Has.fresh_at _ _ _ _ rfl).alloc _, Has.fresh_at _ _ _ _ (by simp)⟩ ?_
  rintro W ⟨hB, hR, hO⟩
  have HB := Lib.hid hB
  have HR := Lib.hid hR
  have HO := Lib.hid hO.row
  clear hB hR hO
  go_wp2_with (first
    | ((with_reducible refine arm_load (w := W) ⟨w.heap.size + 1, 0, none⟩ _ _ HO.out Tryd.underlying26 HI32.out ?h3 ?h4 ?_); (case h3 => rfl); (case h4 => rfl))
    | ((with_reducible refine arm_store w.heap.size (arr32 []) 26 (arr32 []) HR.out rfl HI32.out (arr32_one _) ?h5 ?h6 ?_); (case h5 => rfl); (case h6 => rfl)))
  exact bodyPost_ret (results_row_tmp rfl _ _ w.heap.size 26 (arr32 []) (0, 0) _ rfl HR.out.setRow rfl Tryd.underlying26 HI32.out) rfl ⟨rfl, below_setRow HB.out (Nat.le_refl _) _⟩
set_option maxRecDepth 100000 in
set_option maxHeartbeats 2000000 in
theorem refUnhex_any (s : ByteArray) (h : s.size = 64) (w : World) :
    Calls Tryd.prog 27 #[.string s] w fun e w' => e = .returned (.tuple (if AllDig s then #[.agg (arr32 (packK s 32)), .int .i64 0] else #[.agg (arr32 []), .int .i64 4])) ∧ Below w.heap.size w w' := by
  have hne : (s.size : Int) = 64 := by omega
  have HI32 := Lib.hid (arr32_info [] (by simp))
  have hlen := packK_length s 32
  have HI33 := Lib.hid (arr32_info (packK s 32) (by rw [hlen]; omega))
  have HS32 := Lib.hid ((arr32_size [] (by simp)).trans (arr32_size (packK s 32) (by rw [hlen]; omega)).symm)
  clear hlen
  go_enter Tryd.func27, Tryd.ntmps27
  go_upto_region 2 with (fail)
  refine gen_world (P := fun W => Code.wp _ _ _ _ W) (I := fun W => Below w.heap.size w W ∧ Has W w.heap.size 26 (arr32 []) ∧ Has W (w.heap.size + 1) 26 (arr32 [])) _ ⟨((Below.refl _ w).alloc (Nat.le_refl _) _).alloc (by simp) _, (Has.fresh_at _ _ _ _ rfl).alloc _, Has.fresh_at _ _ _ _ (by simp)⟩ ?_
  rintro W ⟨hB, hR, hO⟩
  have HB := Lib.hid hB
  have HR := Lib.hid hR
  have HO := Lib.hid hO
  clear hB hR hO
  go_wp2
  go_loopw [5] (fun i wr => ∃ k : Nat, k ≤ 64 ∧ i = .int .i64 k ∧ Hid (∀ j, j < k → IsDig (byteAt s j)) ∧ Has wr (w.heap.size + 1) 26 (arr32 (outAt s k)) ∧ Has wr w.heap.size 26 (arr32 []) ∧ Below w.heap.size w wr) (fun i _ => 64 - (intOf i).toNat)
  case atStart => exact ⟨0, Nat.zero_le _, rfl, Lib.hid (fun j hj => absurd hj (Nat.not_lt_zero _)), HO.out, HR.out, HB.out⟩
  case round =>
    obtain ⟨k, hk, rfl, HN, hO, hR, hB⟩ := hrel
    by_cases hlt : k < 64
    · have hix := index_str s k (by omega)
      have hb256 : byteAt s k < 256 := by unfold byteAt; exact UInt8.toNat_lt _
      have hdg := refDigit_any (byteAt s k) hb256
      have HDg := Lib.hid hdg
      have HR := Lib.hid hR
      have HB := Lib.hid hB
      by_cases hd : IsDig (byteAt s k)
      · have hdv : digOf (byteAt s k) = ((valOf (byteAt s k) : Nat) : Int) := if_pos hd
        have hv := valOf_lt hd
        have hst := outAt_step s k hlt
        have hcell := (hO.cell (k / 2)).trans (outAt_cell s k hlt)
        have hfree := hO.free (k / 2)
        have hpv : prevAt s k < 16 := by
          unfold prevAt
          split
          · exact valOf_lt (HN.out (k - 1) (by omega))
          · omega
        have HN2 : Hid (∀ j, j < k + 1 → IsDig (byteAt s j)) := Lib.hid fun j hj => by
          rcases Nat.lt_or_ge j k with h | h
          · exact HN.out j h
          · obtain rfl : j = k := by omega
            exact hd
        have HDv := Lib.hid hdv
        have hput := (hO.put (k / 2) (BV (prevAt s k * 16 + valOf (byteAt s k)))).of_eq hst
        generalize byteAt s k = c at *
        generalize prevAt s k = x at *
        obtain ⟨v, hvv⟩ : ∃ v, v = valOf c := ⟨_, rfl⟩
        rw [← hvv] at HDv hv hput
        have HP := Lib.hid hput
        clear hO hR hB hdg hdv hst hput hvv hd
        go_wp2_with (first
          | (go_at_call 64; (with_reducible refine (HDg.out _).mono ?_); rintro e w' ⟨rfl, rfl⟩; rw [HDv.out]))
        have hbv : BV (x * 16 + v) = Value.int .u8 ((x : Int) * 16 + (v : Int)) := congrArg (Value.int .u8) (by omega)
        have hp := HP.out
        rw [hbv] at hp
        exact ⟨⟨k + 1, by omega, by go_num, HN2, hp, HR.out.apart (by simp) _, HB.out.setCell (by simp) _⟩, by simp [intOf]; omega⟩
      · have hdv : digOf (byteAt s k) = -1 := if_neg hd
        have hall : ¬ AllDig s := fun ha => hd (ha k (by omega))
        have HA := Lib.hid hall
        have HDv := Lib.hid hdv
        clear hO hR hB hdg hdv hd hall
        generalize byteAt s k = c at *
        go_wp2_with (first
          | (go_at_call 64; (with_reducible refine (HDg.out _).mono ?_); rintro e w' ⟨rfl, rfl⟩; rw [HDv.out])
          | ((with_reducible refine arm_store w.heap.size (arr32 []) 26 (arr32 []) HR.out rfl HI32.out (arr32_one _) ?h5 ?h6 ?_); (case h5 => rfl); (case h6 => rfl)))
        try rw [if_neg HA.out]
        exact bodyPost_ret (results_row_tmp rfl _ _ w.heap.size 26 (arr32 []) (0, 0) _ rfl HR.out.setRow rfl Tryd.underlying26 HI32.out) rfl ⟨rfl, below_setRow HB.out (Nat.le_refl _) _⟩
    · obtain rfl : k = 64 := by omega
      have hall : AllDig s := fun i hi => HN.out i (by omega)
      have ho : outAt s 64 = packK s 32 := by simp [outAt]
      rw [ho] at hO
      have HO3 := Lib.hid hO.row
      have HR3 := Lib.hid hR
      have HB3 := Lib.hid hB
      have HA := Lib.hid hall
      clear hO hR hB hall
      go_wp2_with (first
        | ((with_reducible refine arm_load (w := wr) ⟨w.heap.size + 1, 0, none⟩ _ _ HO3.out Tryd.underlying26 HI33.out ?h3 ?h4 ?_); (case h3 => rfl); (case h4 => rfl))
        | ((with_reducible refine arm_store w.heap.size _ _ _ HR3.out HS32.out HI33.out (arr32_one _) ?h5 ?h6 ?_); (case h5 => rfl); (case h6 => rfl)))
      try rw [if_pos HA.out]
      exact bodyPost_ret (results_row_tmp rfl _ _ w.heap.size 26 (arr32 (packK s 32)) (0, 0) _ rfl HR3.out.setRow rfl Tryd.underlying26 HI33.out) rfl ⟨rfl, below_setRow HB3.out (Nat.le_refl _) _⟩
end Go.Proofs.YtffdkniahdekjaaDoor
end
section
namespace Go.Proofs.YtffdkniahdekjaaDoor
open Go.RowKit Go.Hoar
theorem quiet_load_g {P : Program} {K : Act → Prop} {a : Act} {w0 : World} {dst : Option Tmp} {ty T : TypeId} {x : Operand} {pos : String} {af : Array Edge} {gd : Nat × Bool}
    (ad : Addr) (cs : Array Value) (d : TypeDesc) (hc : ∀ j u, cs[j]? = some u → w0.cell? (ad.add j) = some u) (hu : P.underlying ty = some d)
    (hi : (P.info? ty).map (·.size) = some cs.size) (hx : a.eval x = .pointer (some ad))
    (hd : (match d with | .struct _ | .array _ _ => true | _ => false) = true) (hk : K (a.put dst (.agg cs))) :
    Oper.quiet P ⟨dst, .load ty x, T, pos, af, some gd⟩ a (fun w' => ∃ n, w' = w0.drewN n) K :=
  ⟨.agg cs, fun w hw => by
    obtain ⟨n, rfl⟩ := hw
    have hr := run_loadVar_at (P := P) (w0.drewN n) ad ty cs d (fun j u hj => hc j u hj) hu hd hi
    unfold Oper.quietAt execOp
    simp only [hx, Instr.loadAt, Instr.sureAddr, Sem.run_bind, Sem.run_pure, Result.andThen_ok, hr]
    exact ⟨rfl, rfl⟩, hk⟩
theorem toList_inj {a b : ByteArray} (h : a.toList = b.toList) : a = b := by
  rw [Lib.toList_data, Lib.toList_data] at h
  exact ByteArray.ext (Array.toList_inj.1 h)
theorem letter_val {c : Nat} (h : IsDig c) : letter (valOf c) = c := by
  unfold IsDig at h
  unfold valOf letter
  split <;> split <;> omega
theorem val_letter {k : Nat} (h : k < 16) : valOf (letter k) = k := by
  have : ∀ k, k < 16 → valOf (letter k) = k := by decide
  exact this k h
theorem letter_small {k : Nat} (h : k < 16) : letter k < 256 := by unfold letter; split <;> omega
/-- The first letters of a digest's text are a text of digits: it begins with them. -/
theorem ext_hex (x : List Nat) (_hx : x.length = 32) (hxb : Sha.Bytes x) (s : ByteArray) (h2 : s.size ≤ 64) (hd : AllDig s) : (str (hexOf x)).extract 0 s.size = s ↔ Starts x (digsK s s.size) := by
  have hlen : (hexOf x).length = 64 := by simp [hexOf]
  have hsz : ((str (hexOf x)).extract 0 s.size).size = s.size := by
    rw [ByteArray.size_extract]
    have : (str (hexOf x)).size = 64 := by unfold str; simp [ByteArray.size, hlen]
    omega
  have hget : ∀ i (hi : i < s.size), (((str (hexOf x)).extract 0 s.size)[i]'(by omega)).toNat = letter (nib x i) := fun i hi => by
    rw [ByteArray.getElem_extract]
    have hn := nib_lt hxb i
    have hl := letter_small hn
    simp only [str, Nat.zero_add]
    show (((hexOf x).map UInt8.ofNat).toArray[i]'(by simp [hlen]; omega)).toNat = _
    simp only [List.getElem_toArray, List.getElem_map, hexOf, List.getElem_range]
    simp
    omega
  constructor
  · intro h i hi
    rw [digsK_length] at hi
    have e1 := hget i hi
    have e2 : (((str (hexOf x)).extract 0 s.size)[i]'(by omega)) = s[i]'hi := by simp only [h]
    rw [e2, byteAt_eq] at e1
    rw [List.getD_eq_getElem?_getD, digsK, List.getElem?_map, List.getElem?_range hi]
    show nib x i = valOf (byteAt s i)
    rw [e1, val_letter (nib_lt hxb i)]
  · intro h
    apply ByteArray.ext_getElem hsz
    intro i h1 h3
    apply UInt8.toNat_inj.1
    rw [hget i h3, byteAt_eq, h i (by rw [digsK_length]; exact h3), List.getD_eq_getElem?_getD, digsK, List.getElem?_map, List.getElem?_range h3]
    exact letter_val (hd i h3)
theorem refFind_many (s : ByteArray) (h : s.size < 1 ∨ 64 < s.size) (hsz : s.size ≤ 1099511627776) (v : Value) (w : World) :
    Calls Tryd.prog 46 #[.string s, v] w fun e w' => e = .returned (.tuple #[.int .i64 0, .int .i64 2]) ∧ w = w' := by
  by_cases h1 : s.size < 1
  · have h2 : (s.size : Int) < 1 := by omega
    go_enter Tryd.func46, Tryd.ntmps46
    go_wp2
    go_ret2
    exact ⟨rfl, rfl⟩
  · have h2 : ¬ (s.size : Int) < 1 := by omega
    have h3 : (64 : Int) < s.size := by omega
    go_enter Tryd.func46, Tryd.ntmps46
    go_wp2
    go_ret2
    exact ⟨rfl, rfl⟩
set_option maxHeartbeats 1000000 in
theorem refFind_form (s : ByteArray) (h1 : 1 ≤ s.size) (h2 : s.size ≤ 64) (hd : ¬ AllDig s) (v : Value) (w : World) :
    Calls Tryd.prog 46 #[.string s, v] w fun e w' => e = .returned (.tuple #[.int .i64 0, .int .i64 4]) ∧ w = w' := by
  have i1 : ¬ (s.size : Int) < 1 := by omega
  have i2 : ¬ (64 : Int) < s.size := by omega
  have HD := Lib.hid hd
  clear hd
  go_enter Tryd.func46, Tryd.ntmps46
  go_wp2
  go_loop [6] (fun i => ∃ k : Nat, k ≤ s.size ∧ i = .int .i64 k ∧ Hid (∀ j, j < k → IsDig (byteAt s j))) (fun i => s.size - (intOf i).toNat)
  case atStart => exact ⟨0, Nat.zero_le _, rfl, Lib.hid (fun j hj => absurd hj (Nat.not_lt_zero _))⟩
  case round =>
    obtain ⟨k, hk, rfl, HN⟩ := hrel
    by_cases hlt : k < s.size
    · have hix := index_str s k hlt
      have hb256 : byteAt s k < 256 := by unfold byteAt; exact UInt8.toNat_lt _
      have HDg := Lib.hid (refDigit_any (byteAt s k) hb256)
      by_cases hg : IsDig (byteAt s k)
      · have hdv : digOf (byteAt s k) = ((valOf (byteAt s k) : Nat) : Int) := if_pos hg
        have HN2 : Hid (∀ j, j < k + 1 → IsDig (byteAt s j)) := Lib.hid fun j hj => by
          rcases Nat.lt_or_ge j k with h | h
          · exact HN.out j h
          · obtain rfl : j = k := by omega
            exact hg
        have HDv := Lib.hid hdv
        generalize byteAt s k = c at *
        generalize valOf c = v at *
        have hv0 : ¬ (v : Int) < 0 := by omega
        clear hdv hg
        go_wp2_with (go_at_call 64; (with_reducible refine (HDg.out _).mono ?_); rintro e w' ⟨rfl, rfl⟩; rw [HDv.out])
        go_round
        case rel => exact ⟨k + 1, by omega, by go_num, HN2⟩
        case measure => simp [intOf]; omega
      · have hdv : digOf (byteAt s k) = -1 := if_neg hg
        have HDv := Lib.hid hdv
        generalize byteAt s k = c at *
        clear hdv hg
        go_wp2_with (go_at_call 64; (with_reducible refine (HDg.out _).mono ?_); rintro e w' ⟨rfl, rfl⟩; rw [HDv.out])
        go_ret2
        exact ⟨rfl, rfl⟩
    · exact absurd (fun j hj => HN.out j (by omega)) HD.out
set_option maxRecDepth 100000 in
set_option maxHeartbeats 3000000 in
theorem refFind_any (s : ByteArray) (h1 : 1 ≤ s.size) (h2 : s.size ≤ 64) (hd : AllDig s) (ls : List (List Nat)) (a : Option Addr) (c : Nat) (w : World) (hr : RowOk w a c ls) (_hn : ls.length ≤ 1000000) (out : Int × Int) (hout : Hid (out = findGo (digsK s s.size) 0 none ls)) :
    Calls Tryd.prog 46 #[.string s, .slice a ls.length c] w fun e w' => e = .returned (.tuple #[.int .i64 out.1, .int .i64 out.2]) ∧ Below w.heap.size w w' := by
  have hcmp : ∀ x : List Nat, x.length = 32 → Sha.Bytes x → ((str (hexOf x)).extract 0 s.size = s ↔ Starts x (digsK s s.size)) := fun x hx hxb => ext_hex x hx hxb s h2 hd
  obtain ⟨ds, hds⟩ : ∃ ds, ds = digsK s s.size := ⟨_, rfl⟩
  rw [← hds] at hout hcmp
  have i1 : ¬ (s.size : Int) < 1 := by omega
  have i2 : ¬ (64 : Int) < s.size := by omega
  have HD := Lib.hid hd
  have HRw := Lib.hid hr
  have HCmp := Lib.hid hcmp
  clear hd hds hr hcmp
  go_enter Tryd.func46, Tryd.ntmps46
  go_wp2
  go_loop [6] (fun i => ∃ k : Nat, k ≤ s.size ∧ i = .int .i64 k) (fun i => s.size - (intOf i).toNat)
  case atStart => exact ⟨0, Nat.zero_le _, rfl⟩
  case round =>
    obtain ⟨k, hk, rfl⟩ := hrel
    by_cases hlt : k < s.size
    · have hix := index_str s k hlt
      have hb256 : byteAt s k < 256 := by unfold byteAt; exact UInt8.toNat_lt _
      have HDg := Lib.hid (refDigit_any (byteAt s k) hb256)
      have hdv : digOf (byteAt s k) = ((valOf (byteAt s k) : Nat) : Int) := if_pos (HD.out k hlt)
      have HDv := Lib.hid hdv
      generalize byteAt s k = c0 at *
      generalize valOf c0 = v at *
      have hv0 : ¬ (v : Int) < 0 := by omega
      clear hdv
      go_wp2_with (go_at_call 64; (with_reducible refine (HDg.out _).mono ?_); rintro e w' ⟨rfl, rfl⟩; rw [HDv.out])
      go_round
      case rel => exact ⟨k + 1, by omega, by go_num⟩
      case measure => simp [intOf]; omega
    · obtain rfl : k = s.size := by omega
      go_wp2
      go_loopw [7, 31] (fun f i wr => ∃ (k : Nat) (q : Option (Nat × List Nat)) (z : Int), k ≤ ls.length ∧ i = .int .i64 k ∧ f = .int .i64 z ∧ Hid (findGo ds k q (ls.drop k) = findGo ds 0 none ls) ∧ ((z < 0 ∧ q = none) ∨ ∃ (j : Nat) (y : List Nat), z = (j : Int) ∧ q = some (j, y) ∧ j < k ∧ ls[j]? = some y) ∧ Below w.heap.size w wr) (fun _ i _ => ls.length - (intOf i).toNat)
      case atStart => exact ⟨0, none, -1, Nat.zero_le _, rfl, rfl, Lib.hid rfl, .inl ⟨by omega, rfl⟩, Below.refl _ _⟩
      case round =>
        obtain ⟨k, q, z, hk, rfl, rfl, HQ, hz, hB⟩ := hrel
        by_cases hlt : k < ls.length
        · obtain ⟨x, hx⟩ : ∃ x, ls[k]? = some x := ⟨_, List.getElem?_eq_getElem hlt⟩
          rcases HRw.out with ⟨_, he, _⟩ | ⟨g, off, rfl, hg, hs, hcc, hcm⟩
          · rw [he] at hx; simp at hx
          obtain ⟨hxl, hxb, _⟩ := hs k x hx
          have hsr := hs.below hg hB
          have HRow := Lib.hid (hsr.row hx)
          have HSr := Lib.hid hsr
          have HI := Lib.hid (arr32_info x (by omega))
          have HSz := Lib.hid (zero32_size x (by omega))
          have HF := Lib.hid (fresh_sum wr)
          have hgr : g < wr.heap.size := Nat.lt_of_lt_of_le hg hB.size
          have HB := Lib.hid hB
          have HX := Lib.hid (drop_at hx)
          have HZ := Lib.hid hz
          unfold maxLen at hcm
          have hkc : k < c := by omega
          clear hB hs hsr hz
          go_upto_region 12 with (first
            | ((with_reducible refine arm_load (w := wr) ⟨g, off + k * 32, none⟩ _ _ HRow.out Tryd.underlying26 HI.out ?h1 ?h2 ?_); (case h1 => rfl); (case h2 => rfl))
            | ((with_reducible refine arm_store wr.heap.size (arr32 x) 26 zero32 HF.out HSz.out HI.out (arr32_one _) ?h5 ?h6 ?_); (case h5 => rfl); (case h6 => rfl)))
          refine gen_world (P := fun W => Code.wp _ _ _ _ W) (I := fun V => Below wr.heap.size wr V ∧ Has V wr.heap.size 26 (arr32 x)) _ ⟨below_setRow ((Below.refl _ wr).alloc (Nat.le_refl _) _) (Nat.le_refl _) _, HF.out.setRow⟩ ?_
          rintro V ⟨hBV, hxV⟩
          have HHex := Lib.hid (refHex_any x hxl hxb V)
          have hcx := HCmp.out x hxl hxb
          have hstr : (str (hexOf x)).size = 64 := by unfold str; simp [ByteArray.size, hexOf]
          generalize str (hexOf x) = t at hcx HHex hstr
          have hts : (s.size : Int) ≤ (t.size : Int) := by omega
          have HBV := Lib.hid hBV
          have HXr := Lib.hid hxV.row
          have HXV := Lib.hid hxV
          clear hBV hxV
          by_cases hst : Starts x ds
          · have heq : t.extract 0 s.size = s := hcx.2 hst
            clear hcx
            rcases HZ.out with ⟨hz0, rfl⟩ | ⟨j, y, rfl, rfl, hjk, hy⟩
            · have HStep : Hid (findGo ds (k + 1) (some (k, x)) (ls.drop (k + 1)) = findGo ds 0 none ls) := Lib.hid ((findGo_first (k := k) (r := ls.drop (k + 1)) hst).symm.trans (HX.out ▸ HQ.out))
              have hg0 : decide (0 ≤ z) = false := decide_eq_false (by omega)
              go_upto_region 13 with (first
            | ((with_reducible refine arm_load (w := V) ⟨wr.heap.size, 0, none⟩ _ _ HXr.out Tryd.underlying26 HI.out ?h3 ?h4 ?_); (case h3 => rfl); (case h4 => rfl))
            | (go_at_call 29; refine HHex.out.mono ?_; rintro e w3 ⟨rfl, hb3⟩; have HB3 := Lib.hid hb3; have HX3 := Lib.hid (HXV.out.below hb3 HXV.out.lt); clear hb3))
              have hbr := HBV.out.trans (HB3.out.mono HBV.out.size)
              have HBr := Lib.hid hbr
              clear hbr
              go_quiet (fail)
              go_wp2
              go_roundw
              case rel => exact ⟨k + 1, some (k, x), k, by omega, by go_num, rfl, HStep, .inr ⟨k, x, rfl, rfl, by omega, hx⟩, below_drewN (HB.out.trans (HBr.out.mono HB.out.size)) _⟩
              case measure => simp [intOf]; omega
            · have hyl : y.length = 32 := (HSr.out j y hy).1
              have hj0 : ¬ (j : Int) < 0 := by omega
              have hg0 : decide (0 ≤ (j : Int)) = true := decide_eq_true (by omega)
              have hjl : j < ls.length := by omega
              have hjc : j < c := by omega
              have hji : (j : Int) < (ls.length : Int) := by omega
              go_upto_region 13 with (first
            | ((with_reducible refine arm_load (w := V) ⟨wr.heap.size, 0, none⟩ _ _ HXr.out Tryd.underlying26 HI.out ?h3 ?h4 ?_); (case h3 => rfl); (case h4 => rfl))
            | (go_at_call 29; refine HHex.out.mono ?_; rintro e w3 ⟨rfl, hb3⟩; have HB3 := Lib.hid hb3; have HX3 := Lib.hid (HXV.out.below hb3 HXV.out.lt); clear hb3))
              have hbr := HBV.out.trans (HB3.out.mono HBV.out.size)
              have HL1 := Lib.hid HX3.out.row
              have HL2 := Lib.hid ((HSr.out.below hgr hbr).row hy)
              have HIy := Lib.hid (arr32_info y (by omega))
              have hguard := sum_guard
              by_cases hxy : x = y
              · have hne := sum_neq y x hyl hxl
                rw [show (!decide (y = x)) = false by simp [hxy]] at hne
                have HStep : Hid (findGo ds (k + 1) (some (j, y)) (ls.drop (k + 1)) = findGo ds 0 none ls) := Lib.hid ((findGo_same (k := k) (j := j) (r := ls.drop (k + 1)) (hxy ▸ hst)).symm.trans (by have := HX.out ▸ HQ.out; rwa [hxy] at this))
                have HBr := Lib.hid hbr
                clear hbr hxy
                refine wp_region_quiet_lit (by kernel_rfl) (by kernel_rfl) ?_
                repeat (go_big_quiet_step (fail))
                go_big_quiet_want
                (with_reducible refine quiet_load_g ⟨g, off + j * 32, none⟩ _ _ HL2.out Tryd.underlying26 HIy.out ?l1 ?l2 ?_); (case l1 => rfl); (case l2 => rfl)
                simp only [Act.put, List.setIfInBounds_toArray, List.set_cons_succ, List.set_cons_zero]
                go_big_quiet_on
                repeat (go_big_quiet_step (fail))
                go_big_quiet_want
                (with_reducible refine quiet_load_g ⟨wr.heap.size, 0, none⟩ _ _ HL1.out Tryd.underlying26 HI.out ?l3 ?l4 ?_); (case l3 => rfl); (case l4 => rfl)
                simp only [Act.put, List.setIfInBounds_toArray, List.set_cons_succ, List.set_cons_zero]
                go_big_quiet_on
                repeat (go_big_quiet_step (fail))
                refine wpQuiet_nil ?_
                intro _ hw'
                obtain ⟨nq, rfl⟩ := hw'
                go_wp2
                go_roundw
                case rel => exact ⟨k + 1, some (j, y), j, by omega, by go_num, rfl, HStep, .inr ⟨j, y, rfl, rfl, by omega, hy⟩, below_drewN (HB.out.trans (HBr.out.mono HB.out.size)) _⟩
                case measure => simp [intOf]; omega
              · have hne := sum_neq y x hyl hxl
                rw [show (!decide (y = x)) = true by simp [Ne.symm hxy]] at hne
                have HEnd : Hid (out = (0, 7)) := Lib.hid (hout.out.trans (HQ.out.symm.trans (by rw [HX.out, findGo_clash hst hxy])))
                have HBr := Lib.hid hbr
                clear hbr
                refine wp_region_quiet_lit (by kernel_rfl) (by kernel_rfl) ?_
                repeat (go_big_quiet_step (fail))
                go_big_quiet_want
                (with_reducible refine quiet_load_g ⟨g, off + j * 32, none⟩ _ _ HL2.out Tryd.underlying26 HIy.out ?l1 ?l2 ?_); (case l1 => rfl); (case l2 => rfl)
                simp only [Act.put, List.setIfInBounds_toArray, List.set_cons_succ, List.set_cons_zero]
                go_big_quiet_on
                repeat (go_big_quiet_step (fail))
                go_big_quiet_want
                (with_reducible refine quiet_load_g ⟨wr.heap.size, 0, none⟩ _ _ HL1.out Tryd.underlying26 HI.out ?l3 ?l4 ?_); (case l3 => rfl); (case l4 => rfl)
                simp only [Act.put, List.setIfInBounds_toArray, List.set_cons_succ, List.set_cons_zero]
                go_big_quiet_on
                repeat (go_big_quiet_step (fail))
                refine wpQuiet_nil ?_
                intro _ hw'
                obtain ⟨nq, rfl⟩ := hw'
                go_wp2
                go_ret2
                exact ⟨by rw [HEnd.out]; exact Eq.refl _, below_drewN (HB.out.trans (HBr.out.mono HB.out.size)) _⟩
          · have hne0 : ¬ t.extract 0 s.size = s := fun e => hst (hcx.1 e)
            have hne1 : ((t.extract 0 s.size).toList == s.toList) = false := by rw [beq_eq_false_iff_ne]; exact fun e => hne0 (toList_inj e)
            have HStep : Hid (findGo ds (k + 1) q (ls.drop (k + 1)) = findGo ds 0 none ls) := Lib.hid ((findGo_not (k := k) (f := q) (r := ls.drop (k + 1)) hst).symm.trans (HX.out ▸ HQ.out))
            clear hcx
            go_wp2_with (first
            | ((with_reducible refine arm_load (w := V) ⟨wr.heap.size, 0, none⟩ _ _ HXr.out Tryd.underlying26 HI.out ?h3 ?h4 ?_); (case h3 => rfl); (case h4 => rfl))
            | (go_at_call 29; refine HHex.out.mono ?_; rintro e w3 ⟨rfl, hb3⟩; have HB3 := Lib.hid hb3; have HX3 := Lib.hid (HXV.out.below hb3 HXV.out.lt); clear hb3))
            go_roundw
            case rel =>
              refine ⟨k + 1, q, z, by omega, by go_num, rfl, HStep, ?_, HB.out.trans ((HBV.out.trans (HB3.out.mono HBV.out.size)).mono HB.out.size)⟩
              rcases HZ.out with h | ⟨j, y, e1, e2, e3, e4⟩
              · exact .inl h
              · exact .inr ⟨j, y, e1, e2, by omega, e4⟩
            case measure => simp [intOf]; omega
        · obtain rfl : k = ls.length := by omega
          have hq := HQ.out
          rw [List.drop_length] at hq
          rcases hz with ⟨hz0, rfl⟩ | ⟨j, y, rfl, rfl, hjk, hy⟩
          · have HEnd : Hid (out = (0, 6)) := Lib.hid (hout.out.trans (hq.symm.trans (by rw [findGo])))
            have HB := Lib.hid hB
            clear hB hq
            go_wp2
            go_ret2
            exact ⟨by rw [HEnd.out]; exact Eq.refl _, HB.out⟩
          · have HEnd : Hid (out = ((j : Int), 0)) := Lib.hid (hout.out.trans (hq.symm.trans (by rw [findGo])))
            have hj0 : ¬ (j : Int) < 0 := by omega
            have HB := Lib.hid hB
            clear hB hq
            go_wp2
            go_ret2
            exact ⟨by rw [HEnd.out]; exact Eq.refl _, HB.out⟩
end Go.Proofs.YtffdkniahdekjaaDoor
end
section
namespace Go.Proofs.YtffdkniahdekjaaDoor
open Go.RowKit Go.Hoar Go.Maps Go.Shelf
/-- The digits are the same up to there, and differ there, if there are that many. -/
theorem alikeF_spec (l m : List Nat) : ∀ f i, (∀ j, i ≤ j → j < alikeF l m f i → nib l j = nib m j) ∧ (alikeF l m f i < i + f → nib l (alikeF l m f i) ≠ nib m (alikeF l m f i)) ∧ i ≤ alikeF l m f i ∧ alikeF l m f i ≤ i + f
  | 0, i => ⟨fun j h1 h2 => by rw [alikeF] at h2; omega, fun h => by rw [alikeF] at h; omega, Nat.le_refl _, Nat.le_refl _⟩
  | f + 1, i => by
    rw [alikeF]
    split
    · next h =>
      obtain ⟨a, b, c, d⟩ := alikeF_spec l m f (i + 1)
      refine ⟨fun j h1 h2 => ?_, fun hlt => b (by omega), by omega, by omega⟩
      by_cases e : j = i
      · rw [e]; exact h
      · exact a j (by omega) h2
    · next h => exact ⟨fun j h1 h2 => by omega, fun _ => h, Nat.le_refl _, by omega⟩
theorem alike_same (l m : List Nat) (j : Nat) (h : j < alikeOf l m) : nib l j = nib m j := (alikeF_spec l m 64 0).1 j (Nat.zero_le _) h
theorem alike_at (l m : List Nat) (h : alikeOf l m < 64) : nib l (alikeOf l m) ≠ nib m (alikeOf l m) := (alikeF_spec l m 64 0).2.1 (by rw [Nat.zero_add]; exact h)
theorem alike_le (l m : List Nat) : alikeOf l m ≤ 64 := by have := (alikeF_spec l m 64 0).2.2.2; rwa [Nat.zero_add] at this
theorem alike_ge (l m : List Nat) (k : Nat) (hk : k ≤ 64) (h : ∀ j, j < k → nib l j = nib m j) : k ≤ alikeOf l m := by
  rcases Nat.lt_or_ge (alikeOf l m) k with hlt | hge
  · exact absurd (h _ hlt) (alike_at l m (by omega))
  · exact hge
theorem alike_comm (l m : List Nat) : alikeOf l m = alikeOf m l :=
  Nat.le_antisymm (alike_ge m l _ (alike_le _ _) (fun j h => (alike_same l m j h).symm)) (alike_ge l m _ (alike_le _ _) (fun j h => (alike_same m l j h).symm))
theorem nib_two (l : List Nat) (k : Nat) : l.getD k 0 = 16 * nib l (2 * k) + nib l (2 * k + 1) := by
  have e1 : nib l (2 * k) = l.getD k 0 / 16 := by unfold nib; rw [if_pos (by omega), show 2 * k / 2 = k by omega]
  have e2 : nib l (2 * k + 1) = l.getD k 0 % 16 := by unfold nib; rw [if_neg (by omega), show (2 * k + 1) / 2 = k by omega]
  rw [e1, e2]
  omega
/-- Digests that have all digits alike are the same. -/
theorem alike_all {x y : Dig} (h : alikeOf x.1 y.1 = 64) : x = y := by
  apply Subtype.ext
  apply List.ext_getElem (by rw [x.2.1, y.2.1])
  intro k h1 h2
  have hk : k < 32 := by have := x.2.1; omega
  have e1 := nib_two x.1 k
  have e2 := nib_two y.1 k
  rw [alike_same x.1 y.1 (2 * k) (by omega), alike_same x.1 y.1 (2 * k + 1) (by omega), ← e2] at e1
  rw [List.getD_eq_getElem?_getD, List.getD_eq_getElem?_getD, List.getElem?_eq_getElem h1, List.getElem?_eq_getElem h2] at e1
  exact e1
theorem alike_lt {x y : Dig} (h : x ≠ y) : alikeOf x.1 y.1 < 64 := by
  have h1 := alike_le x.1 y.1
  have h2 : alikeOf x.1 y.1 ≠ 64 := fun e => h (alike_all e)
  omega
/-- The order of digests, by their digits: where they first differ, the smaller has the smaller digit. -/
def NibLe (x y : Dig) : Prop := ∀ i, i < 64 → (∀ j, j < i → nib x.1 j = nib y.1 j) → nib x.1 i ≤ nib y.1 i
theorem nib_mid {x y z : Dig} (h1 : NibLe x y) (h2 : NibLe y z) : ∀ k, k ≤ alikeOf x.1 z.1 → ∀ j, j < k → nib x.1 j = nib y.1 j
  | 0, _, j, hj => absurd hj (Nat.not_lt_zero _)
  | k + 1, hk, j, hj => by
    have ih := nib_mid h1 h2 k (by omega)
    by_cases e : j < k
    · exact ih j e
    · obtain rfl : j = k := by omega
      have h64 := alike_le x.1 z.1
      have a := h1 j (by omega) ih
      have b := h2 j (by omega) (fun i hi => (ih i hi).symm.trans (alike_same x.1 z.1 i (by omega)))
      have c := alike_same x.1 z.1 j (by omega)
      omega
/-- What lies between two digests has as many digits alike with either as they have with each other. -/
theorem alike_mid {x y z : Dig} (h1 : NibLe x y) (h2 : NibLe y z) : alikeOf x.1 z.1 ≤ alikeOf x.1 y.1 ∧ alikeOf x.1 z.1 ≤ alikeOf y.1 z.1 := by
  have h := nib_mid h1 h2 _ (Nat.le_refl _)
  exact ⟨alike_ge _ _ _ (alike_le _ _) h, alike_ge _ _ _ (alike_le _ _) (fun j hj => (h j hj).symm.trans (alike_same x.1 z.1 j hj))⟩
theorem keyL_map (x : Dig) : keyL x = x.1.map UInt8.ofNat := by
  unfold keyL Lib.bytesOf asInts
  simp
theorem lex_first : ∀ (a b : List UInt8) (k : Nat), a ≤ b → a.length = b.length → k < a.length → (∀ j, j < k → a[j]? = b[j]?) → a.getD k 0 ≤ b.getD k 0
  | [], _, k, _, _, hk, _ => absurd hk (Nat.not_lt_zero _)
  | x :: a, [], _, _, hl, _, _ => by simp at hl
  | x :: a, y :: b, 0, h, _, _, _ => by
    simp only [List.getD_cons_zero]
    rcases List.cons_le_cons_iff.1 h with h | ⟨h, _⟩
    · exact UInt8.le_of_lt h
    · rw [h]; exact UInt8.le_refl _
  | x :: a, y :: b, k + 1, h, hl, hk, hj => by
    have e : x = y := by have := hj 0 (by omega); simpa using this
    rw [List.getD_cons_succ, List.getD_cons_succ]
    refine lex_first a b k ?_ (by simpa using hl) (by simpa using hk) (fun j h2 => by have := hj (j + 1) (by omega); simpa using this)
    rcases List.cons_le_cons_iff.1 h with h | ⟨_, h⟩
    · exact absurd h (by rw [e]; exact UInt8.lt_irrefl _)
    · exact h
theorem nibLe_of {x y : Dig} (h : keyL x ≤ keyL y) : NibLe x y := by
  intro i hi hj
  have hx := x.2.1
  have hy := y.2.1
  have hb := lex_first _ _ (i / 2) h (by rw [keyL_map, keyL_map]; simp [hx, hy]) (by rw [keyL_map]; simp [hx]; omega) (fun j h2 => by
    have e1 := nib_two x.1 j
    have e2 := nib_two y.1 j
    rw [hj (2 * j) (by omega), hj (2 * j + 1) (by omega), ← e2] at e1
    rw [keyL_map, keyL_map, List.getElem?_map, List.getElem?_map, List.getElem?_eq_getElem (by omega : j < x.1.length), List.getElem?_eq_getElem (by omega : j < y.1.length)]
    rw [List.getD_eq_getElem?_getD, List.getD_eq_getElem?_getD, List.getElem?_eq_getElem (by omega : j < x.1.length), List.getElem?_eq_getElem (by omega : j < y.1.length)] at e1
    simp only [Option.getD_some] at e1
    rw [e1])
  have hlx : x.1.getD (i / 2) 0 < 256 := Sha.getD_lt x.2.2 (by decide) _
  have hly : y.1.getD (i / 2) 0 < 256 := Sha.getD_lt y.2.2 (by decide) _
  have hle : x.1.getD (i / 2) 0 ≤ y.1.getD (i / 2) 0 := by
    rw [keyL_map, keyL_map, List.getD_eq_getElem?_getD, List.getD_eq_getElem?_getD, List.getElem?_map, List.getElem?_map, List.getElem?_eq_getElem (by omega : i / 2 < x.1.length), List.getElem?_eq_getElem (by omega : i / 2 < y.1.length)] at hb
    rw [List.getD_eq_getElem?_getD, List.getElem?_eq_getElem (by omega : i / 2 < x.1.length)] at hlx ⊢
    rw [List.getD_eq_getElem?_getD, List.getElem?_eq_getElem (by omega : i / 2 < y.1.length)] at hly ⊢
    simp only [Option.map_some, Option.getD_some] at hb hlx hly ⊢
    have h3 := UInt8.le_iff_toNat_le.1 hb
    simp only [UInt8.toNat_ofNat'] at h3
    omega
  unfold nib
  by_cases hev : i % 2 = 0
  · rw [if_pos hev, if_pos hev]
    omega
  · rw [if_neg hev, if_neg hev]
    have e := hj (i - 1) (by omega)
    unfold nib at e
    rw [if_pos (by omega), if_pos (by omega), show (i - 1) / 2 = i / 2 by omega] at e
    omega
end Go.Proofs.YtffdkniahdekjaaDoor
end
section
namespace Go.Proofs.YtffdkniahdekjaaDoor
open Go.RowKit Go.Hoar Go.Maps Go.Shelf
/-- How many digits name a digest of a list. -/
def IsNeed (ls : List Dig) (x : Dig) (v : Int) : Prop := 1 ≤ v ∧ (∀ y ∈ ls, y ≠ x → ((alikeOf x.1 y.1 : Nat) : Int) + 1 ≤ v) ∧ (v = 1 ∨ ∃ y ∈ ls, y ≠ x ∧ v = ((alikeOf x.1 y.1 : Nat) : Int) + 1)
theorem isNeed_le {ls : List Dig} {x : Dig} {v u : Int} (h : IsNeed ls x v) (k : IsNeed ls x u) : v ≤ u := by
  rcases h.2.2 with e | ⟨y, hy, hne, e⟩
  · rw [e]; exact k.1
  · rw [e]; exact k.2.1 y hy hne
theorem isNeed_unique {ls : List Dig} {x : Dig} {v u : Int} (h : IsNeed ls x v) (k : IsNeed ls x u) : v = u := by
  have := isNeed_le h k
  have := isNeed_le k h
  omega
theorem getN_same {D : Need} (h : IsMap D) (x : Dig) (n : Int) : getN (D.put (sumLit x.1) (litN n)) (sumLit x.1) = n := by
  unfold getN
  rw [atKey_put_same h (sumKey x) _ _]
  rfl
theorem getN_other {D : Need} {x z : Dig} (h : z ≠ x) (n : Int) : getN (D.put (sumLit x.1) (litN n)) (sumLit z.1) = getN D (sumLit z.1) := by
  unfold getN
  rw [atKey_put_other (fun e => h (sumLit_inj e))]
theorem raise_get {D : Need} (h : IsMap D) {x y : Dig} (_hxy : x ≠ y) (z : Dig) : getN (raise D x y) (sumLit z.1) = if z = x ∨ z = y then up (getN D (sumLit z.1)) ((alikeOf x.1 y.1 : Nat) + 1) else getN D (sumLit z.1) := by
  unfold raise
  by_cases e1 : z = y
  · rw [if_pos (.inr e1), e1, getN_same (h.put _ _)]
  · rw [getN_other e1]
    by_cases e2 : z = x
    · rw [if_pos (.inl e2), e2, getN_same h]
    · rw [getN_other e2, if_neg (fun k => k.elim e2 e1)]
theorem up_ge (c n : Int) : c ≤ up c n ∧ n ≤ up c n ∧ (up c n = c ∨ up c n = n) := by
  unfold up
  split
  · exact ⟨by omega, by omega, .inr rfl⟩
  · exact ⟨by omega, by omega, .inl rfl⟩
theorem rising_sorted (ys : List Dig) : (rising ys).Pairwise (fun x y => keyL x ≤ keyL y) := by
  have h := List.pairwise_mergeSort (le := fun x y => !(ltOf comp2) y x) (fun a b c h1 h2 => by
    simp only [ltOf_comp, Bool.not_eq_true', decide_eq_false_iff_not, List.not_lt] at h1 h2 ⊢
    exact List.le_trans h1 h2) (fun a b => by
    simp only [ltOf_comp, Bool.or_eq_true, Bool.not_eq_true', decide_eq_false_iff_not, List.not_lt]
    exact List.le_total _ _) ys
  refine h.imp fun {a b} hab => ?_
  simp only [ltOf_comp, Bool.not_eq_true', decide_eq_false_iff_not, List.not_lt] at hab
  exact hab
/-- What holds when some pairs of neighbours have been looked at. -/
theorem raise_inv (ls ys : List Dig) (hk : KeysOfMap (needOf ls) ys) :
    ∀ m, m ≤ max 1 ys.length → IsMap (raiseTo (rising ys) (needOf ls) m) ∧ ∀ z ∈ ls,
      1 ≤ getN (raiseTo (rising ys) (needOf ls) m) (sumLit z.1) ∧
      (getN (raiseTo (rising ys) (needOf ls) m) (sumLit z.1) = 1 ∨ ∃ y ∈ ls, y ≠ z ∧ getN (raiseTo (rising ys) (needOf ls) m) (sumLit z.1) = ((alikeOf z.1 y.1 : Nat) : Int) + 1) ∧
      ∀ i x y, i + 1 < m → (rising ys)[i]? = some x → (rising ys)[i + 1]? = some y → (z = x ∨ z = y) → ((alikeOf x.1 y.1 : Nat) : Int) + 1 ≤ getN (raiseTo (rising ys) (needOf ls) m) (sumLit z.1)
  | 0, _ => ⟨needOf_isMap ls, fun z hz => by
      have h1 : getN (raiseTo (rising ys) (needOf ls) 0) (sumLit z.1) = 1 := by
        unfold getN
        rw [raiseTo, show (needOf ls).atKey (sumLit z.1) (litN 0) = litN 1 from needFold_at z ls _ isMap_empty (.inl hz)]
        rfl
      exact ⟨by omega, .inl h1, fun i x y h => by omega⟩⟩
  | m + 1, hm => by
    obtain ⟨i1, i2⟩ := raise_inv ls ys hk m (by omega)
    rw [raiseTo]
    split
    · next h0 =>
      subst h0
      rw [raiseTo] at i1 i2
      exact ⟨i1, fun z hz => ⟨(i2 z hz).1, (i2 z hz).2.1, fun i x y h => by omega⟩⟩
    · next hm0 =>
      have hrl := rising_len ys
      have hperm : (rising ys).Perm ys := List.mergeSort_perm _ _
      have hnd : (rising ys).Nodup := hperm.nodup_iff.2 hk.1
      have g1 : (rising ys).getD (m - 1) default = (rising ys)[m - 1]'(by omega) := by rw [List.getD_eq_getElem?_getD, List.getElem?_eq_getElem (by omega)]; rfl
      have g2 : (rising ys).getD m default = (rising ys)[m]'(by omega) := by rw [List.getD_eq_getElem?_getD, List.getElem?_eq_getElem (by omega)]; rfl
      have p1 : (rising ys)[m - 1]? = some ((rising ys)[m - 1]'(by omega)) := List.getElem?_eq_getElem _
      have p2 : (rising ys)[m]? = some ((rising ys)[m]'(by omega)) := List.getElem?_eq_getElem _
      rw [g1, g2]
      generalize hx0 : (rising ys)[m - 1]'(by omega) = x0 at p1
      generalize hy0 : (rising ys)[m]'(by omega) = y0 at p2
      have hne : x0 ≠ y0 := fun e => by
        have := (List.getElem_inj hnd).1 (hx0.trans (e.trans hy0.symm))
        omega
      have mx : x0 ∈ ls := needOf_has ls x0 ((hk.2.1 x0).1 (hperm.mem_iff.1 (hx0 ▸ List.getElem_mem _)))
      have my : y0 ∈ ls := needOf_has ls y0 ((hk.2.1 y0).1 (hperm.mem_iff.1 (hy0 ▸ List.getElem_mem _)))
      refine ⟨raise_isMap i1 _ _, fun z hz => ?_⟩
      obtain ⟨a, b, c⟩ := i2 z hz
      rw [raise_get i1 hne]
      generalize getN (raiseTo (rising ys) (needOf ls) m) (sumLit z.1) = v at *
      have hu := up_ge v ((alikeOf x0.1 y0.1 : Nat) + 1)
      split
      · next hz2 =>
        refine ⟨by omega, ?_, fun i x y hi hx hy hzz => ?_⟩
        · rcases hu.2.2 with e | e
          · rw [e]; exact b
          · rw [e]
            rcases hz2 with rfl | rfl
            · exact .inr ⟨y0, my, Ne.symm hne, rfl⟩
            · exact .inr ⟨x0, mx, hne, by rw [alike_comm]⟩
        · by_cases hi2 : i + 1 < m
          · have := c i x y hi2 hx hy hzz
            omega
          · obtain rfl : i = m - 1 := by omega
            rw [show m - 1 + 1 = m by omega] at hy
            rw [p1] at hx
            rw [p2] at hy
            cases hx
            cases hy
            omega
      · next hz2 =>
        refine ⟨a, b, fun i x y hi hx hy hzz => ?_⟩
        by_cases hi2 : i + 1 < m
        · exact c i x y hi2 hx hy hzz
        · obtain rfl : i = m - 1 := by omega
          rw [show m - 1 + 1 = m by omega] at hy
          rw [p1] at hx
          rw [p2] at hy
          cases hx
          cases hy
          exact absurd hzz hz2
theorem needOf_in (ls : List Dig) (x : Dig) (h : x ∈ ls) : Maps.has (needOf ls) (sumLit x.1) = true := by
  have key : ∀ (xs : List Dig) (D : Need), IsMap D → (x ∈ xs ∨ Maps.has D (sumLit x.1) = true) → Maps.has (xs.foldl (fun D y => D.put (sumLit y.1) (litN 1)) D) (sumLit x.1) = true := by
    intro xs
    induction xs with
    | nil => intro D _ h; exact h.elim (fun k => absurd k (List.not_mem_nil)) id
    | cons y xs ih =>
      intro D hD h
      refine ih _ (hD.put _ _) ?_
      rcases h with h | h
      · rcases List.mem_cons.1 h with rfl | h
        · exact .inr (has_put_same hD (sumKey x) _)
        · exact .inl h
      · exact .inr (has_put_mono hD (sumKey y) _ h)
  exact key ls _ isMap_empty (.inl h)
theorem nibLe_refl (x : Dig) : NibLe x x := fun _ _ _ => Nat.le_refl _
theorem short_need (ls ys : List Dig) (hk : KeysOfMap (needOf ls) ys) (z : Dig) (hz : z ∈ ls) : IsNeed ls z (getN (raiseTo (rising ys) (needOf ls) (max 1 ys.length)) (sumLit z.1)) := by
  obtain ⟨_, h⟩ := raise_inv ls ys hk (max 1 ys.length) (Nat.le_refl _)
  obtain ⟨a, b, c⟩ := h z hz
  refine ⟨a, fun y hy hne => ?_, b⟩
  have hrl := rising_len ys
  have hperm : (rising ys).Perm ys := List.mergeSort_perm _ _
  have hin : ∀ x ∈ ls, x ∈ rising ys := fun x hx => hperm.mem_iff.2 ((hk.2.1 x).2 (needOf_in ls x hx))
  obtain ⟨p, hp, ep⟩ := List.getElem_of_mem (hin z hz)
  obtain ⟨q, hq, eq⟩ := List.getElem_of_mem (hin y hy)
  have hs := List.pairwise_iff_getElem.1 (rising_sorted ys)
  have hle : ∀ i j (hi : i < (rising ys).length) (hj : j < (rising ys).length), i ≤ j → NibLe (rising ys)[i] (rising ys)[j] := fun i j hi hj hij => by
    rcases Nat.lt_or_eq_of_le hij with h1 | h1
    · exact nibLe_of (hs i j hi hj h1)
    · subst h1; exact nibLe_refl _
  have hpq : p ≠ q := fun e => by subst e; exact hne (eq.symm.trans ep)
  rcases Nat.lt_or_gt_of_ne hpq with hlt | hgt
  · have h1 := (alike_mid (hle p (p + 1) hp (by omega) (by omega)) (hle (p + 1) q (by omega) hq (by omega))).1
    have h2 := c p (rising ys)[p] ((rising ys)[p + 1]'(by omega)) (by omega) (List.getElem?_eq_getElem _) (List.getElem?_eq_getElem _) (.inl ep.symm)
    rw [ep, eq] at h1
    rw [ep] at h2
    omega
  · have h1 := (alike_mid (hle q (p - 1) hq (by omega) (by omega)) (hle (p - 1) p (by omega) hp (by omega))).2
    have h2 := c (p - 1) ((rising ys)[p - 1]'(by omega)) (rising ys)[p] (by omega) (List.getElem?_eq_getElem _) (by rw [show p - 1 + 1 = p by omega]; exact List.getElem?_eq_getElem _) (.inr ep.symm)
    rw [ep, eq, alike_comm y.1 z.1] at h1
    rw [ep] at h2
    omega
end Go.Proofs.YtffdkniahdekjaaDoor
end
