/-
  A CALL OF FIVE ARGUMENTS IN A REGION THAT DRAWS ITS ORDER.
  · THE REFERENCE's Proof: the way of a place.
  · THE REFERENCE's climbed: what a way leads to.
  · THE REFERENCE's Verify.
  · sum.Verify: does a digest stand at a place of a list?
-/
import Derived.Test.YtffdkniahdekjaaDoorMDa
import Derived.Test.YtffdkniahdekjaaDoorMBi
import Derived.Test.YtffdkniahdekjaaDoorMDb
section
namespace Go.Proofs.YtffdkniahdekjaaDoor
open Go.RowKit Go.Hoar
theorem refWay_len : ∀ (f : Nat) (ls : List (List Nat)) (i : Nat), (refWay f ls i).length ≤ f
  | 0, _, _ => Nat.le_refl _
  | f + 1, ls, i => by
    rw [refWay]
    split
    · simp
    · split
      · rw [List.length_append]
        have := refWay_len f (ls.take (halfOf ls.length)) i
        simp
        omega
      · rw [List.length_append]
        have := refWay_len f (ls.drop (halfOf ls.length)) (i - halfOf ls.length)
        simp
        omega
set_option maxRecDepth 100000 in
set_option maxHeartbeats 1000000 in
theorem refProof_not (i : Int) (a : Option Addr) (n c : Nat) (h : i < 0 ∨ (n : Int) ≤ i) (_hn : n ≤ 1073741824) (w : World) :
    Calls Tryd.prog 35 #[.slice a n c, .int .i64 i] w fun e w' => e = .returned (.tuple #[.slice none 0 0, .int .i64 1]) ∧ w' = w := by
  by_cases h0 : i < 0
  · go_enter Tryd.func35, Tryd.ntmps35
    go_wp2
    go_ret2
    exact ⟨rfl, rfl⟩
  · have h1 : (n : Int) ≤ i := by omega
    go_enter Tryd.func35, Tryd.ntmps35
    go_wp2
    go_ret2
    exact ⟨rfl, rfl⟩
theorem refProof_one (a : Option Addr) (c : Nat) (w : World) :
    Calls Tryd.prog 35 #[.slice a 1 c, .int .i64 0] w fun e w' => e = .returned (.tuple #[.slice none 0 0, .int .i64 0]) ∧ w' = w := by
  go_enter Tryd.func35, Tryd.ntmps35
  go_wp2
  go_ret2
  exact ⟨rfl, rfl⟩
def RefProofOk (f : Nat) : Prop := ∀ (ls : List (List Nat)) (i g off c : Nat) (w : World), ls.length ≤ f → i < ls.length → ls.length ≤ c → c ≤ maxLen → SumsAt w g off ls → g < w.heap.size → ∀ out, Hid (out = refWay f ls i) →
    Calls Tryd.prog 35 #[.slice (some ⟨g, off, none⟩) ls.length c, .int .i64 (i : Int)] w fun e w' => ∃ v, e = .returned (.tuple #[v, .int .i64 0]) ∧ w'.ownsRow w.heap.size 26 32 v out.length (out.flatMap cellsOf) ∧ Below w.heap.size w w'
set_option maxRecDepth 100000 in
set_option maxHeartbeats 2000000 in
theorem refProof_left (f : Nat) (hff : f ≤ 1073741824) (ih : RefProofOk f) (ls : List (List Nat)) (n : Nat) (hnl : n = ls.length) (h2 : 2 ≤ n) (i g off c : Nat) (w : World) (hf : n ≤ f + 1) (hi : i < n) (hih : i < halfOf n) (hnc : n ≤ c) (hcm : c ≤ maxLen) (hs : SumsAt w g off ls) (hg : g < w.heap.size) (out : List (List Nat))
    (hlo : out = refWay f (ls.take (halfOf n)) i ++ [listOf ((ls.drop (halfOf n)).length + 1) (ls.drop (halfOf n))]) :
    Calls Tryd.prog 35 #[.slice (some ⟨g, off, none⟩) n c, .int .i64 (i : Int)] w fun e w' => ∃ v, e = .returned (.tuple #[v, .int .i64 0]) ∧ w'.ownsRow w.heap.size 26 32 v out.length (out.flatMap cellsOf) ∧ Below w.heap.size w w' := by
  obtain ⟨i0, hi0, hz0, hz1, hz2⟩ := info_parts sumInfo3
  obtain ⟨_, b2, _⟩ := halfOf_bounds h2 (by omega)
  have b0 := halfOf_pos n
  obtain ⟨h, hh⟩ : ∃ h, h = halfOf n := ⟨_, rfl⟩
  rw [← hh] at b2 b0 hlo hih
  have lt1 : (ls.take h).length = h := by rw [List.length_take]; omega
  have lt2 : (ls.drop h).length = n - h := by rw [List.length_drop]; omega
  obtain ⟨A, hA⟩ : ∃ A, A = refWay f (ls.take h) i := ⟨_, rfl⟩
  obtain ⟨B, hB⟩ : ∃ B, B = listOf ((ls.drop h).length + 1) (ls.drop h) := ⟨_, rfl⟩
  rw [← hA, ← hB] at hlo
  have hAl : A.length ≤ f := by rw [hA]; exact refWay_len _ _ _
  have hfirst : ∀ V, Below w.heap.size w V → Calls Tryd.prog 35 #[.slice (some ⟨g, off, none⟩) h c, .int .i64 ((i : Int))] V fun e w' => ∃ v, e = .returned (.tuple #[v, .int .i64 0]) ∧ w'.ownsRow V.heap.size 26 32 v A.length (A.flatMap cellsOf) ∧ Below V.heap.size V w' := fun V hv => by
    have hs2 := hs.below hg hv
    have k := ih (ls.take h) i g off c V (by rw [lt1]; omega) (by rw [lt1]; omega) (by rw [lt1]; omega) (by omega) (hs2.take h) (Nat.lt_of_lt_of_le hg hv.size) A (Lib.hid hA)
    skip
    rwa [lt1] at k
  have hrest : ∀ V, Below w.heap.size w V → Calls Tryd.prog 36 #[.slice (some ⟨g, off + h * 32, none⟩) (n - h) (c - h)] V fun e w' => e = .returned (.agg (arr32 B)) ∧ B.length = 32 ∧ Below V.heap.size V w' := fun V hv => by
    have hs2 := hs.below hg hv
    have k := refList_any ((ls.drop h).length + 1) (ls.drop h) g (off + h * 32) (c - h) V (by omega) (by rw [lt2]; omega) (by rw [lt2]; omega) (by omega) (by rw [lt2]; omega) (hs2.drop h) (Nat.lt_of_lt_of_le hg hv.size) B (Lib.hid hB)
    rwa [lt2] at k
  have hcut : ∀ V, Calls Tryd.prog 71 #[.int .i64 (n : Int)] V fun e w' => e = .returned (.int .i64 (h : Int)) ∧ V = w' := fun V => by
    have k := refBelow_any n h2 (by omega) V
    rw [← hh] at k
    exact k.mono fun _ _ ⟨k1, k2⟩ => ⟨k1, k2.symm⟩
  unfold maxLen at hcm
  have HF := Lib.hid hfirst
  have HS := Lib.hid hrest
  have HK := Lib.hid hcut
  have HLo := Lib.hid hlo
  have n1 : ¬ n = 1 := by omega
  have i1 : ¬ (i : Int) < 0 := by omega
  have i2 : ¬ (n : Int) ≤ (i : Int) := by omega
  have i3 : (i : Int) < (h : Int) := by omega
  have hhc : ¬ c = h := by omega
  have hhc2 : h ≤ c := by omega
  have hhn : h ≤ n := by omega
  have HI2 : Hid (∀ (o : List Nat), o.length = 32 → (arr32 o).size = i0.size) := Lib.hid fun o ho => by rw [arr32_size o (by omega), hz1]
  clear hfirst hrest hcut hs hA hB hlo lt1 lt2 hnl hh ih hih
  go_enter Tryd.func35, Tryd.ntmps35
  go_wp2_with (first
    | (go_at_call 71; (with_reducible refine (HK.out _).mono ?_); rintro e w1 ⟨rfl, rfl⟩)
    | (go_at_call 35; (with_reducible refine (HF.out _ (Below.refl _ _)).mono ?_); rintro e w1 ⟨v1, rfl, ho1, hb1⟩; obtain ⟨a1, c1, rfl, hcc1, hcc2⟩ := own_shape ho1; have HO1 := Lib.hid ho1; have HB1 := Lib.hid hb1; clear ho1 hb1)
    | (go_at_call 36; (with_reducible refine (HS.out _ HB1.out).mono ?_); rintro e w2 ⟨rfl, hol, hb2⟩; have hsz2 := hb2.size; have HO2 := Lib.hid (own_below HO1.out hb2); have HB2 := Lib.hid (HB1.out.trans (hb2.mono HB1.out.size)); have ho32 := arr32_size B (by omega); have HS2 := Lib.hid (HI2.out B hol); clear hb2)
    | ((with_reducible refine arm_slice1 26 i0 _ (arr32 B) Tryd.underlying49 hi0 hz0 HS2.out ?s1 ?s2 ?s3 ?_); (case s1 => omega); (case s2 => omega); (case s3 => rfl))
    | (at_builtin; refine wpList_append_own _ rfl _ _ 49 rfl w.heap.size 26 i0 _ 32 32 Tryd.underlying49 hi0 hz0 hz1 hz2 rfl (by decide) _ _ _ rfl (HO2.out.alloc _) ⟨w2.heap.size, 0, none⟩ 1 1 (cellsOf B) rfl (by rw [cellsOf_len (by omega)]) (cell_row_new _ _ _) (cellsOf_one _) (by unfold maxLen; omega) (by omega) (by simp; have := HB2.out.size; omega) ?_; intro v' w3 hown3 hgrow3 _
       have HO3 := Lib.hid hown3
       have HB3 := Lib.hid ((HB2.out.alloc HB2.out.size (.cells (arr32 B) 26)).grown hgrow3 (by simp; have := HB2.out.size; omega) (fun j hj => (HO1.out.lt j hj).1))
       clear hown3 hgrow3))
  go_ret2
  refine ⟨_, rfl, ?_, HB3.out⟩
  rw [HLo.out, List.length_append, List.flatMap_append, List.flatMap_cons, List.flatMap_nil, List.append_nil]
  exact HO3.out
set_option maxRecDepth 100000 in
set_option maxHeartbeats 2000000 in
theorem refProof_right (f : Nat) (hff : f ≤ 1073741824) (ih : RefProofOk f) (ls : List (List Nat)) (n : Nat) (hnl : n = ls.length) (h2 : 2 ≤ n) (i g off c : Nat) (w : World) (hf : n ≤ f + 1) (hi : i < n) (hih : halfOf n ≤ i) (hnc : n ≤ c) (hcm : c ≤ maxLen) (hs : SumsAt w g off ls) (hg : g < w.heap.size) (out : List (List Nat))
    (hlo : out = refWay f (ls.drop (halfOf n)) (i - halfOf n) ++ [listOf ((ls.take (halfOf n)).length + 1) (ls.take (halfOf n))]) :
    Calls Tryd.prog 35 #[.slice (some ⟨g, off, none⟩) n c, .int .i64 (i : Int)] w fun e w' => ∃ v, e = .returned (.tuple #[v, .int .i64 0]) ∧ w'.ownsRow w.heap.size 26 32 v out.length (out.flatMap cellsOf) ∧ Below w.heap.size w w' := by
  obtain ⟨i0, hi0, hz0, hz1, hz2⟩ := info_parts sumInfo3
  obtain ⟨_, b2, _⟩ := halfOf_bounds h2 (by omega)
  have b0 := halfOf_pos n
  obtain ⟨h, hh⟩ : ∃ h, h = halfOf n := ⟨_, rfl⟩
  rw [← hh] at b2 b0 hlo hih
  have lt1 : (ls.take h).length = h := by rw [List.length_take]; omega
  have lt2 : (ls.drop h).length = n - h := by rw [List.length_drop]; omega
  obtain ⟨A, hA⟩ : ∃ A, A = refWay f (ls.drop h) (i - h) := ⟨_, rfl⟩
  obtain ⟨B, hB⟩ : ∃ B, B = listOf ((ls.take h).length + 1) (ls.take h) := ⟨_, rfl⟩
  rw [← hA, ← hB] at hlo
  have hAl : A.length ≤ f := by rw [hA]; exact refWay_len _ _ _
  have hfirst : ∀ V, Below w.heap.size w V → Calls Tryd.prog 35 #[.slice (some ⟨g, off + h * 32, none⟩) (n - h) (c - h), .int .i64 ((i : Int) - (h : Int))] V fun e w' => ∃ v, e = .returned (.tuple #[v, .int .i64 0]) ∧ w'.ownsRow V.heap.size 26 32 v A.length (A.flatMap cellsOf) ∧ Below V.heap.size V w' := fun V hv => by
    have hs2 := hs.below hg hv
    have k := ih (ls.drop h) (i - h) g (off + h * 32) (c - h) V (by rw [lt2]; omega) (by rw [lt2]; omega) (by rw [lt2]; omega) (by omega) (hs2.drop h) (Nat.lt_of_lt_of_le hg hv.size) A (Lib.hid hA)
    have e : ((i - h : Nat) : Int) = (i : Int) - (h : Int) := by omega
    rw [e] at k
    rwa [lt2] at k
  have hrest : ∀ V, Below w.heap.size w V → Calls Tryd.prog 36 #[.slice (some ⟨g, off, none⟩) h c] V fun e w' => e = .returned (.agg (arr32 B)) ∧ B.length = 32 ∧ Below V.heap.size V w' := fun V hv => by
    have hs2 := hs.below hg hv
    have k := refList_any ((ls.take h).length + 1) (ls.take h) g off c V (by omega) (by rw [lt1]; omega) (by rw [lt1]; omega) (by omega) (by rw [lt1]; omega) (hs2.take h) (Nat.lt_of_lt_of_le hg hv.size) B (Lib.hid hB)
    rwa [lt1] at k
  have hcut : ∀ V, Calls Tryd.prog 71 #[.int .i64 (n : Int)] V fun e w' => e = .returned (.int .i64 (h : Int)) ∧ V = w' := fun V => by
    have k := refBelow_any n h2 (by omega) V
    rw [← hh] at k
    exact k.mono fun _ _ ⟨k1, k2⟩ => ⟨k1, k2.symm⟩
  unfold maxLen at hcm
  have HF := Lib.hid hfirst
  have HS := Lib.hid hrest
  have HK := Lib.hid hcut
  have HLo := Lib.hid hlo
  have n1 : ¬ n = 1 := by omega
  have i1 : ¬ (i : Int) < 0 := by omega
  have i2 : ¬ (n : Int) ≤ (i : Int) := by omega
  have i3 : ¬ (i : Int) < (h : Int) := by omega
  have hhc : ¬ c = h := by omega
  have hhc2 : h ≤ c := by omega
  have hhn : h ≤ n := by omega
  have HI2 : Hid (∀ (o : List Nat), o.length = 32 → (arr32 o).size = i0.size) := Lib.hid fun o ho => by rw [arr32_size o (by omega), hz1]
  clear hfirst hrest hcut hs hA hB hlo lt1 lt2 hnl hh ih hih
  go_enter Tryd.func35, Tryd.ntmps35
  go_wp2_with (first
    | (go_at_call 71; (with_reducible refine (HK.out _).mono ?_); rintro e w1 ⟨rfl, rfl⟩)
    | (go_at_call 35; (with_reducible refine (HF.out _ (Below.refl _ _)).mono ?_); rintro e w1 ⟨v1, rfl, ho1, hb1⟩; obtain ⟨a1, c1, rfl, hcc1, hcc2⟩ := own_shape ho1; have HO1 := Lib.hid ho1; have HB1 := Lib.hid hb1; clear ho1 hb1)
    | (go_at_call 36; (with_reducible refine (HS.out _ HB1.out).mono ?_); rintro e w2 ⟨rfl, hol, hb2⟩; have hsz2 := hb2.size; have HO2 := Lib.hid (own_below HO1.out hb2); have HB2 := Lib.hid (HB1.out.trans (hb2.mono HB1.out.size)); have ho32 := arr32_size B (by omega); have HS2 := Lib.hid (HI2.out B hol); clear hb2)
    | ((with_reducible refine arm_slice1 26 i0 _ (arr32 B) Tryd.underlying49 hi0 hz0 HS2.out ?s1 ?s2 ?s3 ?_); (case s1 => omega); (case s2 => omega); (case s3 => rfl))
    | (at_builtin; refine wpList_append_own _ rfl _ _ 49 rfl w.heap.size 26 i0 _ 32 32 Tryd.underlying49 hi0 hz0 hz1 hz2 rfl (by decide) _ _ _ rfl (HO2.out.alloc _) ⟨w2.heap.size, 0, none⟩ 1 1 (cellsOf B) rfl (by rw [cellsOf_len (by omega)]) (cell_row_new _ _ _) (cellsOf_one _) (by unfold maxLen; omega) (by omega) (by simp; have := HB2.out.size; omega) ?_; intro v' w3 hown3 hgrow3 _
       have HO3 := Lib.hid hown3
       have HB3 := Lib.hid ((HB2.out.alloc HB2.out.size (.cells (arr32 B) 26)).grown hgrow3 (by simp; have := HB2.out.size; omega) (fun j hj => (HO1.out.lt j hj).1))
       clear hown3 hgrow3))
  go_ret2
  refine ⟨_, rfl, ?_, HB3.out⟩
  rw [HLo.out, List.length_append, List.flatMap_append, List.flatMap_cons, List.flatMap_nil, List.append_nil]
  exact HO3.out
theorem refProof_any : ∀ (f : Nat), f ≤ 1073741825 → RefProofOk f
  | 0, _ => fun _ _ _ _ _ _ h hi _ _ _ _ _ _ => by omega
  | f + 1, hf => fun ls i g off c w hlen hi hnc hcm hs hg out hout => by
    by_cases h2 : 2 ≤ ls.length
    · have e := hout.out
      rw [refWay, if_neg (by omega)] at e
      by_cases hih : i < halfOf ls.length
      · rw [if_pos hih] at e
        exact refProof_left f (by omega) (refProof_any f (by omega)) ls _ rfl h2 i g off c w hlen hi hih hnc hcm hs hg out e
      · rw [if_neg hih] at e
        exact refProof_right f (by omega) (refProof_any f (by omega)) ls _ rfl h2 i g off c w hlen hi (by omega) hnc hcm hs hg out e
    · have h1 : ls.length = 1 := by omega
      obtain rfl : i = 0 := by omega
      have e : out = [] := by rw [hout.out]; exact refWay_one _ _ _ (by omega)
      subst e
      rw [h1]
      refine (refProof_one (some ⟨g, off, none⟩) c w).mono ?_
      rintro e w' ⟨rfl, rfl⟩
      exact ⟨_, rfl, World.ownsRow_nil _ _ _ _, Below.refl _ _⟩
end Go.Proofs.YtffdkniahdekjaaDoor
end
section
namespace Go.Proofs.YtffdkniahdekjaaDoor
open Go.RowKit Go.Hoar
noncomputable def climbOps (k : Nat) : Array Oper := (Tryd.f77.body.bind (opsAt k)).getD #[]
theorem climb_len : ∀ (f n i : Nat) (x : List Nat) (way : List (List Nat)), (climb (f + 1) n i x way).1.length = 32 ∧ Sha.Bytes (climb (f + 1) n i x way).1 := fun f n i x way => by
  rw [climb]
  split
  · exact sha_bytes _
  · split
    · exact ⟨List.length_replicate, fun y hy => by rw [List.eq_of_mem_replicate hy]; decide⟩
    · split
      · exact sha_bytes _
      · exact sha_bytes _
theorem zero32_arr : arr32 (List.replicate 32 0) = zero32 := rfl
def ClimbOk (f : Nat) : Prop := ∀ (n i : Nat) (x : List Nat) (way : List (List Nat)) (a : Option Addr) (c : Nat) (w : World), n < f → 1 ≤ n → i < n → n ≤ 1073741824 → x.length = 32 → Sha.Bytes x → SumsOk way → way.length ≤ 1000000 → RowOk w a c way →
    ∀ (A : List Nat) (b : Bool), Hid (A = (climb f n i x way).1) → Hid (b = (climb f n i x way).2) →
    Calls Tryd.prog 77 #[.int .i64 (n : Int), .int .i64 (i : Int), .agg (arr32 x), .slice a way.length c] w fun e w' => e = .returned (.tuple #[.agg (arr32 A), .bool b]) ∧ Below w.heap.size w w'
set_option maxRecDepth 100000 in
set_option maxHeartbeats 2000000 in
theorem climb_one (i : Nat) (x : List Nat) (m : Nat) (a : Option Addr) (c : Nat) (w : World) (hx : x.length = 32) (hxb : Sha.Bytes x) (_hm : m ≤ 1000000) (A : List Nat) (hA : Hid (A = Sha.sha (1 :: x))) :
    Calls Tryd.prog 77 #[.int .i64 1, .int .i64 (i : Int), .agg (arr32 x), .slice a m c] w fun e w' => e = .returned (.tuple #[.agg (arr32 A), .bool (decide (m = 0))]) ∧ Below w.heap.size w w' := by
  have hAl : A.length = 32 := by rw [hA.out]; exact (sha_bytes _).1
  have HI := Lib.hid (arr32_info x (by omega))
  have HIA := Lib.hid (arr32_info A (by omega))
  have HSA := Lib.hid ((arr32_size [] (by simp)).trans (arr32_size A (by omega)).symm)
  have HL : Hid (∀ V : World, Calls Tryd.prog 72 #[.agg (arr32 x)] V fun e w' => e = .returned (.agg (arr32 A)) ∧ Below V.heap.size V w') := Lib.hid fun V => (refLeaf_any x hx hxb V A hA).mono fun e w' ⟨h1, _, h2⟩ => ⟨h1, h2⟩
  have hd : ((m : Int) == 0) = decide (m = 0) := by by_cases h : m = 0 <;> simp [h]
  obtain ⟨b, hb⟩ : ∃ b, b = decide (m = 0) := ⟨_, rfl⟩
  rw [← hb] at hd ⊢
  clear hb
  go_enter Tryd.func77, Tryd.ntmps77
  go_upto_region 1 with (fail)
  refine gen_world (P := fun W => Code.wp _ _ _ _ W) (I := fun W => Below w.heap.size w W ∧ Has W w.heap.size 26 (arr32 x) ∧ Has W (w.heap.size + 1) 26 (arr32 [])) _ ⟨((Below.refl _ w).alloc (Nat.le_refl _) _).alloc (by simp) _, (Has.fresh_at _ _ _ _ rfl).alloc _, Has.fresh_at _ _ _ _ (by simp)⟩ ?_
  rintro W ⟨hB, hX, hR⟩
  have HB := Lib.hid hB
  have HX := Lib.hid hX
  have HR := Lib.hid hR
  clear hB hX hR
  go_wp2_with (first
    | ((with_reducible refine arm_load ⟨w.heap.size, 0, none⟩ (arr32 x) _ HX.out.row Tryd.underlying26 HI.out ?h1 ?h2 ?_); (case h1 => rfl); (case h2 => rfl))
    | (go_at_call 72; (with_reducible refine (HL.out _).mono ?_); rintro e w1 ⟨rfl, hb1⟩; have HB1 := Lib.hid (HB.out.trans (hb1.mono HB.out.size)); have HR1 := Lib.hid (HR.out.below hb1 HR.out.lt); clear hb1)
    | ((with_reducible refine arm_store (w.heap.size + 1) (arr32 A) _ _ HR1.out HSA.out HIA.out (arr32_one _) ?h5 ?h6 ?_); (case h5 => rfl); (case h6 => rfl)))
  exact bodyPost_ret (results_row_tmp rfl _ _ (w.heap.size + 1) 26 (arr32 A) (0, 0) _ rfl HR1.out.setRow rfl Tryd.underlying26 HIA.out) rfl ⟨rfl, below_setRow HB1.out (by omega) _⟩
set_option maxRecDepth 100000 in
set_option maxHeartbeats 2000000 in
theorem climb_none (n i : Nat) (x : List Nat) (a : Option Addr) (c : Nat) (w : World) (h2 : 2 ≤ n) (hn : n ≤ 1073741824) :
    Calls Tryd.prog 77 #[.int .i64 (n : Int), .int .i64 (i : Int), .agg (arr32 x), .slice a 0 c] w fun e w' => e = .returned (.tuple #[.agg (arr32 (List.replicate 32 0)), .bool false]) ∧ Below w.heap.size w w' := by
  have n1 : ¬ (n : Int) = 1 := by omega
  have HIA := Lib.hid (arr32_info (List.replicate 32 0) (by simp))
  have HSA := Lib.hid (zero32_size (List.replicate 32 0) (by simp))
  rw [zero32_arr]
  rw [zero32_arr] at HIA HSA
  have HO : Hid (zero32.all (·.oneCell') = true) := Lib.hid (by rw [← zero32_arr]; exact arr32_one _)
  go_enter Tryd.func77, Tryd.ntmps77
  go_upto_region 1 with (fail)
  refine gen_world (P := fun W => Code.wp _ _ _ _ W) (I := fun W => Below w.heap.size w W ∧ Has W (w.heap.size + 1) 26 zero32) _ ⟨((Below.refl _ w).alloc (Nat.le_refl _) _).alloc (by simp) _, Has.fresh_at _ _ _ _ (by simp)⟩ ?_
  rintro W ⟨hB, hR⟩
  have HB := Lib.hid hB
  have HR := Lib.hid hR
  clear hB hR
  go_wp2_with (first
    | ((with_reducible refine arm_store (w.heap.size + 1) zero32 _ _ HR.out HSA.out HIA.out HO.out ?h5 ?h6 ?_); (case h5 => rfl); (case h6 => rfl)))
  exact bodyPost_ret (results_row_tmp rfl _ _ (w.heap.size + 1) 26 zero32 (0, 0) _ rfl HR.out.setRow rfl Tryd.underlying26 HIA.out) rfl ⟨rfl, below_setRow HB.out (by omega) _⟩
set_option maxRecDepth 100000 in
set_option maxHeartbeats 3000000 in
theorem climb_left (f : Nat) (ih : ClimbOk f) (n i : Nat) (x : List Nat) (pre : List (List Nat)) (last : List Nat) (g off c : Nat) (w : World) (hf : n < f + 1) (h2 : 2 ≤ n) (_hin : i < n) (hn : n ≤ 1073741824) (hx : x.length = 32) (hxb : Sha.Bytes x) (hok : SumsOk (pre ++ [last])) (hpl : pre.length ≤ 999999)
    (hs : SumsAt w g off (pre ++ [last])) (hg : g < w.heap.size) (hc1 : pre.length + 1 ≤ c) (hcm : c ≤ maxLen) (hih : i < halfOf n)
    (A out : List Nat) (b : Bool) (hA : Hid (A = (climb f (halfOf n) i x pre).1)) (hb : Hid (b = (climb f (halfOf n) i x pre).2)) (hAl : A.length = 32) (hAb : Sha.Bytes A) (hout : Hid (out = Sha.sha (2 :: (A ++ last)))) :
    Calls Tryd.prog 77 #[.int .i64 (n : Int), .int .i64 (i : Int), .agg (arr32 x), .slice (some ⟨g, off, none⟩) (pre.length + 1) c] w fun e w' => e = .returned (.tuple #[.agg (arr32 out), .bool b]) ∧ Below w.heap.size w w' := by
  obtain ⟨_, b2, _⟩ := halfOf_bounds h2 (by omega)
  have b0 := halfOf_pos n
  obtain ⟨h, hh⟩ : ∃ h, h = halfOf n := ⟨_, rfl⟩
  rw [← hh] at b2 b0 hih hA hb
  have hol : out.length = 32 := by rw [hout.out]; exact (sha_bytes _).1
  have hll : last.length = 32 ∧ Sha.Bytes last := hok last (by simp)
  obtain ⟨k, hk⟩ : ∃ k, k = pre.length := ⟨_, rfl⟩
  have hlast : (pre ++ [last])[k]? = some last := by rw [hk]; simp
  have hpre : SumsAt w g off pre := by
    have := hs.take pre.length
    rwa [List.take_left] at this
  have hrec : ∀ V, Below w.heap.size w V → Calls Tryd.prog 77 #[.int .i64 ((h : Int)), .int .i64 ((i : Int)), .agg (arr32 x), .slice (some ⟨g, off, none⟩) k c] V fun e w' => e = .returned (.tuple #[.agg (arr32 A), .bool b]) ∧ Below V.heap.size V w' := fun V hv => by
    have kk := ih h i x pre (some ⟨g, off, none⟩) c V (by omega) (by omega) (by omega) (by omega) hx hxb (fun l hl => hok l (by simp [hl])) (by omega) (.inr ⟨g, off, rfl, Nat.lt_of_lt_of_le hg hv.size, hpre.below hg hv, by omega, hcm⟩) A b hA hb
    skip
    rwa [← hk] at kk
  have hbel : ∀ V, Calls Tryd.prog 71 #[.int .i64 (n : Int)] V fun e w' => e = .returned (.int .i64 (h : Int)) ∧ V = w' := fun V => by
    have kk := refBelow_any n h2 (by omega) V
    rw [← hh] at kk
    exact kk.mono fun _ _ ⟨k1, k2⟩ => ⟨k1, k2.symm⟩
  have HF := Lib.hid hrec
  have HK := Lib.hid hbel
  have HIn : Hid (∀ V : World, Calls Tryd.prog 73 #[.agg (arr32 A), .agg (arr32 last)] V fun e w' => e = .returned (.agg (arr32 out)) ∧ Below V.heap.size V w') := Lib.hid fun V => (refInner_any A last hAl hll.1 hAb hll.2 V out hout).mono fun e w' ⟨h1, _, h2⟩ => ⟨h1, h2⟩
  have HLast : Hid (∀ V, Below w.heap.size w V → ∀ j u, (arr32 last)[j]? = some u → V.cell? ((⟨g, off + k * 32, none⟩ : Addr).add j) = some u) := Lib.hid fun V hv => (hs.below hg hv).row hlast
  have HIx := Lib.hid (arr32_info x (by omega))
  have HIl := Lib.hid (arr32_info last (by omega))
  have HSl := Lib.hid (zero32_size last (by omega))
  have HIA := Lib.hid (arr32_info A (by omega))
  have HSA := Lib.hid (zero32_size A (by omega))
  have HIo := Lib.hid (arr32_info out (by omega))
  have HSo := Lib.hid (zero32_size out (by omega))
  have n1 : ¬ (n : Int) = 1 := by omega
  rw [← hk] at hc1 hpl ⊢
  have k0 : ¬ (k : Int) + 1 = 0 := by omega
  have k1 : k < c := by omega
  have k2 : ¬ c = k := by omega
  have k3 : k ≤ c := by omega
  unfold maxLen at hcm
  have i3 : (i : Int) < (h : Int) := by omega
  clear hrec hbel hs hlast hpre hk hA hb hout hok hll hh ih hih
  go_enter Tryd.func77, Tryd.ntmps77
  go_upto_region 1 with (fail)
  refine gen_world (P := fun W => Code.wp _ _ _ _ W) (I := fun W => Below w.heap.size w W ∧ Has W w.heap.size 26 (arr32 x) ∧ Has W (w.heap.size + 1) 26 zero32) _ ⟨((Below.refl _ w).alloc (Nat.le_refl _) _).alloc (by simp) _, (Has.fresh_at _ _ _ _ rfl).alloc _, Has.fresh_at _ _ _ _ (by simp)⟩ ?_
  rintro W ⟨hB, hX, hR⟩
  have HB := Lib.hid hB
  have HX := Lib.hid hX
  have HR := Lib.hid hR
  have HF1 := Lib.hid (fresh_sum W)
  clear hB hX hR
  go_upto_region 7 with (first
    | (go_at_call 71; (with_reducible refine (HK.out _).mono ?_); rintro e w1 ⟨rfl, rfl⟩)
    | ((with_reducible refine arm_load ⟨g, off + k * 32, none⟩ (arr32 last) _ (HLast.out _ HB.out) Tryd.underlying26 HIl.out ?h1 ?h2 ?_); (case h1 => rfl); (case h2 => rfl))
    | ((with_reducible refine arm_store W.heap.size (arr32 last) 26 zero32 HF1.out HSl.out HIl.out (arr32_one _) ?h5 ?h6 ?_); (case h5 => rfl); (case h6 => rfl)))
  refine gen_world (P := fun W => Code.wp _ _ _ _ W) (I := fun V => Below w.heap.size w V ∧ Has V w.heap.size 26 (arr32 x) ∧ Has V (w.heap.size + 1) 26 zero32 ∧ Has V W.heap.size 26 (arr32 last)) _ ⟨below_setRow (HB.out.alloc HB.out.size _) HB.out.size _, (HX.out.alloc _).setRow_apart (Nat.ne_of_lt HX.out.lt), (HR.out.alloc _).setRow_apart (Nat.ne_of_lt HR.out.lt), HF1.out.setRow⟩ ?_
  rintro U ⟨hB, hX, hR, hL⟩
  generalize W.heap.size = p11 at hL ⊢
  have HBU := Lib.hid hB
  have HXU := Lib.hid hX
  have HRU := Lib.hid hR
  have HLU := Lib.hid hL
  clear hB hX hR hL HB HX HR HF1
  go_upto_region 8 with (fail)
  change Code.wp _ (Code.region 8 (climbOps 8) true) _ _ _
  refine wp_region_held (S := fun V => Below U.heap.size U V) (by kernel_rfl) ?_
  have hsz : (climbOps 8).size = 15 := by kernel_rfl
  rw [hsz]
  clear hsz
  refine gen_world (P := fun W' => wpAnyH _ _ _ _ _ _ _ _ W') (I := fun V => Below U.heap.size U V) _ (Below.refl _ U).drew ?_
  rintro V hBV
  have HS0 := Lib.hid hBV
  clear hBV
  have hwk : IntKind.i64.wrap (k : Int) = (k : Int) := IntWalk.i64_in _ (by omega)
  refine wpAnyH_take (i := 0) (oi := ⟨some 39, _, _, _, _, _⟩) (v := ?_) rfl (by kernel_rfl) (by kernel_rfl) (by kernel_rfl) (fun _ _ _ h => h) (Or.inl ⟨by rfl, fun w' hw' => by go_simp; with_reducible rfl⟩) HS0.out ?_
  try simp only [Act.put, List.setIfInBounds_toArray, List.set_cons_succ, List.set_cons_zero]
  refine wpAnyH_take (i := 1) (oi := ⟨some 40, _, _, _, _, _⟩) (v := ?_) rfl (by kernel_rfl) (by kernel_rfl) (by kernel_rfl) (fun _ _ _ h => h) (Or.inl ⟨by rfl, fun w' hw' => by go_simp; with_reducible rfl⟩) HS0.out ?_
  try simp only [Act.put, List.setIfInBounds_toArray, List.set_cons_succ, List.set_cons_zero]
  refine wpAnyH_take (i := 2) (oi := ⟨some 41, _, _, _, _, none⟩) (v := .agg (arr32 x)) rfl (by kernel_rfl) (by kernel_rfl) (by kernel_rfl) (fun _ _ _ h => h) (yieldsIf_load ⟨w.heap.size, 0, none⟩ _ _ (fun w hw => (HXU.out.below hw HXU.out.lt).row) Tryd.underlying26 HIx.out rfl rfl) HS0.out ?_
  try simp only [Act.put, List.setIfInBounds_toArray, List.set_cons_succ, List.set_cons_zero]
  refine wpAnyH_take (i := 3) (oi := ⟨some 42, _, _, _, _, _⟩) (v := ?_) rfl (by kernel_rfl) (by kernel_rfl) (by kernel_rfl) (fun _ _ _ h => h) (Or.inl ⟨by rfl, fun w' hw' => by go_simp; with_reducible rfl⟩) HS0.out ?_
  try simp only [Act.put, List.setIfInBounds_toArray, List.set_cons_succ, List.set_cons_zero]
  refine wpAnyH_take (i := 4) (oi := ⟨some 43, _, _, _, _, _⟩) (v := ?_) rfl (by kernel_rfl) (by kernel_rfl) (by kernel_rfl) (fun _ _ _ h => h) (Or.inl ⟨by rfl, fun w' hw' => by go_simp; with_reducible rfl⟩) HS0.out ?_
  try simp only [Act.put, List.setIfInBounds_toArray, List.set_cons_succ, List.set_cons_zero]
  refine wpAnyH_take (i := 5) (oi := ⟨some 44, _, _, _, _, _⟩) (v := ?_) rfl (by kernel_rfl) (by kernel_rfl) (by kernel_rfl) (fun _ _ _ h => h) (Or.inl ⟨by rfl, fun w' hw' => by go_simp; with_reducible rfl⟩) HS0.out ?_
  try simp only [Act.put, List.setIfInBounds_toArray, List.set_cons_succ, List.set_cons_zero]
  refine wpAnyH_take (i := 6) (oi := ⟨some 45, _, _, _, _, _⟩) (v := ?_) rfl (by kernel_rfl) (by kernel_rfl) (by kernel_rfl) (fun _ _ _ h => h) (Or.inl ⟨by rfl, fun w' hw' => by go_simp; with_reducible rfl⟩) HS0.out ?_
  try simp only [Act.put, List.setIfInBounds_toArray, List.set_cons_succ, List.set_cons_zero]
  refine wpAnyH_take (i := 7) (oi := ⟨some 46, _, _, _, _, _⟩) (v := ?_) rfl (by kernel_rfl) (by kernel_rfl) (by kernel_rfl) (fun _ _ _ h => h) (Or.inl ⟨by rfl, fun w' hw' => by go_simp; with_reducible rfl⟩) HS0.out ?_
  try simp only [Act.put, List.setIfInBounds_toArray, List.set_cons_succ, List.set_cons_zero]
  clear hwk
  refine wpAnyH_all (rs := [8, 12]) (by kernel_rfl) (by simp) ?_
  intro j hj
  have hj2 : j = 8 ∨ j = 12 := by simpa using hj
  clear hj
  rcases hj2 with rfl | rfl
  · refine wpOp_step (o := ⟨some 47, _, _, _, _, _⟩) rfl (fun K' hK' => ?_)
    rw [if_pos (show Region.wanted _ _ = true from rfl)]
    go_simp
    (with_reducible refine (HF.out _ (HBU.out.trans (HS0.out.mono HBU.out.size))).mono ?_)
    rintro e v1 ⟨rfl, hbx⟩
    have HS1 := Lib.hid (HS0.out.trans (hbx.mono HS0.out.size))
    clear hbx
    refine hK' _ _ ⟨HS1.out, ?_⟩
    clear hK' K'
    try simp only [Act.put, List.setIfInBounds_toArray, List.set_cons_succ, List.set_cons_zero]
    refine wpAnyH_take (i := 9) (oi := ⟨some 38, _, _, _, _, _⟩) (v := ?_) rfl (by kernel_rfl) (by kernel_rfl) (by kernel_rfl) (fun _ _ _ h => h) (Or.inl ⟨by rfl, fun w' hw' => by go_simp; with_reducible rfl⟩) HS1.out ?_
    try simp only [Act.put, List.setIfInBounds_toArray, List.set_cons_succ, List.set_cons_zero]
    refine wpAnyH_take (i := 10) (oi := ⟨some 48, _, _, _, _, _⟩) (v := ?_) rfl (by kernel_rfl) (by kernel_rfl) (by kernel_rfl) (fun _ _ _ h => h) (Or.inl ⟨by rfl, fun w' hw' => by go_simp; with_reducible rfl⟩) HS1.out ?_
    try simp only [Act.put, List.setIfInBounds_toArray, List.set_cons_succ, List.set_cons_zero]
    refine wpAnyH_take (i := 11) (oi := ⟨some 49, _, _, _, _, _⟩) (v := ?_) rfl (by kernel_rfl) (by kernel_rfl) (by kernel_rfl) (fun _ _ _ h => h) (Or.inl ⟨by rfl, fun w' hw' => by go_simp; with_reducible rfl⟩) HS1.out ?_
    try simp only [Act.put, List.setIfInBounds_toArray, List.set_cons_succ, List.set_cons_zero]
    have HF3 := Lib.hid (fresh_sum v1)
    refine wpAnyH_all (rs := [12]) (by kernel_rfl) (by simp) ?_
    intro i hi
    obtain rfl : i = 12 := by simpa using hi
    clear hi
    refine wpOp_step (o := ⟨some 12, _, _, _, _, _⟩) rfl (fun K' hK' => ?_)
    rw [if_pos (show Region.wanted _ _ = true from rfl)]
    go_simp
    refine hK' _ _ ⟨HS1.out.alloc HS1.out.size _, ?_⟩
    clear hK' K'
    try simp only [Act.put, List.setIfInBounds_toArray, List.set_cons_succ, List.set_cons_zero]
    refine wpAnyH_all (rs := [13]) (by kernel_rfl) (by simp) ?_
    intro i hi
    obtain rfl : i = 13 := by simpa using hi
    clear hi
    refine wpOp_step (o := ⟨none, _, _, _, _, _⟩) rfl (fun K' hK' => ?_)
    rw [if_pos (show Region.wanted _ _ = true from rfl)]
    refine opw_store v1.heap.size (arr32 A) 26 zero32 HF3.out HSA.out HIA.out (arr32_one _) rfl rfl ?_
    refine hK' _ _ ⟨below_setRow (HS1.out.alloc HS1.out.size _) HS1.out.size _, ?_⟩
    clear hK' K'
    try simp only [Act.put, List.setIfInBounds_toArray, List.set_cons_succ, List.set_cons_zero]
    have HS2 := Lib.hid (below_setRow (HS1.out.alloc HS1.out.size (.cells zero32 26)) HS1.out.size (arr32 A))
    have HA2 := Lib.hid (HF3.out.setRow (cs' := arr32 A))
    refine wpAnyH_take (i := 14) (oi := ⟨some 13, _, _, _, _, _⟩) (v := ?_) rfl (by kernel_rfl) (by kernel_rfl) (by kernel_rfl) (fun _ _ _ h => h) (Or.inl ⟨by rfl, fun w' hw' => by go_simp; with_reducible rfl⟩) HS2.out ?_
    try simp only [Act.put, List.setIfInBounds_toArray, List.set_cons_succ, List.set_cons_zero]
    refine wpAnyH_done (by kernel_rfl) ?_ _
    refine gen_world (P := fun W => _) (I := fun Z => Below U.heap.size U Z ∧ Has Z v1.heap.size 26 (arr32 A)) _ ⟨HS2.out, HA2.out⟩ ?_
    rintro V2 ⟨hB, hA2⟩
    generalize v1.heap.size = p12 at hA2 ⊢
    have HB3 := Lib.hid (HBU.out.trans (hB.mono HBU.out.size))
    have HL3 := Lib.hid (HLU.out.below hB HLU.out.lt)
    have HR3 := Lib.hid (HRU.out.below hB HRU.out.lt)
    have HA3 := Lib.hid hA2
    clear hB hA2 HS2 HA2 HF3 HS1 HS0
    go_wp2_with (first
      | ((with_reducible refine arm_load ⟨p12, 0, none⟩ (arr32 A) _ HA3.out.row Tryd.underlying26 HIA.out ?h1 ?h2 ?_); (case h1 => rfl); (case h2 => rfl))
      | ((with_reducible refine arm_load ⟨p11, 0, none⟩ (arr32 last) _ HL3.out.row Tryd.underlying26 HIl.out ?h1 ?h2 ?_); (case h1 => rfl); (case h2 => rfl))
      | (go_at_call 73; (with_reducible refine (HIn.out _).mono ?_); rintro e w4 ⟨rfl, hb4⟩; have HB4 := Lib.hid (HB3.out.trans (hb4.mono HB3.out.size)); have HR4 := Lib.hid (HR3.out.below hb4 HR3.out.lt); clear hb4)
      | ((with_reducible refine arm_store (w.heap.size + 1) (arr32 out) 26 zero32 HR4.out HSo.out HIo.out (arr32_one _) ?h5 ?h6 ?_); (case h5 => rfl); (case h6 => rfl)))
    exact bodyPost_ret (results_row_tmp rfl _ _ (w.heap.size + 1) 26 (arr32 out) (0, 0) _ rfl HR4.out.setRow rfl Tryd.underlying26 HIo.out) rfl ⟨rfl, below_setRow HB4.out (by omega) _⟩
  · have HF3 := Lib.hid (fresh_sum V)
    refine wpOp_step (o := ⟨some 12, _, _, _, _, _⟩) rfl (fun K' hK' => ?_)
    rw [if_pos (show Region.wanted _ _ = true from rfl)]
    go_simp
    refine hK' _ _ ⟨HS0.out.alloc HS0.out.size _, ?_⟩
    clear hK' K'
    try simp only [Act.put, List.setIfInBounds_toArray, List.set_cons_succ, List.set_cons_zero]
    have HS1 := Lib.hid (HS0.out.alloc HS0.out.size (.cells zero32 26))
    refine wpAnyH_all (rs := [8]) (by kernel_rfl) (by simp) ?_
    intro i hi
    obtain rfl : i = 8 := by simpa using hi
    clear hi
    refine wpOp_step (o := ⟨some 47, _, _, _, _, _⟩) rfl (fun K' hK' => ?_)
    rw [if_pos (show Region.wanted _ _ = true from rfl)]
    go_simp
    (with_reducible refine (HF.out _ (HBU.out.trans (HS1.out.mono HBU.out.size))).mono ?_)
    rintro e v1 ⟨rfl, hbx⟩
    have HS3 := Lib.hid (HS1.out.trans (hbx.mono HS1.out.size))
    have HF4 := Lib.hid (HF3.out.below hbx HF3.out.lt)
    clear hbx
    refine hK' _ _ ⟨HS3.out, ?_⟩
    clear hK' K'
    try simp only [Act.put, List.setIfInBounds_toArray, List.set_cons_succ, List.set_cons_zero]
    refine wpAnyH_take (i := 9) (oi := ⟨some 38, _, _, _, _, _⟩) (v := ?_) rfl (by kernel_rfl) (by kernel_rfl) (by kernel_rfl) (fun _ _ _ h => h) (Or.inl ⟨by rfl, fun w' hw' => by go_simp; with_reducible rfl⟩) HS3.out ?_
    try simp only [Act.put, List.setIfInBounds_toArray, List.set_cons_succ, List.set_cons_zero]
    refine wpAnyH_take (i := 10) (oi := ⟨some 48, _, _, _, _, _⟩) (v := ?_) rfl (by kernel_rfl) (by kernel_rfl) (by kernel_rfl) (fun _ _ _ h => h) (Or.inl ⟨by rfl, fun w' hw' => by go_simp; with_reducible rfl⟩) HS3.out ?_
    try simp only [Act.put, List.setIfInBounds_toArray, List.set_cons_succ, List.set_cons_zero]
    refine wpAnyH_take (i := 11) (oi := ⟨some 49, _, _, _, _, _⟩) (v := ?_) rfl (by kernel_rfl) (by kernel_rfl) (by kernel_rfl) (fun _ _ _ h => h) (Or.inl ⟨by rfl, fun w' hw' => by go_simp; with_reducible rfl⟩) HS3.out ?_
    try simp only [Act.put, List.setIfInBounds_toArray, List.set_cons_succ, List.set_cons_zero]
    refine wpAnyH_all (rs := [13]) (by kernel_rfl) (by simp) ?_
    intro i hi
    obtain rfl : i = 13 := by simpa using hi
    clear hi
    refine wpOp_step (o := ⟨none, _, _, _, _, _⟩) rfl (fun K' hK' => ?_)
    rw [if_pos (show Region.wanted _ _ = true from rfl)]
    refine opw_store V.heap.size (arr32 A) 26 zero32 HF4.out HSA.out HIA.out (arr32_one _) rfl rfl ?_
    refine hK' _ _ ⟨below_setRow HS3.out HS0.out.size _, ?_⟩
    clear hK' K'
    try simp only [Act.put, List.setIfInBounds_toArray, List.set_cons_succ, List.set_cons_zero]
    have HS2 := Lib.hid (below_setRow HS3.out HS0.out.size (arr32 A))
    have HA2 := Lib.hid (HF4.out.setRow (cs' := arr32 A))
    refine wpAnyH_take (i := 14) (oi := ⟨some 13, _, _, _, _, _⟩) (v := ?_) rfl (by kernel_rfl) (by kernel_rfl) (by kernel_rfl) (fun _ _ _ h => h) (Or.inl ⟨by rfl, fun w' hw' => by go_simp; with_reducible rfl⟩) HS2.out ?_
    try simp only [Act.put, List.setIfInBounds_toArray, List.set_cons_succ, List.set_cons_zero]
    refine wpAnyH_done (by kernel_rfl) ?_ _
    refine gen_world (P := fun W => _) (I := fun Z => Below U.heap.size U Z ∧ Has Z V.heap.size 26 (arr32 A)) _ ⟨HS2.out, HA2.out⟩ ?_
    rintro V2 ⟨hB, hA2⟩
    generalize V.heap.size = p12 at hA2 ⊢
    have HB3 := Lib.hid (HBU.out.trans (hB.mono HBU.out.size))
    have HL3 := Lib.hid (HLU.out.below hB HLU.out.lt)
    have HR3 := Lib.hid (HRU.out.below hB HRU.out.lt)
    have HA3 := Lib.hid hA2
    clear hB hA2 HS2 HA2 HF3 HS1 HS0
    go_wp2_with (first
      | ((with_reducible refine arm_load ⟨p12, 0, none⟩ (arr32 A) _ HA3.out.row Tryd.underlying26 HIA.out ?h1 ?h2 ?_); (case h1 => rfl); (case h2 => rfl))
      | ((with_reducible refine arm_load ⟨p11, 0, none⟩ (arr32 last) _ HL3.out.row Tryd.underlying26 HIl.out ?h1 ?h2 ?_); (case h1 => rfl); (case h2 => rfl))
      | (go_at_call 73; (with_reducible refine (HIn.out _).mono ?_); rintro e w4 ⟨rfl, hb4⟩; have HB4 := Lib.hid (HB3.out.trans (hb4.mono HB3.out.size)); have HR4 := Lib.hid (HR3.out.below hb4 HR3.out.lt); clear hb4)
      | ((with_reducible refine arm_store (w.heap.size + 1) (arr32 out) 26 zero32 HR4.out HSo.out HIo.out (arr32_one _) ?h5 ?h6 ?_); (case h5 => rfl); (case h6 => rfl)))
    exact bodyPost_ret (results_row_tmp rfl _ _ (w.heap.size + 1) 26 (arr32 out) (0, 0) _ rfl HR4.out.setRow rfl Tryd.underlying26 HIo.out) rfl ⟨rfl, below_setRow HB4.out (by omega) _⟩
set_option maxRecDepth 100000 in
set_option maxHeartbeats 3000000 in
theorem climb_right (f : Nat) (ih : ClimbOk f) (n i : Nat) (x : List Nat) (pre : List (List Nat)) (last : List Nat) (g off c : Nat) (w : World) (hf : n < f + 1) (h2 : 2 ≤ n) (hin : i < n) (hn : n ≤ 1073741824) (hx : x.length = 32) (hxb : Sha.Bytes x) (hok : SumsOk (pre ++ [last])) (hpl : pre.length ≤ 999999)
    (hs : SumsAt w g off (pre ++ [last])) (hg : g < w.heap.size) (hc1 : pre.length + 1 ≤ c) (hcm : c ≤ maxLen) (hih : halfOf n ≤ i)
    (A out : List Nat) (b : Bool) (hA : Hid (A = (climb f (n - halfOf n) (i - halfOf n) x pre).1)) (hb : Hid (b = (climb f (n - halfOf n) (i - halfOf n) x pre).2)) (hAl : A.length = 32) (hAb : Sha.Bytes A) (hout : Hid (out = Sha.sha (2 :: (last ++ A)))) :
    Calls Tryd.prog 77 #[.int .i64 (n : Int), .int .i64 (i : Int), .agg (arr32 x), .slice (some ⟨g, off, none⟩) (pre.length + 1) c] w fun e w' => e = .returned (.tuple #[.agg (arr32 out), .bool b]) ∧ Below w.heap.size w w' := by
  obtain ⟨_, b2, _⟩ := halfOf_bounds h2 (by omega)
  have b0 := halfOf_pos n
  obtain ⟨h, hh⟩ : ∃ h, h = halfOf n := ⟨_, rfl⟩
  rw [← hh] at b2 b0 hih hA hb
  have hol : out.length = 32 := by rw [hout.out]; exact (sha_bytes _).1
  have hll : last.length = 32 ∧ Sha.Bytes last := hok last (by simp)
  obtain ⟨k, hk⟩ : ∃ k, k = pre.length := ⟨_, rfl⟩
  have hlast : (pre ++ [last])[k]? = some last := by rw [hk]; simp
  have hpre : SumsAt w g off pre := by
    have := hs.take pre.length
    rwa [List.take_left] at this
  have hrec : ∀ V, Below w.heap.size w V → Calls Tryd.prog 77 #[.int .i64 ((n : Int) - (h : Int)), .int .i64 ((i : Int) - (h : Int)), .agg (arr32 x), .slice (some ⟨g, off, none⟩) k c] V fun e w' => e = .returned (.tuple #[.agg (arr32 A), .bool b]) ∧ Below V.heap.size V w' := fun V hv => by
    have kk := ih (n - h) (i - h) x pre (some ⟨g, off, none⟩) c V (by omega) (by omega) (by omega) (by omega) hx hxb (fun l hl => hok l (by simp [hl])) (by omega) (.inr ⟨g, off, rfl, Nat.lt_of_lt_of_le hg hv.size, hpre.below hg hv, by omega, hcm⟩) A b hA hb
    rw [show ((n - h : Nat) : Int) = (n : Int) - (h : Int) by omega, show ((i - h : Nat) : Int) = (i : Int) - (h : Int) by omega] at kk
    rwa [← hk] at kk
  have hbel : ∀ V, Calls Tryd.prog 71 #[.int .i64 (n : Int)] V fun e w' => e = .returned (.int .i64 (h : Int)) ∧ V = w' := fun V => by
    have kk := refBelow_any n h2 (by omega) V
    rw [← hh] at kk
    exact kk.mono fun _ _ ⟨k1, k2⟩ => ⟨k1, k2.symm⟩
  have HF := Lib.hid hrec
  have HK := Lib.hid hbel
  have HIn : Hid (∀ V : World, Calls Tryd.prog 73 #[.agg (arr32 last), .agg (arr32 A)] V fun e w' => e = .returned (.agg (arr32 out)) ∧ Below V.heap.size V w') := Lib.hid fun V => (refInner_any last A hll.1 hAl hll.2 hAb V out hout).mono fun e w' ⟨h1, _, h2⟩ => ⟨h1, h2⟩
  have HLast : Hid (∀ V, Below w.heap.size w V → ∀ j u, (arr32 last)[j]? = some u → V.cell? ((⟨g, off + k * 32, none⟩ : Addr).add j) = some u) := Lib.hid fun V hv => (hs.below hg hv).row hlast
  have HIx := Lib.hid (arr32_info x (by omega))
  have HIl := Lib.hid (arr32_info last (by omega))
  have HSl := Lib.hid (zero32_size last (by omega))
  have HIA := Lib.hid (arr32_info A (by omega))
  have HSA := Lib.hid (zero32_size A (by omega))
  have HIo := Lib.hid (arr32_info out (by omega))
  have HSo := Lib.hid (zero32_size out (by omega))
  have n1 : ¬ (n : Int) = 1 := by omega
  rw [← hk] at hc1 hpl ⊢
  have k0 : ¬ (k : Int) + 1 = 0 := by omega
  have k1 : k < c := by omega
  have k2 : ¬ c = k := by omega
  have k3 : k ≤ c := by omega
  unfold maxLen at hcm
  have i3 : ¬ (i : Int) < (h : Int) := by omega
  clear hrec hbel hs hlast hpre hk hA hb hout hok hll hh ih hih
  go_enter Tryd.func77, Tryd.ntmps77
  go_upto_region 1 with (fail)
  refine gen_world (P := fun W => Code.wp _ _ _ _ W) (I := fun W => Below w.heap.size w W ∧ Has W w.heap.size 26 (arr32 x) ∧ Has W (w.heap.size + 1) 26 zero32) _ ⟨((Below.refl _ w).alloc (Nat.le_refl _) _).alloc (by simp) _, (Has.fresh_at _ _ _ _ rfl).alloc _, Has.fresh_at _ _ _ _ (by simp)⟩ ?_
  rintro W ⟨hB, hX, hR⟩
  have HB := Lib.hid hB
  have HX := Lib.hid hX
  have HR := Lib.hid hR
  have HF1 := Lib.hid (fresh_sum W)
  clear hB hX hR
  go_upto_region 7 with (first
    | (go_at_call 71; (with_reducible refine (HK.out _).mono ?_); rintro e w1 ⟨rfl, rfl⟩)
    | ((with_reducible refine arm_load ⟨g, off + k * 32, none⟩ (arr32 last) _ (HLast.out _ HB.out) Tryd.underlying26 HIl.out ?h1 ?h2 ?_); (case h1 => rfl); (case h2 => rfl))
    | ((with_reducible refine arm_store W.heap.size (arr32 last) 26 zero32 HF1.out HSl.out HIl.out (arr32_one _) ?h5 ?h6 ?_); (case h5 => rfl); (case h6 => rfl)))
  refine gen_world (P := fun W => Code.wp _ _ _ _ W) (I := fun V => Below w.heap.size w V ∧ Has V w.heap.size 26 (arr32 x) ∧ Has V (w.heap.size + 1) 26 zero32 ∧ Has V W.heap.size 26 (arr32 last)) _ ⟨below_setRow (HB.out.alloc HB.out.size _) HB.out.size _, (HX.out.alloc _).setRow_apart (Nat.ne_of_lt HX.out.lt), (HR.out.alloc _).setRow_apart (Nat.ne_of_lt HR.out.lt), HF1.out.setRow⟩ ?_
  rintro U ⟨hB, hX, hR, hL⟩
  generalize W.heap.size = p11 at hL ⊢
  have HBU := Lib.hid hB
  have HXU := Lib.hid hX
  have HRU := Lib.hid hR
  have HLU := Lib.hid hL
  clear hB hX hR hL HB HX HR HF1
  go_upto_region 10 with (fail)
  change Code.wp _ (Code.region 10 (climbOps 10) true) _ _ _
  refine wp_region_held (S := fun V => Below U.heap.size U V) (by kernel_rfl) ?_
  have hsz : (climbOps 10).size = 19 := by kernel_rfl
  rw [hsz]
  clear hsz
  refine gen_world (P := fun W' => wpAnyH _ _ _ _ _ _ _ _ W') (I := fun V => Below U.heap.size U V) _ (Below.refl _ U).drew ?_
  rintro V hBV
  have HS0 := Lib.hid hBV
  clear hBV
  have hwk : IntKind.i64.wrap (k : Int) = (k : Int) := IntWalk.i64_in _ (by omega)
  have hwn : IntKind.i64.wrap ((n : Int) - (h : Int)) = (n : Int) - (h : Int) := IntWalk.i64_in _ (by omega)
  have hwi : IntKind.i64.wrap ((i : Int) - (h : Int)) = (i : Int) - (h : Int) := IntWalk.i64_in _ (by omega)
  refine wpAnyH_take (i := 0) (oi := ⟨some 55, _, _, _, _, _⟩) (v := ?_) rfl (by kernel_rfl) (by kernel_rfl) (by kernel_rfl) (fun _ _ _ h => h) (Or.inl ⟨by rfl, fun w' hw' => by go_simp; with_reducible rfl⟩) HS0.out ?_
  try simp only [Act.put, List.setIfInBounds_toArray, List.set_cons_succ, List.set_cons_zero]
  refine wpAnyH_take (i := 1) (oi := ⟨some 56, _, _, _, _, _⟩) (v := ?_) rfl (by kernel_rfl) (by kernel_rfl) (by kernel_rfl) (fun _ _ _ h => h) (Or.inl ⟨by rfl, fun w' hw' => by go_simp; with_reducible rfl⟩) HS0.out ?_
  try simp only [Act.put, List.setIfInBounds_toArray, List.set_cons_succ, List.set_cons_zero]
  refine wpAnyH_take (i := 2) (oi := ⟨some 57, _, _, _, _, _⟩) (v := ?_) rfl (by kernel_rfl) (by kernel_rfl) (by kernel_rfl) (fun _ _ _ h => h) (Or.inl ⟨by rfl, fun w' hw' => by go_simp; with_reducible rfl⟩) HS0.out ?_
  try simp only [Act.put, List.setIfInBounds_toArray, List.set_cons_succ, List.set_cons_zero]
  refine wpAnyH_take (i := 3) (oi := ⟨some 58, _, _, _, _, _⟩) (v := ?_) rfl (by kernel_rfl) (by kernel_rfl) (by kernel_rfl) (fun _ _ _ h => h) (Or.inl ⟨by rfl, fun w' hw' => by go_simp; with_reducible rfl⟩) HS0.out ?_
  try simp only [Act.put, List.setIfInBounds_toArray, List.set_cons_succ, List.set_cons_zero]
  refine wpAnyH_take (i := 4) (oi := ⟨some 59, _, _, _, _, _⟩) (v := ?_) rfl (by kernel_rfl) (by kernel_rfl) (by kernel_rfl) (fun _ _ _ h => h) (Or.inl ⟨by rfl, fun w' hw' => by go_simp; with_reducible rfl⟩) HS0.out ?_
  try simp only [Act.put, List.setIfInBounds_toArray, List.set_cons_succ, List.set_cons_zero]
  refine wpAnyH_take (i := 5) (oi := ⟨some 60, _, _, _, _, _⟩) (v := ?_) rfl (by kernel_rfl) (by kernel_rfl) (by kernel_rfl) (fun _ _ _ h => h) (Or.inl ⟨by rfl, fun w' hw' => by go_simp; with_reducible rfl⟩) HS0.out ?_
  try simp only [Act.put, List.setIfInBounds_toArray, List.set_cons_succ, List.set_cons_zero]
  refine wpAnyH_take (i := 6) (oi := ⟨some 61, _, _, _, _, none⟩) (v := .agg (arr32 x)) rfl (by kernel_rfl) (by kernel_rfl) (by kernel_rfl) (fun _ _ _ h => h) (yieldsIf_load ⟨w.heap.size, 0, none⟩ _ _ (fun w hw => (HXU.out.below hw HXU.out.lt).row) Tryd.underlying26 HIx.out rfl rfl) HS0.out ?_
  try simp only [Act.put, List.setIfInBounds_toArray, List.set_cons_succ, List.set_cons_zero]
  refine wpAnyH_take (i := 7) (oi := ⟨some 62, _, _, _, _, _⟩) (v := ?_) rfl (by kernel_rfl) (by kernel_rfl) (by kernel_rfl) (fun _ _ _ h => h) (Or.inl ⟨by rfl, fun w' hw' => by go_simp; with_reducible rfl⟩) HS0.out ?_
  try simp only [Act.put, List.setIfInBounds_toArray, List.set_cons_succ, List.set_cons_zero]
  refine wpAnyH_take (i := 8) (oi := ⟨some 63, _, _, _, _, _⟩) (v := ?_) rfl (by kernel_rfl) (by kernel_rfl) (by kernel_rfl) (fun _ _ _ h => h) (Or.inl ⟨by rfl, fun w' hw' => by go_simp; with_reducible rfl⟩) HS0.out ?_
  try simp only [Act.put, List.setIfInBounds_toArray, List.set_cons_succ, List.set_cons_zero]
  refine wpAnyH_take (i := 9) (oi := ⟨some 64, _, _, _, _, _⟩) (v := ?_) rfl (by kernel_rfl) (by kernel_rfl) (by kernel_rfl) (fun _ _ _ h => h) (Or.inl ⟨by rfl, fun w' hw' => by go_simp; with_reducible rfl⟩) HS0.out ?_
  try simp only [Act.put, List.setIfInBounds_toArray, List.set_cons_succ, List.set_cons_zero]
  refine wpAnyH_take (i := 10) (oi := ⟨some 65, _, _, _, _, _⟩) (v := ?_) rfl (by kernel_rfl) (by kernel_rfl) (by kernel_rfl) (fun _ _ _ h => h) (Or.inl ⟨by rfl, fun w' hw' => by go_simp; with_reducible rfl⟩) HS0.out ?_
  try simp only [Act.put, List.setIfInBounds_toArray, List.set_cons_succ, List.set_cons_zero]
  refine wpAnyH_take (i := 11) (oi := ⟨some 66, _, _, _, _, _⟩) (v := ?_) rfl (by kernel_rfl) (by kernel_rfl) (by kernel_rfl) (fun _ _ _ h => h) (Or.inl ⟨by rfl, fun w' hw' => by go_simp; with_reducible rfl⟩) HS0.out ?_
  try simp only [Act.put, List.setIfInBounds_toArray, List.set_cons_succ, List.set_cons_zero]
  clear hwk hwn hwi
  refine wpAnyH_all (rs := [12, 16]) (by kernel_rfl) (by simp) ?_
  intro j hj
  have hj2 : j = 12 ∨ j = 16 := by simpa using hj
  clear hj
  rcases hj2 with rfl | rfl
  · refine wpOp_step (o := ⟨some 67, _, _, _, _, _⟩) rfl (fun K' hK' => ?_)
    rw [if_pos (show Region.wanted _ _ = true from rfl)]
    go_simp
    (with_reducible refine (HF.out _ (HBU.out.trans (HS0.out.mono HBU.out.size))).mono ?_)
    rintro e v1 ⟨rfl, hbx⟩
    have HS1 := Lib.hid (HS0.out.trans (hbx.mono HS0.out.size))
    clear hbx
    refine hK' _ _ ⟨HS1.out, ?_⟩
    clear hK' K'
    try simp only [Act.put, List.setIfInBounds_toArray, List.set_cons_succ, List.set_cons_zero]
    refine wpAnyH_take (i := 13) (oi := ⟨some 54, _, _, _, _, _⟩) (v := ?_) rfl (by kernel_rfl) (by kernel_rfl) (by kernel_rfl) (fun _ _ _ h => h) (Or.inl ⟨by rfl, fun w' hw' => by go_simp; with_reducible rfl⟩) HS1.out ?_
    try simp only [Act.put, List.setIfInBounds_toArray, List.set_cons_succ, List.set_cons_zero]
    refine wpAnyH_take (i := 14) (oi := ⟨some 68, _, _, _, _, _⟩) (v := ?_) rfl (by kernel_rfl) (by kernel_rfl) (by kernel_rfl) (fun _ _ _ h => h) (Or.inl ⟨by rfl, fun w' hw' => by go_simp; with_reducible rfl⟩) HS1.out ?_
    try simp only [Act.put, List.setIfInBounds_toArray, List.set_cons_succ, List.set_cons_zero]
    refine wpAnyH_take (i := 15) (oi := ⟨some 69, _, _, _, _, _⟩) (v := ?_) rfl (by kernel_rfl) (by kernel_rfl) (by kernel_rfl) (fun _ _ _ h => h) (Or.inl ⟨by rfl, fun w' hw' => by go_simp; with_reducible rfl⟩) HS1.out ?_
    try simp only [Act.put, List.setIfInBounds_toArray, List.set_cons_succ, List.set_cons_zero]
    have HF3 := Lib.hid (fresh_sum v1)
    refine wpAnyH_all (rs := [16]) (by kernel_rfl) (by simp) ?_
    intro i hi
    obtain rfl : i = 16 := by simpa using hi
    clear hi
    refine wpOp_step (o := ⟨some 14, _, _, _, _, _⟩) rfl (fun K' hK' => ?_)
    rw [if_pos (show Region.wanted _ _ = true from rfl)]
    go_simp
    refine hK' _ _ ⟨HS1.out.alloc HS1.out.size _, ?_⟩
    clear hK' K'
    try simp only [Act.put, List.setIfInBounds_toArray, List.set_cons_succ, List.set_cons_zero]
    refine wpAnyH_all (rs := [17]) (by kernel_rfl) (by simp) ?_
    intro i hi
    obtain rfl : i = 17 := by simpa using hi
    clear hi
    refine wpOp_step (o := ⟨none, _, _, _, _, _⟩) rfl (fun K' hK' => ?_)
    rw [if_pos (show Region.wanted _ _ = true from rfl)]
    refine opw_store v1.heap.size (arr32 A) 26 zero32 HF3.out HSA.out HIA.out (arr32_one _) rfl rfl ?_
    refine hK' _ _ ⟨below_setRow (HS1.out.alloc HS1.out.size _) HS1.out.size _, ?_⟩
    clear hK' K'
    try simp only [Act.put, List.setIfInBounds_toArray, List.set_cons_succ, List.set_cons_zero]
    have HS2 := Lib.hid (below_setRow (HS1.out.alloc HS1.out.size (.cells zero32 26)) HS1.out.size (arr32 A))
    have HA2 := Lib.hid (HF3.out.setRow (cs' := arr32 A))
    refine wpAnyH_take (i := 18) (oi := ⟨some 15, _, _, _, _, _⟩) (v := ?_) rfl (by kernel_rfl) (by kernel_rfl) (by kernel_rfl) (fun _ _ _ h => h) (Or.inl ⟨by rfl, fun w' hw' => by go_simp; with_reducible rfl⟩) HS2.out ?_
    try simp only [Act.put, List.setIfInBounds_toArray, List.set_cons_succ, List.set_cons_zero]
    refine wpAnyH_done (by kernel_rfl) ?_ _
    refine gen_world (P := fun W => _) (I := fun Z => Below U.heap.size U Z ∧ Has Z v1.heap.size 26 (arr32 A)) _ ⟨HS2.out, HA2.out⟩ ?_
    rintro V2 ⟨hB, hA2⟩
    generalize v1.heap.size = p12 at hA2 ⊢
    have HB3 := Lib.hid (HBU.out.trans (hB.mono HBU.out.size))
    have HL3 := Lib.hid (HLU.out.below hB HLU.out.lt)
    have HR3 := Lib.hid (HRU.out.below hB HRU.out.lt)
    have HA3 := Lib.hid hA2
    clear hB hA2 HS2 HA2 HF3 HS1 HS0
    go_wp2_with (first
      | ((with_reducible refine arm_load ⟨p12, 0, none⟩ (arr32 A) _ HA3.out.row Tryd.underlying26 HIA.out ?h1 ?h2 ?_); (case h1 => rfl); (case h2 => rfl))
      | ((with_reducible refine arm_load ⟨p11, 0, none⟩ (arr32 last) _ HL3.out.row Tryd.underlying26 HIl.out ?h1 ?h2 ?_); (case h1 => rfl); (case h2 => rfl))
      | (go_at_call 73; (with_reducible refine (HIn.out _).mono ?_); rintro e w4 ⟨rfl, hb4⟩; have HB4 := Lib.hid (HB3.out.trans (hb4.mono HB3.out.size)); have HR4 := Lib.hid (HR3.out.below hb4 HR3.out.lt); clear hb4)
      | ((with_reducible refine arm_store (w.heap.size + 1) (arr32 out) 26 zero32 HR4.out HSo.out HIo.out (arr32_one _) ?h5 ?h6 ?_); (case h5 => rfl); (case h6 => rfl)))
    exact bodyPost_ret (results_row_tmp rfl _ _ (w.heap.size + 1) 26 (arr32 out) (0, 0) _ rfl HR4.out.setRow rfl Tryd.underlying26 HIo.out) rfl ⟨rfl, below_setRow HB4.out (by omega) _⟩
  · have HF3 := Lib.hid (fresh_sum V)
    refine wpOp_step (o := ⟨some 14, _, _, _, _, _⟩) rfl (fun K' hK' => ?_)
    rw [if_pos (show Region.wanted _ _ = true from rfl)]
    go_simp
    refine hK' _ _ ⟨HS0.out.alloc HS0.out.size _, ?_⟩
    clear hK' K'
    try simp only [Act.put, List.setIfInBounds_toArray, List.set_cons_succ, List.set_cons_zero]
    have HS1 := Lib.hid (HS0.out.alloc HS0.out.size (.cells zero32 26))
    refine wpAnyH_all (rs := [12]) (by kernel_rfl) (by simp) ?_
    intro i hi
    obtain rfl : i = 12 := by simpa using hi
    clear hi
    refine wpOp_step (o := ⟨some 67, _, _, _, _, _⟩) rfl (fun K' hK' => ?_)
    rw [if_pos (show Region.wanted _ _ = true from rfl)]
    go_simp
    (with_reducible refine (HF.out _ (HBU.out.trans (HS1.out.mono HBU.out.size))).mono ?_)
    rintro e v1 ⟨rfl, hbx⟩
    have HS3 := Lib.hid (HS1.out.trans (hbx.mono HS1.out.size))
    have HF4 := Lib.hid (HF3.out.below hbx HF3.out.lt)
    clear hbx
    refine hK' _ _ ⟨HS3.out, ?_⟩
    clear hK' K'
    try simp only [Act.put, List.setIfInBounds_toArray, List.set_cons_succ, List.set_cons_zero]
    refine wpAnyH_take (i := 13) (oi := ⟨some 54, _, _, _, _, _⟩) (v := ?_) rfl (by kernel_rfl) (by kernel_rfl) (by kernel_rfl) (fun _ _ _ h => h) (Or.inl ⟨by rfl, fun w' hw' => by go_simp; with_reducible rfl⟩) HS3.out ?_
    try simp only [Act.put, List.setIfInBounds_toArray, List.set_cons_succ, List.set_cons_zero]
    refine wpAnyH_take (i := 14) (oi := ⟨some 68, _, _, _, _, _⟩) (v := ?_) rfl (by kernel_rfl) (by kernel_rfl) (by kernel_rfl) (fun _ _ _ h => h) (Or.inl ⟨by rfl, fun w' hw' => by go_simp; with_reducible rfl⟩) HS3.out ?_
    try simp only [Act.put, List.setIfInBounds_toArray, List.set_cons_succ, List.set_cons_zero]
    refine wpAnyH_take (i := 15) (oi := ⟨some 69, _, _, _, _, _⟩) (v := ?_) rfl (by kernel_rfl) (by kernel_rfl) (by kernel_rfl) (fun _ _ _ h => h) (Or.inl ⟨by rfl, fun w' hw' => by go_simp; with_reducible rfl⟩) HS3.out ?_
    try simp only [Act.put, List.setIfInBounds_toArray, List.set_cons_succ, List.set_cons_zero]
    refine wpAnyH_all (rs := [17]) (by kernel_rfl) (by simp) ?_
    intro i hi
    obtain rfl : i = 17 := by simpa using hi
    clear hi
    refine wpOp_step (o := ⟨none, _, _, _, _, _⟩) rfl (fun K' hK' => ?_)
    rw [if_pos (show Region.wanted _ _ = true from rfl)]
    refine opw_store V.heap.size (arr32 A) 26 zero32 HF4.out HSA.out HIA.out (arr32_one _) rfl rfl ?_
    refine hK' _ _ ⟨below_setRow HS3.out HS0.out.size _, ?_⟩
    clear hK' K'
    try simp only [Act.put, List.setIfInBounds_toArray, List.set_cons_succ, List.set_cons_zero]
    have HS2 := Lib.hid (below_setRow HS3.out HS0.out.size (arr32 A))
    have HA2 := Lib.hid (HF4.out.setRow (cs' := arr32 A))
    refine wpAnyH_take (i := 18) (oi := ⟨some 15, _, _, _, _, _⟩) (v := ?_) rfl (by kernel_rfl) (by kernel_rfl) (by kernel_rfl) (fun _ _ _ h => h) (Or.inl ⟨by rfl, fun w' hw' => by go_simp; with_reducible rfl⟩) HS2.out ?_
    try simp only [Act.put, List.setIfInBounds_toArray, List.set_cons_succ, List.set_cons_zero]
    refine wpAnyH_done (by kernel_rfl) ?_ _
    refine gen_world (P := fun W => _) (I := fun Z => Below U.heap.size U Z ∧ Has Z V.heap.size 26 (arr32 A)) _ ⟨HS2.out, HA2.out⟩ ?_
    rintro V2 ⟨hB, hA2⟩
    generalize V.heap.size = p12 at hA2 ⊢
    have HB3 := Lib.hid (HBU.out.trans (hB.mono HBU.out.size))
    have HL3 := Lib.hid (HLU.out.below hB HLU.out.lt)
    have HR3 := Lib.hid (HRU.out.below hB HRU.out.lt)
    have HA3 := Lib.hid hA2
    clear hB hA2 HS2 HA2 HF3 HS1 HS0
    go_wp2_with (first
      | ((with_reducible refine arm_load ⟨p12, 0, none⟩ (arr32 A) _ HA3.out.row Tryd.underlying26 HIA.out ?h1 ?h2 ?_); (case h1 => rfl); (case h2 => rfl))
      | ((with_reducible refine arm_load ⟨p11, 0, none⟩ (arr32 last) _ HL3.out.row Tryd.underlying26 HIl.out ?h1 ?h2 ?_); (case h1 => rfl); (case h2 => rfl))
      | (go_at_call 73; (with_reducible refine (HIn.out _).mono ?_); rintro e w4 ⟨rfl, hb4⟩; have HB4 := Lib.hid (HB3.out.trans (hb4.mono HB3.out.size)); have HR4 := Lib.hid (HR3.out.below hb4 HR3.out.lt); clear hb4)
      | ((with_reducible refine arm_store (w.heap.size + 1) (arr32 out) 26 zero32 HR4.out HSo.out HIo.out (arr32_one _) ?h5 ?h6 ?_); (case h5 => rfl); (case h6 => rfl)))
    exact bodyPost_ret (results_row_tmp rfl _ _ (w.heap.size + 1) 26 (arr32 out) (0, 0) _ rfl HR4.out.setRow rfl Tryd.underlying26 HIo.out) rfl ⟨rfl, below_setRow HB4.out (by omega) _⟩
theorem climb_any : ∀ f : Nat, ClimbOk f
  | 0 => fun _ _ _ _ _ _ _ h _ _ _ _ _ _ _ _ _ _ _ _ => absurd h (Nat.not_lt_zero _)
  | f + 1 => fun n i x way a c w hf h1 hin hn hx hxb hok hwl hr A b hA hb => by
    have hA0 := hA.out
    have hb0 := hb.out
    rw [climb] at hA0 hb0
    by_cases h2 : 2 ≤ n
    · rw [if_neg (by omega)] at hA0 hb0
      rcases List.eq_nil_or_concat way with rfl | ⟨pre, last, rfl⟩
      · simp only [List.getLast?_nil] at hA0 hb0
        subst hA0 hb0
        exact climb_none n i x a c w h2 hn
      · simp only [List.concat_eq_append] at *
        simp only [List.getLast?_concat, List.dropLast_concat] at hA0 hb0
        rw [List.length_append, List.length_cons, List.length_nil] at hwl ⊢
        rcases hr with ⟨_, he, _⟩ | ⟨g, off, rfl, hg, hs, hc1, hcm⟩
        · simp at he
        · rw [List.length_append, List.length_cons, List.length_nil] at hc1
          obtain ⟨_, b2, _⟩ := halfOf_bounds h2 (by omega)
          have b0 := halfOf_pos n
          by_cases hih : i < halfOf n
          · rw [if_pos hih] at hA0 hb0
            have hl := climb_len (f - 1) (halfOf n) i x pre
            rw [Nat.sub_add_cancel (by omega)] at hl
            exact climb_left f (climb_any f) n i x pre last g off c w hf h2 hin hn hx hxb hok (by omega) hs hg hc1 hcm hih _ A b (Lib.hid rfl) (Lib.hid hb0) hl.1 hl.2 (Lib.hid hA0)
          · rw [if_neg hih] at hA0 hb0
            have hl := climb_len (f - 1) (n - halfOf n) (i - halfOf n) x pre
            rw [Nat.sub_add_cancel (by omega)] at hl
            exact climb_right f (climb_any f) n i x pre last g off c w hf h2 hin hn hx hxb hok (by omega) hs hg hc1 hcm (by omega) _ A b (Lib.hid rfl) (Lib.hid hb0) hl.1 hl.2 (Lib.hid hA0)
    · obtain rfl : n = 1 := by omega
      rw [if_pos (Nat.le_refl _)] at hA0 hb0
      subst hb0
      exact climb_one i x way.length a c w hx hxb hwl A (Lib.hid hA0)
end Go.Proofs.YtffdkniahdekjaaDoor
end
section
namespace Go.Proofs.YtffdkniahdekjaaDoor
open Go.RowKit Go.Hoar
theorem refVerify_range (root x : Array Value) (n i : Int) (a : Option Addr) (m c : Nat) (w : World) (h : n < 1 ∨ 1073741824 < n) :
    Calls Tryd.prog 43 #[.agg root, .int .i64 n, .int .i64 i, .agg x, .slice a m c] w fun e w' => e = .returned (.tuple #[.bool false, .int .i64 3]) ∧ Below w.heap.size w w' := by
  by_cases h0 : n < 1
  · go_enter Tryd.func43, Tryd.ntmps43
    go_wp2
    go_ret2
    exact ⟨rfl, ((Below.refl _ w).alloc (Nat.le_refl _) _).alloc (by simp) _⟩
  · have h1 : 1073741824 < n := by omega
    go_enter Tryd.func43, Tryd.ntmps43
    go_wp2
    go_ret2
    exact ⟨rfl, ((Below.refl _ w).alloc (Nat.le_refl _) _).alloc (by simp) _⟩
theorem refVerify_not (root x : Array Value) (n i : Int) (a : Option Addr) (m c : Nat) (w : World) (h1 : 1 ≤ n) (h2 : n ≤ 1073741824) (h : i < 0 ∨ n ≤ i) :
    Calls Tryd.prog 43 #[.agg root, .int .i64 n, .int .i64 i, .agg x, .slice a m c] w fun e w' => e = .returned (.tuple #[.bool false, .int .i64 1]) ∧ Below w.heap.size w w' := by
  have g1 : ¬ n < 1 := by omega
  have g2 : ¬ 1073741824 < n := by omega
  by_cases h0 : i < 0
  · go_enter Tryd.func43, Tryd.ntmps43
    go_wp2
    go_ret2
    exact ⟨rfl, ((Below.refl _ w).alloc (Nat.le_refl _) _).alloc (by simp) _⟩
  · have h3 : n ≤ i := by omega
    go_enter Tryd.func43, Tryd.ntmps43
    go_wp2
    go_ret2
    exact ⟨rfl, ((Below.refl _ w).alloc (Nat.le_refl _) _).alloc (by simp) _⟩
set_option maxRecDepth 100000 in
set_option maxHeartbeats 2000000 in
theorem refVerify_main (root x : List Nat) (hrl : root.length = 32) (hx : x.length = 32) (hxb : Sha.Bytes x) (n i : Nat) (hi : i < n) (hn : n ≤ 1073741824) (way : List (List Nat)) (hok : SumsOk way) (hwl : way.length ≤ 1000000) (a : Option Addr) (c : Nat) (w : World) (hr : RowOk w a c way) (A : List Nat) (b : Bool) (hA : Hid (A = (climb (n + 1) n i x way).1)) (hb : Hid (b = (climb (n + 1) n i x way).2)) :
    Calls Tryd.prog 43 #[.agg (arr32 root), .int .i64 (n : Int), .int .i64 (i : Int), .agg (arr32 x), .slice a way.length c] w fun e w' => e = .returned (.tuple #[.bool (b && decide (A = root)), .int .i64 (if b then 0 else 2)]) ∧ Below w.heap.size w w' := by
  have hAl : A.length = 32 := by rw [hA.out]; exact (climb_len _ _ _ _ _).1
  have HCl : Hid (∀ V, Below w.heap.size w V → Calls Tryd.prog 77 #[.int .i64 (n : Int), .int .i64 (i : Int), .agg (arr32 x), .slice a way.length c] V fun e w' => e = .returned (.tuple #[.agg (arr32 A), .bool b]) ∧ Below V.heap.size V w') := Lib.hid fun V hV =>
    climb_any (n + 1) n i x way a c V (Nat.lt_succ_self _) (by omega) hi hn hx hxb hok hwl (hr.below hV) A b hA hb
  have HIx := Lib.hid (arr32_info x (by omega))
  have HIr := Lib.hid (arr32_info root (by omega))
  have HIA := Lib.hid (arr32_info A (by omega))
  have HSA := Lib.hid (zero32_size A (by omega))
  have heq0 : ∀ V : World, (binOp .eql 26 (.agg (arr32 A)) (.agg (arr32 root))).run Tryd.prog V = .ok (.bool (decide (A = root))) V := fun V => sum_eql A root hAl hrl V
  have hguard := sum_guard
  obtain ⟨d, hd⟩ : ∃ d, d = decide (A = root) := ⟨_, rfl⟩
  rw [← hd] at heq0 ⊢
  have g1 : ¬ (n : Int) < 1 := by omega
  have g2 : ¬ (1073741824 : Int) < n := by omega
  have g3 : ¬ (i : Int) < 0 := by omega
  have g4 : ¬ (n : Int) ≤ i := by omega
  have hm : way.length ≤ 1000000 := hwl
  clear hd hr hok
  generalize way.length = m at *
  clear hA hb
  go_enter Tryd.func43, Tryd.ntmps43
  go_upto_region 1 with (fail)
  refine gen_world (P := fun W => Code.wp _ _ _ _ W) (I := fun W => Below w.heap.size w W ∧ Has W w.heap.size 26 (arr32 root) ∧ Has W (w.heap.size + 1) 26 (arr32 x)) _ ⟨((Below.refl _ w).alloc (Nat.le_refl _) _).alloc (by simp) _, (Has.fresh_at _ _ _ _ rfl).alloc _, Has.fresh_at _ _ _ _ (by simp)⟩ ?_
  rintro W ⟨hB, hR, hX⟩
  have HB := Lib.hid hB
  have HR := Lib.hid hR
  have HX := Lib.hid hX
  clear hB hR hX
  go_upto_region 6 with (first
    | ((with_reducible refine arm_load ⟨w.heap.size + 1, 0, none⟩ (arr32 x) _ HX.out.row Tryd.underlying26 HIx.out ?h1 ?h2 ?_); (case h1 => rfl); (case h2 => rfl))
    | (go_at_call 77; (with_reducible refine (HCl.out _ HB.out).mono ?_); rintro e w1 ⟨rfl, hb1⟩; have HB1 := Lib.hid (HB.out.trans (hb1.mono HB.out.size)); have HR1 := Lib.hid (HR.out.below hb1 HR.out.lt); have HF1 := Lib.hid (fresh_sum w1); clear hb1)
    | ((with_reducible refine arm_store w1.heap.size (arr32 A) 26 zero32 HF1.out HSA.out HIA.out (arr32_one _) ?h5 ?h6 ?_); (case h5 => rfl); (case h6 => rfl)))
  refine gen_world (P := fun W => Code.wp _ _ _ _ W) (I := fun Z => Below w.heap.size w Z ∧ Has Z w.heap.size 26 (arr32 root) ∧ Has Z w1.heap.size 26 (arr32 A)) _ ⟨below_setRow (HB1.out.alloc HB1.out.size _) HB1.out.size _, (HR1.out.alloc _).setRow_apart (Nat.ne_of_lt HR1.out.lt), HF1.out.setRow⟩ ?_
  rintro U ⟨hB, hR, hAA⟩
  generalize w1.heap.size = p12 at hAA ⊢
  have HB2 := Lib.hid hB
  have HR2 := Lib.hid hR
  have HA2 := Lib.hid hAA
  clear hB hR hAA
  cases b with
  | false =>
    go_wp2
    go_ret2
    exact ⟨rfl, HB2.out⟩
  | true =>
    go_wp2_with (first
      | ((with_reducible refine arm_load ⟨p12, 0, none⟩ (arr32 A) _ HA2.out.row Tryd.underlying26 HIA.out ?h1 ?h2 ?_); (case h1 => rfl); (case h2 => rfl))
      | ((with_reducible refine arm_load ⟨w.heap.size, 0, none⟩ (arr32 root) _ HR2.out.row Tryd.underlying26 HIr.out ?h1 ?h2 ?_); (case h1 => rfl); (case h2 => rfl)))
    go_ret2
    exact ⟨rfl, HB2.out⟩
end Go.Proofs.YtffdkniahdekjaaDoor
end
section
namespace Go.Proofs.YtffdkniahdekjaaDoor
open Go.RowKit Go.Hoar
noncomputable def verOps (k : Nat) : Array Oper := (Tryd.f42.body.bind (opsAt k)).getD #[]
theorem ConstAt.low {w W V : World} {B : Nat} (h : ConstAt w) (hB : w.heap.size ≤ B) (h1 : ConstAt W) (hb : Below B W V) : ConstAt V := fun i hi =>
  (hb.cell (p := ⟨0, i, none⟩) (Nat.lt_of_lt_of_le (block_lt_of_cell (h i hi)) hB)).trans (h1 i hi)
theorem upAll_bytes (i : Nat) (x : List Nat) (ps : List (Nat × Nat)) (way : List (List Nat)) : (upAll i x ps way).length = 32 ∧ Sha.Bytes (upAll i x ps way) := by
  unfold upAll
  have key : ∀ (l : List ((Nat × Nat) × List Nat)) (u : List Nat), u.length = 32 ∧ Sha.Bytes u → (l.foldl (upStep i) u).length = 32 ∧ Sha.Bytes (l.foldl (upStep i) u) := by
    intro l
    induction l with
    | nil => exact fun u h => h
    | cons s l ih => exact fun u h => ih _ (by rw [upStep]; split <;> exact sha_bytes _)
  exact key _ _ (sha_bytes _)
theorem verify_range (root x : Array Value) (n i : Int) (a : Option Addr) (m c : Nat) (w : World) (h : n < 1 ∨ 1073741824 < n) :
    Calls Tryd.prog 42 #[.agg root, .int .i64 n, .int .i64 i, .agg x, .slice a m c] w fun e w' => e = .returned (.tuple #[.bool false, .int .i64 3]) ∧ Below w.heap.size w w' := by
  by_cases h0 : n < 1
  · go_enter Tryd.func42, Tryd.ntmps42
    go_wp2
    go_ret2
    exact ⟨rfl, ((Below.refl _ w).alloc (Nat.le_refl _) _).alloc (by simp) _⟩
  · have h1 : 1073741824 < n := by omega
    go_enter Tryd.func42, Tryd.ntmps42
    go_wp2
    go_ret2
    exact ⟨rfl, ((Below.refl _ w).alloc (Nat.le_refl _) _).alloc (by simp) _⟩
theorem verify_not (root x : Array Value) (n i : Int) (a : Option Addr) (m c : Nat) (w : World) (h1 : 1 ≤ n) (h2 : n ≤ 1073741824) (h : i < 0 ∨ n ≤ i) :
    Calls Tryd.prog 42 #[.agg root, .int .i64 n, .int .i64 i, .agg x, .slice a m c] w fun e w' => e = .returned (.tuple #[.bool false, .int .i64 1]) ∧ Below w.heap.size w w' := by
  have g1 : ¬ n < 1 := by omega
  have g2 : ¬ 1073741824 < n := by omega
  by_cases h0 : i < 0
  · go_enter Tryd.func42, Tryd.ntmps42
    go_wp2
    go_ret2
    exact ⟨rfl, ((Below.refl _ w).alloc (Nat.le_refl _) _).alloc (by simp) _⟩
  · have h3 : n ≤ i := by omega
    go_enter Tryd.func42, Tryd.ntmps42
    go_wp2
    go_ret2
    exact ⟨rfl, ((Below.refl _ w).alloc (Nat.le_refl _) _).alloc (by simp) _⟩
set_option maxRecDepth 100000 in
set_option maxHeartbeats 2000000 in
theorem verify_many (root x : List Nat) (n i : Nat) (hi : i < n) (hn : n ≤ 1073741824) (m : Nat) (_hm : m ≤ 1000000) (a : Option Addr) (c : Nat) (w : World) (hne : m ≠ (waysOf n i).length) :
    Calls Tryd.prog 42 #[.agg (arr32 root), .int .i64 (n : Int), .int .i64 (i : Int), .agg (arr32 x), .slice a m c] w fun e w' => e = .returned (.tuple #[.bool false, .int .i64 2]) ∧ Below w.heap.size w w' := by
  have HBe := Lib.hid fun V : World => beside_any n i hi hn V
  obtain ⟨q, hq⟩ : ∃ q, q = (waysOf n i).length := ⟨_, rfl⟩
  have hd : ((m : Int) != (q : Int)) = true := by rw [bne_iff_ne]; omega
  have hd2 : ((m : Int) == (q : Int)) = false := by rw [beq_eq_false_iff_ne]; omega
  rw [← hq] at HBe
  clear hq hne
  have g1 : ¬ (n : Int) < 1 := by omega
  have g2 : ¬ (1073741824 : Int) < n := by omega
  have g3 : ¬ (i : Int) < 0 := by omega
  have g4 : ¬ (n : Int) ≤ i := by omega
  go_enter Tryd.func42, Tryd.ntmps42
  go_wp2_with (go_at_call 70; (with_reducible refine (HBe.out _).mono ?_); rintro e w1 ⟨v1, rfl, ho1, hb1⟩; obtain ⟨a1, c1, rfl, hcc1, hcm1⟩ := own_shape ho1; have HB1 := Lib.hid hb1; clear hb1 ho1)
  go_ret2
  exact ⟨rfl, (((Below.refl _ w).alloc (Nat.le_refl _) _).alloc (by simp) _).trans (HB1.out.mono (by simp; omega))⟩
set_option maxRecDepth 100000 in
set_option maxHeartbeats 4000000 in
theorem verify_any (root x : List Nat) (hrl : root.length = 32) (hx : x.length = 32) (hxb : Sha.Bytes x) (n i : Nat) (hi : i < n) (hn : n ≤ 1073741824) (way : List (List Nat)) (hok : SumsOk way) (hwl : way.length ≤ 1000000) (a : Option Addr) (c : Nat) (w : World) (hr : RowOk w a c way) (hc : ConstAt w) (ps : List (Nat × Nat)) (hps : Hid (ps = waysOf n i)) (hlen : way.length = ps.length) (out : List Nat) (hout : Hid (out = upAll i x ps way)) :
    Calls Tryd.prog 42 #[.agg (arr32 root), .int .i64 (n : Int), .int .i64 (i : Int), .agg (arr32 x), .slice a way.length c] w fun e w' => e = .returned (.tuple #[.bool (decide (out = root)), .int .i64 0]) ∧ Below w.heap.size w w' := by
  have HBe : Hid (∀ V : World, Calls Tryd.prog 70 #[.int .i64 (n : Int), .int .i64 (i : Int)] V fun e w' => ∃ v, e = .returned v ∧ w'.ownsRow (V.heap.size + 2) 108 2 v ps.length (ps.flatMap encSpan) ∧ Below V.heap.size V w') := Lib.hid fun V => by rw [hps.out]; exact beside_any n i hi hn V
  obtain ⟨lf, hlf⟩ : ∃ lf, lf = Sha.sha (1 :: x) := ⟨_, rfl⟩
  have hlfl : lf.length = 32 := by rw [hlf]; exact (sha_bytes _).1
  have HLf : Hid (∀ V : World, ConstAt V → Calls Tryd.prog 67 #[.agg (arr32 x)] V fun e w' => e = .returned (.agg (arr32 lf)) ∧ Below V.heap.size V w') := Lib.hid fun V hV => (leaf_any x hx hxb V hV lf (Lib.hid hlf)).mono fun e w' ⟨h1, _, h2⟩ => ⟨h1, h2⟩
  have hol : out.length = 32 := by rw [hout.out]; exact (upAll_bytes _ _ _ _).1
  have HIx := Lib.hid (arr32_info x (by omega))
  have HIr := Lib.hid (arr32_info root (by omega))
  have HIl := Lib.hid (arr32_info lf (by omega))
  have HSl := Lib.hid (zero32_size lf (by omega))
  have HIo := Lib.hid (arr32_info out (by omega))
  have heq0 : ∀ V : World, (binOp .eql 26 (.agg (arr32 out)) (.agg (arr32 root))).run Tryd.prog V = .ok (.bool (decide (out = root))) V := fun V => sum_eql out root hol hrl V
  have hguard := sum_guard
  obtain ⟨d, hd⟩ : ∃ d, d = decide (out = root) := ⟨_, rfl⟩
  rw [← hd] at heq0 ⊢
  have g1 : ¬ (n : Int) < 1 := by omega
  have g2 : ¬ (1073741824 : Int) < n := by omega
  have g3 : ¬ (i : Int) < 0 := by omega
  have g4 : ¬ (n : Int) ≤ i := by omega
  have HStart : Hid (lf = upAll i x (ps.take 0) (way.take 0)) := Lib.hid (by rw [hlf]; rfl)
  have HRw := Lib.hid hr
  have HC := Lib.hid hc
  have HOk := Lib.hid hok
  have HEq : Hid (∀ V : World, (binOp .eql 26 (.agg (arr32 out)) (.agg (arr32 root))).run Tryd.prog V = .ok (.bool d) V) := Lib.hid heq0
  have hpl : ps.length ≤ 1000000 := by omega
  rw [hlen]
  clear hd hr hc hok hlf heq0
  go_enter Tryd.func42, Tryd.ntmps42
  go_upto_region 1 with (fail)
  refine gen_world (P := fun W => Code.wp _ _ _ _ W) (I := fun W => Below w.heap.size w W ∧ Has W w.heap.size 26 (arr32 root) ∧ Has W (w.heap.size + 1) 26 (arr32 x)) _ ⟨((Below.refl _ w).alloc (Nat.le_refl _) _).alloc (by simp) _, (Has.fresh_at _ _ _ _ rfl).alloc _, Has.fresh_at _ _ _ _ (by simp)⟩ ?_
  rintro W ⟨hB, hR, hX⟩
  have HB := Lib.hid hB
  have HR := Lib.hid hR
  have HX := Lib.hid hX
  clear hB hR hX
  go_upto_region 9 with (first
    | (go_at_call 70; (with_reducible refine (HBe.out _).mono ?_); rintro e w1 ⟨v1, rfl, ho1, hb1⟩; obtain ⟨a1, c1, rfl, hcc1, hcm1⟩ := own_shape ho1; have HO1 := Lib.hid ho1; have HB1 := Lib.hid (HB.out.trans (hb1.mono HB.out.size)); have HR1 := Lib.hid (HR.out.below hb1 HR.out.lt); have HX1 := Lib.hid (HX.out.below hb1 HX.out.lt); clear ho1 hb1)
    | ((with_reducible refine arm_load ⟨w.heap.size + 1, 0, none⟩ (arr32 x) _ HX1.out.row Tryd.underlying26 HIx.out ?h1 ?h2 ?_); (case h1 => rfl); (case h2 => rfl))
    | (go_at_call 67; (with_reducible refine (HLf.out _ (HC.out.below HB1.out rfl)).mono ?_); rintro e w2 ⟨rfl, hb2⟩; have HB2 := Lib.hid (HB1.out.trans (hb2.mono HB1.out.size)); have HR2 := Lib.hid (HR1.out.below hb2 HR1.out.lt); have HO2 := Lib.hid (own_below HO1.out hb2); have HF2 := Lib.hid (fresh_sum w2); clear hb2)
    | ((with_reducible refine arm_store w2.heap.size (arr32 lf) 26 zero32 HF2.out HSl.out HIl.out (arr32_one _) ?h5 ?h6 ?_); (case h5 => rfl); (case h6 => rfl)))
  go_wp2
  go_loopw [43] (fun ix wr => ∃ k : Nat, k ≤ ps.length ∧ ix = .int .i64 k ∧ Below w2.heap.size w2 wr ∧ Has wr w2.heap.size 26 (arr32 (upAll i x (ps.take k) (way.take k)))) (fun ix _ => ps.length - (intOf ix).toNat)
  case atStart => exact ⟨0, Nat.zero_le _, rfl, below_setRow ((Below.refl _ w2).alloc (Nat.le_refl _) _) (Nat.le_refl _) _, by rw [← HStart.out]; exact HF2.out.setRow⟩
  case round =>
    obtain ⟨k, hk, rfl, hB, hX⟩ := hrel
    by_cases hlt : k < ps.length
    · obtain ⟨⟨p, q⟩, hp⟩ : ∃ p, ps[k]? = some p := ⟨_, List.getElem?_eq_getElem hlt⟩
      obtain ⟨y, hy⟩ : ∃ y, way[k]? = some y := ⟨_, List.getElem?_eq_getElem (by omega)⟩
      have hyl := HOk.out y (List.mem_of_getElem? hy)
      obtain ⟨up, hup⟩ : ∃ up, up = upAll i x (ps.take k) (way.take k) := ⟨_, rfl⟩
      have hupl : up.length = 32 ∧ Sha.Bytes up := by rw [hup]; exact upAll_bytes _ _ _ _
      rw [← hup] at hX
      have hstep : upStep i up ((p, q), y) = upAll i x (ps.take (k + 1)) (way.take (k + 1)) := by
        rw [List.take_add_one, List.take_add_one, hp, hy, Option.toList_some, Option.toList_some, upAll_snoc _ _ _ _ _ _ (by rw [List.length_take, List.length_take]; omega), ← hup]
      obtain ⟨g1, rfl, hg1b, hg1⟩ := own_addr HO2.out (by omega)
      have hpk : ps[k]! = (p, q) := by rw [List.getElem!_eq_getElem?_getD, hp]; rfl
      have hsp := flat_get (enc := encSpan) (k := 2) encSpan_len (by decide) ps
      have d0 : wr.cell? ⟨g1, k * 2, none⟩ = some (.int .i64 (p : Int)) := by
        have h := HO2.out.cells (g := g1) rfl (k * 2) (.int .i64 (p : Int)) (by
          rw [hsp (k * 2) (by omega), Nat.mul_div_cancel _ (by decide), Nat.mul_mod_left, hpk]
          rfl)
        rw [Addr.add_lit, Nat.zero_add] at h
        exact (hB.cell hg1).trans h
      have d1 : wr.cell? ⟨g1, k * 2 + 1, none⟩ = some (.int .i64 (q : Int)) := by
        have h := HO2.out.cells (g := g1) rfl (k * 2 + 1) (.int .i64 (q : Int)) (by
          rw [hsp (k * 2 + 1) (by omega), show (k * 2 + 1) / 2 = k by omega, show (k * 2 + 1) % 2 = 1 by omega, hpk]
          rfl)
        rw [Addr.add_lit, Nat.zero_add] at h
        exact (hB.cell hg1).trans h
      have c2 : Tryd.prog.cellsOf 108 = 2 := by kernel_rfl
      have hwr : Below w.heap.size w wr := HB2.out.trans (hB.mono HB2.out.size)
      rcases HRw.out with ⟨_, he, _⟩ | ⟨gw, offw, rfl, hgw, hsw, hcw1, hcw2⟩
      · rw [he] at hy; simp at hy
      · have HY := Lib.hid (((hsw.below hgw hwr).row hy))
        have hgp : gw < w2.heap.size := Nat.lt_of_lt_of_le hgw HB2.out.size
        have HCr := Lib.hid (HC.out.below hwr rfl)
        have HB := Lib.hid hB
        have HX := Lib.hid hX
        have HStep := Lib.hid hstep
        have HIu := Lib.hid (arr32_info up (by omega))
        have HIy := Lib.hid (arr32_info y (by omega))
        have hl2 := hlen
        rw [hlen] at hcw1
        unfold maxLen at hcw2
        have hkc : k < c := by omega
        clear hB hX hstep hsp hp hy hpk hup hwr hsw
        by_cases hpi : i < p
        · have hpi2 : (i : Int) < (p : Int) := by omega
          obtain ⟨nu, hnu⟩ : ∃ nu, nu = Sha.sha (2 :: (up ++ y)) := ⟨_, rfl⟩
          have HNu : Hid (nu = upAll i x (ps.take (k + 1)) (way.take (k + 1))) := Lib.hid (by rw [hnu, ← HStep.out, upStep, if_pos hpi])
          have hnl : nu.length = 32 := by rw [hnu]; exact (sha_bytes _).1
          have HIn := Lib.hid (arr32_info nu (by omega))
          have HSn : Hid ((arr32 up).size = (arr32 nu).size) := Lib.hid ((arr32_size up (by omega)).trans (arr32_size nu (by omega)).symm)
          have HPr : Hid (∀ V : World, ConstAt V → Calls Tryd.prog 69 #[.agg (arr32 up), .agg (arr32 y)] V fun e w' => e = .returned (.agg (arr32 nu)) ∧ Below V.heap.size V w') := Lib.hid fun V hV => (pair_any up y hupl.1 hyl.1 hupl.2 hyl.2 V hV nu (Lib.hid hnu)).mono fun e w' ⟨h1, _, h2⟩ => ⟨h1, h2⟩
          clear hnu
          go_upto_region 13 with (fail)
          refine gen_world (P := fun W => Code.wp _ _ _ _ W) (I := fun Z => Below w2.heap.size w2 Z ∧ Has Z w2.heap.size 26 (arr32 up)) _ ⟨HB.out.alloc HB.out.size _, HX.out.alloc _⟩ ?_
          rintro U ⟨hBU, hXU⟩
          have hwU : Below w.heap.size w U := HB2.out.trans (hBU.mono HB2.out.size)
          have HCU := Lib.hid (HC.out.below hwU rfl)
          have HWR : Hid (∀ Z, Below w2.heap.size U Z → ∀ j u, (arr32 y)[j]? = some u → Z.cell? ((⟨gw, offw + k * 32, none⟩ : Addr).add j) = some u) := Lib.hid fun Z hZ j u hj => by
            have h0 := HY.out j u hj
            rw [Addr.add_lit] at h0 ⊢
            rw [hZ.cell hgp, hBU.cell hgp, ← HB.out.cell hgp]
            exact h0
          have HBU := Lib.hid hBU
          have HXU := Lib.hid hXU
          clear hBU hXU hwU
          change Code.wp _ (Code.region 13 (verOps 13) true) _ _ _
          refine wp_region_held (S := fun V => Below w2.heap.size U V) (by kernel_rfl) ?_
          have hsz : (verOps 13).size = 7 := by kernel_rfl
          rw [hsz]
          clear hsz
          refine gen_world (P := fun W' => wpAnyH _ _ _ _ _ _ _ _ W') (I := fun V => Below U.heap.size U V) _ (Below.refl _ U).drew ?_
          rintro V hBV
          have HS0 := Lib.hid (hBV.mono (Nat.le_of_lt HXU.out.lt))
          have HXV := Lib.hid (HXU.out.below hBV HXU.out.lt)
          have HCV := Lib.hid (HCU.out.below hBV rfl)
          clear hBV
          refine wpAnyH_take (i := 1) (oi := ⟨some 53, _, _, _, _, _⟩) (v := ?_) rfl (by kernel_rfl) (by kernel_rfl) (by kernel_rfl) (fun _ _ _ h => h) (Or.inl ⟨by rfl, fun w' hw' => by go_simp; with_reducible rfl⟩) HS0.out ?_
          try simp only [Act.put, List.setIfInBounds_toArray, List.set_cons_succ, List.set_cons_zero]
          refine wpAnyH_take (i := 2) (oi := ⟨some 54, _, _, _, _, _⟩) (v := ?_) rfl (by kernel_rfl) (by kernel_rfl) (by kernel_rfl) (fun _ _ _ h => h) (Or.inl ⟨by rfl, fun w' hw' => by go_simp; with_reducible rfl⟩) HS0.out ?_
          try simp only [Act.put, List.setIfInBounds_toArray, List.set_cons_succ, List.set_cons_zero]
          refine wpAnyH_take (i := 3) (oi := ⟨some 55, _, _, _, _, _⟩) (v := .pointer (some ⟨gw, offw + k * 32, none⟩)) rfl (by kernel_rfl) (by kernel_rfl) (by kernel_rfl) (fun _ _ _ h => h) (Or.inl ⟨by rfl, fun w' hw' => by go_simp⟩) HS0.out ?_
          try simp only [Act.put, List.setIfInBounds_toArray, List.set_cons_succ, List.set_cons_zero]
          refine wpAnyH_take (i := 4) (oi := ⟨some 56, _, _, _, _, none⟩) (v := .agg (arr32 y)) rfl (by kernel_rfl) (by kernel_rfl) (by kernel_rfl) (fun _ _ _ h => h) (yieldsIf_load ⟨gw, offw + k * 32, none⟩ _ _ HWR.out Tryd.underlying26 HIy.out rfl rfl) HS0.out ?_
          try simp only [Act.put, List.setIfInBounds_toArray, List.set_cons_succ, List.set_cons_zero]
          refine wpAnyH_all (rs := [0]) (by kernel_rfl) (by simp) ?_
          intro i hi
          obtain rfl : i = 0 := by simpa using hi
          clear hi
          refine wpOp_step (o := ⟨some 52, _, _, _, _, _⟩) rfl (fun K' hK' => ?_)
          rw [if_pos (show Region.wanted _ _ = true from rfl)]
          refine opw_load ⟨w2.heap.size, 0, none⟩ (arr32 up) _ HXV.out.row Tryd.underlying26 HIu.out rfl rfl ?_
          refine hK' _ _ ⟨HS0.out, ?_⟩
          clear hK' K'
          try simp only [Act.put, List.setIfInBounds_toArray, List.set_cons_succ, List.set_cons_zero]
          refine wpAnyH_all (rs := [5]) (by kernel_rfl) (by simp) ?_
          intro i hi
          obtain rfl : i = 5 := by simpa using hi
          clear hi
          refine wpOp_step (o := ⟨some 57, _, _, _, _, _⟩) rfl (fun K' hK' => ?_)
          rw [if_pos (show Region.wanted _ _ = true from rfl)]
          go_simp
          (with_reducible refine (HPr.out V HCV.out).mono ?_)
          rintro e v1 ⟨rfl, hbx⟩
          have HS1 := Lib.hid (HS0.out.trans (hbx.mono (Nat.le_of_lt HXV.out.lt)))
          have HX1 := Lib.hid (HXV.out.below hbx HXV.out.lt)
          have HC1 := Lib.hid (HCV.out.below hbx rfl)
          clear hbx
          refine hK' _ _ ⟨HS1.out, ?_⟩
          clear hK' K'
          try simp only [Act.put, List.setIfInBounds_toArray, List.set_cons_succ, List.set_cons_zero]
          refine wpAnyH_all (rs := [6]) (by kernel_rfl) (by simp) ?_
          intro i hi
          obtain rfl : i = 6 := by simpa using hi
          clear hi
          refine wpOp_step (o := ⟨none, _, _, _, _, _⟩) rfl (fun K' hK' => ?_)
          rw [if_pos (show Region.wanted _ _ = true from rfl)]
          refine opw_store w2.heap.size (arr32 nu) 26 (arr32 up) HX1.out HSn.out HIn.out (arr32_one _) rfl rfl ?_
          refine hK' _ _ ⟨below_setRow HS1.out (Nat.le_refl _) _, ?_⟩
          clear hK' K'
          try simp only [Act.put, List.setIfInBounds_toArray, List.set_cons_succ, List.set_cons_zero]
          refine wpAnyH_done (by kernel_rfl) ?_ _
          have HX2 := Lib.hid (HX1.out.setRow (cs' := arr32 nu))
          have HS2 := Lib.hid (HBU.out.trans (below_setRow HS1.out (Nat.le_refl _) (arr32 nu)))
          clear HX1 HS1 HS0 HXV HCV HC1
          go_wp2
          go_roundw
          case rel => exact ⟨k + 1, by omega, by go_num, HS2.out, HX2.out.of_eq (congrArg arr32 HNu.out)⟩
          case measure => simp [intOf]; omega
        · have hpi2 : ¬ (i : Int) < (p : Int) := by omega
          obtain ⟨nu, hnu⟩ : ∃ nu, nu = Sha.sha (2 :: (y ++ up)) := ⟨_, rfl⟩
          have HNu : Hid (nu = upAll i x (ps.take (k + 1)) (way.take (k + 1))) := Lib.hid (by rw [hnu, ← HStep.out, upStep, if_neg hpi])
          have hnl : nu.length = 32 := by rw [hnu]; exact (sha_bytes _).1
          have HIn := Lib.hid (arr32_info nu (by omega))
          have HSn : Hid ((arr32 up).size = (arr32 nu).size) := Lib.hid ((arr32_size up (by omega)).trans (arr32_size nu (by omega)).symm)
          have HPr : Hid (∀ V : World, ConstAt V → Calls Tryd.prog 69 #[.agg (arr32 y), .agg (arr32 up)] V fun e w' => e = .returned (.agg (arr32 nu)) ∧ Below V.heap.size V w') := Lib.hid fun V hV => (pair_any y up hyl.1 hupl.1 hyl.2 hupl.2 V hV nu (Lib.hid hnu)).mono fun e w' ⟨h1, _, h2⟩ => ⟨h1, h2⟩
          clear hnu
          go_upto_region 14 with (fail)
          refine gen_world (P := fun W => Code.wp _ _ _ _ W) (I := fun Z => Below w2.heap.size w2 Z ∧ Has Z w2.heap.size 26 (arr32 up)) _ ⟨HB.out.alloc HB.out.size _, HX.out.alloc _⟩ ?_
          rintro U ⟨hBU, hXU⟩
          have hwU : Below w.heap.size w U := HB2.out.trans (hBU.mono HB2.out.size)
          have HCU := Lib.hid (HC.out.below hwU rfl)
          have HWR : Hid (∀ Z, Below w2.heap.size U Z → ∀ j u, (arr32 y)[j]? = some u → Z.cell? ((⟨gw, offw + k * 32, none⟩ : Addr).add j) = some u) := Lib.hid fun Z hZ j u hj => by
            have h0 := HY.out j u hj
            rw [Addr.add_lit] at h0 ⊢
            rw [hZ.cell hgp, hBU.cell hgp, ← HB.out.cell hgp]
            exact h0
          have HBU := Lib.hid hBU
          have HXU := Lib.hid hXU
          clear hBU hXU hwU
          change Code.wp _ (Code.region 14 (verOps 14) true) _ _ _
          refine wp_region_held (S := fun V => Below w2.heap.size U V) (by kernel_rfl) ?_
          have hsz : (verOps 14).size = 7 := by kernel_rfl
          rw [hsz]
          clear hsz
          refine gen_world (P := fun W' => wpAnyH _ _ _ _ _ _ _ _ W') (I := fun V => Below U.heap.size U V) _ (Below.refl _ U).drew ?_
          rintro V hBV
          have HS0 := Lib.hid (hBV.mono (Nat.le_of_lt HXU.out.lt))
          have HXV := Lib.hid (HXU.out.below hBV HXU.out.lt)
          have HCV := Lib.hid (HCU.out.below hBV rfl)
          clear hBV
          refine wpAnyH_take (i := 0) (oi := ⟨some 58, _, _, _, _, _⟩) (v := ?_) rfl (by kernel_rfl) (by kernel_rfl) (by kernel_rfl) (fun _ _ _ h => h) (Or.inl ⟨by rfl, fun w' hw' => by go_simp; with_reducible rfl⟩) HS0.out ?_
          try simp only [Act.put, List.setIfInBounds_toArray, List.set_cons_succ, List.set_cons_zero]
          refine wpAnyH_take (i := 1) (oi := ⟨some 59, _, _, _, _, _⟩) (v := ?_) rfl (by kernel_rfl) (by kernel_rfl) (by kernel_rfl) (fun _ _ _ h => h) (Or.inl ⟨by rfl, fun w' hw' => by go_simp; with_reducible rfl⟩) HS0.out ?_
          try simp only [Act.put, List.setIfInBounds_toArray, List.set_cons_succ, List.set_cons_zero]
          refine wpAnyH_take (i := 2) (oi := ⟨some 60, _, _, _, _, _⟩) (v := .pointer (some ⟨gw, offw + k * 32, none⟩)) rfl (by kernel_rfl) (by kernel_rfl) (by kernel_rfl) (fun _ _ _ h => h) (Or.inl ⟨by rfl, fun w' hw' => by go_simp⟩) HS0.out ?_
          try simp only [Act.put, List.setIfInBounds_toArray, List.set_cons_succ, List.set_cons_zero]
          refine wpAnyH_take (i := 3) (oi := ⟨some 61, _, _, _, _, none⟩) (v := .agg (arr32 y)) rfl (by kernel_rfl) (by kernel_rfl) (by kernel_rfl) (fun _ _ _ h => h) (yieldsIf_load ⟨gw, offw + k * 32, none⟩ _ _ HWR.out Tryd.underlying26 HIy.out rfl rfl) HS0.out ?_
          try simp only [Act.put, List.setIfInBounds_toArray, List.set_cons_succ, List.set_cons_zero]
          refine wpAnyH_all (rs := [4]) (by kernel_rfl) (by simp) ?_
          intro i hi
          obtain rfl : i = 4 := by simpa using hi
          clear hi
          refine wpOp_step (o := ⟨some 62, _, _, _, _, _⟩) rfl (fun K' hK' => ?_)
          rw [if_pos (show Region.wanted _ _ = true from rfl)]
          refine opw_load ⟨w2.heap.size, 0, none⟩ (arr32 up) _ HXV.out.row Tryd.underlying26 HIu.out rfl rfl ?_
          refine hK' _ _ ⟨HS0.out, ?_⟩
          clear hK' K'
          try simp only [Act.put, List.setIfInBounds_toArray, List.set_cons_succ, List.set_cons_zero]
          refine wpAnyH_all (rs := [5]) (by kernel_rfl) (by simp) ?_
          intro i hi
          obtain rfl : i = 5 := by simpa using hi
          clear hi
          refine wpOp_step (o := ⟨some 63, _, _, _, _, _⟩) rfl (fun K' hK' => ?_)
          rw [if_pos (show Region.wanted _ _ = true from rfl)]
          go_simp
          (with_reducible refine (HPr.out V HCV.out).mono ?_)
          rintro e v1 ⟨rfl, hbx⟩
          have HS1 := Lib.hid (HS0.out.trans (hbx.mono (Nat.le_of_lt HXV.out.lt)))
          have HX1 := Lib.hid (HXV.out.below hbx HXV.out.lt)
          have HC1 := Lib.hid (HCV.out.below hbx rfl)
          clear hbx
          refine hK' _ _ ⟨HS1.out, ?_⟩
          clear hK' K'
          try simp only [Act.put, List.setIfInBounds_toArray, List.set_cons_succ, List.set_cons_zero]
          refine wpAnyH_all (rs := [6]) (by kernel_rfl) (by simp) ?_
          intro i hi
          obtain rfl : i = 6 := by simpa using hi
          clear hi
          refine wpOp_step (o := ⟨none, _, _, _, _, _⟩) rfl (fun K' hK' => ?_)
          rw [if_pos (show Region.wanted _ _ = true from rfl)]
          refine opw_store w2.heap.size (arr32 nu) 26 (arr32 up) HX1.out HSn.out HIn.out (arr32_one _) rfl rfl ?_
          refine hK' _ _ ⟨below_setRow HS1.out (Nat.le_refl _) _, ?_⟩
          clear hK' K'
          try simp only [Act.put, List.setIfInBounds_toArray, List.set_cons_succ, List.set_cons_zero]
          refine wpAnyH_done (by kernel_rfl) ?_ _
          have HX2 := Lib.hid (HX1.out.setRow (cs' := arr32 nu))
          have HS2 := Lib.hid (HBU.out.trans (below_setRow HS1.out (Nat.le_refl _) (arr32 nu)))
          clear HX1 HS1 HS0 HXV HCV HC1
          go_wp2
          go_roundw
          case rel => exact ⟨k + 1, by omega, by go_num, HS2.out, HX2.out.of_eq (congrArg arr32 HNu.out)⟩
          case measure => simp [intOf]; omega
    · obtain rfl : k = ps.length := by omega
      rw [List.take_length, ← hlen, List.take_length, ← hout.out] at hX
      have HX := Lib.hid hX
      have HB := Lib.hid hB
      have HR3 := Lib.hid (HR2.out.below hB HR2.out.lt)
      have heq := HEq.out
      clear hX hB
      go_wp2_with (first
        | ((with_reducible refine arm_load ⟨w2.heap.size, 0, none⟩ (arr32 out) _ HX.out.row Tryd.underlying26 HIo.out ?h1 ?h2 ?_); (case h1 => rfl); (case h2 => rfl))
        | ((with_reducible refine arm_load ⟨w.heap.size, 0, none⟩ (arr32 root) _ HR3.out.row Tryd.underlying26 HIr.out ?h1 ?h2 ?_); (case h1 => rfl); (case h2 => rfl)))
      go_ret2
      exact ⟨rfl, HB2.out.trans (HB.out.mono HB2.out.size)⟩
end Go.Proofs.YtffdkniahdekjaaDoor
end
section
namespace Go.Proofs.YtffdkniahdekjaaDoor
open Go.RowKit Go.Hoar
theorem quietG_call5 {P : Program} {C : World → Prop} {K : Act → Prop} {a : Act} {dst : Option Tmp} {f : FuncId} {T : TypeId} {x1 x2 x3 x4 x5 : Operand} {ts : Array TypeId} {pos : String} {af : Array Edge} {gd : Option (Nat × Bool)}
    (eg : ∀ args w, (callFunc f args).run P w = .ok (.enter f args) w) (u1 u2 u3 u4 u5 v : Value) (h1 : a.eval x1 = u1) (h2 : a.eval x2 = u2) (h3 : a.eval x3 = u3) (h4 : a.eval x4 = u4) (h5 : a.eval x5 = u5)
    (hc : ∀ w', C w' → Calls P f #[u1, u2, u3, u4, u5] w' fun e w'' => e = .returned v ∧ C w'') (hk : K (a.put dst v)) :
    Oper.quiet P ⟨dst, .call { callee := .value (.func f), args := #[x1, x2, x3, x4, x5], argTypes := ts }, T, pos, af, gd⟩ a C K :=
  ⟨v, fun w hw => by
    have hf : a.eval (.func f) = .func (.func f) #[] #[] := rfl
    unfold Oper.quietAt
    simp [execOp, resolve, Deferred.ofValue, invoke, h1, h2, h3, h4, h5, hf, eg, Oper.quietUpon, hc w hw], hk⟩
end Go.Proofs.YtffdkniahdekjaaDoor
end
