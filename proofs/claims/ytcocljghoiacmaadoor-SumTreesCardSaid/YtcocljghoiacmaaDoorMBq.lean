/-
  THE LAW SumTrees, WALKED: true, and nothing that was there is turned.
  · sum.Grow's errors.
  · THE REFERENCE's Powers: how many powers of 2 there are in a number.
  · THE REFERENCE's Root: the digest of a tree's list, by its peaks.
  · sum.Root's error; the digest of the tree of no digest.
  · slices.Backward over digests: what it yields, from the last on down.
  · sum.Root: the digest of a tree's list, by its peaks.
  · THE REFERENCE's Grow: the tree with one digest more.
-/
import Derived.Test.YtcocljghoiacmaaDoorMBd
import Derived.Test.YtcocljghoiacmaaDoorMBf
import Derived.Test.YtcocljghoiacmaaDoorMBm
import Derived.Test.YtcocljghoiacmaaDoorMBi
import Derived.Test.YtcocljghoiacmaaDoorMBb
import Derived.Test.YtcocljghoiacmaaDoorMBh
import Derived.Laws.AppendOwnNone
import Derived.Test.YtcocljghoiacmaaDoorMBl
import Derived.Test.YtcocljghoiacmaaDoorMBn
import Derived.Test.YtcocljghoiacmaaDoorMBe
section
namespace Go.Proofs.YtcocljghoiacmaaDoor
open Go.RowKit Go.Hoar
set_option maxRecDepth 100000 in
set_option maxHeartbeats 1000000 in
theorem treeGrow_wrong (a : Option Addr) (n c : Nat) (many : Int) (x : Array Value) (w : World) (h : ¬ TreeOk n many) :
    Calls Tryd.prog 38 #[.agg #[.int .i64 many, .slice a n c], .agg x] w fun e w' => e = .returned (.tuple #[.agg #[.int .i64 0, .slice none 0 0], .int .i64 14]) ∧ Below w.heap.size w w' := by
  have hk : ∀ V : World, Calls Tryd.prog 74 #[.agg #[.int .i64 many, .slice a n c]] V fun e w' => e = .returned (.bool false) ∧ Below V.heap.size V w' := fun V => by
    have := treeOk_any a n c many V
    rwa [decide_eq_false h] at this
  have HK := Lib.hid hk
  have HI : Hid ((Tryd.prog.info? 57).map (·.size) = some (#[.int .i64 many, .slice a n c] : Array Value).size) := Lib.hid treeInfo
  have HI0 : Hid ((Tryd.prog.info? 57).map (·.size) = some (#[.int .i64 0, .slice none 0 0] : Array Value).size) := Lib.hid treeInfo
  have HO : Hid ((#[.int .i64 0, .slice none 0 0] : Array Value).all (·.oneCell') = true) := Lib.hid (by simp [Value.oneCell'])
  clear hk h
  go_enter Tryd.func38, Tryd.ntmps38
  go_upto_region 1 with (fail)
  refine gen_world (P := fun W => Code.wp _ _ _ _ W) (I := fun W => Below w.heap.size w W ∧ Has W w.heap.size 57 #[.int .i64 many, .slice a n c] ∧ Has W (w.heap.size + 1 + 1) 57 #[.int .i64 0, .slice none 0 0]) _ ⟨(((Below.refl _ w).alloc (Nat.le_refl _) _).alloc (by simp) _).alloc (by simp; omega) _, ((Has.fresh_at _ _ _ _ rfl).alloc _).alloc _, Has.fresh_at _ _ _ _ (by simp)⟩ ?_
  rintro W ⟨hB, hT, hR⟩
  have HB := Lib.hid hB
  have HT := Lib.hid hT
  have HR := Lib.hid hR
  clear hB hT hR
  go_wp2_with (first
    | ((with_reducible refine arm_load ⟨w.heap.size, 0, none⟩ #[.int .i64 many, .slice a n c] _ HT.out.row Tryd.underlying57 HI.out ?h1 ?h2 ?_); (case h1 => rfl); (case h2 => rfl))
    | (go_at_call 74; (with_reducible refine (HK.out _).mono ?_); rintro e w1 ⟨rfl, hb1⟩; have HB1 := Lib.hid (HB.out.trans (hb1.mono HB.out.size)); have HR1 := Lib.hid (HR.out.below hb1 HR.out.lt); clear hb1)
    | ((with_reducible refine arm_store (w.heap.size + 1 + 1) #[.int .i64 0, .slice none 0 0] _ _ HR1.out rfl HI0.out HO.out ?h5 ?h6 ?_); (case h5 => rfl); (case h6 => rfl)))
  exact bodyPost_ret (results_row_tmp rfl _ _ (w.heap.size + 1 + 1) 57 #[.int .i64 0, .slice none 0 0] (0, 0) _ rfl HR1.out.setRow rfl Tryd.underlying57 HI0.out) rfl ⟨rfl, below_setRow HB1.out (by omega) _⟩
set_option maxRecDepth 100000 in
set_option maxHeartbeats 1000000 in
theorem treeGrow_full (a : Option Addr) (c : Nat) (x : Array Value) (w : World) :
    Calls Tryd.prog 38 #[.agg #[.int .i64 1073741824, .slice a 1 c], .agg x] w fun e w' => e = .returned (.tuple #[.agg #[.int .i64 0, .slice none 0 0], .int .i64 12]) ∧ Below w.heap.size w w' := by
  have hk : ∀ V : World, Calls Tryd.prog 74 #[.agg #[.int .i64 1073741824, .slice a 1 c]] V fun e w' => e = .returned (.bool true) ∧ Below V.heap.size V w' := fun V => by
    have := treeOk_any a 1 c 1073741824 V
    rwa [show decide (TreeOk 1 1073741824) = true by decide +kernel] at this
  have HK := Lib.hid hk
  have HI : Hid ((Tryd.prog.info? 57).map (·.size) = some (#[.int .i64 1073741824, .slice a 1 c] : Array Value).size) := Lib.hid treeInfo
  have HI0 : Hid ((Tryd.prog.info? 57).map (·.size) = some (#[.int .i64 0, .slice none 0 0] : Array Value).size) := Lib.hid treeInfo
  have HO : Hid ((#[.int .i64 0, .slice none 0 0] : Array Value).all (·.oneCell') = true) := Lib.hid (by simp [Value.oneCell'])
  clear hk
  go_enter Tryd.func38, Tryd.ntmps38
  go_upto_region 1 with (fail)
  refine gen_world (P := fun W => Code.wp _ _ _ _ W) (I := fun W => Below w.heap.size w W ∧ Has W w.heap.size 57 #[.int .i64 1073741824, .slice a 1 c] ∧ Has W (w.heap.size + 1 + 1) 57 #[.int .i64 0, .slice none 0 0]) _ ⟨(((Below.refl _ w).alloc (Nat.le_refl _) _).alloc (by simp) _).alloc (by simp; omega) _, ((Has.fresh_at _ _ _ _ rfl).alloc _).alloc _, Has.fresh_at _ _ _ _ (by simp)⟩ ?_
  rintro W ⟨hB, hT, hR⟩
  have HB := Lib.hid hB
  have HT := Lib.hid hT
  have HR := Lib.hid hR
  clear hB hT hR
  go_upto_region 3 with (first
    | ((with_reducible refine arm_load ⟨w.heap.size, 0, none⟩ #[.int .i64 1073741824, .slice a 1 c] _ HT.out.row Tryd.underlying57 HI.out ?h1 ?h2 ?_); (case h1 => rfl); (case h2 => rfl))
    | (go_at_call 74; (with_reducible refine (HK.out _).mono ?_); rintro e w1 ⟨rfl, hb1⟩; have HB1 := Lib.hid (HB.out.trans (hb1.mono HB.out.size)); have HR1 := Lib.hid (HR.out.below hb1 HR.out.lt); have t0 : w1.cell? ⟨w.heap.size, 0, none⟩ = some (.int .i64 1073741824) := (hb1.cell HT.out.lt).trans (HT.out.cell 0); clear hb1))
  go_wp2_with (first
    | ((with_reducible refine arm_store (w.heap.size + 1 + 1) #[.int .i64 0, .slice none 0 0] _ _ HR1.out rfl HI0.out HO.out ?h5 ?h6 ?_); (case h5 => rfl); (case h6 => rfl)))
  exact bodyPost_ret (results_row_tmp rfl _ _ (w.heap.size + 1 + 1) 57 #[.int .i64 0, .slice none 0 0] (0, 0) _ rfl HR1.out.setRow rfl Tryd.underlying57 HI0.out) rfl ⟨rfl, below_setRow HB1.out (by omega) _⟩
end Go.Proofs.YtcocljghoiacmaaDoor
end
section
namespace Go.Proofs.YtcocljghoiacmaaDoor
open Go.RowKit Go.Hoar
set_option maxHeartbeats 1000000 in
theorem refPow_any (n : Nat) (hn : n < 4294967296) (w : World) :
    Calls Tryd.prog 75 #[.int .i64 (n : Int)] w fun e w' => e = .returned (.int .i64 ((ones n : Nat) : Int)) ∧ w = w' := by
  have hle : ones n ≤ 32 := onesF_le _ _
  generalize hon : ones n = o at hle
  have HO := Lib.hid hon
  clear hon
  go_enter Tryd.func75, Tryd.ntmps75
  go_wp2
  go_loop [0, 3] (fun v u => ∃ m s f : Nat, v = .int .i64 (m : Int) ∧ u = .int .i64 (s : Int) ∧ m < 4294967296 ∧ s ≤ 32 ∧ Hid (m < 2 ^ f ∧ s + onesF f m = o)) (fun v _ => (intOf v).toNat)
  case atStart => exact ⟨n, 0, 32, rfl, rfl, hn, by omega, Lib.hid ⟨hn, by rw [Nat.zero_add]; exact HO.out⟩⟩
  case round =>
    obtain ⟨m, s, f, rfl, rfl, hm, hs, hrest⟩ := hrel
    by_cases h0 : 0 < m
    · have h0i : (0 : Int) < m := by omega
      have hstep : Hid (∃ g, m / 2 < 2 ^ g ∧ s + m % 2 + onesF g (m / 2) = o ∧ s + m % 2 ≤ 32) := Lib.hid (by
        obtain ⟨h1, h2⟩ := hrest.out
        cases f with
        | zero => simp at h1; omega
        | succ g =>
          rw [onesF] at h2
          exact ⟨g, by rw [Nat.pow_succ] at h1; omega, by omega, by omega⟩)
      clear hrest
      go_wp2
      go_round
      case rel =>
        obtain ⟨g, h1, h2, h3⟩ := hstep.out
        exact ⟨m / 2, s + m % 2, g, by go_num, by go_num, by omega, h3, Lib.hid ⟨h1, h2⟩⟩
      case measure => simp [intOf]; omega
    · have h0i : ¬ (0 : Int) < m := by omega
      have hz : m = 0 := by omega
      have HE : Hid (s = o) := Lib.hid (by
        have := hrest.out.2
        rw [hz, onesF_zero] at this
        omega)
      clear hrest
      subst hz
      go_wp2
      go_ret
      exact ⟨by rw [HE.out]; exact Eq.refl _, rfl⟩
end Go.Proofs.YtcocljghoiacmaaDoor
end
section
namespace Go.Proofs.YtcocljghoiacmaaDoor
open Go.RowKit Go.Hoar
noncomputable def rootOps (k : Nat) : Array Oper := (Tryd.f41.body.bind (opsAt k)).getD #[]
/-- What the peaks behind a place make of the last one. -/
def accOf (q : List (List Nat)) (last : List Nat) (k : Nat) : List Nat := (q.drop k).foldr (fun p r => Sha.sha (2 :: (p ++ r))) last
theorem accOf_end (q : List (List Nat)) (last : List Nat) : accOf q last q.length = last := by rw [accOf, List.drop_length]; rfl
theorem accOf_step (q : List (List Nat)) (last p : List Nat) (j : Nat) (h : q[j]? = some p) : accOf q last j = Sha.sha (2 :: (p ++ accOf q last (j + 1))) := by
  rw [accOf, drop_at h, List.foldr_cons]; rfl
theorem accOf_len (q : List (List Nat)) (last : List Nat) (hl : last.length = 32 ∧ Sha.Bytes last) (k : Nat) : (accOf q last k).length = 32 ∧ Sha.Bytes (accOf q last k) := by
  rw [accOf]
  cases q.drop k with
  | nil => exact hl
  | cons p r => exact sha_bytes _
theorem onesF_pos : ∀ f x : Nat, 0 < x → x < 2 ^ f → 0 < onesF f x
  | 0, x, h, hx => by simp at hx; omega
  | f + 1, x, h, hx => by
    rw [onesF]
    by_cases h2 : x % 2 = 1
    · omega
    · have := onesF_pos f (x / 2) (by omega) (by rw [Nat.pow_succ] at hx; omega)
      omega
theorem ones_pos {x : Nat} (h : 0 < x) (hx : x < 4294967296) : 0 < ones x := onesF_pos 32 x h hx
set_option maxRecDepth 100000 in
set_option maxHeartbeats 1000000 in
theorem refRoot_wrong (a : Option Addr) (n c : Nat) (many : Int) (_hn : n ≤ 1000000) (w : World) (h : ¬ TreeOk n many) :
    Calls Tryd.prog 41 #[.int .i64 many, .slice a n c] w fun e w' => e = .returned (.tuple #[.agg (arr32 []), .int .i64 14]) ∧ Below w.heap.size w w' := by
  have hz : arr32 [] = zero32 := rfl
  rw [hz]
  have HIO := Lib.hid (arr32_info [] (by simp))
  rw [hz] at HIO
  have HO : Hid (zero32.all (·.oneCell') = true) := Lib.hid (by rw [← hz]; exact arr32_one _)
  clear hz
  by_cases g0 : 0 ≤ many
  · by_cases g1 : many ≤ 1073741824
    · obtain ⟨m, rfl⟩ := Int.eq_ofNat_of_zero_le g0
      have g2 : n ≠ ones m := fun e => h ⟨g0, g1, by rw [Int.toNat_natCast]; exact e⟩
      have HP := Lib.hid fun V : World => refPow_any m (by omega) V
      have hle : ones m ≤ 32 := onesF_le _ _
      generalize ones m = o at g2 HP hle
      have hd : ((n : Int) != (o : Int)) = true := by rw [bne_iff_ne]; omega
      have k0 : ¬ (m : Int) < 0 := by omega
      have k1 : ¬ (1073741824 : Int) < (m : Int) := by omega
      clear h g2
      go_enter Tryd.func41, Tryd.ntmps41
      go_upto_region 1 with (fail)
      refine gen_world (P := fun W => Code.wp _ _ _ _ W) (I := fun W => Below w.heap.size w W ∧ Has W w.heap.size 26 zero32) _ ⟨(Below.refl _ w).alloc (Nat.le_refl _) _, fresh_sum w⟩ ?_
      rintro W ⟨hB, hR⟩
      have HB := Lib.hid hB
      have HR := Lib.hid hR
      clear hB hR
      go_wp2_with (first
        | (go_at_call 75; (with_reducible refine (HP.out _).mono ?_); rintro e w1 ⟨rfl, rfl⟩)
        | ((with_reducible refine arm_store w.heap.size zero32 _ _ HR.out rfl HIO.out HO.out ?h5 ?h6 ?_); (case h5 => rfl); (case h6 => rfl)))
      exact bodyPost_ret (results_row_tmp rfl _ _ w.heap.size 26 zero32 (0, 0) _ rfl HR.out.setRow rfl Tryd.underlying26 HIO.out) rfl ⟨rfl, below_setRow HB.out (Nat.le_refl _) _⟩
    · have k0 : ¬ many < 0 := by omega
      have k1 : (1073741824 : Int) < many := by omega
      clear h
      go_enter Tryd.func41, Tryd.ntmps41
      go_upto_region 1 with (fail)
      refine gen_world (P := fun W => Code.wp _ _ _ _ W) (I := fun W => Below w.heap.size w W ∧ Has W w.heap.size 26 zero32) _ ⟨(Below.refl _ w).alloc (Nat.le_refl _) _, fresh_sum w⟩ ?_
      rintro W ⟨hB, hR⟩
      have HB := Lib.hid hB
      have HR := Lib.hid hR
      clear hB hR
      go_wp2_with (first
        | ((with_reducible refine arm_store w.heap.size zero32 _ _ HR.out rfl HIO.out HO.out ?h5 ?h6 ?_); (case h5 => rfl); (case h6 => rfl)))
      exact bodyPost_ret (results_row_tmp rfl _ _ w.heap.size 26 zero32 (0, 0) _ rfl HR.out.setRow rfl Tryd.underlying26 HIO.out) rfl ⟨rfl, below_setRow HB.out (Nat.le_refl _) _⟩
  · have k0 : many < 0 := by omega
    clear h
    go_enter Tryd.func41, Tryd.ntmps41
    go_upto_region 1 with (fail)
    refine gen_world (P := fun W => Code.wp _ _ _ _ W) (I := fun W => Below w.heap.size w W ∧ Has W w.heap.size 26 zero32) _ ⟨(Below.refl _ w).alloc (Nat.le_refl _) _, fresh_sum w⟩ ?_
    rintro W ⟨hB, hR⟩
    have HB := Lib.hid hB
    have HR := Lib.hid hR
    clear hB hR
    go_wp2_with (first
      | ((with_reducible refine arm_store w.heap.size zero32 _ _ HR.out rfl HIO.out HO.out ?h5 ?h6 ?_); (case h5 => rfl); (case h6 => rfl)))
    exact bodyPost_ret (results_row_tmp rfl _ _ w.heap.size 26 zero32 (0, 0) _ rfl HR.out.setRow rfl Tryd.underlying26 HIO.out) rfl ⟨rfl, below_setRow HB.out (Nat.le_refl _) _⟩
set_option maxRecDepth 100000 in
set_option maxHeartbeats 1000000 in
theorem refRoot_none (a : Option Addr) (c : Nat) (w : World) (out : List Nat) (hout : Hid (out = Sha.sha [0])) :
    Calls Tryd.prog 41 #[.int .i64 0, .slice a 0 c] w fun e w' => e = .returned (.tuple #[.agg (arr32 out), .int .i64 0]) ∧ Below w.heap.size w w' := by
  have hol : out.length = 32 := by rw [hout.out]; exact (sha_bytes _).1
  have HIo := Lib.hid (arr32_info out (by omega))
  have HSo := Lib.hid (zero32_size out (by omega))
  have HL : Hid (∀ V : World, Calls Tryd.prog 36 #[.slice none 0 0] V fun e w' => e = .returned (.agg (arr32 out)) ∧ Below V.heap.size V w') := Lib.hid fun V => (refList_none none 0 V out hout).mono fun e w' ⟨h1, _, h2⟩ => ⟨h1, h2⟩
  have HP : Hid (∀ V : World, Calls Tryd.prog 75 #[.int .i64 0] V fun e w' => e = .returned (.int .i64 0) ∧ V = w') := Lib.hid fun V => refPow_any 0 (by omega) V
  clear hout
  go_enter Tryd.func41, Tryd.ntmps41
  go_upto_region 1 with (fail)
  refine gen_world (P := fun W => Code.wp _ _ _ _ W) (I := fun W => Below w.heap.size w W ∧ Has W w.heap.size 26 zero32) _ ⟨(Below.refl _ w).alloc (Nat.le_refl _) _, fresh_sum w⟩ ?_
  rintro W ⟨hB, hR⟩
  have HB := Lib.hid hB
  have HR := Lib.hid hR
  clear hB hR
  go_wp2_with (first
    | (go_at_call 75; (with_reducible refine (HP.out _).mono ?_); rintro e w1 ⟨rfl, rfl⟩)
    | (go_at_call 36; (with_reducible refine (HL.out _).mono ?_); rintro e w1 ⟨rfl, hb1⟩; have HB1 := Lib.hid (HB.out.trans (hb1.mono HB.out.size)); have HR1 := Lib.hid (HR.out.below hb1 HR.out.lt); clear hb1)
    | ((with_reducible refine arm_store w.heap.size (arr32 out) 26 zero32 HR1.out HSo.out HIo.out (arr32_one _) ?h5 ?h6 ?_); (case h5 => rfl); (case h6 => rfl)))
  exact bodyPost_ret (results_row_tmp rfl _ _ w.heap.size 26 (arr32 out) (0, 0) _ rfl HR1.out.setRow rfl Tryd.underlying26 HIo.out) rfl ⟨rfl, below_setRow HB1.out (Nat.le_refl _) _⟩
set_option maxRecDepth 100000 in
set_option maxHeartbeats 3000000 in
theorem refRoot_main (q : List (List Nat)) (last : List Nat) (hok : SumsOk (q ++ [last])) (m : Nat) (hm : 0 < m) (hm2 : m ≤ 1073741824) (hlen : q.length + 1 = ones m) (g off c : Nat) (w : World) (hs : SumsAt w g off (q ++ [last])) (hg : g < w.heap.size) (hc : q.length + 1 ≤ c) (hcm : c ≤ maxLen) (out : List Nat) (hout : Hid (out = accOf q last 0)) :
    Calls Tryd.prog 41 #[.int .i64 (m : Int), .slice (some ⟨g, off, none⟩) (q.length + 1) c] w fun e w' => e = .returned (.tuple #[.agg (arr32 out), .int .i64 0]) ∧ Below w.heap.size w w' := by
  have hll : last.length = 32 ∧ Sha.Bytes last := hok last (by simp)
  have hol : out.length = 32 := by rw [hout.out]; exact (accOf_len _ _ hll _).1
  have HIo := Lib.hid (arr32_info out (by omega))
  have HSo := Lib.hid (zero32_size out (by omega))
  have HIl := Lib.hid (arr32_info last (by omega))
  have HSl := Lib.hid (zero32_size last (by omega))
  have hle : ones m ≤ 32 := onesF_le _ _
  have hpow : ∀ V : World, Calls Tryd.prog 75 #[.int .i64 (m : Int)] V fun e w' => e = .returned (.int .i64 ((q.length : Int) + 1)) ∧ V = w' := fun V => by
    have := refPow_any m (by omega) V
    rwa [← hlen, Int.natCast_add] at this
  rw [← hlen] at hle
  have hlq : (q ++ [last])[q.length]? = some last := by simp
  have HQ : Hid (∀ j p, q[j]? = some p → (q ++ [last])[j]? = some p) := Lib.hid fun j p h => by rw [List.getElem?_append_left (List.getElem?_eq_some_iff.1 h).1]; exact h
  have HLast : Hid (∀ V, Below w.heap.size w V → ∀ j u, (arr32 last)[j]? = some u → V.cell? ((⟨g, off + q.length * 32, none⟩ : Addr).add j) = some u) := Lib.hid fun V hv => (hs.below hg hv).row hlq
  have HS := Lib.hid hs
  have HOk := Lib.hid hok
  have HEnd := Lib.hid (accOf_end q last)
  have HLL := Lib.hid hll
  obtain ⟨n, hn⟩ : ∃ n, n = q.length := ⟨_, rfl⟩
  rw [← hn] at hpow hle hc HLast HEnd ⊢
  have HP := Lib.hid hpow
  have m0 : ¬ (m : Int) = 0 := by omega
  have k0 : ¬ (m : Int) < 0 := by omega
  have k1 : ¬ (1073741824 : Int) < (m : Int) := by omega
  have k2 : n < c := by omega
  unfold maxLen at hcm
  have HN := Lib.hid hn
  clear hpow hs hok hlq hlen hll hn
  go_enter Tryd.func41, Tryd.ntmps41
  go_upto_region 1 with (fail)
  refine gen_world (P := fun W => Code.wp _ _ _ _ W) (I := fun W => Below w.heap.size w W ∧ Has W w.heap.size 26 zero32) _ ⟨(Below.refl _ w).alloc (Nat.le_refl _) _, fresh_sum w⟩ ?_
  rintro W ⟨hB, hR⟩
  have HB := Lib.hid hB
  have HR := Lib.hid hR
  have HF := Lib.hid (fresh_sum W)
  clear hB hR
  go_upto_region 6 with (first
    | (go_at_call 75; (with_reducible refine (HP.out _).mono ?_); rintro e w1 ⟨rfl, rfl⟩)
    | ((with_reducible refine arm_load ⟨g, off + n * 32, none⟩ (arr32 last) _ (HLast.out _ HB.out) Tryd.underlying26 HIl.out ?h1 ?h2 ?_); (case h1 => rfl); (case h2 => rfl))
    | ((with_reducible refine arm_store W.heap.size (arr32 last) 26 zero32 HF.out HSl.out HIl.out (arr32_one _) ?h5 ?h6 ?_); (case h5 => rfl); (case h6 => rfl)))
  go_wp2
  go_loopw [7] (fun ix wr => ∃ (k : Nat) (x : Int), k ≤ n ∧ ix = .int .i64 x ∧ x = (k : Int) - 1 ∧ Below W.heap.size W wr ∧ Has wr W.heap.size 26 (arr32 (accOf q last k))) (fun ix _ => (intOf ix + 1).toNat)
  case atStart => exact ⟨n, _, Nat.le_refl _, rfl, by go_num, below_setRow ((Below.refl _ W).alloc (Nat.le_refl _) _) (Nat.le_refl _) _, by rw [HEnd.out]; exact HF.out.setRow⟩
  case round =>
    obtain ⟨k, x, hk, rfl, hx, hB, hX⟩ := hrel
    have HX := Lib.hid hX
    have HB2 := Lib.hid hB
    clear hX hB
    cases k with
    | zero =>
      have hx0 : ¬ (0 : Int) ≤ x := by omega
      clear hx
      rw [← hout.out] at HX
      have HR2 := Lib.hid (HR.out.below HB2.out HR.out.lt)
      go_wp2_with (first
        | ((with_reducible refine arm_load ⟨W.heap.size, 0, none⟩ (arr32 out) _ HX.out.row Tryd.underlying26 HIo.out ?h1 ?h2 ?_); (case h1 => rfl); (case h2 => rfl))
        | ((with_reducible refine arm_store w.heap.size (arr32 out) 26 zero32 HR2.out HSo.out HIo.out (arr32_one _) ?h5 ?h6 ?_); (case h5 => rfl); (case h6 => rfl)))
      exact bodyPost_ret (results_row_tmp rfl _ _ w.heap.size 26 (arr32 out) (0, 0) _ rfl HR2.out.setRow rfl Tryd.underlying26 HIo.out) rfl ⟨rfl, below_setRow (HB.out.trans (HB2.out.mono HB.out.size)) (Nat.le_refl _) _⟩
    | succ j =>
      obtain rfl : x = (j : Int) := by omega
      clear hx
      have hj : j < q.length := by have := HN.out; omega
      obtain ⟨p, hp⟩ : ∃ p, q[j]? = some p := ⟨_, List.getElem?_eq_getElem hj⟩
      have hpl := HOk.out p (List.mem_of_getElem? (HQ.out j p hp))
      obtain ⟨up, hup⟩ : ∃ up, up = accOf q last (j + 1) := ⟨_, rfl⟩
      have hupl : up.length = 32 ∧ Sha.Bytes up := by rw [hup]; exact accOf_len _ _ HLL.out _
      obtain ⟨nu, hnu⟩ : ∃ nu, nu = Sha.sha (2 :: (p ++ up)) := ⟨_, rfl⟩
      have HNu : Hid (nu = accOf q last j) := Lib.hid (by rw [hnu, hup]; exact (accOf_step q last p j hp).symm)
      have hnl : nu.length = 32 := by rw [hnu]; exact (sha_bytes _).1
      rw [← hup] at HX
      have HIp := Lib.hid (arr32_info p (by omega))
      have HIu := Lib.hid (arr32_info up (by omega))
      have HIn := Lib.hid (arr32_info nu (by omega))
      have HSn : Hid ((arr32 up).size = (arr32 nu).size) := Lib.hid ((arr32_size up (by omega)).trans (arr32_size nu (by omega)).symm)
      have HPr : Hid (∀ V : World, Calls Tryd.prog 73 #[.agg (arr32 p), .agg (arr32 up)] V fun e w' => e = .returned (.agg (arr32 nu)) ∧ Below V.heap.size V w') := Lib.hid fun V => (refInner_any p up hpl.1 hupl.1 hpl.2 hupl.2 V nu (Lib.hid hnu)).mono fun e w' ⟨h1, _, h2⟩ => ⟨h1, h2⟩
      have HWR : Hid (∀ Z, Below W.heap.size wr Z → ∀ i u, (arr32 p)[i]? = some u → Z.cell? ((⟨g, off + j * 32, none⟩ : Addr).add i) = some u) := Lib.hid fun Z hZ =>
        (HS.out.below hg (HB.out.trans ((HB2.out.trans hZ).mono HB.out.size))).row (HQ.out j p hp)
      have j0 : (0 : Int) ≤ (j : Int) := by omega
      have j1 : (j : Int) < (n : Int) + 1 := by omega
      have j2 : j < n + 1 := by omega
      have j3 : j < c := by omega
      clear hnu hup hp
      go_upto_region 9 with (fail)
      change Code.wp _ (Code.region 9 (rootOps 9) true) _ _ _
      refine wp_region_held (S := fun V => Below W.heap.size wr V) (by kernel_rfl) ?_
      have hsz : (rootOps 9).size = 7 := by kernel_rfl
      rw [hsz]
      clear hsz
      refine gen_world (P := fun W' => wpAnyH _ _ _ _ _ _ _ _ W') (I := fun V => Below wr.heap.size wr V) _ (Below.refl _ wr).drew ?_
      rintro V hBV
      have HS0 := Lib.hid (hBV.mono (Nat.le_of_lt HX.out.lt))
      have HXV := Lib.hid (HX.out.below hBV HX.out.lt)
      clear hBV
      refine wpAnyH_take (i := 0) (oi := ⟨some 38, _, _, _, _, _⟩) (v := ?_) rfl (by kernel_rfl) (by kernel_rfl) (by kernel_rfl) (fun _ _ _ h => h) (Or.inl ⟨by rfl, fun w' hw' => by go_simp; with_reducible rfl⟩) HS0.out ?_
      try simp only [Act.put, List.setIfInBounds_toArray, List.set_cons_succ, List.set_cons_zero]
      refine wpAnyH_take (i := 1) (oi := ⟨some 39, _, _, _, _, _⟩) (v := ?_) rfl (by kernel_rfl) (by kernel_rfl) (by kernel_rfl) (fun _ _ _ h => h) (Or.inl ⟨by rfl, fun w' hw' => by go_simp; with_reducible rfl⟩) HS0.out ?_
      try simp only [Act.put, List.setIfInBounds_toArray, List.set_cons_succ, List.set_cons_zero]
      refine wpAnyH_take (i := 2) (oi := ⟨some 40, _, _, _, _, _⟩) (v := .pointer (some ⟨g, off + j * 32, none⟩)) rfl (by kernel_rfl) (by kernel_rfl) (by kernel_rfl) (fun _ _ _ h => h) (Or.inl ⟨by rfl, fun w' hw' => by go_simp⟩) HS0.out ?_
      try simp only [Act.put, List.setIfInBounds_toArray, List.set_cons_succ, List.set_cons_zero]
      refine wpAnyH_take (i := 3) (oi := ⟨some 41, _, _, _, _, none⟩) (v := .agg (arr32 p)) rfl (by kernel_rfl) (by kernel_rfl) (by kernel_rfl) (fun _ _ _ h => h) (yieldsIf_load ⟨g, off + j * 32, none⟩ _ _ HWR.out Tryd.underlying26 HIp.out rfl rfl) HS0.out ?_
      try simp only [Act.put, List.setIfInBounds_toArray, List.set_cons_succ, List.set_cons_zero]
      refine wpAnyH_all (rs := [4]) (by kernel_rfl) (by simp) ?_
      intro i hi
      obtain rfl : i = 4 := by simpa using hi
      clear hi
      refine wpOp_step (o := ⟨some 42, _, _, _, _, _⟩) rfl (fun K' hK' => ?_)
      rw [if_pos (show Region.wanted _ _ = true from rfl)]
      refine opw_load ⟨W.heap.size, 0, none⟩ (arr32 up) _ HXV.out.row Tryd.underlying26 HIu.out rfl rfl ?_
      refine hK' _ _ ⟨HS0.out, ?_⟩
      clear hK' K'
      try simp only [Act.put, List.setIfInBounds_toArray, List.set_cons_succ, List.set_cons_zero]
      refine wpAnyH_all (rs := [5]) (by kernel_rfl) (by simp) ?_
      intro i hi
      obtain rfl : i = 5 := by simpa using hi
      clear hi
      refine wpOp_step (o := ⟨some 43, _, _, _, _, _⟩) rfl (fun K' hK' => ?_)
      rw [if_pos (show Region.wanted _ _ = true from rfl)]
      go_simp
      (with_reducible refine (HPr.out V).mono ?_)
      rintro e v1 ⟨rfl, hbx⟩
      have HS1 := Lib.hid (HS0.out.trans (hbx.mono (Nat.le_of_lt HXV.out.lt)))
      have HX1 := Lib.hid (HXV.out.below hbx HXV.out.lt)
      clear hbx
      refine hK' _ _ ⟨HS1.out, ?_⟩
      clear hK' K'
      try simp only [Act.put, List.setIfInBounds_toArray, List.set_cons_succ, List.set_cons_zero]
      refine wpAnyH_all (rs := [6]) (by kernel_rfl) (by simp) ?_
      intro i hi
      obtain rfl : i = 6 := by simpa using hi
      clear hi
      refine wpOp_step (o := ⟨none, _, _, _, _, _⟩) rfl (fun K' hK' => ?_)
      rw [if_pos (show Region.wanted _ _ = true from rfl)]
      refine opw_store W.heap.size (arr32 nu) 26 (arr32 up) HX1.out HSn.out HIn.out (arr32_one _) rfl rfl ?_
      refine hK' _ _ ⟨below_setRow HS1.out (Nat.le_refl _) _, ?_⟩
      clear hK' K'
      try simp only [Act.put, List.setIfInBounds_toArray, List.set_cons_succ, List.set_cons_zero]
      refine wpAnyH_done (by kernel_rfl) ?_ _
      have HX2 := Lib.hid (HX1.out.setRow (cs' := arr32 nu))
      have HS2 := Lib.hid (HB2.out.trans (below_setRow HS1.out (Nat.le_refl _) (arr32 nu)))
      clear HX1 HS1 HS0 HXV
      go_wp2
      go_roundw
      case rel => exact ⟨j, _, by omega, rfl, by go_num, HS2.out, HX2.out.of_eq (congrArg arr32 HNu.out)⟩
      case measure => simp [intOf]
end Go.Proofs.YtcocljghoiacmaaDoor
end
section
namespace Go.Proofs.YtcocljghoiacmaaDoor
open Go.RowKit Go.Hoar
set_option maxRecDepth 100000 in
set_option maxHeartbeats 1000000 in
theorem root_wrong (a : Option Addr) (n c : Nat) (many : Int) (w : World) (h : ¬ TreeOk n many) :
    Calls Tryd.prog 40 #[.agg #[.int .i64 many, .slice a n c]] w fun e w' => e = .returned (.tuple #[.agg (arr32 []), .int .i64 14]) ∧ Below w.heap.size w w' := by
  have hk : ∀ V : World, Calls Tryd.prog 74 #[.agg #[.int .i64 many, .slice a n c]] V fun e w' => e = .returned (.bool false) ∧ Below V.heap.size V w' := fun V => by
    have := treeOk_any a n c many V
    rwa [decide_eq_false h] at this
  have HK := Lib.hid hk
  have HI : Hid ((Tryd.prog.info? 57).map (·.size) = some (#[.int .i64 many, .slice a n c] : Array Value).size) := Lib.hid treeInfo
  have hz : arr32 [] = zero32 := rfl
  rw [hz]
  have HIO := Lib.hid (arr32_info [] (by simp))
  rw [hz] at HIO
  have HO : Hid (zero32.all (·.oneCell') = true) := Lib.hid (by rw [← hz]; exact arr32_one _)
  clear hz hk h
  go_enter Tryd.func40, Tryd.ntmps40
  go_upto_region 1 with (fail)
  refine gen_world (P := fun W => Code.wp _ _ _ _ W) (I := fun W => Below w.heap.size w W ∧ Has W w.heap.size 57 #[.int .i64 many, .slice a n c] ∧ Has W (w.heap.size + 1) 26 zero32) _ ⟨((Below.refl _ w).alloc (Nat.le_refl _) _).alloc (by simp) _, (Has.fresh_at _ _ _ _ rfl).alloc _, Has.fresh_at _ _ _ _ (by simp)⟩ ?_
  rintro W ⟨hB, hT, hR⟩
  have HB := Lib.hid hB
  have HT := Lib.hid hT
  have HR := Lib.hid hR
  clear hB hT hR
  go_wp2_with (first
    | ((with_reducible refine arm_load ⟨w.heap.size, 0, none⟩ #[.int .i64 many, .slice a n c] _ HT.out.row Tryd.underlying57 HI.out ?h1 ?h2 ?_); (case h1 => rfl); (case h2 => rfl))
    | (go_at_call 74; (with_reducible refine (HK.out _).mono ?_); rintro e w1 ⟨rfl, hb1⟩; have HB1 := Lib.hid (HB.out.trans (hb1.mono HB.out.size)); have HR1 := Lib.hid (HR.out.below hb1 HR.out.lt); clear hb1)
    | ((with_reducible refine arm_store (w.heap.size + 1) zero32 _ _ HR1.out rfl HIO.out HO.out ?h5 ?h6 ?_); (case h5 => rfl); (case h6 => rfl)))
  exact bodyPost_ret (results_row_tmp rfl _ _ (w.heap.size + 1) 26 zero32 (0, 0) _ rfl HR1.out.setRow rfl Tryd.underlying26 HIO.out) rfl ⟨rfl, below_setRow HB1.out (by omega) _⟩
set_option maxRecDepth 100000 in
set_option maxHeartbeats 1000000 in
theorem root_none (a : Option Addr) (c : Nat) (w : World) (hc : ConstAt w) (out : List Nat) (hout : Hid (out = Sha.sha [0])) :
    Calls Tryd.prog 40 #[.agg #[.int .i64 0, .slice a 0 c]] w fun e w' => e = .returned (.tuple #[.agg (arr32 out), .int .i64 0]) ∧ Below w.heap.size w w' := by
  have hk : ∀ V : World, Calls Tryd.prog 74 #[.agg #[.int .i64 0, .slice a 0 c]] V fun e w' => e = .returned (.bool true) ∧ Below V.heap.size V w' := fun V => by
    have := treeOk_any a 0 c 0 V
    rwa [show decide (TreeOk 0 0) = true by decide +kernel] at this
  have HK := Lib.hid hk
  have HI : Hid ((Tryd.prog.info? 57).map (·.size) = some (#[.int .i64 0, .slice a 0 c] : Array Value).size) := Lib.hid treeInfo
  have hol : out.length = 32 := by rw [hout.out]; exact (sha_bytes _).1
  have HIo := Lib.hid (arr32_info out (by omega))
  have HSo := Lib.hid (zero32_size out (by omega))
  have HL : Hid (∀ V : World, ConstAt V → Calls Tryd.prog 33 #[.slice none 0 0] V fun e w' => e = .returned (.agg (arr32 out)) ∧ Below V.heap.size V w') := Lib.hid fun V hV => (list_none none 0 V hV out hout).mono fun e w' ⟨h1, _, h2⟩ => ⟨h1, h2⟩
  have HC := Lib.hid hc
  clear hk hc hout
  go_enter Tryd.func40, Tryd.ntmps40
  go_upto_region 1 with (fail)
  refine gen_world (P := fun W => Code.wp _ _ _ _ W) (I := fun W => Below w.heap.size w W ∧ Has W w.heap.size 57 #[.int .i64 0, .slice a 0 c] ∧ Has W (w.heap.size + 1) 26 zero32) _ ⟨((Below.refl _ w).alloc (Nat.le_refl _) _).alloc (by simp) _, (Has.fresh_at _ _ _ _ rfl).alloc _, Has.fresh_at _ _ _ _ (by simp)⟩ ?_
  rintro W ⟨hB, hT, hR⟩
  have HB := Lib.hid hB
  have HT := Lib.hid hT
  have HR := Lib.hid hR
  clear hB hT hR
  go_upto_region 3 with (first
    | ((with_reducible refine arm_load ⟨w.heap.size, 0, none⟩ #[.int .i64 0, .slice a 0 c] _ HT.out.row Tryd.underlying57 HI.out ?h1 ?h2 ?_); (case h1 => rfl); (case h2 => rfl))
    | (go_at_call 74; (with_reducible refine (HK.out _).mono ?_); rintro e w1 ⟨rfl, hb1⟩; have HB1 := Lib.hid (HB.out.trans (hb1.mono HB.out.size)); have HR1 := Lib.hid (HR.out.below hb1 HR.out.lt); have t1 : w1.cell? ⟨w.heap.size, 1, none⟩ = some (.slice a 0 c) := (hb1.cell HT.out.lt).trans (HT.out.cell 1); clear hb1))
  go_wp2_with (first
    | (go_at_call 33; (with_reducible refine (HL.out _ (HC.out.below HB1.out rfl)).mono ?_); rintro e w2 ⟨rfl, hb2⟩; have HB2 := Lib.hid (HB1.out.trans (hb2.mono HB1.out.size)); have HR2 := Lib.hid (HR1.out.below hb2 HR1.out.lt); clear hb2)
    | ((with_reducible refine arm_store (w.heap.size + 1) (arr32 out) _ _ HR2.out HSo.out HIo.out (arr32_one _) ?h5 ?h6 ?_); (case h5 => rfl); (case h6 => rfl)))
  exact bodyPost_ret (results_row_tmp rfl _ _ (w.heap.size + 1) 26 (arr32 out) (0, 0) _ rfl HR2.out.setRow rfl Tryd.underlying26 HIo.out) rfl ⟨rfl, below_setRow HB2.out (by omega) _⟩
end Go.Proofs.YtcocljghoiacmaaDoor
end
section
namespace Go.Proofs.YtcocljghoiacmaaDoor
open Go.RowKit Go.Hoar Go.Shelf
attribute [local go_sem] Oper.semAt_some
theorem backward_any (v : Option Addr) (n c : Nat) (w : World) :
    Calls Tryd.prog 76 #[.slice v n c] w fun e w' => e = .returned (.func (.func 98) #[] #[.pointer (some ⟨w.heap.size, 0, none⟩)]) ∧ w.alloc (.cells #[.slice v n c] 49) = w' := by
  go_enter Tryd.func76, Tryd.ntmps76
  go_wp2
  go_ret
  exact ⟨rfl, rfl⟩
/-- What comes in the round k of n: the place, and the digest there. -/
def backEnc (q : List (List Nat)) (n : Nat) (x : Fin n) : Array Value := #[.int .i64 ((n : Int) - 1 - (x.val : Int)), .agg (arr32 (q.getD (n - 1 - x.val) []))]
set_option maxRecDepth 100000 in
set_option maxHeartbeats 2000000 in
theorem backward1_in (F : Fence) (nn : Nat) (hF : F.fn 98) (hro : F.round = none) (hn : 1 ≤ nn) (l Bs b off cap n : Nat) (q : List (List Nat)) (hq : q.length = n) (hreach : n ≤ 1000000) (hcap : n ≤ cap) (hcap' : cap ≤ maxLen)
    (Kp : World → World → Prop) (hKp : ∀ A B : World, Kp A B → B.heap[Bs]? = A.heap[Bs]? ∧ B.heap[b]? = A.heap[b]?) (J Jx : List (Fin n) → World → Prop)
    (hY : ∀ pre (x : Fin n) W, J pre W → pre.length < n → YieldAt F (nn - 1) Tryd.prog l (backEnc q n x) W fun e W' =>
      (e = .returned (.bool true) ∧ J (pre ++ [x]) W' ∧ Kp W W') ∨ (e = .returned (.bool false) ∧ Jx (pre ++ [x]) W'))
    (W : World) (hBs : Has W Bs 49 #[.slice (some ⟨b, off, none⟩) n cap]) (hS : SumsAt W b off q) (h0 : J [] W) :
    CallsIn F nn Tryd.prog 98 #[.func (.yield l) #[] #[], .pointer (some ⟨Bs, 0, none⟩)] W fun e W' => (∃ v, e = .returned v) ∧
      ((∃ ys, ys = List.finRange n ∧ J ys W') ∨ (∃ pre, True ∧ Jx pre W')) := by
  unfold maxLen at hcap'
  have hcell0 : W.cell? ⟨Bs, 0, none⟩ = some (.slice (some ⟨b, off, none⟩) n cap) := hBs.cell 0
  refine callsIn_of_wp Tryd.func98 rfl hF ?_ hro
  simp only [Tryd.ntmps98, List.size_toArray, List.length_cons, List.length_nil, Nat.reduceAdd, Nat.reduceSub, Array.replicate_succ, Array.replicate_zero, List.push_toArray, List.append_toArray, List.nil_append, List.cons_append]
  gi_wp2
  gi_loopw [3] (fun i wr => ∃ (k : Nat) (x : Int), k ≤ n ∧ i = .int .i64 x ∧ x = (n : Int) - 1 - (k : Int) ∧ J (firsts n k) wr ∧ Has wr Bs 49 #[.slice (some ⟨b, off, none⟩) n cap] ∧ wr.heap[b]? = W.heap[b]?)
    (fun i _ => (intOf i + 1).toNat)
  case atStart => exact ⟨0, _, Nat.zero_le _, rfl, by go_num, h0, hBs, rfl⟩
  case round =>
    obtain ⟨k, x, hk, rfl, hx, hJs, hB, hb⟩ := hrel
    have hcell : wr.cell? ⟨Bs, 0, none⟩ = some (.slice (some ⟨b, off, none⟩) n cap) := hB.cell 0
    have HB := Lib.hid hB
    have Hb := Lib.hid hb
    clear hB hb
    by_cases hlt : k < n
    · obtain ⟨j, hj⟩ : ∃ j : Nat, j = n - 1 - k := ⟨_, rfl⟩
      have hxj : x = (j : Int) := by omega
      subst hxj
      have hjn : j < n := by omega
      obtain ⟨p, hp⟩ : ∃ p, q[j]? = some p := ⟨_, List.getElem?_eq_getElem (by omega)⟩
      have hpg : q.getD j [] = p := by rw [List.getD_eq_getElem?_getD, hp]; rfl
      have hpl := (hS j p hp).1
      have hrow : ∀ i u, (arr32 p)[i]? = some u → wr.cell? ((⟨b, off + j * 32, none⟩ : Addr).add i) = some u := fun i u hi => by
        have h := hS.row hp i u hi
        rw [Addr.add_lit] at h ⊢
        rw [show wr.cell? ⟨b, off + j * 32 + i, none⟩ = W.cell? ⟨b, off + j * 32 + i, none⟩ by simp only [World.cell?, Hb.out]]
        exact h
      have henc : backEnc q n ⟨k, hlt⟩ = #[.int .i64 (j : Int), .agg (arr32 p)] := by
        simp only [backEnc]
        rw [← hj, hpg, ← hx]
      have hy0 := hY _ ⟨k, hlt⟩ wr hJs (by rw [firsts_length _ _ hk]; exact hlt)
      rw [henc] at hy0
      obtain ⟨fn, tmps, assign, body, hy, hR⟩ := hy0
      clear henc
      have j0 : (0 : Int) ≤ (j : Int) := by omega
      have j1 : (j : Int) < (n : Int) := by omega
      have HRow := Lib.hid hrow
      have HI := Lib.hid (arr32_info p (by omega))
      have HX := Lib.hid hx
      clear hrow hx hj hpg hp
      gi_wp2_with ((with_reducible refine stopInL (ty := 26) ?_))
      refine armIn_load (ty := 26) ⟨b, off + j * 32, none⟩ (arr32 p) _ HRow.out Tryd.underlying26 HI.out ?j1 ?j2 ?_
      case j1 => rfl
      case j2 => rfl
      gi_wp2
      refine hR.mono ?_
      rintro e W3 (⟨rfl, hJ3, hk3⟩ | ⟨rfl, hJx3⟩)
      · gi_wp2
        go_roundw
        case rel => exact ⟨k + 1, _, by omega, rfl, by have := HX.out; go_num, by rw [firsts_succ _ _ hlt]; exact hJ3, (hKp _ _ hk3).1.trans HB.out, (hKp _ _ hk3).2.trans Hb.out⟩
        case measure => simp [intOf]
      · gi_wp2
        refine bodyPost_ret (results_none rfl _ _ _) rfl ?_
        exact ⟨⟨_, rfl⟩, .inr ⟨_, trivial, hJx3⟩⟩
    · have hkN : k = n := by omega
      have hx0 : ¬ (0 : Int) ≤ x := by omega
      rw [hkN, firsts_all] at hJs
      clear hkN hx
      gi_wp2
      go_end0
      first | exact ⟨⟨_, rfl⟩, .inl ⟨_, rfl, hJs⟩⟩ | exact ⟨⟨_, rfl⟩, .inl hJs⟩
end Go.Proofs.YtcocljghoiacmaaDoor
end
section
namespace Go.Proofs.YtcocljghoiacmaaDoor
open Go.RowKit Go.Hoar Go.Shelf
attribute [local go_sem] Oper.semAt_some
/-- What the first rounds make of the last peak. -/
def accP (q : List (List Nat)) (n : Nat) (last : List Nat) (pre : List (Fin n)) : List Nat := pre.foldl (fun r x => Sha.sha (2 :: (q.getD (n - 1 - x.val) [] ++ r))) last
theorem accP_snoc (q : List (List Nat)) (n : Nat) (last : List Nat) (pre : List (Fin n)) (x : Fin n) : accP q n last (pre ++ [x]) = Sha.sha (2 :: (q.getD (n - 1 - x.val) [] ++ accP q n last pre)) := by simp [accP]
theorem accP_len (q : List (List Nat)) (n : Nat) : ∀ (pre : List (Fin n)) (last : List Nat), last.length = 32 ∧ Sha.Bytes last → (accP q n last pre).length = 32 ∧ Sha.Bytes (accP q n last pre)
  | [], _, h => h
  | _ :: pre, _, _ => accP_len q n pre _ (sha_bytes _)
theorem accP_firsts (q : List (List Nat)) (n : Nat) (hq : n = q.length) (last : List Nat) : ∀ k, k ≤ n → accP q n last (firsts n k) = accOf q last (n - k)
  | 0, _ => by rw [Nat.sub_zero, hq, accOf_end]; simp [firsts, accP]
  | k + 1, h => by
    obtain ⟨p, hp⟩ : ∃ p, q[n - 1 - k]? = some p := ⟨_, List.getElem?_eq_getElem (by omega)⟩
    rw [firsts_succ _ _ (by omega), accP_snoc, accP_firsts q n hq last k (by omega), show n - (k + 1) = n - 1 - k by omega, accOf_step q last p _ hp, List.getD_eq_getElem?_getD, hp, show n - 1 - k + 1 = n - k by omega]
    rfl
set_option maxRecDepth 100000 in
set_option maxHeartbeats 4000000 in
theorem root_main (q : List (List Nat)) (last : List Nat) (hok : SumsOk (q ++ [last])) (m : Nat) (hlen : TreeOk (q.length + 1) (m : Int)) (g off c : Nat) (w : World) (hs : SumsAt w g off (q ++ [last])) (hg : g < w.heap.size) (hc : q.length + 1 ≤ c) (hcm : c ≤ maxLen) (hcon : ConstAt w) (out : List Nat) (hout : Hid (out = accOf q last 0)) :
    Calls Tryd.prog 40 #[.agg #[.int .i64 (m : Int), .slice (some ⟨g, off, none⟩) (q.length + 1) c]] w fun e w' => e = .returned (.tuple #[.agg (arr32 out), .int .i64 0]) ∧ Below w.heap.size w w' := by
  have hll : last.length = 32 ∧ Sha.Bytes last := hok last (by simp)
  have hol : out.length = 32 := by rw [hout.out]; exact (accOf_len _ _ hll _).1
  have HIo := Lib.hid (arr32_info out (by omega))
  have HSo := Lib.hid (zero32_size out (by omega))
  have HIl := Lib.hid (arr32_info last (by omega))
  have HSl := Lib.hid (zero32_size last (by omega))
  have hle : q.length + 1 ≤ 32 := by rw [hlen.2.2]; exact onesF_le _ _
  have hk : ∀ V : World, Calls Tryd.prog 74 #[.agg #[.int .i64 (m : Int), .slice (some ⟨g, off, none⟩) (q.length + 1) c]] V fun e w' => e = .returned (.bool true) ∧ Below V.heap.size V w' := fun V => by
    have := treeOk_any (some ⟨g, off, none⟩) (q.length + 1) c (m : Int) V
    rwa [decide_eq_true hlen] at this
  have hlq : (q ++ [last])[q.length]? = some last := by simp
  have HQ : Hid (∀ j p, q[j]? = some p → (q ++ [last])[j]? = some p) := Lib.hid fun j p h => by rw [List.getElem?_append_left (List.getElem?_eq_some_iff.1 h).1]; exact h
  have HLast : Hid (∀ V, Below w.heap.size w V → ∀ j u, (arr32 last)[j]? = some u → V.cell? ((⟨g, off + q.length * 32, none⟩ : Addr).add j) = some u) := Lib.hid fun V hv => (hs.below hg hv).row hlq
  have hsq : SumsAt w g off q := by
    have := hs.take q.length
    rwa [List.take_left] at this
  have HSq := Lib.hid hsq
  have HOk := Lib.hid hok
  have HEnd := Lib.hid (accOf_end q last)
  have HLL := Lib.hid hll
  have HPk : Hid (∀ x : Fin q.length, (q.getD (q.length - 1 - x.val) []).length = 32) := Lib.hid fun x => by
    rw [List.getD_eq_getElem?_getD, List.getElem?_eq_getElem (by have := x.isLt; omega)]
    exact (hok _ (List.mem_append_left _ (List.getElem_mem _))).1
  have HPb : Hid (∀ x : Fin q.length, Sha.Bytes (q.getD (q.length - 1 - x.val) [])) := Lib.hid fun x => by
    rw [List.getD_eq_getElem?_getD, List.getElem?_eq_getElem (by have := x.isLt; omega)]
    exact (hok _ (List.mem_append_left _ (List.getElem_mem _))).2
  obtain ⟨n, hn⟩ : ∃ n, n = q.length := ⟨_, rfl⟩
  rw [← hn] at hk hle hc HLast HEnd HPk HPb ⊢
  have HK := Lib.hid hk
  have HC := Lib.hid hcon
  have HN := Lib.hid hn
  have HI : Hid ((Tryd.prog.info? 57).map (·.size) = some (#[.int .i64 (m : Int), .slice (some ⟨g, off, none⟩) (n + 1) c] : Array Value).size) := Lib.hid treeInfo
  have k2 : n < c := by omega
  have k3 : ¬ c = n := by omega
  have k4 : n ≤ c := by omega
  have hcm0 := hcm
  unfold maxLen at hcm
  clear hk hs hsq hok hlq hlen hll hn hcon
  refine (callsIn_wide (n := 3)).1 ?_
  refine callsIn_of_wp_marks Tryd.func40 rfl trivial ?_ rfl
  simp only [Tryd.ntmps40, List.size_toArray, List.length_cons, List.length_nil, Nat.reduceAdd, Nat.reduceSub, Array.replicate_succ, Array.replicate_zero, List.push_toArray, List.append_toArray, List.nil_append, List.cons_append]
  gi_wp2_with ((with_reducible refine stopInL (ty := 57) ?_))
  refine gen_world (P := fun W => HeldUp (wpListIn _ _ _ _ _ _ _ W)) (I := fun W => Below w.heap.size w W ∧ Has W w.heap.size 57 #[.int .i64 (m : Int), .slice (some ⟨g, off, none⟩) (n + 1) c] ∧ Has W (w.heap.size + 1) 26 zero32) _ ⟨((Below.refl _ w).alloc (Nat.le_refl _) _).alloc (by simp) _, (Has.fresh_at _ _ _ _ rfl).alloc _, Has.fresh_at _ _ _ _ (by simp)⟩ ?_
  rintro W ⟨hB, hT, hR⟩
  have HB := Lib.hid hB
  have HT := Lib.hid hT
  have HR := Lib.hid hR
  clear hB hT hR
  refine armIn_load (ty := 57) ⟨w.heap.size, 0, none⟩ #[.int .i64 (m : Int), .slice (some ⟨g, off, none⟩) (n + 1) c] _ HT.out.row Tryd.underlying57 HI.out ?j1 ?j2 ?_
  case j1 => rfl
  case j2 => rfl
  gi_wp2_with (fail)
  refine ⟨trivial, ?_⟩
  refine (callsIn_wide.2 (HK.out _)).mono ?_
  rintro e w1 ⟨rfl, hb1⟩
  have HB1 := Lib.hid (HB.out.trans (hb1.mono HB.out.size))
  have HT1 := Lib.hid (HT.out.below hb1 HT.out.lt)
  have HR1 := Lib.hid (HR.out.below hb1 HR.out.lt)
  have t1 : w1.cell? ⟨w.heap.size, 1, none⟩ = some (.slice (some ⟨g, off, none⟩) (n + 1) c) := HT1.out.cell 1
  clear hb1 HB HT HR
  gi_wp2_with ((with_reducible refine stopInL (ty := 26) ?_))
  refine armIn_load (ty := 26) ⟨g, off + n * 32, none⟩ (arr32 last) _ (HLast.out _ HB1.out) Tryd.underlying26 HIl.out ?l1 ?l2 ?_
  case l1 => rfl
  case l2 => rfl
  have HF := Lib.hid (fresh_sum w1)
  gi_wp2_with ((with_reducible refine stopIn (ty := 26) ?_))
  refine armIn_store (ty := 26) w1.heap.size (arr32 last) 26 zero32 HF.out HSl.out HIl.out (arr32_one _) ?m1 ?m2 ?_
  case m1 => rfl
  case m2 => rfl
  refine gen_world (P := fun W => wpListIn _ _ _ _ _ _ _ W) (I := fun V => Below w.heap.size w V ∧ Has V w.heap.size 57 #[.int .i64 (m : Int), .slice (some ⟨g, off, none⟩) (n + 1) c] ∧ Has V (w.heap.size + 1) 26 zero32 ∧ Has V w1.heap.size 26 (arr32 last)) _ ⟨below_setRow (HB1.out.alloc HB1.out.size _) HB1.out.size _, (HT1.out.alloc _).setRow_apart (Nat.ne_of_lt HT1.out.lt), (HR1.out.alloc _).setRow_apart (Nat.ne_of_lt HR1.out.lt), HF.out.setRow⟩ ?_
  rintro V ⟨hB, hT, hR, hX⟩
  have t1 : V.cell? ⟨w.heap.size, 1, none⟩ = some (.slice (some ⟨g, off, none⟩) (n + 1) c) := hT.cell 1
  have HB2 := Lib.hid hB
  have HR2 := Lib.hid hR
  have HX2 := Lib.hid hX
  have hb5 : w.heap.size + 1 < w1.heap.size := HR1.out.lt
  generalize w1.heap.size = b5 at *
  clear hB hT hR hX HB1 HT1 HR1 HF
  gi_wp2_with (fail)
  refine ⟨trivial, ?_⟩
  refine (callsIn_wide.2 (backward_any _ _ _ _)).mono ?_
  rintro e W3 ⟨rfl, hW3⟩
  have hBx : Has W3 V.heap.size 49 #[.slice (some ⟨g, off, none⟩) n c] := hW3 ▸ Has.fresh V _ _
  have hB3 : Below w.heap.size w W3 := hW3 ▸ HB2.out.alloc HB2.out.size _
  have hR3 : Has W3 (w.heap.size + 1) 26 zero32 := hW3 ▸ HR2.out.alloc _
  have hX3 : Has W3 b5 26 (arr32 last) := hW3 ▸ HX2.out.alloc _
  have hVb : b5 < V.heap.size := HX2.out.lt
  have hgw : w.heap.size ≤ V.heap.size := HB2.out.size
  have hs3 := HSq.out.below hg hB3
  have hseq : ∀ nn, 1 ≤ nn → SeqStopsK Fence.wide nn Tryd.prog 98 #[.pointer (some ⟨V.heap.size, 0, none⟩)] (backEnc q n) (fun A B : World => B.heap[V.heap.size]? = A.heap[V.heap.size]? ∧ B.heap[g]? = A.heap[g]?) (fun ys => ys = List.finRange n) (fun _ => True) n W3 := fun nn hnn l J Jx Z hZ _ _ hY h0 =>
    backward1_in Fence.wide nn trivial rfl hnn l V.heap.size g off c n q HN.out.symm (by omega) k4 hcm0 _ (fun _ _ h => h) J Jx hY Z (hBx.below hZ hBx.lt) (hs3.below (by have := hB3.size; omega) hZ) h0
  have hC3 := HC.out.below hB3 rfl
  clear hW3 HB2 HR2 HX2
  gi_wp2_with (fail)
  refine wpIn_rangeFunc_ownH rfl (by omega) (gf := 98) (lb := #[.pointer (some ⟨V.heap.size, 0, none⟩)]) rfl trivial (enters_of Tryd.func98 (by kernel_rfl) rfl) (hseq _ (by omega)) (fun h k => ⟨k.1.trans h.1, k.2.trans h.2⟩) (fun A l o o' hl _ _ _ => ⟨World.putObj_heap_other (by have := hBx.lt; omega), World.putObj_heap_other (by have := hB3.size; omega)⟩) (Below.refl _ _) (fun x => rfl)
    (fun pre A => Has A b5 26 (arr32 (accP q n last pre)) ∧ But b5 W3 A)
    (fun _ _ _ => False) ?own (fun _ _ _ _ _ hs _ _ => hs) ⟨hX3, But.refl _ _⟩
    (fun x a' A => ∃ p, b5 < p ∧ a' = { tmps := #[.agg #[.int .i64 (m : Int), .slice (some ⟨g, off, none⟩) (n + 1) c], .pointer (some ⟨w.heap.size, 0, none⟩), .pointer (some ⟨w.heap.size + 1, 0, none⟩), .int .i64 0, .int .i64 (n : Int), .pointer (some ⟨b5, 0, none⟩), undef, .pointer (some ⟨p, 0, none⟩), .agg #[.int .i64 (m : Int), .slice (some ⟨g, off, none⟩) (n + 1) c], .bool true, .bool false, undef, .pointer (some ⟨w.heap.size, 1, none⟩), .slice (some ⟨g, off, none⟩) (n + 1) c, .int .i64 ((n : Int) + 1), .int .i64 (n : Int), .int .i64 (n : Int), .bool (decide ((n : Int) < 0)), undef, .pointer (some ⟨w.heap.size, 1, none⟩), .slice (some ⟨g, off, none⟩) (n + 1) c, .int .i64 (n : Int), .pointer (some ⟨g, off + n * 32, none⟩), .agg (arr32 last), .pointer (some ⟨w.heap.size, 1, none⟩), .slice (some ⟨g, off, none⟩) (n + 1) c, .int .i64 (n : Int), .slice (some ⟨g, off, none⟩) n c, .func (.func 98) #[] #[.pointer (some ⟨V.heap.size, 0, none⟩)], .int .i64 ((n : Int) - 1 - (x.val : Int)), .agg (arr32 (q.getD (n - 1 - x.val) [])), undef, undef, undef, undef], defers := [] } ∧ Has A p 26 (arr32 (q.getD (n - 1 - x.val) []))) ?ax ?assign ?body ?done ?stop
  case own =>
    intro pre A B row hs hg2 hr
    obtain ⟨hw2, hb2⟩ := hs
    have hlt := hX3.lt
    exact ⟨has_grown hw2 hg2 (fun h => by have := (hr _ h.symm).1; omega), but_grown hb2 hg2 (fun r h => (hr r h).1)⟩
  case ax =>
    rintro x a' _ A B row ⟨p, hp, ha, hP⟩ hg2 hr
    refine ⟨p, hp, ha, hP.grown hg2 (fun e => ?_)⟩
    obtain ⟨_, o, ho, hc2⟩ := hr p e.symm
    rw [show A.heap[p]? = _ from hP] at ho
    cases ho
    cases hc2
  case assign =>
    rintro l pre x Z K hI hKK
    have hpl : (q.getD (n - 1 - x.val) []).length = 32 := HPk.out x
    simp only [backEnc]
    generalize q.getD (n - 1 - x.val) [] = pk at hpl hKK ⊢
    have HF := Lib.hid (fresh_sum Z)
    have HSz := Lib.hid (zero32_size pk (by omega))
    have HIp := Lib.hid (arr32_info pk (by omega))
    gi_wp2_with ((with_reducible refine stopIn (ty := 26) ?_))
    refine armIn_store (ty := 26) Z.heap.size (arr32 pk) 26 zero32 HF.out HSz.out HIp.out (arr32_one _) ?k1 ?k2 ?_
    case k1 => rfl
    case k2 => rfl
    refine gen_world (P := fun W => wpListIn _ _ _ _ _ _ _ W) (I := fun Y => Below Z.heap.size Z Y ∧ Has Y Z.heap.size 26 (arr32 pk)) _ ⟨below_setRow ((Below.refl _ Z).alloc (Nat.le_refl _) _) (Nat.le_refl _) _, HF.out.setRow⟩ ?_
    rintro Y ⟨hBY, hXY⟩
    have hg0 : Z.grownBy Y none := ⟨hBY.os, hBY.tape, hBY.output, hBY.size, fun k hk _ => hBY.block k hk⟩
    have hks : KeepsOthers Z Y := KeepsOthers.of_grownBy hg0 (fun j o e => by cases e)
    have hz5 := hI.1.lt
    have hzs := hI.2.size
    gi_wp2
    refine hKK _ _ (hks.from _) ⟨hBY.block _ (by have := hBx.lt; omega), hBY.block _ (by have := hB3.size; have := hBx.lt; omega)⟩ ⟨hI.1.below hBY hz5, but_grown hI.2 hg0 (fun r e => by cases e)⟩ ⟨Z.heap.size, hz5, rfl, hXY⟩
  case body =>
    rintro l pre x a' Z hlD hl ⟨hX, hBt⟩ ⟨p, hp, rfl, hP⟩ hlt
    have hpl : (q.getD (n - 1 - x.val) []).length = 32 := HPk.out x
    have hpb : Sha.Bytes (q.getD (n - 1 - x.val) []) := HPb.out x
    have hul := accP_len q n pre last HLL.out
    obtain ⟨up, hup⟩ : ∃ up, up = accP q n last pre := ⟨_, rfl⟩
    have hnext := accP_snoc q n last pre x
    rw [← hup] at hX hul hnext
    generalize q.getD (n - 1 - x.val) [] = pk at hpl hpb hP hnext ⊢
    obtain ⟨nu, hnu⟩ : ∃ nu, nu = Sha.sha (2 :: (pk ++ up)) := ⟨_, rfl⟩
    rw [← hnu] at hnext
    have hnl : nu.length = 32 := by rw [hnu]; exact (sha_bytes _).1
    have HIp := Lib.hid (arr32_info pk (by omega))
    have HIu := Lib.hid (arr32_info up (by omega))
    have HIn := Lib.hid (arr32_info nu (by omega))
    have HSn : Hid ((arr32 up).size = (arr32 nu).size) := Lib.hid ((arr32_size up (by omega)).trans (arr32_size nu (by omega)).symm)
    have hCZ : ConstAt Z := fun i hi => (hBt.cell (Nat.lt_of_lt_of_le (block_lt_of_cell (HC.out i hi)) hB3.size) (by have h9 := block_lt_of_cell (HC.out i hi); show (0 : Nat) ≠ b5; have h8 : (0 : Nat) < w.heap.size := h9; omega)).trans (hC3 i hi)
    have HPr := Lib.hid ((pair_any pk up hpl hul.1 hpb hul.2 Z hCZ nu (Lib.hid hnu)).mono fun e w' h => (⟨h.1, h.2.2⟩ : e = .returned (.agg (arr32 nu)) ∧ Below Z.heap.size Z w'))
    have HX := Lib.hid hX
    have HBt := Lib.hid hBt
    have HNx := Lib.hid hnext
    have hz5 := hX.lt
    clear hup hnu hCZ hX hBt hnext
    gi_wp2_with ((with_reducible refine stopInL (ty := 26) ?_))
    refine armIn_load (ty := 26) ⟨p, 0, none⟩ (arr32 pk) _ hP.row Tryd.underlying26 HIp.out ?j1 ?j2 ?_
    case j1 => rfl
    case j2 => rfl
    refine armIn_load (ty := 26) ⟨b5, 0, none⟩ (arr32 up) _ HX.out.row Tryd.underlying26 HIu.out ?j3 ?j4 ?_
    case j3 => rfl
    case j4 => rfl
    gi_wp2_with (first | (refine ⟨trivial, ?_⟩; gi_at_call 69; refine (CallsIn.inRound l (callsIn_wide.2 HPr.out)).mono ?_; rintro e' A' ⟨rfl, hb3⟩) | ((with_reducible refine stopIn (ty := 26) ?_)))
    have HXA := Lib.hid (HX.out.below hb3 hz5)
    refine armIn_store (ty := 26) b5 (arr32 nu) 26 (arr32 up) HXA.out HSn.out HIn.out (arr32_one _) ?k1 ?k2 ?_
    case k1 => rfl
    case k2 => rfl
    refine gen_world (P := fun W => wpListIn _ _ _ _ _ _ _ W) (I := fun Y => But b5 Z Y ∧ Has Y b5 26 (arr32 nu)) _ ⟨(But.of_below hb3).setRow _, HXA.out.setRow⟩ ?_
    rintro Y ⟨hBY, hXY⟩
    have hks : KeepsOthers Z Y := keepsOthers_of_but hBY HX.out
    have hzs := HBt.out.size
    gi_wp2
    exact ⟨hks.from _, ⟨hBY.block _ (by have := hBx.lt; omega) (by omega), hBY.block _ (by have := hB3.size; omega) (by omega)⟩, by rw [HNx.out]; exact hXY, HBt.out.trans hBY⟩
  case done =>
    rintro D xs Z hD rfl ⟨hX, hBt⟩ hKD
    have hfin := accP_firsts q n HN.out last n (Nat.le_refl _)
    rw [firsts_all, Nat.sub_self, ← hout.out] at hfin
    rw [hfin] at hX
    have hRZ := hBt.has hR3 (by omega)
    have hDne1 : D ≠ w.heap.size + 1 := by have := hBx.lt; omega
    have HKD := Lib.hid hKD
    have HX := Lib.hid hX
    have HBt := Lib.hid hBt
    have HRZ := Lib.hid hRZ
    clear hKD hX hBt hRZ hfin
    gi_wp2_with ((with_reducible refine stopInL (ty := 26) ?_))
    refine armIn_load (ty := 26) ⟨b5, 0, none⟩ (arr32 out) _ HX.out.row Tryd.underlying26 HIo.out ?j1 ?j2 ?_
    case j1 => rfl
    case j2 => rfl
    refine armIn_store (ty := 26) (w.heap.size + 1) (arr32 out) 26 zero32 HRZ.out HSo.out HIo.out (arr32_one _) ?k1 ?k2 ?_
    case k1 => rfl
    case k2 => rfl
    have HRow := Lib.hid (HRZ.out.setRow (cs' := arr32 out))
    gi_wp2
    have hD6 : (Z.setRow (w.heap.size + 1) (arr32 out)).heap[D]? = some (.deferred (some [])) := (setRow_heap_other _ _ _ _ hDne1).trans HKD.out
    refine ⟨by simp, .inl ⟨_, _, rfl, run_takeDeferred hD6, ?_⟩⟩
    have hRow7 : Has ((Z.setRow (w.heap.size + 1) (arr32 out)).putObj D (.deferred none)) (w.heap.size + 1) 26 (arr32 out) := (World.putObj_heap_other (Ne.symm hDne1)).trans HRow.out
    have hBZ : Below w.heap.size w Z := hB3.trans (HBt.out.below (by omega) hB3.size)
    refine ⟨_, results_row_tmp rfl _ _ (w.heap.size + 1) 26 (arr32 out) (0, 0) _ rfl hRow7 rfl Tryd.underlying26 HIo.out, rfl, ?_⟩
    exact (below_setRow hBZ (by omega) _).grown (grownBy_putObj' _ D (.deferred none)) (by have := hBZ.size; simpa using this) (fun k e => by cases e; have := hB3.size; omega)
  case stop =>
    rintro D cc pre Z _ _ h _
    exact h.elim
end Go.Proofs.YtcocljghoiacmaaDoor
end
section
namespace Go.Proofs.YtcocljghoiacmaaDoor
open Go.RowKit Go.Hoar
noncomputable def growOps (k : Nat) : Array Oper := (Tryd.f39.body.bind (opsAt k)).getD #[]
theorem own_empty_sums (V : World) (base : Nat) (hb : base ≤ V.heap.size) : (V.alloc (.cells #[] 26)).ownsRow base 26 32 (.slice (some ⟨V.heap.size, 0, none⟩) 0 0) 0 [] :=
  ⟨rfl, .inr ⟨V.heap.size, 0, #[], rfl, hb, heap_alloc_new V _, Nat.le_refl _, Nat.zero_le _, rfl, rfl⟩⟩
/-- An append of whatever digests lie in memory to a row of one's own. -/
theorem wpList_append_sums {ops : Array Oper} {rest : List Oper} {o : Oper} {a : Act} {w : World} {Q : Exit → Act → World → Prop} (hgd : o.guard = none) (s x : Operand)
    (ho : o.op = .call { callee := .builtin .append, args := #[s, x], argTypes := #[49, 49] })
    (base : Nat) (v : Value) (n : Nat) (xs : List Value) (hs : a.eval s = v) (hown : w.ownsRow base 26 32 v n xs) (b : Option Addr) (c : Nat) (ls : List (List Nat)) (hx : a.eval x = .slice b ls.length c) (hr : RowOk w b c ls) (hok : SumsOk ls) (hn : n + ls.length ≤ 1000000) (hbase : base ≤ w.heap.size)
    (h : ∀ v' w', w'.ownsRow base 26 32 v' (n + ls.length) (xs ++ ls.flatMap cellsOf) → w.grownBy w' v.ownBlock → wpList Tryd.prog ops Q rest (a.put o.dst v') w') : wpList Tryd.prog ops Q (o :: rest) a w := by
  obtain ⟨i0, hi0, hz0, hz1, hz2⟩ := info_parts sumInfo3
  rcases hr with ⟨rfl, rfl, rfl⟩ | ⟨g, off, rfl, hg, hs', hc, hm⟩
  · refine wpList_append_own_none hgd s x 49 ho base 26 i0 32 Tryd.underlying49 hi0 v n xs hs hown hx ?_
    exact h v w (by simpa using hown) (World.grownBy.refl _ _)
  · exact wpList_append_own _ hgd s x 49 ho base 26 i0 _ 32 32 Tryd.underlying49 hi0 hz0 hz1 hz2 rfl (by decide) v n xs hs hown ⟨g, off, none⟩ ls.length c (ls.flatMap cellsOf) hx (cells_flat_len hok) (fun j u hj => by rw [Addr.add_lit]; exact sums_cells hs' hok j u hj) (cells_flat_one ls) (by unfold maxLen; omega) (by omega) hbase (fun v' w' h1 h2 _ => h v' w' h1 h2)
set_option maxRecDepth 100000 in
set_option maxHeartbeats 1000000 in
theorem refGrow_wrong (a : Option Addr) (n c : Nat) (many : Int) (x : Array Value) (_hn : n ≤ 1000000) (w : World) (h : ¬ TreeOk n many) :
    Calls Tryd.prog 39 #[.int .i64 many, .slice a n c, .agg x] w fun e w' => e = .returned (.tuple #[.int .i64 0, .slice none 0 0, .int .i64 14]) ∧ Below w.heap.size w w' := by
  by_cases g0 : 0 ≤ many
  · by_cases g1 : many ≤ 1073741824
    · obtain ⟨m, rfl⟩ := Int.eq_ofNat_of_zero_le g0
      have g2 : n ≠ ones m := fun e => h ⟨g0, g1, by rw [Int.toNat_natCast]; exact e⟩
      have HP := Lib.hid fun V : World => refPow_any m (by omega) V
      have hle : ones m ≤ 32 := onesF_le _ _
      generalize ones m = o at g2 HP hle
      have hd : ((n : Int) != (o : Int)) = true := by rw [bne_iff_ne]; omega
      have k0 : ¬ (m : Int) < 0 := by omega
      have k1 : ¬ (1073741824 : Int) < (m : Int) := by omega
      clear h g2
      go_enter Tryd.func39, Tryd.ntmps39
      go_wp2_with (go_at_call 75; (with_reducible refine (HP.out _).mono ?_); rintro e w1 ⟨rfl, rfl⟩)
      go_ret3
      exact ⟨rfl, (Below.refl _ w).alloc (Nat.le_refl _) _⟩
    · have k0 : ¬ many < 0 := by omega
      have k1 : (1073741824 : Int) < many := by omega
      clear h
      go_enter Tryd.func39, Tryd.ntmps39
      go_wp2
      go_ret3
      exact ⟨rfl, (Below.refl _ w).alloc (Nat.le_refl _) _⟩
  · have k0 : many < 0 := by omega
    clear h
    go_enter Tryd.func39, Tryd.ntmps39
    go_wp2
    go_ret3
    exact ⟨rfl, (Below.refl _ w).alloc (Nat.le_refl _) _⟩
set_option maxRecDepth 100000 in
set_option maxHeartbeats 1000000 in
theorem refGrow_full (a : Option Addr) (c : Nat) (x : Array Value) (w : World) :
    Calls Tryd.prog 39 #[.int .i64 1073741824, .slice a 1 c, .agg x] w fun e w' => e = .returned (.tuple #[.int .i64 0, .slice none 0 0, .int .i64 12]) ∧ Below w.heap.size w w' := by
  have hp : ∀ V : World, Calls Tryd.prog 75 #[.int .i64 1073741824] V fun e w' => e = .returned (.int .i64 1) ∧ V = w' := fun V => by
    have := refPow_any 1073741824 (by omega) V
    rwa [show ones 1073741824 = 1 by decide +kernel] at this
  have HP := Lib.hid hp
  clear hp
  go_enter Tryd.func39, Tryd.ntmps39
  go_wp2_with (go_at_call 75; (with_reducible refine (HP.out _).mono ?_); rintro e w1 ⟨rfl, rfl⟩)
  go_ret3
  exact ⟨rfl, (Below.refl _ w).alloc (Nat.le_refl _) _⟩
set_option maxRecDepth 100000 in
set_option maxHeartbeats 4000000 in
theorem refGrow_main (ps : List (List Nat)) (x : List Nat) (m : Nat) (hps : SumsOk ps) (hx : x.length = 32) (hxb : Sha.Bytes x) (hm : m < 1073741824) (hlen : ps.length = ones m) (a : Option Addr) (c : Nat) (w : World) (hr : RowOk w a c ps) (out : List (List Nat)) (hout : Hid (out = growOf 31 m ps (Sha.sha (1 :: x)))) :
    Calls Tryd.prog 39 #[.int .i64 (m : Int), .slice a ps.length c, .agg (arr32 x)] w fun e w' => ∃ v, e = .returned (.tuple #[.int .i64 ((m : Int) + 1), v, .int .i64 0]) ∧ w'.ownsRow w.heap.size 26 32 v out.length (out.flatMap cellsOf) ∧ Below w.heap.size w w' := by
  obtain ⟨i0, hi0, hz0, hz1, hz2⟩ := info_parts sumInfo3
  obtain ⟨lf, hlf⟩ : ∃ lf, lf = Sha.sha (1 :: x) := ⟨_, rfl⟩
  have hlfb : lf.length = 32 ∧ Sha.Bytes lf := by rw [hlf]; exact sha_bytes _
  have hle : ones m ≤ 32 := onesF_le _ _
  have hpow : ∀ V : World, Calls Tryd.prog 75 #[.int .i64 (m : Int)] V fun e w' => e = .returned (.int .i64 (ps.length : Int)) ∧ V = w' := fun V => by
    have := refPow_any m (by omega) V
    rwa [← hlen] at this
  have HP := Lib.hid hpow
  have HLf : Hid (∀ V : World, Calls Tryd.prog 72 #[.agg (arr32 x)] V fun e w' => e = .returned (.agg (arr32 lf)) ∧ Below V.heap.size V w') := Lib.hid fun V => (refLeaf_any x hx hxb V lf (Lib.hid hlf)).mono fun e w' ⟨h1, _, h2⟩ => ⟨h1, h2⟩
  have HStart : Hid (SumsOk ps ∧ Sha.Bytes lf ∧ ps.length = ones m ∧ growOf 31 m ps lf = out) := Lib.hid ⟨hps, hlfb.2, hlen, by rw [hout.out, hlf]⟩
  have HPs := Lib.hid hps
  have HRw := Lib.hid hr
  have HIx := Lib.hid (arr32_info x (by omega))
  have HIl := Lib.hid (arr32_info lf (by omega))
  have HSl := Lib.hid (zero32_size lf (by omega))
  have hl32 := hlfb.1
  have k0 : ¬ (m : Int) < 0 := by omega
  have k1 : ¬ (1073741824 : Int) < (m : Int) := by omega
  have k2 : ¬ (m : Int) = 1073741824 := by omega
  rw [← hlen] at hle
  clear hpow hps hr hlf hlfb hlen
  go_enter Tryd.func39, Tryd.ntmps39
  go_upto_region 1 with (fail)
  refine gen_world (P := fun W => Code.wp _ _ _ _ W) (I := fun W => Below w.heap.size w W ∧ Has W w.heap.size 26 (arr32 x)) _ ⟨(Below.refl _ w).alloc (Nat.le_refl _) _, Has.fresh_at _ _ _ _ rfl⟩ ?_
  rintro W ⟨hB, hX⟩
  have HB := Lib.hid hB
  have HX := Lib.hid hX
  have HRW := Lib.hid ((HRw.out.below hB).below ((Below.refl _ W).alloc (Nat.le_refl _) (.cells #[] 26)))
  have HOE := Lib.hid (own_empty_sums W (w.heap.size + 1) hX.lt)
  have hszW := hX.lt
  clear hB hX
  go_upto_region 7 with (first
    | (go_at_call 75; (with_reducible refine (HP.out _).mono ?_); rintro e w1 ⟨rfl, rfl⟩)
    | (at_builtin; refine wpList_append_sums rfl _ _ rfl (w.heap.size + 1) _ _ _ rfl HOE.out a c ps rfl HRW.out HPs.out (by omega) (by simp; omega) ?_; intro v5 w5 hown5 hgrow5; rw [Nat.zero_add, List.nil_append] at hown5; have HO5 := Lib.hid hown5; have HB5 : Hid (Below w.heap.size w w5) := Lib.hid ((HB.out.alloc HB.out.size _).grown hgrow5 (by simp; omega) (fun j hj => by have := (HOE.out.lt j hj).1; omega)); have HX5 := Lib.hid ((HX.out.alloc _).grown hgrow5 (fun e => by have := (HOE.out.lt _ e.symm).1; omega)); clear hgrow5 hown5)
    | ((with_reducible refine arm_load ⟨w.heap.size, 0, none⟩ (arr32 x) _ HX5.out.row Tryd.underlying26 HIx.out ?h1 ?h2 ?_); (case h1 => rfl); (case h2 => rfl))
    | (go_at_call 72; (with_reducible refine (HLf.out _).mono ?_); rintro e w6 ⟨rfl, hb6⟩; have HO6 := Lib.hid (own_below HO5.out hb6); have HB6 := Lib.hid (HB5.out.trans (hb6.mono HB5.out.size)); have HF6 := Lib.hid (fresh_sum w6); have hsz6 := hb6.size; clear hb6)
    | ((with_reducible refine arm_store w6.heap.size (arr32 lf) 26 zero32 HF6.out HSl.out HIl.out (arr32_one _) ?h5 ?h6 ?_); (case h5 => rfl); (case h6 => rfl)))
  have hlt6 : ∀ k, v5.ownBlock = some k → k < w6.heap.size := fun k hk => (HO6.out.lt k hk).2
  refine gen_world (P := fun W => Code.wp _ _ _ _ W) (I := fun V => Below w.heap.size w V ∧ Has V w6.heap.size 26 (arr32 lf) ∧ V.ownsRow (w.heap.size + 1) 26 32 v5 ps.length (ps.flatMap cellsOf)) _ ⟨below_setRow (HB6.out.alloc HB6.out.size _) HB6.out.size _, HF6.out.setRow, own_setRow (HO6.out.alloc _) (fun e => by have := hlt6 _ e; omega) _⟩ ?_
  rintro V ⟨hBV, hPV, hOV⟩
  have HBV := Lib.hid hBV
  have HPV := Lib.hid hPV
  have HOV := Lib.hid hOV
  have hw6 : w.heap.size ≤ w6.heap.size := HB6.out.size
  clear hBV hPV hOV HO6 HB6 HF6 HO5 HB5 HX5 HB HX HRW HOE
  go_wp2
  go_loopw [9, 11] (fun v mv wr => ∃ (vv : Value) (m f : Nat) (qs : List (List Nat)) (pk : List Nat), vv = v ∧ mv = .int .i64 (m : Int) ∧ m < 2 ^ f ∧ m < 1073741824 ∧ pk.length = 32 ∧ (∀ k, vv.ownBlock = some k → k < w6.heap.size) ∧ Hid (SumsOk qs ∧ Sha.Bytes pk ∧ qs.length = ones m ∧ growOf f m qs pk = out) ∧
    wr.ownsRow (w.heap.size + 1) 26 32 vv qs.length (qs.flatMap cellsOf) ∧ Has wr w6.heap.size 26 (arr32 pk) ∧ Below w.heap.size w wr) (fun _ mv _ => (intOf mv).toNat)
  case atStart => exact ⟨_, m, 31, ps, lf, rfl, rfl, by omega, hm, hl32, hlt6, HStart, HOV.out, HPV.out, HBV.out⟩
  case round =>
    obtain ⟨vv, m', f, qs, pk, hvv, rfl, hmf, hm1, hpkl, hvlt, HQ, hO, hP, hB⟩ := hrel
    subst hvv
    by_cases hodd : m' % 2 = 1
    · have hmod : (m' : Int) % 2 = 1 := by omega
      obtain ⟨hqok, hpkb, hqn, hqg⟩ := HQ.out
      have hones := ones_step m' (by omega)
      obtain ⟨f, rfl⟩ : ∃ f', f = f' + 1 := ⟨f - 1, by have : f ≠ 0 := (fun e => by subst e; omega); omega⟩
      have hm2 : m' / 2 < 2 ^ f := by rw [Nat.pow_succ] at hmf; omega
      rcases List.eq_nil_or_concat qs with hq0 | ⟨qs', l, hqs⟩
      · rw [hq0] at hqn
        simp at hqn
        omega
      rw [List.concat_eq_append] at hqs
      subst hqs
      obtain ⟨n, hn⟩ : ∃ n, n = qs'.length := ⟨_, rfl⟩
      have hlen : (qs' ++ [l]).length = n + 1 := by rw [hn]; simp
      have hll := hqok l (by simp)
      have hqok2 : SumsOk qs' := fun x hx => hqok x (by simp [hx])
      rw [hlen] at hO
      obtain ⟨a6, c6, rfl, hc6, hcm6⟩ := own_shape hO
      obtain ⟨g6, rfl, hg6b, hg6⟩ := own_addr hO (by omega)
      have hflat : ((qs' ++ [l]).flatMap cellsOf) = qs'.flatMap cellsOf ++ cellsOf l := by rw [List.flatMap_append]; simp
      have hql : (qs'.flatMap cellsOf).length = n * 32 := by rw [cells_flat_len hqok2, hn]
      have hgne : g6 < w6.heap.size := hvlt g6 rfl
      have hrowl : ∀ Z, Below w6.heap.size wr Z → ∀ j u, (arr32 l)[j]? = some u → Z.cell? ((⟨g6, n * 32, none⟩ : Addr).add j) = some u := fun Z hZ j u hj => by
        have h := hO.cells (g := g6) rfl (n * 32 + j) u (by
          rw [hflat, List.getElem?_append_right (by omega), hql, Nat.add_sub_cancel_left, cellsOf, Array.getElem?_toList]
          exact hj)
        rw [Addr.add_lit, Nat.zero_add] at h
        rw [Addr.add_lit]
        exact (hZ.cell hgne).trans h
      have hpop := own_pop hO (m := n) (by omega)
      rw [hflat, List.take_append_of_le_length (by omega), List.take_of_length_le (by omega)] at hpop
      unfold maxLen at hcm6
      obtain ⟨np, hnp⟩ : ∃ np, np = Sha.sha (2 :: (l ++ pk)) := ⟨_, rfl⟩
      have HNp := Lib.hid hnp
      have hnpl : np.length = 32 := by rw [hnp]; exact (sha_bytes _).1
      have hnpb : Sha.Bytes np := by rw [hnp]; exact (sha_bytes _).2
      have HNext : Hid (SumsOk qs' ∧ Sha.Bytes np ∧ qs'.length = ones (m' / 2) ∧ growOf f (m' / 2) qs' np = out) := Lib.hid ⟨hqok2, hnpb, by rw [hlen] at hqn; omega, by
        rw [← hqg, growOf, if_pos hodd, List.dropLast_concat, List.getLastD_concat, hnp]⟩
      have HIL := Lib.hid (arr32_info l (by omega))
      have HIP := Lib.hid (arr32_info pk (by omega))
      have HIN := Lib.hid (arr32_info np (by omega))
      have HSN : Hid ((arr32 pk).size = (arr32 np).size) := Lib.hid ((arr32_size pk (by omega)).trans (arr32_size np (by omega)).symm)
      have HRowL := Lib.hid hrowl
      have HPop := Lib.hid hpop
      have HPr : Hid (∀ V : World, Calls Tryd.prog 73 #[.agg (arr32 l), .agg (arr32 pk)] V fun e w' => e = .returned (.agg (arr32 np)) ∧ Below V.heap.size V w') := Lib.hid fun V => (refInner_any l pk hll.1 hpkl hll.2 hpkb V np HNp).mono fun e w' ⟨h1, _, h2⟩ => ⟨h1, h2⟩
      have HP := Lib.hid hP
      have HB := Lib.hid hB
      have hszr := hP.lt
      have hix : (n : Int) < (n : Int) + 1 := by omega
      have hnc : n ≤ c6 := by omega
      have hnc2 : n < c6 := by omega
      have HN := Lib.hid hn
      clear hO hP hB hrowl hpop hnp hqok hqok2 hll hflat hlen hqg hones hqn HQ hql hn
      go_upto_region 10 with (fail)
      change Code.wp _ (Code.region 10 (growOps 10) true) _ _ _
      refine wp_region_held (S := fun V => Below w6.heap.size wr V) (by kernel_rfl) ?_
      have hsz : (growOps 10).size = 9 := by kernel_rfl
      rw [hsz]
      clear hsz
      refine gen_world (P := fun W' => wpAnyH _ _ _ _ _ _ _ _ W') (I := fun V => Below wr.heap.size wr V) _ (Below.refl _ wr).drew ?_
      rintro V hBV
      have HS0 := Lib.hid (hBV.mono (Nat.le_of_lt HP.out.lt))
      have HXV := Lib.hid (HP.out.below hBV HP.out.lt)
      have HBV2 := Lib.hid hBV
      clear hBV
      have hwk : IntKind.i64.wrap (n : Int) = (n : Int) := IntWalk.i64_in _ (by omega)
      refine wpAnyH_take (i := 0) (oi := ⟨some 38, _, _, _, _, _⟩) (v := ?_) rfl (by kernel_rfl) (by kernel_rfl) (by kernel_rfl) (fun _ _ _ h => h) (Or.inl ⟨by rfl, fun w' hw' => by go_simp; with_reducible rfl⟩) HS0.out ?_
      try simp only [Act.put, List.setIfInBounds_toArray, List.set_cons_succ, List.set_cons_zero]
      refine wpAnyH_take (i := 1) (oi := ⟨some 39, _, _, _, _, _⟩) (v := ?_) rfl (by kernel_rfl) (by kernel_rfl) (by kernel_rfl) (fun _ _ _ h => h) (Or.inl ⟨by rfl, fun w' hw' => by go_simp; with_reducible rfl⟩) HS0.out ?_
      try simp only [Act.put, List.setIfInBounds_toArray, List.set_cons_succ, List.set_cons_zero]
      refine wpAnyH_take (i := 2) (oi := ⟨some 40, _, _, _, _, _⟩) (v := ?_) rfl (by kernel_rfl) (by kernel_rfl) (by kernel_rfl) (fun _ _ _ h => h) (Or.inl ⟨by rfl, fun w' hw' => by go_simp; with_reducible rfl⟩) HS0.out ?_
      try simp only [Act.put, List.setIfInBounds_toArray, List.set_cons_succ, List.set_cons_zero]
      refine wpAnyH_take (i := 3) (oi := ⟨some 41, _, _, _, _, _⟩) (v := ?_) rfl (by kernel_rfl) (by kernel_rfl) (by kernel_rfl) (fun _ _ _ h => h) (Or.inl ⟨by rfl, fun w' hw' => by go_simp; with_reducible rfl⟩) HS0.out ?_
      try simp only [Act.put, List.setIfInBounds_toArray, List.set_cons_succ, List.set_cons_zero]
      refine wpAnyH_take (i := 4) (oi := ⟨some 42, _, _, _, _, _⟩) (v := .pointer (some ⟨g6, n * 32, none⟩)) rfl (by kernel_rfl) (by kernel_rfl) (by kernel_rfl) (fun _ _ _ h => h) (Or.inl ⟨by rfl, fun w' hw' => by go_simp⟩) HS0.out ?_
      try simp only [Act.put, List.setIfInBounds_toArray, List.set_cons_succ, List.set_cons_zero]
      refine wpAnyH_take (i := 5) (oi := ⟨some 43, _, _, _, _, none⟩) (v := .agg (arr32 l)) rfl (by kernel_rfl) (by kernel_rfl) (by kernel_rfl) (fun _ _ _ h => h) (yieldsIf_load ⟨g6, n * 32, none⟩ _ _ HRowL.out Tryd.underlying26 HIL.out rfl rfl) HS0.out ?_
      try simp only [Act.put, List.setIfInBounds_toArray, List.set_cons_succ, List.set_cons_zero]
      clear hwk
      refine wpAnyH_all (rs := [6]) (by kernel_rfl) (by simp) ?_
      intro i hi
      obtain rfl : i = 6 := by simpa using hi
      clear hi
      refine wpOp_step (o := ⟨some 44, _, _, _, _, _⟩) rfl (fun K' hK' => ?_)
      rw [if_pos (show Region.wanted _ _ = true from rfl)]
      refine opw_load ⟨w6.heap.size, 0, none⟩ (arr32 pk) _ HXV.out.row Tryd.underlying26 HIP.out rfl rfl ?_
      refine hK' _ _ ⟨HS0.out, ?_⟩
      clear hK' K'
      try simp only [Act.put, List.setIfInBounds_toArray, List.set_cons_succ, List.set_cons_zero]
      refine wpAnyH_all (rs := [7]) (by kernel_rfl) (by simp) ?_
      intro i hi
      obtain rfl : i = 7 := by simpa using hi
      clear hi
      refine wpOp_step (o := ⟨some 45, _, _, _, _, _⟩) rfl (fun K' hK' => ?_)
      rw [if_pos (show Region.wanted _ _ = true from rfl)]
      go_simp
      (with_reducible refine (HPr.out V).mono ?_)
      rintro e v1 ⟨rfl, hbx⟩
      have HS1 := Lib.hid (HS0.out.trans (hbx.mono (Nat.le_of_lt HXV.out.lt)))
      have HX1 := Lib.hid (HXV.out.below hbx HXV.out.lt)
      have HS1b := Lib.hid (HBV2.out.trans (hbx.mono HBV2.out.size))
      clear hbx
      refine hK' _ _ ⟨HS1.out, ?_⟩
      clear hK' K'
      try simp only [Act.put, List.setIfInBounds_toArray, List.set_cons_succ, List.set_cons_zero]
      refine wpAnyH_all (rs := [8]) (by kernel_rfl) (by simp) ?_
      intro i hi
      obtain rfl : i = 8 := by simpa using hi
      clear hi
      refine wpOp_step (o := ⟨none, _, _, _, _, _⟩) rfl (fun K' hK' => ?_)
      rw [if_pos (show Region.wanted _ _ = true from rfl)]
      refine opw_store w6.heap.size (arr32 np) 26 (arr32 pk) HX1.out HSN.out HIN.out (arr32_one _) rfl rfl ?_
      refine hK' _ _ ⟨below_setRow HS1.out (Nat.le_refl _) _, ?_⟩
      clear hK' K'
      try simp only [Act.put, List.setIfInBounds_toArray, List.set_cons_succ, List.set_cons_zero]
      refine wpAnyH_done (by kernel_rfl) ?_ _
      have HX2 := Lib.hid (HX1.out.setRow (cs' := arr32 np))
      have HO2 := Lib.hid (own_setRow (own_below HPop.out HS1b.out) (fun e => by have h : g6 = w6.heap.size := Option.some.inj e; omega) (arr32 np))
      have HB2 := Lib.hid (below_setRow (HB.out.trans (HS1b.out.mono HB.out.size)) hw6 (arr32 np))
      clear HX1 HS1 HS0 HXV HS1b HBV2
      go_wp2
      go_roundw
      case rel => exact ⟨_, m' / 2, f, qs', np, rfl, by go_num, hm2, by omega, hnpl, fun k hk => by cases hk; exact hgne, HNext, by rw [← HN.out]; exact HO2.out, HX2.out, HB2.out⟩
      case measure => simp [intOf]; omega
    · have hmod : ¬ (m' : Int) % 2 = 1 := by omega
      obtain ⟨hqok, hpkb, hqn, hqg⟩ := HQ.out
      have hout2 : out = qs ++ [pk] := by
        rw [← hqg]
        cases f with
        | zero => rfl
        | succ f => rw [growOf, if_neg hodd]
      have hq32 : qs.length ≤ 32 := by rw [hqn]; exact onesF_le _ _
      have HOut2 := Lib.hid hout2
      have HIP := Lib.hid (arr32_info pk (by omega))
      have HSP := Lib.hid (show (arr32 pk).size = i0.size by rw [arr32_size pk (by omega), hz1])
      have ho32 := arr32_size pk (by omega)
      have HO := Lib.hid hO
      have HP := Lib.hid hP
      have HB := Lib.hid hB
      have hszr := hP.lt
      have hwr : IntKind.i64.wrap ((m : Int) + 1) = (m : Int) + 1 := IntWalk.i64_in _ (by omega)
      clear hO hP hB hqok hqn hqg hout2 HQ
      go_wp2_with (first
        | ((with_reducible refine arm_load ⟨w6.heap.size, 0, none⟩ (arr32 pk) _ HP.out.row Tryd.underlying26 HIP.out ?h1 ?h2 ?_); (case h1 => rfl); (case h2 => rfl))
        | ((with_reducible refine arm_slice1 26 i0 _ (arr32 pk) Tryd.underlying49 hi0 hz0 HSP.out ?s1 ?s2 ?s3 ?_); (case s1 => omega); (case s2 => omega); (case s3 => rfl))
        | (at_builtin; refine wpList_append_own _ rfl _ _ 49 rfl (w.heap.size + 1) 26 i0 _ 32 32 Tryd.underlying49 hi0 hz0 hz1 hz2 rfl (by decide) _ _ _ rfl (HO.out.alloc _) ⟨wr.heap.size, 0, none⟩ 1 1 (cellsOf pk) rfl (by rw [cellsOf_len (by omega)]) (cell_row_new _ _ _) (cellsOf_one _) (by unfold maxLen; omega) (by omega) (by simp; omega) ?_; intro v' w3 hown3 hgrow3 _
           have HO3 := Lib.hid hown3
           have HB3 := Lib.hid ((HB.out.alloc HB.out.size (.cells (arr32 pk) 26)).grown hgrow3 (by simp; omega) (fun j hj => by have := (HO.out.lt j hj).1; omega))
           clear hown3 hgrow3))
      go_ret3
      refine ⟨_, rfl, ?_, HB3.out⟩
      rw [HOut2.out, List.length_append, List.flatMap_append, List.flatMap_cons, List.flatMap_nil, List.append_nil]
      exact own_base HO3.out (Nat.le_succ _)
end Go.Proofs.YtcocljghoiacmaaDoor
end
section
namespace Go.Proofs.YtcocljghoiacmaaDoor
open Go.RowKit Go.Hoar
theorem growOf_ok : ∀ (f m : Nat) (ps : List (List Nat)) (pk : List Nat), SumsOk ps → pk.length = 32 ∧ Sha.Bytes pk → SumsOk (growOf f m ps pk) ∧ (growOf f m ps pk).length ≤ ps.length + 1
  | 0, m, ps, pk, h, k => ⟨fun l hl => by
      rw [growOf, List.mem_append, List.mem_singleton] at hl
      rcases hl with hl | rfl
      · exact h l hl
      · exact k, by rw [growOf]; simp⟩
  | f + 1, m, ps, pk, h, k => by
    rw [growOf]
    split
    · have := growOf_ok f (m / 2) ps.dropLast (Sha.sha (2 :: (ps.getLastD [] ++ pk))) (fun l hl => h l (List.dropLast_subset _ hl)) (sha_bytes _)
      exact ⟨this.1, by have h2 := this.2; rw [List.length_dropLast] at h2; omega⟩
    · exact ⟨fun l hl => by
        rw [List.mem_append, List.mem_singleton] at hl
        rcases hl with hl | rfl
        · exact h l hl
        · exact k, by simp⟩
theorem ones_full : ones 1073741824 = 1 := by decide +kernel
/-- Both grow alike. -/
theorem grow_both (ps : List (List Nat)) (x : List Nat) (many : Int) (hps : SumsOk ps) (hx : x.length = 32) (hxb : Sha.Bytes x) (hpl : ps.length ≤ 60) : ∃ (N : Int) (L : List (List Nat)) (er : Int), SumsOk L ∧ L.length ≤ 61 ∧
    (∀ (V : World) (a : Option Addr) (c : Nat), RowOk V a c ps → ConstAt V → Calls Tryd.prog 38 #[.agg #[.int .i64 many, .slice a ps.length c], .agg (arr32 x)] V fun e w' => ∃ v, e = .returned (.tuple #[.agg #[.int .i64 N, v], .int .i64 er]) ∧ w'.ownsRow V.heap.size 26 32 v L.length (L.flatMap cellsOf) ∧ Below V.heap.size V w') ∧
    (∀ (V : World) (a : Option Addr) (c : Nat), RowOk V a c ps → Calls Tryd.prog 39 #[.int .i64 many, .slice a ps.length c, .agg (arr32 x)] V fun e w' => ∃ v, e = .returned (.tuple #[.int .i64 N, v, .int .i64 er]) ∧ w'.ownsRow V.heap.size 26 32 v L.length (L.flatMap cellsOf) ∧ Below V.heap.size V w') := by
  by_cases hok : TreeOk ps.length many
  · obtain ⟨m, rfl⟩ := Int.eq_ofNat_of_zero_le hok.1
    have hlen : ps.length = ones m := by have := hok.2.2; rwa [Int.toNat_natCast] at this
    have hm : m ≤ 1073741824 := by have := hok.2.1; omega
    by_cases hf : m = 1073741824
    · subst hf
      have h1 : ps.length = 1 := by rw [hlen]; exact ones_full
      refine ⟨0, [], 12, fun l hl => by simp at hl, by simp, fun V a c hr hc => ?_, fun V a c hr => ?_⟩
      · rw [h1]
        exact (treeGrow_full a c (arr32 x) V).mono fun e w' h => ⟨_, h.1, World.ownsRow_nil _ _ _ _, h.2⟩
      · rw [h1]
        exact (refGrow_full a c (arr32 x) V).mono fun e w' h => ⟨_, h.1, World.ownsRow_nil _ _ _ _, h.2⟩
    · have hg := growOf_ok 31 m ps (Sha.sha (1 :: x)) hps (sha_bytes _)
      exact ⟨(m : Int) + 1, growOf 31 m ps (Sha.sha (1 :: x)), 0, hg.1, by have := hg.2; omega, fun V a c hr hc => treeGrow_any ps x m hps hx hxb hok (by omega) a c V hr hc _ (Lib.hid rfl), fun V a c hr => refGrow_main ps x m hps hx hxb (by omega) hlen a c V hr _ (Lib.hid rfl)⟩
  · exact ⟨0, [], 14, fun l hl => by simp at hl, by simp, fun V a c hr hc => (treeGrow_wrong a ps.length c many (arr32 x) V hok).mono fun e w' h => ⟨_, h.1, World.ownsRow_nil _ _ _ _, h.2⟩, fun V a c hr => (refGrow_wrong a ps.length c many (arr32 x) (by omega) V hok).mono fun e w' h => ⟨_, h.1, World.ownsRow_nil _ _ _ _, h.2⟩⟩
theorem arr32_nil : arr32 [] = arr32 (List.replicate 32 0) := rfl
/-- Both have the same root. -/
theorem root_both (ps : List (List Nat)) (many : Int) (hps : SumsOk ps) (hpl : ps.length ≤ 60) : ∃ (A : List Nat) (er : Int), A.length = 32 ∧
    (∀ (V : World) (a : Option Addr) (c : Nat), RowOk V a c ps → ConstAt V → Calls Tryd.prog 40 #[.agg #[.int .i64 many, .slice a ps.length c]] V fun e w' => e = .returned (.tuple #[.agg (arr32 A), .int .i64 er]) ∧ Below V.heap.size V w') ∧
    (∀ (V : World) (a : Option Addr) (c : Nat), RowOk V a c ps → Calls Tryd.prog 41 #[.int .i64 many, .slice a ps.length c] V fun e w' => e = .returned (.tuple #[.agg (arr32 A), .int .i64 er]) ∧ Below V.heap.size V w') := by
  by_cases hok : TreeOk ps.length many
  · obtain ⟨m, rfl⟩ := Int.eq_ofNat_of_zero_le hok.1
    have hlen : ps.length = ones m := by have := hok.2.2; rwa [Int.toNat_natCast] at this
    have hm : m ≤ 1073741824 := by have := hok.2.1; omega
    rcases Nat.eq_zero_or_pos m with h0 | h0
    · subst h0
      obtain rfl : ps = [] := List.length_eq_zero_iff.1 (by rw [hlen]; exact onesF_zero 32)
      exact ⟨Sha.sha [0], 0, (sha_bytes _).1, fun V a c hr hc => root_none a c V hc _ (Lib.hid rfl), fun V a c hr => refRoot_none a c V _ (Lib.hid rfl)⟩
    · have hp := ones_pos h0 (by omega)
      rcases List.eq_nil_or_concat ps with rfl | ⟨q, last, rfl⟩
      · simp at hlen; omega
      · simp only [List.concat_eq_append] at *
        have hl2 : (q ++ [last]).length = q.length + 1 := by simp
        have hll : last.length = 32 ∧ Sha.Bytes last := hps last (by simp)
        rw [hl2] at hok hlen ⊢
        refine ⟨accOf q last 0, 0, (accOf_len _ _ hll _).1, fun V a c hr hc => ?_, fun V a c hr => ?_⟩
        · rcases hr with ⟨_, he, _⟩ | ⟨g, off, rfl, hg, hs, hc1, hcm⟩
          · simp at he
          · exact root_main q last hps m hok g off c V hs hg (by rw [hl2] at hc1; exact hc1) hcm hc _ (Lib.hid rfl)
        · rcases hr with ⟨_, he, _⟩ | ⟨g, off, rfl, hg, hs, hc1, hcm⟩
          · simp at he
          · exact refRoot_main q last hps m h0 hm hlen g off c V hs hg (by rw [hl2] at hc1; exact hc1) hcm _ (Lib.hid rfl)
  · refine ⟨List.replicate 32 0, 14, by simp, fun V a c hr hc => ?_, fun V a c hr => ?_⟩
    · rw [← arr32_nil]
      exact root_wrong a ps.length c many V hok
    · rw [← arr32_nil]
      exact refRoot_wrong a ps.length c many (by omega) V hok
theorem trees_big (many : Int) (x : Array Value) (m : Nat) (hbig : 60 < m) (a : Option Addr) (c : Nat) (w : World) (hc : ConstAt w) :
    Calls Tryd.prog 7 #[.int .i64 many, .slice a m c, .agg x] w fun e w' => e = .returned (.bool true) ∧ Below w.heap.size w w' := by
  have hb2 : (60 : Int) < m := by omega
  have HAw : Hid (∀ V : World, Below w.heap.size w V → Calls Tryd.prog 15 #[] V fun e w' => e = .returned (.bool true) ∧ Below V.heap.size V w') := Lib.hid fun V hV => awake_any V (hc.below hV rfl)
  clear hc hbig
  go_enter Tryd.func7, Tryd.ntmps7
  go_upto_region 1 with (fail)
  refine gen_world (P := fun W => Code.wp _ _ _ _ W) (I := fun W => Below w.heap.size w W) _ ((Below.refl _ w).alloc (Nat.le_refl _) _) ?_
  intro W hB
  have HB := Lib.hid hB
  clear hB
  go_wp2_with (go_at_call 15; (with_reducible refine (HAw.out _ HB.out).mono ?_); rintro e w1 ⟨rfl, hb1⟩; have HB1 := Lib.hid (HB.out.trans (hb1.mono HB.out.size)); clear hb1)
  go_ret
  exact ⟨rfl, HB1.out⟩
set_option maxRecDepth 100000 in
set_option maxHeartbeats 6000000 in
/-- THE LAW's WALK. -/
theorem trees_law (ps : List (List Nat)) (x : List Nat) (hx : x.length = 32) (hxb : Sha.Bytes x) (many : Int) (hok : SumsOk ps) (a : Option Addr) (c : Nat) (w : World) (hr : RowOk w a c ps) (hc : ConstAt w) :
    Calls Tryd.prog 7 #[.int .i64 many, .slice a ps.length c, .agg (arr32 x)] w fun e w' => e = .returned (.bool true) ∧ Below w.heap.size w w' := by
  by_cases hbig : 60 < ps.length
  · exact trees_big many _ ps.length hbig a c w hc
  · have hsm : ¬ (60 : Int) < (ps.length : Int) := by omega
    obtain ⟨N, L, er, hLok, hLl, g1, g2⟩ := grow_both ps x many hok hx hxb (by omega)
    obtain ⟨A, er2, hAl, r1, r2⟩ := root_both ps many hok (by omega)
    obtain ⟨i0, hi0, hz0, hz1, hz2⟩ := info_parts sumInfo3
    have HG1 := Lib.hid g1
    have HG2 := Lib.hid g2
    have HR1 := Lib.hid r1
    have HR2 := Lib.hid r2
    have HC := Lib.hid hc
    have HR := Lib.hid hr
    have HOk := Lib.hid hok
    have HLok := Lib.hid hLok
    have HCl : Hid (∀ V, Below w.heap.size w V → Calls Tryd.prog 32 #[.slice a ps.length c] V fun e w' => ∃ v, e = .returned v ∧ w'.ownsRow V.heap.size 26 32 v ps.length (ps.flatMap cellsOf) ∧ Below V.heap.size V w') := Lib.hid fun V hV => cloneSums_any ps hok (by omega) a c V (hr.below hV)
    have HAw : Hid (∀ V : World, ConstAt V → Calls Tryd.prog 15 #[] V fun e w' => e = .returned (.bool true) ∧ Below V.heap.size V w') := Lib.hid fun V hV => awake_any V hV
    have HIx := Lib.hid (arr32_info x (by omega))
    have HIA := Lib.hid (arr32_info A (by omega))
    have HSA := Lib.hid (zero32_size A (by omega))
    have hnA : ∀ V : World, (binOp .eql 26 (.agg (arr32 A)) (.agg (arr32 A))).run Tryd.prog V = .ok (.bool true) V := fun V => by
      have := sum_eql A A hAl hAl V
      rwa [decide_eq_true rfl] at this
    have HNA := Lib.hid hnA
    have HGd := Lib.hid sum_guard
    have HIt : Hid (∀ (k : Int) (v : Value), (Tryd.prog.info? 57).map (·.size) = some (#[.int .i64 k, v] : Array Value).size) := Lib.hid fun k v => treeInfo
    have HOt : Hid (∀ (k : Int) (b : Option Addr) (n d : Nat), (#[.int .i64 k, .slice b n d] : Array Value).all (·.oneCell') = true) := Lib.hid fun k b n d => by simp [Value.oneCell']
    have hpl : ps.length ≤ 60 := by omega
    clear hc hr hbig g1 g2 r1 r2 hok hLok hnA
    go_enter Tryd.func7, Tryd.ntmps7
    go_upto_region 1 with (fail)
    refine gen_world (P := fun W => Code.wp _ _ _ _ W) (I := fun W => Below w.heap.size w W ∧ Has W w.heap.size 26 (arr32 x)) _ ⟨(Below.refl _ w).alloc (Nat.le_refl _) _, Has.fresh_at _ _ _ _ rfl⟩ ?_
    rintro W ⟨hB, hX⟩
    have HB0 := Lib.hid hB
    have X_0 := Lib.hid hX
    clear hB hX
    go_upto_region 4 with (first
      | (go_at_call 32; (with_reducible refine (HCl.out _ HB0.out).mono ?_); rintro e z3 ⟨v1, rfl, ho1, hb⟩; have X_3c := Lib.hid (X_0.out.below hb X_0.out.lt); have HB3c := Lib.hid (HB0.out.trans (hb.mono HB0.out.size)); clear X_0; have HF3 : Hid (Has (z3.alloc (.cells #[.int .i64 0, .slice none 0 0] 57)) z3.heap.size 57 #[.int .i64 0, .slice none 0 0]) := Lib.hid (Has.fresh z3 57 _); obtain ⟨a1, c1, rfl, hr1, _, _, _⟩ := row_of_own ho1 HOk.out rfl; have R1_3c := Lib.hid hr1; clear ho1 hr1; clear hb)
      | ((with_reducible refine arm_store z3.heap.size (#[.int .i64 many, .slice a1 ps.length c1]) 57 _ HF3.out rfl (HIt.out _ _) (HOt.out _ _ _ _) ?h5 ?h6 ?_); (case h5 => rfl); (case h6 => rfl)))
    refine gen_world (P := fun W => Code.wp _ _ _ _ W) (I := fun Z => Below z3.heap.size z3 Z ∧ Has Z z3.heap.size 57 (#[.int .i64 many, .slice a1 ps.length c1])) _ ⟨below_setRow ((Below.refl _ z3).alloc (Nat.le_refl _) _) (Nat.le_refl _) _, HF3.out.setRow⟩ ?_
    rintro U3 ⟨hb, hN⟩
    have T7_3 := Lib.hid hN
    have X_3 := Lib.hid (X_3c.out.below hb X_3c.out.lt)
    have R1_3 := Lib.hid (R1_3c.out.below hb)
    have HB3 := Lib.hid (HB3c.out.trans (hb.mono HB3c.out.size))
    clear X_3c
    clear R1_3c
    clear hb hN HF3
    have T7k := T7_3
    have R1k := R1_3
    have HB3k := HB3
    have BK_3 : Hid (Below U3.heap.size U3 U3) := Lib.hid (Below.refl _ U3)
    go_upto_region 5 with (first
      | ((with_reducible refine arm_load ⟨z3.heap.size, 0, none⟩ #[.int .i64 many, .slice a1 ps.length c1] _ T7_3.out.row Tryd.underlying57 (HIt.out _ _) ?h1 ?h2 ?_); (case h1 => rfl); (case h2 => rfl))
      | ((with_reducible refine arm_load ⟨w.heap.size, 0, none⟩ (arr32 x) _ X_3.out.row Tryd.underlying26 HIx.out ?h1 ?h2 ?_); (case h1 => rfl); (case h2 => rfl))
      | (go_at_call 38; (with_reducible refine (HG1.out _ _ _ R1_3.out (HC.out.below HB3.out rfl)).mono ?_); rintro e z4 ⟨v4, rfl, ho4, hb⟩; have X_4c := Lib.hid (X_3.out.below hb X_3.out.lt); have R1_4c := Lib.hid (R1_3.out.below hb); have T7_4c := Lib.hid (T7_3.out.below hb T7_3.out.lt); have BK_4c := Lib.hid (BK_3.out.trans (hb.mono BK_3.out.size)); have HB4c := Lib.hid (HB3.out.trans (hb.mono HB3.out.size)); clear X_3; clear R1_3; clear T7_3; clear BK_3; have HF4 : Hid (Has (z4.alloc (.cells #[.int .i64 0, .slice none 0 0] 57)) z4.heap.size 57 #[.int .i64 0, .slice none 0 0]) := Lib.hid (Has.fresh z4 57 _); obtain ⟨a4, c4, rfl, _, _⟩ := own_shape ho4; have O4_4c := Lib.hid ho4; clear ho4; clear hb)
      | ((with_reducible refine arm_store z4.heap.size (#[.int .i64 N, .slice a4 L.length c4]) 57 _ HF4.out rfl (HIt.out _ _) (HOt.out _ _ _ _) ?h5 ?h6 ?_); (case h5 => rfl); (case h6 => rfl)))
    refine gen_world (P := fun W => Code.wp _ _ _ _ W) (I := fun Z => Below z4.heap.size z4 Z ∧ Has Z z4.heap.size 57 (#[.int .i64 N, .slice a4 L.length c4])) _ ⟨below_setRow ((Below.refl _ z4).alloc (Nat.le_refl _) _) (Nat.le_refl _) _, HF4.out.setRow⟩ ?_
    rintro U4 ⟨hb, hN⟩
    have T8_4 := Lib.hid hN
    have X_4 := Lib.hid (X_4c.out.below hb X_4c.out.lt)
    have R1_4 := Lib.hid (R1_4c.out.below hb)
    have T7_4 := Lib.hid (T7_4c.out.below hb T7_4c.out.lt)
    have BK_4 := Lib.hid (BK_4c.out.trans (hb.mono BK_4c.out.size))
    have O4_4 := Lib.hid (own_below O4_4c.out hb)
    have HB4 := Lib.hid (HB4c.out.trans (hb.mono HB4c.out.size))
    clear X_4c
    clear R1_4c
    clear T7_4c
    clear BK_4c
    clear O4_4c
    clear hb hN HF4
    go_upto_region 6 with (first
      | ((with_reducible refine arm_load ⟨w.heap.size, 0, none⟩ (arr32 x) _ X_4.out.row Tryd.underlying26 HIx.out ?h1 ?h2 ?_); (case h1 => rfl); (case h2 => rfl))
      | (go_at_call 39; (with_reducible refine (HG2.out _ _ _ (HR.out.below HB4.out)).mono ?_); rintro e z5 ⟨v5, rfl, ho5, hb⟩; obtain ⟨a5, c5, rfl, hr5, _, _, _⟩ := row_of_own ho5 HLok.out rfl; have R5_5 := Lib.hid hr5; clear ho5 hr5; have X_5 := Lib.hid (X_4.out.below hb X_4.out.lt); have R1_5 := Lib.hid (R1_4.out.below hb); have T7_5 := Lib.hid (T7_4.out.below hb T7_4.out.lt); have BK_5 := Lib.hid (BK_4.out.trans (hb.mono BK_4.out.size)); have O4_5 := Lib.hid (own_below O4_4.out hb); have T8_5 := Lib.hid (T8_4.out.below hb T8_4.out.lt); have HB5 := Lib.hid (HB4.out.trans (hb.mono HB4.out.size)); clear X_4; clear R1_4; clear T7_4; clear BK_4; clear O4_4; clear T8_4; clear hb))
    go_upto_region 7 with (first
      | ((with_reducible refine arm_load ⟨z3.heap.size, 0, none⟩ #[.int .i64 many, .slice a1 ps.length c1] _ T7_5.out.row Tryd.underlying57 (HIt.out _ _) ?h1 ?h2 ?_); (case h1 => rfl); (case h2 => rfl))
      | (go_at_call 40; (with_reducible refine (HR1.out _ _ _ R1_5.out (HC.out.below HB5.out rfl)).mono ?_); rintro e z6 ⟨rfl, hb⟩; have X_6c := Lib.hid (X_5.out.below hb X_5.out.lt); have R1_6c := Lib.hid (R1_5.out.below hb); have T7_6c := Lib.hid (T7_5.out.below hb T7_5.out.lt); have BK_6c := Lib.hid (BK_5.out.trans (hb.mono BK_5.out.size)); have O4_6c := Lib.hid (own_below O4_5.out hb); have T8_6c := Lib.hid (T8_5.out.below hb T8_5.out.lt); have R5_6c := Lib.hid (R5_5.out.below hb); have HB6c := Lib.hid (HB5.out.trans (hb.mono HB5.out.size)); clear X_5; clear R1_5; clear T7_5; clear BK_5; clear O4_5; clear T8_5; clear R5_5; have HF6 : Hid (Has (z6.alloc (.cells zero32 26)) z6.heap.size 26 zero32) := Lib.hid (Has.fresh z6 26 _); clear hb)
      | ((with_reducible refine arm_store z6.heap.size (arr32 A) 26 _ HF6.out HSA.out HIA.out (arr32_one _) ?h5 ?h6 ?_); (case h5 => rfl); (case h6 => rfl)))
    refine gen_world (P := fun W => Code.wp _ _ _ _ W) (I := fun Z => Below z6.heap.size z6 Z ∧ Has Z z6.heap.size 26 (arr32 A)) _ ⟨below_setRow ((Below.refl _ z6).alloc (Nat.le_refl _) _) (Nat.le_refl _) _, HF6.out.setRow⟩ ?_
    rintro U6 ⟨hb, hN⟩
    have S13_6 := Lib.hid hN
    have X_6 := Lib.hid (X_6c.out.below hb X_6c.out.lt)
    have R1_6 := Lib.hid (R1_6c.out.below hb)
    have T7_6 := Lib.hid (T7_6c.out.below hb T7_6c.out.lt)
    have BK_6 := Lib.hid (BK_6c.out.trans (hb.mono BK_6c.out.size))
    have O4_6 := Lib.hid (own_below O4_6c.out hb)
    have T8_6 := Lib.hid (T8_6c.out.below hb T8_6c.out.lt)
    have R5_6 := Lib.hid (R5_6c.out.below hb)
    have HB6 := Lib.hid (HB6c.out.trans (hb.mono HB6c.out.size))
    clear X_6c
    clear R1_6c
    clear T7_6c
    clear BK_6c
    clear O4_6c
    clear T8_6c
    clear R5_6c
    clear hb hN HF6
    go_upto_region 8 with (first
      | (go_at_call 41; (with_reducible refine (HR2.out _ _ _ (HR.out.below HB6.out)).mono ?_); rintro e z7 ⟨rfl, hb⟩; have X_7c := Lib.hid (X_6.out.below hb X_6.out.lt); have R1_7c := Lib.hid (R1_6.out.below hb); have T7_7c := Lib.hid (T7_6.out.below hb T7_6.out.lt); have BK_7c := Lib.hid (BK_6.out.trans (hb.mono BK_6.out.size)); have O4_7c := Lib.hid (own_below O4_6.out hb); have T8_7c := Lib.hid (T8_6.out.below hb T8_6.out.lt); have R5_7c := Lib.hid (R5_6.out.below hb); have S13_7c := Lib.hid (S13_6.out.below hb S13_6.out.lt); have HB7c := Lib.hid (HB6.out.trans (hb.mono HB6.out.size)); clear X_6; clear R1_6; clear T7_6; clear BK_6; clear O4_6; clear T8_6; clear R5_6; clear S13_6; have HF7 : Hid (Has (z7.alloc (.cells zero32 26)) z7.heap.size 26 zero32) := Lib.hid (Has.fresh z7 26 _); clear hb)
      | ((with_reducible refine arm_store z7.heap.size (arr32 A) 26 _ HF7.out HSA.out HIA.out (arr32_one _) ?h5 ?h6 ?_); (case h5 => rfl); (case h6 => rfl)))
    refine gen_world (P := fun W => Code.wp _ _ _ _ W) (I := fun Z => Below z7.heap.size z7 Z ∧ Has Z z7.heap.size 26 (arr32 A)) _ ⟨below_setRow ((Below.refl _ z7).alloc (Nat.le_refl _) _) (Nat.le_refl _) _, HF7.out.setRow⟩ ?_
    rintro U7 ⟨hb, hN⟩
    have S15_7 := Lib.hid hN
    have X_7 := Lib.hid (X_7c.out.below hb X_7c.out.lt)
    have R1_7 := Lib.hid (R1_7c.out.below hb)
    have T7_7 := Lib.hid (T7_7c.out.below hb T7_7c.out.lt)
    have BK_7 := Lib.hid (BK_7c.out.trans (hb.mono BK_7c.out.size))
    have O4_7 := Lib.hid (own_below O4_7c.out hb)
    have T8_7 := Lib.hid (T8_7c.out.below hb T8_7c.out.lt)
    have R5_7 := Lib.hid (R5_7c.out.below hb)
    have S13_7 := Lib.hid (S13_7c.out.below hb S13_7c.out.lt)
    have HB7 := Lib.hid (HB7c.out.trans (hb.mono HB7c.out.size))
    clear X_7c
    clear R1_7c
    clear T7_7c
    clear BK_7c
    clear O4_7c
    clear T8_7c
    clear R5_7c
    clear S13_7c
    clear hb hN HF7
    have u0 : U7.cell? ⟨z4.heap.size, 0, none⟩ = some (.int .i64 N) := T8_7.out.cell 0
    have u1 : U7.cell? ⟨z4.heap.size, 1, none⟩ = some (.slice a4 L.length c4) := T8_7.out.cell 1
    obtain ⟨a4', c4', hv4, hr4, _⟩ := row_of_own O4_7.out HLok.out rfl
    simp only [Value.slice.injEq, true_and] at hv4
    obtain ⟨rfl, rfl⟩ := hv4
    have R4_7 := Lib.hid hr4
    clear hr4
    have hnA := HNA.out
    have hgd := HGd.out
    go_upto_region 9 with (first
      | ((with_reducible refine arm_load_g ⟨z6.heap.size, 0, none⟩ (arr32 A) _ S13_8.out.row Tryd.underlying26 HIA.out ?h1 ?h2 ?h3 ?_); (case h1 => rfl); (case h2 => rfl); (case h3 => rfl))
      | ((with_reducible refine arm_load_g ⟨z7.heap.size, 0, none⟩ (arr32 A) _ S15_8.out.row Tryd.underlying26 HIA.out ?h1 ?h2 ?h3 ?_); (case h1 => rfl); (case h2 => rfl); (case h3 => rfl))
      | (go_at_call 37; (with_reducible refine (sumsEqual_same L HLok.out (by omega) _ _ _ _ _ R4_7.out R5_7.out).mono ?_); rintro e z8 ⟨rfl, hb⟩; have O4_8 := Lib.hid (own_below O4_7.out hb); have S13_8 := Lib.hid (S13_7.out.below hb S13_7.out.lt); have S15_8 := Lib.hid (S15_7.out.below hb S15_7.out.lt); have BK_8 := Lib.hid (BK_7.out.trans (hb.mono BK_7.out.size)); have u1 : z8.cell? ⟨z4.heap.size, 1, none⟩ = some (.slice a4 L.length c4) := (hb.cell T8_7.out.lt).trans u1; clear hb))
    go_upto_region 10 with (first
      | ((with_reducible refine wpList_clear_own U3.heap.size _ 32 (.slice a4 L.length c4) _ Tryd.underlying49 i0 _ hi0 hz0 rfl zero32_all (by decide) ?h5 O4_8.out ?_); (case h5 => rfl); intro z9 hg9; have BK_9 := Lib.hid (BK_8.out.grown hg9 BK_8.out.size (fun j hj => (O4_8.out.lt j hj).1)); clear hg9))
    have HB9 := Lib.hid (HB3k.out.trans (BK_9.out.mono HB3k.out.size))
    have T7_9 := Lib.hid (T7k.out.below BK_9.out T7k.out.lt)
    have R1_9 := Lib.hid (R1k.out.below BK_9.out)
    have t0 : z9.cell? ⟨z3.heap.size, 0, none⟩ = some (.int .i64 many) := T7_9.out.cell 0
    have t1 : z9.cell? ⟨z3.heap.size, 1, none⟩ = some (.slice a1 ps.length c1) := T7_9.out.cell 1
    go_wp2_with (first
      | (go_at_call 37; (with_reducible refine (sumsEqual_same ps HOk.out (by omega) _ _ _ _ _ R1_9.out (HR.out.below HB9.out)).mono ?_); rintro e z10 ⟨rfl, hb⟩; have HB10 := Lib.hid (HB9.out.trans (hb.mono HB9.out.size)); clear hb)
      | (go_at_call 15; (with_reducible refine (HAw.out _ (HC.out.below HB10.out rfl)).mono ?_); rintro e z11 ⟨rfl, hb⟩; have HB11 := Lib.hid (HB10.out.trans (hb.mono HB10.out.size)); clear hb))
    go_ret
    exact ⟨rfl, HB11.out⟩
end Go.Proofs.YtcocljghoiacmaaDoor
end
