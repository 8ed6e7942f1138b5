/-
  THE LAWS' joined: a byte and digests, one behind the other, and their digest; rows of slices of bytes.
  · slices.Backward over digests: what it yields, from the last on down.
  · sum.Root: the digest of a tree's list, by its peaks.
  · A TREE OF A LIST: its root, and the tree of the list with one digest more, as the program reckons them.
  · ROWS OF SLICES OF BYTES: each has a block of bytes of its own.
-/
import Derived.Test.YtffdkniahdekjaaDoorMBb
import Derived.Test.YtffdkniahdekjaaDoorMBd
import Derived.Test.YtffdkniahdekjaaDoorMCa
import Derived.Test.YtffdkniahdekjaaDoorMBh
import Derived.Test.YtffdkniahdekjaaDoorMBc
import Derived.Great.BuildSlice
import Derived.Test.YtffdkniahdekjaaDoorMBj
section
namespace Go.Proofs.YtffdkniahdekjaaDoor
open Go.RowKit Go.Hoar Go.Shelf
attribute [local go_sem] Oper.semAt_some
theorem backward_any (v : Option Addr) (n c : Nat) (w : World) :
    Calls Tryd.prog 76 #[.slice v n c] w fun e w' => e = .returned (.func (.func 98) #[] #[.pointer (some ⟨w.heap.size, 0, none⟩)]) ∧ w.alloc (.cells #[.slice v n c] 49) = w' := by
  go_enter Tryd.func76, Tryd.ntmps76
  go_wp2
  go_ret
  exact ⟨rfl, rfl⟩
/-- What comes in the round k of n: the place, and the digest there. -/
def backEnc (q : List (List Nat)) (n : Nat) (x : Fin n) : Array Value := #[.int .i64 ((n : Int) - 1 - (x.val : Int)), .agg (arr32 (q.getD (n - 1 - x.val) []))]
set_option maxRecDepth 100000 in
set_option maxHeartbeats 2000000 in
theorem backward1_in (F : Fence) (nn : Nat) (hF : F.fn 98) (hro : F.round = none) (hn : 1 ≤ nn) (l Bs b off cap n : Nat) (q : List (List Nat)) (hq : q.length = n) (hreach : n ≤ 1000000) (hcap : n ≤ cap) (hcap' : cap ≤ maxLen)
    (Kp : World → World → Prop) (hKp : ∀ A B : World, Kp A B → B.heap[Bs]? = A.heap[Bs]? ∧ B.heap[b]? = A.heap[b]?) (J Jx : List (Fin n) → World → Prop)
    (hY : ∀ pre (x : Fin n) W, J pre W → pre.length < n → YieldAt F (nn - 1) Tryd.prog l (backEnc q n x) W fun e W' =>
      (e = .returned (.bool true) ∧ J (pre ++ [x]) W' ∧ Kp W W') ∨ (e = .returned (.bool false) ∧ Jx (pre ++ [x]) W'))
    (W : World) (hBs : Has W Bs 49 #[.slice (some ⟨b, off, none⟩) n cap]) (hS : SumsAt W b off q) (h0 : J [] W) :
    CallsIn F nn Tryd.prog 98 #[.func (.yield l) #[] #[], .pointer (some ⟨Bs, 0, none⟩)] W fun e W' => (∃ v, e = .returned v) ∧
      ((∃ ys, ys = List.finRange n ∧ J ys W') ∨ (∃ pre, True ∧ Jx pre W')) := by
  unfold maxLen at hcap'
  have hcell0 : W.cell? ⟨Bs, 0, none⟩ = some (.slice (some ⟨b, off, none⟩) n cap) := hBs.cell 0
  refine callsIn_of_wp Tryd.func98 rfl hF ?_ hro
  simp only [Tryd.ntmps98, List.size_toArray, List.length_cons, List.length_nil, Nat.reduceAdd, Nat.reduceSub, Array.replicate_succ, Array.replicate_zero, List.push_toArray, List.append_toArray, List.nil_append, List.cons_append]
  gi_wp2
  gi_loopw [3] (fun i wr => ∃ (k : Nat) (x : Int), k ≤ n ∧ i = .int .i64 x ∧ x = (n : Int) - 1 - (k : Int) ∧ J (firsts n k) wr ∧ Has wr Bs 49 #[.slice (some ⟨b, off, none⟩) n cap] ∧ wr.heap[b]? = W.heap[b]?)
    (fun i _ => (intOf i + 1).toNat)
  case atStart => exact ⟨0, _, Nat.zero_le _, rfl, by go_num, h0, hBs, rfl⟩
  case round =>
    obtain ⟨k, x, hk, rfl, hx, hJs, hB, hb⟩ := hrel
    have hcell : wr.cell? ⟨Bs, 0, none⟩ = some (.slice (some ⟨b, off, none⟩) n cap) := hB.cell 0
    have HB := Lib.hid hB
    have Hb := Lib.hid hb
    clear hB hb
    by_cases hlt : k < n
    · obtain ⟨j, hj⟩ : ∃ j : Nat, j = n - 1 - k := ⟨_, rfl⟩
      have hxj : x = (j : Int) := by omega
      subst hxj
      have hjn : j < n := by omega
      obtain ⟨p, hp⟩ : ∃ p, q[j]? = some p := ⟨_, List.getElem?_eq_getElem (by omega)⟩
      have hpg : q.getD j [] = p := by rw [List.getD_eq_getElem?_getD, hp]; rfl
      have hpl := (hS j p hp).1
      have hrow : ∀ i u, (arr32 p)[i]? = some u → wr.cell? ((⟨b, off + j * 32, none⟩ : Addr).add i) = some u := fun i u hi => by
        have h := hS.row hp i u hi
        rw [Addr.add_lit] at h ⊢
        rw [show wr.cell? ⟨b, off + j * 32 + i, none⟩ = W.cell? ⟨b, off + j * 32 + i, none⟩ by simp only [World.cell?, Hb.out]]
        exact h
      have henc : backEnc q n ⟨k, hlt⟩ = #[.int .i64 (j : Int), .agg (arr32 p)] := by
        simp only [backEnc]
        rw [← hj, hpg, ← hx]
      have hy0 := hY _ ⟨k, hlt⟩ wr hJs (by rw [firsts_length _ _ hk]; exact hlt)
      rw [henc] at hy0
      obtain ⟨fn, tmps, assign, body, hy, hR⟩ := hy0
      clear henc
      have j0 : (0 : Int) ≤ (j : Int) := by omega
      have j1 : (j : Int) < (n : Int) := by omega
      have HRow := Lib.hid hrow
      have HI := Lib.hid (arr32_info p (by omega))
      have HX := Lib.hid hx
      clear hrow hx hj hpg hp
      gi_wp2_with ((with_reducible refine stopInL (ty := 26) ?_))
      refine armIn_load (ty := 26) ⟨b, off + j * 32, none⟩ (arr32 p) _ HRow.out Tryd.underlying26 HI.out ?j1 ?j2 ?_
      case j1 => rfl
      case j2 => rfl
      gi_wp2
      refine hR.mono ?_
      rintro e W3 (⟨rfl, hJ3, hk3⟩ | ⟨rfl, hJx3⟩)
      · gi_wp2
        go_roundw
        case rel => exact ⟨k + 1, _, by omega, rfl, by have := HX.out; go_num, by rw [firsts_succ _ _ hlt]; exact hJ3, (hKp _ _ hk3).1.trans HB.out, (hKp _ _ hk3).2.trans Hb.out⟩
        case measure => simp [intOf]
      · gi_wp2
        refine bodyPost_ret (results_none rfl _ _ _) rfl ?_
        exact ⟨⟨_, rfl⟩, .inr ⟨_, trivial, hJx3⟩⟩
    · have hkN : k = n := by omega
      have hx0 : ¬ (0 : Int) ≤ x := by omega
      rw [hkN, firsts_all] at hJs
      clear hkN hx
      gi_wp2
      go_end0
      first | exact ⟨⟨_, rfl⟩, .inl ⟨_, rfl, hJs⟩⟩ | exact ⟨⟨_, rfl⟩, .inl hJs⟩
end Go.Proofs.YtffdkniahdekjaaDoor
end
section
namespace Go.Proofs.YtffdkniahdekjaaDoor
open Go.RowKit Go.Hoar Go.Shelf
attribute [local go_sem] Oper.semAt_some
/-- What the first rounds make of the last peak. -/
def accP (q : List (List Nat)) (n : Nat) (last : List Nat) (pre : List (Fin n)) : List Nat := pre.foldl (fun r x => Sha.sha (2 :: (q.getD (n - 1 - x.val) [] ++ r))) last
theorem accP_snoc (q : List (List Nat)) (n : Nat) (last : List Nat) (pre : List (Fin n)) (x : Fin n) : accP q n last (pre ++ [x]) = Sha.sha (2 :: (q.getD (n - 1 - x.val) [] ++ accP q n last pre)) := by simp [accP]
theorem accP_len (q : List (List Nat)) (n : Nat) : ∀ (pre : List (Fin n)) (last : List Nat), last.length = 32 ∧ Sha.Bytes last → (accP q n last pre).length = 32 ∧ Sha.Bytes (accP q n last pre)
  | [], _, h => h
  | _ :: pre, _, _ => accP_len q n pre _ (sha_bytes _)
theorem accP_firsts (q : List (List Nat)) (n : Nat) (hq : n = q.length) (last : List Nat) : ∀ k, k ≤ n → accP q n last (firsts n k) = accOf q last (n - k)
  | 0, _ => by rw [Nat.sub_zero, hq, accOf_end]; simp [firsts, accP]
  | k + 1, h => by
    obtain ⟨p, hp⟩ : ∃ p, q[n - 1 - k]? = some p := ⟨_, List.getElem?_eq_getElem (by omega)⟩
    rw [firsts_succ _ _ (by omega), accP_snoc, accP_firsts q n hq last k (by omega), show n - (k + 1) = n - 1 - k by omega, accOf_step q last p _ hp, List.getD_eq_getElem?_getD, hp, show n - 1 - k + 1 = n - k by omega]
    rfl
set_option maxRecDepth 100000 in
set_option maxHeartbeats 4000000 in
theorem root_main (q : List (List Nat)) (last : List Nat) (hok : SumsOk (q ++ [last])) (m : Nat) (hlen : TreeOk (q.length + 1) (m : Int)) (g off c : Nat) (w : World) (hs : SumsAt w g off (q ++ [last])) (hg : g < w.heap.size) (hc : q.length + 1 ≤ c) (hcm : c ≤ maxLen) (hcon : ConstAt w) (out : List Nat) (hout : Hid (out = accOf q last 0)) :
    Calls Tryd.prog 40 #[.agg #[.int .i64 (m : Int), .slice (some ⟨g, off, none⟩) (q.length + 1) c]] w fun e w' => e = .returned (.tuple #[.agg (arr32 out), .int .i64 0]) ∧ Below w.heap.size w w' := by
  have hll : last.length = 32 ∧ Sha.Bytes last := hok last (by simp)
  have hol : out.length = 32 := by rw [hout.out]; exact (accOf_len _ _ hll _).1
  have HIo := Lib.hid (arr32_info out (by omega))
  have HSo := Lib.hid (zero32_size out (by omega))
  have HIl := Lib.hid (arr32_info last (by omega))
  have HSl := Lib.hid (zero32_size last (by omega))
  have hle : q.length + 1 ≤ 32 := by rw [hlen.2.2]; exact onesF_le _ _
  have hk : ∀ V : World, Calls Tryd.prog 74 #[.agg #[.int .i64 (m : Int), .slice (some ⟨g, off, none⟩) (q.length + 1) c]] V fun e w' => e = .returned (.bool true) ∧ Below V.heap.size V w' := fun V => by
    have := treeOk_any (some ⟨g, off, none⟩) (q.length + 1) c (m : Int) V
    rwa [decide_eq_true hlen] at this
  have hlq : (q ++ [last])[q.length]? = some last := by simp
  have HQ : Hid (∀ j p, q[j]? = some p → (q ++ [last])[j]? = some p) := Lib.hid fun j p h => by rw [List.getElem?_append_left (List.getElem?_eq_some_iff.1 h).1]; exact h
  have HLast : Hid (∀ V, Below w.heap.size w V → ∀ j u, (arr32 last)[j]? = some u → V.cell? ((⟨g, off + q.length * 32, none⟩ : Addr).add j) = some u) := Lib.hid fun V hv => (hs.below hg hv).row hlq
  have hsq : SumsAt w g off q := by
    have := hs.take q.length
    rwa [List.take_left] at this
  have HSq := Lib.hid hsq
  have HOk := Lib.hid hok
  have HEnd := Lib.hid (accOf_end q last)
  have HLL := Lib.hid hll
  have HPk : Hid (∀ x : Fin q.length, (q.getD (q.length - 1 - x.val) []).length = 32) := Lib.hid fun x => by
    rw [List.getD_eq_getElem?_getD, List.getElem?_eq_getElem (by have := x.isLt; omega)]
    exact (hok _ (List.mem_append_left _ (List.getElem_mem _))).1
  have HPb : Hid (∀ x : Fin q.length, Sha.Bytes (q.getD (q.length - 1 - x.val) [])) := Lib.hid fun x => by
    rw [List.getD_eq_getElem?_getD, List.getElem?_eq_getElem (by have := x.isLt; omega)]
    exact (hok _ (List.mem_append_left _ (List.getElem_mem _))).2
  obtain ⟨n, hn⟩ : ∃ n, n = q.length := ⟨_, rfl⟩
  rw [← hn] at hk hle hc HLast HEnd HPk HPb ⊢
  have HK := Lib.hid hk
  have HC := Lib.hid hcon
  have HN := Lib.hid hn
  have HI : Hid ((Tryd.prog.info? 57).map (·.size) = some (#[.int .i64 (m : Int), .slice (some ⟨g, off, none⟩) (n + 1) c] : Array Value).size) := Lib.hid treeInfo
  have k2 : n < c := by omega
  have k3 : ¬ c = n := by omega
  have k4 : n ≤ c := by omega
  have hcm0 := hcm
  unfold maxLen at hcm
  clear hk hs hsq hok hlq hlen hll hn hcon
  refine (callsIn_wide (n := 3)).1 ?_
  refine callsIn_of_wp_marks Tryd.func40 rfl trivial ?_ rfl
  simp only [Tryd.ntmps40, List.size_toArray, List.length_cons, List.length_nil, Nat.reduceAdd, Nat.reduceSub, Array.replicate_succ, Array.replicate_zero, List.push_toArray, List.append_toArray, List.nil_append, List.cons_append]
  gi_wp2_with ((with_reducible refine stopInL (ty := 57) ?_))
  refine gen_world (P := fun W => HeldUp (wpListIn _ _ _ _ _ _ _ W)) (I := fun W => Below w.heap.size w W ∧ Has W w.heap.size 57 #[.int .i64 (m : Int), .slice (some ⟨g, off, none⟩) (n + 1) c] ∧ Has W (w.heap.size + 1) 26 zero32) _ ⟨((Below.refl _ w).alloc (Nat.le_refl _) _).alloc (by simp) _, (Has.fresh_at _ _ _ _ rfl).alloc _, Has.fresh_at _ _ _ _ (by simp)⟩ ?_
  rintro W ⟨hB, hT, hR⟩
  have HB := Lib.hid hB
  have HT := Lib.hid hT
  have HR := Lib.hid hR
  clear hB hT hR
  refine armIn_load (ty := 57) ⟨w.heap.size, 0, none⟩ #[.int .i64 (m : Int), .slice (some ⟨g, off, none⟩) (n + 1) c] _ HT.out.row Tryd.underlying57 HI.out ?j1 ?j2 ?_
  case j1 => rfl
  case j2 => rfl
  gi_wp2_with (fail)
  refine ⟨trivial, ?_⟩
  refine (callsIn_wide.2 (HK.out _)).mono ?_
  rintro e w1 ⟨rfl, hb1⟩
  have HB1 := Lib.hid (HB.out.trans (hb1.mono HB.out.size))
  have HT1 := Lib.hid (HT.out.below hb1 HT.out.lt)
  have HR1 := Lib.hid (HR.out.below hb1 HR.out.lt)
  have t1 : w1.cell? ⟨w.heap.size, 1, none⟩ = some (.slice (some ⟨g, off, none⟩) (n + 1) c) := HT1.out.cell 1
  clear hb1 HB HT HR
  gi_wp2_with ((with_reducible refine stopInL (ty := 26) ?_))
  refine armIn_load (ty := 26) ⟨g, off + n * 32, none⟩ (arr32 last) _ (HLast.out _ HB1.out) Tryd.underlying26 HIl.out ?l1 ?l2 ?_
  case l1 => rfl
  case l2 => rfl
  have HF := Lib.hid (fresh_sum w1)
  gi_wp2_with ((with_reducible refine stopIn (ty := 26) ?_))
  refine armIn_store (ty := 26) w1.heap.size (arr32 last) 26 zero32 HF.out HSl.out HIl.out (arr32_one _) ?m1 ?m2 ?_
  case m1 => rfl
  case m2 => rfl
  refine gen_world (P := fun W => wpListIn _ _ _ _ _ _ _ W) (I := fun V => Below w.heap.size w V ∧ Has V w.heap.size 57 #[.int .i64 (m : Int), .slice (some ⟨g, off, none⟩) (n + 1) c] ∧ Has V (w.heap.size + 1) 26 zero32 ∧ Has V w1.heap.size 26 (arr32 last)) _ ⟨below_setRow (HB1.out.alloc HB1.out.size _) HB1.out.size _, (HT1.out.alloc _).setRow_apart (Nat.ne_of_lt HT1.out.lt), (HR1.out.alloc _).setRow_apart (Nat.ne_of_lt HR1.out.lt), HF.out.setRow⟩ ?_
  rintro V ⟨hB, hT, hR, hX⟩
  have t1 : V.cell? ⟨w.heap.size, 1, none⟩ = some (.slice (some ⟨g, off, none⟩) (n + 1) c) := hT.cell 1
  have HB2 := Lib.hid hB
  have HR2 := Lib.hid hR
  have HX2 := Lib.hid hX
  have hb5 : w.heap.size + 1 < w1.heap.size := HR1.out.lt
  generalize w1.heap.size = b5 at *
  clear hB hT hR hX HB1 HT1 HR1 HF
  gi_wp2_with (fail)
  refine ⟨trivial, ?_⟩
  refine (callsIn_wide.2 (backward_any _ _ _ _)).mono ?_
  rintro e W3 ⟨rfl, hW3⟩
  have hBx : Has W3 V.heap.size 49 #[.slice (some ⟨g, off, none⟩) n c] := hW3 ▸ Has.fresh V _ _
  have hB3 : Below w.heap.size w W3 := hW3 ▸ HB2.out.alloc HB2.out.size _
  have hR3 : Has W3 (w.heap.size + 1) 26 zero32 := hW3 ▸ HR2.out.alloc _
  have hX3 : Has W3 b5 26 (arr32 last) := hW3 ▸ HX2.out.alloc _
  have hVb : b5 < V.heap.size := HX2.out.lt
  have hgw : w.heap.size ≤ V.heap.size := HB2.out.size
  have hs3 := HSq.out.below hg hB3
  have hseq : ∀ nn, 1 ≤ nn → SeqStopsK Fence.wide nn Tryd.prog 98 #[.pointer (some ⟨V.heap.size, 0, none⟩)] (backEnc q n) (fun A B : World => B.heap[V.heap.size]? = A.heap[V.heap.size]? ∧ B.heap[g]? = A.heap[g]?) (fun ys => ys = List.finRange n) (fun _ => True) n W3 := fun nn hnn l J Jx Z hZ _ _ hY h0 =>
    backward1_in Fence.wide nn trivial rfl hnn l V.heap.size g off c n q HN.out.symm (by omega) k4 hcm0 _ (fun _ _ h => h) J Jx hY Z (hBx.below hZ hBx.lt) (hs3.below (by have := hB3.size; omega) hZ) h0
  have hC3 := HC.out.below hB3 rfl
  clear hW3 HB2 HR2 HX2
  gi_wp2_with (fail)
  refine wpIn_rangeFunc_ownH rfl (by omega) (gf := 98) (lb := #[.pointer (some ⟨V.heap.size, 0, none⟩)]) rfl trivial (enters_of Tryd.func98 (by kernel_rfl) rfl) (hseq _ (by omega)) (fun h k => ⟨k.1.trans h.1, k.2.trans h.2⟩) (fun A l o o' hl _ _ _ => ⟨World.putObj_heap_other (by have := hBx.lt; omega), World.putObj_heap_other (by have := hB3.size; omega)⟩) (Below.refl _ _) (fun x => rfl)
    (fun pre A => Has A b5 26 (arr32 (accP q n last pre)) ∧ But b5 W3 A)
    (fun _ _ _ => False) ?own (fun _ _ _ _ _ hs _ _ => hs) ⟨hX3, But.refl _ _⟩
    (fun x a' A => ∃ p, b5 < p ∧ a' = { tmps := #[.agg #[.int .i64 (m : Int), .slice (some ⟨g, off, none⟩) (n + 1) c], .pointer (some ⟨w.heap.size, 0, none⟩), .pointer (some ⟨w.heap.size + 1, 0, none⟩), .int .i64 0, .int .i64 (n : Int), .pointer (some ⟨b5, 0, none⟩), undef, .pointer (some ⟨p, 0, none⟩), .agg #[.int .i64 (m : Int), .slice (some ⟨g, off, none⟩) (n + 1) c], .bool true, .bool false, undef, .pointer (some ⟨w.heap.size, 1, none⟩), .slice (some ⟨g, off, none⟩) (n + 1) c, .int .i64 ((n : Int) + 1), .int .i64 (n : Int), .int .i64 (n : Int), .bool (decide ((n : Int) < 0)), undef, .pointer (some ⟨w.heap.size, 1, none⟩), .slice (some ⟨g, off, none⟩) (n + 1) c, .int .i64 (n : Int), .pointer (some ⟨g, off + n * 32, none⟩), .agg (arr32 last), .pointer (some ⟨w.heap.size, 1, none⟩), .slice (some ⟨g, off, none⟩) (n + 1) c, .int .i64 (n : Int), .slice (some ⟨g, off, none⟩) n c, .func (.func 98) #[] #[.pointer (some ⟨V.heap.size, 0, none⟩)], .int .i64 ((n : Int) - 1 - (x.val : Int)), .agg (arr32 (q.getD (n - 1 - x.val) [])), undef, undef, undef, undef], defers := [] } ∧ Has A p 26 (arr32 (q.getD (n - 1 - x.val) []))) ?ax ?assign ?body ?done ?stop
  case own =>
    intro pre A B row hs hg2 hr
    obtain ⟨hw2, hb2⟩ := hs
    have hlt := hX3.lt
    exact ⟨has_grown hw2 hg2 (fun h => by have := (hr _ h.symm).1; omega), but_grown hb2 hg2 (fun r h => (hr r h).1)⟩
  case ax =>
    rintro x a' _ A B row ⟨p, hp, ha, hP⟩ hg2 hr
    refine ⟨p, hp, ha, hP.grown hg2 (fun e => ?_)⟩
    obtain ⟨_, o, ho, hc2⟩ := hr p e.symm
    rw [show A.heap[p]? = _ from hP] at ho
    cases ho
    cases hc2
  case assign =>
    rintro l pre x Z K hI hKK
    have hpl : (q.getD (n - 1 - x.val) []).length = 32 := HPk.out x
    simp only [backEnc]
    generalize q.getD (n - 1 - x.val) [] = pk at hpl hKK ⊢
    have HF := Lib.hid (fresh_sum Z)
    have HSz := Lib.hid (zero32_size pk (by omega))
    have HIp := Lib.hid (arr32_info pk (by omega))
    gi_wp2_with ((with_reducible refine stopIn (ty := 26) ?_))
    refine armIn_store (ty := 26) Z.heap.size (arr32 pk) 26 zero32 HF.out HSz.out HIp.out (arr32_one _) ?k1 ?k2 ?_
    case k1 => rfl
    case k2 => rfl
    refine gen_world (P := fun W => wpListIn _ _ _ _ _ _ _ W) (I := fun Y => Below Z.heap.size Z Y ∧ Has Y Z.heap.size 26 (arr32 pk)) _ ⟨below_setRow ((Below.refl _ Z).alloc (Nat.le_refl _) _) (Nat.le_refl _) _, HF.out.setRow⟩ ?_
    rintro Y ⟨hBY, hXY⟩
    have hg0 : Z.grownBy Y none := ⟨hBY.os, hBY.tape, hBY.output, hBY.size, fun k hk _ => hBY.block k hk⟩
    have hks : KeepsOthers Z Y := KeepsOthers.of_grownBy hg0 (fun j o e => by cases e)
    have hz5 := hI.1.lt
    have hzs := hI.2.size
    gi_wp2
    refine hKK _ _ (hks.from _) ⟨hBY.block _ (by have := hBx.lt; omega), hBY.block _ (by have := hB3.size; have := hBx.lt; omega)⟩ ⟨hI.1.below hBY hz5, but_grown hI.2 hg0 (fun r e => by cases e)⟩ ⟨Z.heap.size, hz5, rfl, hXY⟩
  case body =>
    rintro l pre x a' Z hlD hl ⟨hX, hBt⟩ ⟨p, hp, rfl, hP⟩ hlt
    have hpl : (q.getD (n - 1 - x.val) []).length = 32 := HPk.out x
    have hpb : Sha.Bytes (q.getD (n - 1 - x.val) []) := HPb.out x
    have hul := accP_len q n pre last HLL.out
    obtain ⟨up, hup⟩ : ∃ up, up = accP q n last pre := ⟨_, rfl⟩
    have hnext := accP_snoc q n last pre x
    rw [← hup] at hX hul hnext
    generalize q.getD (n - 1 - x.val) [] = pk at hpl hpb hP hnext ⊢
    obtain ⟨nu, hnu⟩ : ∃ nu, nu = Sha.sha (2 :: (pk ++ up)) := ⟨_, rfl⟩
    rw [← hnu] at hnext
    have hnl : nu.length = 32 := by rw [hnu]; exact (sha_bytes _).1
    have HIp := Lib.hid (arr32_info pk (by omega))
    have HIu := Lib.hid (arr32_info up (by omega))
    have HIn := Lib.hid (arr32_info nu (by omega))
    have HSn : Hid ((arr32 up).size = (arr32 nu).size) := Lib.hid ((arr32_size up (by omega)).trans (arr32_size nu (by omega)).symm)
    have hCZ : ConstAt Z := fun i hi => (hBt.cell (Nat.lt_of_lt_of_le (block_lt_of_cell (HC.out i hi)) hB3.size) (by have h9 := block_lt_of_cell (HC.out i hi); show (0 : Nat) ≠ b5; have h8 : (0 : Nat) < w.heap.size := h9; omega)).trans (hC3 i hi)
    have HPr := Lib.hid ((pair_any pk up hpl hul.1 hpb hul.2 Z hCZ nu (Lib.hid hnu)).mono fun e w' h => (⟨h.1, h.2.2⟩ : e = .returned (.agg (arr32 nu)) ∧ Below Z.heap.size Z w'))
    have HX := Lib.hid hX
    have HBt := Lib.hid hBt
    have HNx := Lib.hid hnext
    have hz5 := hX.lt
    clear hup hnu hCZ hX hBt hnext
    gi_wp2_with ((with_reducible refine stopInL (ty := 26) ?_))
    refine armIn_load (ty := 26) ⟨p, 0, none⟩ (arr32 pk) _ hP.row Tryd.underlying26 HIp.out ?j1 ?j2 ?_
    case j1 => rfl
    case j2 => rfl
    refine armIn_load (ty := 26) ⟨b5, 0, none⟩ (arr32 up) _ HX.out.row Tryd.underlying26 HIu.out ?j3 ?j4 ?_
    case j3 => rfl
    case j4 => rfl
    gi_wp2_with (first | (refine ⟨trivial, ?_⟩; gi_at_call 69; refine (CallsIn.inRound l (callsIn_wide.2 HPr.out)).mono ?_; rintro e' A' ⟨rfl, hb3⟩) | ((with_reducible refine stopIn (ty := 26) ?_)))
    have HXA := Lib.hid (HX.out.below hb3 hz5)
    refine armIn_store (ty := 26) b5 (arr32 nu) 26 (arr32 up) HXA.out HSn.out HIn.out (arr32_one _) ?k1 ?k2 ?_
    case k1 => rfl
    case k2 => rfl
    refine gen_world (P := fun W => wpListIn _ _ _ _ _ _ _ W) (I := fun Y => But b5 Z Y ∧ Has Y b5 26 (arr32 nu)) _ ⟨(But.of_below hb3).setRow _, HXA.out.setRow⟩ ?_
    rintro Y ⟨hBY, hXY⟩
    have hks : KeepsOthers Z Y := keepsOthers_of_but hBY HX.out
    have hzs := HBt.out.size
    gi_wp2
    exact ⟨hks.from _, ⟨hBY.block _ (by have := hBx.lt; omega) (by omega), hBY.block _ (by have := hB3.size; omega) (by omega)⟩, by rw [HNx.out]; exact hXY, HBt.out.trans hBY⟩
  case done =>
    rintro D xs Z hD rfl ⟨hX, hBt⟩ hKD
    have hfin := accP_firsts q n HN.out last n (Nat.le_refl _)
    rw [firsts_all, Nat.sub_self, ← hout.out] at hfin
    rw [hfin] at hX
    have hRZ := hBt.has hR3 (by omega)
    have hDne1 : D ≠ w.heap.size + 1 := by have := hBx.lt; omega
    have HKD := Lib.hid hKD
    have HX := Lib.hid hX
    have HBt := Lib.hid hBt
    have HRZ := Lib.hid hRZ
    clear hKD hX hBt hRZ hfin
    gi_wp2_with ((with_reducible refine stopInL (ty := 26) ?_))
    refine armIn_load (ty := 26) ⟨b5, 0, none⟩ (arr32 out) _ HX.out.row Tryd.underlying26 HIo.out ?j1 ?j2 ?_
    case j1 => rfl
    case j2 => rfl
    refine armIn_store (ty := 26) (w.heap.size + 1) (arr32 out) 26 zero32 HRZ.out HSo.out HIo.out (arr32_one _) ?k1 ?k2 ?_
    case k1 => rfl
    case k2 => rfl
    have HRow := Lib.hid (HRZ.out.setRow (cs' := arr32 out))
    gi_wp2
    have hD6 : (Z.setRow (w.heap.size + 1) (arr32 out)).heap[D]? = some (.deferred (some [])) := (setRow_heap_other _ _ _ _ hDne1).trans HKD.out
    refine ⟨by simp, .inl ⟨_, _, rfl, run_takeDeferred hD6, ?_⟩⟩
    have hRow7 : Has ((Z.setRow (w.heap.size + 1) (arr32 out)).putObj D (.deferred none)) (w.heap.size + 1) 26 (arr32 out) := (World.putObj_heap_other (Ne.symm hDne1)).trans HRow.out
    have hBZ : Below w.heap.size w Z := hB3.trans (HBt.out.below (by omega) hB3.size)
    refine ⟨_, results_row_tmp rfl _ _ (w.heap.size + 1) 26 (arr32 out) (0, 0) _ rfl hRow7 rfl Tryd.underlying26 HIo.out, rfl, ?_⟩
    exact (below_setRow hBZ (by omega) _).grown (grownBy_putObj' _ D (.deferred none)) (by have := hBZ.size; simpa using this) (fun k e => by cases e; have := hB3.size; omega)
  case stop =>
    rintro D cc pre Z _ _ h _
    exact h.elim
end Go.Proofs.YtffdkniahdekjaaDoor
end
section
namespace Go.Proofs.YtffdkniahdekjaaDoor
open Go.RowKit Go.Hoar
theorem acc_top : ∀ (q : List (List Nat)) (last : List Nat), accOf q last 0 = topOf (q ++ [last])
  | [], last => rfl
  | p :: q, last => by
    have h : accOf (p :: q) last 0 = Sha.sha (2 :: (p ++ accOf q last 0)) := rfl
    rw [h, acc_top q last, List.cons_append, topOf_cons p (q ++ [last]) (by simp)]
theorem tree_ok (l : List (List Nat)) (h : l.length ≤ 50) : TreeOk (peaksK 6 l).length (l.length : Int) :=
  ⟨by omega, by omega, by rw [Int.toNat_natCast]; exact peaksK_len 6 l (by decide) (by omega)⟩
theorem root_tree (l : List (List Nat)) (h : l.length ≤ 50) (V : World) (a : Option Addr) (c : Nat) (hr : RowOk V a c (peaksK 6 l)) (hc : ConstAt V) :
    Calls Tryd.prog 40 #[.agg #[.int .i64 (l.length : Int), .slice a (peaksK 6 l).length c]] V fun e w' => e = .returned (.tuple #[.agg (arr32 (rootOf l)), .int .i64 0]) ∧ Below V.heap.size V w' := by
  have ht := top_peaks 6 l (by decide) (by omega)
  have hk := peaksK_ok 6 l
  have ho := tree_ok l h
  rcases Nat.eq_zero_or_pos l.length with h0 | h0
  · obtain rfl := List.length_eq_zero_iff.1 h0
    exact root_none a c V hc _ (Lib.hid rootOf_none)
  · have hne := peaksK_ne 6 l (by omega) (fun e => by rw [e] at h0; exact absurd h0 (by decide))
    generalize peaksK 6 l = ps at *
    rcases List.eq_nil_or_concat ps with rfl | ⟨q, last, rfl⟩
    · exact absurd rfl hne
    · simp only [List.concat_eq_append] at *
      have hl2 : (q ++ [last]).length = q.length + 1 := by simp
      rw [hl2] at ho ⊢
      rcases hr with ⟨_, he, _⟩ | ⟨g, off, rfl, hg, hs, hc1, hcm⟩
      · simp at he
      · exact root_main q last hk l.length ho g off c V hs hg (by rw [hl2] at hc1; exact hc1) hcm hc _ (Lib.hid (by rw [acc_top, ht]))
theorem grow_tree (l : List (List Nat)) (x : List Nat) (hx : x.length = 32) (hxb : Sha.Bytes x) (h : l.length ≤ 50) (V : World) (a : Option Addr) (c : Nat) (hr : RowOk V a c (peaksK 6 l)) (hc : ConstAt V) :
    Calls Tryd.prog 38 #[.agg #[.int .i64 (l.length : Int), .slice a (peaksK 6 l).length c], .agg (arr32 x)] V fun e w' => ∃ v, e = .returned (.tuple #[.agg #[.int .i64 ((l.length : Int) + 1), v], .int .i64 0]) ∧ w'.ownsRow V.heap.size 26 32 v (peaksK 6 (l ++ [x])).length ((peaksK 6 (l ++ [x])).flatMap cellsOf) ∧ Below V.heap.size V w' := by
  have hg := (grow_peaks x 31 6 l (by decide) (by decide)).1 (by omega)
  exact treeGrow_any (peaksK 6 l) x l.length (peaksK_ok 6 l) hx hxb (tree_ok l h) (by omega) a c V hr hc _ (Lib.hid hg.symm)
end Go.Proofs.YtffdkniahdekjaaDoor
end
section
namespace Go.Proofs.YtffdkniahdekjaaDoor
open Go.RowKit Go.Hoar
/-- A slice from the first place of a block of bytes on. -/
def BPart (w : World) (v : Value) (b : List Nat) : Prop := ∃ (g c : Nat) (cs : Array Value), v = .slice (some ⟨g, 0, none⟩) b.length c ∧ Has w g 5 cs ∧ cs.toList.take b.length = b.map BV ∧ b.length ≤ c ∧ c ≤ maxLen
theorem bpart_own {V : World} {base n : Nat} {v : Value} {b : List Nat} (h : V.ownsRow base 5 1 v n (b.map BV)) (hn : n = b.length) (hp : 0 < n) : BPart V v b := by
  subst hn
  rcases h.2 with ⟨_, h0⟩ | ⟨g, cap, cur, rfl, _, hh, hc, hm, _, ht⟩
  · omega
  · exact ⟨g, cap, cur, rfl, hh, by rw [Nat.mul_one] at ht; exact ht, hc, hm⟩
theorem BPart.part {w : World} {v : Value} {b : List Nat} (h : BPart w v b) : ∃ g c, v = .slice (some ⟨g, 0, none⟩) b.length c ∧ PartOk w (some ⟨g, 0, none⟩) c b ∧ b.length ≤ c ∧ c ≤ maxLen := by
  obtain ⟨g, c, cs, rfl, hh, ht, hc, hm⟩ := h
  refine ⟨g, c, rfl, .inr ⟨g, 0, rfl, hh.lt, fun i hi => ?_⟩, hc, hm⟩
  rw [Nat.zero_add, hh.cell, ← Array.getElem?_toList, ← List.getElem?_take_of_lt hi, ht, List.getElem?_map, List.getD_eq_getElem?_getD, List.getElem?_eq_getElem hi]
  rfl
theorem BPart.on {w w' : World} {v : Value} {b : List Nat} (h : BPart w v b) (hk : ∀ g t cs, Has w g t cs → v.ownBlock = some g → t = 5 → Has w' g t cs) : BPart w' v b := by
  obtain ⟨g, c, cs, rfl, hh, ht, hc, hm⟩ := h
  exact ⟨g, c, cs, rfl, hk g _ cs hh rfl rfl, ht, hc, hm⟩
theorem BPart.below {w w' : World} {v : Value} {b : List Nat} (h : BPart w v b) (hb : Below w.heap.size w w') : BPart w' v b := h.on fun _ _ _ hh _ _ => hh.below hb hh.lt
theorem BPart.setRow {w : World} {v : Value} {b : List Nat} (h : BPart w v b) {g0 : Nat} (hne : v.ownBlock ≠ some g0) (cs0 : Array Value) : BPart (w.setRow g0 cs0) v b := h.on fun g _ _ hh hv _ => (setRow_heap_other w g0 g cs0 (fun e => hne (by rw [hv, e]))).trans hh
/-- A row of slices is no block of bytes. -/
theorem own_not_bytes {w : World} {base n g : Nat} {v : Value} {xs : List Value} {cs : Array Value} (h : w.ownsRow base 22 1 v n xs) (hh : Has w g 5 cs) : some g ≠ v.ownBlock := by
  intro e
  rcases h.2 with ⟨rfl, _⟩ | ⟨g', cap, cur, rfl, _, h2, _⟩
  · cases e
  · obtain rfl : g = g' := Option.some.inj e
    have h3 : w.heap[g]? = some (.cells cs 5 (0, 0)) := hh
    rw [h3] at h2
    injection h2 with h2
    injection h2 with _ h2
    exact absurd h2 (by decide)
theorem BPart.grown {w w' : World} {v r : Value} {b : List Nat} {base n : Nat} {xs : List Value} (h : BPart w v b) (ho : w.ownsRow base 22 1 r n xs) (hg : w.grownBy w' r.ownBlock) : BPart w' v b := h.on fun g _ _ hh _ ht => by
  subst ht
  exact has_grown hh hg (own_not_bytes ho hh)
/-- Slices of bytes, one for each. -/
def BRows (w : World) : List Value → List (List Nat) → Prop
  | [], [] => True
  | v :: vs, b :: bs => BPart w v b ∧ BRows w vs bs
  | _, _ => False
theorem BRows.on {w w' : World} (hk : ∀ v b, BPart w v b → BPart w' v b) : ∀ {vs : List Value} {bs : List (List Nat)}, BRows w vs bs → BRows w' vs bs
  | [], [], _ => trivial
  | _ :: _, _ :: _, h => ⟨hk _ _ h.1, BRows.on hk h.2⟩
  | [], _ :: _, h => h
  | _ :: _, [], h => h
theorem BRows.below {w w' : World} {vs : List Value} {bs : List (List Nat)} (h : BRows w vs bs) (hb : Below w.heap.size w w') : BRows w' vs bs := h.on fun _ _ k => k.below hb
theorem BRows.grown {w w' : World} {r : Value} {base n : Nat} {xs vs : List Value} {bs : List (List Nat)} (h : BRows w vs bs) (ho : w.ownsRow base 22 1 r n xs) (hg : w.grownBy w' r.ownBlock) : BRows w' vs bs := h.on fun _ _ k => k.grown ho hg
theorem BRows.append {w : World} : ∀ {vs us : List Value} {bs cs : List (List Nat)}, BRows w vs bs → BRows w us cs → BRows w (vs ++ us) (bs ++ cs)
  | [], _, [], _, _, k => k
  | _ :: _, _, _ :: _, _, h, k => ⟨h.1, BRows.append h.2 k⟩
  | [], _, _ :: _, _, h, _ => h.elim
  | _ :: _, _, [], _, h, _ => h.elim
theorem BRows.len {w : World} : ∀ {vs : List Value} {bs : List (List Nat)}, BRows w vs bs → vs.length = bs.length
  | [], [], _ => rfl
  | _ :: _, _ :: _, h => by rw [List.length_cons, List.length_cons, BRows.len h.2]
  | [], _ :: _, h => h.elim
  | _ :: _, [], h => h.elim
theorem BRows.get {w : World} : ∀ {vs : List Value} {bs : List (List Nat)} (i : Nat) {b : List Nat}, BRows w vs bs → bs[i]? = some b → ∃ v, vs[i]? = some v ∧ BPart w v b
  | [], [], i, b, _, hi => by simp at hi
  | v :: _, _ :: _, 0, b, h, hi => ⟨v, rfl, by simp at hi; rw [← hi]; exact h.1⟩
  | _ :: _, _ :: _, i + 1, b, h, hi => by
    rw [List.getElem?_cons_succ] at hi ⊢
    exact BRows.get i h.2 hi
  | [], _ :: _, _, _, h, _ => h.elim
  | _ :: _, [], _, _, h, _ => h.elim
theorem brows_one {w : World} : ∀ {vs : List Value} {bs : List (List Nat)}, BRows w vs bs → ∀ u ∈ vs, u.oneCell' = true
  | [], _, _, u, hu => absurd hu List.not_mem_nil
  | v :: vs, b :: bs, h, u, hu => by
    rcases List.mem_cons.1 hu with rfl | hu
    · obtain ⟨g, c, cs, rfl, _⟩ := h.1
      rfl
    · exact brows_one h.2 u hu
  | _ :: _, [], h, _, _ => h.elim
/-- A row of one slice. -/
theorem own_one {V : World} {g base : Nat} {u : Value} (h : Has V g 22 #[u]) (hb : base ≤ g) : V.ownsRow base 22 1 (.slice (some ⟨g, 0, none⟩) 1 1) 1 [u] :=
  ⟨rfl, .inr ⟨g, 1, #[u], rfl, hb, h, Nat.le_refl _, by decide, rfl, rfl⟩⟩
theorem bytesInfo3 : (Tryd.prog.info? 22).map (fun i => (i.zero, i.size, i.bytes)) = some (some (.slice none 0 0), 1, 24) := by kernel_rfl
/-- The cells of a row, where it is read as news. -/
theorem own_news {w : World} {base n g c : Nat} {e : TypeId} {xs : List Value} (h : w.ownsRow base e 1 (.slice (some ⟨g, 0, none⟩) n c) n xs) : ∀ j u, xs[j]? = some u → w.cell? ((⟨g, 0, none⟩ : Addr).add j) = some u := fun j u hj => h.cells (g := g) rfl j u hj
end Go.Proofs.YtffdkniahdekjaaDoor
namespace Go.Hoar
open Go Go.RowKit
/-- A slice literal of arrays or structs, as one operation of a region that draws its order. -/
theorem opw_slices {P : Program} {a : Act} {w : World} {K : Act → World → Prop} {Q : Exit → Act → World → Prop} {dst : Option Tmp} {t T : TypeId} {xs : Array (Nat × Operand)} {n : Nat} {pos : String} {af : Array Edge}
    (e : TypeId) (ie : TypeInfo) (z : Value) (css : List (Array Value)) (hu : P.underlying t = some (.slice e)) (hie : P.info? e = some ie) (hz : ie.zero = some z) (hsz : ∀ c ∈ css, c.size = ie.size) (hn : n = css.length) (hsmall : n * ie.size ≤ 1000) (hpos : 0 < n * ie.size)
    (hx : (xs.map fun (i, x) => (i, a.eval x)).toList = (css.zipIdx 0).map fun x => (x.2, Value.agg x.1)) (h : K (a.put dst (.slice (some ⟨w.heap.size, 0, none⟩) n n)) (w.alloc (.cells (css.flatMap Array.toList).toArray e))) :
    Oper.wp P ⟨dst, .buildSlice t n xs, T, pos, af, none⟩ a w K Q := by
  refine wp_buildSlice t e n _ rfl _ ie z hu hie hz (by omega) (by omega) ?_ h
  have ht : ∀ A : Array Value, A.toList.toArray = A := fun A => by simp
  have hf := fill_rows ie.size css 0 [] ((Array.range (n * ie.size)).map (z.cells[· % z.cells.size]!)).toList hsz (by simp [hn]) (by simp)
  rw [hx]
  rw [List.nil_append, ht] at hf
  rw [hf]
  simp
end Go.Hoar
end
section
namespace Go.Proofs.YtffdkniahdekjaaDoor
open Go.RowKit Go.Hoar
theorem flat32 {ls : List (List Nat)} (hok : SumsOk ls) : ls.flatten.length = 32 * ls.length ∧ Sha.Bytes ls.flatten := by
  induction ls with
  | nil => exact ⟨rfl, fun _ h => absurd h List.not_mem_nil⟩
  | cons x r ih =>
    obtain ⟨h1, h2⟩ := ih (fun l hl => hok l (List.mem_cons_of_mem _ hl))
    have hx := hok x List.mem_cons_self
    refine ⟨by rw [List.flatten_cons, List.length_append, hx.1, h1, List.length_cons]; omega, fun v hv => ?_⟩
    rw [List.flatten_cons, List.mem_append] at hv
    exact hv.elim (hx.2 v) (h2 v)
theorem flat_snoc (ls : List (List Nat)) (j : Nat) (x : List Nat) (h : ls[j]? = some x) : (ls.take (j + 1)).flatten = (ls.take j).flatten ++ x := by
  rw [List.take_add_one, h]
  simp
theorem own_cast {w : World} {base n m : Nat} {e : TypeId} {size : Nat} {v : Value} {xs ys : List Value} (h : w.ownsRow base e size v n xs) (hn : n = m) (hx : xs = ys) : w.ownsRow base e size v m ys := by subst hn; subst hx; exact h
set_option maxRecDepth 100000 in
set_option maxHeartbeats 3000000 in
theorem joined_any (first : Nat) (hf : first < 256) (ls : List (List Nat)) (hok : SumsOk ls) (hn : ls.length ≤ 100) (a : Option Addr) (c : Nat) (w : World) (hr : RowOk w a c ls) (hc : ConstAt w) (out : List Nat) (hout : Hid (out = Sha.sha (first :: ls.flatten))) :
    Calls Tryd.prog 86 #[.int .u8 (first : Int), .slice a ls.length c] w fun e w' => ∃ v, e = .returned (.tuple #[.agg (arr32 out), v]) ∧ BPart w' v (first :: ls.flatten) ∧ out.length = 32 ∧ Below w.heap.size w w' := by
  obtain ⟨i0, hi, hz0, hz1, hz2⟩ := info_parts info8
  have hol : out.length = 32 := by rw [hout.out]; exact (sha_bytes _).1
  have HIo := Lib.hid (arr32_info out (by omega))
  have HSo := Lib.hid (zero32_size out (by omega))
  have HRw := Lib.hid hr
  have HC := Lib.hid hc
  obtain ⟨fl, fb⟩ := flat32 hok
  have hby : Sha.Bytes (first :: ls.flatten) := fun x hx => (List.mem_cons.1 hx).elim (fun e => by omega) (fb x)
  have hof : ∀ (a : Option Addr) (c : Nat) (V : World), V.ownsRow (w.heap.size + 1) 5 1 (.slice a (1 + 32 * ls.length) c) (1 + 32 * ls.length) ((first :: ls.flatten).map BV) → ConstAt V → Calls Tryd.prog 17 #[.slice a (1 + 32 * ls.length) c] V fun e w' => e = .returned (.agg (arr32 out)) ∧ out.length = 32 ∧ Below V.heap.size V w' := fun a c V ho hcv =>
    of_own (first :: ls.flatten) (1 + 32 * ls.length) (by rw [List.length_cons, fl]; omega) hby (by omega) ho hcv out hout
  have HOf := Lib.hid hof
  have hone : ∀ l : List Nat, ∀ u ∈ l.map BV, u.oneCell' = true := by
    intro l u hu
    obtain ⟨x, _, rfl⟩ := List.mem_map.1 hu
    rfl
  have HOne := Lib.hid hone
  clear hr hc hof hone hby
  go_enter Tryd.func86, Tryd.ntmps86
  go_upto_region 1 with (fail)
  refine gen_world (P := fun W => Code.wp _ _ _ _ W) (I := fun W => Below w.heap.size w W ∧ Has W w.heap.size 26 zero32 ∧ W.heap.size = w.heap.size + 1) _ ⟨(Below.refl _ w).alloc (Nat.le_refl _) _, fresh_sum w, by simp⟩ ?_
  rintro W ⟨hB, hR, hsz⟩
  have HB := Lib.hid hB
  have HR := Lib.hid hR
  clear hB hR
  go_upto_region 2 with (fail)
  refine gen_world (P := fun W => Code.wp _ _ _ _ W) (I := fun V => Below w.heap.size w V ∧ Has V w.heap.size 26 zero32 ∧ V.ownsRow (w.heap.size + 1) 5 1 (.slice (some ⟨w.heap.size + 1, 0, none⟩) 1 1) 1 ([first].map BV)) _ ⟨HB.out.alloc HB.out.size _, HR.out.alloc _, own_row (bs := [first]) (Has.fresh_at W 5 _ (w.heap.size + 1) hsz.symm) (Nat.le_refl _) (by show 1 ≤ maxLen; decide)⟩ ?_
  rintro W2 ⟨hB, hR, hO⟩
  have HB2 := Lib.hid hB
  have HR2 := Lib.hid hR
  have HO2 := Lib.hid hO
  clear hB hR hO HB HR hsz
  go_wp2
  go_loopw [6, 13] (fun bv iv wr => ∃ (j : Nat) (vv : Value), vv = bv ∧ j ≤ ls.length ∧ iv = .int .i64 (j : Int) ∧ wr.ownsRow (w.heap.size + 1) 5 1 vv (1 + 32 * j) ((first :: (ls.take j).flatten).map BV) ∧ Has wr w.heap.size 26 zero32 ∧ Below w.heap.size w wr) (fun _ iv _ => ls.length - (intOf iv).toNat)
  case atStart => exact ⟨0, _, rfl, Nat.zero_le _, rfl, HO2.out, HR2.out, HB2.out⟩
  case round =>
    obtain ⟨j, vv, hvv, hj, rfl, hO, hR, hB⟩ := hrel
    subst hvv
    obtain ⟨a6, c6, rfl, hc6, hcm6⟩ := own_shape hO
    unfold maxLen at hcm6
    by_cases hlt : j < ls.length
    · obtain ⟨x, hx⟩ : ∃ x, ls[j]? = some x := ⟨_, List.getElem?_eq_getElem hlt⟩
      rcases HRw.out with ⟨_, he, _⟩ | ⟨g, off, rfl, hg, hs, hcc, hcm⟩
      · rw [he] at hx; simp at hx
      obtain ⟨hxl, hxb, _⟩ := hs j x hx
      have HRow := Lib.hid ((hs.below hg hB).row hx)
      have HI := Lib.hid (arr32_info x (by omega))
      have HSz := Lib.hid (zero32_size x (by omega))
      have HF := Lib.hid (fresh_sum wr)
      have HO := Lib.hid hO
      have HR3 := Lib.hid hR
      have HB3 := Lib.hid hB
      have HFl := Lib.hid (flat_snoc ls j x hx)
      unfold maxLen at hcm
      have hjc : j < c := by omega
      clear hO hR hB hs hx
      go_upto_region 5 with (first
        | ((with_reducible refine arm_load (w := wr) ⟨g, off + j * 32, none⟩ _ _ HRow.out Tryd.underlying26 HI.out ?h1 ?h2 ?_); (case h1 => rfl); (case h2 => rfl))
        | ((with_reducible refine arm_store wr.heap.size (arr32 x) 26 zero32 HF.out HSz.out HI.out (arr32_one _) ?h5 ?h6 ?_); (case h5 => rfl); (case h6 => rfl)))
      have hb3 : w.heap.size + 1 ≤ wr.heap.size := by have := HR3.out.lt; omega
      refine gen_world (P := fun W => Code.wp _ _ _ _ W) (I := fun V => Below w.heap.size w V ∧ Has V wr.heap.size 26 (arr32 x) ∧ Has V w.heap.size 26 zero32 ∧ V.ownsRow (w.heap.size + 1) 5 1 (.slice a6 (1 + 32 * j) c6) (1 + 32 * j) ((first :: (ls.take j).flatten).map BV) ∧ wr.heap.size < V.heap.size) _ ⟨below_setRow (HB3.out.alloc HB3.out.size _) HB3.out.size _, HF.out.setRow, Has.below (HR3.out) (below_setRow ((Below.refl _ wr).alloc (Nat.le_refl _) _) (Nat.le_refl _) _) HR3.out.lt, own_setRow (HO.out.alloc _) (fun e => by have := (HO.out.lt _ e).2; omega) _, HF.out.setRow.lt⟩ ?_
      rintro U ⟨hBU, hXU, hRU, hOU, hgU⟩
      generalize wr.heap.size = b5 at *
      have HN : Hid (∀ q u, (x.map BV)[q]? = some u → U.cell? ((⟨b5, 0, none⟩ : Addr).add q) = some u) := Lib.hid fun q u hq => hXU.row q u (by rw [arr32_whole x hxl, List.getElem?_toArray]; exact hq)
      have HBU := Lib.hid hBU
      have HRU := Lib.hid hRU
      have HOU := Lib.hid hOU
      have hl32 : (x.map BV).length = 32 * 1 := by simp [hxl]
      have hbase : w.heap.size + 1 ≤ U.heap.size := by omega
      clear hBU hXU hRU hOU HO HR3 HB3 HF HRow
      go_wp2_with (first
        | (at_builtin; refine wpList_append_own _ rfl _ _ 22 rfl (w.heap.size + 1) 5 i0 (.int .u8 0) 1 1 Tryd.underlying22 hi hz0 hz1 hz2 rfl (by decide) _ _ _ rfl HOU.out ⟨b5, 0, none⟩ 32 32 (x.map BV) rfl hl32 HN.out (HOne.out x) (by unfold maxLen; omega) (by omega) hbase ?_; intro v' w9 hown9 hgrow9 _
           have HO9 : Hid (w9.ownsRow (w.heap.size + 1) 5 1 v' (1 + 32 * (j + 1)) ((first :: (ls.take (j + 1)).flatten).map BV)) := Lib.hid (own_cast hown9 (by omega) (by rw [HFl.out, List.map_cons, List.map_cons, List.map_append, List.cons_append]))
           have HB9 := Lib.hid (HBU.out.grown hgrow9 (by omega) (fun q hq => by have := (HOU.out.lt q hq).1; omega))
           have HR9 := Lib.hid (has_grown HRU.out hgrow9 (fun e => by have := (HOU.out.lt _ e.symm).1; omega))
           clear hown9 hgrow9))
      go_roundw
      case rel => exact ⟨j + 1, _, rfl, by omega, by go_num, HO9.out, HR9.out, HB9.out⟩
      case measure => simp [intOf]; omega
    · obtain rfl : j = ls.length := by omega
      have HO : Hid (wr.ownsRow (w.heap.size + 1) 5 1 (.slice a6 (1 + 32 * ls.length) c6) (1 + 32 * ls.length) ((first :: ls.flatten).map BV)) := Lib.hid (own_cast hO rfl (by rw [List.take_length]))
      have HR3 := Lib.hid hR
      have HB3 := Lib.hid hB
      have HP : Hid (BPart wr (.slice a6 (1 + 32 * ls.length) c6) (first :: ls.flatten)) := Lib.hid (bpart_own HO.out (by rw [List.length_cons, fl]; omega) (by omega))
      clear hO hR hB
      go_wp2_with (first
        | (go_at_call 17; refine (HOf.out a6 c6 wr HO.out (HC.out.below HB3.out rfl)).mono ?_; rintro e w7 ⟨rfl, _, hb7⟩; have HB7 := Lib.hid (HB3.out.trans (hb7.mono HB3.out.size)); have HR7 := Lib.hid (HR3.out.below hb7 HR3.out.lt); have HP7 := Lib.hid (HP.out.below hb7); clear hb7)
        | ((with_reducible refine arm_store w.heap.size (arr32 out) 26 zero32 HR7.out HSo.out HIo.out (arr32_one _) ?h5 ?h6 ?_); (case h5 => rfl); (case h6 => rfl)))
      refine bodyPost_ret (results_row_tmp rfl _ _ w.heap.size 26 (arr32 out) (0, 0) _ rfl HR7.out.setRow rfl Tryd.underlying26 HIo.out) rfl ⟨_, rfl, ?_, hol, below_setRow HB7.out (Nat.le_refl _) _⟩
      exact HP7.out.setRow (fun e => by have := (HO.out.lt _ e).1; omega) _
end Go.Proofs.YtffdkniahdekjaaDoor
end
