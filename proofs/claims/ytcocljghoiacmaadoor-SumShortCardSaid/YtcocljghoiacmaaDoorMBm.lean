/-
  THE LAW SumLists, WALKED: true, and nothing that was there is turned.
  · THE REFERENCE's Leaf: the digest of the list of one digest.
  · A REGION THAT DRAWS ITS ORDER, operation by operation: what the single ones want. No program is spoken of.
  · THE REFERENCE's Inner: the digest of two lists.
  · THE REFERENCE's below: the greatest power of 2 below a number, by doubling.
  · THE REFERENCE's List: the digest of a list.
  · THE WAY OF A PLACE, AND WHAT A WAY LEADS TO, as the reference reckons them: from the root down, where the program goes over spans.
  · THE REFERENCE's Proof: the way of a place.
  · clear, of a slice that lies in memory of its own. No program is spoken of.
  · THE DIGEST OF A LIST, empty or not, by both; rows of digests behind new blocks.
-/
import Derived.Test.YtcocljghoiacmaaDoorMBf
import Derived.Test.YtcocljghoiacmaaDoorMBd
import Derived.Test.YtcocljghoiacmaaDoorMBa
import Derived.OrdersHeld
import Derived.RegionTactic
import Derived.Laws.AppendOwn
import Derived.Test.YtcocljghoiacmaaDoorMBc
import Derived.Laws.CopyRow
import Derived.Laws.OwnMore
import Derived.Test.YtcocljghoiacmaaDoorMBj
import Derived.Test.YtcocljghoiacmaaDoorMBl
section
namespace Go.Proofs.YtcocljghoiacmaaDoor
open Go.RowKit Go.Hoar
theorem refOf_own (bs : List Nat) (n : Nat) (hn : n = bs.length) (hbs : Sha.Bytes bs) (hlen : n ≤ 140737488340000) (hpos : 0 < n) {V : World} {base : Nat} {a : Option Addr} {c : Nat} (ho : V.ownsRow base 5 1 (.slice a n c) n (bs.map BV)) (out : List Nat) (hout : Hid (out = Sha.sha bs)) :
    Calls Tryd.prog 18 #[.slice a n c] V fun e w' => e = .returned (.agg (arr32 out)) ∧ out.length = 32 ∧ Below V.heap.size V w' := by
  subst hn
  obtain ⟨a', c', hv, h1, h2⟩ := own_shape ho
  simp only [Value.slice.injEq, true_and] at hv
  obtain ⟨rfl, rfl⟩ := hv
  exact (refOf_any bs a c V hbs (part_own ho).1 h1 h2 (by omega) (by omega) out hout).mono fun e w' ⟨he, hb⟩ => ⟨he, by rw [hout.out]; exact (sha_bytes _).1, hb⟩
set_option maxRecDepth 100000 in
set_option maxHeartbeats 1000000 in
theorem refLeaf_any (l : List Nat) (hl : l.length = 32) (hlb : Sha.Bytes l) (w : World) (out : List Nat) (hout : Hid (out = Sha.sha (1 :: l))) :
    Calls Tryd.prog 72 #[.agg (arr32 l)] w fun e w' => e = .returned (.agg (arr32 out)) ∧ out.length = 32 ∧ Below w.heap.size w w' := by
  obtain ⟨i0, hi, hz0, hz1, hz2⟩ := info_parts info8
  go_enter Tryd.func72, Tryd.ntmps72
  go_upto_region 1 with (fail)
  refine gen_world (P := fun W => Code.wp _ _ _ _ W) (I := fun W => Below w.heap.size w W ∧ Has W w.heap.size 26 (arr32 l) ∧ Has W (w.heap.size + 1) 26 (arr32 []) ∧ W.heap.size = w.heap.size + 2) _ ⟨((Below.refl _ w).alloc (Nat.le_refl _) _).alloc (by simp) _, (Has.fresh_at _ _ _ _ rfl).alloc _, Has.fresh_at _ _ _ _ (by simp), by simp⟩ ?_
  rintro W ⟨hB, hS, hR, hsz⟩
  have HB := Lib.hid hB
  have HS := Lib.hid hS
  have HR := Lib.hid hR
  have hone : ∀ u ∈ l.map BV, u.oneCell' = true := by
    intro u hu
    obtain ⟨x, _, rfl⟩ := List.mem_map.1 hu
    rfl
  have h33 : (1 :: l).length = 33 := by simp [hl]
  have hby : Sha.Bytes (1 :: l) := fun x hx => (List.mem_cons.1 hx).elim (fun e => by omega) (hlb x)
  have hof : ∀ (a : Option Addr) (c : Nat) (V : World), V.ownsRow w.heap.size 5 1 (.slice a 33 c) 33 ((1 :: l).map BV) → Calls Tryd.prog 18 #[.slice a 33 c] V fun e w' => e = .returned (.agg (arr32 out)) ∧ out.length = 32 ∧ Below V.heap.size V w' := fun a c V ho =>
    refOf_own (1 :: l) 33 h33.symm hby (by omega) (by omega) ho out hout
  have HOf := Lib.hid hof
  have HO : Hid ((W.alloc (.cells #[.int .u8 1] 5)).ownsRow w.heap.size 5 1 (.slice (some ⟨w.heap.size + 2, 0, none⟩) 1 1) 1 [.int .u8 1]) := Lib.hid (own_row (bs := [1]) (Has.fresh_at W 5 _ (w.heap.size + 2) hsz.symm) (by omega) (by decide))
  have HN : Hid (∀ j u, (l.map BV)[j]? = some u → (W.alloc (.cells #[.int .u8 1] 5)).cell? ((⟨w.heap.size, 0, none⟩ : Addr).add j) = some u) := Lib.hid fun j u hj => (hS.alloc _).row j u (by rw [arr32_whole l hl, List.getElem?_toArray]; exact hj)
  have HRa := Lib.hid (hR.alloc (.cells #[.int .u8 1] 5))
  have HBa := Lib.hid (hB.alloc hB.size (.cells #[.int .u8 1] 5))
  have hbase : w.heap.size ≤ (W.alloc (.cells #[.int .u8 1] 5)).heap.size := HBa.out.size
  have hl32 : (l.map BV).length = 32 * 1 := by simp [hl]
  clear hB hS hR hof
  go_wp2_with (at_builtin; refine wpList_append_own _ rfl _ _ 22 rfl w.heap.size 5 i0 (.int .u8 0) 1 1 Tryd.underlying22 hi hz0 hz1 hz2 rfl (by decide) _ _ _ rfl HO.out ⟨w.heap.size, 0, none⟩ 32 32 (l.map BV) rfl hl32 HN.out hone (by decide) (by decide) hbase ?_; intro v' w2 hown2 hgrow _)
  have hown3 : w2.ownsRow w.heap.size 5 1 v' 33 ((1 :: l).map BV) := hown2
  obtain ⟨a', c', rfl⟩ := own_form hown3
  have hB2 : Below w.heap.size w w2 := HBa.out.grown hgrow hbase (fun r hr => by cases hr; exact Nat.le_add_right _ _)
  have HB2 := Lib.hid hB2
  have hne : some (w.heap.size + 1) ≠ Value.ownBlock (.slice (some ⟨w.heap.size + 2, 0, none⟩) 1 1) := fun e => by
    have e2 : w.heap.size + 1 = w.heap.size + 2 := Option.some.inj e
    omega
  have HR2 := Lib.hid (has_grown HRa.out hgrow hne)
  have hw2 : w.heap.size ≤ w2.heap.size := hB2.size
  have HO3 := Lib.hid hown3
  clear hown2 hown3 hgrow hB2
  refine (HOf.out a' c' w2 HO3.out).mono ?_
  rintro e w3 ⟨rfl, hol, hbel⟩
  have HB3 := Lib.hid hbel
  have HR3 := Lib.hid (HR2.out.below hbel HR2.out.lt)
  have HI32 := Lib.hid (arr32_info out (by omega))
  have HS32 := Lib.hid ((arr32_size [] (by simp)).trans (arr32_size out (by omega)).symm)
  clear hbel
  go_wp2_with ((with_reducible refine arm_store (w.heap.size + 1) _ _ _ HR3.out HS32.out HI32.out (arr32_one _) ?h5 ?h6 ?_); (case h5 => rfl); (case h6 => rfl))
  exact bodyPost_ret (results_cell_row (P := Tryd.prog) rfl _ _ (w.heap.size + 1) 26 (arr32 out) (0, 0) _ rfl HR3.out.setRow Tryd.underlying26 rfl HI32.out) rfl ⟨rfl, hol, below_setRow (HB2.out.trans (HB3.out.mono hw2)) (by omega) _⟩
end Go.Proofs.YtcocljghoiacmaaDoor
end
section
namespace Go.Hoar
open Go Go.RowKit
/-- The operations of a region. -/
def opsAt (n : Nat) : Code → Option (Array Oper)
  | .region m ops _ => if m = n then some ops else none
  | .seq a b => match opsAt n a with
    | some r => some r
    | none => opsAt n b
  | .cond _ a b => match opsAt n a with
    | some r => some r
    | none => opsAt n b
  | .block _ c => opsAt n c
  | .loop c => opsAt n c
  | .scope c => opsAt n c
  | _ => none
section
variable {P : Program}
/-- An array or a struct is stored whole into a block of its own. -/
theorem opw_store {a : Act} {w : World} {K : Act → World → Prop} {Q : Exit → Act → World → Prop} {ty T : TypeId} {x y : Operand} {pos : String} {af : Array Edge} {gd : Option (Nat × Bool)}
    (g : Nat) (cs : Array Value) (t : TypeId) (old : Array Value) (hg : Has w g t old) (ho : old.size = cs.size) (hi : (P.info? ty).map (·.size) = some cs.size) (h1 : cs.all (·.oneCell') = true)
    (hx : a.eval x = .pointer (some ⟨g, 0, none⟩)) (hy : a.eval y = .agg cs) (h : K a (w.setRow g cs)) : Oper.wp P ⟨none, .store ty x y, T, pos, af, gd⟩ a w K Q := by
  unfold Oper.wp execOp
  simp only [hx, hy, Instr.storeAt, Instr.sureAddr, Sem.run_bind, Sem.run_pure, Result.andThen_ok, run_storeVar_row w g t ty old cs hg hi ho h1]
  exact h
/-- .. and read whole. -/
theorem opw_load {a : Act} {w : World} {K : Act → World → Prop} {Q : Exit → Act → World → Prop} {dst : Option Tmp} {ty T : TypeId} {x : Operand} {pos : String} {af : Array Edge} {gd : Option (Nat × Bool)}
    (ad : Addr) (cs : Array Value) (d : TypeDesc) (hc : ∀ j u, cs[j]? = some u → w.cell? (ad.add j) = some u) (hu : P.underlying ty = some d)
    (hi : (P.info? ty).map (·.size) = some cs.size) (hx : a.eval x = .pointer (some ad))
    (hd : (match d with | .struct _ | .array _ _ => true | _ => false) = true) (h : K (a.put dst (.agg cs)) w) : Oper.wp P ⟨dst, .load ty x, T, pos, af, gd⟩ a w K Q := by
  unfold Oper.wp execOp
  simp only [hx, Instr.loadAt, Instr.sureAddr, Sem.run_bind, Sem.run_pure, Result.andThen_ok, run_loadVar_at w ad ty cs d hc hu hd hi]
  exact h
end
end Go.Hoar
end
section
namespace Go.Proofs.YtcocljghoiacmaaDoor
open Go.RowKit Go.Hoar
noncomputable def innerOps : Array Oper := (Tryd.f73.body.bind (opsAt 1)).getD #[]
set_option maxRecDepth 100000 in
set_option maxHeartbeats 2000000 in
theorem refInner_any (l m : List Nat) (hl : l.length = 32) (hm : m.length = 32) (hlb : Sha.Bytes l) (hmb : Sha.Bytes m) (w : World) (out : List Nat) (hout : Hid (out = Sha.sha (2 :: (l ++ m)))) :
    Calls Tryd.prog 73 #[.agg (arr32 l), .agg (arr32 m)] w fun e w' => e = .returned (.agg (arr32 out)) ∧ out.length = 32 ∧ Below w.heap.size w w' := by
  obtain ⟨i0, hi, hz0, hz1, hz2⟩ := info_parts info8
  go_enter Tryd.func73, Tryd.ntmps73
  go_upto_region 1 with (fail)
  refine gen_world (P := fun W => Code.wp _ _ _ _ W) (I := fun W => Below w.heap.size w W ∧ Has W w.heap.size 26 (arr32 l) ∧ Has W (w.heap.size + 1) 26 (arr32 m) ∧ Has W (w.heap.size + 2) 26 (arr32 []) ∧ W.heap.size = w.heap.size + 3) _ ⟨(((Below.refl _ w).alloc (Nat.le_refl _) _).alloc (by simp) _).alloc (by simp; omega) _, ((Has.fresh_at _ _ _ _ rfl).alloc _).alloc _, (Has.fresh_at _ _ _ _ (by simp)).alloc _, Has.fresh_at _ _ _ _ (by simp), by simp⟩ ?_
  rintro W ⟨hB, hS, hM, hR, hsz⟩
  change Code.wp _ (Code.region 1 innerOps true) _ _ _
  refine wp_region_held (S := fun _ => True) (by kernel_rfl) ?_
  have hsz : innerOps.size = 7 := by kernel_rfl
  rw [hsz]
  clear hsz
  refine gen_world (P := fun W' => wpAnyH _ _ _ _ _ _ _ _ W') (I := fun W' => Below w.heap.size w W' ∧ Has W' w.heap.size 26 (arr32 l) ∧ Has W' (w.heap.size + 1) 26 (arr32 m) ∧ Has W' (w.heap.size + 2) 26 (arr32 []) ∧ W'.heap.size = w.heap.size + 3) _ ⟨hB.drew, hS.drew, hM.drew, hR.drew, hsz⟩ ?_
  clear hB hS hM hR hsz W
  rintro W ⟨hB, hS, hM, hR, hsz⟩
  have HB := Lib.hid hB
  have HS := Lib.hid hS
  have HM := Lib.hid hM
  have HR := Lib.hid hR
  have hone : ∀ (l : List Nat), ∀ u ∈ l.map BV, u.oneCell' = true := by
    intro l u hu
    obtain ⟨x, _, rfl⟩ := List.mem_map.1 hu
    rfl
  have HOne := Lib.hid hone
  have h65 : (2 :: (l ++ m)).length = 65 := by simp [hl, hm]
  have hby : Sha.Bytes (2 :: (l ++ m)) := fun x hx => (List.mem_cons.1 hx).elim (fun e => by omega) (bytes_append hlb hmb x)
  have hof : ∀ (a : Option Addr) (c : Nat) (V : World), V.ownsRow (w.heap.size + 3) 5 1 (.slice a 65 c) 65 ((2 :: (l ++ m)).map BV) → Calls Tryd.prog 18 #[.slice a 65 c] V fun e w' => e = .returned (.agg (arr32 out)) ∧ out.length = 32 ∧ Below V.heap.size V w' := fun a c V ho =>
    refOf_own (2 :: (l ++ m)) 65 h65.symm hby (by omega) (by omega) ho out hout
  have HOf := Lib.hid hof
  have HO : Hid ((W.alloc (.cells #[.int .u8 2] 5)).ownsRow (w.heap.size + 3) 5 1 (.slice (some ⟨w.heap.size + 3, 0, none⟩) 1 1) 1 [.int .u8 2]) := Lib.hid (own_row (bs := [2]) (Has.fresh_at W 5 _ (w.heap.size + 3) hsz.symm) (by omega) (by decide))
  have HN : Hid (∀ j u, (l.map BV)[j]? = some u → (W.alloc (.cells #[.int .u8 2] 5)).cell? ((⟨w.heap.size, 0, none⟩ : Addr).add j) = some u) := Lib.hid fun j u hj => (hS.alloc _).row j u (by rw [arr32_whole l hl, List.getElem?_toArray]; exact hj)
  have HRa := Lib.hid (hR.alloc (.cells #[.int .u8 2] 5))
  have HMa := Lib.hid (hM.alloc (.cells #[.int .u8 2] 5))
  have HBa := Lib.hid (hB.alloc hB.size (.cells #[.int .u8 2] 5))
  have hbase : w.heap.size + 3 ≤ (W.alloc (.cells #[.int .u8 2] 5)).heap.size := by simp [hsz]
  have hl32 : (l.map BV).length = 32 * 1 := by simp [hl]
  have hm32 : (m.map BV).length = 32 * 1 := by simp [hm]
  have hne : ∀ k, k = 1 ∨ k = 2 → some (w.heap.size + k) ≠ Value.ownBlock (.slice (some ⟨w.heap.size + 3, 0, none⟩) 1 1) := fun k hk e => by
    have e2 : w.heap.size + k = w.heap.size + 3 := Option.some.inj e
    omega
  have HNe := Lib.hid hne
  clear hB hS hM hR hof hone hne
  refine wpAnyH_take (i := 1) (oi := ⟨some 6, _, _, _, _, _⟩) (v := .slice (some ⟨w.heap.size, 0, none⟩) 32 32) rfl (by kernel_rfl) (by kernel_rfl) (by kernel_rfl) (fun _ _ _ h => h) (Or.inl ⟨by rfl, fun w' hw' => by go_simp⟩) trivial ?_
  try simp only [Act.put, List.setIfInBounds_toArray, List.set_cons_succ, List.set_cons_zero]
  refine wpAnyH_take (i := 3) (oi := ⟨some 8, _, _, _, _, _⟩) (v := .slice (some ⟨w.heap.size + 1, 0, none⟩) 32 32) rfl (by kernel_rfl) (by kernel_rfl) (by kernel_rfl) (fun _ _ _ h => h) (Or.inl ⟨by rfl, fun w' hw' => by go_simp⟩) trivial ?_
  try simp only [Act.put, List.setIfInBounds_toArray, List.set_cons_succ, List.set_cons_zero]
  refine wpAnyH_all (rs := [0]) (by kernel_rfl) (by simp) ?_
  intro i hi
  obtain rfl : i = 0 := by simpa using hi
  clear hi
  refine wpOp_step (o := ⟨some 5, _, _, _, _, _⟩) rfl (fun K' hK' => ?_)
  rw [if_pos (show Region.wanted _ _ = true from rfl)]
  go_simp
  refine hK' _ _ ⟨trivial, ?_⟩
  clear hK' K'
  try simp only [Act.put, List.setIfInBounds_toArray, List.set_cons_succ, List.set_cons_zero]
  refine wpAnyH_all (rs := [2]) (by kernel_rfl) (by simp) ?_
  intro i hi
  obtain rfl : i = 2 := by simpa using hi
  clear hi
  refine wpOp_step (o := ⟨some 7, _, _, _, _, _⟩) rfl (fun K' hK' => ?_)
  rw [if_pos (show Region.wanted _ _ = true from rfl)]
  refine wp_append_own _ _ _ 22 rfl (w.heap.size + 3) 5 i0 (.int .u8 0) 1 1 Tryd.underlying22 hi hz0 hz1 hz2 rfl (by decide) _ _ _ rfl HO.out ⟨w.heap.size, 0, none⟩ 32 32 (l.map BV) rfl hl32 HN.out (HOne.out l) (by decide) (by decide) hbase (fun v' w2 hown2 hgrow _ => ?_)
  have hown3 : w2.ownsRow (w.heap.size + 3) 5 1 v' 33 ((2 :: l).map BV) := hown2
  obtain ⟨a', c', rfl⟩ := own_form hown3
  refine hK' _ _ ⟨trivial, ?_⟩
  clear hK' K'
  try simp only [Act.put, List.setIfInBounds_toArray, List.set_cons_succ, List.set_cons_zero]
  have hB2 : Below w.heap.size w w2 := HBa.out.grown hgrow (by omega) (fun r hr => by cases hr; exact Nat.le_add_right _ _)
  have HB2 := Lib.hid hB2
  have HR2 := Lib.hid (has_grown HRa.out hgrow (HNe.out 2 (Or.inr rfl)))
  have HM2 := Lib.hid (has_grown HMa.out hgrow (HNe.out 1 (Or.inl rfl)))
  have HN2 : Hid (∀ j u, (m.map BV)[j]? = some u → w2.cell? ((⟨w.heap.size + 1, 0, none⟩ : Addr).add j) = some u) := Lib.hid fun j u hj => HM2.out.row j u (by rw [arr32_whole m hm, List.getElem?_toArray]; exact hj)
  have hw2 : w.heap.size + 3 ≤ w2.heap.size := Nat.le_trans hbase hgrow.size
  have hlt2 : ∀ r, Value.ownBlock (.slice a' 33 c') = some r → w.heap.size + 3 ≤ r := fun r hr => (hown3.lt r hr).1
  have HO3 := Lib.hid hown3
  have HLt2 := Lib.hid hlt2
  clear hown2 hown3 hgrow hB2 hlt2
  refine wpAnyH_all (rs := [4]) (by kernel_rfl) (by simp) ?_
  intro i hi
  obtain rfl : i = 4 := by simpa using hi
  clear hi
  refine wpOp_step (o := ⟨some 9, _, _, _, _, _⟩) rfl (fun K' hK' => ?_)
  rw [if_pos (show Region.wanted _ _ = true from rfl)]
  refine wp_append_own _ _ _ 22 rfl (w.heap.size + 3) 5 i0 (.int .u8 0) 1 1 Tryd.underlying22 hi hz0 hz1 hz2 rfl (by decide) _ _ _ rfl HO3.out ⟨w.heap.size + 1, 0, none⟩ 32 32 (m.map BV) rfl hm32 HN2.out (HOne.out m) (by decide) (by decide) hw2 (fun v' w3 hown2 hgrow _ => ?_)
  have hown4 : w3.ownsRow (w.heap.size + 3) 5 1 v' 65 ((2 :: (l ++ m)).map BV) := by
    rw [← List.cons_append, List.map_append]
    exact hown2
  obtain ⟨a3, c3, rfl⟩ := own_form hown4
  refine hK' _ _ ⟨trivial, ?_⟩
  clear hK' K'
  try simp only [Act.put, List.setIfInBounds_toArray, List.set_cons_succ, List.set_cons_zero]
  have hB3 : Below w.heap.size w w3 := HB2.out.grown hgrow (by omega) (fun r hr => by have := HLt2.out r hr; omega)
  have HB3 := Lib.hid hB3
  have HR3 := Lib.hid (has_grown HR2.out hgrow (fun e => by have := HLt2.out _ e.symm; omega))
  have HO4 := Lib.hid hown4
  have hw3 : w.heap.size ≤ w3.heap.size := hB3.size
  clear hown2 hown4 hgrow hB3
  refine wpAnyH_all (rs := [5]) (by kernel_rfl) (by simp) ?_
  intro i hi
  obtain rfl : i = 5 := by simpa using hi
  clear hi
  refine wpOp_step (o := ⟨some 10, _, _, _, _, _⟩) rfl (fun K' hK' => ?_)
  rw [if_pos (show Region.wanted _ _ = true from rfl)]
  go_simp
  (with_reducible refine (HOf.out a3 c3 w3 HO4.out).mono ?_)
  rintro e w4 ⟨rfl, hol, hbel⟩
  refine hK' _ _ ⟨trivial, ?_⟩
  clear hK' K'
  try simp only [Act.put, List.setIfInBounds_toArray, List.set_cons_succ, List.set_cons_zero]
  have HB4 := Lib.hid hbel
  have HR4 := Lib.hid (HR3.out.below hbel HR3.out.lt)
  have HI32 := Lib.hid (arr32_info out (by omega))
  have HS32 := Lib.hid ((arr32_size [] (by simp)).trans (arr32_size out (by omega)).symm)
  clear hbel
  refine wpAnyH_all (rs := [6]) (by kernel_rfl) (by simp) ?_
  intro i hi
  obtain rfl : i = 6 := by simpa using hi
  clear hi
  refine wpOp_step (o := ⟨none, _, _, _, _, _⟩) rfl (fun K' hK' => ?_)
  rw [if_pos (show Region.wanted _ _ = true from rfl)]
  refine opw_store (w.heap.size + 2) (arr32 out) _ _ HR4.out HS32.out HI32.out (arr32_one _) rfl rfl ?_
  refine hK' _ _ ⟨trivial, ?_⟩
  clear hK' K'
  try simp only [Act.put, List.setIfInBounds_toArray, List.set_cons_succ, List.set_cons_zero]
  refine wpAnyH_done (by kernel_rfl) ?_ _
  go_wp2
  exact bodyPost_ret (results_cell_row (P := Tryd.prog) rfl _ _ (w.heap.size + 2) 26 (arr32 out) (0, 0) _ rfl HR4.out.setRow Tryd.underlying26 rfl HI32.out) rfl ⟨rfl, hol, below_setRow (HB3.out.trans (HB4.out.mono hw3)) (by omega) _⟩
end Go.Proofs.YtcocljghoiacmaaDoor
end
section
namespace Go.Proofs.YtcocljghoiacmaaDoor
open Go.RowKit Go.Hoar
theorem pow_half {n d : Nat} (h2 : 2 ≤ n) (hn : n ≤ 140737488355328) (h1 : 2 ^ d ≤ n - 1) (h3 : n - 1 < 2 * 2 ^ d) : 2 ^ d = halfOf n := by
  obtain ⟨_, b2, b3⟩ := halfOf_bounds h2 hn
  unfold halfOf at *
  generalize Lib.bitLen (n - 1) - 1 = k at *
  rcases Nat.lt_trichotomy d k with h | h | h
  · have : 2 ^ (d + 1) ≤ 2 ^ k := Nat.pow_le_pow_right (by decide) h
    rw [Nat.pow_succ] at this
    omega
  · rw [h]
  · have : 2 ^ (k + 1) ≤ 2 ^ d := Nat.pow_le_pow_right (by decide) h
    rw [Nat.pow_succ] at this
    omega
set_option maxHeartbeats 1000000 in
theorem refBelow_any (n : Nat) (h2 : 2 ≤ n) (hn : n ≤ 140737488355328) (w : World) :
    Calls Tryd.prog 71 #[.int .i64 (n : Int)] w fun e w' => e = .returned (.int .i64 ((halfOf n : Nat) : Int)) ∧ w' = w := by
  go_enter Tryd.func71, Tryd.ntmps71
  go_wp2
  go_loop [3] (fun v => ∃ m d : Nat, v = .int .i64 m ∧ Hid (m = 2 ^ d) ∧ 0 < m ∧ m < n) (fun v => n - (intOf v).toNat)
  case atStart => exact ⟨1, 0, rfl, Lib.hid rfl, by omega, by omega⟩
  case round =>
    obtain ⟨m, d, rfl, hm, h0, h1⟩ := hrel
    by_cases hlt : 2 * m < n
    · have hlt2 : (2 : Int) * m < n := by omega
      go_wp2
      go_round
      case rel => exact ⟨m * 2, d + 1, by go_num, Lib.hid (by rw [hm.out, Nat.pow_succ]), by omega, by omega⟩
      case measure => simp [intOf]; omega
    · have hlt2 : (n : Int) ≤ 2 * m := by omega
      have HE : Hid (halfOf n = m) := Lib.hid (by rw [hm.out]; exact (pow_half (d := d) h2 hn (by rw [← hm.out]; omega) (by rw [← hm.out]; omega)).symm)
      go_wp2
      go_ret
      exact ⟨by rw [HE.out]; exact Eq.refl _, rfl⟩
end Go.Proofs.YtcocljghoiacmaaDoor
end
section
namespace Go.Proofs.YtcocljghoiacmaaDoor
open Go.RowKit Go.Hoar
noncomputable def listOps : Array Oper := (Tryd.f36.body.bind (opsAt 6)).getD #[]
set_option maxRecDepth 100000 in
set_option maxHeartbeats 1000000 in
theorem refList_none (a : Option Addr) (c : Nat) (w : World) (out : List Nat) (hout : Hid (out = Sha.sha [0])) :
    Calls Tryd.prog 36 #[.slice a 0 c] w fun e w' => e = .returned (.agg (arr32 out)) ∧ out.length = 32 ∧ Below w.heap.size w w' := by
  have hof : ∀ (V : World) (g : Nat), Has V g 5 #[.int .u8 0] → Calls Tryd.prog 18 #[.slice (some ⟨g, 0, none⟩) 1 1] V fun e w' => e = .returned (.agg (arr32 out)) ∧ out.length = 32 ∧ Below V.heap.size V w' := fun V g h =>
    (refOf_any [0] (some ⟨g, 0, none⟩) 1 V (fun x hx => by rw [List.mem_singleton.1 hx]; decide) (pad_part (bs := [0]) h) (Nat.le_refl _) (by decide) (by decide) (by decide) out hout).mono fun e w' ⟨he, hb⟩ => ⟨he, by rw [hout.out]; exact (sha_bytes _).1, hb⟩
  have HOf := Lib.hid hof
  clear hof
  go_enter Tryd.func36, Tryd.ntmps36
  go_upto_region 1 with (fail)
  refine gen_world (P := fun W => Code.wp _ _ _ _ W) (I := fun W => Below w.heap.size w W ∧ Has W w.heap.size 26 (arr32 []) ∧ W.heap.size = w.heap.size + 1) _ ⟨(Below.refl _ w).alloc (Nat.le_refl _) _, Has.fresh_at _ _ _ _ rfl, by simp⟩ ?_
  rintro W ⟨hB, hR, hsz⟩
  have HBa := Lib.hid (hB.alloc hB.size (.cells #[.int .u8 0] 5))
  have HRa := Lib.hid (hR.alloc (.cells #[.int .u8 0] 5))
  clear hB hR
  go_wp2_with (first
    | (go_at_call 18; refine (HOf.out _ _ (Has.fresh_at W 5 _ (w.heap.size + 1) hsz.symm)).mono ?_; rintro e w3 ⟨rfl, hol, hbel⟩; have HB3 := Lib.hid hbel; have HR3 := Lib.hid (HRa.out.below hbel HRa.out.lt); have HI32 := Lib.hid (arr32_info out (by omega)); have HS32 := Lib.hid ((arr32_size [] (by simp)).trans (arr32_size out (by omega)).symm); clear hbel)
    | ((with_reducible refine arm_store w.heap.size _ _ _ HR3.out HS32.out HI32.out (arr32_one _) ?h5 ?h6 ?_); (case h5 => rfl); (case h6 => rfl)))
  exact bodyPost_ret (results_cell_row (P := Tryd.prog) rfl _ _ w.heap.size 26 (arr32 out) (0, 0) _ rfl HR3.out.setRow Tryd.underlying26 rfl HI32.out) rfl ⟨rfl, hol, below_setRow (HBa.out.trans (HB3.out.mono HBa.out.size)) (Nat.le_refl _) _⟩
set_option maxRecDepth 100000 in
set_option maxHeartbeats 1000000 in
theorem refList_one (l : List Nat) (g off c : Nat) (w : World) (hs : SumsAt w g off [l]) (hg : g < w.heap.size) (_hcm : c ≤ maxLen) (_h1c : 1 ≤ c) (out : List Nat) (hout : Hid (out = Sha.sha (1 :: l))) :
    Calls Tryd.prog 36 #[.slice (some ⟨g, off, none⟩) 1 c] w fun e w' => e = .returned (.agg (arr32 out)) ∧ out.length = 32 ∧ Below w.heap.size w w' := by
  obtain ⟨hl, hlb, _⟩ := hs 0 l rfl
  unfold maxLen at _hcm
  have HI := Lib.hid (arr32_info l (by omega))
  go_enter Tryd.func36, Tryd.ntmps36
  go_upto_region 1 with (fail)
  refine gen_world (P := fun W => Code.wp _ _ _ _ W) (I := fun W => Below w.heap.size w W ∧ Has W w.heap.size 26 (arr32 [])) _ ⟨(Below.refl _ w).alloc (Nat.le_refl _) _, Has.fresh_at _ _ _ _ rfl⟩ ?_
  rintro W ⟨hB, hR⟩
  have hrow := (hs.below hg hB).row (i := 0) (l := l) rfl
  rw [Nat.zero_mul, Nat.add_zero] at hrow
  have HRow := Lib.hid hrow
  have HB := Lib.hid hB
  have HR := Lib.hid hR
  clear hB hR hs hrow
  go_wp2_with (first
    | ((with_reducible refine arm_load ⟨g, off, none⟩ _ _ HRow.out Tryd.underlying26 HI.out ?h1 ?h2 ?_); (case h1 => rfl); (case h2 => rfl))
    | (go_at_call 72; refine (refLeaf_any l hl hlb _ out hout).mono ?_; rintro e w3 ⟨rfl, hol, hbel⟩; have HB3 := Lib.hid hbel; have HR3 := Lib.hid (HR.out.below hbel HR.out.lt); have HI32 := Lib.hid (arr32_info out (by omega)); have HS32 := Lib.hid ((arr32_size [] (by simp)).trans (arr32_size out (by omega)).symm); clear hbel)
    | ((with_reducible refine arm_store w.heap.size _ _ _ HR3.out HS32.out HI32.out (arr32_one _) ?h5 ?h6 ?_); (case h5 => rfl); (case h6 => rfl)))
  exact bodyPost_ret (results_cell_row (P := Tryd.prog) rfl _ _ w.heap.size 26 (arr32 out) (0, 0) _ rfl HR3.out.setRow Tryd.underlying26 rfl HI32.out) rfl ⟨rfl, hol, below_setRow (HB.out.trans (HB3.out.mono HB.out.size)) (Nat.le_refl _) _⟩
def RefListOk (f : Nat) : Prop := ∀ (ls : List (List Nat)) (g off c : Nat) (w : World), ls.length < f → 0 < ls.length → ls.length ≤ c → c ≤ maxLen → ls.length ≤ 140737488355328 → SumsAt w g off ls → g < w.heap.size → ∀ out, Hid (out = listOf f ls) →
    Calls Tryd.prog 36 #[.slice (some ⟨g, off, none⟩) ls.length c] w fun e w' => e = .returned (.agg (arr32 out)) ∧ out.length = 32 ∧ Below w.heap.size w w'
set_option maxRecDepth 100000 in
set_option maxHeartbeats 2000000 in
theorem refList_step (f : Nat) (ih : RefListOk f) (ls : List (List Nat)) (n : Nat) (hnl : n = ls.length) (h2 : 2 ≤ n) (g off c : Nat) (w : World) (hf : n < f + 1) (hnc : n ≤ c) (hcm : c ≤ maxLen) (hn : n ≤ 140737488355328) (hs : SumsAt w g off ls) (hg : g < w.heap.size) (out : List Nat)
    (hlo : out = Sha.sha (2 :: (listOf f (ls.take (halfOf n)) ++ listOf f (ls.drop (halfOf n))))) :
    Calls Tryd.prog 36 #[.slice (some ⟨g, off, none⟩) n c] w fun e w' => e = .returned (.agg (arr32 out)) ∧ out.length = 32 ∧ Below w.heap.size w w' := by
  obtain ⟨_, b2, _⟩ := halfOf_bounds h2 hn
  have b0 := halfOf_pos n
  obtain ⟨h, hh⟩ : ∃ h, h = halfOf n := ⟨_, rfl⟩
  rw [← hh] at b2 b0 hlo
  have lt1 : (ls.take h).length = h := by rw [List.length_take]; omega
  have lt2 : (ls.drop h).length = n - h := by rw [List.length_drop]; omega
  obtain ⟨A, hA⟩ : ∃ A, A = listOf f (ls.take h) := ⟨_, rfl⟩
  obtain ⟨B, hB⟩ : ∃ B, B = listOf f (ls.drop h) := ⟨_, rfl⟩
  have hAb : Sha.Bytes A := by rw [hA]; exact listOf_bytes _ _
  have hBb : Sha.Bytes B := by rw [hB]; exact listOf_bytes _ _
  rw [← hA, ← hB] at hlo
  have hfirst : ∀ V, Below w.heap.size w V → Calls Tryd.prog 36 #[.slice (some ⟨g, off, none⟩) h c] V fun e w' => e = .returned (.agg (arr32 A)) ∧ A.length = 32 ∧ Below V.heap.size V w' := fun V hv => by
    have k := ih (ls.take h) g off c V (by rw [lt1]; omega) (by rw [lt1]; omega) (by rw [lt1]; omega) hcm (by rw [lt1]; omega) ((hs.below hg hv).take h) (Nat.lt_of_lt_of_le hg hv.size) A (Lib.hid hA)
    rwa [lt1] at k
  have hrest : ∀ V, Below w.heap.size w V → Calls Tryd.prog 36 #[.slice (some ⟨g, off + h * 32, none⟩) (n - h) (c - h)] V fun e w' => e = .returned (.agg (arr32 B)) ∧ B.length = 32 ∧ Below V.heap.size V w' := fun V hv => by
    have k := ih (ls.drop h) g (off + h * 32) (c - h) V (by rw [lt2]; omega) (by rw [lt2]; omega) (by rw [lt2]; omega) (by omega) (by rw [lt2]; omega) ((hs.below hg hv).drop h) (Nat.lt_of_lt_of_le hg hv.size) B (Lib.hid hB)
    rwa [lt2] at k
  have hpair : ∀ V, Below w.heap.size w V → A.length = 32 → B.length = 32 → Calls Tryd.prog 73 #[.agg (arr32 A), .agg (arr32 B)] V fun e w' => e = .returned (.agg (arr32 out)) ∧ out.length = 32 ∧ Below V.heap.size V w' := fun V hv ha hb => refInner_any A B ha hb hAb hBb V out (Lib.hid hlo)
  have hcut := refBelow_any n h2 hn
  rw [← hh] at hcut
  unfold maxLen at hcm
  have HF := Lib.hid hfirst
  have HS := Lib.hid hrest
  have HP := Lib.hid hpair
  have HK := Lib.hid hcut
  have n0 : ¬ n = 0 := by omega
  have n1 : ¬ n = 1 := by omega
  clear hfirst hrest hpair hcut hs hA hB hlo lt1 lt2 hnl hh ih
  go_enter Tryd.func36, Tryd.ntmps36
  go_upto_region 1 with (fail)
  refine gen_world (P := fun W => Code.wp _ _ _ _ W) (I := fun W => Below w.heap.size w W ∧ Has W w.heap.size 26 (arr32 [])) _ ⟨(Below.refl _ w).alloc (Nat.le_refl _) _, Has.fresh_at _ _ _ _ rfl⟩ ?_
  rintro W ⟨hBW, hRW⟩
  have HB := Lib.hid hBW
  have HR := Lib.hid hRW
  clear hBW hRW
  have hhc : ¬ c = h := by omega
  have hhc2 : h ≤ c := by omega
  have hhn : h ≤ n := by omega
  go_upto_region 6 with (go_at_call 71; (with_reducible refine (HK.out _).mono ?_); rintro e w1 ⟨rfl, rfl⟩)
  change Code.wp _ (Code.region 6 listOps true) _ _ _
  refine wp_region_held (S := fun V => Below w.heap.size w V) (by kernel_rfl) ?_
  have hsz : listOps.size = 10 := by kernel_rfl
  rw [hsz]
  clear hsz
  refine gen_world (P := fun W' => wpAnyH _ _ _ _ _ _ _ _ W') (I := fun V => Below w.heap.size w V ∧ Has V w.heap.size 26 (arr32 [])) _ ⟨HB.out.drew, HR.out.drew⟩ ?_
  rintro V ⟨hBV, hRV⟩
  have HB0 := Lib.hid hBV
  have HR0 := Lib.hid hRV
  clear hBV hRV HB HR
  refine wpAnyH_take (i := 0) (oi := ⟨some 19, _, _, _, _, _⟩) (v := .slice (some ⟨g, off, none⟩) n c) rfl (by kernel_rfl) (by kernel_rfl) (by kernel_rfl) (fun _ _ _ h => h) (Or.inl ⟨by rfl, fun w' hw' => by go_simp⟩) HB0.out ?_
  try simp only [Act.put, List.setIfInBounds_toArray, List.set_cons_succ, List.set_cons_zero]
  refine wpAnyH_take (i := 1) (oi := ⟨some 20, _, _, _, _, _⟩) (v := .int .i64 (h : Int)) rfl (by kernel_rfl) (by kernel_rfl) (by kernel_rfl) (fun _ _ _ h => h) (Or.inl ⟨by rfl, fun w' hw' => by go_simp⟩) HB0.out ?_
  try simp only [Act.put, List.setIfInBounds_toArray, List.set_cons_succ, List.set_cons_zero]
  refine wpAnyH_take (i := 2) (oi := ⟨some 21, _, _, _, _, _⟩) (v := .slice (some ⟨g, off, none⟩) h c) rfl (by kernel_rfl) (by kernel_rfl) (by kernel_rfl) (fun _ _ _ h => h) (Or.inl ⟨by rfl, fun w' hw' => by go_simp⟩) HB0.out ?_
  try simp only [Act.put, List.setIfInBounds_toArray, List.set_cons_succ, List.set_cons_zero]
  refine wpAnyH_take (i := 4) (oi := ⟨some 23, _, _, _, _, _⟩) (v := .slice (some ⟨g, off, none⟩) n c) rfl (by kernel_rfl) (by kernel_rfl) (by kernel_rfl) (fun _ _ _ h => h) (Or.inl ⟨by rfl, fun w' hw' => by go_simp⟩) HB0.out ?_
  try simp only [Act.put, List.setIfInBounds_toArray, List.set_cons_succ, List.set_cons_zero]
  refine wpAnyH_take (i := 5) (oi := ⟨some 24, _, _, _, _, _⟩) (v := .int .i64 (h : Int)) rfl (by kernel_rfl) (by kernel_rfl) (by kernel_rfl) (fun _ _ _ h => h) (Or.inl ⟨by rfl, fun w' hw' => by go_simp⟩) HB0.out ?_
  try simp only [Act.put, List.setIfInBounds_toArray, List.set_cons_succ, List.set_cons_zero]
  refine wpAnyH_take (i := 6) (oi := ⟨some 25, _, _, _, _, _⟩) (v := .slice (some ⟨g, off + h * 32, none⟩) (n - h) (c - h)) rfl (by kernel_rfl) (by kernel_rfl) (by kernel_rfl) (fun _ _ _ h => h) (Or.inl ⟨by rfl, fun w' hw' => by go_simp⟩) HB0.out ?_
  try simp only [Act.put, List.setIfInBounds_toArray, List.set_cons_succ, List.set_cons_zero]
  refine wpAnyH_all (rs := [3]) (by kernel_rfl) (by simp) ?_
  intro i hi
  obtain rfl : i = 3 := by simpa using hi
  clear hi
  refine wpOp_step (o := ⟨some 22, _, _, _, _, _⟩) rfl (fun K' hK' => ?_)
  rw [if_pos (show Region.wanted _ _ = true from rfl)]
  go_simp
  (with_reducible refine (HF.out _ HB0.out).mono ?_)
  rintro e v1 ⟨rfl, hal, hbx⟩
  have HB1 := Lib.hid (HB0.out.trans (hbx.mono HB0.out.size))
  have HR1 := Lib.hid (HR0.out.below hbx HR0.out.lt)
  clear hbx
  refine hK' _ _ ⟨HB1.out, ?_⟩
  clear hK' K'
  try simp only [Act.put, List.setIfInBounds_toArray, List.set_cons_succ, List.set_cons_zero]
  refine wpAnyH_all (rs := [7]) (by kernel_rfl) (by simp) ?_
  intro i hi
  obtain rfl : i = 7 := by simpa using hi
  clear hi
  refine wpOp_step (o := ⟨some 26, _, _, _, _, _⟩) rfl (fun K' hK' => ?_)
  rw [if_pos (show Region.wanted _ _ = true from rfl)]
  go_simp
  (with_reducible refine (HS.out _ HB1.out).mono ?_)
  rintro e v2 ⟨rfl, hbl, hbx⟩
  have HB2 := Lib.hid (HB1.out.trans (hbx.mono HB1.out.size))
  have HR2 := Lib.hid (HR1.out.below hbx HR1.out.lt)
  clear hbx
  refine hK' _ _ ⟨HB2.out, ?_⟩
  clear hK' K'
  try simp only [Act.put, List.setIfInBounds_toArray, List.set_cons_succ, List.set_cons_zero]
  refine wpAnyH_all (rs := [8]) (by kernel_rfl) (by simp) ?_
  intro i hi
  obtain rfl : i = 8 := by simpa using hi
  clear hi
  refine wpOp_step (o := ⟨some 27, _, _, _, _, _⟩) rfl (fun K' hK' => ?_)
  rw [if_pos (show Region.wanted _ _ = true from rfl)]
  go_simp
  (with_reducible refine (HP.out _ HB2.out hal hbl).mono ?_)
  rintro e v3 ⟨rfl, hol, hbx⟩
  have HB4 := Lib.hid (HB2.out.trans (hbx.mono HB2.out.size))
  have HR4 := Lib.hid (HR2.out.below hbx HR2.out.lt)
  clear hbx
  refine hK' _ _ ⟨HB4.out, ?_⟩
  clear hK' K'
  try simp only [Act.put, List.setIfInBounds_toArray, List.set_cons_succ, List.set_cons_zero]
  have HI32 := Lib.hid (arr32_info out (by omega))
  have HS32 := Lib.hid ((arr32_size [] (by simp)).trans (arr32_size out (by omega)).symm)
  refine wpAnyH_all (rs := [9]) (by kernel_rfl) (by simp) ?_
  intro i hi
  obtain rfl : i = 9 := by simpa using hi
  clear hi
  refine wpOp_step (o := ⟨none, _, _, _, _, _⟩) rfl (fun K' hK' => ?_)
  rw [if_pos (show Region.wanted _ _ = true from rfl)]
  refine opw_store w.heap.size (arr32 out) _ _ HR4.out HS32.out HI32.out (arr32_one _) rfl rfl ?_
  refine hK' _ _ ⟨below_setRow HB4.out (Nat.le_refl _) _, ?_⟩
  clear hK' K'
  try simp only [Act.put, List.setIfInBounds_toArray, List.set_cons_succ, List.set_cons_zero]
  refine wpAnyH_done (by kernel_rfl) ?_ _
  go_wp2
  exact bodyPost_ret (results_cell_row (P := Tryd.prog) rfl _ _ w.heap.size 26 (arr32 out) (0, 0) _ rfl HR4.out.setRow Tryd.underlying26 rfl HI32.out) rfl ⟨rfl, hol, below_setRow HB4.out (Nat.le_refl _) _⟩
theorem refList_any : ∀ (f : Nat), RefListOk f
  | 0 => fun _ _ _ _ _ h _ _ _ _ _ _ _ _ => absurd h (Nat.not_lt_zero _)
  | f + 1 => fun ls g off c w hf hp hnc hcm hn hs hg out hout => by
    match ls, hf, hp, hnc, hn, hs, hout with
    | [], _, hp, _, _, _, _ => exact absurd hp (Nat.lt_irrefl _)
    | [x], _, _, h1, _, hs, hout => exact refList_one x g off c w hs hg hcm h1 out (Lib.hid (hout.out.trans (by rw [listOf])))
    | x :: y :: r, hf, _, hnc, hn, hs, hout => exact refList_step f (refList_any f) (x :: y :: r) _ rfl (by simp) g off c w hf hnc hcm hn hs hg out (hout.out.trans (by rw [listOf]; exact Eq.refl _))
end Go.Proofs.YtcocljghoiacmaaDoor
end
section
namespace Go.Proofs.YtcocljghoiacmaaDoor
open Go.RowKit Go.Hoar
/-- The way of a place, list by list. -/
def refWay : Nat → List (List Nat) → Nat → List (List Nat)
  | 0, _, _ => []
  | f + 1, ls, i =>
    if ls.length ≤ 1 then []
    else if i < halfOf ls.length then refWay f (ls.take (halfOf ls.length)) i ++ [listOf ((ls.drop (halfOf ls.length)).length + 1) (ls.drop (halfOf ls.length))]
    else refWay f (ls.drop (halfOf ls.length)) (i - halfOf ls.length) ++ [listOf ((ls.take (halfOf ls.length)).length + 1) (ls.take (halfOf ls.length))]
theorem refWay_one (f : Nat) (ls : List (List Nat)) (i : Nat) (h : ls.length ≤ 1) : refWay f ls i = [] := by
  cases f with
  | zero => rfl
  | succ f => rw [refWay, if_pos h]
theorem ways_ref (ls0 : List (List Nat)) (hn : ls0.length ≤ 1073741824) : ∀ (f a b i : Nat), b ≤ ls0.length → a ≤ i → (spansF f a b i).reverse.map (spanSum ls0) = refWay f ((ls0.drop a).take (b - a)) (i - a)
  | 0, _, _, _, _, _ => rfl
  | f + 1, a, b, i, hb, hai => by
    have hlen : ((ls0.drop a).take (b - a)).length = b - a := by rw [List.length_take, List.length_drop]; omega
    by_cases h : a + 2 ≤ b
    · obtain ⟨_, b2, _⟩ := halfOf_bounds (n := b - a) (by omega) (by omega)
      have b0 : 0 < halfOf (b - a) := halfOf_pos _
      obtain ⟨m, hm⟩ : ∃ m, m = halfOf (b - a) := ⟨_, rfl⟩
      rw [← hm] at b2 b0
      have htake : ((ls0.drop a).take (b - a)).take m = (ls0.drop a).take (a + m - a) := by rw [List.take_take, Nat.add_sub_cancel_left, Nat.min_eq_left (by omega)]
      have hdrop : ((ls0.drop a).take (b - a)).drop m = (ls0.drop (a + m)).take (b - (a + m)) := by
        rw [List.drop_take, List.drop_drop]
        congr 1
        omega
      by_cases hi : i < a + m
      · have hi2 : i - a < m := by omega
        rw [spansF_left h (by rw [← hm]; exact hi), ← hm, List.reverse_cons, List.map_append, ways_ref ls0 hn f a (a + m) i (by omega) hai, refWay, hlen, ← hm, if_neg (by omega), if_pos hi2, htake, hdrop, List.map_cons, List.map_nil]
        congr 2
        rw [spanSum, List.length_take, List.length_drop]
        congr 2
        dsimp only
        omega
      · have hi2 : ¬ i - a < m := by omega
        rw [spansF_right h (by rw [← hm]; exact hi), ← hm, List.reverse_cons, List.map_append, ways_ref ls0 hn f (a + m) b i hb (by omega), refWay, hlen, ← hm, if_neg (by omega), if_neg hi2, htake, hdrop, List.map_cons, List.map_nil, show i - (a + m) = i - a - m by omega]
        congr 2
        rw [spanSum, List.length_take, List.length_drop]
        congr 2
        dsimp only
        omega
    · rw [spansF, if_pos (by omega), refWay, hlen, if_pos (by omega)]
      rfl
/-- The way of a place in a list. -/
theorem ways_list (ls : List (List Nat)) (hn : ls.length ≤ 1073741824) (i : Nat) : (waysOf ls.length i).map (spanSum ls) = refWay ls.length ls i := by
  have := ways_ref ls hn ls.length 0 ls.length i (Nat.le_refl _) (Nat.zero_le _)
  rw [List.drop_zero, Nat.sub_zero, Nat.sub_zero, List.take_length] at this
  exact this
/-- What a way leads to from a digest at a place, and whether it is as long as it must be; beside it the digest that it is where the way ends too early. -/
def climb : Nat → Nat → Nat → List Nat → List (List Nat) → List Nat × Bool
  | 0, _, _, _, _ => ([], false)
  | f + 1, n, i, x, way =>
    if n ≤ 1 then (Sha.sha (1 :: x), decide (way.length = 0))
    else match way.getLast? with
      | none => (List.replicate 32 0, false)
      | some last =>
        if i < halfOf n then (Sha.sha (2 :: ((climb f (halfOf n) i x way.dropLast).1 ++ last)), (climb f (halfOf n) i x way.dropLast).2)
        else (Sha.sha (2 :: (last ++ (climb f (n - halfOf n) (i - halfOf n) x way.dropLast).1)), (climb f (n - halfOf n) (i - halfOf n) x way.dropLast).2)
/-- One step up. -/
def upStep (i : Nat) (up : List Nat) (s : (Nat × Nat) × List Nat) : List Nat := if i < s.1.1 then Sha.sha (2 :: (up ++ s.2)) else Sha.sha (2 :: (s.2 ++ up))
/-- All steps up. -/
def upAll (i : Nat) (x : List Nat) (ps : List (Nat × Nat)) (way : List (List Nat)) : List Nat := (ps.zip way).foldl (upStep i) (Sha.sha (1 :: x))
theorem upAll_snoc (i : Nat) (x : List Nat) (ps : List (Nat × Nat)) (p : Nat × Nat) (way : List (List Nat)) (l : List Nat) (h : ps.length = way.length) : upAll i x (ps ++ [p]) (way ++ [l]) = upStep i (upAll i x ps way) (p, l) := by
  rw [upAll, upAll, List.zip_append h, List.foldl_append]
  rfl
theorem climb_up (x : List Nat) : ∀ (f a b i : Nat), b - a < f → b ≤ 1073741824 → a ≤ i → i < b → ∀ way : List (List Nat),
    (climb f (b - a) (i - a) x way).2 = decide (way.length = (spansF f a b i).length) ∧ (way.length = (spansF f a b i).length → (climb f (b - a) (i - a) x way).1 = upAll i x (spansF f a b i).reverse way)
  | 0, _, _, _, h, _, _, _, _ => absurd h (Nat.not_lt_zero _)
  | f + 1, a, b, i, hf, hb, hai, hib, way => by
    by_cases h : a + 2 ≤ b
    · obtain ⟨_, b2, _⟩ := halfOf_bounds (n := b - a) (by omega) (by omega)
      have b0 : 0 < halfOf (b - a) := halfOf_pos _
      obtain ⟨m, hm⟩ : ∃ m, m = halfOf (b - a) := ⟨_, rfl⟩
      rw [← hm] at b2 b0
      rcases List.eq_nil_or_concat way with rfl | ⟨way', last, rfl⟩
      · have hn : (spansF (f + 1) a b i).length ≠ 0 := by
          by_cases hi : i < a + m
          · rw [spansF_left h (by rw [← hm]; exact hi)]; simp
          · rw [spansF_right h (by rw [← hm]; exact hi)]; simp
        rw [climb, if_neg (by omega)]
        simp only [List.getLast?_nil, List.length_nil]
        exact ⟨(decide_eq_false (fun e => hn e.symm)).symm, fun e => absurd e.symm hn⟩
      · rw [climb, if_neg (by omega)]
        simp only [List.concat_eq_append, List.getLast?_concat, List.dropLast_concat, ← hm]
        by_cases hi : i < a + m
        · have hi2 : i - a < m := by omega
          obtain ⟨h1, h2⟩ := climb_up x f a (a + m) i (by omega) (by omega) hai hi way'
          rw [Nat.add_sub_cancel_left] at h1 h2
          rw [spansF_left h (by rw [← hm]; exact hi), ← hm, if_pos hi2, List.length_cons, List.length_append, List.length_cons, List.length_nil]
          refine ⟨by rw [h1]; simp, fun e => ?_⟩
          have e2 : way'.length = (spansF f a (a + m) i).length := by omega
          rw [List.reverse_cons, upAll_snoc _ _ _ _ _ _ (by rw [List.length_reverse]; exact e2.symm), ← h2 e2, upStep, if_pos hi]
        · have hi2 : ¬ i - a < m := by omega
          obtain ⟨h1, h2⟩ := climb_up x f (a + m) b i (by omega) hb (by omega) hib way'
          rw [show b - (a + m) = b - a - m by omega, show i - (a + m) = i - a - m by omega] at h1 h2
          rw [spansF_right h (by rw [← hm]; exact hi), ← hm, if_neg hi2, List.length_cons, List.length_append, List.length_cons, List.length_nil]
          refine ⟨by rw [h1]; simp, fun e => ?_⟩
          have e2 : way'.length = (spansF f (a + m) b i).length := by omega
          rw [List.reverse_cons, upAll_snoc _ _ _ _ _ _ (by rw [List.length_reverse]; exact e2.symm), ← h2 e2, upStep, if_neg (by dsimp only; omega)]
    · rw [climb, if_pos (by omega), spansF, if_pos (by omega)]
      refine ⟨rfl, fun e => ?_⟩
      obtain rfl := List.length_eq_zero_iff.1 e
      rfl
theorem spansF_more : ∀ (f a b i : Nat), b - a ≤ f → b ≤ 1073741824 → spansF (f + 1) a b i = spansF f a b i
  | 0, a, b, i, h, _ => by
    show (if b ≤ a + 1 then [] else _) = _
    rw [if_pos (by omega)]
    rfl
  | f + 1, a, b, i, h, hb => by
    by_cases h2 : a + 2 ≤ b
    · obtain ⟨_, b2, _⟩ := halfOf_bounds (n := b - a) (by omega) (by omega)
      have b0 : 0 < halfOf (b - a) := halfOf_pos _
      by_cases hi : i < a + halfOf (b - a)
      · rw [spansF_left h2 hi, spansF_left h2 hi, spansF_more f _ _ i (by omega) (by omega)]
      · rw [spansF_right h2 hi, spansF_right h2 hi, spansF_more f _ _ i (by omega) (by omega)]
    · rw [spansF, if_pos (by omega), spansF, if_pos (by omega)]
theorem climb_ways (x : List Nat) (n i : Nat) (hi : i < n) (hn : n ≤ 1073741824) (way : List (List Nat)) :
    (climb (n + 1) n i x way).2 = decide (way.length = (waysOf n i).length) ∧ (way.length = (waysOf n i).length → (climb (n + 1) n i x way).1 = upAll i x (waysOf n i) way) := by
  have h := climb_up x (n + 1) 0 n i (by omega) hn (Nat.zero_le _) hi way
  rw [Nat.sub_zero, Nat.sub_zero] at h
  have e : spansF (n + 1) 0 n i = spansF n 0 n i := spansF_more n 0 n i (by omega) (by omega)
  rw [e] at h
  rw [waysOf, List.length_reverse]
  exact h
end Go.Proofs.YtcocljghoiacmaaDoor
end
section
namespace Go.Proofs.YtcocljghoiacmaaDoor
open Go.RowKit Go.Hoar
theorem refWay_len : ∀ (f : Nat) (ls : List (List Nat)) (i : Nat), (refWay f ls i).length ≤ f
  | 0, _, _ => Nat.le_refl _
  | f + 1, ls, i => by
    rw [refWay]
    split
    · simp
    · split
      · rw [List.length_append]
        have := refWay_len f (ls.take (halfOf ls.length)) i
        simp
        omega
      · rw [List.length_append]
        have := refWay_len f (ls.drop (halfOf ls.length)) (i - halfOf ls.length)
        simp
        omega
set_option maxRecDepth 100000 in
set_option maxHeartbeats 1000000 in
theorem refProof_not (i : Int) (a : Option Addr) (n c : Nat) (h : i < 0 ∨ (n : Int) ≤ i) (_hn : n ≤ 1073741824) (w : World) :
    Calls Tryd.prog 35 #[.slice a n c, .int .i64 i] w fun e w' => e = .returned (.tuple #[.slice none 0 0, .int .i64 1]) ∧ w' = w := by
  by_cases h0 : i < 0
  · go_enter Tryd.func35, Tryd.ntmps35
    go_wp2
    go_ret2
    exact ⟨rfl, rfl⟩
  · have h1 : (n : Int) ≤ i := by omega
    go_enter Tryd.func35, Tryd.ntmps35
    go_wp2
    go_ret2
    exact ⟨rfl, rfl⟩
theorem refProof_one (a : Option Addr) (c : Nat) (w : World) :
    Calls Tryd.prog 35 #[.slice a 1 c, .int .i64 0] w fun e w' => e = .returned (.tuple #[.slice none 0 0, .int .i64 0]) ∧ w' = w := by
  go_enter Tryd.func35, Tryd.ntmps35
  go_wp2
  go_ret2
  exact ⟨rfl, rfl⟩
def RefProofOk (f : Nat) : Prop := ∀ (ls : List (List Nat)) (i g off c : Nat) (w : World), ls.length ≤ f → i < ls.length → ls.length ≤ c → c ≤ maxLen → SumsAt w g off ls → g < w.heap.size → ∀ out, Hid (out = refWay f ls i) →
    Calls Tryd.prog 35 #[.slice (some ⟨g, off, none⟩) ls.length c, .int .i64 (i : Int)] w fun e w' => ∃ v, e = .returned (.tuple #[v, .int .i64 0]) ∧ w'.ownsRow w.heap.size 26 32 v out.length (out.flatMap cellsOf) ∧ Below w.heap.size w w'
set_option maxRecDepth 100000 in
set_option maxHeartbeats 2000000 in
theorem refProof_left (f : Nat) (hff : f ≤ 1073741824) (ih : RefProofOk f) (ls : List (List Nat)) (n : Nat) (hnl : n = ls.length) (h2 : 2 ≤ n) (i g off c : Nat) (w : World) (hf : n ≤ f + 1) (hi : i < n) (hih : i < halfOf n) (hnc : n ≤ c) (hcm : c ≤ maxLen) (hs : SumsAt w g off ls) (hg : g < w.heap.size) (out : List (List Nat))
    (hlo : out = refWay f (ls.take (halfOf n)) i ++ [listOf ((ls.drop (halfOf n)).length + 1) (ls.drop (halfOf n))]) :
    Calls Tryd.prog 35 #[.slice (some ⟨g, off, none⟩) n c, .int .i64 (i : Int)] w fun e w' => ∃ v, e = .returned (.tuple #[v, .int .i64 0]) ∧ w'.ownsRow w.heap.size 26 32 v out.length (out.flatMap cellsOf) ∧ Below w.heap.size w w' := by
  obtain ⟨i0, hi0, hz0, hz1, hz2⟩ := info_parts sumInfo3
  obtain ⟨_, b2, _⟩ := halfOf_bounds h2 (by omega)
  have b0 := halfOf_pos n
  obtain ⟨h, hh⟩ : ∃ h, h = halfOf n := ⟨_, rfl⟩
  rw [← hh] at b2 b0 hlo hih
  have lt1 : (ls.take h).length = h := by rw [List.length_take]; omega
  have lt2 : (ls.drop h).length = n - h := by rw [List.length_drop]; omega
  obtain ⟨A, hA⟩ : ∃ A, A = refWay f (ls.take h) i := ⟨_, rfl⟩
  obtain ⟨B, hB⟩ : ∃ B, B = listOf ((ls.drop h).length + 1) (ls.drop h) := ⟨_, rfl⟩
  rw [← hA, ← hB] at hlo
  have hAl : A.length ≤ f := by rw [hA]; exact refWay_len _ _ _
  have hfirst : ∀ V, Below w.heap.size w V → Calls Tryd.prog 35 #[.slice (some ⟨g, off, none⟩) h c, .int .i64 ((i : Int))] V fun e w' => ∃ v, e = .returned (.tuple #[v, .int .i64 0]) ∧ w'.ownsRow V.heap.size 26 32 v A.length (A.flatMap cellsOf) ∧ Below V.heap.size V w' := fun V hv => by
    have hs2 := hs.below hg hv
    have k := ih (ls.take h) i g off c V (by rw [lt1]; omega) (by rw [lt1]; omega) (by rw [lt1]; omega) (by omega) (hs2.take h) (Nat.lt_of_lt_of_le hg hv.size) A (Lib.hid hA)
    skip
    rwa [lt1] at k
  have hrest : ∀ V, Below w.heap.size w V → Calls Tryd.prog 36 #[.slice (some ⟨g, off + h * 32, none⟩) (n - h) (c - h)] V fun e w' => e = .returned (.agg (arr32 B)) ∧ B.length = 32 ∧ Below V.heap.size V w' := fun V hv => by
    have hs2 := hs.below hg hv
    have k := refList_any ((ls.drop h).length + 1) (ls.drop h) g (off + h * 32) (c - h) V (by omega) (by rw [lt2]; omega) (by rw [lt2]; omega) (by omega) (by rw [lt2]; omega) (hs2.drop h) (Nat.lt_of_lt_of_le hg hv.size) B (Lib.hid hB)
    rwa [lt2] at k
  have hcut : ∀ V, Calls Tryd.prog 71 #[.int .i64 (n : Int)] V fun e w' => e = .returned (.int .i64 (h : Int)) ∧ V = w' := fun V => by
    have k := refBelow_any n h2 (by omega) V
    rw [← hh] at k
    exact k.mono fun _ _ ⟨k1, k2⟩ => ⟨k1, k2.symm⟩
  unfold maxLen at hcm
  have HF := Lib.hid hfirst
  have HS := Lib.hid hrest
  have HK := Lib.hid hcut
  have HLo := Lib.hid hlo
  have n1 : ¬ n = 1 := by omega
  have i1 : ¬ (i : Int) < 0 := by omega
  have i2 : ¬ (n : Int) ≤ (i : Int) := by omega
  have i3 : (i : Int) < (h : Int) := by omega
  have hhc : ¬ c = h := by omega
  have hhc2 : h ≤ c := by omega
  have hhn : h ≤ n := by omega
  have HI2 : Hid (∀ (o : List Nat), o.length = 32 → (arr32 o).size = i0.size) := Lib.hid fun o ho => by rw [arr32_size o (by omega), hz1]
  clear hfirst hrest hcut hs hA hB hlo lt1 lt2 hnl hh ih hih
  go_enter Tryd.func35, Tryd.ntmps35
  go_wp2_with (first
    | (go_at_call 71; (with_reducible refine (HK.out _).mono ?_); rintro e w1 ⟨rfl, rfl⟩)
    | (go_at_call 35; (with_reducible refine (HF.out _ (Below.refl _ _)).mono ?_); rintro e w1 ⟨v1, rfl, ho1, hb1⟩; obtain ⟨a1, c1, rfl, hcc1, hcc2⟩ := own_shape ho1; have HO1 := Lib.hid ho1; have HB1 := Lib.hid hb1; clear ho1 hb1)
    | (go_at_call 36; (with_reducible refine (HS.out _ HB1.out).mono ?_); rintro e w2 ⟨rfl, hol, hb2⟩; have hsz2 := hb2.size; have HO2 := Lib.hid (own_below HO1.out hb2); have HB2 := Lib.hid (HB1.out.trans (hb2.mono HB1.out.size)); have ho32 := arr32_size B (by omega); have HS2 := Lib.hid (HI2.out B hol); clear hb2)
    | ((with_reducible refine arm_slice1 26 i0 _ (arr32 B) Tryd.underlying49 hi0 hz0 HS2.out ?s1 ?s2 ?s3 ?_); (case s1 => omega); (case s2 => omega); (case s3 => rfl))
    | (at_builtin; refine wpList_append_own _ rfl _ _ 49 rfl w.heap.size 26 i0 _ 32 32 Tryd.underlying49 hi0 hz0 hz1 hz2 rfl (by decide) _ _ _ rfl (HO2.out.alloc _) ⟨w2.heap.size, 0, none⟩ 1 1 (cellsOf B) rfl (by rw [cellsOf_len (by omega)]) (cell_row_new _ _ _) (cellsOf_one _) (by unfold maxLen; omega) (by omega) (by simp; have := HB2.out.size; omega) ?_; intro v' w3 hown3 hgrow3 _
       have HO3 := Lib.hid hown3
       have HB3 := Lib.hid ((HB2.out.alloc HB2.out.size (.cells (arr32 B) 26)).grown hgrow3 (by simp; have := HB2.out.size; omega) (fun j hj => (HO1.out.lt j hj).1))
       clear hown3 hgrow3))
  go_ret2
  refine ⟨_, rfl, ?_, HB3.out⟩
  rw [HLo.out, List.length_append, List.flatMap_append, List.flatMap_cons, List.flatMap_nil, List.append_nil]
  exact HO3.out
set_option maxRecDepth 100000 in
set_option maxHeartbeats 2000000 in
theorem refProof_right (f : Nat) (hff : f ≤ 1073741824) (ih : RefProofOk f) (ls : List (List Nat)) (n : Nat) (hnl : n = ls.length) (h2 : 2 ≤ n) (i g off c : Nat) (w : World) (hf : n ≤ f + 1) (hi : i < n) (hih : halfOf n ≤ i) (hnc : n ≤ c) (hcm : c ≤ maxLen) (hs : SumsAt w g off ls) (hg : g < w.heap.size) (out : List (List Nat))
    (hlo : out = refWay f (ls.drop (halfOf n)) (i - halfOf n) ++ [listOf ((ls.take (halfOf n)).length + 1) (ls.take (halfOf n))]) :
    Calls Tryd.prog 35 #[.slice (some ⟨g, off, none⟩) n c, .int .i64 (i : Int)] w fun e w' => ∃ v, e = .returned (.tuple #[v, .int .i64 0]) ∧ w'.ownsRow w.heap.size 26 32 v out.length (out.flatMap cellsOf) ∧ Below w.heap.size w w' := by
  obtain ⟨i0, hi0, hz0, hz1, hz2⟩ := info_parts sumInfo3
  obtain ⟨_, b2, _⟩ := halfOf_bounds h2 (by omega)
  have b0 := halfOf_pos n
  obtain ⟨h, hh⟩ : ∃ h, h = halfOf n := ⟨_, rfl⟩
  rw [← hh] at b2 b0 hlo hih
  have lt1 : (ls.take h).length = h := by rw [List.length_take]; omega
  have lt2 : (ls.drop h).length = n - h := by rw [List.length_drop]; omega
  obtain ⟨A, hA⟩ : ∃ A, A = refWay f (ls.drop h) (i - h) := ⟨_, rfl⟩
  obtain ⟨B, hB⟩ : ∃ B, B = listOf ((ls.take h).length + 1) (ls.take h) := ⟨_, rfl⟩
  rw [← hA, ← hB] at hlo
  have hAl : A.length ≤ f := by rw [hA]; exact refWay_len _ _ _
  have hfirst : ∀ V, Below w.heap.size w V → Calls Tryd.prog 35 #[.slice (some ⟨g, off + h * 32, none⟩) (n - h) (c - h), .int .i64 ((i : Int) - (h : Int))] V fun e w' => ∃ v, e = .returned (.tuple #[v, .int .i64 0]) ∧ w'.ownsRow V.heap.size 26 32 v A.length (A.flatMap cellsOf) ∧ Below V.heap.size V w' := fun V hv => by
    have hs2 := hs.below hg hv
    have k := ih (ls.drop h) (i - h) g (off + h * 32) (c - h) V (by rw [lt2]; omega) (by rw [lt2]; omega) (by rw [lt2]; omega) (by omega) (hs2.drop h) (Nat.lt_of_lt_of_le hg hv.size) A (Lib.hid hA)
    have e : ((i - h : Nat) : Int) = (i : Int) - (h : Int) := by omega
    rw [e] at k
    rwa [lt2] at k
  have hrest : ∀ V, Below w.heap.size w V → Calls Tryd.prog 36 #[.slice (some ⟨g, off, none⟩) h c] V fun e w' => e = .returned (.agg (arr32 B)) ∧ B.length = 32 ∧ Below V.heap.size V w' := fun V hv => by
    have hs2 := hs.below hg hv
    have k := refList_any ((ls.take h).length + 1) (ls.take h) g off c V (by omega) (by rw [lt1]; omega) (by rw [lt1]; omega) (by omega) (by rw [lt1]; omega) (hs2.take h) (Nat.lt_of_lt_of_le hg hv.size) B (Lib.hid hB)
    rwa [lt1] at k
  have hcut : ∀ V, Calls Tryd.prog 71 #[.int .i64 (n : Int)] V fun e w' => e = .returned (.int .i64 (h : Int)) ∧ V = w' := fun V => by
    have k := refBelow_any n h2 (by omega) V
    rw [← hh] at k
    exact k.mono fun _ _ ⟨k1, k2⟩ => ⟨k1, k2.symm⟩
  unfold maxLen at hcm
  have HF := Lib.hid hfirst
  have HS := Lib.hid hrest
  have HK := Lib.hid hcut
  have HLo := Lib.hid hlo
  have n1 : ¬ n = 1 := by omega
  have i1 : ¬ (i : Int) < 0 := by omega
  have i2 : ¬ (n : Int) ≤ (i : Int) := by omega
  have i3 : ¬ (i : Int) < (h : Int) := by omega
  have hhc : ¬ c = h := by omega
  have hhc2 : h ≤ c := by omega
  have hhn : h ≤ n := by omega
  have HI2 : Hid (∀ (o : List Nat), o.length = 32 → (arr32 o).size = i0.size) := Lib.hid fun o ho => by rw [arr32_size o (by omega), hz1]
  clear hfirst hrest hcut hs hA hB hlo lt1 lt2 hnl hh ih hih
  go_enter Tryd.func35, Tryd.ntmps35
  go_wp2_with (first
    | (go_at_call 71; (with_reducible refine (HK.out _).mono ?_); rintro e w1 ⟨rfl, rfl⟩)
    | (go_at_call 35; (with_reducible refine (HF.out _ (Below.refl _ _)).mono ?_); rintro e w1 ⟨v1, rfl, ho1, hb1⟩; obtain ⟨a1, c1, rfl, hcc1, hcc2⟩ := own_shape ho1; have HO1 := Lib.hid ho1; have HB1 := Lib.hid hb1; clear ho1 hb1)
    | (go_at_call 36; (with_reducible refine (HS.out _ HB1.out).mono ?_); rintro e w2 ⟨rfl, hol, hb2⟩; have hsz2 := hb2.size; have HO2 := Lib.hid (own_below HO1.out hb2); have HB2 := Lib.hid (HB1.out.trans (hb2.mono HB1.out.size)); have ho32 := arr32_size B (by omega); have HS2 := Lib.hid (HI2.out B hol); clear hb2)
    | ((with_reducible refine arm_slice1 26 i0 _ (arr32 B) Tryd.underlying49 hi0 hz0 HS2.out ?s1 ?s2 ?s3 ?_); (case s1 => omega); (case s2 => omega); (case s3 => rfl))
    | (at_builtin; refine wpList_append_own _ rfl _ _ 49 rfl w.heap.size 26 i0 _ 32 32 Tryd.underlying49 hi0 hz0 hz1 hz2 rfl (by decide) _ _ _ rfl (HO2.out.alloc _) ⟨w2.heap.size, 0, none⟩ 1 1 (cellsOf B) rfl (by rw [cellsOf_len (by omega)]) (cell_row_new _ _ _) (cellsOf_one _) (by unfold maxLen; omega) (by omega) (by simp; have := HB2.out.size; omega) ?_; intro v' w3 hown3 hgrow3 _
       have HO3 := Lib.hid hown3
       have HB3 := Lib.hid ((HB2.out.alloc HB2.out.size (.cells (arr32 B) 26)).grown hgrow3 (by simp; have := HB2.out.size; omega) (fun j hj => (HO1.out.lt j hj).1))
       clear hown3 hgrow3))
  go_ret2
  refine ⟨_, rfl, ?_, HB3.out⟩
  rw [HLo.out, List.length_append, List.flatMap_append, List.flatMap_cons, List.flatMap_nil, List.append_nil]
  exact HO3.out
theorem refProof_any : ∀ (f : Nat), f ≤ 1073741825 → RefProofOk f
  | 0, _ => fun _ _ _ _ _ _ h hi _ _ _ _ _ _ => by omega
  | f + 1, hf => fun ls i g off c w hlen hi hnc hcm hs hg out hout => by
    by_cases h2 : 2 ≤ ls.length
    · have e := hout.out
      rw [refWay, if_neg (by omega)] at e
      by_cases hih : i < halfOf ls.length
      · rw [if_pos hih] at e
        exact refProof_left f (by omega) (refProof_any f (by omega)) ls _ rfl h2 i g off c w hlen hi hih hnc hcm hs hg out e
      · rw [if_neg hih] at e
        exact refProof_right f (by omega) (refProof_any f (by omega)) ls _ rfl h2 i g off c w hlen hi (by omega) hnc hcm hs hg out e
    · have h1 : ls.length = 1 := by omega
      obtain rfl : i = 0 := by omega
      have e : out = [] := by rw [hout.out]; exact refWay_one _ _ _ (by omega)
      subst e
      rw [h1]
      refine (refProof_one (some ⟨g, off, none⟩) c w).mono ?_
      rintro e w' ⟨rfl, rfl⟩
      exact ⟨_, rfl, World.ownsRow_nil _ _ _ _, Below.refl _ _⟩
end Go.Proofs.YtcocljghoiacmaaDoor
end
section
namespace Go.Hoar
open Go Go.RowKit
section
variable {P : Program}
theorem run_clear_own {w : World} {base n size : Nat} {t e ty : TypeId} {v : Value} {xs : List Value} (hu : P.underlying t = some (.slice e)) (i : TypeInfo) (z : Value) (hi : P.info? e = some i) (hz : i.zero = some z) (hzs : z.cells.size = size)
    (h1 : z.cells.all (·.oneCell') = true) (hsz : 0 < size) (hown : w.ownsRow base e size v n xs) :
    ∃ w', (Builtin.clear_ #[t] ty #[v]).run P w = .ok (.tuple #[]) w' ∧ w.grownBy w' v.ownBlock := by
  have hug := run_underlying hu w
  obtain ⟨hxl, ⟨rfl, rfl⟩ | ⟨g, cap, cur, rfl, hg, hh, hc, hm, hs, ht⟩⟩ := hown
  · exact ⟨w, by simp [Builtin.clear_, hug], ⟨rfl, rfl, rfl, Nat.le_refl _, fun _ _ _ => rfl⟩⟩
  · rcases Nat.eq_zero_or_pos n with rfl | hn
    · exact ⟨w, by simp [Builtin.clear_, hug], ⟨rfl, rfl, rfl, Nat.le_refl _, fun _ _ _ => rfl⟩⟩
    · have hzl : (Builtin.zeroCells z.cells n).toList.length = n * size := by simp [Builtin.zeroCells, hzs]
      have hle : n * size ≤ cap * size := Nat.mul_le_mul_right _ hc
      have hone : ∀ u ∈ (Builtin.zeroCells z.cells n).toList, u.oneCell' = true := by
        intro u hu
        simp only [Builtin.zeroCells, Array.toList_map, List.mem_map, Array.toList_range, List.mem_range] at hu
        obtain ⟨j, hj, rfl⟩ := hu
        have hlt : j % z.cells.size < z.cells.size := Nat.mod_lt _ (by omega)
        rw [getElem!_pos z.cells _ hlt]
        exact Array.all_eq_true.1 h1 _ hlt
      have hst := run_storeCells_at (P := P) g 0 e (Builtin.zeroCells z.cells n).toList 0 cur w hh (by rw [hzl]; omega) hone
      have hzv : (zeroValue e).run P w = .ok z w := by simp [zeroValue, typeInfo, Sem.run_bind, hi, hz]
      refine ⟨w.setRow g (cur.toList.take (0 + 0) ++ (Builtin.zeroCells z.cells n).toList ++ cur.toList.drop (0 + 0 + (Builtin.zeroCells z.cells n).toList.length)).toArray, ?_, ⟨rfl, rfl, rfl, ?_, ?_⟩⟩
      · obtain ⟨m, rfl⟩ : ∃ m, n = m + 1 := ⟨n - 1, by omega⟩
        simp only [Builtin.clear_, Sem.run_bind, hug, Result.andThen_ok, hzv, List.getElem?_toArray, List.getElem?_cons_zero, hst, Sem.run_pure]
      · simp
      · intro k hk hne
        exact setRow_heap_other w g k _ (fun e => hne (by rw [e]; rfl))
theorem wpList_clear_own {ops : Array Oper} {rest : List Oper} {a : Act} {w : World} {Q : Exit → Act → World → Prop} {T t e : TypeId} {x : Operand} {pos : String} {af : Array Edge}
    (base n size : Nat) (v : Value) (xs : List Value) (hu : P.underlying t = some (.slice e)) (i : TypeInfo) (z : Value) (hi : P.info? e = some i) (hz : i.zero = some z) (hzs : z.cells.size = size)
    (h1 : z.cells.all (·.oneCell') = true) (hsz : 0 < size) (hx : a.eval x = v) (hown : w.ownsRow base e size v n xs)
    (h : ∀ w', w.grownBy w' v.ownBlock → wpList P ops Q rest a w') : wpList P ops Q (⟨none, .call { callee := .builtin .clear, args := #[x], argTypes := #[t] }, T, pos, af, none⟩ :: rest) a w :=
  wpList_plain rfl fun _ hK => by
    obtain ⟨w', hr, hg⟩ := run_clear_own (ty := T) hu i z hi hz hzs h1 hsz hown
    unfold Oper.wp execOp
    simp only [resolve, invoke, builtin, Sem.run_bind, Sem.run_pure, Result.andThen_ok, List.map_toArray, List.map_cons, List.map_nil, hx, hr]
    exact hK _ _ (h w' hg)
end
end Go.Hoar
end
section
namespace Go.Proofs.YtcocljghoiacmaaDoor
open Go.RowKit Go.Hoar
theorem listAll_any (ls : List (List Nat)) (V : World) (a : Option Addr) (c : Nat) (hr : RowOk V a c ls) (hn : ls.length ≤ 1073741824) (hc : ConstAt V) :
    Calls Tryd.prog 33 #[.slice a ls.length c] V fun e w' => e = .returned (.agg (arr32 (listOf (ls.length + 1) ls))) ∧ (listOf (ls.length + 1) ls).length = 32 ∧ Below V.heap.size V w' := by
  rcases hr with ⟨rfl, rfl, rfl⟩ | ⟨g, off, rfl, hg, hs, hc1, hm⟩
  · exact list_none none 0 V hc _ (Lib.hid (by rw [listOf]))
  · rcases Nat.eq_zero_or_pos ls.length with h0 | hp
    · obtain rfl := List.length_eq_zero_iff.1 h0
      exact list_none _ c V hc _ (Lib.hid (by rw [listOf]))
    · exact list_any (ls.length + 1) ls g off c V (Nat.lt_succ_self _) hp hc1 hm (by omega) hs hg hc _ (Lib.hid rfl)
theorem refListAll_any (ls : List (List Nat)) (V : World) (a : Option Addr) (c : Nat) (hr : RowOk V a c ls) (hn : ls.length ≤ 1073741824) :
    Calls Tryd.prog 36 #[.slice a ls.length c] V fun e w' => e = .returned (.agg (arr32 (listOf (ls.length + 1) ls))) ∧ (listOf (ls.length + 1) ls).length = 32 ∧ Below V.heap.size V w' := by
  rcases hr with ⟨rfl, rfl, rfl⟩ | ⟨g, off, rfl, hg, hs, hc1, hm⟩
  · exact refList_none none 0 V _ (Lib.hid (by rw [listOf]))
  · rcases Nat.eq_zero_or_pos ls.length with h0 | hp
    · obtain rfl := List.length_eq_zero_iff.1 h0
      exact refList_none _ c V _ (Lib.hid (by rw [listOf]))
    · exact refList_any (ls.length + 1) ls g off c V (Nat.lt_succ_self _) hp hc1 hm (by omega) hs hg _ (Lib.hid rfl)
theorem zero32_all : ((Value.agg zero32).cells.all fun x => x.oneCell') = true := by
  first | rfl | simp [Value.cells, zero32, Value.oneCell']
/-- slices.Equal of a list with itself. -/
theorem sumsEqual_same (ls : List (List Nat)) (hok : SumsOk ls) (hn : ls.length ≤ 1000000) (a b : Option Addr) (c d : Nat) (w : World) (ha : RowOk w a c ls) (hb : RowOk w b d ls) :
    Calls Tryd.prog 37 #[.slice a ls.length c, .slice b ls.length d] w fun e w' => e = .returned (.bool true) ∧ Below w.heap.size w w' := by
  refine (sumsEqual_any ls ls hok hok a b c d w ha hb hn hn).mono ?_
  rintro e w' ⟨rfl, q, rfl⟩
  exact ⟨by rw [decide_eq_true rfl], below_drewN (Below.refl _ _) _⟩
end Go.Proofs.YtcocljghoiacmaaDoor
end
section
namespace Go.Proofs.YtcocljghoiacmaaDoor
open Go.RowKit Go.Hoar
noncomputable def slOps : Array Oper := (Tryd.f6.body.bind (opsAt 7)).getD #[]
theorem lists_big (n : Nat) (hbig : 200 < n) (a : Option Addr) (c : Nat) (i : Int) (w : World) (hc : ConstAt w) :
    Calls Tryd.prog 6 #[.slice a n c, .int .i64 i] w fun e w' => e = .returned (.bool true) ∧ Below w.heap.size w w' := by
  have hb2 : (200 : Int) < n := by omega
  have HAw : Hid (∀ V : World, Below w.heap.size w V → Calls Tryd.prog 15 #[] V fun e w' => e = .returned (.bool true) ∧ Below V.heap.size V w') := Lib.hid fun V hV => awake_any V (hc.below hV rfl)
  clear hc hbig
  go_enter Tryd.func6, Tryd.ntmps6
  go_wp2_with (go_at_call 15; (with_reducible refine (HAw.out _ (Below.refl _ _)).mono ?_); rintro e w1 ⟨rfl, hb1⟩; have HB1 := Lib.hid hb1; clear hb1)
  go_ret
  exact ⟨rfl, HB1.out⟩
/-- Both find the same way, or tell the same error; the way is new. -/
theorem ways_both (ls : List (List Nat)) (hok : SumsOk ls) (hn : ls.length ≤ 1073741824) (i : Int) : ∃ (W : List (List Nat)) (er : Int), SumsOk W ∧ W.length ≤ ls.length ∧
    (∀ (V : World) (a : Option Addr) (c : Nat), RowOk V a c ls → ConstAt V → Calls Tryd.prog 34 #[.slice a ls.length c, .int .i64 i] V fun e w' => ∃ v, e = .returned (.tuple #[v, .int .i64 er]) ∧ w'.ownsRow V.heap.size 26 32 v W.length (W.flatMap cellsOf) ∧ Below V.heap.size V w') ∧
    (∀ (V : World) (a : Option Addr) (c : Nat), RowOk V a c ls → Calls Tryd.prog 35 #[.slice a ls.length c, .int .i64 i] V fun e w' => ∃ v, e = .returned (.tuple #[v, .int .i64 er]) ∧ w'.ownsRow V.heap.size 26 32 v W.length (W.flatMap cellsOf) ∧ Below V.heap.size V w') := by
  by_cases h : i < 0 ∨ (ls.length : Int) ≤ i
  · refine ⟨[], 1, (fun _ h => by cases h), Nat.zero_le _, fun V a c _ _ => ?_, fun V a c _ => ?_⟩
    · refine (proof_not i a ls.length c h hn V).mono ?_
      rintro e w' ⟨rfl, rfl⟩
      exact ⟨_, rfl, World.ownsRow_nil _ _ _ _, Below.refl _ _⟩
    · refine (refProof_not i a ls.length c h hn V).mono ?_
      rintro e w' ⟨rfl, rfl⟩
      exact ⟨_, rfl, World.ownsRow_nil _ _ _ _, Below.refl _ _⟩
  · obtain ⟨j, rfl⟩ : ∃ j : Nat, i = (j : Int) := ⟨i.toNat, by omega⟩
    have hj : j < ls.length := by omega
    have e := ways_list ls hn j
    have ef : ∀ ps : List (Nat × Nat), (ps.map (spanSum ls)).flatMap cellsOf = ps.flatMap fun p => cellsOf (spanSum ls p) := fun ps => by rw [List.flatMap_map]
    refine ⟨refWay ls.length ls j, 0, ?_, refWay_len _ _ _, fun V a c hr hc => ?_, fun V a c hr => ?_⟩
    · rw [← e]
      intro l hl
      obtain ⟨p, _, rfl⟩ := List.mem_map.1 hl
      exact listOf_len _ _
    · rcases hr with ⟨_, rfl, _⟩ | ⟨g, off, rfl, hg, hs, hc1, hm⟩
      · simp at hj
      · refine (proof_any ls j hj hn g off c V hs hg hc1 hm hc _ (Lib.hid rfl)).mono ?_
        rintro e' w' ⟨v, he, ho, hb⟩
        have e2 : (waysOf ls.length j).length = (refWay ls.length ls j).length := by rw [← e, List.length_map]
        rw [← ef, e, e2] at ho
        exact ⟨v, he, ho, hb⟩
    · rcases hr with ⟨_, rfl, _⟩ | ⟨g, off, rfl, hg, hs, hc1, hm⟩
      · simp at hj
      · exact refProof_any ls.length (by omega) ls j g off c V (Nat.le_refl _) hj hc1 hm hs hg _ (Lib.hid rfl)
set_option maxRecDepth 100000 in
set_option maxHeartbeats 3000000 in
/-- THE LAW's WALK. -/
theorem lists_law (ls : List (List Nat)) (hok : SumsOk ls) (a : Option Addr) (c : Nat) (i : Int) (w : World) (hr : RowOk w a c ls) (hc : ConstAt w) :
    Calls Tryd.prog 6 #[.slice a ls.length c, .int .i64 i] w fun e w' => e = .returned (.bool true) ∧ Below w.heap.size w w' := by
  by_cases hbig : 200 < ls.length
  · exact lists_big ls.length hbig a c i w hc
  · have hsm : (ls.length : Int) ≤ 200 := by omega
    obtain ⟨i0, hi0, hz0, hz1, hz2⟩ := info_parts sumInfo3
    obtain ⟨out, hout⟩ : ∃ out, out = listOf (ls.length + 1) ls := ⟨_, rfl⟩
    have hob : out.length = 32 ∧ Sha.Bytes out := by rw [hout]; exact listOf_len _ _
    have hol := hob.1
    obtain ⟨Wy, er, hWok, hWl, hp1, hp2⟩ := ways_both ls hok (by omega) i
    have HC := Lib.hid hc
    have HR := Lib.hid hr
    have HOk := Lib.hid hok
    have HWok := Lib.hid hWok
    have HCl := Lib.hid (cloneSums_any ls hok (by omega) a c w hr)
    have HL1 : Hid (∀ (V : World) (a : Option Addr) (c : Nat), RowOk V a c ls → ConstAt V → Calls Tryd.prog 33 #[.slice a ls.length c] V fun e w' => e = .returned (.agg (arr32 out)) ∧ Below V.heap.size V w') := Lib.hid fun V a c hr hc => by
      rw [hout]
      exact (listAll_any ls V a c hr (by omega) hc).mono fun e w' ⟨h1, _, h2⟩ => ⟨h1, h2⟩
    have HL2 : Hid (∀ (V : World) (a : Option Addr) (c : Nat), RowOk V a c ls → Calls Tryd.prog 36 #[.slice a ls.length c] V fun e w' => e = .returned (.agg (arr32 out)) ∧ Below V.heap.size V w') := Lib.hid fun V a c hr => by
      rw [hout]
      exact (refListAll_any ls V a c hr (by omega)).mono fun e w' ⟨h1, _, h2⟩ => ⟨h1, h2⟩
    have HP1 := Lib.hid hp1
    have HP2 := Lib.hid hp2
    have HAw : Hid (∀ V : World, ConstAt V → Calls Tryd.prog 15 #[] V fun e w' => e = .returned (.bool true) ∧ Below V.heap.size V w') := Lib.hid fun V hV => awake_any V hV
    have HIo := Lib.hid (arr32_info out (by omega))
    have HSo := Lib.hid (zero32_size out (by omega))
    have heq : ∀ V : World, (binOp .eql 26 (.agg (arr32 out)) (.agg (arr32 out))).run Tryd.prog V = .ok (.bool true) V := fun V => by
      have := sum_eql out out hol hol V
      rwa [decide_eq_true rfl] at this
    have hguard := sum_guard
    have hlen : ls.length ≤ 200 := by omega
    clear hc hr hbig hp1 hp2 hok hWok hout hob
    go_enter Tryd.func6, Tryd.ntmps6
    go_upto_region 5 with (first
      | (go_at_call 32; (with_reducible refine HCl.out.mono ?_); rintro e w1 ⟨v1, rfl, ho1, hb1⟩; obtain ⟨a1, c1, rfl, hr1, hcc1, hcm1, _⟩ := row_of_own ho1 HOk.out rfl; have HB1 := Lib.hid hb1; have HR1 := Lib.hid hr1; have HC1 := Lib.hid (HC.out.below hb1 rfl); clear ho1 hb1 hr1)
      | (go_at_call 33; (with_reducible refine (HL1.out _ _ _ HR1.out HC1.out).mono ?_); rintro e w2 ⟨rfl, hb2⟩; have HB2 := Lib.hid hb2; have HF2 := Lib.hid (fresh_sum w2); clear hb2)
      | ((with_reducible refine arm_store w2.heap.size (arr32 out) 26 zero32 HF2.out HSo.out HIo.out (arr32_one _) ?h5 ?h6 ?_); (case h5 => rfl); (case h6 => rfl)))
    refine gen_world (P := fun W => Code.wp _ _ _ _ W) (I := fun U => Below w.heap.size w U ∧ Below w1.heap.size w1 U ∧ Has U w2.heap.size 26 (arr32 out)) _ ⟨below_setRow ((HB1.out.trans (HB2.out.mono HB1.out.size)).alloc (Nat.le_trans HB1.out.size HB2.out.size) _) (Nat.le_trans HB1.out.size HB2.out.size) _, below_setRow (HB2.out.alloc HB2.out.size _) HB2.out.size _, HF2.out.setRow⟩ ?_
    rintro U ⟨hBU, hB1U, hXU⟩
    generalize w2.heap.size = p6 at hXU ⊢
    have HRU := Lib.hid (HR1.out.below hB1U)
    have HRL := Lib.hid (HR.out.below hBU)
    have HCU := Lib.hid (HC.out.below hBU rfl)
    have HBU := Lib.hid hBU
    have HXU := Lib.hid hXU
    clear hBU hB1U hXU HF2 HB2 HR1 HC1 HB1 HR HC
    go_upto_region 7 with (first
      | (go_at_call 34; (with_reducible refine (HP1.out _ _ _ HRU.out HCU.out).mono ?_); rintro e w3 ⟨v3, rfl, ho3, hb3⟩; have HO3 := Lib.hid ho3; have HB3 := Lib.hid hb3; clear ho3 hb3)
      | (go_at_call 35; (with_reducible refine (HP2.out _ _ _ (HRL.out.below HB3.out)).mono ?_); rintro e w4 ⟨v4, rfl, ho4, hb4⟩; have HO4 := Lib.hid ho4; have HB4 := Lib.hid (HB3.out.trans (hb4.mono HB3.out.size)); have HO34 := Lib.hid (own_below HO3.out hb4); clear ho4 hb4))
    obtain ⟨a3, c3, rfl, hr3, hcc3, hcm3, _⟩ := row_of_own HO34.out HWok.out rfl
    obtain ⟨a4, c4, rfl, hr4, hcc4, hcm4, _⟩ := row_of_own HO4.out HWok.out rfl
    have HR3 := Lib.hid hr3
    have HR4 := Lib.hid hr4
    clear hr3 hr4
    change Code.wp _ (Code.region 7 slOps true) _ _ _
    refine wp_region_held (S := fun W => Below w4.heap.size w4 W) (by kernel_rfl) ?_
    have hsz : slOps.size = 15 := by kernel_rfl
    rw [hsz]
    clear hsz
    refine gen_world (P := fun W' => wpAnyH _ _ _ _ _ _ _ _ W') (I := fun V => Below w4.heap.size w4 V) _ (Below.refl _ w4).drew ?_
    intro V hBV
    have HS0 := Lib.hid hBV
    clear hBV
    refine wpAnyH_take (i := 0) (oi := ⟨some 32, _, _, _, _, none⟩) (v := .agg (arr32 out)) rfl (by kernel_rfl) (by kernel_rfl) (by kernel_rfl) (fun _ _ _ h => h) (yieldsIf_load ⟨p6, 0, none⟩ _ _ (fun w hw => ((HXU.out.below HB4.out HXU.out.lt).below hw (Nat.lt_of_lt_of_le HXU.out.lt HB4.out.size)).row) Tryd.underlying26 HIo.out rfl rfl) HS0.out ?_
    try simp only [Act.put, List.setIfInBounds_toArray, List.set_cons_succ, List.set_cons_zero]
    refine wpAnyH_take (i := 1) (oi := ⟨some 33, _, _, _, _, _⟩) (v := ?_) rfl (by kernel_rfl) (by kernel_rfl) (by kernel_rfl) (fun _ _ _ h => h) (Or.inl ⟨by rfl, fun w' hw' => by go_simp; with_reducible rfl⟩) HS0.out ?_
    try simp only [Act.put, List.setIfInBounds_toArray, List.set_cons_succ, List.set_cons_zero]
    refine wpAnyH_all (rs := [2]) (by kernel_rfl) (by simp) ?_
    intro i hi
    obtain rfl : i = 2 := by simpa using hi
    clear hi
    refine wpOp_step (o := ⟨some 34, _, _, _, _, _⟩) rfl (fun K' hK' => ?_)
    rw [if_pos (show Region.wanted _ _ = true from rfl)]
    go_simp
    (with_reducible refine (HL2.out _ _ _ (HRL.out.below (HB4.out.trans (HS0.out.mono HB4.out.size)))).mono ?_)
    rintro e x1 ⟨rfl, hbx⟩
    have HS1 := Lib.hid (HS0.out.trans (hbx.mono HS0.out.size))
    clear hbx
    refine hK' _ _ ⟨HS1.out, ?_⟩
    clear hK' K'
    try simp only [Act.put, List.setIfInBounds_toArray, List.set_cons_succ, List.set_cons_zero]
    refine wpAnyH_take (i := 3) (oi := ⟨some 35, _, _, _, _, _⟩) (v := ?_) rfl (by kernel_rfl) (by kernel_rfl) (by kernel_rfl) (fun _ _ _ h => h) (Or.inl ⟨by rfl, fun w' hw' => by go_simp; with_reducible rfl⟩) HS1.out ?_
    try simp only [Act.put, List.setIfInBounds_toArray, List.set_cons_succ, List.set_cons_zero]
    refine wpAnyH_take (i := 4) (oi := ⟨some 36, _, _, _, _, _⟩) (v := ?_) rfl (by kernel_rfl) (by kernel_rfl) (by kernel_rfl) (fun _ _ _ h => h) (Or.inl ⟨by rfl, fun w' hw' => by go_simp; with_reducible rfl⟩) HS1.out ?_
    try simp only [Act.put, List.setIfInBounds_toArray, List.set_cons_succ, List.set_cons_zero]
    refine wpAnyH_take (i := 5) (oi := ⟨some 37, _, _, _, _, _⟩) (v := ?_) rfl (by kernel_rfl) (by kernel_rfl) (by kernel_rfl) (fun _ _ _ h => h) (Or.inl ⟨by rfl, fun w' hw' => by go_simp; with_reducible rfl⟩) HS1.out ?_
    try simp only [Act.put, List.setIfInBounds_toArray, List.set_cons_succ, List.set_cons_zero]
    refine wpAnyH_take (i := 6) (oi := ⟨some 38, _, _, _, _, _⟩) (v := ?_) rfl (by kernel_rfl) (by kernel_rfl) (by kernel_rfl) (fun _ _ _ h => h) (Or.inl ⟨by rfl, fun w' hw' => by go_simp; with_reducible rfl⟩) HS1.out ?_
    try simp only [Act.put, List.setIfInBounds_toArray, List.set_cons_succ, List.set_cons_zero]
    refine wpAnyH_all (rs := [7]) (by kernel_rfl) (by simp) ?_
    intro i hi
    obtain rfl : i = 7 := by simpa using hi
    clear hi
    refine wpOp_step (o := ⟨some 39, _, _, _, _, _⟩) rfl (fun K' hK' => ?_)
    rw [if_pos (show Region.wanted _ _ = true from rfl)]
    go_simp
    (with_reducible refine (sumsEqual_same Wy HWok.out (by omega) _ _ _ _ _ (HR3.out.below HS1.out) (HR4.out.below HS1.out)).mono ?_)
    rintro e x2 ⟨rfl, hbx⟩
    have HS2 := Lib.hid (HS1.out.trans (hbx.mono HS1.out.size))
    clear hbx
    refine hK' _ _ ⟨HS2.out, ?_⟩
    clear hK' K'
    try simp only [Act.put, List.setIfInBounds_toArray, List.set_cons_succ, List.set_cons_zero]
    refine wpAnyH_take (i := 8) (oi := ⟨some 40, _, _, _, _, _⟩) (v := ?_) rfl (by kernel_rfl) (by kernel_rfl) (by kernel_rfl) (fun _ _ _ h => h) (Or.inl ⟨by rfl, fun w' hw' => by go_simp; with_reducible rfl⟩) HS2.out ?_
    try simp only [Act.put, List.setIfInBounds_toArray, List.set_cons_succ, List.set_cons_zero]
    refine wpAnyH_take (i := 9) (oi := ⟨some 41, _, _, _, _, _⟩) (v := ?_) rfl (by kernel_rfl) (by kernel_rfl) (by kernel_rfl) (fun _ _ _ h => h) (Or.inl ⟨by rfl, fun w' hw' => by go_simp; with_reducible rfl⟩) HS2.out ?_
    try simp only [Act.put, List.setIfInBounds_toArray, List.set_cons_succ, List.set_cons_zero]
    refine wpAnyH_take (i := 10) (oi := ⟨some 42, _, _, _, _, _⟩) (v := ?_) rfl (by kernel_rfl) (by kernel_rfl) (by kernel_rfl) (fun _ _ _ h => h) (Or.inl ⟨by rfl, fun w' hw' => by go_simp; with_reducible rfl⟩) HS2.out ?_
    try simp only [Act.put, List.setIfInBounds_toArray, List.set_cons_succ, List.set_cons_zero]
    refine wpAnyH_take (i := 11) (oi := ⟨some 43, _, _, _, _, _⟩) (v := ?_) rfl (by kernel_rfl) (by kernel_rfl) (by kernel_rfl) (fun _ _ _ h => h) (Or.inl ⟨by rfl, fun w' hw' => by go_simp; with_reducible rfl⟩) HS2.out ?_
    try simp only [Act.put, List.setIfInBounds_toArray, List.set_cons_succ, List.set_cons_zero]
    refine wpAnyH_take (i := 12) (oi := ⟨some 44, _, _, _, _, _⟩) (v := ?_) rfl (by kernel_rfl) (by kernel_rfl) (by kernel_rfl) (fun _ _ _ h => h) (Or.inl ⟨by rfl, fun w' hw' => by go_simp; with_reducible rfl⟩) HS2.out ?_
    try simp only [Act.put, List.setIfInBounds_toArray, List.set_cons_succ, List.set_cons_zero]
    refine wpAnyH_take (i := 13) (oi := ⟨some 45, _, _, _, _, _⟩) (v := ?_) rfl (by kernel_rfl) (by kernel_rfl) (by kernel_rfl) (fun _ _ _ h => h) (Or.inl ⟨by rfl, fun w' hw' => by go_simp; with_reducible rfl⟩) HS2.out ?_
    try simp only [Act.put, List.setIfInBounds_toArray, List.set_cons_succ, List.set_cons_zero]
    refine wpAnyH_take (i := 14) (oi := ⟨some 11, _, _, _, _, _⟩) (v := ?_) rfl (by kernel_rfl) (by kernel_rfl) (by kernel_rfl) (fun _ _ _ h => h) (Or.inl ⟨by rfl, fun w' hw' => by go_simp; with_reducible rfl⟩) HS2.out ?_
    try simp only [Act.put, List.setIfInBounds_toArray, List.set_cons_succ, List.set_cons_zero]
    refine wpAnyH_done (by kernel_rfl) ?_ _
    have HO5 := Lib.hid (own_below HO34.out HS2.out)
    have HB5 := Lib.hid (HB4.out.trans (HS2.out.mono HB4.out.size))
    clear HO34 HO4 HR3 HR4 HS0 HS1 HXU
    go_wp2_with (first
      | ((with_reducible refine wpList_clear_own U.heap.size _ 32 (.slice a3 Wy.length c3) _ Tryd.underlying49 i0 _ hi0 hz0 rfl zero32_all (by decide) ?h5 HO5.out ?_); (case h5 => rfl); intro w6 hg6; have HB6 := Lib.hid (HB5.out.grown hg6 HB5.out.size (fun j hj => (HO5.out.lt j hj).1)); clear hg6)
      | (go_at_call 37; (with_reducible refine (sumsEqual_same ls HOk.out (by omega) _ _ _ _ _ (HRU.out.below HB6.out) (HRL.out.below HB6.out)).mono ?_); rintro e w7 ⟨rfl, hb7⟩; have HB7 := Lib.hid (HB6.out.trans (hb7.mono HB6.out.size)); clear hb7)
      | (go_at_call 15; (with_reducible refine (HAw.out _ (HCU.out.below HB7.out rfl)).mono ?_); rintro e w8 ⟨rfl, hb8⟩; have HB8 := Lib.hid (HB7.out.trans (hb8.mono HB7.out.size)); clear hb8))
    go_ret
    exact ⟨rfl, HBU.out.trans (HB8.out.mono HBU.out.size)⟩
end Go.Proofs.YtcocljghoiacmaaDoor
end
