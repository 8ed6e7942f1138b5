/-
  YtcocljghoiacmaaDoorRefHex
  · HOW MANY DIGITS NAME A DIGEST: the neighbours in the order are enough.
  · WHAT SHORT SAYS: one digit more than any other digest has alike, at least one.
  · sum.Short and sum.Find over a list that may be nil.
  · YtcocljghoiacmaaDoorRefDig
-/
import Derived.Test.YtcocljghoiacmaaDoorMBi
import Derived.OrdersHeld
import Derived.Deep.OwnRows
import Derived.Deep.MidRow
import Derived.Test.YtcocljghoiacmaaDoorMBc
import Derived.Test.YtcocljghoiacmaaDoorMBd
import Derived.Test.YtcocljghoiacmaaDoorMBh
import Derived.BigQuiet
section
namespace Go.Proofs.YtcocljghoiacmaaDoor
open Go.RowKit Go.Hoar Go.Maps Go.Shelf
/-- The digits are the same up to there, and differ there, if there are that many. -/
theorem alikeF_spec (l m : List Nat) : ∀ f i, (∀ j, i ≤ j → j < alikeF l m f i → nib l j = nib m j) ∧ (alikeF l m f i < i + f → nib l (alikeF l m f i) ≠ nib m (alikeF l m f i)) ∧ i ≤ alikeF l m f i ∧ alikeF l m f i ≤ i + f
  | 0, i => ⟨fun j h1 h2 => by rw [alikeF] at h2; omega, fun h => by rw [alikeF] at h; omega, Nat.le_refl _, Nat.le_refl _⟩
  | f + 1, i => by
    rw [alikeF]
    split
    · next h =>
      obtain ⟨a, b, c, d⟩ := alikeF_spec l m f (i + 1)
      refine ⟨fun j h1 h2 => ?_, fun hlt => b (by omega), by omega, by omega⟩
      by_cases e : j = i
      · rw [e]; exact h
      · exact a j (by omega) h2
    · next h => exact ⟨fun j h1 h2 => by omega, fun _ => h, Nat.le_refl _, by omega⟩
theorem alike_same (l m : List Nat) (j : Nat) (h : j < alikeOf l m) : nib l j = nib m j := (alikeF_spec l m 64 0).1 j (Nat.zero_le _) h
theorem alike_at (l m : List Nat) (h : alikeOf l m < 64) : nib l (alikeOf l m) ≠ nib m (alikeOf l m) := (alikeF_spec l m 64 0).2.1 (by rw [Nat.zero_add]; exact h)
theorem alike_le (l m : List Nat) : alikeOf l m ≤ 64 := by have := (alikeF_spec l m 64 0).2.2.2; rwa [Nat.zero_add] at this
theorem alike_ge (l m : List Nat) (k : Nat) (hk : k ≤ 64) (h : ∀ j, j < k → nib l j = nib m j) : k ≤ alikeOf l m := by
  rcases Nat.lt_or_ge (alikeOf l m) k with hlt | hge
  · exact absurd (h _ hlt) (alike_at l m (by omega))
  · exact hge
theorem alike_comm (l m : List Nat) : alikeOf l m = alikeOf m l :=
  Nat.le_antisymm (alike_ge m l _ (alike_le _ _) (fun j h => (alike_same l m j h).symm)) (alike_ge l m _ (alike_le _ _) (fun j h => (alike_same m l j h).symm))
theorem nib_two (l : List Nat) (k : Nat) : l.getD k 0 = 16 * nib l (2 * k) + nib l (2 * k + 1) := by
  have e1 : nib l (2 * k) = l.getD k 0 / 16 := by unfold nib; rw [if_pos (by omega), show 2 * k / 2 = k by omega]
  have e2 : nib l (2 * k + 1) = l.getD k 0 % 16 := by unfold nib; rw [if_neg (by omega), show (2 * k + 1) / 2 = k by omega]
  rw [e1, e2]
  omega
/-- Digests that have all digits alike are the same. -/
theorem alike_all {x y : Dig} (h : alikeOf x.1 y.1 = 64) : x = y := by
  apply Subtype.ext
  apply List.ext_getElem (by rw [x.2.1, y.2.1])
  intro k h1 h2
  have hk : k < 32 := by have := x.2.1; omega
  have e1 := nib_two x.1 k
  have e2 := nib_two y.1 k
  rw [alike_same x.1 y.1 (2 * k) (by omega), alike_same x.1 y.1 (2 * k + 1) (by omega), ← e2] at e1
  rw [List.getD_eq_getElem?_getD, List.getD_eq_getElem?_getD, List.getElem?_eq_getElem h1, List.getElem?_eq_getElem h2] at e1
  exact e1
theorem alike_lt {x y : Dig} (h : x ≠ y) : alikeOf x.1 y.1 < 64 := by
  have h1 := alike_le x.1 y.1
  have h2 : alikeOf x.1 y.1 ≠ 64 := fun e => h (alike_all e)
  omega
/-- The order of digests, by their digits: where they first differ, the smaller has the smaller digit. -/
def NibLe (x y : Dig) : Prop := ∀ i, i < 64 → (∀ j, j < i → nib x.1 j = nib y.1 j) → nib x.1 i ≤ nib y.1 i
theorem nib_mid {x y z : Dig} (h1 : NibLe x y) (h2 : NibLe y z) : ∀ k, k ≤ alikeOf x.1 z.1 → ∀ j, j < k → nib x.1 j = nib y.1 j
  | 0, _, j, hj => absurd hj (Nat.not_lt_zero _)
  | k + 1, hk, j, hj => by
    have ih := nib_mid h1 h2 k (by omega)
    by_cases e : j < k
    · exact ih j e
    · obtain rfl : j = k := by omega
      have h64 := alike_le x.1 z.1
      have a := h1 j (by omega) ih
      have b := h2 j (by omega) (fun i hi => (ih i hi).symm.trans (alike_same x.1 z.1 i (by omega)))
      have c := alike_same x.1 z.1 j (by omega)
      omega
/-- What lies between two digests has as many digits alike with either as they have with each other. -/
theorem alike_mid {x y z : Dig} (h1 : NibLe x y) (h2 : NibLe y z) : alikeOf x.1 z.1 ≤ alikeOf x.1 y.1 ∧ alikeOf x.1 z.1 ≤ alikeOf y.1 z.1 := by
  have h := nib_mid h1 h2 _ (Nat.le_refl _)
  exact ⟨alike_ge _ _ _ (alike_le _ _) h, alike_ge _ _ _ (alike_le _ _) (fun j hj => (h j hj).symm.trans (alike_same x.1 z.1 j hj))⟩
theorem keyL_map (x : Dig) : keyL x = x.1.map UInt8.ofNat := by
  unfold keyL Lib.bytesOf asInts
  simp
theorem lex_first : ∀ (a b : List UInt8) (k : Nat), a ≤ b → a.length = b.length → k < a.length → (∀ j, j < k → a[j]? = b[j]?) → a.getD k 0 ≤ b.getD k 0
  | [], _, k, _, _, hk, _ => absurd hk (Nat.not_lt_zero _)
  | x :: a, [], _, _, hl, _, _ => by simp at hl
  | x :: a, y :: b, 0, h, _, _, _ => by
    simp only [List.getD_cons_zero]
    rcases List.cons_le_cons_iff.1 h with h | ⟨h, _⟩
    · exact UInt8.le_of_lt h
    · rw [h]; exact UInt8.le_refl _
  | x :: a, y :: b, k + 1, h, hl, hk, hj => by
    have e : x = y := by have := hj 0 (by omega); simpa using this
    rw [List.getD_cons_succ, List.getD_cons_succ]
    refine lex_first a b k ?_ (by simpa using hl) (by simpa using hk) (fun j h2 => by have := hj (j + 1) (by omega); simpa using this)
    rcases List.cons_le_cons_iff.1 h with h | ⟨_, h⟩
    · exact absurd h (by rw [e]; exact UInt8.lt_irrefl _)
    · exact h
theorem nibLe_of {x y : Dig} (h : keyL x ≤ keyL y) : NibLe x y := by
  intro i hi hj
  have hx := x.2.1
  have hy := y.2.1
  have hb := lex_first _ _ (i / 2) h (by rw [keyL_map, keyL_map]; simp [hx, hy]) (by rw [keyL_map]; simp [hx]; omega) (fun j h2 => by
    have e1 := nib_two x.1 j
    have e2 := nib_two y.1 j
    rw [hj (2 * j) (by omega), hj (2 * j + 1) (by omega), ← e2] at e1
    rw [keyL_map, keyL_map, List.getElem?_map, List.getElem?_map, List.getElem?_eq_getElem (by omega : j < x.1.length), List.getElem?_eq_getElem (by omega : j < y.1.length)]
    rw [List.getD_eq_getElem?_getD, List.getD_eq_getElem?_getD, List.getElem?_eq_getElem (by omega : j < x.1.length), List.getElem?_eq_getElem (by omega : j < y.1.length)] at e1
    simp only [Option.getD_some] at e1
    rw [e1])
  have hlx : x.1.getD (i / 2) 0 < 256 := Sha.getD_lt x.2.2 (by decide) _
  have hly : y.1.getD (i / 2) 0 < 256 := Sha.getD_lt y.2.2 (by decide) _
  have hle : x.1.getD (i / 2) 0 ≤ y.1.getD (i / 2) 0 := by
    rw [keyL_map, keyL_map, List.getD_eq_getElem?_getD, List.getD_eq_getElem?_getD, List.getElem?_map, List.getElem?_map, List.getElem?_eq_getElem (by omega : i / 2 < x.1.length), List.getElem?_eq_getElem (by omega : i / 2 < y.1.length)] at hb
    rw [List.getD_eq_getElem?_getD, List.getElem?_eq_getElem (by omega : i / 2 < x.1.length)] at hlx ⊢
    rw [List.getD_eq_getElem?_getD, List.getElem?_eq_getElem (by omega : i / 2 < y.1.length)] at hly ⊢
    simp only [Option.map_some, Option.getD_some] at hb hlx hly ⊢
    have h3 := UInt8.le_iff_toNat_le.1 hb
    simp only [UInt8.toNat_ofNat'] at h3
    omega
  unfold nib
  by_cases hev : i % 2 = 0
  · rw [if_pos hev, if_pos hev]
    omega
  · rw [if_neg hev, if_neg hev]
    have e := hj (i - 1) (by omega)
    unfold nib at e
    rw [if_pos (by omega), if_pos (by omega), show (i - 1) / 2 = i / 2 by omega] at e
    omega
end Go.Proofs.YtcocljghoiacmaaDoor
end
section
namespace Go.Proofs.YtcocljghoiacmaaDoor
open Go.RowKit Go.Hoar Go.Maps Go.Shelf
/-- How many digits name a digest of a list. -/
def IsNeed (ls : List Dig) (x : Dig) (v : Int) : Prop := 1 ≤ v ∧ (∀ y ∈ ls, y ≠ x → ((alikeOf x.1 y.1 : Nat) : Int) + 1 ≤ v) ∧ (v = 1 ∨ ∃ y ∈ ls, y ≠ x ∧ v = ((alikeOf x.1 y.1 : Nat) : Int) + 1)
theorem isNeed_le {ls : List Dig} {x : Dig} {v u : Int} (h : IsNeed ls x v) (k : IsNeed ls x u) : v ≤ u := by
  rcases h.2.2 with e | ⟨y, hy, hne, e⟩
  · rw [e]; exact k.1
  · rw [e]; exact k.2.1 y hy hne
theorem isNeed_unique {ls : List Dig} {x : Dig} {v u : Int} (h : IsNeed ls x v) (k : IsNeed ls x u) : v = u := by
  have := isNeed_le h k
  have := isNeed_le k h
  omega
theorem getN_same {D : Need} (h : IsMap D) (x : Dig) (n : Int) : getN (D.put (sumLit x.1) (litN n)) (sumLit x.1) = n := by
  unfold getN
  rw [atKey_put_same h (sumKey x) _ _]
  rfl
theorem getN_other {D : Need} {x z : Dig} (h : z ≠ x) (n : Int) : getN (D.put (sumLit x.1) (litN n)) (sumLit z.1) = getN D (sumLit z.1) := by
  unfold getN
  rw [atKey_put_other (fun e => h (sumLit_inj e))]
theorem raise_get {D : Need} (h : IsMap D) {x y : Dig} (_hxy : x ≠ y) (z : Dig) : getN (raise D x y) (sumLit z.1) = if z = x ∨ z = y then up (getN D (sumLit z.1)) ((alikeOf x.1 y.1 : Nat) + 1) else getN D (sumLit z.1) := by
  unfold raise
  by_cases e1 : z = y
  · rw [if_pos (.inr e1), e1, getN_same (h.put _ _)]
  · rw [getN_other e1]
    by_cases e2 : z = x
    · rw [if_pos (.inl e2), e2, getN_same h]
    · rw [getN_other e2, if_neg (fun k => k.elim e2 e1)]
theorem up_ge (c n : Int) : c ≤ up c n ∧ n ≤ up c n ∧ (up c n = c ∨ up c n = n) := by
  unfold up
  split
  · exact ⟨by omega, by omega, .inr rfl⟩
  · exact ⟨by omega, by omega, .inl rfl⟩
theorem rising_sorted (ys : List Dig) : (rising ys).Pairwise (fun x y => keyL x ≤ keyL y) := by
  have h := List.pairwise_mergeSort (le := fun x y => !(ltOf comp2) y x) (fun a b c h1 h2 => by
    simp only [ltOf_comp, Bool.not_eq_true', decide_eq_false_iff_not, List.not_lt] at h1 h2 ⊢
    exact List.le_trans h1 h2) (fun a b => by
    simp only [ltOf_comp, Bool.or_eq_true, Bool.not_eq_true', decide_eq_false_iff_not, List.not_lt]
    exact List.le_total _ _) ys
  refine h.imp fun {a b} hab => ?_
  simp only [ltOf_comp, Bool.not_eq_true', decide_eq_false_iff_not, List.not_lt] at hab
  exact hab
/-- What holds when some pairs of neighbours have been looked at. -/
theorem raise_inv (ls ys : List Dig) (hk : KeysOfMap (needOf ls) ys) :
    ∀ m, m ≤ max 1 ys.length → IsMap (raiseTo (rising ys) (needOf ls) m) ∧ ∀ z ∈ ls,
      1 ≤ getN (raiseTo (rising ys) (needOf ls) m) (sumLit z.1) ∧
      (getN (raiseTo (rising ys) (needOf ls) m) (sumLit z.1) = 1 ∨ ∃ y ∈ ls, y ≠ z ∧ getN (raiseTo (rising ys) (needOf ls) m) (sumLit z.1) = ((alikeOf z.1 y.1 : Nat) : Int) + 1) ∧
      ∀ i x y, i + 1 < m → (rising ys)[i]? = some x → (rising ys)[i + 1]? = some y → (z = x ∨ z = y) → ((alikeOf x.1 y.1 : Nat) : Int) + 1 ≤ getN (raiseTo (rising ys) (needOf ls) m) (sumLit z.1)
  | 0, _ => ⟨needOf_isMap ls, fun z hz => by
      have h1 : getN (raiseTo (rising ys) (needOf ls) 0) (sumLit z.1) = 1 := by
        unfold getN
        rw [raiseTo, show (needOf ls).atKey (sumLit z.1) (litN 0) = litN 1 from needFold_at z ls _ isMap_empty (.inl hz)]
        rfl
      exact ⟨by omega, .inl h1, fun i x y h => by omega⟩⟩
  | m + 1, hm => by
    obtain ⟨i1, i2⟩ := raise_inv ls ys hk m (by omega)
    rw [raiseTo]
    split
    · next h0 =>
      subst h0
      rw [raiseTo] at i1 i2
      exact ⟨i1, fun z hz => ⟨(i2 z hz).1, (i2 z hz).2.1, fun i x y h => by omega⟩⟩
    · next hm0 =>
      have hrl := rising_len ys
      have hperm : (rising ys).Perm ys := List.mergeSort_perm _ _
      have hnd : (rising ys).Nodup := hperm.nodup_iff.2 hk.1
      have g1 : (rising ys).getD (m - 1) default = (rising ys)[m - 1]'(by omega) := by rw [List.getD_eq_getElem?_getD, List.getElem?_eq_getElem (by omega)]; rfl
      have g2 : (rising ys).getD m default = (rising ys)[m]'(by omega) := by rw [List.getD_eq_getElem?_getD, List.getElem?_eq_getElem (by omega)]; rfl
      have p1 : (rising ys)[m - 1]? = some ((rising ys)[m - 1]'(by omega)) := List.getElem?_eq_getElem _
      have p2 : (rising ys)[m]? = some ((rising ys)[m]'(by omega)) := List.getElem?_eq_getElem _
      rw [g1, g2]
      generalize hx0 : (rising ys)[m - 1]'(by omega) = x0 at p1
      generalize hy0 : (rising ys)[m]'(by omega) = y0 at p2
      have hne : x0 ≠ y0 := fun e => by
        have := (List.getElem_inj hnd).1 (hx0.trans (e.trans hy0.symm))
        omega
      have mx : x0 ∈ ls := needOf_has ls x0 ((hk.2.1 x0).1 (hperm.mem_iff.1 (hx0 ▸ List.getElem_mem _)))
      have my : y0 ∈ ls := needOf_has ls y0 ((hk.2.1 y0).1 (hperm.mem_iff.1 (hy0 ▸ List.getElem_mem _)))
      refine ⟨raise_isMap i1 _ _, fun z hz => ?_⟩
      obtain ⟨a, b, c⟩ := i2 z hz
      rw [raise_get i1 hne]
      generalize getN (raiseTo (rising ys) (needOf ls) m) (sumLit z.1) = v at *
      have hu := up_ge v ((alikeOf x0.1 y0.1 : Nat) + 1)
      split
      · next hz2 =>
        refine ⟨by omega, ?_, fun i x y hi hx hy hzz => ?_⟩
        · rcases hu.2.2 with e | e
          · rw [e]; exact b
          · rw [e]
            rcases hz2 with rfl | rfl
            · exact .inr ⟨y0, my, Ne.symm hne, rfl⟩
            · exact .inr ⟨x0, mx, hne, by rw [alike_comm]⟩
        · by_cases hi2 : i + 1 < m
          · have := c i x y hi2 hx hy hzz
            omega
          · obtain rfl : i = m - 1 := by omega
            rw [show m - 1 + 1 = m by omega] at hy
            rw [p1] at hx
            rw [p2] at hy
            cases hx
            cases hy
            omega
      · next hz2 =>
        refine ⟨a, b, fun i x y hi hx hy hzz => ?_⟩
        by_cases hi2 : i + 1 < m
        · exact c i x y hi2 hx hy hzz
        · obtain rfl : i = m - 1 := by omega
          rw [show m - 1 + 1 = m by omega] at hy
          rw [p1] at hx
          rw [p2] at hy
          cases hx
          cases hy
          exact absurd hzz hz2
theorem needOf_in (ls : List Dig) (x : Dig) (h : x ∈ ls) : Maps.has (needOf ls) (sumLit x.1) = true := by
  have key : ∀ (xs : List Dig) (D : Need), IsMap D → (x ∈ xs ∨ Maps.has D (sumLit x.1) = true) → Maps.has (xs.foldl (fun D y => D.put (sumLit y.1) (litN 1)) D) (sumLit x.1) = true := by
    intro xs
    induction xs with
    | nil => intro D _ h; exact h.elim (fun k => absurd k (List.not_mem_nil)) id
    | cons y xs ih =>
      intro D hD h
      refine ih _ (hD.put _ _) ?_
      rcases h with h | h
      · rcases List.mem_cons.1 h with rfl | h
        · exact .inr (has_put_same hD (sumKey x) _)
        · exact .inl h
      · exact .inr (has_put_mono hD (sumKey y) _ h)
  exact key ls _ isMap_empty (.inl h)
theorem nibLe_refl (x : Dig) : NibLe x x := fun _ _ _ => Nat.le_refl _
theorem short_need (ls ys : List Dig) (hk : KeysOfMap (needOf ls) ys) (z : Dig) (hz : z ∈ ls) : IsNeed ls z (getN (raiseTo (rising ys) (needOf ls) (max 1 ys.length)) (sumLit z.1)) := by
  obtain ⟨_, h⟩ := raise_inv ls ys hk (max 1 ys.length) (Nat.le_refl _)
  obtain ⟨a, b, c⟩ := h z hz
  refine ⟨a, fun y hy hne => ?_, b⟩
  have hrl := rising_len ys
  have hperm : (rising ys).Perm ys := List.mergeSort_perm _ _
  have hin : ∀ x ∈ ls, x ∈ rising ys := fun x hx => hperm.mem_iff.2 ((hk.2.1 x).2 (needOf_in ls x hx))
  obtain ⟨p, hp, ep⟩ := List.getElem_of_mem (hin z hz)
  obtain ⟨q, hq, eq⟩ := List.getElem_of_mem (hin y hy)
  have hs := List.pairwise_iff_getElem.1 (rising_sorted ys)
  have hle : ∀ i j (hi : i < (rising ys).length) (hj : j < (rising ys).length), i ≤ j → NibLe (rising ys)[i] (rising ys)[j] := fun i j hi hj hij => by
    rcases Nat.lt_or_eq_of_le hij with h1 | h1
    · exact nibLe_of (hs i j hi hj h1)
    · subst h1; exact nibLe_refl _
  have hpq : p ≠ q := fun e => by subst e; exact hne (eq.symm.trans ep)
  rcases Nat.lt_or_gt_of_ne hpq with hlt | hgt
  · have h1 := (alike_mid (hle p (p + 1) hp (by omega) (by omega)) (hle (p + 1) q (by omega) hq (by omega))).1
    have h2 := c p (rising ys)[p] ((rising ys)[p + 1]'(by omega)) (by omega) (List.getElem?_eq_getElem _) (List.getElem?_eq_getElem _) (.inl ep.symm)
    rw [ep, eq] at h1
    rw [ep] at h2
    omega
  · have h1 := (alike_mid (hle q (p - 1) hq (by omega) (by omega)) (hle (p - 1) p (by omega) hp (by omega))).2
    have h2 := c (p - 1) ((rising ys)[p - 1]'(by omega)) (rising ys)[p] (by omega) (List.getElem?_eq_getElem _) (by rw [show p - 1 + 1 = p by omega]; exact List.getElem?_eq_getElem _) (.inr ep.symm)
    rw [ep, eq, alike_comm y.1 z.1] at h1
    rw [ep] at h2
    omega
end Go.Proofs.YtcocljghoiacmaaDoor
end
section
namespace Go.Proofs.YtcocljghoiacmaaDoor
open Go.RowKit Go.Hoar Go.Maps Go.Shelf
attribute [local go_sem] Oper.semAt_some
set_option maxRecDepth 100000 in
set_option maxHeartbeats 3000000 in
theorem short_row (ls : List Dig) (a : Option Addr) (c : Nat) (w : World) (hs : RowOk w a c (ls.map (·.1))) (hn : ls.length ≤ 100000) :
    Calls Tryd.prog 44 #[.slice a ls.length c] w fun e w' => ∃ v ys, e = .returned v ∧ KeysOfMap (needOf ls) ys ∧ w'.ownsRow w.heap.size 3 1 v ls.length (ls.map fun x => .int .i64 (getN (raiseTo (rising ys) (needOf ls) (max 1 ys.length)) (sumLit x.1))) ∧ Go.RowKit.Below w.heap.size w w' := by
  have HS := Lib.hid hs
  clear hs
  have hmm := @run_makeMap Tryd.prog
  go_enter Tryd.func44, Tryd.ntmps44
  go_upto_region 2 with (fail)
  refine gen_world (P := fun W => Code.wp _ _ _ _ W) (I := fun W => Go.RowKit.Below w.heap.size w W ∧ W.ownsMap Tryd.prog 26 elemN w.heap.size 0 (needOf [])) _ ⟨(Go.RowKit.Below.refl _ w).alloc (Nat.le_refl _) _, World.ownsMap_made w _ _ _⟩ ?_
  rintro W ⟨hB, hM⟩
  have hszW : w.heap.size < W.heap.size := hM.lt
  have HB := Lib.hid hB
  have HM := Lib.hid hM
  clear hB hM
  go_wp2
  go_loopw [17] (fun i wr => ∃ k : Nat, k ≤ ls.length ∧ i = .int .i64 k ∧ wr.ownsMap Tryd.prog 26 elemN w.heap.size k (needOf (ls.take k)) ∧ Go.RowKit.Below w.heap.size w wr) (fun i _ => ls.length - (intOf i).toNat)
  case atStart => exact ⟨0, Nat.zero_le _, rfl, HM.out, HB.out⟩
  case round =>
    obtain ⟨k, hk, rfl, hM, hB⟩ := hrel
    by_cases hlt : k < ls.length
    · obtain ⟨x, hx⟩ : ∃ x, ls[k]? = some x := ⟨_, List.getElem?_eq_getElem hlt⟩
      have hx2 : (ls.map (·.1))[k]? = some x.1 := by rw [List.getElem?_map, hx]; rfl
      have hxl := x.2.1
      rcases HS.out with ⟨_, he, _⟩ | ⟨g, off, rfl, hg, hss, _, _⟩
      · rw [he] at hx2; simp at hx2
      have hsw := hss.below hg hB
      clear hss
      have HRow := Lib.hid (hsw.row hx2)
      have HI := Lib.hid (arr32_info x.1 (by omega))
      have HSz := Lib.hid (zero32_size x.1 (by omega))
      have HF := Lib.hid (fresh_sum wr)
      have hml : w.heap.size < wr.heap.size := hM.lt
      have htk : ls.take (k + 1) = ls.take k ++ [x] := by rw [List.take_add_one, hx]; rfl
      have HTk := Lib.hid htk
      have HM := Lib.hid hM
      have HB := Lib.hid hB
      have HKey := Lib.hid (sum_keyOf x.1 x.2.1 x.2.2)
      clear hM hB hsw htk
      go_upto_region 5 with (first
        | ((with_reducible refine arm_load (w := wr) ⟨g, off + k * 32, none⟩ _ _ HRow.out Tryd.underlying26 HI.out ?h1 ?h2 ?_); (case h1 => rfl); (case h2 => rfl))
        | ((with_reducible refine arm_store wr.heap.size (arr32 x.1) 26 zero32 HF.out HSz.out HI.out (arr32_one _) ?h5 ?h6 ?_); (case h5 => rfl); (case h6 => rfl)))
      refine gen_world (P := fun W => Code.wp _ _ _ _ W) (I := fun V => Go.RowKit.Below wr.heap.size wr V ∧ Has V wr.heap.size 26 (arr32 x.1)) _ ⟨below_setRow ((Go.RowKit.Below.refl _ wr).alloc (Nat.le_refl _) _) (Nat.le_refl _) _, HF.out.setRow⟩ ?_
      rintro V ⟨hBV, hXV⟩
      have HMV := Lib.hid (ownsMap_same HM.out (hBV.block _ hml))
      have HBV := Lib.hid (HB.out.trans (hBV.mono HB.out.size))
      have HXV := Lib.hid hXV.row
      clear hBV hXV
      go_wp2_with (first
        | ((with_reducible refine arm_load (w := V) ⟨wr.heap.size, 0, none⟩ _ _ HXV.out Tryd.underlying26 HI.out ?h3 ?h4 ?_); (case h3 => rfl); (case h4 => rfl))
        | (at_mapUpdate; refine wpList_mapUpdate_own _ rfl _ _ _ 114 rfl 26 3 sum_keyed Tryd.underlying114 _ w.heap.size k _ rfl HMV.out (by unfold maxLen; omega) _ _ (sumLit x.1) rfl rfl HKey.out (litN 1) [] (elemN_int 1 rfl) ?_; intro w1 hown1 hgrow1; have HM1 := Lib.hid hown1; have HB1 := Lib.hid (HBV.out.grown hgrow1 HBV.out.size (fun j hj => by cases hj; exact Nat.le_refl _)); clear hown1 hgrow1))
      refine ⟨⟨k + 1, by omega, by go_num, ?_, HB1.out⟩, by simp [intOf]; omega⟩
      rw [HTk.out, needOf_snoc]
      exact HM1.out
    · obtain rfl : k = ls.length := by omega
      rw [List.take_length] at hM
      have hsize := hM.size_le
      obtain ⟨base, hbase⟩ : ∃ n, n = wr.heap.size + 1 := ⟨_, rfl⟩
      have hml : w.heap.size < wr.heap.size := hM.lt
      have hsf := sortedFunc_any (N := Maps.size (needOf ls)) (S := KeysOfMap (needOf ls)) (gf := 101) (lb := #[.pointer (some ⟨wr.heap.size, 0, none⟩)]) (by omega) (fun ys h => by have := h.2.2; omega) (enters_of Tryd.func101 (by kernel_rfl) rfl) (wr.alloc (.cells #[.map (some w.heap.size)] 114))
        (fun n hn => keys1_stops Fence.wide n trivial rfl hn wr.heap.size w.heap.size ls.length (needOf ls) _ (by simp) ((Has.fresh wr 114 #[.map (some w.heap.size)]).cell 0) (hM.alloc _))
      have HSf := Lib.hid hsf
      have HM1 := Lib.hid (hM.alloc (.cells #[.map (some w.heap.size)] 114))
      have HB1 := Lib.hid (hB.alloc hB.size (.cells #[.map (some w.heap.size)] 114))
      clear hM hB hsf
      go_wp2_with (first
        | (go_at_call 79; refine (mapKeys_any (some w.heap.size) wr).mono ?_; rintro e w1 ⟨rfl, rfl⟩)
        | (go_at_call 78; refine HSf.out.mono ?_; rintro e w2 ⟨v, ys, rfl, hS, ho, hb⟩; obtain ⟨a2, c2, rfl, hc2, hcm2⟩ := own_shape ho; have HSY := Lib.hid hS; have HO2 := Lib.hid ho; have HM2 := Lib.hid (ownsMap_same HM1.out (hb.block _ (by simp; omega))); have HB2 := Lib.hid (HB1.out.trans (hb.mono HB1.out.size)); have hsz2 := hb.size; simp only [World.size_alloc] at hsz2; clear ho hb))
      have hyl : ys.length ≤ 100000 := by have := HSY.out.2.2; omega
      unfold maxLen at hcm2
      obtain ⟨rs, hrs⟩ : ∃ rs, rs = rising ys := ⟨_, rfl⟩
      have hrl : rs.length = ys.length := by rw [hrs, rising_len]
      have HRs := Lib.hid hrs
      have HRl := Lib.hid hrl
      have HH2 : Hid (∀ d ∈ rs, Maps.has (needOf ls) (sumLit d.1) = true) := Lib.hid fun d hd => (HSY.out.2.1 d).1 ((List.mergeSort_perm _ _).mem_iff.1 (hrs ▸ hd))
      rw [← HRs.out] at HO2
      clear hrs hrl
      go_loopw [7] (fun i wr2 => ∃ k : Nat, 1 ≤ k ∧ (k ≤ ys.length ∨ k = 1) ∧ i = .int .i64 k ∧ wr2.ownsMap Tryd.prog 26 elemN w.heap.size (ls.length + 2 * k) (raiseTo rs (needOf ls) k) ∧ wr2.ownsRow base 26 32 (.slice a2 ys.length c2) ys.length (digCells rs) ∧ Go.RowKit.Below w.heap.size w wr2 ∧ Hid (∀ d ∈ rs, Maps.has (raiseTo rs (needOf ls) k) (sumLit d.1) = true)) (fun i _ => ys.length - (intOf i).toNat)
      case atStart => exact ⟨1, Nat.le_refl _, .inr rfl, rfl, HM2.out.mono (by omega), by rw [hbase]; simpa using HO2.out, HB2.out, HH2⟩
      case round =>
        obtain ⟨k, hk1, hk2, rfl, hM, hO, hB, HH⟩ := hrel
        by_cases hlt : k < ys.length
        · obtain ⟨x, hx⟩ : ∃ x, rs[k - 1]? = some x := ⟨_, List.getElem?_eq_getElem (by have := HRl.out; omega)⟩
          obtain ⟨y, hy⟩ : ∃ y, rs[k]? = some y := ⟨_, List.getElem?_eq_getElem (by have := HRl.out; omega)⟩
          have hxl := x.2.1
          have hyl2 := y.2.1
          have hHx := HH.out x (List.mem_of_getElem? hx)
          have hHy := HH.out y (List.mem_of_getElem? hy)
          have hstep : raiseTo rs (needOf ls) (k + 1) = raise (raiseTo rs (needOf ls) k) x y := by
            rw [raiseTo, if_neg (by omega), List.getD_eq_getElem?_getD, List.getD_eq_getElem?_getD, hx, hy]
            rfl
          obtain ⟨D, hD⟩ : ∃ D, D = raiseTo rs (needOf ls) k := ⟨_, rfl⟩
          rw [← hD] at hM hHx hHy hstep
          obtain ⟨g2, rfl, hg2b, hg2⟩ := own_addr hO (by omega)
          have hrowx := sums_row hO hx (by have := HRl.out; omega)
          have hrowy := sums_row hO hy (by have := HRl.out; omega)
          have HM := Lib.hid hM
          have HO := Lib.hid hO
          have HB := Lib.hid hB
          have HRx := Lib.hid hrowx
          have HRy := Lib.hid hrowy
          have HIx := Lib.hid (arr32_info x.1 (by omega))
          have HIy := Lib.hid (arr32_info y.1 (by omega))
          have HStep := Lib.hid hstep
          have hk0 : (0 : Int) ≤ (k : Int) - 1 := by omega
          have hk3 : (k : Int) - 1 < ys.length := by omega
          have hk4 : k - 1 < ys.length := by omega
          have hw1 : IntKind.i64.wrap ((k : Int) - 1) = ((k - 1 : Nat) : Int) := by rw [IntWalk.i64_in _ (by omega)]; omega
          have HD : Hid (D = raiseTo rs (needOf ls) k) := Lib.hid hD
          clear hM hO hB hrowx hrowy hstep hD
          go_upto_region 11 with (fail)
          refine wp_region_held (S := fun V => (∀ j u, (arr32 x.1)[j]? = some u → V.cell? ((⟨g2, (k - 1) * 32, none⟩ : Addr).add j) = some u) ∧ ∀ j u, (arr32 y.1)[j]? = some u → V.cell? ((⟨g2, k * 32, none⟩ : Addr).add j) = some u) (by kernel_rfl) ?_
          have HSS : Hid ((fun V : World => (∀ j u, (arr32 x.1)[j]? = some u → V.cell? ((⟨g2, (k - 1) * 32, none⟩ : Addr).add j) = some u) ∧ ∀ j u, (arr32 y.1)[j]? = some u → V.cell? ((⟨g2, k * 32, none⟩ : Addr).add j) = some u) { wr with drawn := wr.drawn + 1 }) := Lib.hid ⟨HRx.out, HRy.out⟩
          refine wpAnyH_take (i := 0) (oi := ⟨some 33, _, _, _, _, _⟩) (v := ?_) rfl (by kernel_rfl) (by kernel_rfl) (by kernel_rfl) (fun _ _ _ h => h) (Or.inl ⟨by rfl, fun w' hw' => by go_simp; with_reducible rfl⟩) HSS.out ?_
          simp only [Act.put, List.setIfInBounds_toArray, List.set_cons_succ, List.set_cons_zero]
          refine wpAnyH_take (i := 1) (oi := ⟨some 34, _, _, _, _, _⟩) (v := ?_) rfl (by kernel_rfl) (by kernel_rfl) (by kernel_rfl) (fun _ _ _ h => h) (Or.inl ⟨by rfl, fun w' hw' => by go_simp; with_reducible rfl⟩) HSS.out ?_
          simp only [Act.put, List.setIfInBounds_toArray, List.set_cons_succ, List.set_cons_zero]
          refine wpAnyH_take (i := 2) (oi := ⟨some 35, _, _, _, _, _⟩) (v := ?_) rfl (by kernel_rfl) (by kernel_rfl) (by kernel_rfl) (fun _ _ _ h => h) (Or.inl ⟨by rfl, fun w' hw' => by go_simp; with_reducible rfl⟩) HSS.out ?_
          simp only [Act.put, List.setIfInBounds_toArray, List.set_cons_succ, List.set_cons_zero]
          refine wpAnyH_take (i := 3) (oi := ⟨some 36, _, _, _, _, _⟩) (v := ?_) rfl (by kernel_rfl) (by kernel_rfl) (by kernel_rfl) (fun _ _ _ h => h) (Or.inl ⟨by rfl, fun w' hw' => by go_simp; with_reducible rfl⟩) HSS.out ?_
          simp only [Act.put, List.setIfInBounds_toArray, List.set_cons_succ, List.set_cons_zero]
          refine wpAnyH_take (i := 4) (oi := ⟨some 37, _, _, _, _, _⟩) (v := .agg (arr32 x.1)) rfl (by kernel_rfl) (by kernel_rfl) (by kernel_rfl) (fun _ _ _ h => h) ?y4 HSS.out ?_
          case y4 => exact yieldsIf_load ⟨g2, (k - 1) * 32, none⟩ _ _ (fun w hw => hw.1) Tryd.underlying26 HIx.out rfl rfl
          simp only [Act.put, List.setIfInBounds_toArray, List.set_cons_succ, List.set_cons_zero]
          refine wpAnyH_take (i := 5) (oi := ⟨some 38, _, _, _, _, _⟩) (v := ?_) rfl (by kernel_rfl) (by kernel_rfl) (by kernel_rfl) (fun _ _ _ h => h) (Or.inl ⟨by rfl, fun w' hw' => by go_simp; with_reducible rfl⟩) HSS.out ?_
          simp only [Act.put, List.setIfInBounds_toArray, List.set_cons_succ, List.set_cons_zero]
          refine wpAnyH_take (i := 6) (oi := ⟨some 39, _, _, _, _, _⟩) (v := ?_) rfl (by kernel_rfl) (by kernel_rfl) (by kernel_rfl) (fun _ _ _ h => h) (Or.inl ⟨by rfl, fun w' hw' => by go_simp; with_reducible rfl⟩) HSS.out ?_
          simp only [Act.put, List.setIfInBounds_toArray, List.set_cons_succ, List.set_cons_zero]
          refine wpAnyH_take (i := 7) (oi := ⟨some 40, _, _, _, _, _⟩) (v := ?_) rfl (by kernel_rfl) (by kernel_rfl) (by kernel_rfl) (fun _ _ _ h => h) (Or.inl ⟨by rfl, fun w' hw' => by go_simp; with_reducible rfl⟩) HSS.out ?_
          simp only [Act.put, List.setIfInBounds_toArray, List.set_cons_succ, List.set_cons_zero]
          refine wpAnyH_take (i := 8) (oi := ⟨some 41, _, _, _, _, _⟩) (v := .agg (arr32 y.1)) rfl (by kernel_rfl) (by kernel_rfl) (by kernel_rfl) (fun _ _ _ h => h) ?y8 HSS.out ?_
          case y8 => exact yieldsIf_load ⟨g2, k * 32, none⟩ _ _ (fun w hw => hw.2) Tryd.underlying26 HIy.out rfl rfl
          simp only [Act.put, List.setIfInBounds_toArray, List.set_cons_succ, List.set_cons_zero]
          have HSb : Hid (∀ V : World, Go.RowKit.Below wr.heap.size wr V → (fun V : World => (∀ j u, (arr32 x.1)[j]? = some u → V.cell? ((⟨g2, (k - 1) * 32, none⟩ : Addr).add j) = some u) ∧ ∀ j u, (arr32 y.1)[j]? = some u → V.cell? ((⟨g2, k * 32, none⟩ : Addr).add j) = some u) V) := Lib.hid fun V hV => ⟨fun j u hj => (hV.cell (by simpa [Addr.add_lit] using hg2)).trans (HRx.out j u hj), fun j u hj => (hV.cell (by simpa [Addr.add_lit] using hg2)).trans (HRy.out j u hj)⟩
          refine wpAnyH_all (rs := [9, 10]) (by kernel_rfl) (by simp) ?_
          intro i hi
          have hi2 : i = 9 ∨ i = 10 := by simpa using hi
          rcases hi2 with rfl | rfl
          · refine wpOp_step (o := ⟨some 8, _, _, _, _, _⟩) rfl (fun K' hK' => ?_)
            go_simp
            refine hK' _ _ ⟨HSb.out _ ((Go.RowKit.Below.refl _ wr).alloc (Nat.le_refl _) _).drew, ?_⟩
            refine gen_world (P := fun V => wpAnyH _ _ _ _ _ _ _ _ V) (I := fun V => Go.RowKit.Below wr.heap.size wr V ∧ Has V wr.heap.size 26 zero32) _ ⟨((Go.RowKit.Below.refl _ wr).alloc (Nat.le_refl _) _).drew, (fresh_sum wr).drew⟩ ?_
            rintro V1 ⟨hb1, hf1⟩
            clear hK' K'
            refine wpAnyH_all (rs := [10]) (by kernel_rfl) (by simp) ?_
            intro i hi
            obtain rfl : i = 10 := by simpa using hi
            refine wpOp_step (o := ⟨some 9, _, _, _, _, _⟩) rfl (fun K' hK' => ?_)
            go_simp
            refine hK' _ _ ⟨HSb.out _ (hb1.alloc hb1.size _), ?_⟩
            refine gen_world (P := fun V => wpAnyH _ _ _ _ _ _ _ _ V) (I := fun V => Go.RowKit.Below wr.heap.size wr V ∧ Has V wr.heap.size 26 zero32 ∧ Has V V1.heap.size 26 zero32) _ ⟨hb1.alloc hb1.size _, hf1.alloc _, fresh_sum V1⟩ ?_
            rintro V2 ⟨hbv, h8, h9⟩
            have hne : ¬ wr.heap.size = V1.heap.size := by have := hf1.lt; omega
            have hle := hb1.size
            generalize hp8 : wr.heap.size = p8 at h8 hne ⊢
            generalize hp9 : V1.heap.size = p9 at h9 hne ⊢
            clear hK' K' hb1 hf1
            have hl8 : wr.heap.size ≤ p8 := by omega
            have hl9 : wr.heap.size ≤ p9 := by omega
            have hne2 : ¬ p8 = p9 := by omega
            clear hp8 hp9 hne hle
            refine wpAnyH_all (rs := [11]) (by kernel_rfl) (by simp) ?_
            intro i hi
            obtain rfl : i = 11 := by simpa using hi
            refine wpOp_step (o := ⟨none, _, _, _, _, _⟩) rfl (fun K' hK' => ?_)
            rw [if_pos (show Region.wanted _ _ = true from rfl)]
            refine wp_store_row _ _ _ rfl p8 (arr32 x.1) rfl rfl 26 zero32 h8 HIx.out (zero32_size x.1 (by omega)) (arr32_one _) ?_
            refine hK' _ _ ⟨HSb.out _ (below_setRow hbv hl8 _), ?_⟩
            refine gen_world (P := fun V => wpAnyH _ _ _ _ _ _ _ _ V) (I := fun V => Go.RowKit.Below wr.heap.size wr V ∧ Has V p8 26 (arr32 x.1) ∧ Has V p9 26 zero32) _ ⟨below_setRow hbv hl8 _, h8.setRow, h9.setRow_apart (by omega)⟩ ?_
            clear hbv h8 h9 hK' K'
            rintro V3 ⟨hbv, h8, h9⟩
            refine wpAnyH_all (rs := [12]) (by kernel_rfl) (by simp) ?_
            intro i hi
            obtain rfl : i = 12 := by simpa using hi
            refine wpOp_step (o := ⟨none, _, _, _, _, _⟩) rfl (fun K' hK' => ?_)
            rw [if_pos (show Region.wanted _ _ = true from rfl)]
            refine wp_store_row _ _ _ rfl p9 (arr32 y.1) rfl rfl 26 zero32 h9 HIy.out (zero32_size y.1 (by omega)) (arr32_one _) ?_
            refine hK' _ _ ⟨HSb.out _ (below_setRow hbv hl9 _), ?_⟩
            refine gen_world (P := fun V => wpAnyH _ _ _ _ _ _ _ _ V) (I := fun V => Go.RowKit.Below wr.heap.size wr V ∧ Has V p8 26 (arr32 x.1) ∧ Has V p9 26 (arr32 y.1)) _ ⟨below_setRow hbv hl9 _, h8.setRow_apart (by omega), h9.setRow⟩ ?_
            clear hbv h8 h9 hK' K'
            rintro V4 ⟨hbv, h8, h9⟩
            refine wpAnyH_done (by kernel_rfl) ?_ _
            clear HSb HSS
            have hmb : w.heap.size < wr.heap.size := HM.out.lt
            have HM4 := Lib.hid (ownsMap_same HM.out (hbv.block _ hmb))
            have HO4 := Lib.hid (own_below HO.out hbv)
            have HB4 := Lib.hid (HB.out.trans (hbv.mono HB.out.size))
            have HR8 := Lib.hid h8.row
            have HR9 := Lib.hid h9.row
            have HP8 := Lib.hid h8
            have HP9 := Lib.hid h9
            clear hbv h8 h9 HM HO HB HRx HRy
            have hal : alikeOf x.1 y.1 ≤ 64 := by have := alikeF_le x.1 y.1 64 0; unfold alikeOf; omega
            have hwal : IntKind.i64.wrap (((alikeOf x.1 y.1 : Nat) : Int) + 1) = ((alikeOf x.1 y.1 : Nat) : Int) + 1 := IntWalk.i64_in _ (by omega)
            go_upto_region 13 with (first
              | ((with_reducible refine arm_load (w := V4) ⟨p8, 0, none⟩ _ _ HR8.out Tryd.underlying26 HIx.out ?h1 ?h2 ?_); (case h1 => rfl); (case h2 => rfl))
              | ((with_reducible refine arm_load (w := V4) ⟨p9, 0, none⟩ _ _ HR9.out Tryd.underlying26 HIy.out ?h3 ?h4 ?_); (case h3 => rfl); (case h4 => rfl))
              | (go_at_call 80; refine (alike_any x.1 y.1 x.2.1 y.2.1 x.2.2 y.2.2 V4).mono ?_; rintro e w5 ⟨rfl, hb5⟩; have HM5 := Lib.hid (ownsMap_same HM4.out (hb5.block _ HM4.out.lt)); have HO5 := Lib.hid (own_below HO4.out hb5); have HB5 := Lib.hid (HB4.out.trans (hb5.mono HB4.out.size)); have HP85 := Lib.hid (HP8.out.below hb5 HP8.out.lt).row; have HP95 := Lib.hid (HP9.out.below hb5 HP9.out.lt).row; clear hb5))
            have hmlt : w.heap.size < p8 ∧ w.heap.size < p9 := ⟨by omega, by omega⟩
            obtain ⟨ca, hla, hata, hwa⟩ := (HM5.out.drew).lookup_int sum_keyed Tryd.underlying114 Tryd.underlying3 (Tryd.zeroValue3 _) (sum_keyOf x.1 x.2.1 x.2.2)
            obtain ⟨cb, hlb, hatb, hwb⟩ := (HM5.out.drew).lookup_int sum_keyed Tryd.underlying114 Tryd.underlying3 (Tryd.zeroValue3 _) (sum_keyOf y.1 y.2.1 y.2.2)
            obtain ⟨v0, st, hme, hst⟩ := entry_here (HM5.out.drew) sum_law sum_keyed Tryd.underlying114 Tryd.zeroValue3 (by unfold maxLen; omega) (sum_keyOf x.1 x.2.1 x.2.2) hHx
            have hwua : (Lit.int .i64 (up ca ((alikeOf x.1 y.1 : Nat) + 1))).wf = true := up_wf hwa hal
            have hwub : (Lit.int .i64 (up cb ((alikeOf x.1 y.1 : Nat) + 1))).wf = true := up_wf hwb hal
            obtain ⟨w6, h6a, h6b, h6c⟩ := hst w5.drew (.int .i64 (up ca ((alikeOf x.1 y.1 : Nat) + 1))) _ _ rfl (elemN_int _ hwua)
            obtain ⟨w7, h7a, h7b, h7c⟩ := h6b.update sum_keyed Tryd.underlying114 (by unfold maxLen; omega) (sum_keyOf y.1 y.2.1 y.2.2) (elemN_int _ hwub)
            have hea : getN D (sumLit x.1) = ca := by unfold getN litN; rw [hata]
            have heb : getN D (sumLit y.1) = cb := by unfold getN litN; rw [hatb]
            have hraise : raise D x y = (D.put (sumLit x.1) (litN (up ca ((alikeOf x.1 y.1 : Nat) + 1)))).put (sumLit y.1) (litN (up cb ((alikeOf x.1 y.1 : Nat) + 1))) := by rw [raise, hea, heb]
            rw [← hraise, ← HStep.out] at h7b
            have hhas : Hid (∀ d ∈ rs, Maps.has (raiseTo rs (needOf ls) (k + 1)) (sumLit d.1) = true) := Lib.hid fun d hd => by
              rw [HStep.out, hraise]
              exact has_put_mono h6b.isMap (sum_keyed.key (sum_keyOf y.1 y.2.1 y.2.2)) _ (has_put_mono HM5.out.isMap (sum_keyed.key (sum_keyOf x.1 x.2.1 x.2.2)) _ (HD.out ▸ HH.out d hd))
            have hbel : Go.RowKit.Below w.heap.size w w7 := (HB5.out.drew.grown h6c HB5.out.size (fun j e => by cases e; exact Nat.le_refl _)).grown h7c (Nat.le_trans HB5.out.size h6c.size) (fun j e => by cases e; exact Nat.le_refl _)
            have hown7 : w7.ownsRow (base) 26 32 (.slice (some ⟨g2, 0, none⟩) ys.length c2) ys.length (digCells rs) := (HO5.out.drew.kept h6c (.inr (fun e => by have : g2 = w.heap.size := Option.some.inj e; omega))).kept h7c (.inr (fun e => by have : g2 = w.heap.size := Option.some.inj e; omega))
            have HFin : Hid (∀ i : Value, i = .int .i64 ((k + 1 : Nat) : Int) → ∃ k' : Nat, 1 ≤ k' ∧ (k' ≤ ys.length ∨ k' = 1) ∧ i = .int .i64 k' ∧ w7.ownsMap Tryd.prog 26 elemN w.heap.size (ls.length + 2 * k') (raiseTo rs (needOf ls) k') ∧ w7.ownsRow (base) 26 32 (.slice (some ⟨g2, 0, none⟩) ys.length c2) ys.length (digCells rs) ∧ Go.RowKit.Below w.heap.size w w7 ∧ Hid (∀ d ∈ rs, Maps.has (raiseTo rs (needOf ls) k') (sumLit d.1) = true)) := Lib.hid fun i hi => ⟨k + 1, by omega, .inl (by omega), hi, by simpa [Nat.mul_add, Nat.add_assoc] using h7b, hown7, hbel, hhas⟩
            have HLa := Lib.hid hla
            have HLb := Lib.hid hlb
            have HMe := Lib.hid hme
            have H6a := Lib.hid h6a
            have H7a := Lib.hid h7a
            have HS13 : Hid (SS p8 p9 x y w5.drew) := Lib.hid ⟨HP85.out, HP95.out⟩
            have HS6 : Hid (SS p8 p9 x y w6) := Lib.hid ⟨fun j u hj => h6c.cell (HP85.out j u hj) (fun e => by rw [Addr.add_lit] at e; have : p8 = w.heap.size := Option.some.inj e; omega), fun j u hj => h6c.cell (HP95.out j u hj) (fun e => by rw [Addr.add_lit] at e; have : p9 = w.heap.size := Option.some.inj e; omega)⟩
            have HS7 : Hid (SS p8 p9 x y w7) := Lib.hid ⟨fun j u hj => h7c.cell (HS6.out.1 j u hj) (fun e => by rw [Addr.add_lit] at e; have : p8 = w.heap.size := Option.some.inj e; omega), fun j u hj => h7c.cell (HS6.out.2 j u hj) (fun e => by rw [Addr.add_lit] at e; have : p9 = w.heap.size := Option.some.inj e; omega)⟩
            clear hla hlb hme hst h6a h6b h6c h7a h7b h7c hata hatb hea heb hraise hhas hbel hown7 hwa hwb hwua hwub HM5 HO5 HB5 HP85 HP95 HH hHx hHy
            refine wp_region_held (S := SS p8 p9 x y) (by kernel_rfl) ?_
            refine wpAnyH_take (i := 0) (oi := ⟨some 46, _, _, _, _, _⟩) (v := ?_) rfl (by kernel_rfl) (by kernel_rfl) (by kernel_rfl) (fun _ _ _ h => h) (Or.inl ⟨by rfl, fun w' hw' => by go_simp; with_reducible rfl⟩) HS13.out ?_
            simp only [Act.put, List.setIfInBounds_toArray, List.set_cons_succ, List.set_cons_zero]
            refine wpAnyH_take (i := 1) (oi := ⟨some 47, _, _, _, _, _⟩) (v := .agg (arr32 x.1)) rfl (by kernel_rfl) (by kernel_rfl) (by kernel_rfl) (fun _ _ _ h => h) ?y1 HS13.out ?_
            case y1 => exact yieldsIf_load ⟨p8, 0, none⟩ _ _ (fun w hw => hw.1) Tryd.underlying26 HIx.out rfl rfl
            simp only [Act.put, List.setIfInBounds_toArray, List.set_cons_succ, List.set_cons_zero]
            refine wpAnyH_take (i := 2) (oi := ⟨some 48, _, _, _, _, _⟩) (v := ?_) rfl (by kernel_rfl) (by kernel_rfl) (by kernel_rfl) (fun _ _ _ h => h) (Or.inl ⟨by rfl, fun w' hw' => by go_simp; with_reducible rfl⟩) HS13.out ?_
            simp only [Act.put, List.setIfInBounds_toArray, List.set_cons_succ, List.set_cons_zero]
            refine wpAnyH_take (i := 3) (oi := ⟨some 49, _, _, _, _, _⟩) (v := .agg (arr32 y.1)) rfl (by kernel_rfl) (by kernel_rfl) (by kernel_rfl) (fun _ _ _ h => h) ?y3 HS13.out ?_
            case y3 => exact yieldsIf_load ⟨p9, 0, none⟩ _ _ (fun w hw => hw.2) Tryd.underlying26 HIy.out rfl rfl
            simp only [Act.put, List.setIfInBounds_toArray, List.set_cons_succ, List.set_cons_zero]
            refine wpAnyH_take (i := 4) (oi := ⟨some 50, _, _, _, _, _⟩) (v := ?_) rfl (by kernel_rfl) (by kernel_rfl) (by kernel_rfl) (fun _ _ _ h => h) (Or.inl ⟨by rfl, fun w' hw' => by go_simp; with_reducible rfl⟩) HS13.out ?_
            simp only [Act.put, List.setIfInBounds_toArray, List.set_cons_succ, List.set_cons_zero]
            refine wpAnyH_take (i := 5) (oi := ⟨some 51, _, _, _, _, _⟩) (v := .agg (arr32 x.1)) rfl (by kernel_rfl) (by kernel_rfl) (by kernel_rfl) (fun _ _ _ h => h) ?y5 HS13.out ?_
            case y5 => exact yieldsIf_load ⟨p8, 0, none⟩ _ _ (fun w hw => hw.1) Tryd.underlying26 HIx.out rfl rfl
            simp only [Act.put, List.setIfInBounds_toArray, List.set_cons_succ, List.set_cons_zero]
            refine wpAnyH_take (i := 7) (oi := ⟨some 53, _, _, _, _, _⟩) (v := ?_) rfl (by kernel_rfl) (by kernel_rfl) (by kernel_rfl) (fun _ _ _ h => h) (Or.inl ⟨by rfl, fun w' hw' => by go_simp; with_reducible rfl⟩) HS13.out ?_
            simp only [Act.put, List.setIfInBounds_toArray, List.set_cons_succ, List.set_cons_zero]
            refine wpAnyH_take (i := 9) (oi := ⟨some 55, _, _, _, _, _⟩) (v := ?_) rfl (by kernel_rfl) (by kernel_rfl) (by kernel_rfl) (fun _ _ _ h => h) (Or.inl ⟨by rfl, fun w' hw' => by go_simp; with_reducible rfl⟩) HS13.out ?_
            simp only [Act.put, List.setIfInBounds_toArray, List.set_cons_succ, List.set_cons_zero]
            refine wpAnyH_take (i := 10) (oi := ⟨some 56, _, _, _, _, _⟩) (v := .agg (arr32 y.1)) rfl (by kernel_rfl) (by kernel_rfl) (by kernel_rfl) (fun _ _ _ h => h) ?y10 HS13.out ?_
            case y10 => exact yieldsIf_load ⟨p9, 0, none⟩ _ _ (fun w hw => hw.2) Tryd.underlying26 HIy.out rfl rfl
            simp only [Act.put, List.setIfInBounds_toArray, List.set_cons_succ, List.set_cons_zero]
            refine wpAnyH_take (i := 12) (oi := ⟨some 58, _, _, _, _, _⟩) (v := ?_) rfl (by kernel_rfl) (by kernel_rfl) (by kernel_rfl) (fun _ _ _ h => h) (Or.inl ⟨by rfl, fun w' hw' => by go_simp; with_reducible rfl⟩) HS13.out ?_
            simp only [Act.put, List.setIfInBounds_toArray, List.set_cons_succ, List.set_cons_zero]
            refine wpAnyH_all (rs := [6, 11]) (by kernel_rfl) (by simp) ?_
            intro i hi
            have hi2 : i = 6 ∨ i = 11 := by simpa using hi
            rcases hi2 with rfl | rfl
            · refine wpOp_step (o := ⟨some 52, _, _, _, _, _⟩) rfl (fun K' hK' => ?_)
              rw [if_pos (show Region.wanted _ _ = true from rfl)]
              refine op_lookup (.map (some w.heap.size)) (.agg (arr32 x.1)) (.int .i64 ca) rfl rfl HLa.out ?_
              refine hK' _ _ ⟨HS13.out, ?_⟩
              clear hK' K'
              simp only [Act.put, List.setIfInBounds_toArray, List.set_cons_succ, List.set_cons_zero]
              refine wpAnyH_take (i := 8) (oi := ⟨some 54, _, _, _, _, _⟩) (v := .int .i64 (up ca ((alikeOf x.1 y.1 : Nat) + 1))) rfl (by kernel_rfl) (by kernel_rfl) (by kernel_rfl) (fun _ _ _ h => h) ?y8 HS13.out ?_
              case y8 => exact yieldsIf_max ca ((alikeOf x.1 y.1 : Nat) + 1) rfl rfl
              simp only [Act.put, List.setIfInBounds_toArray, List.set_cons_succ, List.set_cons_zero]
              refine wpAnyH_all (rs := [11]) (by kernel_rfl) (by simp) ?_
              intro i hi
              obtain rfl : i = 11 := by simpa using hi
              refine wpOp_step (o := ⟨some 57, _, _, _, _, _⟩) rfl (fun K' hK' => ?_)
              rw [if_pos (show Region.wanted _ _ = true from rfl)]
              refine op_lookup (.map (some w.heap.size)) (.agg (arr32 y.1)) (.int .i64 cb) rfl rfl HLb.out ?_
              refine hK' _ _ ⟨HS13.out, ?_⟩
              clear hK' K'
              simp only [Act.put, List.setIfInBounds_toArray, List.set_cons_succ, List.set_cons_zero]
              refine wpAnyH_take (i := 13) (oi := ⟨some 59, _, _, _, _, _⟩) (v := .int .i64 (up cb ((alikeOf x.1 y.1 : Nat) + 1))) rfl (by kernel_rfl) (by kernel_rfl) (by kernel_rfl) (fun _ _ _ h => h) ?y13 HS13.out ?_
              case y13 => exact yieldsIf_max cb ((alikeOf x.1 y.1 : Nat) + 1) rfl rfl
              simp only [Act.put, List.setIfInBounds_toArray, List.set_cons_succ, List.set_cons_zero]
              refine wpAnyH_all (rs := [14]) (by kernel_rfl) (by simp) ?_
              intro i hi
              obtain rfl : i = 14 := by simpa using hi
              refine wpOp_step (o := ⟨some 60, _, _, _, _, _⟩) rfl (fun K' hK' => ?_)
              rw [if_pos (show Region.wanted _ _ = true from rfl)]
              refine op_mapEntry (.map (some w.heap.size)) (.agg (arr32 x.1)) (.tuple #[v0, goInt st]) rfl rfl HMe.out ?_
              refine hK' _ _ ⟨HS13.out, ?_⟩
              clear hK' K'
              simp only [Act.put, List.setIfInBounds_toArray, List.set_cons_succ, List.set_cons_zero]
              refine wpAnyH_take (i := 15) (oi := ⟨some 61, _, _, _, _, _⟩) (v := ?_) rfl (by kernel_rfl) (by kernel_rfl) (by kernel_rfl) (fun _ _ _ h => h) (Or.inl ⟨by rfl, fun w' hw' => by go_simp; with_reducible rfl⟩) HS13.out ?_
              simp only [Act.put, List.setIfInBounds_toArray, List.set_cons_succ, List.set_cons_zero]
              refine wpAnyH_all (rs := [16]) (by kernel_rfl) (by simp) ?_
              intro i hi
              obtain rfl : i = 16 := by simpa using hi
              refine wpOp_step (o := ⟨none, _, _, _, _, _⟩) rfl (fun K' hK' => ?_)
              rw [if_pos (show Region.wanted _ _ = true from rfl)]
              refine op_entryStore (.map (some w.heap.size)) (goInt st) (.int .i64 (up ca ((alikeOf x.1 y.1 : Nat) + 1))) rfl rfl rfl H6a.out ?_
              refine hK' _ _ ⟨HS6.out, ?_⟩
              clear hK' K'
              refine wpAnyH_all (rs := [17]) (by kernel_rfl) (by simp) ?_
              intro i hi
              obtain rfl : i = 17 := by simpa using hi
              refine wpOp_step (o := ⟨none, _, _, _, _, _⟩) rfl (fun K' hK' => ?_)
              rw [if_pos (show Region.wanted _ _ = true from rfl)]
              refine op_mapUpdate (.map (some w.heap.size)) (.agg (arr32 y.1)) (.int .i64 (up cb ((alikeOf x.1 y.1 : Nat) + 1))) rfl rfl rfl H7a.out ?_
              refine hK' _ _ ⟨HS7.out, ?_⟩
              clear hK' K'
              refine wpAnyH_done (by kernel_rfl) ?_ _
              go_wp2
              exact ⟨HFin.out _ (by go_num), by simp [intOf]; omega⟩
            · refine wpOp_step (o := ⟨some 57, _, _, _, _, _⟩) rfl (fun K' hK' => ?_)
              rw [if_pos (show Region.wanted _ _ = true from rfl)]
              refine op_lookup (.map (some w.heap.size)) (.agg (arr32 y.1)) (.int .i64 cb) rfl rfl HLb.out ?_
              refine hK' _ _ ⟨HS13.out, ?_⟩
              clear hK' K'
              simp only [Act.put, List.setIfInBounds_toArray, List.set_cons_succ, List.set_cons_zero]
              refine wpAnyH_take (i := 13) (oi := ⟨some 59, _, _, _, _, _⟩) (v := .int .i64 (up cb ((alikeOf x.1 y.1 : Nat) + 1))) rfl (by kernel_rfl) (by kernel_rfl) (by kernel_rfl) (fun _ _ _ h => h) ?y13 HS13.out ?_
              case y13 => exact yieldsIf_max cb ((alikeOf x.1 y.1 : Nat) + 1) rfl rfl
              simp only [Act.put, List.setIfInBounds_toArray, List.set_cons_succ, List.set_cons_zero]
              refine wpAnyH_all (rs := [6, 14]) (by kernel_rfl) (by simp) ?_
              intro i hi
              have hi2 : i = 6 ∨ i = 14 := by simpa using hi
              rcases hi2 with rfl | rfl
              · refine wpOp_step (o := ⟨some 52, _, _, _, _, _⟩) rfl (fun K' hK' => ?_)
                rw [if_pos (show Region.wanted _ _ = true from rfl)]
                refine op_lookup (.map (some w.heap.size)) (.agg (arr32 x.1)) (.int .i64 ca) rfl rfl HLa.out ?_
                refine hK' _ _ ⟨HS13.out, ?_⟩
                clear hK' K'
                simp only [Act.put, List.setIfInBounds_toArray, List.set_cons_succ, List.set_cons_zero]
                refine wpAnyH_take (i := 8) (oi := ⟨some 54, _, _, _, _, _⟩) (v := .int .i64 (up ca ((alikeOf x.1 y.1 : Nat) + 1))) rfl (by kernel_rfl) (by kernel_rfl) (by kernel_rfl) (fun _ _ _ h => h) ?y8 HS13.out ?_
                case y8 => exact yieldsIf_max ca ((alikeOf x.1 y.1 : Nat) + 1) rfl rfl
                simp only [Act.put, List.setIfInBounds_toArray, List.set_cons_succ, List.set_cons_zero]
                refine wpAnyH_all (rs := [14]) (by kernel_rfl) (by simp) ?_
                intro i hi
                obtain rfl : i = 14 := by simpa using hi
                refine wpOp_step (o := ⟨some 60, _, _, _, _, _⟩) rfl (fun K' hK' => ?_)
                rw [if_pos (show Region.wanted _ _ = true from rfl)]
                refine op_mapEntry (.map (some w.heap.size)) (.agg (arr32 x.1)) (.tuple #[v0, goInt st]) rfl rfl HMe.out ?_
                refine hK' _ _ ⟨HS13.out, ?_⟩
                clear hK' K'
                simp only [Act.put, List.setIfInBounds_toArray, List.set_cons_succ, List.set_cons_zero]
                refine wpAnyH_take (i := 15) (oi := ⟨some 61, _, _, _, _, _⟩) (v := ?_) rfl (by kernel_rfl) (by kernel_rfl) (by kernel_rfl) (fun _ _ _ h => h) (Or.inl ⟨by rfl, fun w' hw' => by go_simp; with_reducible rfl⟩) HS13.out ?_
                simp only [Act.put, List.setIfInBounds_toArray, List.set_cons_succ, List.set_cons_zero]
                refine wpAnyH_all (rs := [16]) (by kernel_rfl) (by simp) ?_
                intro i hi
                obtain rfl : i = 16 := by simpa using hi
                refine wpOp_step (o := ⟨none, _, _, _, _, _⟩) rfl (fun K' hK' => ?_)
                rw [if_pos (show Region.wanted _ _ = true from rfl)]
                refine op_entryStore (.map (some w.heap.size)) (goInt st) (.int .i64 (up ca ((alikeOf x.1 y.1 : Nat) + 1))) rfl rfl rfl H6a.out ?_
                refine hK' _ _ ⟨HS6.out, ?_⟩
                clear hK' K'
                refine wpAnyH_all (rs := [17]) (by kernel_rfl) (by simp) ?_
                intro i hi
                obtain rfl : i = 17 := by simpa using hi
                refine wpOp_step (o := ⟨none, _, _, _, _, _⟩) rfl (fun K' hK' => ?_)
                rw [if_pos (show Region.wanted _ _ = true from rfl)]
                refine op_mapUpdate (.map (some w.heap.size)) (.agg (arr32 y.1)) (.int .i64 (up cb ((alikeOf x.1 y.1 : Nat) + 1))) rfl rfl rfl H7a.out ?_
                refine hK' _ _ ⟨HS7.out, ?_⟩
                clear hK' K'
                refine wpAnyH_done (by kernel_rfl) ?_ _
                go_wp2
                exact ⟨HFin.out _ (by go_num), by simp [intOf]; omega⟩
              · refine wpOp_step (o := ⟨some 60, _, _, _, _, _⟩) rfl (fun K' hK' => ?_)
                rw [if_pos (show Region.wanted _ _ = true from rfl)]
                refine op_mapEntry (.map (some w.heap.size)) (.agg (arr32 x.1)) (.tuple #[v0, goInt st]) rfl rfl HMe.out ?_
                refine hK' _ _ ⟨HS13.out, ?_⟩
                clear hK' K'
                simp only [Act.put, List.setIfInBounds_toArray, List.set_cons_succ, List.set_cons_zero]
                refine wpAnyH_take (i := 15) (oi := ⟨some 61, _, _, _, _, _⟩) (v := ?_) rfl (by kernel_rfl) (by kernel_rfl) (by kernel_rfl) (fun _ _ _ h => h) (Or.inl ⟨by rfl, fun w' hw' => by go_simp; with_reducible rfl⟩) HS13.out ?_
                simp only [Act.put, List.setIfInBounds_toArray, List.set_cons_succ, List.set_cons_zero]
                refine wpAnyH_all (rs := [6]) (by kernel_rfl) (by simp) ?_
                intro i hi
                obtain rfl : i = 6 := by simpa using hi
                refine wpOp_step (o := ⟨some 52, _, _, _, _, _⟩) rfl (fun K' hK' => ?_)
                rw [if_pos (show Region.wanted _ _ = true from rfl)]
                refine op_lookup (.map (some w.heap.size)) (.agg (arr32 x.1)) (.int .i64 ca) rfl rfl HLa.out ?_
                refine hK' _ _ ⟨HS13.out, ?_⟩
                clear hK' K'
                simp only [Act.put, List.setIfInBounds_toArray, List.set_cons_succ, List.set_cons_zero]
                refine wpAnyH_take (i := 8) (oi := ⟨some 54, _, _, _, _, _⟩) (v := .int .i64 (up ca ((alikeOf x.1 y.1 : Nat) + 1))) rfl (by kernel_rfl) (by kernel_rfl) (by kernel_rfl) (fun _ _ _ h => h) ?y8 HS13.out ?_
                case y8 => exact yieldsIf_max ca ((alikeOf x.1 y.1 : Nat) + 1) rfl rfl
                simp only [Act.put, List.setIfInBounds_toArray, List.set_cons_succ, List.set_cons_zero]
                refine wpAnyH_all (rs := [16]) (by kernel_rfl) (by simp) ?_
                intro i hi
                obtain rfl : i = 16 := by simpa using hi
                refine wpOp_step (o := ⟨none, _, _, _, _, _⟩) rfl (fun K' hK' => ?_)
                rw [if_pos (show Region.wanted _ _ = true from rfl)]
                refine op_entryStore (.map (some w.heap.size)) (goInt st) (.int .i64 (up ca ((alikeOf x.1 y.1 : Nat) + 1))) rfl rfl rfl H6a.out ?_
                refine hK' _ _ ⟨HS6.out, ?_⟩
                clear hK' K'
                refine wpAnyH_all (rs := [17]) (by kernel_rfl) (by simp) ?_
                intro i hi
                obtain rfl : i = 17 := by simpa using hi
                refine wpOp_step (o := ⟨none, _, _, _, _, _⟩) rfl (fun K' hK' => ?_)
                rw [if_pos (show Region.wanted _ _ = true from rfl)]
                refine op_mapUpdate (.map (some w.heap.size)) (.agg (arr32 y.1)) (.int .i64 (up cb ((alikeOf x.1 y.1 : Nat) + 1))) rfl rfl rfl H7a.out ?_
                refine hK' _ _ ⟨HS7.out, ?_⟩
                clear hK' K'
                refine wpAnyH_done (by kernel_rfl) ?_ _
                go_wp2
                exact ⟨HFin.out _ (by go_num), by simp [intOf]; omega⟩
          · refine wpOp_step (o := ⟨some 9, _, _, _, _, _⟩) rfl (fun K' hK' => ?_)
            go_simp
            refine hK' _ _ ⟨HSb.out _ ((Go.RowKit.Below.refl _ wr).alloc (Nat.le_refl _) _).drew, ?_⟩
            refine gen_world (P := fun V => wpAnyH _ _ _ _ _ _ _ _ V) (I := fun V => Go.RowKit.Below wr.heap.size wr V ∧ Has V wr.heap.size 26 zero32) _ ⟨((Go.RowKit.Below.refl _ wr).alloc (Nat.le_refl _) _).drew, (fresh_sum wr).drew⟩ ?_
            rintro V1 ⟨hb1, hf1⟩
            clear hK' K'
            refine wpAnyH_all (rs := [9]) (by kernel_rfl) (by simp) ?_
            intro i hi
            obtain rfl : i = 9 := by simpa using hi
            refine wpOp_step (o := ⟨some 8, _, _, _, _, _⟩) rfl (fun K' hK' => ?_)
            go_simp
            refine hK' _ _ ⟨HSb.out _ (hb1.alloc hb1.size _), ?_⟩
            refine gen_world (P := fun V => wpAnyH _ _ _ _ _ _ _ _ V) (I := fun V => Go.RowKit.Below wr.heap.size wr V ∧ Has V wr.heap.size 26 zero32 ∧ Has V V1.heap.size 26 zero32) _ ⟨hb1.alloc hb1.size _, hf1.alloc _, fresh_sum V1⟩ ?_
            rintro V2 ⟨hbv, h9, h8⟩
            have hne : ¬ wr.heap.size = V1.heap.size := by have := hf1.lt; omega
            have hle := hb1.size
            generalize hp8 : V1.heap.size = p8 at h8 hne ⊢
            generalize hp9 : wr.heap.size = p9 at h9 hne ⊢
            clear hK' K' hb1 hf1
            have hl8 : wr.heap.size ≤ p8 := by omega
            have hl9 : wr.heap.size ≤ p9 := by omega
            have hne2 : ¬ p8 = p9 := by omega
            clear hp8 hp9 hne hle
            refine wpAnyH_all (rs := [11]) (by kernel_rfl) (by simp) ?_
            intro i hi
            obtain rfl : i = 11 := by simpa using hi
            refine wpOp_step (o := ⟨none, _, _, _, _, _⟩) rfl (fun K' hK' => ?_)
            rw [if_pos (show Region.wanted _ _ = true from rfl)]
            refine wp_store_row _ _ _ rfl p8 (arr32 x.1) rfl rfl 26 zero32 h8 HIx.out (zero32_size x.1 (by omega)) (arr32_one _) ?_
            refine hK' _ _ ⟨HSb.out _ (below_setRow hbv hl8 _), ?_⟩
            refine gen_world (P := fun V => wpAnyH _ _ _ _ _ _ _ _ V) (I := fun V => Go.RowKit.Below wr.heap.size wr V ∧ Has V p8 26 (arr32 x.1) ∧ Has V p9 26 zero32) _ ⟨below_setRow hbv hl8 _, h8.setRow, h9.setRow_apart (by omega)⟩ ?_
            clear hbv h8 h9 hK' K'
            rintro V3 ⟨hbv, h8, h9⟩
            refine wpAnyH_all (rs := [12]) (by kernel_rfl) (by simp) ?_
            intro i hi
            obtain rfl : i = 12 := by simpa using hi
            refine wpOp_step (o := ⟨none, _, _, _, _, _⟩) rfl (fun K' hK' => ?_)
            rw [if_pos (show Region.wanted _ _ = true from rfl)]
            refine wp_store_row _ _ _ rfl p9 (arr32 y.1) rfl rfl 26 zero32 h9 HIy.out (zero32_size y.1 (by omega)) (arr32_one _) ?_
            refine hK' _ _ ⟨HSb.out _ (below_setRow hbv hl9 _), ?_⟩
            refine gen_world (P := fun V => wpAnyH _ _ _ _ _ _ _ _ V) (I := fun V => Go.RowKit.Below wr.heap.size wr V ∧ Has V p8 26 (arr32 x.1) ∧ Has V p9 26 (arr32 y.1)) _ ⟨below_setRow hbv hl9 _, h8.setRow_apart (by omega), h9.setRow⟩ ?_
            clear hbv h8 h9 hK' K'
            rintro V4 ⟨hbv, h8, h9⟩
            refine wpAnyH_done (by kernel_rfl) ?_ _
            clear HSb HSS
            have hmb : w.heap.size < wr.heap.size := HM.out.lt
            have HM4 := Lib.hid (ownsMap_same HM.out (hbv.block _ hmb))
            have HO4 := Lib.hid (own_below HO.out hbv)
            have HB4 := Lib.hid (HB.out.trans (hbv.mono HB.out.size))
            have HR8 := Lib.hid h8.row
            have HR9 := Lib.hid h9.row
            have HP8 := Lib.hid h8
            have HP9 := Lib.hid h9
            clear hbv h8 h9 HM HO HB HRx HRy
            have hal : alikeOf x.1 y.1 ≤ 64 := by have := alikeF_le x.1 y.1 64 0; unfold alikeOf; omega
            have hwal : IntKind.i64.wrap (((alikeOf x.1 y.1 : Nat) : Int) + 1) = ((alikeOf x.1 y.1 : Nat) : Int) + 1 := IntWalk.i64_in _ (by omega)
            go_upto_region 13 with (first
              | ((with_reducible refine arm_load (w := V4) ⟨p8, 0, none⟩ _ _ HR8.out Tryd.underlying26 HIx.out ?h1 ?h2 ?_); (case h1 => rfl); (case h2 => rfl))
              | ((with_reducible refine arm_load (w := V4) ⟨p9, 0, none⟩ _ _ HR9.out Tryd.underlying26 HIy.out ?h3 ?h4 ?_); (case h3 => rfl); (case h4 => rfl))
              | (go_at_call 80; refine (alike_any x.1 y.1 x.2.1 y.2.1 x.2.2 y.2.2 V4).mono ?_; rintro e w5 ⟨rfl, hb5⟩; have HM5 := Lib.hid (ownsMap_same HM4.out (hb5.block _ HM4.out.lt)); have HO5 := Lib.hid (own_below HO4.out hb5); have HB5 := Lib.hid (HB4.out.trans (hb5.mono HB4.out.size)); have HP85 := Lib.hid (HP8.out.below hb5 HP8.out.lt).row; have HP95 := Lib.hid (HP9.out.below hb5 HP9.out.lt).row; clear hb5))
            have hmlt : w.heap.size < p8 ∧ w.heap.size < p9 := ⟨by omega, by omega⟩
            obtain ⟨ca, hla, hata, hwa⟩ := (HM5.out.drew).lookup_int sum_keyed Tryd.underlying114 Tryd.underlying3 (Tryd.zeroValue3 _) (sum_keyOf x.1 x.2.1 x.2.2)
            obtain ⟨cb, hlb, hatb, hwb⟩ := (HM5.out.drew).lookup_int sum_keyed Tryd.underlying114 Tryd.underlying3 (Tryd.zeroValue3 _) (sum_keyOf y.1 y.2.1 y.2.2)
            obtain ⟨v0, st, hme, hst⟩ := entry_here (HM5.out.drew) sum_law sum_keyed Tryd.underlying114 Tryd.zeroValue3 (by unfold maxLen; omega) (sum_keyOf x.1 x.2.1 x.2.2) hHx
            have hwua : (Lit.int .i64 (up ca ((alikeOf x.1 y.1 : Nat) + 1))).wf = true := up_wf hwa hal
            have hwub : (Lit.int .i64 (up cb ((alikeOf x.1 y.1 : Nat) + 1))).wf = true := up_wf hwb hal
            obtain ⟨w6, h6a, h6b, h6c⟩ := hst w5.drew (.int .i64 (up ca ((alikeOf x.1 y.1 : Nat) + 1))) _ _ rfl (elemN_int _ hwua)
            obtain ⟨w7, h7a, h7b, h7c⟩ := h6b.update sum_keyed Tryd.underlying114 (by unfold maxLen; omega) (sum_keyOf y.1 y.2.1 y.2.2) (elemN_int _ hwub)
            have hea : getN D (sumLit x.1) = ca := by unfold getN litN; rw [hata]
            have heb : getN D (sumLit y.1) = cb := by unfold getN litN; rw [hatb]
            have hraise : raise D x y = (D.put (sumLit x.1) (litN (up ca ((alikeOf x.1 y.1 : Nat) + 1)))).put (sumLit y.1) (litN (up cb ((alikeOf x.1 y.1 : Nat) + 1))) := by rw [raise, hea, heb]
            rw [← hraise, ← HStep.out] at h7b
            have hhas : Hid (∀ d ∈ rs, Maps.has (raiseTo rs (needOf ls) (k + 1)) (sumLit d.1) = true) := Lib.hid fun d hd => by
              rw [HStep.out, hraise]
              exact has_put_mono h6b.isMap (sum_keyed.key (sum_keyOf y.1 y.2.1 y.2.2)) _ (has_put_mono HM5.out.isMap (sum_keyed.key (sum_keyOf x.1 x.2.1 x.2.2)) _ (HD.out ▸ HH.out d hd))
            have hbel : Go.RowKit.Below w.heap.size w w7 := (HB5.out.drew.grown h6c HB5.out.size (fun j e => by cases e; exact Nat.le_refl _)).grown h7c (Nat.le_trans HB5.out.size h6c.size) (fun j e => by cases e; exact Nat.le_refl _)
            have hown7 : w7.ownsRow (base) 26 32 (.slice (some ⟨g2, 0, none⟩) ys.length c2) ys.length (digCells rs) := (HO5.out.drew.kept h6c (.inr (fun e => by have : g2 = w.heap.size := Option.some.inj e; omega))).kept h7c (.inr (fun e => by have : g2 = w.heap.size := Option.some.inj e; omega))
            have HFin : Hid (∀ i : Value, i = .int .i64 ((k + 1 : Nat) : Int) → ∃ k' : Nat, 1 ≤ k' ∧ (k' ≤ ys.length ∨ k' = 1) ∧ i = .int .i64 k' ∧ w7.ownsMap Tryd.prog 26 elemN w.heap.size (ls.length + 2 * k') (raiseTo rs (needOf ls) k') ∧ w7.ownsRow (base) 26 32 (.slice (some ⟨g2, 0, none⟩) ys.length c2) ys.length (digCells rs) ∧ Go.RowKit.Below w.heap.size w w7 ∧ Hid (∀ d ∈ rs, Maps.has (raiseTo rs (needOf ls) k') (sumLit d.1) = true)) := Lib.hid fun i hi => ⟨k + 1, by omega, .inl (by omega), hi, by simpa [Nat.mul_add, Nat.add_assoc] using h7b, hown7, hbel, hhas⟩
            have HLa := Lib.hid hla
            have HLb := Lib.hid hlb
            have HMe := Lib.hid hme
            have H6a := Lib.hid h6a
            have H7a := Lib.hid h7a
            have HS13 : Hid (SS p8 p9 x y w5.drew) := Lib.hid ⟨HP85.out, HP95.out⟩
            have HS6 : Hid (SS p8 p9 x y w6) := Lib.hid ⟨fun j u hj => h6c.cell (HP85.out j u hj) (fun e => by rw [Addr.add_lit] at e; have : p8 = w.heap.size := Option.some.inj e; omega), fun j u hj => h6c.cell (HP95.out j u hj) (fun e => by rw [Addr.add_lit] at e; have : p9 = w.heap.size := Option.some.inj e; omega)⟩
            have HS7 : Hid (SS p8 p9 x y w7) := Lib.hid ⟨fun j u hj => h7c.cell (HS6.out.1 j u hj) (fun e => by rw [Addr.add_lit] at e; have : p8 = w.heap.size := Option.some.inj e; omega), fun j u hj => h7c.cell (HS6.out.2 j u hj) (fun e => by rw [Addr.add_lit] at e; have : p9 = w.heap.size := Option.some.inj e; omega)⟩
            clear hla hlb hme hst h6a h6b h6c h7a h7b h7c hata hatb hea heb hraise hhas hbel hown7 hwa hwb hwua hwub HM5 HO5 HB5 HP85 HP95 HH hHx hHy
            refine wp_region_held (S := SS p8 p9 x y) (by kernel_rfl) ?_
            refine wpAnyH_take (i := 0) (oi := ⟨some 46, _, _, _, _, _⟩) (v := ?_) rfl (by kernel_rfl) (by kernel_rfl) (by kernel_rfl) (fun _ _ _ h => h) (Or.inl ⟨by rfl, fun w' hw' => by go_simp; with_reducible rfl⟩) HS13.out ?_
            simp only [Act.put, List.setIfInBounds_toArray, List.set_cons_succ, List.set_cons_zero]
            refine wpAnyH_take (i := 1) (oi := ⟨some 47, _, _, _, _, _⟩) (v := .agg (arr32 x.1)) rfl (by kernel_rfl) (by kernel_rfl) (by kernel_rfl) (fun _ _ _ h => h) ?y1 HS13.out ?_
            case y1 => exact yieldsIf_load ⟨p8, 0, none⟩ _ _ (fun w hw => hw.1) Tryd.underlying26 HIx.out rfl rfl
            simp only [Act.put, List.setIfInBounds_toArray, List.set_cons_succ, List.set_cons_zero]
            refine wpAnyH_take (i := 2) (oi := ⟨some 48, _, _, _, _, _⟩) (v := ?_) rfl (by kernel_rfl) (by kernel_rfl) (by kernel_rfl) (fun _ _ _ h => h) (Or.inl ⟨by rfl, fun w' hw' => by go_simp; with_reducible rfl⟩) HS13.out ?_
            simp only [Act.put, List.setIfInBounds_toArray, List.set_cons_succ, List.set_cons_zero]
            refine wpAnyH_take (i := 3) (oi := ⟨some 49, _, _, _, _, _⟩) (v := .agg (arr32 y.1)) rfl (by kernel_rfl) (by kernel_rfl) (by kernel_rfl) (fun _ _ _ h => h) ?y3 HS13.out ?_
            case y3 => exact yieldsIf_load ⟨p9, 0, none⟩ _ _ (fun w hw => hw.2) Tryd.underlying26 HIy.out rfl rfl
            simp only [Act.put, List.setIfInBounds_toArray, List.set_cons_succ, List.set_cons_zero]
            refine wpAnyH_take (i := 4) (oi := ⟨some 50, _, _, _, _, _⟩) (v := ?_) rfl (by kernel_rfl) (by kernel_rfl) (by kernel_rfl) (fun _ _ _ h => h) (Or.inl ⟨by rfl, fun w' hw' => by go_simp; with_reducible rfl⟩) HS13.out ?_
            simp only [Act.put, List.setIfInBounds_toArray, List.set_cons_succ, List.set_cons_zero]
            refine wpAnyH_take (i := 5) (oi := ⟨some 51, _, _, _, _, _⟩) (v := .agg (arr32 x.1)) rfl (by kernel_rfl) (by kernel_rfl) (by kernel_rfl) (fun _ _ _ h => h) ?y5 HS13.out ?_
            case y5 => exact yieldsIf_load ⟨p8, 0, none⟩ _ _ (fun w hw => hw.1) Tryd.underlying26 HIx.out rfl rfl
            simp only [Act.put, List.setIfInBounds_toArray, List.set_cons_succ, List.set_cons_zero]
            refine wpAnyH_take (i := 7) (oi := ⟨some 53, _, _, _, _, _⟩) (v := ?_) rfl (by kernel_rfl) (by kernel_rfl) (by kernel_rfl) (fun _ _ _ h => h) (Or.inl ⟨by rfl, fun w' hw' => by go_simp; with_reducible rfl⟩) HS13.out ?_
            simp only [Act.put, List.setIfInBounds_toArray, List.set_cons_succ, List.set_cons_zero]
            refine wpAnyH_take (i := 9) (oi := ⟨some 55, _, _, _, _, _⟩) (v := ?_) rfl (by kernel_rfl) (by kernel_rfl) (by kernel_rfl) (fun _ _ _ h => h) (Or.inl ⟨by rfl, fun w' hw' => by go_simp; with_reducible rfl⟩) HS13.out ?_
            simp only [Act.put, List.setIfInBounds_toArray, List.set_cons_succ, List.set_cons_zero]
            refine wpAnyH_take (i := 10) (oi := ⟨some 56, _, _, _, _, _⟩) (v := .agg (arr32 y.1)) rfl (by kernel_rfl) (by kernel_rfl) (by kernel_rfl) (fun _ _ _ h => h) ?y10 HS13.out ?_
            case y10 => exact yieldsIf_load ⟨p9, 0, none⟩ _ _ (fun w hw => hw.2) Tryd.underlying26 HIy.out rfl rfl
            simp only [Act.put, List.setIfInBounds_toArray, List.set_cons_succ, List.set_cons_zero]
            refine wpAnyH_take (i := 12) (oi := ⟨some 58, _, _, _, _, _⟩) (v := ?_) rfl (by kernel_rfl) (by kernel_rfl) (by kernel_rfl) (fun _ _ _ h => h) (Or.inl ⟨by rfl, fun w' hw' => by go_simp; with_reducible rfl⟩) HS13.out ?_
            simp only [Act.put, List.setIfInBounds_toArray, List.set_cons_succ, List.set_cons_zero]
            refine wpAnyH_all (rs := [6, 11]) (by kernel_rfl) (by simp) ?_
            intro i hi
            have hi2 : i = 6 ∨ i = 11 := by simpa using hi
            rcases hi2 with rfl | rfl
            · refine wpOp_step (o := ⟨some 52, _, _, _, _, _⟩) rfl (fun K' hK' => ?_)
              rw [if_pos (show Region.wanted _ _ = true from rfl)]
              refine op_lookup (.map (some w.heap.size)) (.agg (arr32 x.1)) (.int .i64 ca) rfl rfl HLa.out ?_
              refine hK' _ _ ⟨HS13.out, ?_⟩
              clear hK' K'
              simp only [Act.put, List.setIfInBounds_toArray, List.set_cons_succ, List.set_cons_zero]
              refine wpAnyH_take (i := 8) (oi := ⟨some 54, _, _, _, _, _⟩) (v := .int .i64 (up ca ((alikeOf x.1 y.1 : Nat) + 1))) rfl (by kernel_rfl) (by kernel_rfl) (by kernel_rfl) (fun _ _ _ h => h) ?y8 HS13.out ?_
              case y8 => exact yieldsIf_max ca ((alikeOf x.1 y.1 : Nat) + 1) rfl rfl
              simp only [Act.put, List.setIfInBounds_toArray, List.set_cons_succ, List.set_cons_zero]
              refine wpAnyH_all (rs := [11]) (by kernel_rfl) (by simp) ?_
              intro i hi
              obtain rfl : i = 11 := by simpa using hi
              refine wpOp_step (o := ⟨some 57, _, _, _, _, _⟩) rfl (fun K' hK' => ?_)
              rw [if_pos (show Region.wanted _ _ = true from rfl)]
              refine op_lookup (.map (some w.heap.size)) (.agg (arr32 y.1)) (.int .i64 cb) rfl rfl HLb.out ?_
              refine hK' _ _ ⟨HS13.out, ?_⟩
              clear hK' K'
              simp only [Act.put, List.setIfInBounds_toArray, List.set_cons_succ, List.set_cons_zero]
              refine wpAnyH_take (i := 13) (oi := ⟨some 59, _, _, _, _, _⟩) (v := .int .i64 (up cb ((alikeOf x.1 y.1 : Nat) + 1))) rfl (by kernel_rfl) (by kernel_rfl) (by kernel_rfl) (fun _ _ _ h => h) ?y13 HS13.out ?_
              case y13 => exact yieldsIf_max cb ((alikeOf x.1 y.1 : Nat) + 1) rfl rfl
              simp only [Act.put, List.setIfInBounds_toArray, List.set_cons_succ, List.set_cons_zero]
              refine wpAnyH_all (rs := [14]) (by kernel_rfl) (by simp) ?_
              intro i hi
              obtain rfl : i = 14 := by simpa using hi
              refine wpOp_step (o := ⟨some 60, _, _, _, _, _⟩) rfl (fun K' hK' => ?_)
              rw [if_pos (show Region.wanted _ _ = true from rfl)]
              refine op_mapEntry (.map (some w.heap.size)) (.agg (arr32 x.1)) (.tuple #[v0, goInt st]) rfl rfl HMe.out ?_
              refine hK' _ _ ⟨HS13.out, ?_⟩
              clear hK' K'
              simp only [Act.put, List.setIfInBounds_toArray, List.set_cons_succ, List.set_cons_zero]
              refine wpAnyH_take (i := 15) (oi := ⟨some 61, _, _, _, _, _⟩) (v := ?_) rfl (by kernel_rfl) (by kernel_rfl) (by kernel_rfl) (fun _ _ _ h => h) (Or.inl ⟨by rfl, fun w' hw' => by go_simp; with_reducible rfl⟩) HS13.out ?_
              simp only [Act.put, List.setIfInBounds_toArray, List.set_cons_succ, List.set_cons_zero]
              refine wpAnyH_all (rs := [16]) (by kernel_rfl) (by simp) ?_
              intro i hi
              obtain rfl : i = 16 := by simpa using hi
              refine wpOp_step (o := ⟨none, _, _, _, _, _⟩) rfl (fun K' hK' => ?_)
              rw [if_pos (show Region.wanted _ _ = true from rfl)]
              refine op_entryStore (.map (some w.heap.size)) (goInt st) (.int .i64 (up ca ((alikeOf x.1 y.1 : Nat) + 1))) rfl rfl rfl H6a.out ?_
              refine hK' _ _ ⟨HS6.out, ?_⟩
              clear hK' K'
              refine wpAnyH_all (rs := [17]) (by kernel_rfl) (by simp) ?_
              intro i hi
              obtain rfl : i = 17 := by simpa using hi
              refine wpOp_step (o := ⟨none, _, _, _, _, _⟩) rfl (fun K' hK' => ?_)
              rw [if_pos (show Region.wanted _ _ = true from rfl)]
              refine op_mapUpdate (.map (some w.heap.size)) (.agg (arr32 y.1)) (.int .i64 (up cb ((alikeOf x.1 y.1 : Nat) + 1))) rfl rfl rfl H7a.out ?_
              refine hK' _ _ ⟨HS7.out, ?_⟩
              clear hK' K'
              refine wpAnyH_done (by kernel_rfl) ?_ _
              go_wp2
              exact ⟨HFin.out _ (by go_num), by simp [intOf]; omega⟩
            · refine wpOp_step (o := ⟨some 57, _, _, _, _, _⟩) rfl (fun K' hK' => ?_)
              rw [if_pos (show Region.wanted _ _ = true from rfl)]
              refine op_lookup (.map (some w.heap.size)) (.agg (arr32 y.1)) (.int .i64 cb) rfl rfl HLb.out ?_
              refine hK' _ _ ⟨HS13.out, ?_⟩
              clear hK' K'
              simp only [Act.put, List.setIfInBounds_toArray, List.set_cons_succ, List.set_cons_zero]
              refine wpAnyH_take (i := 13) (oi := ⟨some 59, _, _, _, _, _⟩) (v := .int .i64 (up cb ((alikeOf x.1 y.1 : Nat) + 1))) rfl (by kernel_rfl) (by kernel_rfl) (by kernel_rfl) (fun _ _ _ h => h) ?y13 HS13.out ?_
              case y13 => exact yieldsIf_max cb ((alikeOf x.1 y.1 : Nat) + 1) rfl rfl
              simp only [Act.put, List.setIfInBounds_toArray, List.set_cons_succ, List.set_cons_zero]
              refine wpAnyH_all (rs := [6, 14]) (by kernel_rfl) (by simp) ?_
              intro i hi
              have hi2 : i = 6 ∨ i = 14 := by simpa using hi
              rcases hi2 with rfl | rfl
              · refine wpOp_step (o := ⟨some 52, _, _, _, _, _⟩) rfl (fun K' hK' => ?_)
                rw [if_pos (show Region.wanted _ _ = true from rfl)]
                refine op_lookup (.map (some w.heap.size)) (.agg (arr32 x.1)) (.int .i64 ca) rfl rfl HLa.out ?_
                refine hK' _ _ ⟨HS13.out, ?_⟩
                clear hK' K'
                simp only [Act.put, List.setIfInBounds_toArray, List.set_cons_succ, List.set_cons_zero]
                refine wpAnyH_take (i := 8) (oi := ⟨some 54, _, _, _, _, _⟩) (v := .int .i64 (up ca ((alikeOf x.1 y.1 : Nat) + 1))) rfl (by kernel_rfl) (by kernel_rfl) (by kernel_rfl) (fun _ _ _ h => h) ?y8 HS13.out ?_
                case y8 => exact yieldsIf_max ca ((alikeOf x.1 y.1 : Nat) + 1) rfl rfl
                simp only [Act.put, List.setIfInBounds_toArray, List.set_cons_succ, List.set_cons_zero]
                refine wpAnyH_all (rs := [14]) (by kernel_rfl) (by simp) ?_
                intro i hi
                obtain rfl : i = 14 := by simpa using hi
                refine wpOp_step (o := ⟨some 60, _, _, _, _, _⟩) rfl (fun K' hK' => ?_)
                rw [if_pos (show Region.wanted _ _ = true from rfl)]
                refine op_mapEntry (.map (some w.heap.size)) (.agg (arr32 x.1)) (.tuple #[v0, goInt st]) rfl rfl HMe.out ?_
                refine hK' _ _ ⟨HS13.out, ?_⟩
                clear hK' K'
                simp only [Act.put, List.setIfInBounds_toArray, List.set_cons_succ, List.set_cons_zero]
                refine wpAnyH_take (i := 15) (oi := ⟨some 61, _, _, _, _, _⟩) (v := ?_) rfl (by kernel_rfl) (by kernel_rfl) (by kernel_rfl) (fun _ _ _ h => h) (Or.inl ⟨by rfl, fun w' hw' => by go_simp; with_reducible rfl⟩) HS13.out ?_
                simp only [Act.put, List.setIfInBounds_toArray, List.set_cons_succ, List.set_cons_zero]
                refine wpAnyH_all (rs := [16]) (by kernel_rfl) (by simp) ?_
                intro i hi
                obtain rfl : i = 16 := by simpa using hi
                refine wpOp_step (o := ⟨none, _, _, _, _, _⟩) rfl (fun K' hK' => ?_)
                rw [if_pos (show Region.wanted _ _ = true from rfl)]
                refine op_entryStore (.map (some w.heap.size)) (goInt st) (.int .i64 (up ca ((alikeOf x.1 y.1 : Nat) + 1))) rfl rfl rfl H6a.out ?_
                refine hK' _ _ ⟨HS6.out, ?_⟩
                clear hK' K'
                refine wpAnyH_all (rs := [17]) (by kernel_rfl) (by simp) ?_
                intro i hi
                obtain rfl : i = 17 := by simpa using hi
                refine wpOp_step (o := ⟨none, _, _, _, _, _⟩) rfl (fun K' hK' => ?_)
                rw [if_pos (show Region.wanted _ _ = true from rfl)]
                refine op_mapUpdate (.map (some w.heap.size)) (.agg (arr32 y.1)) (.int .i64 (up cb ((alikeOf x.1 y.1 : Nat) + 1))) rfl rfl rfl H7a.out ?_
                refine hK' _ _ ⟨HS7.out, ?_⟩
                clear hK' K'
                refine wpAnyH_done (by kernel_rfl) ?_ _
                go_wp2
                exact ⟨HFin.out _ (by go_num), by simp [intOf]; omega⟩
              · refine wpOp_step (o := ⟨some 60, _, _, _, _, _⟩) rfl (fun K' hK' => ?_)
                rw [if_pos (show Region.wanted _ _ = true from rfl)]
                refine op_mapEntry (.map (some w.heap.size)) (.agg (arr32 x.1)) (.tuple #[v0, goInt st]) rfl rfl HMe.out ?_
                refine hK' _ _ ⟨HS13.out, ?_⟩
                clear hK' K'
                simp only [Act.put, List.setIfInBounds_toArray, List.set_cons_succ, List.set_cons_zero]
                refine wpAnyH_take (i := 15) (oi := ⟨some 61, _, _, _, _, _⟩) (v := ?_) rfl (by kernel_rfl) (by kernel_rfl) (by kernel_rfl) (fun _ _ _ h => h) (Or.inl ⟨by rfl, fun w' hw' => by go_simp; with_reducible rfl⟩) HS13.out ?_
                simp only [Act.put, List.setIfInBounds_toArray, List.set_cons_succ, List.set_cons_zero]
                refine wpAnyH_all (rs := [6]) (by kernel_rfl) (by simp) ?_
                intro i hi
                obtain rfl : i = 6 := by simpa using hi
                refine wpOp_step (o := ⟨some 52, _, _, _, _, _⟩) rfl (fun K' hK' => ?_)
                rw [if_pos (show Region.wanted _ _ = true from rfl)]
                refine op_lookup (.map (some w.heap.size)) (.agg (arr32 x.1)) (.int .i64 ca) rfl rfl HLa.out ?_
                refine hK' _ _ ⟨HS13.out, ?_⟩
                clear hK' K'
                simp only [Act.put, List.setIfInBounds_toArray, List.set_cons_succ, List.set_cons_zero]
                refine wpAnyH_take (i := 8) (oi := ⟨some 54, _, _, _, _, _⟩) (v := .int .i64 (up ca ((alikeOf x.1 y.1 : Nat) + 1))) rfl (by kernel_rfl) (by kernel_rfl) (by kernel_rfl) (fun _ _ _ h => h) ?y8 HS13.out ?_
                case y8 => exact yieldsIf_max ca ((alikeOf x.1 y.1 : Nat) + 1) rfl rfl
                simp only [Act.put, List.setIfInBounds_toArray, List.set_cons_succ, List.set_cons_zero]
                refine wpAnyH_all (rs := [16]) (by kernel_rfl) (by simp) ?_
                intro i hi
                obtain rfl : i = 16 := by simpa using hi
                refine wpOp_step (o := ⟨none, _, _, _, _, _⟩) rfl (fun K' hK' => ?_)
                rw [if_pos (show Region.wanted _ _ = true from rfl)]
                refine op_entryStore (.map (some w.heap.size)) (goInt st) (.int .i64 (up ca ((alikeOf x.1 y.1 : Nat) + 1))) rfl rfl rfl H6a.out ?_
                refine hK' _ _ ⟨HS6.out, ?_⟩
                clear hK' K'
                refine wpAnyH_all (rs := [17]) (by kernel_rfl) (by simp) ?_
                intro i hi
                obtain rfl : i = 17 := by simpa using hi
                refine wpOp_step (o := ⟨none, _, _, _, _, _⟩) rfl (fun K' hK' => ?_)
                rw [if_pos (show Region.wanted _ _ = true from rfl)]
                refine op_mapUpdate (.map (some w.heap.size)) (.agg (arr32 y.1)) (.int .i64 (up cb ((alikeOf x.1 y.1 : Nat) + 1))) rfl rfl rfl H7a.out ?_
                refine hK' _ _ ⟨HS7.out, ?_⟩
                clear hK' K'
                refine wpAnyH_done (by kernel_rfl) ?_ _
                go_wp2
                exact ⟨HFin.out _ (by go_num), by simp [intOf]; omega⟩
        · have hkm : k = max 1 ys.length := by omega
          rw [hkm] at hM
          obtain ⟨D, hD⟩ : ∃ D, D = raiseTo rs (needOf ls) (max 1 ys.length) := ⟨_, rfl⟩
          rw [← hD] at hM
          obtain ⟨i1, hi1, hq0, hq1, hq2⟩ := info_parts intInfo3
          have hmlt : w.heap.size < wr.heap.size := hM.lt
          have hbs := hB.size
          have HM := Lib.hid hM
          have HB := Lib.hid hB
          have HDD := Lib.hid hD
          clear hM hO hB HH hD hkm hk1 hk2
          go_wp2_with (at_make; refine wpList_make_row _ rfl _ _ 68 rfl 3 i1 (.int .i64 0) Tryd.underlying68 hi1 hq0 hq1 rfl .i64 .i64 ls.length rfl rfl (by rw [hq2]; omega) (by omega) ?_)
          have HG : Hid (Has (wr.alloc (.cells (madeCells #[.int .i64 0] ls.length) 3)) wr.heap.size 3 (madeCells #[.int .i64 0] ls.length)) := Lib.hid (Has.fresh wr _ _)
          have HMA := Lib.hid (HM.out.alloc (.cells (madeCells #[.int .i64 0] ls.length) 3))
          have HBA := Lib.hid (HB.out.alloc HB.out.size (.cells (madeCells #[.int .i64 0] ls.length) 3))
          generalize hG : wr.heap.size = G at HG hmlt hbs ⊢
          clear hG HM HB
          go_loopw [67] (fun i wr3 => ∃ (k3 : Nat) (cs : Array Value), k3 ≤ ls.length ∧ i = .int .i64 k3 ∧ cs.size = ls.length ∧ Has wr3 G 3 cs ∧ Hid (∀ j x, j < k3 → ls[j]? = some x → cs[j]? = some (.int .i64 (getN D (sumLit x.1)))) ∧ wr3.ownsMap Tryd.prog 26 elemN w.heap.size (ls.length + 2 * max 1 ys.length) D ∧ Go.RowKit.Below w.heap.size w wr3) (fun i _ => ls.length - (intOf i).toNat)
          case atStart => exact ⟨0, _, Nat.zero_le _, rfl, size_madeCells _ _, HG.out, Lib.hid (fun j x hj => by omega), HMA.out, HBA.out⟩
          case round =>
            obtain ⟨k3, cs, hk3, rfl, hcs, hR, HV, hM, hB⟩ := hrel
            by_cases hlt : k3 < ls.length
            · obtain ⟨x, hx⟩ : ∃ x, ls[k3]? = some x := ⟨_, List.getElem?_eq_getElem hlt⟩
              have hx2 : (ls.map (·.1))[k3]? = some x.1 := by rw [List.getElem?_map, hx]; rfl
              have hxl := x.2.1
              rcases HS.out with ⟨_, he, _⟩ | ⟨g, off, rfl, hg, hss, _, _⟩
              · rw [he] at hx2; simp at hx2
              have HRow := Lib.hid ((hss.below hg hB).row hx2)
              clear hss
              have HI := Lib.hid (arr32_info x.1 (by omega))
              have HSz := Lib.hid (zero32_size x.1 (by omega))
              have HF := Lib.hid (fresh_sum wr)
              have hml : w.heap.size < wr.heap.size := hM.lt
              have hgl := hR.lt
              have HR := Lib.hid hR
              have HM := Lib.hid hM
              have HB := Lib.hid hB
              have HKey := Lib.hid (sum_keyOf x.1 x.2.1 x.2.2)
              have HX := Lib.hid hx
              obtain ⟨u0, hu0⟩ : ∃ u0, cs[k3]? = some u0 := ⟨_, Array.getElem?_eq_getElem (by omega)⟩
              have HU := Lib.hid hu0
              clear hM hB hR hx hx2 hu0
              go_upto_region 18 with (first
                | ((with_reducible refine arm_load (w := wr) ⟨g, off + k3 * 32, none⟩ _ _ HRow.out Tryd.underlying26 HI.out ?h1 ?h2 ?_); (case h1 => rfl); (case h2 => rfl))
                | ((with_reducible refine arm_store wr.heap.size (arr32 x.1) 26 zero32 HF.out HSz.out HI.out (arr32_one _) ?h5 ?h6 ?_); (case h5 => rfl); (case h6 => rfl)))
              refine gen_world (P := fun W => Code.wp _ _ _ _ W) (I := fun V => Go.RowKit.Below wr.heap.size wr V ∧ Has V wr.heap.size 26 (arr32 x.1)) _ ⟨below_setRow ((Go.RowKit.Below.refl _ wr).alloc (Nat.le_refl _) _) (Nat.le_refl _) _, HF.out.setRow⟩ ?_
              rintro V ⟨hBV, hXV⟩
              have hRV : Has V G 3 cs := HR.out.below hBV hgl
              have c0 : V.cell? ⟨G, k3, none⟩ = some u0 := (hRV.cell k3).trans HU.out
              have f0 : V.frozen? ⟨G, k3, none⟩ = false := hRV.free k3
              have HRV := Lib.hid hRV
              have HMV := Lib.hid (ownsMap_same HM.out (hBV.block _ hml))
              have HBV := Lib.hid (HB.out.trans (hBV.mono HB.out.size))
              have HXV := Lib.hid hXV.row
              clear hBV hXV hRV
              go_wp2_with (first
                | ((with_reducible refine arm_load (w := V) ⟨wr.heap.size, 0, none⟩ _ _ HXV.out Tryd.underlying26 HI.out ?h3 ?h4 ?_); (case h3 => rfl); (case h4 => rfl))
                | (at_lookup; refine wpList_lookup_own_int _ rfl _ _ 114 rfl 26 3 .i64 sum_keyed Tryd.underlying114 Tryd.underlying3 (Tryd.zeroValue3 _) w.heap.size _ D rfl HMV.out _ (sumLit x.1) rfl HKey.out ?_; intro cx hatx hwx; have HAt := Lib.hid hatx; clear hatx hwx))
              have hget : getN D (sumLit x.1) = cx := by unfold getN litN; rw [HAt.out]
              refine ⟨⟨k3 + 1, cs.setIfInBounds k3 (.int .i64 cx), by omega, by go_num, by simpa using hcs, HRV.out.put k3 _, Lib.hid (fun j y hj hy => ?_), ownsMap_same HMV.out ?_, HBV.out.setCell (by simp; omega) _⟩, by simp [intOf]; omega⟩
              · by_cases hjk : j = k3
                · subst hjk
                  rw [HX.out] at hy
                  cases hy
                  rw [Array.getElem?_setIfInBounds_self_of_lt (by omega), hget]
                · rw [Array.getElem?_setIfInBounds_ne (Ne.symm hjk)]
                  exact HV.out j y (by omega) hy
              · exact Below.heap_setCell _ _ _ _ (by simp; omega)
            · obtain rfl : k3 = ls.length := by omega
              have HR := Lib.hid hR
              have HM := Lib.hid hM
              have HB := Lib.hid hB
              have hgl := hR.lt
              clear hM hB hR
              go_wp2
              go_ret
              refine ⟨_, ys, rfl, HSY.out, ?_, HB.out⟩
              have hcl : cs.toList = ls.map fun x => .int .i64 (getN (raiseTo (rising ys) (needOf ls) (max 1 ys.length)) (sumLit x.1)) := by
                apply List.ext_getElem? 
                intro j
                by_cases hj : j < ls.length
                · rw [Array.getElem?_toList, HV.out j ls[j] hj (List.getElem?_eq_getElem hj), List.getElem?_map, List.getElem?_eq_getElem hj, HDD.out, HRs.out]
                  rfl
                · rw [List.getElem?_eq_none (by simpa [hcs] using hj), List.getElem?_eq_none (by simpa using hj)]
              refine ⟨by simp, .inr ⟨G, ls.length, cs, rfl, by omega, HR.out, Nat.le_refl _, by unfold maxLen; omega, by omega, ?_⟩⟩
              rw [← hcl, Nat.mul_one, ← hcs, ← Array.length_toList, List.take_length]
end Go.Proofs.YtcocljghoiacmaaDoor
end
section
namespace Go.Proofs.YtcocljghoiacmaaDoor
open Go.RowKit Go.Hoar
def digOf (c : Nat) : Int := if IsDig c then (valOf c : Nat) else -1
theorem digOf_letter (k : Nat) (hk : k < 16) : digOf (letter k) = k := by
  have : ∀ k, k < 16 → digOf (letter k) = k := by decide
  exact this k hk
theorem digOf_none (c : Nat) (h : ∀ j, j < 16 → letter j ≠ c) : digOf c = -1 := by
  have e : ∀ j, j < 16 → letter j ≠ c := h
  unfold digOf
  rw [if_neg]
  intro hd
  unfold IsDig at hd
  rcases hd with ⟨h1, h2⟩ | ⟨h1, h2⟩
  · exact e (c - 48) (by omega) (by unfold letter; rw [if_pos (by omega)]; omega)
  · exact e (c - 87) (by omega) (by unfold letter; rw [if_neg (by omega)]; omega)
theorem index_letter (k : Nat) (hk : k < 16) (w : World) : (Instr.index 9 (.string ⟨#[48, 49, 50, 51, 52, 53, 54, 55, 56, 57, 97, 98, 99, 100, 101, 102]⟩) (.int .i64 (k : Int))).run Tryd.prog w = .ok (.int .u8 ((letter k : Nat) : Int)) w := by
  obtain rfl | rfl | rfl | rfl | rfl | rfl | rfl | rfl | rfl | rfl | rfl | rfl | rfl | rfl | rfl | rfl : k = 0 ∨ k = 1 ∨ k = 2 ∨ k = 3 ∨ k = 4 ∨ k = 5 ∨ k = 6 ∨ k = 7 ∨ k = 8 ∨ k = 9 ∨ k = 10 ∨ k = 11 ∨ k = 12 ∨ k = 13 ∨ k = 14 ∨ k = 15 := by omega
  all_goals kernel_rfl
set_option maxRecDepth 100000 in
set_option maxHeartbeats 2000000 in
theorem refDigit_any (c : Nat) (_hc : c < 256) (w : World) : Calls Tryd.prog 64 #[.int .u8 (c : Int)] w fun e w' => e = .returned (.int .i64 (digOf c)) ∧ w' = w := by
  go_enter Tryd.func64, Tryd.ntmps64
  go_wp2
  go_loop [3] (fun i => ∃ k : Nat, k ≤ 16 ∧ i = .int .i64 k ∧ Hid (∀ j, j < k → letter j ≠ c)) (fun i => 16 - (intOf i).toNat)
  case atStart => exact ⟨0, Nat.zero_le _, rfl, Lib.hid (fun j hj => absurd hj (Nat.not_lt_zero _))⟩
  case round =>
    obtain ⟨k, hk, rfl, HN⟩ := hrel
    by_cases hlt : k < 16
    · have hix := index_letter k hlt
      obtain ⟨d, hd⟩ : ∃ d, d = letter k := ⟨_, rfl⟩
      rw [← hd] at hix
      by_cases hq : d = c
      · have hr : digOf c = k := by rw [← hq, hd]; exact digOf_letter k hlt
        have HR := Lib.hid hr
        have HD := Lib.hid hd
        clear hr hd
        have hb : (((d : Nat) : Int) == (c : Int)) = true := by rw [hq]; exact beq_self_eq_true _
        clear hq
        go_wp2
        go_ret
        exact ⟨by rw [HR.out]; rfl, rfl⟩
      · have HN2 : Hid (∀ j, j < k + 1 → letter j ≠ c) := Lib.hid fun j hj => by
          rcases Nat.lt_or_ge j k with h | h
          · exact HN.out j h
          · obtain rfl : j = k := by omega
            rw [← hd]
            exact hq
        have HD := Lib.hid hd
        clear hd
        have hb : (((d : Nat) : Int) == (c : Int)) = false := by rw [beq_eq_false_iff_ne]; omega
        clear hq
        go_wp2
        go_round
        case rel => exact ⟨k + 1, by omega, by go_num, HN2⟩
        case measure => simp [intOf]; omega
    · have HR := Lib.hid (digOf_none c (fun j hj => HN.out j (by omega)))
      go_wp2
      go_ret
      exact ⟨by rw [HR.out]; rfl, rfl⟩
end Go.Proofs.YtcocljghoiacmaaDoor
end
section
namespace Go.Proofs.YtcocljghoiacmaaDoor
open Go.RowKit Go.Hoar
def str (l : List Nat) : ByteArray := ⟨(l.map UInt8.ofNat).toArray⟩
theorem str_append (a b : List Nat) : str a ++ str b = str (a ++ b) := by
  unfold str
  rw [List.map_append]
  apply ByteArray.ext
  simp
theorem slice_letter (d : Nat) (hd : d < 16) (w : World) : (Instr.sliceAt 9 (.string ⟨#[48, 49, 50, 51, 52, 53, 54, 55, 56, 57, 97, 98, 99, 100, 101, 102]⟩) (some (.int .u8 (d : Int))) (some (.int .u8 ((d : Int) + 1))) none).run Tryd.prog w = .ok (.string (str [letter d])) w := by
  obtain rfl | rfl | rfl | rfl | rfl | rfl | rfl | rfl | rfl | rfl | rfl | rfl | rfl | rfl | rfl | rfl : d = 0 ∨ d = 1 ∨ d = 2 ∨ d = 3 ∨ d = 4 ∨ d = 5 ∨ d = 6 ∨ d = 7 ∨ d = 8 ∨ d = 9 ∨ d = 10 ∨ d = 11 ∨ d = 12 ∨ d = 13 ∨ d = 14 ∨ d = 15 := by omega
  all_goals kernel_rfl
def hexP (l : List Nat) (k : Nat) : List Nat := (List.range k).map fun i => letter (nib l i)
theorem hexP_two (l : List Nat) (k : Nat) : hexP l (2 * (k + 1)) = hexP l (2 * k) ++ [letter (l.getD k 0 / 16), letter (l.getD k 0 % 16)] := by
  unfold hexP
  rw [show 2 * (k + 1) = 2 * k + 1 + 1 by omega, List.range_succ, List.range_succ]
  simp only [List.map_append, List.map_cons, List.map_nil, List.append_assoc, List.cons_append, List.nil_append]
  have e1 : nib l (2 * k) = l.getD k 0 / 16 := by unfold nib; rw [if_pos (by omega), show 2 * k / 2 = k by omega]
  have e2 : nib l (2 * k + 1) = l.getD k 0 % 16 := by unfold nib; rw [if_neg (by omega), show (2 * k + 1) / 2 = k by omega]
  rw [e1, e2]
set_option maxRecDepth 100000 in
set_option maxHeartbeats 2000000 in
theorem refHex_any (l : List Nat) (hl : l.length = 32) (hlb : Sha.Bytes l) (w : World) :
    Calls Tryd.prog 29 #[.agg (arr32 l)] w fun e w' => e = .returned (.string (str (hexOf l))) ∧ Below w.heap.size w w' := by
  go_enter Tryd.func29, Tryd.ntmps29
  go_upto_region 1 with (fail)
  refine gen_world (P := fun W => Code.wp _ _ _ _ W) (I := fun W => Below w.heap.size w W ∧ Has W w.heap.size 26 (arr32 l)) _ ⟨(Below.refl _ w).alloc (Nat.le_refl _) _, Has.fresh_at _ _ _ _ rfl⟩ ?_
  rintro W ⟨hB, hL⟩
  have HB := Lib.hid hB
  generalize w.heap.size = p at hL ⊢
  have HL := Lib.hid hL
  have HLB := Lib.hid hlb
  clear hB hL
  go_wp2
  go_loopw [3, 4] (fun o i wr => ∃ k q : Nat, k ≤ 32 ∧ i = .int .i64 k ∧ o = .string (str (hexP l (2 * k))) ∧ wr = W.drewN q) (fun _ i _ => 32 - (intOf i).toNat)
  case atStart => exact ⟨0, 0, Nat.zero_le _, rfl, by rw [Nat.mul_zero]; rfl, rfl⟩
  case round =>
    obtain ⟨k, q, hk, rfl, rfl, rfl⟩ := hrel
    by_cases hlt : k < 32
    · obtain ⟨x, hx⟩ : ∃ x, x = l.getD k 0 := ⟨_, rfl⟩
      have hx2 : x < 256 := by rw [hx]; exact Sha.getD_lt hlb (by decide) k
      have c1 : ∀ n, (W.drewN n).cell? ⟨p, k, none⟩ = some (.int .u8 (x : Int)) := fun n => by rw [(HL.out.drewN n).cell, arr32_get l hl k hlt, hx]
      have h2 := hexP_two l k
      rw [← hx] at h2
      obtain ⟨h, hh⟩ : ∃ h, h = x / 16 := ⟨_, rfl⟩
      obtain ⟨r, hr⟩ : ∃ r, r = x % 16 := ⟨_, rfl⟩
      rw [← hh, ← hr] at h2
      have hh16 : h < 16 := by omega
      have hr16 : r < 16 := by omega
      have e1 : (x : Int) / 16 = (h : Int) := by omega
      have e2 : (x : Int) % 16 = (r : Int) := by omega
      have e3 : (x : Int).tmod 16 = (r : Int) := by rw [Int.tmod_eq_emod_of_nonneg (by omega)]; exact e2
      have e4 : (x : Int).tdiv 16 = (h : Int) := by rw [Int.tdiv_eq_ediv_of_nonneg (by omega)]; exact e1
      have s1 := slice_letter h hh16
      have s2 := slice_letter r hr16
      have w1 : IntKind.u8.wrap ((h : Int) + 1) = (h : Int) + 1 := by
        unfold IntKind.wrap
        simp [IntKind.bits, IntKind.signed]
        omega
      have w2 : IntKind.u8.wrap ((r : Int) + 1) = (r : Int) + 1 := by
        unfold IntKind.wrap
        simp [IntKind.bits, IntKind.signed]
        omega
      have w3 : IntKind.u8.wrap (h : Int) = (h : Int) := by
        unfold IntKind.wrap
        simp [IntKind.bits, IntKind.signed]
        omega
      have w4 : IntKind.u8.wrap (r : Int) = (r : Int) := by
        unfold IntKind.wrap
        simp [IntKind.bits, IntKind.signed]
        omega
      have z1 : (str [letter h]).size = 1 := rfl
      have z2 : (str [letter r]).size = 1 := rfl
      have z3 : (str [letter h, letter r]).size = 2 := rfl
      have z4 : (str (hexP l (2 * k))).size = 2 * k := by simp [str, ByteArray.size, hexP]
      have a1 : str [letter h] ++ str [letter r] = str [letter h, letter r] := str_append _ _
      have a2 : str (hexP l (2 * k)) ++ str [letter h, letter r] = str (hexP l (2 * (k + 1))) := by rw [str_append, h2]
      have H2 := Lib.hid h2
      have HX := Lib.hid (And.intro hx (And.intro hh hr))
      clear hx hh hr h2
      go_wp2
      go_quiet (fail)
      go_wp2
      exact ⟨⟨k + 1, _, by omega, by go_num, rfl, rfl⟩, by simp [intOf]; omega⟩
    · obtain rfl : k = 32 := by omega
      go_wp2
      go_ret
      exact ⟨rfl, below_drewN HB.out q⟩
end Go.Proofs.YtcocljghoiacmaaDoor
end
