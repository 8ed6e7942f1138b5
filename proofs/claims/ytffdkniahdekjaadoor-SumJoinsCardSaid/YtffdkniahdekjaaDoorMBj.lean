/-
  YtffdkniahdekjaaDoorAwH
  · YtffdkniahdekjaaDoorRowOf
  · YtffdkniahdekjaaDoorGrowRow
  · YtffdkniahdekjaaDoorWriteRow
  · YtffdkniahdekjaaDoorAwA
-/
import Derived.Test.YtffdkniahdekjaaDoorMBd
import Derived.Test.YtffdkniahdekjaaDoorMBi
import Derived.Test.YtffdkniahdekjaaDoorMBc
import Derived.Test.YtffdkniahdekjaaDoorMBe
import Derived.OrdersHeld
section
namespace Go.Proofs.YtffdkniahdekjaaDoor
open Go.RowKit Go.Hoar Go.Maps Go.Shelf
theorem listOf_len (f : Nat) (ls : List (List Nat)) : (listOf (f + 1) ls).length = 32 ∧ Sha.Bytes (listOf (f + 1) ls) := by
  refine ⟨?_, listOf_bytes _ _⟩
  match ls with
  | [] => rw [listOf]; exact (sha_bytes _).1
  | [x] => rw [listOf]; exact (sha_bytes _).1
  | x :: y :: r => rw [listOf]; exact (sha_bytes _).1
theorem spanSum_len (ls : List (List Nat)) (p : Nat × Nat) : (spanSum ls p).length = 32 ∧ Sha.Bytes (spanSum ls p) := listOf_len _ _
theorem flat_at : ∀ (ls : List (List Nat)), SumsOk ls → ∀ k x, ls[k]? = some x → ∀ j u, (arr32 x)[j]? = some u → (ls.flatMap cellsOf)[k * 32 + j]? = some u
  | [], _, k, x, h, _, _, _ => by simp at h
  | d :: rs, hok, k, x, h, j, u, hj => by
    have hd := (hok d (by simp)).1
    have hcl : (cellsOf d).length = 32 := cellsOf_len (by omega)
    rw [List.flatMap_cons]
    cases k with
    | zero =>
      simp only [List.getElem?_cons_zero, Option.some.injEq] at h
      subst h
      have hl := (Array.getElem?_eq_some_iff.1 hj).1
      rw [arr32_size d (by omega)] at hl
      rw [List.getElem?_append_left (by omega), cellsOf, Nat.zero_mul, Nat.zero_add, Array.getElem?_toList]
      exact hj
    | succ k =>
      simp only [List.getElem?_cons_succ] at h
      rw [List.getElem?_append_right (by omega), hcl, show (k + 1) * 32 + j - 32 = k * 32 + j by omega]
      exact flat_at rs (fun l hl => hok l (List.mem_cons_of_mem _ hl)) k x h j u hj
/-- A row of digests of one's own lies in memory. -/
theorem row_of_own {w : World} {base n : Nat} {v : Value} {ls : List (List Nat)} (h : w.ownsRow base 26 32 v n (ls.flatMap cellsOf)) (hok : SumsOk ls) (hn : ls.length = n) :
    ∃ a c, v = .slice a n c ∧ RowOk w a c ls ∧ n ≤ c ∧ c ≤ maxLen ∧ ∀ g, a = some g → base ≤ g.block ∧ g.off = 0 := by
  rcases h.2 with ⟨rfl, rfl⟩ | ⟨g, cap, cur, rfl, hb, hh, hc, hm, _⟩
  · exact ⟨none, 0, rfl, .inl ⟨rfl, List.length_eq_zero_iff.1 hn, rfl⟩, Nat.le_refl _, Nat.zero_le _, fun g hg => by cases hg⟩
  · refine ⟨some ⟨g, 0, none⟩, cap, rfl, .inr ⟨g, 0, rfl, (h.lt g rfl).2, fun i l hi => ?_, by omega, hm⟩, hc, hm, fun g' hg' => by cases hg'; exact ⟨hb, rfl⟩⟩
    have hl := hok l (List.mem_of_getElem? hi)
    refine ⟨hl.1, hl.2, fun j hj => ?_⟩
    have := h.cells (g := g) rfl (i * 32 + j) _ (flat_at ls hok i l hi j _ (arr32_get l hl.1 j hj))
    rw [Addr.add_lit] at this
    rw [show 0 + i * 32 + j = 0 + (i * 32 + j) by omega]
    exact this
/-- The digests of a list, as those whose form is known. -/
theorem digs_of {ls : List (List Nat)} (h : SumsOk ls) : ∃ xs : List Dig, xs.map (·.1) = ls := by
  induction ls with
  | nil => exact ⟨[], rfl⟩
  | cons l ls ih =>
    obtain ⟨xs, hx⟩ := ih (fun x hx => h x (List.mem_cons_of_mem _ hx))
    exact ⟨⟨l, h l (by simp)⟩ :: xs, by rw [List.map_cons, hx]⟩
theorem sumsEqual_lens (a b : Option Addr) (n c m d : Nat) (w : World) (h : n ≠ m) :
    Calls Tryd.prog 37 #[.slice a n c, .slice b m d] w fun e w' => e = .returned (.bool false) ∧ w' = w := by
  have hne : ((n : Int) == (m : Int)) = false := by simpa using fun k => h (by omega)
  have hne2 : ((n : Int) != (m : Int)) = true := by rw [bne_iff_ne]; omega
  go_enter Tryd.func37, Tryd.ntmps37
  go_wp2
  go_ret
  exact ⟨rfl, rfl⟩
theorem sumsEqual_none (a b : Option Addr) (c d : Nat) (w : World) :
    Calls Tryd.prog 37 #[.slice a 0 c, .slice b 0 d] w fun e w' => e = .returned (.bool true) ∧ w' = w := by
  go_enter Tryd.func37, Tryd.ntmps37
  go_wp2
  refine wp_loop_rounds 1 ?_
  rw [rounds_succ]
  go_wp2
  go_ret
  exact ⟨rfl, rfl⟩
theorem sums_inj : ∀ {X Y : List Dig}, X.map (·.1) = Y.map (·.1) → X = Y
  | [], [], _ => rfl
  | [], _ :: _, h => by simp at h
  | _ :: _, [], h => by simp at h
  | x :: X, y :: Y, h => by
    simp only [List.map_cons, List.cons.injEq] at h
    rw [Subtype.ext h.1, sums_inj h.2]
/-- slices.Equal of two lists of digests. -/
theorem sumsEqual_any (xs ys : List (List Nat)) (hx : SumsOk xs) (hy : SumsOk ys) (a b : Option Addr) (c d : Nat) (w : World) (ha : RowOk w a c xs) (hb : RowOk w b d ys) (lx : xs.length ≤ 1000000) (ly : ys.length ≤ 1000000) :
    Calls Tryd.prog 37 #[.slice a xs.length c, .slice b ys.length d] w fun e w' => e = .returned (.bool (decide (xs = ys))) ∧ ∃ q, w' = w.drewN q := by
  by_cases hl : xs.length = ys.length
  · rcases ha with ⟨rfl, rfl, rfl⟩ | ⟨g, o, rfl, _, hs, _⟩
    · obtain rfl : ys = [] := List.length_eq_zero_iff.1 hl.symm
      refine (sumsEqual_none none b 0 d w).mono ?_
      rintro e w' ⟨rfl, rfl⟩
      exact ⟨rfl, 0, rfl⟩
    · rcases hb with ⟨rfl, rfl, rfl⟩ | ⟨g2, o2, rfl, _, hs2, _⟩
      · obtain rfl : xs = [] := List.length_eq_zero_iff.1 hl
        refine (sumsEqual_none _ none c 0 w).mono ?_
        rintro e w' ⟨rfl, rfl⟩
        exact ⟨rfl, 0, rfl⟩
      · obtain ⟨X, rfl⟩ := digs_of hx
        obtain ⟨Y, rfl⟩ := digs_of hy
        simp only [List.length_map] at lx ly ⊢
        have h := sums_equal X Y g o c g2 o2 d w hs hs2 lx ly
        have e : decide (X = Y) = decide (X.map (·.1) = Y.map (·.1)) := decide_eq_decide.2 ⟨fun k => by rw [k], fun k => sums_inj k⟩
        rwa [e] at h
  · rw [decide_eq_false (fun k => hl (by rw [k]))]
    refine (sumsEqual_lens a b xs.length c ys.length d w hl).mono ?_
    rintro e w' ⟨rfl, rfl⟩
    exact ⟨rfl, 0, rfl⟩
/-- The way of a place. -/
theorem proof_row (ls : List (List Nat)) (i : Nat) (hi : i < ls.length) (hn : ls.length ≤ 1073741824) (g off c : Nat) (w : World) (hs : SumsAt w g off ls) (hg : g < w.heap.size) (hnc : ls.length ≤ c) (hcm : c ≤ maxLen) (hc : ConstAt w) (ws : List (List Nat)) (hws : Hid (ws = (waysOf ls.length i).map (spanSum ls))) :
    Calls Tryd.prog 34 #[.slice (some ⟨g, off, none⟩) ls.length c, .int .i64 (i : Int)] w fun e w' => ∃ a c', e = .returned (.tuple #[.slice a ws.length c', .int .i64 0]) ∧ RowOk w' a c' ws ∧ (∀ g, a = some g → w.heap.size ≤ g.block ∧ g.off = 0) ∧ Below w.heap.size w w' := by
  have h := proof_any ls i hi hn g off c w hs hg hnc hcm hc _ (Lib.hid rfl)
  refine h.mono ?_
  rintro e w' ⟨v, rfl, ho, hb⟩
  have e : ((waysOf ls.length i).flatMap fun p => cellsOf (spanSum ls p)) = ws.flatMap cellsOf := by rw [hws.out, List.flatMap_map]
  have hl : ws.length = (waysOf ls.length i).length := by rw [hws.out, List.length_map]
  rw [e, ← hl] at ho
  obtain ⟨a, c', rfl, hr, _, _, hbk⟩ := row_of_own ho (fun l hl => by
    rw [hws.out] at hl
    obtain ⟨p, _, rfl⟩ := List.mem_map.1 hl
    exact spanSum_len _ _) rfl
  exact ⟨a, c', rfl, hr, hbk, hb⟩
end Go.Proofs.YtffdkniahdekjaaDoor
end
section
namespace Go.Proofs.YtffdkniahdekjaaDoor
open Go.RowKit Go.Hoar Go.Maps Go.Shelf
theorem growOf_len : ∀ (f m : Nat) (ps : List (List Nat)) (pk : List Nat), m < 2 ^ f → f ≤ 31 → ps.length = ones m → SumsOk ps → pk.length = 32 → Sha.Bytes pk → (growOf f m ps pk).length = ones (m + 1) ∧ SumsOk (growOf f m ps pk)
  | 0, m, ps, pk, hm, _, hl, hok, h1, h2 => by
    obtain rfl : m = 0 := by simpa using hm
    rw [growOf]
    refine ⟨by rw [List.length_append, hl, List.length_singleton]; decide, fun l h => ?_⟩
    rcases List.mem_append.1 h with h | h
    · exact hok l h
    · rw [List.mem_singleton.1 h]; exact ⟨h1, h2⟩
  | f + 1, m, ps, pk, hm, hf, hl, hok, h1, h2 => by
    have hp : 2 ^ (f + 1) ≤ 2 ^ 31 := Nat.pow_le_pow_right (by omega) hf
    have hs := ones_step m (by omega)
    have hs1 := ones_step (m + 1) (by omega)
    rw [Nat.pow_succ] at hm
    rw [growOf]
    split
    · rename_i hodd
      have e : (m + 1) / 2 = m / 2 + 1 := by omega
      rw [e] at hs1
      have ih := growOf_len f (m / 2) ps.dropLast (Sha.sha (2 :: (ps.getLastD [] ++ pk))) (by omega) (by omega) (by rw [List.length_dropLast]; omega) (fun l h => hok l (List.dropLast_subset _ h)) (sha_bytes _).1 (sha_bytes _).2
      exact ⟨by rw [ih.1]; omega, ih.2⟩
    · rename_i heven
      have e : (m + 1) / 2 = m / 2 := by omega
      rw [e] at hs1
      refine ⟨by rw [List.length_append, List.length_singleton]; omega, fun l h => ?_⟩
      rcases List.mem_append.1 h with h | h
      · exact hok l h
      · rw [List.mem_singleton.1 h]; exact ⟨h1, h2⟩
/-- The tree with one digest more. -/
theorem grow_row (ps : List (List Nat)) (x : List Nat) (many : Nat) (hps : SumsOk ps) (hx : x.length = 32) (hxb : Sha.Bytes x) (hok : ps.length = ones many) (hm : many < 1073741824) (a : Option Addr) (c : Nat) (w : World) (hl : RowOk w a c ps) (hc : ConstAt w) (out : List (List Nat)) (hout : Hid (out = growOf 31 many ps (Sha.sha (1 :: x)))) :
    Calls Tryd.prog 38 #[.agg #[.int .i64 (many : Int), .slice a ps.length c], .agg (arr32 x)] w fun e w' => ∃ a' c', e = .returned (.tuple #[.agg #[.int .i64 ((many : Int) + 1), .slice a' out.length c'], .int .i64 0]) ∧ RowOk w' a' c' out ∧ (∀ g, a' = some g → w.heap.size ≤ g.block ∧ g.off = 0) ∧ Below w.heap.size w w' ∧ out.length = ones (many + 1) ∧ SumsOk out := by
  have hg := growOf_len 31 many ps (Sha.sha (1 :: x)) (by omega) (Nat.le_refl _) hok hps (sha_bytes _).1 (sha_bytes _).2
  rw [← hout.out] at hg
  refine (treeGrow_any ps x many hps hx hxb ⟨by omega, by omega, by rw [Int.toNat_natCast]; exact hok⟩ hm a c w hl hc out hout).mono ?_
  rintro e w' ⟨v, rfl, ho, hb⟩
  obtain ⟨a', c', rfl, hr, _, _, hbk⟩ := row_of_own ho hg.2 rfl
  exact ⟨a', c', rfl, hr, hbk, hb, hg.1, hg.2⟩
end Go.Proofs.YtffdkniahdekjaaDoor
end
section
namespace Go.Proofs.YtffdkniahdekjaaDoor
open Go.RowKit Go.Hoar Go.Maps Go.Shelf
/-- Bytes of one's own lie in memory. -/
theorem bytes_of_own {w : World} {base n : Nat} {v : Value} {bs : List Nat} (h : w.ownsRow base 5 1 v n (bs.map BV)) (hn : bs.length = n) :
    ∃ a c, v = .slice a n c ∧ PartOk w a c bs ∧ CapOk a n c ∧ ∀ g, a = some g → base ≤ g.block ∧ g.off = 0 := by
  rcases h.2 with ⟨rfl, rfl⟩ | ⟨g, cap, cur, rfl, hb, hh, hc, hm, _⟩
  · exact ⟨none, 0, rfl, .inl ⟨rfl, List.length_eq_zero_iff.1 hn, rfl⟩, fun _ _ h => (by cases h), fun g hg => (by cases hg)⟩
  · refine ⟨some ⟨g, 0, none⟩, cap, rfl, (part_own h).1, fun _ _ h => ⟨hc, hm⟩, fun g' hg' => by cases hg'; exact ⟨hb, rfl⟩⟩
/-- The state behind more bytes. -/
theorem write_row (h rb bs : List Nat) (ra a : Option Addr) (rc c : Nat) (long : Int) (w : World) (hh : h.length = 8) (hw : Sha.Words h) (hr : PartOk w ra rc rb) (hb : PartOk w a c bs) (hrb : Sha.Bytes rb) (hbs : Sha.Bytes bs)
    (hs : Sound rb.length long) (hl : bs.length ≤ 1099511627776 - long) (hcap : CapOk a bs.length c) (hc : ConstAt w) (H rest : List Nat) (hH : Hid (H = Sha.all h (rb ++ bs))) (hrest : Hid (rest = restOf (rb ++ bs))) :
    Calls Tryd.prog 20 #[.agg (stateCells h (.slice ra rb.length rc) long), .slice a bs.length c] w fun e w' => ∃ a' c', e = .returned (.tuple #[.agg (stateCells H (.slice a' rest.length c') (long + bs.length)), .int .i64 0]) ∧ PartOk w' a' c' rest ∧ CapOk a' rest.length c' ∧ (∀ g, a' = some g → w.heap.size ≤ g.block ∧ g.off = 0) ∧ Below w.heap.size w w' := by
  refine (write_any h rb bs ra a rc c long w hh hw hr hb hrb hbs hs hl hcap hc (rb ++ bs) (Lib.hid rfl)).mono ?_
  rintro e w' ⟨a', c', rfl, ho, hbw⟩
  rw [← hrest.out] at ho
  obtain ⟨a2, c2, e2, hp, hcp, hbk⟩ := bytes_of_own ho rfl
  cases e2
  exact ⟨a', c', by rw [hH.out, hrest.out], hp, hcp, hbk, hbw⟩
theorem words_all {h : List Nat} (hh : h.length = 8) (hw : Sha.Words h) (b : List Nat) : (Sha.all h b).length = 8 ∧ Sha.Words (Sha.all h b) := ⟨by rw [Sha.all, Sha.takes_length]; exact hh, Sha.takes_words hw _ _⟩
/-- Two bytes, of no bytes on. -/
theorem write_ab (V : World) (hc : ConstAt V) :
    Calls Tryd.prog 20 #[.agg (stateCells Sha.first (.slice none 0 0) 0), .slice (some ⟨V.heap.size, 0, none⟩) 2 2] (V.alloc (.cells #[.int .u8 97, .int .u8 98] 5 (2, 3))) fun e w' => ∃ a' c', e = .returned (.tuple #[.agg (stateCells Sha.first (.slice a' 2 c') 2), .int .i64 0]) ∧ PartOk w' a' c' [97, 98] ∧ CapOk a' 2 c' ∧ (∀ g, a' = some g → V.heap.size ≤ g.block ∧ g.off = 0) ∧ Below V.heap.size V w' := by
  have hb : Below V.heap.size V (V.alloc (.cells #[.int .u8 97, .int .u8 98] 5 (2, 3))) := (Below.refl _ V).alloc (Nat.le_refl _) _
  have h := write_row Sha.first [] [97, 98] none (some ⟨V.heap.size, 0, none⟩) 0 2 0 (V.alloc (.cells #[.int .u8 97, .int .u8 98] 5 (2, 3))) rfl Sha.first_words (.inl ⟨rfl, rfl, rfl⟩) (part_mark V 5 (2, 3) [97, 98]) (fun x hx => by cases hx) (fun y hy => by simp at hy; omega) (by unfold Sound; decide) (by decide) (fun _ _ _ => ⟨Nat.le_refl _, by decide⟩) (hc.below hb rfl) Sha.first [97, 98] (Lib.hid (by decide +kernel)) (Lib.hid (by decide))
  refine h.mono ?_
  rintro e w' ⟨a', c', rfl, h1, h2, h3, h4⟩
  exact ⟨a', c', rfl, h1, h2, fun g hg => ⟨Nat.le_trans hb.size (h3 g hg).1, (h3 g hg).2⟩, hb.trans (h4.mono hb.size)⟩
/-- One byte more. -/
theorem write_c (V : World) (hc : ConstAt V) (a : Option Addr) (c : Nat) (hp : PartOk V a c [97, 98]) (_hcap : CapOk a 2 c) :
    Calls Tryd.prog 20 #[.agg (stateCells Sha.first (.slice a 2 c) 2), .slice (some ⟨V.heap.size, 0, none⟩) 1 1] (V.alloc (.cells #[.int .u8 99] 5 (1, 2))) fun e w' => ∃ a' c', e = .returned (.tuple #[.agg (stateCells Sha.first (.slice a' 3 c') 3), .int .i64 0]) ∧ PartOk w' a' c' [97, 98, 99] ∧ CapOk a' 3 c' ∧ (∀ g, a' = some g → V.heap.size ≤ g.block ∧ g.off = 0) ∧ Below V.heap.size V w' := by
  have hb : Below V.heap.size V (V.alloc (.cells #[.int .u8 99] 5 (1, 2))) := (Below.refl _ V).alloc (Nat.le_refl _) _
  have h := write_row Sha.first [97, 98] [99] a (some ⟨V.heap.size, 0, none⟩) c 1 2 (V.alloc (.cells #[.int .u8 99] 5 (1, 2))) rfl Sha.first_words (hp.below hb) (part_mark V 5 (1, 2) [99]) (fun y hy => by simp at hy; omega) (fun y hy => by simp at hy; omega) (by unfold Sound; decide) (by decide) (fun _ _ _ => ⟨Nat.le_refl _, by decide⟩) (hc.below hb rfl) Sha.first [97, 98, 99] (Lib.hid (by decide +kernel)) (Lib.hid (by decide))
  refine h.mono ?_
  rintro e w' ⟨a', c', rfl, h1, h2, h3, h4⟩
  exact ⟨a', c', rfl, h1, h2, fun g hg => ⟨Nat.le_trans hb.size (h3 g hg).1, (h3 g hg).2⟩, hb.trans (h4.mono hb.size)⟩
/-- The digest of these three. -/
theorem done_abc (V : World) (hc : ConstAt V) (a : Option Addr) (c : Nat) (hp : PartOk V a c [97, 98, 99]) (out : List Nat) (hout : Hid (out = Sha.sha [97, 98, 99])) :
    Calls Tryd.prog 22 #[.agg (stateCells Sha.first (.slice a 3 c) 3)] V fun e w' => e = .returned (.tuple #[.agg (arr32 out), .int .i64 0]) ∧ Below V.heap.size V w' := by
  have e : out = Sha.ended Sha.first [97, 98, 99] (3 : Int).toNat := by rw [hout.out]; decide +kernel
  have h := done_any Sha.first [97, 98, 99] a c 3 V rfl Sha.first_words hp (fun y hy => by simp at hy; omega) hc out (Lib.hid e)
  rwa [if_pos (by unfold Sound; decide)] at h
end Go.Proofs.YtffdkniahdekjaaDoor
end
section
namespace Go.Proofs.YtffdkniahdekjaaDoor
open Go.RowKit Go.Hoar Go.Maps Go.Shelf
def seqRest : Code → Code
  | .seq _ r => r
  | c => c
noncomputable def awTail (k : Nat) : Code := Nat.rec ((Tryd.f15.body).getD .skip) (fun _ c => seqRest c) k
/-- What the walk of the examples must come to. -/
structure Ends (w0 : World) (Q : Exit → Act → World → Prop) : Prop where
  ret : ∀ a w', a.defers = [] → a.tmps.getD 0 undef = .bool true → Below w0.heap.size w0 w' → Q .ret a w'
  panic : ∀ c a a' w', a'.defers = a.defers → Q (.panic c) a w' → Q (.panic c) a' w'
/-- The three digests of the examples, and the list of them. -/
structure Three (xa xb xc : Dig) (p1 p2 p3 q : Nat) (w0 U : World) : Prop where
  below : Below w0.heap.size w0 U
  const : ConstAt U
  one : Has U p1 26 (arr32 xa.1)
  two : Has U p2 26 (arr32 xb.1)
  three : Has U p3 26 (arr32 xc.1)
  list : Has U q 26 (digCells [xa, xb, xc]).toArray
theorem Three.mono {xa xb xc : Dig} {p1 p2 p3 q : Nat} {w0 U V : World} (h : Three xa xb xc p1 p2 p3 q w0 U) (hb : Below U.heap.size U V) : Three xa xb xc p1 p2 p3 q w0 V :=
  ⟨h.below.trans (hb.mono h.below.size), h.const.below hb rfl, h.one.below hb h.one.lt, h.two.below hb h.two.lt, h.three.below hb h.three.lt, h.list.below hb h.list.lt⟩
theorem Three.sums {xa xb xc : Dig} {p1 p2 p3 q : Nat} {w0 U : World} (h : Three xa xb xc p1 p2 p3 q w0 U) : SumsAt U q 0 ([xa, xb, xc].map (·.1)) := sums_of_has [xa, xb, xc] h.list
/-- Each of the three Finds of the examples. -/
theorem find_3 (xa xb xc : Dig) (ha : Hid (xa.1 = Sha.sha [97])) (hb : Hid (xb.1 = Sha.sha [98])) (hc : Hid (xc.1 = Sha.sha [99])) (q : Nat) (V : World) (hs : SumsAt V q 0 ([xa, xb, xc].map (·.1))) (hq : q < V.heap.size) :
    Calls Tryd.prog 45 #[.string ⟨#[51]⟩, .slice (some ⟨q, 0, none⟩) 3 3] V fun e w' => e = .returned (.tuple #[.int .i64 1, .int .i64 0]) ∧ Below V.heap.size V w' := by
  have e : findGo (digsK ⟨#[51]⟩ (ByteArray.mk #[51]).size) 0 none ([xa, xb, xc].map (·.1)) = (1, 0) := by
    simp only [List.map_cons, List.map_nil, ha.out, hb.out, hc.out]
    decide +kernel
  exact find_any ⟨#[51]⟩ (by decide) (by decide) (by unfold AllDig; decide +kernel) ([xa, xb, xc].map (·.1)) q 0 3 V hs hq (Nat.le_refl _) (by decide) (by simp) (1, 0) (Lib.hid e.symm)
theorem find_f (xa xb xc : Dig) (ha : Hid (xa.1 = Sha.sha [97])) (hb : Hid (xb.1 = Sha.sha [98])) (hc : Hid (xc.1 = Sha.sha [99])) (q : Nat) (V : World) (hs : SumsAt V q 0 ([xa, xb, xc].map (·.1))) (hq : q < V.heap.size) :
    Calls Tryd.prog 45 #[.string ⟨#[102]⟩, .slice (some ⟨q, 0, none⟩) 3 3] V fun e w' => e = .returned (.tuple #[.int .i64 0, .int .i64 6]) ∧ Below V.heap.size V w' := by
  have e : findGo (digsK ⟨#[102]⟩ (ByteArray.mk #[102]).size) 0 none ([xa, xb, xc].map (·.1)) = (0, 6) := by
    simp only [List.map_cons, List.map_nil, ha.out, hb.out, hc.out]
    decide +kernel
  exact find_any ⟨#[102]⟩ (by decide) (by decide) (by unfold AllDig; decide +kernel) ([xa, xb, xc].map (·.1)) q 0 3 V hs hq (Nat.le_refl _) (by decide) (by simp) (0, 6) (Lib.hid e.symm)
theorem find_G (v : Value) (V : World) :
    Calls Tryd.prog 45 #[.string ⟨#[71]⟩, v] V fun e w' => e = .returned (.tuple #[.int .i64 0, .int .i64 4]) ∧ Below V.heap.size V w' :=
  find_form ⟨#[71]⟩ (by decide) (by decide) (by unfold AllDig; decide +kernel) v V
/-- The digests of the empty list, of the first one, and of the first two. -/
structure Lists (e0 e1 e2 : List Nat) (g0 g1 g2 : Nat) (W : World) : Prop where
  none : Has W g0 26 (arr32 e0)
  one : Has W g1 26 (arr32 e1)
  two : Has W g2 26 (arr32 e2)
theorem Lists.mono {e0 e1 e2 : List Nat} {g0 g1 g2 : Nat} {U V : World} (h : Lists e0 e1 e2 g0 g1 g2 U) (hb : Below U.heap.size U V) : Lists e0 e1 e2 g0 g1 g2 V :=
  ⟨h.none.below hb h.none.lt, h.one.below hb h.one.lt, h.two.below hb h.two.lt⟩
def blkOf : Value → Option Nat
  | .pointer (some a) => some a.block
  | _ => none
def phi8 (e0 e1 e2 : List Nat) (q B : Nat) : Nat → Value → World → Prop
  | 0, v, _ => v = .agg (arr32 e0)
  | 1, v, _ => v = .slice (some ⟨q, 0, none⟩) 3 3
  | 2, v, _ => v = .slice (some ⟨q, 0, none⟩) 1 3
  | 3, v, _ => v = .agg (arr32 e1)
  | 4, v, _ => v = .slice (some ⟨q, 0, none⟩) 3 3
  | 5, v, _ => v = .slice (some ⟨q, 0, none⟩) 2 3
  | 6, v, _ => v = .agg (arr32 e2)
  | _, v, W => ∃ g, v = .pointer (some ⟨g, 0, none⟩) ∧ Has W g 26 zero32 ∧ B ≤ g
theorem phi8_old (e0 e1 e2 : List Nat) (q B j : Nat) (u : Value) (W : World) (_ : j < 10) (h : phi8 e0 e1 e2 q B j u W) (hf : decide (7 ≤ j) = true) (g : Nat) (hg : blkOf u = some g) : g < W.heap.size := by
  have h7 : 7 ≤ j := of_decide_eq_true hf
  match j, h7, h with
  | j + 7, _, h =>
    obtain ⟨g', rfl, hh, _⟩ := h
    obtain rfl : g' = g := Option.some.inj hg
    exact hh.lt
theorem phi8_stay (e0 e1 e2 : List Nat) (q B j : Nat) (u : Value) (W W' : World) (hN : Below W.heap.size W W') (h : phi8 e0 e1 e2 q B j u W) : phi8 e0 e1 e2 q B j u W' := by
  match j, h with
  | 0, h => exact h
  | 1, h => exact h
  | 2, h => exact h
  | 3, h => exact h
  | 4, h => exact h
  | 5, h => exact h
  | 6, h => exact h
  | j + 7, h =>
    obtain ⟨g', rfl, hh, hb⟩ := h
    exact ⟨g', rfl, hh.below hN hh.lt, hb⟩
/-- What lies in memory ahead of the tree. -/
structure Ahead (xa xb xc : Dig) (p1 p2 p3 q : Nat) (w0 : World) (e0 e1 e2 : List Nat) (g0 g1 g2 : Nat) (a1 : Option Addr) (c1 : Nat) (f1 f2 : List Nat) (a2 : Option Addr) (c2 : Nat) (W : World) : Prop where
  three : Three xa xb xc p1 p2 p3 q w0 W
  lists : Lists e0 e1 e2 g0 g1 g2 W
  last : RowOk W a1 c1 [e2]
  first : RowOk W a2 c2 [f1, f2]
theorem Ahead.mono {xa xb xc : Dig} {p1 p2 p3 q : Nat} {w0 : World} {e0 e1 e2 : List Nat} {g0 g1 g2 : Nat} {a1 : Option Addr} {c1 : Nat} {f1 f2 : List Nat} {a2 : Option Addr} {c2 : Nat} {U V : World}
    (h : Ahead xa xb xc p1 p2 p3 q w0 e0 e1 e2 g0 g1 g2 a1 c1 f1 f2 a2 c2 U) (hb : Below U.heap.size U V) : Ahead xa xb xc p1 p2 p3 q w0 e0 e1 e2 g0 g1 g2 a1 c1 f1 f2 a2 c2 V := ⟨h.three.mono hb, h.lists.mono hb, h.last.below hb, h.first.below hb⟩
theorem tree_one (n : Int) (a : Option Addr) (m c : Nat) : (#[Value.int .i64 n, Value.slice a m c] : Array Value).all (·.oneCell') = true := by
  simp [Value.oneCell']
def tenAt (k : Nat) : Int := if k = 0 then 4 else 0
theorem three_at (xa xb xc : Dig) (k : Nat) (hk : k < 3) : ∃ x, [xa, xb, xc][k]? = some x := ⟨_, List.getElem?_eq_getElem hk⟩
/-- A state in a block, with its rest. -/
structure StateAt (b0 : Nat) (a : Option Addr) (n c : Nat) (bs : List Nat) (W : World) : Prop where
  has : Has W b0 33 (stateCells Sha.first (.slice a n c) n)
  part : PartOk W a c bs
  cap : CapOk a n c
  apart : ∀ g, a = some g → g.block ≠ b0
theorem StateAt.mono {b0 : Nat} {a : Option Addr} {n c : Nat} {bs : List Nat} {U V : World} (h : StateAt b0 a n c bs U) (hb : Below U.heap.size U V) : StateAt b0 a n c bs V := ⟨h.has.below hb h.has.lt, h.part.below hb, h.cap, h.apart⟩
theorem PartOk.setRow {W : World} {a : Option Addr} {c b0 : Nat} {bs : List Nat} (h : PartOk W a c bs) (hne : ∀ g, a = some g → g.block ≠ b0) (cs : Array Value) : PartOk (W.setRow b0 cs) a c bs := by
  rcases h with h | ⟨g, off, rfl, hg, hb⟩
  · exact .inl h
  · refine .inr ⟨g, off, rfl, by simpa using hg, fun i hi => ?_⟩
    rw [← hb i hi]
    exact World.cell?_of_block (setRow_heap_other _ _ _ _ (by have := hne _ rfl; simpa using this))
theorem part_lt {W : World} {a : Option Addr} {c : Nat} {bs : List Nat} (h : PartOk W a c bs) (g : Addr) (hg : a = some g) : g.block < W.heap.size := by
  rcases h with ⟨rfl, _⟩ | ⟨g', off, rfl, hl, _⟩
  · cases hg
  · cases hg; exact hl
theorem first8 : Sha.first.length = 8 := rfl
noncomputable def awOps : Array Oper := match awTail 17 with
  | .seq (.region _ ops _) _ => ops
  | _ => #[]
theorem yieldsIf_load_g {P : Program} {ops : Array Oper} {S : World → Prop} {a : Act} {dst : Option Tmp} {ty T : TypeId} {x : Operand} {pos : String} {af : Array Edge} {gd : Nat × Bool}
    (ad : Addr) (cs : Array Value) (d : TypeDesc) (hc : ∀ w, S w → ∀ j u, cs[j]? = some u → w.cell? (ad.add j) = some u) (hu : P.underlying ty = some d)
    (hi : (P.info? ty).map (·.size) = some cs.size) (hx : a.eval x = .pointer (some ad))
    (hd : (match d with | .struct _ | .array _ _ => true | _ => false) = true) (hw : Region.wanted ⟨dst, .load ty x, T, pos, af, some gd⟩ (yielded ops a.tmps) = true) : YieldsIf P ops S ⟨dst, .load ty x, T, pos, af, some gd⟩ (.agg cs) a :=
  .inl ⟨hw, fun w hs => by
    have hr := run_loadVar_at (P := P) w ad ty cs d (hc w hs) hu hd hi
    unfold execOp
    simp only [hx, Instr.loadAt, Instr.sureAddr, Sem.run_bind, Sem.run_pure, Result.andThen_ok, hr]⟩
theorem opw_slices {P : Program} {a : Act} {w : World} {K : Act → World → Prop} {Q : Exit → Act → World → Prop} {dst : Option Tmp} {t T : TypeId} {xs : Array (Nat × Operand)} {n : Nat} {pos : String} {af : Array Edge} {gd : Option (Nat × Bool)}
    (e : TypeId) (ie : TypeInfo) (z : Value) (css : List (Array Value)) (hu : P.underlying t = some (.slice e)) (hie : P.info? e = some ie) (hz : ie.zero = some z) (hsz : ∀ c ∈ css, c.size = ie.size) (hn : n = css.length) (hsmall : n * ie.size ≤ 1000) (hpos : 0 < n * ie.size)
    (hx : (xs.map fun (i, x) => (i, a.eval x)).toList = (css.zipIdx 0).map fun x => (x.2, Value.agg x.1))
    (h : K (a.put dst (.slice (some ⟨w.heap.size, 0, none⟩) n n)) (w.alloc (.cells (css.flatMap Array.toList).toArray e))) :
    Oper.wp P ⟨dst, .buildSlice t n xs, T, pos, af, gd⟩ a w K Q := by
  refine wp_buildSlice t e n _ rfl _ ie z hu hie hz (by omega) (by omega) ?_ h
  have ht : ∀ A : Array Value, A.toList.toArray = A := fun A => by simp
  have hf := fill_rows ie.size css 0 [] ((Array.range (n * ie.size)).map (z.cells[· % z.cells.size]!)).toList hsz (by simp [hn]) (by simp)
  rw [hx]
  rw [List.nil_append, ht] at hf
  rw [hf]
  simp
theorem state_cell8 (r : Value) (l : Int) : (stateCells Sha.first r l)[8]? = some r := rfl
theorem state_cell9 (r : Value) (l : Int) : (stateCells Sha.first r l)[9]? = some (.int .i64 l) := rfl
theorem conv_abc (w : World) (g o c : Nat) (h : ∀ i, i < 3 → w.cell? ⟨g, o + i, none⟩ = some (.int .u8 (([97, 98, 99].getD i 0 : Nat) : Int))) : (convert 22 9 (.slice (some ⟨g, o, none⟩) 3 c)).run Tryd.prog w = .ok (.string ⟨#[97, 98, 99]⟩) w :=
  run_convert_bytes_arg w 22 5 Tryd.underlying22 Tryd.underlying5 g o 3 c [97, 98, 99] rfl (fun i hi => by
    have : i = 0 ∨ i = 1 ∨ i = 2 := by omega
    rcases this with rfl | rfl | rfl <;> exact h _ (by omega)) 9 Tryd.underlying9
theorem new_row (ls : List (List Nat)) (hok : SumsOk ls) (V : World) : RowOk (V.alloc (.cells ((ls.map arr32).flatMap Array.toList).toArray 26)) (some ⟨V.heap.size, 0, none⟩) ls.length ls ∨ maxLen < ls.length := by
  rcases Nat.lt_or_ge maxLen ls.length with h | h
  · exact .inr h
  · refine .inl (.inr ⟨_, 0, rfl, by simp, fun i l hi => ?_, Nat.le_refl _, h⟩)
    have hl := hok l (List.mem_of_getElem? hi)
    refine ⟨hl.1, hl.2, fun j hj => ?_⟩
    have e : (ls.map arr32).flatMap Array.toList = ls.flatMap cellsOf := by rw [List.flatMap_map]; rfl
    have h2 := (Has.fresh V 26 ((ls.map arr32).flatMap Array.toList).toArray).cell (i * 32 + j)
    rw [Nat.zero_add, h2, List.getElem?_toArray, e]
    exact flat_at ls hok i l hi j _ (arr32_get l hl.1 j hj)
theorem equal_new1 (x : List Nat) (a : Option Addr) (c : Nat) (V : World) (h : RowOk V a c [x]) (hok : SumsOk [x]) :
    Calls Tryd.prog 37 #[.slice a 1 c, .slice (some ⟨V.heap.size, 0, none⟩) 1 1] (V.alloc (.cells ([arr32 x].flatMap Array.toList).toArray 26)) fun e w' => e = .returned (.bool true) ∧ Below V.heap.size V w' := by
  have hb : Below V.heap.size V (V.alloc (.cells ([arr32 x].flatMap Array.toList).toArray 26)) := (Below.refl _ V).alloc (Nat.le_refl _) _
  have hn := (new_row [x] hok V).resolve_right (by simp [maxLen])
  refine (sumsEqual_any [x] [x] hok hok a _ c 1 _ (h.below hb) hn (by simp) (by simp)).mono ?_
  rintro e w' ⟨rfl, q, rfl⟩
  exact ⟨by rw [decide_eq_true rfl], hb.os, hb.tape, hb.output, hb.size, hb.block⟩
theorem equal_new2 (x y : List Nat) (a : Option Addr) (c : Nat) (V : World) (h : RowOk V a c [x, y]) (hok : SumsOk [x, y]) :
    Calls Tryd.prog 37 #[.slice a 2 c, .slice (some ⟨V.heap.size, 0, none⟩) 2 2] (V.alloc (.cells ([arr32 x, arr32 y].flatMap Array.toList).toArray 26)) fun e w' => e = .returned (.bool true) ∧ Below V.heap.size V w' := by
  have hb : Below V.heap.size V (V.alloc (.cells ([arr32 x, arr32 y].flatMap Array.toList).toArray 26)) := (Below.refl _ V).alloc (Nat.le_refl _) _
  have hn := (new_row [x, y] hok V).resolve_right (by simp [maxLen])
  refine (sumsEqual_any [x, y] [x, y] hok hok a _ c 2 _ (h.below hb) hn (by simp) (by simp)).mono ?_
  rintro e w' ⟨rfl, q, rfl⟩
  exact ⟨by rw [decide_eq_true rfl], hb.os, hb.tape, hb.output, hb.size, hb.block⟩
/-- The three digests of the examples. -/
structure Three0 (xa xb xc : Dig) (p1 p2 p3 : Nat) (w0 U : World) : Prop where
  below : Below w0.heap.size w0 U
  const : ConstAt U
  one : Has U p1 26 (arr32 xa.1)
  two : Has U p2 26 (arr32 xb.1)
  three : Has U p3 26 (arr32 xc.1)
end Go.Proofs.YtffdkniahdekjaaDoor
end
section
namespace Go.Proofs.YtffdkniahdekjaaDoor
open Go.RowKit Go.Hoar Go.Maps Go.Shelf
set_option maxRecDepth 100000 in
set_option maxHeartbeats 3000000 in
theorem aw17 (xa xb xc : Dig) (_ha : Hid (xa.1 = Sha.sha [97])) (_hb : Hid (xb.1 = Sha.sha [98])) (_hc : Hid (xc.1 = Sha.sha [99])) (w0 : World) (Q : Exit → Act → World → Prop) (hQ : Ends w0 Q) (p1 p2 p3 q : Nat) (U : World) (e0 e1 e2 : List Nat) (_he0 : Hid (e0 = Sha.sha [0])) (_he1 : Hid (e1 = listOf 2 [xa.1])) (he2 : Hid (e2 = listOf 3 [xa.1, xb.1])) (g0 g1 g2 : Nat) (a1 : Option Addr) (c1 : Nat) (f1 f2 : List Nat) (hf1 : Hid (f1 = listOf 2 [xb.1])) (hf2 : Hid (f2 = listOf 2 [xc.1])) (a2 : Option Addr) (c2 : Nat) (hA : Ahead xa xb xc p1 p2 p3 q w0 e0 e1 e2 g0 g1 g2 a1 c1 f1 f2 a2 c2 U) (s18 : Value) (t0 : Nat) (hT : ∃ a c, Has U t0 57 #[.int .i64 3, .slice a 2 c]) (b0 : Nat) (hS : ∃ a c, StateAt b0 a 3 c [97, 98, 99] U) (x0 : Nat) (hD : Has U x0 26 (arr32 (Sha.sha [97, 98, 99]))) (s24 : Value)
    (s26 s27 s28 s29 s30 s31 s32 s33 s34 s35 s36 s37 s38 s39 s40 s41 s42 s43 s44 s45 s46 s47 s48 s49 s50 s51 s52 s53 s54 s55 s56 s57 s58 s59 s60 s61 s62 s63 s64 s65 s66 s67 s68 s69 s70 s71 s72 s73 s74 s75 s76 s77 s78 s79 s80 s81 s82 s83 s84 s85 s86 s87 s88 s89 s90 s91 s92 s93 s94 s95 s96 s97 s98 s99 s100 s101 s102 s103 s104 s105 s106 s107 s108 s109 s110 s111 s112 s113 s114 s115 s116 s117 s118 s119 s120 s121 s122 s123 s124 s125 s126 s127 s128 s129 s130 s131 s132 s133 s134 s135 s136 s137 s138 s139 s140 s141 s142 s143 s144 s145 s146 s147 s148 s149 s150 s151 s152 s153 s154 s155 s156 s157 s158 s159 s160 s161 s162 s163 s164 s165 s166 s167 s168 s169 s170 : Value) : Code.wp Tryd.prog (awTail 17) Q ⟨#[.bool false, .pointer (some ⟨p1, 0, none⟩), .pointer (some ⟨p2, 0, none⟩), .pointer (some ⟨p3, 0, none⟩), .slice (some ⟨q, 0, none⟩) 3 3, .int .i64 1, .int .i64 0, .int .i64 0, .int .i64 0, .int .i64 0, .int .i64 0, .pointer (some ⟨g0, 0, none⟩), .pointer (some ⟨g1, 0, none⟩), .pointer (some ⟨g2, 0, none⟩), .slice a1 1 c1, .slice a2 2 c2, .pointer (some ⟨t0, 0, none⟩), undef, s18, .pointer (some ⟨b0, 0, none⟩), .int .i64 0, .int .i64 0, .pointer (some ⟨x0, 0, none⟩), .int .i64 0, s24, .int .i64 2, s26, s27, s28, s29, s30, s31, s32, s33, s34, s35, s36, s37, s38, s39, s40, s41, s42, s43, s44, s45, s46, s47, s48, s49, s50, s51, s52, s53, s54, s55, s56, s57, s58, s59, s60, s61, s62, s63, s64, s65, s66, s67, s68, s69, s70, s71, s72, s73, s74, s75, s76, s77, s78, s79, s80, s81, s82, s83, s84, s85, s86, s87, s88, s89, s90, s91, s92, s93, s94, s95, s96, s97, s98, s99, s100, s101, s102, s103, s104, s105, s106, s107, s108, s109, s110, s111, s112, s113, s114, s115, s116, s117, s118, s119, s120, s121, s122, s123, s124, s125, s126, s127, s128, s129, s130, s131, s132, s133, s134, s135, s136, s137, s138, s139, s140, s141, s142, s143, s144, s145, s146, s147, s148, s149, s150, s151, s152, s153, s154, s155, s156, s157, s158, s159, s160, s161, s162, s163, s164, s165, s166, s167, s168, s169, s170, undef, undef, undef, undef, undef, undef, undef, undef, undef, undef, undef, undef, undef, undef, undef, undef, undef, undef, undef, undef, undef, undef, undef, undef, undef, undef, undef, undef, undef, undef, undef, undef, undef, undef, undef, undef, undef, undef, undef, undef, undef, undef, undef, undef, undef, undef, undef, undef, undef, undef, undef, undef, undef, undef, undef, undef, undef, undef, undef, undef, undef, undef, undef, undef, undef, undef, undef, undef, undef, undef, undef, undef], []⟩ U := by
  obtain ⟨i0, hi0, hz0, hz1, hz2⟩ := info_parts sumInfo3
  obtain ⟨ta, tc, hT⟩ := hT
  obtain ⟨a4, c4, hS⟩ := hS
  obtain ⟨d1, hd1⟩ : ∃ d, d = Sha.sha [97, 98, 99] := ⟨_, rfl⟩
  rw [← hd1] at hD
  have l1 : d1.length = 32 := by rw [hd1]; exact (sha_bytes _).1
  have le2 : e2.length = 32 ∧ Sha.Bytes e2 := by rw [he2.out]; exact listOf_len _ _
  have lf1 : f1.length = 32 ∧ Sha.Bytes f1 := by rw [hf1.out]; exact listOf_len _ _
  have lf2 : f2.length = 32 ∧ Sha.Bytes f2 := by rw [hf2.out]; exact listOf_len _ _
  have ok1 : SumsOk [e2] := fun l hl => by rw [List.mem_singleton.1 hl]; exact le2
  have ok2 : SumsOk [f1, f2] := fun l hl => by
    simp only [List.mem_cons, List.not_mem_nil, or_false] at hl
    rcases hl with rfl | rfl
    · exact lf1
    · exact lf2
  have HOk1 := Lib.hid ok1
  have HOk2 := Lib.hid ok2
  have HD1 := Lib.hid hd1
  have heq : ∀ w : World, (binOp .eql 26 (.agg (arr32 d1)) (.agg (arr32 d1))).run Tryd.prog w = .ok (.bool true) w := fun w => by
    have := sum_eql d1 d1 l1 l1 w
    rwa [decide_eq_true rfl] at this
  have hguard := sum_guard
  have HIe := Lib.hid (arr32_info e2 (by omega))
  have HId := Lib.hid (arr32_info d1 (by omega))
  have HSe : Hid ((arr32 e2).size = i0.size) := Lib.hid (by rw [hz1, arr32_size _ (by omega)])
  have HS1 : Hid ((arr32 f1).size = i0.size) := Lib.hid (by rw [hz1, arr32_size _ (by omega)])
  have HS2 : Hid ((arr32 f2).size = i0.size) := Lib.hid (by rw [hz1, arr32_size _ (by omega)])
  have HA := Lib.hid hA
  have HCU := Lib.hid hA.three.const
  have HRe2 := Lib.hid hA.lists.two
  have hA1 := hA.last
  have hA2 := hA.first
  have hlq := hA.three.list.lt
  have s1 : SumsAt U q 32 [xb.1] := (hA.three.sums.drop 1).take 1
  have s2 : SumsAt U q 64 [xc.1] := hA.three.sums.drop 2
  have HF1 : Hid (∀ V : World, Below U.heap.size U V → Calls Tryd.prog 33 #[.slice (some ⟨q, 32, none⟩) 1 2] V fun e w' => e = .returned (.agg (arr32 f1)) ∧ f1.length = 32 ∧ Below V.heap.size V w') := Lib.hid fun V hV => list_any 2 [xb.1] q 32 2 V (by simp) (by simp) (by simp) (by decide) (by simp) (s1.below hlq hV) (Nat.lt_of_lt_of_le hlq hV.size) (HCU.out.below hV rfl) f1 hf1
  have HF2 : Hid (∀ V : World, Below U.heap.size U V → Calls Tryd.prog 33 #[.slice (some ⟨q, 64, none⟩) 1 1] V fun e w' => e = .returned (.agg (arr32 f2)) ∧ f2.length = 32 ∧ Below V.heap.size V w') := Lib.hid fun V hV => list_any 2 [xc.1] q 64 1 V (by simp) (by simp) (by simp) (by decide) (by simp) (s2.below hlq hV) (Nat.lt_of_lt_of_le hlq hV.size) (HCU.out.below hV rfl) f2 hf2
  have HT := Lib.hid hT
  have HSt := Lib.hid hS
  have HD := Lib.hid hD
  have hcv := convert_bytes
  obtain ⟨g4, o4, rfl, hg4, hb4⟩ : ∃ g off, a4 = some ⟨g, off, none⟩ ∧ g < U.heap.size ∧ BytesAt U g off 3 [97, 98, 99] := by
    rcases hS.part with ⟨_, h, _⟩ | h
    · cases h
    · exact h
  have HB4 := Lib.hid hb4
  have hn0 : 0 < i0.size := by omega
  have hn1 : i0.size ≤ 300 := by omega
  clear hA s1 s2 hT hS hD hb4 hd1 ok1 ok2 l1 le2 lf1 lf2
  conv => arg 2; whnf
  apply wp_seq_k
  intro K hK
  change Code.wp _ (Code.region 23 awOps true) _ _ _
  refine wp_region_held (S := fun W => Below U.heap.size U W) (by kernel_rfl) ?_
  have hsz : awOps.size = 73 := by kernel_rfl
  rw [hsz]
  refine gen_world (P := fun W => wpAnyH _ _ _ _ _ _ _ _ W) (I := fun W => Below U.heap.size U W) _ (Below.refl _ U).drew ?_
  intro Ud hUd
  have HSS := Lib.hid hUd
  clear hUd
  refine wpAnyH_take (i := 0) (oi := ⟨some 171, _, _, _, _, _⟩) (v := ?_) rfl (by kernel_rfl) (by kernel_rfl) (by kernel_rfl) (fun _ _ _ h => hQ.panic _ _ _ _ put_defers.symm h) (Or.inl ⟨by rfl, fun w' hw' => by go_simp; with_reducible rfl⟩) HSS.out ?_
  try simp only [Act.put, List.setIfInBounds_toArray, List.set_cons_succ, List.set_cons_zero]
  refine wpAnyH_take (i := 1) (oi := ⟨some 172, _, _, _, _, _⟩) (v := ?_) rfl (by kernel_rfl) (by kernel_rfl) (by kernel_rfl) (fun _ _ _ h => hQ.panic _ _ _ _ put_defers.symm h) (Or.inl ⟨by rfl, fun w' hw' => by go_simp; with_reducible rfl⟩) HSS.out ?_
  try simp only [Act.put, List.setIfInBounds_toArray, List.set_cons_succ, List.set_cons_zero]
  refine wpAnyH_take (i := 2) (oi := ⟨some 173, _, _, _, _, _⟩) (v := ?_) rfl (by kernel_rfl) (by kernel_rfl) (by kernel_rfl) (fun _ _ _ h => hQ.panic _ _ _ _ put_defers.symm h) (Or.inl ⟨by rfl, fun w' hw' => by go_simp; with_reducible rfl⟩) HSS.out ?_
  try simp only [Act.put, List.setIfInBounds_toArray, List.set_cons_succ, List.set_cons_zero]
  refine wpAnyH_take (i := 3) (oi := ⟨some 174, _, _, _, _, _⟩) (v := ?_) rfl (by kernel_rfl) (by kernel_rfl) (by kernel_rfl) (fun _ _ _ h => hQ.panic _ _ _ _ put_defers.symm h) (Or.inl ⟨by rfl, fun w' hw' => by go_simp; with_reducible rfl⟩) HSS.out ?_
  try simp only [Act.put, List.setIfInBounds_toArray, List.set_cons_succ, List.set_cons_zero]
  refine wpAnyH_take (i := 4) (oi := ⟨some 175, _, _, _, _, some _⟩) (v := .agg (arr32 e2)) rfl (by kernel_rfl) (by kernel_rfl) (by kernel_rfl) (fun _ _ _ h => hQ.panic _ _ _ _ put_defers.symm h) (yieldsIf_load_g ⟨g2, 0, none⟩ _ _ (fun w hw => (HRe2.out.below hw HRe2.out.lt).row) Tryd.underlying26 HIe.out rfl rfl rfl) HSS.out ?_
  try simp only [Act.put, List.setIfInBounds_toArray, List.set_cons_succ, List.set_cons_zero]
  refine wpAnyH_all (rs := [5]) (by kernel_rfl) (by simp) ?_
  intro i hi
  obtain rfl : i = 5 := by simpa using hi
  refine wpOp_step (o := ⟨some 176, _, _, _, _, _⟩) rfl (fun K' hK' => ?_)
  rw [if_pos (show Region.wanted _ _ = true from rfl)]
  refine opw_slices 26 i0 _ [arr32 e2] Tryd.underlying49 hi0 hz0 (fun c hc => by rw [List.mem_singleton.1 hc]; exact HSe.out) rfl (by omega) (by omega) (by simp [Act.eval, List.zipIdx]) ?_
  refine hK' _ _ ⟨HSS.out.alloc HSS.out.size _, ?_⟩
  refine gen_world (P := fun W => wpAnyH _ _ _ _ _ _ _ _ W) (I := fun W => Below U.heap.size U W ∧ Calls Tryd.prog 37 #[.slice a1 1 c1, .slice (some ⟨Ud.heap.size, 0, none⟩) 1 1] W fun e w' => e = .returned (.bool true) ∧ Below Ud.heap.size Ud w') _ ⟨HSS.out.alloc HSS.out.size _, equal_new1 e2 a1 c1 Ud (hA1.below HSS.out) HOk1.out⟩ ?_
  rintro W1 ⟨hw1, he1⟩
  have HW1 := Lib.hid hw1
  have HE1 := Lib.hid he1
  clear hK' K' hw1 _he1
  try simp only [Act.put, List.setIfInBounds_toArray, List.set_cons_succ, List.set_cons_zero]
  refine wpAnyH_all (rs := [6]) (by kernel_rfl) (by simp) ?_
  intro i hi
  obtain rfl : i = 6 := by simpa using hi
  refine wpOp_step (o := ⟨some 177, _, _, _, _, _⟩) rfl (fun K' hK' => ?_)
  rw [if_pos (show Region.wanted _ _ = true from rfl)]
  go_simp
  (with_reducible refine HE1.out.mono ?_)
  rintro e u1 ⟨rfl, hb1⟩
  have HS1' := Lib.hid (HSS.out.trans (hb1.mono HSS.out.size))
  clear hb1
  refine hK' _ _ ⟨HS1'.out, ?_⟩
  clear hK' K'
  try simp only [Act.put, List.setIfInBounds_toArray, List.set_cons_succ, List.set_cons_zero]
  refine wpAnyH_take (i := 7) (oi := ⟨some 178, _, _, _, _, _⟩) (v := ?_) rfl (by kernel_rfl) (by kernel_rfl) (by kernel_rfl) (fun _ _ _ h => hQ.panic _ _ _ _ put_defers.symm h) (Or.inl ⟨by rfl, fun w' hw' => by go_simp; with_reducible rfl⟩) HS1'.out ?_
  try simp only [Act.put, List.setIfInBounds_toArray, List.set_cons_succ, List.set_cons_zero]
  refine wpAnyH_take (i := 8) (oi := ⟨some 179, _, _, _, _, _⟩) (v := ?_) rfl (by kernel_rfl) (by kernel_rfl) (by kernel_rfl) (fun _ _ _ h => hQ.panic _ _ _ _ put_defers.symm h) (Or.inl ⟨by rfl, fun w' hw' => by go_simp; with_reducible rfl⟩) HS1'.out ?_
  try simp only [Act.put, List.setIfInBounds_toArray, List.set_cons_succ, List.set_cons_zero]
  refine wpAnyH_take (i := 9) (oi := ⟨some 180, _, _, _, _, _⟩) (v := ?_) rfl (by kernel_rfl) (by kernel_rfl) (by kernel_rfl) (fun _ _ _ h => hQ.panic _ _ _ _ put_defers.symm h) (Or.inl ⟨by rfl, fun w' hw' => by go_simp; with_reducible rfl⟩) HS1'.out ?_
  try simp only [Act.put, List.setIfInBounds_toArray, List.set_cons_succ, List.set_cons_zero]
  refine wpAnyH_take (i := 10) (oi := ⟨some 181, _, _, _, _, _⟩) (v := ?_) rfl (by kernel_rfl) (by kernel_rfl) (by kernel_rfl) (fun _ _ _ h => hQ.panic _ _ _ _ put_defers.symm h) (Or.inl ⟨by rfl, fun w' hw' => by go_simp; with_reducible rfl⟩) HS1'.out ?_
  try simp only [Act.put, List.setIfInBounds_toArray, List.set_cons_succ, List.set_cons_zero]
  refine wpAnyH_take (i := 11) (oi := ⟨some 182, _, _, _, _, _⟩) (v := ?_) rfl (by kernel_rfl) (by kernel_rfl) (by kernel_rfl) (fun _ _ _ h => hQ.panic _ _ _ _ put_defers.symm h) (Or.inl ⟨by rfl, fun w' hw' => by go_simp; with_reducible rfl⟩) HS1'.out ?_
  try simp only [Act.put, List.setIfInBounds_toArray, List.set_cons_succ, List.set_cons_zero]
  refine wpAnyH_take (i := 12) (oi := ⟨some 183, _, _, _, _, _⟩) (v := ?_) rfl (by kernel_rfl) (by kernel_rfl) (by kernel_rfl) (fun _ _ _ h => hQ.panic _ _ _ _ put_defers.symm h) (Or.inl ⟨by rfl, fun w' hw' => by go_simp; with_reducible rfl⟩) HS1'.out ?_
  try simp only [Act.put, List.setIfInBounds_toArray, List.set_cons_succ, List.set_cons_zero]
  refine wpAnyH_take (i := 13) (oi := ⟨some 184, _, _, _, _, _⟩) (v := ?_) rfl (by kernel_rfl) (by kernel_rfl) (by kernel_rfl) (fun _ _ _ h => hQ.panic _ _ _ _ put_defers.symm h) (Or.inl ⟨by rfl, fun w' hw' => by go_simp; with_reducible rfl⟩) HS1'.out ?_
  try simp only [Act.put, List.setIfInBounds_toArray, List.set_cons_succ, List.set_cons_zero]
  refine wpAnyH_take (i := 14) (oi := ⟨some 185, _, _, _, _, _⟩) (v := ?_) rfl (by kernel_rfl) (by kernel_rfl) (by kernel_rfl) (fun _ _ _ h => hQ.panic _ _ _ _ put_defers.symm h) (Or.inl ⟨by rfl, fun w' hw' => by go_simp; with_reducible rfl⟩) HS1'.out ?_
  try simp only [Act.put, List.setIfInBounds_toArray, List.set_cons_succ, List.set_cons_zero]
  refine wpAnyH_take (i := 15) (oi := ⟨some 186, _, _, _, _, _⟩) (v := ?_) rfl (by kernel_rfl) (by kernel_rfl) (by kernel_rfl) (fun _ _ _ h => hQ.panic _ _ _ _ put_defers.symm h) (Or.inl ⟨by rfl, fun w' hw' => by go_simp; with_reducible rfl⟩) HS1'.out ?_
  try simp only [Act.put, List.setIfInBounds_toArray, List.set_cons_succ, List.set_cons_zero]
  refine wpAnyH_take (i := 17) (oi := ⟨some 188, _, _, _, _, _⟩) (v := ?_) rfl (by kernel_rfl) (by kernel_rfl) (by kernel_rfl) (fun _ _ _ h => hQ.panic _ _ _ _ put_defers.symm h) (Or.inl ⟨by rfl, fun w' hw' => by go_simp; with_reducible rfl⟩) HS1'.out ?_
  try simp only [Act.put, List.setIfInBounds_toArray, List.set_cons_succ, List.set_cons_zero]
  refine wpAnyH_take (i := 18) (oi := ⟨some 189, _, _, _, _, _⟩) (v := ?_) rfl (by kernel_rfl) (by kernel_rfl) (by kernel_rfl) (fun _ _ _ h => hQ.panic _ _ _ _ put_defers.symm h) (Or.inl ⟨by rfl, fun w' hw' => by go_simp; with_reducible rfl⟩) HS1'.out ?_
  try simp only [Act.put, List.setIfInBounds_toArray, List.set_cons_succ, List.set_cons_zero]
  refine wpAnyH_all (rs := [16]) (by kernel_rfl) (by simp) ?_
  intro i hi
  obtain rfl : i = 16 := by simpa using hi
  refine wpOp_step (o := ⟨some 187, _, _, _, _, _⟩) rfl (fun K' hK' => ?_)
  rw [if_pos (show Region.wanted _ _ = true from rfl)]
  go_simp
  (with_reducible refine (HF1.out u1 HS1'.out).mono ?_)
  rintro e u2 ⟨rfl, _, hb2⟩
  have HS2' := Lib.hid (HS1'.out.trans (hb2.mono HS1'.out.size))
  clear hb2
  refine hK' _ _ ⟨HS2'.out, ?_⟩
  clear hK' K'
  try simp only [Act.put, List.setIfInBounds_toArray, List.set_cons_succ, List.set_cons_zero]
  refine wpAnyH_all (rs := [19]) (by kernel_rfl) (by simp) ?_
  intro i hi
  obtain rfl : i = 19 := by simpa using hi
  refine wpOp_step (o := ⟨some 190, _, _, _, _, _⟩) rfl (fun K' hK' => ?_)
  rw [if_pos (show Region.wanted _ _ = true from rfl)]
  go_simp
  (with_reducible refine (HF2.out u2 HS2'.out).mono ?_)
  rintro e u3 ⟨rfl, _, hb3⟩
  have HS3' := Lib.hid (HS2'.out.trans (hb3.mono HS2'.out.size))
  clear hb3
  refine hK' _ _ ⟨HS3'.out, ?_⟩
  clear hK' K'
  try simp only [Act.put, List.setIfInBounds_toArray, List.set_cons_succ, List.set_cons_zero]
  refine wpAnyH_all (rs := [20]) (by kernel_rfl) (by simp) ?_
  intro i hi
  obtain rfl : i = 20 := by simpa using hi
  refine wpOp_step (o := ⟨some 191, _, _, _, _, _⟩) rfl (fun K' hK' => ?_)
  rw [if_pos (show Region.wanted _ _ = true from rfl)]
  refine opw_slices 26 i0 _ [arr32 f1, arr32 f2] Tryd.underlying49 hi0 hz0 (fun c hc => by
    simp only [List.mem_cons, List.not_mem_nil, or_false] at hc
    rcases hc with rfl | rfl
    · exact HS1.out
    · exact HS2.out) rfl (by omega) (by omega) (by simp [Act.eval, List.zipIdx]) ?_
  refine hK' _ _ ⟨HS3'.out.alloc HS3'.out.size _, ?_⟩
  refine gen_world (P := fun W => wpAnyH _ _ _ _ _ _ _ _ W) (I := fun W => Below U.heap.size U W ∧ Calls Tryd.prog 37 #[.slice a2 2 c2, .slice (some ⟨u3.heap.size, 0, none⟩) 2 2] W fun e w' => e = .returned (.bool true) ∧ Below u3.heap.size u3 w') _ ⟨HS3'.out.alloc HS3'.out.size _, equal_new2 f1 f2 a2 c2 u3 (hA2.below HS3'.out) HOk2.out⟩ ?_
  rintro W2 ⟨hw2, he2⟩
  have HW2 := Lib.hid hw2
  have HE2 := Lib.hid he2
  clear hK' K' hw2 he2
  try simp only [Act.put, List.setIfInBounds_toArray, List.set_cons_succ, List.set_cons_zero]
  refine wpAnyH_all (rs := [21]) (by kernel_rfl) (by simp) ?_
  intro i hi
  obtain rfl : i = 21 := by simpa using hi
  refine wpOp_step (o := ⟨some 192, _, _, _, _, _⟩) rfl (fun K' hK' => ?_)
  rw [if_pos (show Region.wanted _ _ = true from rfl)]
  go_simp
  (with_reducible refine HE2.out.mono ?_)
  rintro e u4 ⟨rfl, hb4⟩
  have HS4' := Lib.hid (HS3'.out.trans (hb4.mono HS3'.out.size))
  clear hb4
  refine hK' _ _ ⟨HS4'.out, ?_⟩
  clear hK' K'
  try simp only [Act.put, List.setIfInBounds_toArray, List.set_cons_succ, List.set_cons_zero]
  refine wpAnyH_take (i := 22) (oi := ⟨some 193, _, _, _, _, _⟩) (v := ?_) rfl (by kernel_rfl) (by kernel_rfl) (by kernel_rfl) (fun _ _ _ h => hQ.panic _ _ _ _ put_defers.symm h) (Or.inl ⟨by rfl, fun w' hw' => by go_simp; with_reducible rfl⟩) HS4'.out ?_
  try simp only [Act.put, List.setIfInBounds_toArray, List.set_cons_succ, List.set_cons_zero]
  refine wpAnyH_take (i := 23) (oi := ⟨some 194, _, _, _, _, _⟩) (v := ?_) rfl (by kernel_rfl) (by kernel_rfl) (by kernel_rfl) (fun _ _ _ h => hQ.panic _ _ _ _ put_defers.symm h) (Or.inl ⟨by rfl, fun w' hw' => by go_simp; with_reducible rfl⟩) HS4'.out ?_
  try simp only [Act.put, List.setIfInBounds_toArray, List.set_cons_succ, List.set_cons_zero]
  refine wpAnyH_take (i := 24) (oi := ⟨some 195, _, _, _, _, _⟩) (v := ?_) rfl (by kernel_rfl) (by kernel_rfl) (by kernel_rfl) (fun _ _ _ h => hQ.panic _ _ _ _ put_defers.symm h) (Or.inl ⟨by rfl, fun w' hw' => by go_simp; with_reducible rfl⟩) HS4'.out ?_
  try simp only [Act.put, List.setIfInBounds_toArray, List.set_cons_succ, List.set_cons_zero]
  refine wpAnyH_take (i := 25) (oi := ⟨some 196, _, _, _, _, _⟩) (v := ?_) rfl (by kernel_rfl) (by kernel_rfl) (by kernel_rfl) (fun _ _ _ h => hQ.panic _ _ _ _ put_defers.symm h) (Or.inl ⟨by rfl, fun w' hw' => by go_simp; with_reducible rfl⟩) HS4'.out ?_
  try simp only [Act.put, List.setIfInBounds_toArray, List.set_cons_succ, List.set_cons_zero]
  refine wpAnyH_take (i := 26) (oi := ⟨some 197, _, _, _, _, _⟩) (v := ?_) rfl (by kernel_rfl) (by kernel_rfl) (by kernel_rfl) (fun _ _ _ h => hQ.panic _ _ _ _ put_defers.symm h) (Or.inl ⟨by rfl, fun w' hw' => by go_simp; with_reducible rfl⟩) HS4'.out ?_
  try simp only [Act.put, List.setIfInBounds_toArray, List.set_cons_succ, List.set_cons_zero]
  refine wpAnyH_take (i := 27) (oi := ⟨some 198, _, _, _, _, _⟩) (v := ?_) rfl (by kernel_rfl) (by kernel_rfl) (by kernel_rfl) (fun _ _ _ h => hQ.panic _ _ _ _ put_defers.symm h) (Or.inl ⟨by rfl, fun w' hw' => by go_simp; with_reducible rfl⟩) HS4'.out ?_
  try simp only [Act.put, List.setIfInBounds_toArray, List.set_cons_succ, List.set_cons_zero]
  refine wpAnyH_take (i := 28) (oi := ⟨some 199, _, _, _, _, _⟩) (v := ?_) rfl (by kernel_rfl) (by kernel_rfl) (by kernel_rfl) (fun _ _ _ h => hQ.panic _ _ _ _ put_defers.symm h) (Or.inl ⟨by rfl, fun w' hw' => by go_simp; with_reducible rfl⟩) HS4'.out ?_
  try simp only [Act.put, List.setIfInBounds_toArray, List.set_cons_succ, List.set_cons_zero]
  refine wpAnyH_take (i := 29) (oi := ⟨some 200, _, _, _, _, _⟩) (v := ?_) rfl (by kernel_rfl) (by kernel_rfl) (by kernel_rfl) (fun _ _ _ h => hQ.panic _ _ _ _ put_defers.symm h) (Or.inl ⟨by rfl, fun w' hw' => by have x0 := ((HT.out.below hw' HT.out.lt).cell 0).trans (show (#[Value.int .i64 3, Value.slice ta 2 tc] : Array Value)[0]? = some (.int .i64 3) from rfl); go_simp; with_reducible rfl⟩) HS4'.out ?_
  try simp only [Act.put, List.setIfInBounds_toArray, List.set_cons_succ, List.set_cons_zero]
  refine wpAnyH_take (i := 30) (oi := ⟨some 201, _, _, _, _, _⟩) (v := ?_) rfl (by kernel_rfl) (by kernel_rfl) (by kernel_rfl) (fun _ _ _ h => hQ.panic _ _ _ _ put_defers.symm h) (Or.inl ⟨by rfl, fun w' hw' => by go_simp; with_reducible rfl⟩) HS4'.out ?_
  try simp only [Act.put, List.setIfInBounds_toArray, List.set_cons_succ, List.set_cons_zero]
  refine wpAnyH_take (i := 31) (oi := ⟨some 202, _, _, _, _, _⟩) (v := ?_) rfl (by kernel_rfl) (by kernel_rfl) (by kernel_rfl) (fun _ _ _ h => hQ.panic _ _ _ _ put_defers.symm h) (Or.inl ⟨by rfl, fun w' hw' => by go_simp; with_reducible rfl⟩) HS4'.out ?_
  try simp only [Act.put, List.setIfInBounds_toArray, List.set_cons_succ, List.set_cons_zero]
  refine wpAnyH_take (i := 32) (oi := ⟨some 203, _, _, _, _, _⟩) (v := ?_) rfl (by kernel_rfl) (by kernel_rfl) (by kernel_rfl) (fun _ _ _ h => hQ.panic _ _ _ _ put_defers.symm h) (Or.inl ⟨by rfl, fun w' hw' => by go_simp; with_reducible rfl⟩) HS4'.out ?_
  try simp only [Act.put, List.setIfInBounds_toArray, List.set_cons_succ, List.set_cons_zero]
  refine wpAnyH_take (i := 33) (oi := ⟨some 204, _, _, _, _, _⟩) (v := ?_) rfl (by kernel_rfl) (by kernel_rfl) (by kernel_rfl) (fun _ _ _ h => hQ.panic _ _ _ _ put_defers.symm h) (Or.inl ⟨by rfl, fun w' hw' => by go_simp; with_reducible rfl⟩) HS4'.out ?_
  try simp only [Act.put, List.setIfInBounds_toArray, List.set_cons_succ, List.set_cons_zero]
  refine wpAnyH_take (i := 34) (oi := ⟨some 205, _, _, _, _, _⟩) (v := ?_) rfl (by kernel_rfl) (by kernel_rfl) (by kernel_rfl) (fun _ _ _ h => hQ.panic _ _ _ _ put_defers.symm h) (Or.inl ⟨by rfl, fun w' hw' => by have x0 := ((HT.out.below hw' HT.out.lt).cell 1).trans (show (#[Value.int .i64 3, Value.slice ta 2 tc] : Array Value)[1]? = some (.slice ta 2 tc) from rfl); go_simp; with_reducible rfl⟩) HS4'.out ?_
  try simp only [Act.put, List.setIfInBounds_toArray, List.set_cons_succ, List.set_cons_zero]
  refine wpAnyH_take (i := 35) (oi := ⟨some 206, _, _, _, _, _⟩) (v := ?_) rfl (by kernel_rfl) (by kernel_rfl) (by kernel_rfl) (fun _ _ _ h => hQ.panic _ _ _ _ put_defers.symm h) (Or.inl ⟨by rfl, fun w' hw' => by go_simp; with_reducible rfl⟩) HS4'.out ?_
  try simp only [Act.put, List.setIfInBounds_toArray, List.set_cons_succ, List.set_cons_zero]
  refine wpAnyH_take (i := 36) (oi := ⟨some 207, _, _, _, _, _⟩) (v := ?_) rfl (by kernel_rfl) (by kernel_rfl) (by kernel_rfl) (fun _ _ _ h => hQ.panic _ _ _ _ put_defers.symm h) (Or.inl ⟨by rfl, fun w' hw' => by go_simp; with_reducible rfl⟩) HS4'.out ?_
  try simp only [Act.put, List.setIfInBounds_toArray, List.set_cons_succ, List.set_cons_zero]
  refine wpAnyH_take (i := 37) (oi := ⟨some 208, _, _, _, _, _⟩) (v := ?_) rfl (by kernel_rfl) (by kernel_rfl) (by kernel_rfl) (fun _ _ _ h => hQ.panic _ _ _ _ put_defers.symm h) (Or.inl ⟨by rfl, fun w' hw' => by go_simp; with_reducible rfl⟩) HS4'.out ?_
  try simp only [Act.put, List.setIfInBounds_toArray, List.set_cons_succ, List.set_cons_zero]
  refine wpAnyH_take (i := 38) (oi := ⟨some 209, _, _, _, _, _⟩) (v := ?_) rfl (by kernel_rfl) (by kernel_rfl) (by kernel_rfl) (fun _ _ _ h => hQ.panic _ _ _ _ put_defers.symm h) (Or.inl ⟨by rfl, fun w' hw' => by go_simp; with_reducible rfl⟩) HS4'.out ?_
  try simp only [Act.put, List.setIfInBounds_toArray, List.set_cons_succ, List.set_cons_zero]
  refine wpAnyH_take (i := 39) (oi := ⟨some 210, _, _, _, _, _⟩) (v := ?_) rfl (by kernel_rfl) (by kernel_rfl) (by kernel_rfl) (fun _ _ _ h => hQ.panic _ _ _ _ put_defers.symm h) (Or.inl ⟨by rfl, fun w' hw' => by go_simp; with_reducible rfl⟩) HS4'.out ?_
  try simp only [Act.put, List.setIfInBounds_toArray, List.set_cons_succ, List.set_cons_zero]
  refine wpAnyH_take (i := 40) (oi := ⟨some 211, _, _, _, _, _⟩) (v := ?_) rfl (by kernel_rfl) (by kernel_rfl) (by kernel_rfl) (fun _ _ _ h => hQ.panic _ _ _ _ put_defers.symm h) (Or.inl ⟨by rfl, fun w' hw' => by go_simp; with_reducible rfl⟩) HS4'.out ?_
  try simp only [Act.put, List.setIfInBounds_toArray, List.set_cons_succ, List.set_cons_zero]
  refine wpAnyH_take (i := 41) (oi := ⟨some 212, _, _, _, _, _⟩) (v := ?_) rfl (by kernel_rfl) (by kernel_rfl) (by kernel_rfl) (fun _ _ _ h => hQ.panic _ _ _ _ put_defers.symm h) (Or.inl ⟨by rfl, fun w' hw' => by go_simp; with_reducible rfl⟩) HS4'.out ?_
  try simp only [Act.put, List.setIfInBounds_toArray, List.set_cons_succ, List.set_cons_zero]
  refine wpAnyH_take (i := 42) (oi := ⟨some 213, _, _, _, _, _⟩) (v := ?_) rfl (by kernel_rfl) (by kernel_rfl) (by kernel_rfl) (fun _ _ _ h => hQ.panic _ _ _ _ put_defers.symm h) (Or.inl ⟨by rfl, fun w' hw' => by go_simp; with_reducible rfl⟩) HS4'.out ?_
  try simp only [Act.put, List.setIfInBounds_toArray, List.set_cons_succ, List.set_cons_zero]
  refine wpAnyH_take (i := 43) (oi := ⟨some 214, _, _, _, _, _⟩) (v := ?_) rfl (by kernel_rfl) (by kernel_rfl) (by kernel_rfl) (fun _ _ _ h => hQ.panic _ _ _ _ put_defers.symm h) (Or.inl ⟨by rfl, fun w' hw' => by go_simp; with_reducible rfl⟩) HS4'.out ?_
  try simp only [Act.put, List.setIfInBounds_toArray, List.set_cons_succ, List.set_cons_zero]
  refine wpAnyH_take (i := 44) (oi := ⟨some 215, _, _, _, _, _⟩) (v := ?_) rfl (by kernel_rfl) (by kernel_rfl) (by kernel_rfl) (fun _ _ _ h => hQ.panic _ _ _ _ put_defers.symm h) (Or.inl ⟨by rfl, fun w' hw' => by go_simp; with_reducible rfl⟩) HS4'.out ?_
  try simp only [Act.put, List.setIfInBounds_toArray, List.set_cons_succ, List.set_cons_zero]
  refine wpAnyH_take (i := 45) (oi := ⟨some 216, _, _, _, _, _⟩) (v := ?_) rfl (by kernel_rfl) (by kernel_rfl) (by kernel_rfl) (fun _ _ _ h => hQ.panic _ _ _ _ put_defers.symm h) (Or.inl ⟨by rfl, fun w' hw' => by go_simp; with_reducible rfl⟩) HS4'.out ?_
  try simp only [Act.put, List.setIfInBounds_toArray, List.set_cons_succ, List.set_cons_zero]
  refine wpAnyH_take (i := 46) (oi := ⟨some 217, _, _, _, _, _⟩) (v := ?_) rfl (by kernel_rfl) (by kernel_rfl) (by kernel_rfl) (fun _ _ _ h => hQ.panic _ _ _ _ put_defers.symm h) (Or.inl ⟨by rfl, fun w' hw' => by go_simp; with_reducible rfl⟩) HS4'.out ?_
  try simp only [Act.put, List.setIfInBounds_toArray, List.set_cons_succ, List.set_cons_zero]
  refine wpAnyH_take (i := 47) (oi := ⟨some 218, _, _, _, _, _⟩) (v := ?_) rfl (by kernel_rfl) (by kernel_rfl) (by kernel_rfl) (fun _ _ _ h => hQ.panic _ _ _ _ put_defers.symm h) (Or.inl ⟨by rfl, fun w' hw' => by go_simp; with_reducible rfl⟩) HS4'.out ?_
  try simp only [Act.put, List.setIfInBounds_toArray, List.set_cons_succ, List.set_cons_zero]
  refine wpAnyH_take (i := 48) (oi := ⟨some 219, _, _, _, _, _⟩) (v := ?_) rfl (by kernel_rfl) (by kernel_rfl) (by kernel_rfl) (fun _ _ _ h => hQ.panic _ _ _ _ put_defers.symm h) (Or.inl ⟨by rfl, fun w' hw' => by have x0 := ((HSt.out.has.below hw' HSt.out.has.lt).cell 8).trans (state_cell8 _ _); go_simp; with_reducible rfl⟩) HS4'.out ?_
  try simp only [Act.put, List.setIfInBounds_toArray, List.set_cons_succ, List.set_cons_zero]
  refine wpAnyH_take (i := 49) (oi := ⟨some 220, _, _, _, _, _⟩) (v := ?_) rfl (by kernel_rfl) (by kernel_rfl) (by kernel_rfl) (fun _ _ _ h => hQ.panic _ _ _ _ put_defers.symm h) (Or.inl ⟨by rfl, fun w' hw' => by have x0 := conv_abc w' g4 o4 c4 (fun i hi => (hw'.cell hg4).trans (HB4.out i hi)); go_simp; with_reducible rfl⟩) HS4'.out ?_
  try simp only [Act.put, List.setIfInBounds_toArray, List.set_cons_succ, List.set_cons_zero]
  refine wpAnyH_take (i := 50) (oi := ⟨some 221, _, _, _, _, _⟩) (v := ?_) rfl (by kernel_rfl) (by kernel_rfl) (by kernel_rfl) (fun _ _ _ h => hQ.panic _ _ _ _ put_defers.symm h) (Or.inl ⟨by rfl, fun w' hw' => by go_simp; with_reducible rfl⟩) HS4'.out ?_
  try simp only [Act.put, List.setIfInBounds_toArray, List.set_cons_succ, List.set_cons_zero]
  refine wpAnyH_take (i := 51) (oi := ⟨some 222, _, _, _, _, _⟩) (v := ?_) rfl (by kernel_rfl) (by kernel_rfl) (by kernel_rfl) (fun _ _ _ h => hQ.panic _ _ _ _ put_defers.symm h) (Or.inl ⟨by rfl, fun w' hw' => by go_simp; with_reducible rfl⟩) HS4'.out ?_
  try simp only [Act.put, List.setIfInBounds_toArray, List.set_cons_succ, List.set_cons_zero]
  refine wpAnyH_take (i := 52) (oi := ⟨some 223, _, _, _, _, _⟩) (v := ?_) rfl (by kernel_rfl) (by kernel_rfl) (by kernel_rfl) (fun _ _ _ h => hQ.panic _ _ _ _ put_defers.symm h) (Or.inl ⟨by rfl, fun w' hw' => by go_simp; with_reducible rfl⟩) HS4'.out ?_
  try simp only [Act.put, List.setIfInBounds_toArray, List.set_cons_succ, List.set_cons_zero]
  refine wpAnyH_take (i := 53) (oi := ⟨some 224, _, _, _, _, _⟩) (v := ?_) rfl (by kernel_rfl) (by kernel_rfl) (by kernel_rfl) (fun _ _ _ h => hQ.panic _ _ _ _ put_defers.symm h) (Or.inl ⟨by rfl, fun w' hw' => by go_simp; with_reducible rfl⟩) HS4'.out ?_
  try simp only [Act.put, List.setIfInBounds_toArray, List.set_cons_succ, List.set_cons_zero]
  refine wpAnyH_take (i := 54) (oi := ⟨some 225, _, _, _, _, _⟩) (v := ?_) rfl (by kernel_rfl) (by kernel_rfl) (by kernel_rfl) (fun _ _ _ h => hQ.panic _ _ _ _ put_defers.symm h) (Or.inl ⟨by rfl, fun w' hw' => by have x0 := ((HSt.out.has.below hw' HSt.out.has.lt).cell 9).trans (state_cell9 _ _); go_simp; with_reducible rfl⟩) HS4'.out ?_
  try simp only [Act.put, List.setIfInBounds_toArray, List.set_cons_succ, List.set_cons_zero]
  refine wpAnyH_take (i := 55) (oi := ⟨some 226, _, _, _, _, _⟩) (v := ?_) rfl (by kernel_rfl) (by kernel_rfl) (by kernel_rfl) (fun _ _ _ h => hQ.panic _ _ _ _ put_defers.symm h) (Or.inl ⟨by rfl, fun w' hw' => by go_simp; with_reducible rfl⟩) HS4'.out ?_
  try simp only [Act.put, List.setIfInBounds_toArray, List.set_cons_succ, List.set_cons_zero]
  refine wpAnyH_take (i := 56) (oi := ⟨some 227, _, _, _, _, _⟩) (v := ?_) rfl (by kernel_rfl) (by kernel_rfl) (by kernel_rfl) (fun _ _ _ h => hQ.panic _ _ _ _ put_defers.symm h) (Or.inl ⟨by rfl, fun w' hw' => by go_simp; with_reducible rfl⟩) HS4'.out ?_
  try simp only [Act.put, List.setIfInBounds_toArray, List.set_cons_succ, List.set_cons_zero]
  refine wpAnyH_take (i := 57) (oi := ⟨some 228, _, _, _, _, _⟩) (v := ?_) rfl (by kernel_rfl) (by kernel_rfl) (by kernel_rfl) (fun _ _ _ h => hQ.panic _ _ _ _ put_defers.symm h) (Or.inl ⟨by rfl, fun w' hw' => by go_simp; with_reducible rfl⟩) HS4'.out ?_
  try simp only [Act.put, List.setIfInBounds_toArray, List.set_cons_succ, List.set_cons_zero]
  refine wpAnyH_take (i := 58) (oi := ⟨some 229, _, _, _, _, _⟩) (v := ?_) rfl (by kernel_rfl) (by kernel_rfl) (by kernel_rfl) (fun _ _ _ h => hQ.panic _ _ _ _ put_defers.symm h) (Or.inl ⟨by rfl, fun w' hw' => by go_simp; with_reducible rfl⟩) HS4'.out ?_
  try simp only [Act.put, List.setIfInBounds_toArray, List.set_cons_succ, List.set_cons_zero]
  refine wpAnyH_take (i := 59) (oi := ⟨some 230, _, _, _, _, _⟩) (v := ?_) rfl (by kernel_rfl) (by kernel_rfl) (by kernel_rfl) (fun _ _ _ h => hQ.panic _ _ _ _ put_defers.symm h) (Or.inl ⟨by rfl, fun w' hw' => by go_simp; with_reducible rfl⟩) HS4'.out ?_
  try simp only [Act.put, List.setIfInBounds_toArray, List.set_cons_succ, List.set_cons_zero]
  refine wpAnyH_take (i := 60) (oi := ⟨some 231, _, _, _, _, _⟩) (v := ?_) rfl (by kernel_rfl) (by kernel_rfl) (by kernel_rfl) (fun _ _ _ h => hQ.panic _ _ _ _ put_defers.symm h) (Or.inl ⟨by rfl, fun w' hw' => by go_simp; with_reducible rfl⟩) HS4'.out ?_
  try simp only [Act.put, List.setIfInBounds_toArray, List.set_cons_succ, List.set_cons_zero]
  refine wpAnyH_take (i := 61) (oi := ⟨some 232, _, _, _, _, _⟩) (v := ?_) rfl (by kernel_rfl) (by kernel_rfl) (by kernel_rfl) (fun _ _ _ h => hQ.panic _ _ _ _ put_defers.symm h) (Or.inl ⟨by rfl, fun w' hw' => by go_simp; with_reducible rfl⟩) HS4'.out ?_
  try simp only [Act.put, List.setIfInBounds_toArray, List.set_cons_succ, List.set_cons_zero]
  refine wpAnyH_take (i := 62) (oi := ⟨some 233, _, _, _, _, some _⟩) (v := .agg (arr32 d1)) rfl (by kernel_rfl) (by kernel_rfl) (by kernel_rfl) (fun _ _ _ h => hQ.panic _ _ _ _ put_defers.symm h) (yieldsIf_load_g ⟨x0, 0, none⟩ _ _ (fun w hw => (HD.out.below hw HD.out.lt).row) Tryd.underlying26 HId.out rfl rfl rfl) HS4'.out ?_
  try simp only [Act.put, List.setIfInBounds_toArray, List.set_cons_succ, List.set_cons_zero]
  refine wpAnyH_all (rs := [63]) (by kernel_rfl) (by simp) ?_
  intro i hi
  obtain rfl : i = 63 := by simpa using hi
  refine wpOp_step (o := ⟨some 234, _, _, _, _, _⟩) rfl (fun K' hK' => ?_)
  rw [if_pos (show Region.wanted _ _ = true from rfl)]
  go_simp
  refine hK' _ _ ⟨HS4'.out.alloc HS4'.out.size _, ?_⟩
  clear hK' K'
  try simp only [Act.put, List.setIfInBounds_toArray, List.set_cons_succ, List.set_cons_zero]
  refine wpAnyH_all (rs := [64]) (by kernel_rfl) (by simp) ?_
  intro i hi
  obtain rfl : i = 64 := by simpa using hi
  refine wpOp_step (o := ⟨some 235, _, _, _, _, _⟩) rfl (fun K' hK' => ?_)
  rw [if_pos (show Region.wanted _ _ = true from rfl)]
  go_simp
  refine hK' _ _ ⟨HS4'.out.alloc HS4'.out.size _, ?_⟩
  clear hK' K'
  try simp only [Act.put, List.setIfInBounds_toArray, List.set_cons_succ, List.set_cons_zero]
  refine wpAnyH_all (rs := [65]) (by kernel_rfl) (by simp) ?_
  intro i hi
  obtain rfl : i = 65 := by simpa using hi
  refine wpOp_step (o := ⟨some 236, _, _, _, _, _⟩) rfl (fun K' hK' => ?_)
  rw [if_pos (show Region.wanted _ _ = true from rfl)]
  go_simp
  (with_reducible refine (of_abc u4 (HCU.out.below HS4'.out rfl) d1 HD1).mono ?_)
  rintro e u5 ⟨rfl, _, hb5⟩
  have HS5' := Lib.hid (HS4'.out.trans (hb5.mono HS4'.out.size))
  clear hb5
  refine hK' _ _ ⟨HS5'.out, ?_⟩
  clear hK' K'
  try simp only [Act.put, List.setIfInBounds_toArray, List.set_cons_succ, List.set_cons_zero]
  refine wpAnyH_take (i := 66) (oi := ⟨some 237, _, _, _, _, _⟩) (v := ?_) rfl (by kernel_rfl) (by kernel_rfl) (by kernel_rfl) (fun _ _ _ h => hQ.panic _ _ _ _ put_defers.symm h) (Or.inl ⟨by rfl, fun w' hw' => by go_simp; with_reducible rfl⟩) HS5'.out ?_
  try simp only [Act.put, List.setIfInBounds_toArray, List.set_cons_succ, List.set_cons_zero]
  refine wpAnyH_take (i := 67) (oi := ⟨some 238, _, _, _, _, _⟩) (v := ?_) rfl (by kernel_rfl) (by kernel_rfl) (by kernel_rfl) (fun _ _ _ h => hQ.panic _ _ _ _ put_defers.symm h) (Or.inl ⟨by rfl, fun w' hw' => by go_simp; with_reducible rfl⟩) HS5'.out ?_
  try simp only [Act.put, List.setIfInBounds_toArray, List.set_cons_succ, List.set_cons_zero]
  refine wpAnyH_take (i := 68) (oi := ⟨some 239, _, _, _, _, _⟩) (v := ?_) rfl (by kernel_rfl) (by kernel_rfl) (by kernel_rfl) (fun _ _ _ h => hQ.panic _ _ _ _ put_defers.symm h) (Or.inl ⟨by rfl, fun w' hw' => by go_simp; with_reducible rfl⟩) HS5'.out ?_
  try simp only [Act.put, List.setIfInBounds_toArray, List.set_cons_succ, List.set_cons_zero]
  refine wpAnyH_take (i := 69) (oi := ⟨some 240, _, _, _, _, _⟩) (v := ?_) rfl (by kernel_rfl) (by kernel_rfl) (by kernel_rfl) (fun _ _ _ h => hQ.panic _ _ _ _ put_defers.symm h) (Or.inl ⟨by rfl, fun w' hw' => by go_simp; with_reducible rfl⟩) HS5'.out ?_
  try simp only [Act.put, List.setIfInBounds_toArray, List.set_cons_succ, List.set_cons_zero]
  refine wpAnyH_take (i := 70) (oi := ⟨some 241, _, _, _, _, _⟩) (v := ?_) rfl (by kernel_rfl) (by kernel_rfl) (by kernel_rfl) (fun _ _ _ h => hQ.panic _ _ _ _ put_defers.symm h) (Or.inl ⟨by rfl, fun w' hw' => by go_simp; with_reducible rfl⟩) HS5'.out ?_
  try simp only [Act.put, List.setIfInBounds_toArray, List.set_cons_succ, List.set_cons_zero]
  refine wpAnyH_take (i := 71) (oi := ⟨some 242, _, _, _, _, _⟩) (v := ?_) rfl (by kernel_rfl) (by kernel_rfl) (by kernel_rfl) (fun _ _ _ h => hQ.panic _ _ _ _ put_defers.symm h) (Or.inl ⟨by rfl, fun w' hw' => by go_simp; with_reducible rfl⟩) HS5'.out ?_
  try simp only [Act.put, List.setIfInBounds_toArray, List.set_cons_succ, List.set_cons_zero]
  refine wpAnyH_take (i := 72) (oi := ⟨some 0, _, _, _, _, _⟩) (v := ?_) rfl (by kernel_rfl) (by kernel_rfl) (by kernel_rfl) (fun _ _ _ h => hQ.panic _ _ _ _ put_defers.symm h) (Or.inl ⟨by rfl, fun w' hw' => by go_simp; with_reducible rfl⟩) HS5'.out ?_
  try simp only [Act.put, List.setIfInBounds_toArray, List.set_cons_zero]
  refine wpAnyH_done (by kernel_rfl) ?_ _
  refine hK _ _ ?_
  apply wp_ret
  exact hQ.ret _ _ rfl rfl (HA.out.three.below.trans (HS5'.out.mono HA.out.three.below.size))
end Go.Proofs.YtffdkniahdekjaaDoor
end
