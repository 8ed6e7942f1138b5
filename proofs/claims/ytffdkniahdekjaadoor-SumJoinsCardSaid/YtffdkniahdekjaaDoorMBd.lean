/-
  The reference's block: the last part.
  · YtffdkniahdekjaaDoorHex
  · YtffdkniahdekjaaDoorBegins
  · YtffdkniahdekjaaDoorFind
  · SLICE LITERALS OF ARRAYS OR STRUCTS: what lies in the new block. It speaks of no program.
  · YtffdkniahdekjaaDoorProof
  · HOW MANY ONES: the sum that math/bits.OnesCount64 builds, for numbers below 2^32. It speaks of no program.
  · YtffdkniahdekjaaDoorOnesGo
  · YtffdkniahdekjaaDoorTree
  · YtffdkniahdekjaaDoorGrow
  · YtffdkniahdekjaaDoorRefConst
  · The reference's turning of a word.
-/
import Derived.Test.YtffdkniahdekjaaDoorMBb
import Derived.Laws.IdiomStrings
import Derived.Test.YtffdkniahdekjaaDoorMBc
import Derived.BigQuiet
import Derived.Shelf.SlicesQ.Load
import Derived.Test.YtffdkniahdekjaaDoorMBa
import Derived.Great.BuildSlice
import Derived.Test.YtffdkniahdekjaaDoorProg
import Derived.Laws.BitsAllLaws
import Derived.Laws.Bits128
import Derived.Deep.Cut
import Derived.Deep.QuietTactic
section
namespace Go.Proofs.YtffdkniahdekjaaDoor
open Go.RowKit Go.Hoar
/-- The letter of a digit. -/
def letter (d : Nat) : Nat := if d < 10 then 48 + d else 87 + d
theorem nib_lt {l : List Nat} (h : Sha.Bytes l) (i : Nat) : nib l i < 16 := by
  have hx := Sha.getD_lt h (by decide) (i / 2)
  unfold nib
  split <;> omega
theorem index16 (d : Nat) (hd : d < 16) (w : World) :
    (Instr.index 9 (.string ⟨#[48, 49, 50, 51, 52, 53, 54, 55, 56, 57, 97, 98, 99, 100, 101, 102]⟩) (.int .u8 (d : Int))).run Tryd.prog w = .ok (.int .u8 ((letter d : Nat) : Int)) w := by
  have h : d = 0 ∨ d = 1 ∨ d = 2 ∨ d = 3 ∨ d = 4 ∨ d = 5 ∨ d = 6 ∨ d = 7 ∨ d = 8 ∨ d = 9 ∨ d = 10 ∨ d = 11 ∨ d = 12 ∨ d = 13 ∨ d = 14 ∨ d = 15 := by omega
  rcases h with rfl | rfl | rfl | rfl | rfl | rfl | rfl | rfl | rfl | rfl | rfl | rfl | rfl | rfl | rfl | rfl
  all_goals rw [run_index_string _ _ _ _ _ Tryd.underlying9]; exact Eq.refl _
/-- The first k letters of a digest, and room for the rest. -/
def hexK (l : List Nat) (k : Nat) : List Nat := (List.range k).map (fun i => letter (nib l i)) ++ List.replicate (64 - k) 0
theorem hexK_length (l : List Nat) (k : Nat) (hk : k ≤ 64) : (hexK l k).length = 64 := by
  simp [hexK]
  omega
theorem hexK_set (l : List Nat) (k : Nat) (hk : k < 64) : ((hexK l k).map BV).toArray.setIfInBounds k (BV (letter (nib l k))) = ((hexK l (k + 1)).map BV).toArray := by
  have e : 64 - k = (64 - (k + 1)) + 1 := by omega
  simp only [List.setIfInBounds_toArray, hexK, List.map_append]
  congr 1
  rw [List.set_append_right _ _ (by simp)]
  rw [List.length_map, List.length_map, List.length_range, Nat.sub_self, e, List.replicate_succ, List.map_cons, List.set_cons_zero, List.range_succ, List.map_append, List.map_append]
  simp
def hexOf (l : List Nat) : List Nat := (List.range 64).map fun i => letter (nib l i)
theorem hex_cell (l : List Nat) (hlb : Sha.Bytes l) (j : Nat) (hj : j < 64) : ((hexK l 64).map BV).toArray[j]? = some (.int .u8 ((((hexOf l).map UInt8.ofNat)[j]'(by simpa [hexOf] using hj)).toNat : Int)) := by
  have hn := nib_lt hlb j
  have hlt : letter (nib l j) < 256 := by unfold letter; split <;> omega
  have e : hexK l 64 = hexOf l := by simp [hexK, hexOf]
  rw [e, List.getElem?_toArray, List.getElem?_map, List.getElem?_eq_getElem (by simpa [hexOf] using hj)]
  simp only [List.getElem_map, hexOf, List.getElem_range, Option.map_some, BV]
  have e2 : (UInt8.ofNat (letter (nib l j))).toNat = letter (nib l j) := by simp; omega
  rw [e2]
set_option maxRecDepth 100000 in
set_option maxHeartbeats 1000000 in
theorem hex_any (l : List Nat) (hl : l.length = 32) (hlb : Sha.Bytes l) (w : World) :
    Calls Tryd.prog 28 #[.agg (arr32 l)] w fun e w' => e = .returned (.string ⟨((hexOf l).map UInt8.ofNat).toArray⟩) ∧ Below w.heap.size w w' := by
  have hmk := make_bytes 64 (by unfold maxLen; omega) (by omega)
  have e64 : ((64 : Nat) : Int) = 64 := rfl
  rw [e64] at hmk
  have HI := Lib.hid (arr32_info l (by omega))
  go_enter Tryd.func28, Tryd.ntmps28
  go_upto_region 2 with (fail)
  refine gen_world (P := fun W => Code.wp _ _ _ _ W) (I := fun W => Below w.heap.size w W ∧ Has W w.heap.size 26 (arr32 l) ∧ Has W (w.heap.size + 1) 5 ((hexK l 0).map BV).toArray) _ ⟨((Below.refl _ w).alloc (Nat.le_refl _) _).alloc (by simp) _, (Has.fresh_at _ _ _ _ rfl).alloc _, (Has.fresh_at _ _ _ _ (by simp)).of_eq (by simp [hexK])⟩ ?_
  rintro W ⟨hB, hS, hT⟩
  have HB := Lib.hid hB
  have HS := Lib.hid hS
  have HT := Lib.hid hT
  clear hB hS hT hmk
  go_wp2
  go_loopw [8] (fun i wr => ∃ k : Nat, k ≤ 64 ∧ i = .int .i64 k ∧ Has wr (w.heap.size + 1) 5 ((hexK l k).map BV).toArray ∧ Has wr w.heap.size 26 (arr32 l) ∧ Below w.heap.size w wr) (fun i _ => 64 - (intOf i).toNat)
  case atStart => exact ⟨0, Nat.zero_le _, rfl, HT.out, HS.out, HB.out⟩
  case round =>
    obtain ⟨k, hk, rfl, hT, hS, hB⟩ := hrel
    by_cases hlt : k < 64
    · have hnl := nib_lt hlb k
      have hset := hexK_set l k hlt
      have hidx := index16 (nib l k) hnl
      have HT := Lib.hid hT
      have HRow := Lib.hid hS.row
      have HS := Lib.hid hS
      have HB := Lib.hid hB
      have HSet := Lib.hid hset
      have hcell : wr.cell? ⟨w.heap.size + 1, k, none⟩ = some (BV ((hexK l k).getD k 0)) := by
        rw [hT.cell, List.getElem?_toArray, List.getElem?_map, List.getD_eq_getElem?_getD, List.getElem?_eq_getElem (by rw [hexK_length _ _ hk]; omega)]
        rfl
      have HCell := Lib.hid hcell
      clear hT hS hB hset hcell
      go_wp2_with (first
        | ((with_reducible refine arm_load (w := wr) ⟨w.heap.size, 0, none⟩ _ _ HRow.out Tryd.underlying26 HI.out ?h1 ?h2 ?_); (case h1 => rfl); (case h2 => rfl))
        | (go_at_call 65; refine (digit_any l hl hlb k hlt _).mono ?_; rintro e w1 ⟨rfl, hbel⟩; have HB1 := Lib.hid hbel; have hT1 := HT.out.below hbel HT.out.lt; have HT1 := Lib.hid hT1; have hfree := hT1.free k; have hcell := ((hbel.cell HT.out.lt).trans HCell.out); have HS1 := Lib.hid (HS.out.below hbel HS.out.lt); unfold BV at hcell; clear hT1 hbel))
      exact ⟨⟨k + 1, by omega, by go_num, (HT1.out.put k _).of_eq HSet.out, HS1.out.apart (by simp) _, (HB.out.trans (HB1.out.mono HB.out.size)).setCell (by simp) _⟩, by simp [intOf]; omega⟩
    · obtain rfl : k = 64 := by omega
      have hconv := run_convert_bytes_back (P := Tryd.prog) wr 22 9 5 ⟨w.heap.size + 1, 0, none⟩ 64 ((hexOf l).map UInt8.ofNat) Tryd.underlying22 Tryd.underlying5 Tryd.underlying9 (fun j hj => hT.row j _ (hex_cell l hlb j (by simpa [hexOf] using hj)))
      rw [show ((hexOf l).map UInt8.ofNat).length = 64 by simp [hexOf]] at hconv
      have HB := Lib.hid hB
      clear hT hS hB
      go_wp2
      go_ret
      exact ⟨rfl, HB.out⟩
end Go.Proofs.YtffdkniahdekjaaDoor
end
section
namespace Go.Proofs.YtffdkniahdekjaaDoor
open Go.RowKit Go.Hoar
/-- Does a digest begin with such digits? -/
def Starts (l ds : List Nat) : Prop := ∀ i, i < ds.length → nib l i = ds.getD i 0
instance (l ds : List Nat) : Decidable (Starts l ds) := by unfold Starts; infer_instance
set_option maxRecDepth 100000 in
set_option maxHeartbeats 1000000 in
theorem begins_any (l ds : List Nat) (hl : l.length = 32) (hlb : Sha.Bytes l) (_hds : Sha.Bytes ds) (hn : ds.length ≤ 64) (g off c : Nat) (w : World) (_hc : ds.length ≤ c) (_hcm : c ≤ maxLen) (hg : g < w.heap.size) (hb : BytesAt w g off ds.length ds) :
    Calls Tryd.prog 81 #[.agg (arr32 l), .slice (some ⟨g, off, none⟩) ds.length c] w fun e w' => e = .returned (.bool (decide (Starts l ds))) ∧ Below w.heap.size w w' := by
  have HI := Lib.hid (arr32_info l (by omega))
  unfold maxLen at _hcm
  go_enter Tryd.func81, Tryd.ntmps81
  go_upto_region 1 with (fail)
  refine gen_world (P := fun W => Code.wp _ _ _ _ W) (I := fun W => Below w.heap.size w W ∧ Has W w.heap.size 26 (arr32 l)) _ ⟨(Below.refl _ w).alloc (Nat.le_refl _) _, Has.fresh_at _ _ _ _ rfl⟩ ?_
  rintro W ⟨hB, hS⟩
  have HB := Lib.hid hB
  have HS := Lib.hid hS
  clear hB hS
  go_wp2
  go_loopw [9] (fun i wr => ∃ k : Nat, k ≤ ds.length ∧ i = .int .i64 k ∧ (∀ i, i < k → nib l i = ds.getD i 0) ∧ Has wr w.heap.size 26 (arr32 l) ∧ Below w.heap.size w wr) (fun i _ => ds.length - (intOf i).toNat)
  case atStart => exact ⟨0, Nat.zero_le _, rfl, fun i hi => absurd hi (Nat.not_lt_zero _), HS.out, HB.out⟩
  case round =>
    obtain ⟨k, hk, rfl, hall, hS, hB⟩ := hrel
    by_cases hlt : k < ds.length
    · have hcell : wr.cell? ⟨g, off + k, none⟩ = some (.int .u8 ((ds.getD k 0 : Nat) : Int)) := (hB.cell hg).trans (hb k hlt)
      have HRow := Lib.hid hS.row
      have HS := Lib.hid hS
      have HB := Lib.hid hB
      have HAll := Lib.hid hall
      have HEq : Hid (nib l k = ds.getD k 0 ↔ nib l k = ds.getD k 0) := Lib.hid Iff.rfl
      have hcase : (ds.getD k 0 = nib l k) ∨ ¬ ((nib l k : Nat) : Int) = ((ds.getD k 0 : Nat) : Int) := by omega
      have HNot : Hid (ds.getD k 0 ≠ nib l k → ¬ Starts l ds) := Lib.hid fun hne hst => hne (hst k hlt).symm
      have HStep : Hid (ds.getD k 0 = nib l k → ∀ i, i < k + 1 → nib l i = ds.getD i 0) := Lib.hid fun he i hi => by
        by_cases hik : i = k
        · rw [hik, he]
        · exact HAll.out i (by omega)
      clear hS hB hall
      generalize ds.getD k 0 = d at *
      rcases hcase with hd | hd
      · subst hd
        go_wp2_with (first
          | ((with_reducible refine arm_load (w := wr) ⟨w.heap.size, 0, none⟩ _ _ HRow.out Tryd.underlying26 HI.out ?h1 ?h2 ?_); (case h1 => rfl); (case h2 => rfl))
          | (go_at_call 65; refine (digit_any l hl hlb k (by omega) _).mono ?_; rintro e w1 ⟨rfl, hbel⟩; have HB1 := Lib.hid hbel; have HS1 := Lib.hid (HS.out.below hbel HS.out.lt); clear hbel))
        exact ⟨⟨k + 1, by omega, by go_num, HStep.out trivial, HS1.out, HB.out.trans (HB1.out.mono HB.out.size)⟩, by simp [intOf]; omega⟩
      · have hst : decide (Starts l ds) = false := decide_eq_false (HNot.out (fun e => hd (by rw [e])))
        have HD := Lib.hid hst
        clear hst
        go_wp2_with (first
          | ((with_reducible refine arm_load (w := wr) ⟨w.heap.size, 0, none⟩ _ _ HRow.out Tryd.underlying26 HI.out ?h3 ?h4 ?_); (case h3 => rfl); (case h4 => rfl))
          | (go_at_call 65; refine (digit_any l hl hlb k (by omega) _).mono ?_; rintro e w1 ⟨rfl, hbel⟩; have HB1 := Lib.hid hbel; clear hbel))
        go_ret
        exact ⟨by rw [HD.out]; exact Eq.refl _, HB.out.trans (HB1.out.mono HB.out.size)⟩
    · have hst : decide (Starts l ds) = true := decide_eq_true fun i hi => hall i (by omega)
      have HD := Lib.hid hst
      clear hst
      have HB := Lib.hid hB
      clear hB hS hall
      go_wp2
      go_ret
      exact ⟨by rw [HD.out]; exact Eq.refl _, HB.out⟩
end Go.Proofs.YtffdkniahdekjaaDoor
end
section
namespace Go.Proofs.YtffdkniahdekjaaDoor
open Go.RowKit Go.Hoar
/-- Which digest begins with such digits: its place, and 0; or 0 and an error. -/
def findGo (ds : List Nat) : Nat → Option (Nat × List Nat) → List (List Nat) → Int × Int
  | _, none, [] => (0, 6)
  | _, some (j, _), [] => ((j : Nat), 0)
  | k, f, x :: r => if Starts x ds then (match f with | none => findGo ds (k + 1) (some (k, x)) r | some (_, y) => if x = y then findGo ds (k + 1) f r else (0, 7)) else findGo ds (k + 1) f r
def foundV : Option (Nat × List Nat) → Int
  | none => -1
  | some (j, _) => (j : Nat)
def FoundOk (ls : List (List Nat)) (k : Nat) : Option (Nat × List Nat) → Prop
  | none => True
  | some (j, y) => j < k ∧ ls[j]? = some y
theorem findGo_not {ds : List Nat} {k : Nat} {f : Option (Nat × List Nat)} {x : List Nat} {r : List (List Nat)} (h : ¬ Starts x ds) : findGo ds k f (x :: r) = findGo ds (k + 1) f r := by
  cases f <;> rw [findGo, if_neg h]
theorem findGo_first {ds : List Nat} {k : Nat} {x : List Nat} {r : List (List Nat)} (h : Starts x ds) : findGo ds k none (x :: r) = findGo ds (k + 1) (some (k, x)) r := by rw [findGo, if_pos h]
theorem findGo_same {ds : List Nat} {k j : Nat} {x : List Nat} {r : List (List Nat)} (h : Starts x ds) : findGo ds k (some (j, x)) (x :: r) = findGo ds (k + 1) (some (j, x)) r := by rw [findGo, if_pos h]; simp
theorem findGo_clash {ds : List Nat} {k j : Nat} {x y : List Nat} {r : List (List Nat)} (h : Starts x ds) (hxy : x ≠ y) : findGo ds k (some (j, y)) (x :: r) = (0, 7) := by rw [findGo, if_pos h]; simp [hxy]
theorem drop_at {α : Type} {l : List α} {k : Nat} {x : α} (h : l[k]? = some x) : l.drop k = x :: l.drop (k + 1) := by
  obtain ⟨hlt, rfl⟩ := List.getElem?_eq_some_iff.1 h
  exact List.drop_eq_getElem_cons hlt
theorem load_sum {w : World} {g off : Nat} {l : List Nat} (hl : l.length = 32) (h : ∀ j, j < 32 → w.cell? ⟨g, off + j, none⟩ = some (.int .u8 ((l.getD j 0 : Nat) : Int))) (m : Nat) : Sem.run Tryd.prog (loadCellsFrom ⟨g, off, none⟩ 0 32 #[]) (w.drewN m) = .ok (arr32 l) (w.drewN m) := by
  have hs : (l.map BV).length = 32 := by rw [List.length_map, hl]
  rw [arr32_full l hl]
  refine run_loadCellsFrom_list Tryd.prog _ _ (l.map BV) 32 hs (fun i v hi => ?_)
  have hi32 : i < 32 := by have := (List.getElem?_eq_some_iff.1 hi).1; rwa [hs] at this
  rw [World.cell?_drewN, Addr.add_lit, h i hi32, ← hi, List.getElem?_map, List.getD_eq_getElem?_getD, List.getElem?_eq_getElem (by omega)]
  rfl
abbrev zero32 : Array Value := #[.int .u8 0, .int .u8 0, .int .u8 0, .int .u8 0, .int .u8 0, .int .u8 0, .int .u8 0, .int .u8 0, .int .u8 0, .int .u8 0, .int .u8 0, .int .u8 0, .int .u8 0, .int .u8 0, .int .u8 0, .int .u8 0, .int .u8 0, .int .u8 0, .int .u8 0, .int .u8 0, .int .u8 0, .int .u8 0, .int .u8 0, .int .u8 0, .int .u8 0, .int .u8 0, .int .u8 0, .int .u8 0, .int .u8 0, .int .u8 0, .int .u8 0, .int .u8 0]
theorem fresh_sum (w : World) : Has (w.alloc (.cells zero32 26)) w.heap.size 26 zero32 := Has.fresh w _ _
theorem zero32_size (x : List Nat) (h : x.length ≤ 32) : zero32.size = (arr32 x).size := (arr32_size x h).symm
theorem has_sum {w : World} {g : Nat} {t : TypeId} {l : List Nat} (h : Has w g t (arr32 l)) (hl : l.length = 32) : ∀ j, j < 32 → w.cell? ⟨g, 0 + j, none⟩ = some (.int .u8 ((l.getD j 0 : Nat) : Int)) := fun j hj => by
  rw [Nat.zero_add, h.cell]
  exact arr32_get l hl j hj
set_option maxRecDepth 100000 in
set_option maxHeartbeats 1000000 in
theorem find_many (s : ByteArray) (h : s.size < 1 ∨ 64 < s.size) (hsz : s.size ≤ 1099511627776) (v : Value) (w : World) :
    Calls Tryd.prog 45 #[.string s, v] w fun e w' => e = .returned (.tuple #[.int .i64 0, .int .i64 2]) ∧ w' = w := by
  rcases h with h | h
  · have h0 : s.size = 0 := by omega
    have hi : (s.size : Int) < 1 := by omega
    go_enter Tryd.func45, Tryd.ntmps45
    go_wp2
    go_ret2
    exact ⟨rfl, rfl⟩
  · have h1 : ¬ (s.size : Int) < 1 := by omega
    have h2 : (64 : Int) < s.size := by omega
    go_enter Tryd.func45, Tryd.ntmps45
    go_wp2
    go_ret2
    exact ⟨rfl, rfl⟩
set_option maxRecDepth 100000 in
set_option maxHeartbeats 1000000 in
theorem find_form (s : ByteArray) (h1 : 1 ≤ s.size) (h2 : s.size ≤ 64) (hd : ¬ AllDig s) (v : Value) (w : World) :
    Calls Tryd.prog 45 #[.string s, v] w fun e w' => e = .returned (.tuple #[.int .i64 0, .int .i64 4]) ∧ Below w.heap.size w w' := by
  have hdig : ∀ V, Calls Tryd.prog 63 #[.string s] V fun e w' => e = .returned (.tuple #[.slice none 0 0, .bool false]) ∧ Below V.heap.size V w' := fun V =>
    (digits_any s (by omega) V).mono (by rintro e w' ⟨⟨k, _⟩ | ⟨_, rfl⟩, hb⟩; exact absurd k hd; exact ⟨rfl, hb⟩)
  have HD := Lib.hid hdig
  have i1 : ¬ (s.size : Int) < 1 := by omega
  have i2 : ¬ (64 : Int) < s.size := by omega
  clear hdig hd
  go_enter Tryd.func45, Tryd.ntmps45
  go_wp2_with (first
    | (go_at_call 63; refine (HD.out _).mono ?_; rintro e w1 ⟨rfl, hbel⟩; have HB1 := Lib.hid hbel; clear hbel))
  go_ret2
  exact ⟨rfl, HB1.out⟩
set_option maxRecDepth 100000 in
set_option maxHeartbeats 3000000 in
theorem find_any (s : ByteArray) (h1 : 1 ≤ s.size) (h2 : s.size ≤ 64) (hd : AllDig s) (ls : List (List Nat)) (g off c : Nat) (w : World) (hs : SumsAt w g off ls) (hg : g < w.heap.size) (_hc : ls.length ≤ c) (_hcm : c ≤ maxLen) (hn : ls.length ≤ 1073741824) (out : Int × Int) (hout : Hid (out = findGo (digsK s s.size) 0 none ls)) :
    Calls Tryd.prog 45 #[.string s, .slice (some ⟨g, off, none⟩) ls.length c] w fun e w' => e = .returned (.tuple #[.int .i64 out.1, .int .i64 out.2]) ∧ Below w.heap.size w w' := by
  obtain ⟨ds, hds⟩ : ∃ ds, ds = digsK s s.size := ⟨_, rfl⟩
  have hdl : ds.length = s.size := by rw [hds, digsK_length]
  have hdb : Sha.Bytes ds := fun x hx => by
    rw [hds, digsK, List.mem_map] at hx
    obtain ⟨i, hi, rfl⟩ := hx
    have := valOf_lt (hd i (List.mem_range.1 hi))
    omega
  have hdig : ∀ V, Calls Tryd.prog 63 #[.string s] V fun e w' => ∃ gd, e = .returned (.tuple #[.slice (some ⟨gd, 0, none⟩) ds.length ds.length, .bool true]) ∧ gd < w'.heap.size ∧ BytesAt w' gd 0 ds.length ds ∧ Below V.heap.size V w' := fun V =>
    (digits_any s (by omega) V).mono (by
      rintro e w' ⟨⟨_, rfl, ho⟩ | ⟨k, _⟩, hb⟩
      · refine ⟨_, by rw [hdl], (ho.lt _ rfl).2, fun i hi => ?_, hb⟩
        rw [Nat.zero_add, digs_cell ho i (by omega), hds, List.getD_eq_getElem?_getD, digsK, List.getElem?_map, List.getElem?_range (by omega)]
        rfl
      · exact absurd hd k)
  rw [← hds] at hout
  have hd64 : ds.length ≤ 64 := by omega
  have hdc : ds.length ≤ maxLen := by unfold maxLen; omega
  have i1 : ¬ (s.size : Int) < 1 := by omega
  have i2 : ¬ (64 : Int) < s.size := by omega
  have HD := Lib.hid hdig
  have HS := Lib.hid hs
  unfold maxLen at _hcm
  clear hdig hd hds hs
  go_enter Tryd.func45, Tryd.ntmps45
  go_wp2_with (first
    | (go_at_call 63; refine (HD.out _).mono ?_; rintro e w1 ⟨gd, rfl, hgd, hbytes, hbel⟩; have HB1 := Lib.hid hbel; have HY1 := Lib.hid hbytes; clear hbel hbytes))
  go_loopw [8, 28] (fun f i wr => ∃ (k : Nat) (q : Option (Nat × List Nat)) (z : Int), k ≤ ls.length ∧ i = .int .i64 k ∧ f = .int .i64 z ∧ Hid (findGo ds k q (ls.drop k) = findGo ds 0 none ls) ∧ ((z = -1 ∧ q = none) ∨ ∃ (j : Nat) (y : List Nat), z = (j : Int) ∧ q = some (j, y) ∧ j < k ∧ ls[j]? = some y) ∧ Below w1.heap.size w1 wr) (fun _ i _ => ls.length - (intOf i).toNat)
  case atStart => exact ⟨0, none, -1, Nat.zero_le _, rfl, rfl, rfl, .inl ⟨rfl, rfl⟩, Below.refl _ _⟩
  case round =>
    obtain ⟨k, q, z, hk, rfl, rfl, HQ, hz, hB⟩ := hrel
    by_cases hlt : k < ls.length
    · obtain ⟨x, hx⟩ : ∃ x, ls[k]? = some x := ⟨_, List.getElem?_eq_getElem hlt⟩
      have hsw := HS.out.below hg HB1.out
      have hg1 : g < w1.heap.size := Nat.lt_of_lt_of_le hg HB1.out.size
      obtain ⟨hxl, hxb, _⟩ := hsw k x hx
      have hsr := hsw.below hg1 hB
      have HRow := Lib.hid (hsr.row hx)
      have HSr := Lib.hid hsr
      have HI := Lib.hid (arr32_info x (by omega))
      have HSz := Lib.hid (zero32_size x (by omega))
      have HF := Lib.hid (fresh_sum wr)
      have HY2 : Hid (BytesAt wr gd 0 ds.length ds) := Lib.hid fun i hi => (hB.cell hgd).trans (HY1.out i hi)
      have hgr : g < wr.heap.size := Nat.lt_of_lt_of_le hg1 hB.size
      have hgdr : gd < wr.heap.size := Nat.lt_of_lt_of_le hgd hB.size
      have HB := Lib.hid hB
      have HX := Lib.hid (drop_at hx)
      have HZ := Lib.hid hz
      clear hB hsw hsr hz
      go_upto_region 10 with (first
        | ((with_reducible refine arm_load (w := wr) ⟨g, off + k * 32, none⟩ _ _ HRow.out Tryd.underlying26 HI.out ?h1 ?h2 ?_); (case h1 => rfl); (case h2 => rfl))
        | ((with_reducible refine arm_store wr.heap.size (arr32 x) 26 zero32 HF.out HSz.out HI.out (arr32_one _) ?h5 ?h6 ?_); (case h5 => rfl); (case h6 => rfl)))
      refine gen_world (P := fun W => Code.wp _ _ _ _ W) (I := fun V => Below wr.heap.size wr V ∧ Has V wr.heap.size 26 (arr32 x)) _ ⟨below_setRow ((Below.refl _ wr).alloc (Nat.le_refl _) _) (Nat.le_refl _) _, HF.out.setRow⟩ ?_
      rintro V ⟨hBV, hxV⟩
      have hgdV : gd < V.heap.size := Nat.lt_of_lt_of_le hgdr hBV.size
      have hbeg := begins_any x ds hxl hxb hdb hd64 gd 0 ds.length V (Nat.le_refl _) hdc hgdV (fun i hi => (hBV.cell hgdr).trans (HY2.out i hi))
      rw [hdl] at hbeg
      have HBeg := Lib.hid hbeg
      have HBV := Lib.hid hBV
      have HXr := Lib.hid hxV.row
      have HXV := Lib.hid hxV
      clear hbeg hBV hxV
      by_cases hst : Starts x ds
      · have hdec : decide (Starts x ds) = true := decide_eq_true hst
        rcases HZ.out with ⟨rfl, rfl⟩ | ⟨j, y, rfl, rfl, hjk, hy⟩
        · have HStep : Hid (findGo ds (k + 1) (some (k, x)) (ls.drop (k + 1)) = findGo ds 0 none ls) := Lib.hid ((findGo_first (k := k) (r := ls.drop (k + 1)) hst).symm.trans (HX.out ▸ HQ.out))
          go_wp2_with (first
            | ((with_reducible refine arm_load (w := V) ⟨wr.heap.size, 0, none⟩ _ _ HXr.out Tryd.underlying26 HI.out ?h3 ?h4 ?_); (case h3 => rfl); (case h4 => rfl))
            | (go_at_call 81; refine HBeg.out.mono ?_; rintro e w3 ⟨rfl, hb3⟩; rw [hdec]; have HB3 := Lib.hid hb3; clear hb3))
          exact ⟨⟨k + 1, some (k, x), k, by omega, by go_num, rfl, HStep, .inr ⟨k, x, rfl, rfl, by omega, hx⟩, HB.out.trans ((HBV.out.trans (HB3.out.mono HBV.out.size)).mono HB.out.size)⟩, by simp [intOf]; omega⟩
        · have hyl : y.length = 32 := (HSr.out j y hy).1
          have hj0 : ¬ (j : Int) < 0 := by omega
          have hjl : j < ls.length := by omega
          go_upto_region 13 with (first
            | ((with_reducible refine arm_load (w := V) ⟨wr.heap.size, 0, none⟩ _ _ HXr.out Tryd.underlying26 HI.out ?h3 ?h4 ?_); (case h3 => rfl); (case h4 => rfl))
            | (go_at_call 81; refine HBeg.out.mono ?_; rintro e w3 ⟨rfl, hb3⟩; rw [hdec]; have HB3 := Lib.hid hb3; have HX3 := Lib.hid (HXV.out.below hb3 HXV.out.lt); clear hb3))
          have hbr := HBV.out.trans (HB3.out.mono HBV.out.size)
          have HL1 := Lib.hid HX3.out.row
          have HL2 := Lib.hid ((HSr.out.below hgr hbr).row hy)
          have HIy := Lib.hid (arr32_info y (by omega))
          have hguard := sum_guard
          by_cases hxy : x = y
          · have hne := sum_neq x y hxl hyl
            rw [show (!decide (x = y)) = false by simp [hxy]] at hne
            have HStep : Hid (findGo ds (k + 1) (some (j, y)) (ls.drop (k + 1)) = findGo ds 0 none ls) := Lib.hid ((findGo_same (k := k) (j := j) (r := ls.drop (k + 1)) (hxy ▸ hst)).symm.trans (by have := HX.out ▸ HQ.out; rwa [hxy] at this))
            have HBr := Lib.hid hbr
            clear hbr hxy
            refine wp_region_quiet_lit (by kernel_rfl) (by kernel_rfl) ?_
            go_big_quiet_want
            (with_reducible refine quiet_load ⟨wr.heap.size, 0, none⟩ _ _ HL1.out Tryd.underlying26 HI.out ?l1 ?l2 ?_); (case l1 => rfl); (case l2 => rfl)
            simp only [Act.put, List.setIfInBounds_toArray, List.set_cons_succ, List.set_cons_zero]
            go_big_quiet_on
            repeat (go_big_quiet_step (fail))
            go_big_quiet_want
            (with_reducible refine quiet_load ⟨g, off + j * 32, none⟩ _ _ HL2.out Tryd.underlying26 HIy.out ?l3 ?l4 ?_); (case l3 => rfl); (case l4 => rfl)
            simp only [Act.put, List.setIfInBounds_toArray, List.set_cons_succ, List.set_cons_zero]
            go_big_quiet_on
            repeat (go_big_quiet_step (fail))
            refine wpQuiet_nil ?_
            intro _ hw'
            obtain ⟨nq, rfl⟩ := hw'
            go_wp2
            exact ⟨⟨k + 1, some (j, y), j, by omega, by go_num, rfl, HStep, .inr ⟨j, y, rfl, rfl, by omega, hy⟩, below_drewN (HB.out.trans (HBr.out.mono HB.out.size)) _⟩, by simp [intOf]; omega⟩
          · have hne := sum_neq x y hxl hyl
            rw [show (!decide (x = y)) = true by simp [hxy]] at hne
            have HEnd : Hid (out = (0, 7)) := Lib.hid (hout.out.trans (HQ.out.symm.trans (by rw [HX.out, findGo_clash hst hxy])))
            have HBr := Lib.hid hbr
            clear hbr
            refine wp_region_quiet_lit (by kernel_rfl) (by kernel_rfl) ?_
            go_big_quiet_want
            (with_reducible refine quiet_load ⟨wr.heap.size, 0, none⟩ _ _ HL1.out Tryd.underlying26 HI.out ?l1 ?l2 ?_); (case l1 => rfl); (case l2 => rfl)
            simp only [Act.put, List.setIfInBounds_toArray, List.set_cons_succ, List.set_cons_zero]
            go_big_quiet_on
            repeat (go_big_quiet_step (fail))
            go_big_quiet_want
            (with_reducible refine quiet_load ⟨g, off + j * 32, none⟩ _ _ HL2.out Tryd.underlying26 HIy.out ?l3 ?l4 ?_); (case l3 => rfl); (case l4 => rfl)
            simp only [Act.put, List.setIfInBounds_toArray, List.set_cons_succ, List.set_cons_zero]
            go_big_quiet_on
            repeat (go_big_quiet_step (fail))
            refine wpQuiet_nil ?_
            intro _ hw'
            obtain ⟨nq, rfl⟩ := hw'
            go_wp2
            go_ret2
            exact ⟨by rw [HEnd.out]; exact Eq.refl _, below_drewN (HB1.out.trans ((HB.out.trans (HBr.out.mono HB.out.size)).mono HB1.out.size)) _⟩
      · have hdec : decide (Starts x ds) = false := decide_eq_false hst
        have HStep : Hid (findGo ds (k + 1) q (ls.drop (k + 1)) = findGo ds 0 none ls) := Lib.hid ((findGo_not (k := k) (f := q) (r := ls.drop (k + 1)) hst).symm.trans (HX.out ▸ HQ.out))
        go_wp2_with (first
          | ((with_reducible refine arm_load (w := V) ⟨wr.heap.size, 0, none⟩ _ _ HXr.out Tryd.underlying26 HI.out ?h3 ?h4 ?_); (case h3 => rfl); (case h4 => rfl))
          | (go_at_call 81; refine HBeg.out.mono ?_; rintro e w3 ⟨rfl, hb3⟩; rw [hdec]; have HB3 := Lib.hid hb3; clear hb3))
        exact ⟨⟨k + 1, q, z, by omega, by go_num, rfl, HStep, HZ.out.imp id (fun ⟨j, y, a, b, c, d⟩ => ⟨j, y, a, b, by omega, d⟩), HB.out.trans ((HBV.out.trans (HB3.out.mono HBV.out.size)).mono HB.out.size)⟩, by simp [intOf]; omega⟩
    · obtain rfl : k = ls.length := by omega
      have hnil : ls.drop ls.length = [] := List.drop_length
      rcases hz with ⟨rfl, rfl⟩ | ⟨j, y, rfl, rfl, hjk, hy⟩
      · have HEnd : Hid (out = (0, 6)) := Lib.hid (hout.out.trans (HQ.out.symm.trans (by rw [hnil, findGo])))
        go_wp2
        go_ret2
        exact ⟨by rw [HEnd.out]; exact Eq.refl _, HB1.out.trans (hB.mono HB1.out.size)⟩
      · have HEnd : Hid (out = (((j : Nat) : Int), (0 : Int))) := Lib.hid (hout.out.trans (HQ.out.symm.trans (by rw [hnil, findGo])))
        have hj0 : ¬ (j : Int) < 0 := by omega
        go_wp2
        go_ret2
        exact ⟨by rw [HEnd.out]; exact Eq.refl _, HB1.out.trans (hB.mono HB1.out.size)⟩
end Go.Proofs.YtffdkniahdekjaaDoor
end
section
namespace Go.Hoar
open Go Go.RowKit
theorem fold_set (off : Nat) (pre : List Value) (hoff : off = pre.length) : ∀ (l mid old : List Value), l.length ≤ old.length →
    (l.zipIdx mid.length).foldl (fun (cs : Array Value) (x : Value × Nat) => cs.setIfInBounds (off + x.2) x.1) (pre ++ (mid ++ old)).toArray = (pre ++ (mid ++ l ++ old.drop l.length)).toArray
  | [], mid, old, _ => by simp
  | v :: l, mid, [], h => by simp at h
  | v :: l, mid, o :: old, h => by
    have e : (pre ++ (mid ++ o :: old)).toArray.setIfInBounds (off + mid.length) v = (pre ++ ((mid ++ [v]) ++ old)).toArray := by
      rw [List.setIfInBounds_toArray, hoff, List.set_append_right _ _ (by omega), Nat.add_sub_cancel_left, List.set_append_right _ _ (Nat.le_refl _), Nat.sub_self, List.set_cons_zero, List.append_assoc]
      rfl
    have ih := fold_set off pre hoff l (mid ++ [v]) old (by simpa using h)
    rw [List.zipIdx_cons, List.foldl_cons, e]
    have hl : (mid ++ [v]).length = mid.length + 1 := by simp
    rw [hl] at ih
    rw [ih]
    simp
theorem fill_cons {place : Nat → Option (Nat × Nat)} {cells : Array Value} {i off size : Nat} {cs : Array Value} {rest : List (Nat × Value)} (hp : place i = some (off, size)) (h1 : cs.size = size) (h2 : off + cs.size ≤ cells.size) :
    Instr.fill place cells ((i, .agg cs) :: rest) = Instr.fill place (cs.zipIdx.foldl (fun a x => a.setIfInBounds (off + x.2) x.1) cells) rest := by
  have hc : (Value.agg cs).cells = cs := rfl
  have h3 : ¬ off + cs.size > cells.size := by omega
  rw [Instr.fill, hp]
  simp [hc, h1]
  omega
theorem fill_rows (k : Nat) : ∀ (css : List (Array Value)) (i0 : Nat) (pre old : List Value), (∀ c ∈ css, c.size = k) → old.length = css.length * k → pre.length = i0 * k →
    Instr.fill (fun i => some (i * k, k)) (pre ++ old).toArray ((css.zipIdx i0).map fun x => (x.2, Value.agg x.1)) = some (pre ++ css.flatMap Array.toList).toArray
  | [], i0, pre, old, _, ho, _ => by
    have : old = [] := List.length_eq_zero_iff.1 (by simpa using ho)
    subst this
    simp [Instr.fill]
  | c :: css, i0, pre, old, hc, ho, hp => by
    have hck : c.size = k := hc c (by simp)
    have hol : old.length = css.length * k + k := by rw [ho, List.length_cons, Nat.add_mul, Nat.one_mul]
    have hf := fold_set (i0 * k) pre hp.symm c.toList [] old (by rw [Array.length_toList]; omega)
    have hpl : (pre ++ c.toList).length = (i0 + 1) * k := by
      have hl : (pre ++ c.toList).length = pre.length + c.size := by simp
      rw [hl, hp, hck, Nat.add_mul, Nat.one_mul]
    have ih := fill_rows k css (i0 + 1) (pre ++ c.toList) (old.drop k) (fun x hx => hc x (List.mem_cons_of_mem _ hx)) (by rw [List.length_drop]; omega) hpl
    have hfa : c.zipIdx.foldl (fun (cs : Array Value) (x : Value × Nat) => cs.setIfInBounds (i0 * k + x.2) x.1) (pre ++ old).toArray = (pre ++ c.toList ++ old.drop k).toArray := by
      rw [← Array.foldl_toList, Array.toList_zipIdx]
      simp only [List.nil_append, List.length_nil, Array.length_toList, hck] at hf
      rw [hf, List.append_assoc]
    rw [List.zipIdx_cons, List.map_cons, fill_cons (off := i0 * k) (size := k) rfl hck (by simp; omega), hfa, ih, List.flatMap_cons, List.append_assoc]
section
variable {P : Program}
/-- A slice literal of one array or struct, in the form of an arm. -/
theorem arm_slice1 {ops : Array Oper} {rest : List Oper} {a : Act} {w : World} {Q : Exit → Act → World → Prop} {dst : Option Tmp} {t T : TypeId} {x : Operand} {pos : String} {af : Array Edge}
    (e : TypeId) (ie : TypeInfo) (z : Value) (cs : Array Value) (hu : P.underlying t = some (.slice e)) (hie : P.info? e = some ie) (hz : ie.zero = some z) (hsz : cs.size = ie.size) (hsmall : cs.size ≤ 1000) (hpos : 0 < cs.size)
    (hx : a.eval x = .agg cs) (h : wpList P ops Q rest (a.put dst (.slice (some ⟨w.heap.size, 0, none⟩) 1 1)) (w.alloc (.cells cs e))) :
    wpList P ops Q (⟨dst, .buildSlice t 1 #[(0, x)], T, pos, af, none⟩ :: rest) a w := by
  refine wpList_buildSlice rfl t e 1 _ rfl cs ie z hu hie hz (by rw [← hsz]; omega) (by rw [← hsz]; omega) ?_ h
  have ht : ∀ A : Array Value, A.toList.toArray = A := fun A => by simp
  have hf := fill_rows cs.size [cs] 0 [] ((Array.range (1 * ie.size)).map (z.cells[· % z.cells.size]!)).toList (fun c hc => by rw [List.mem_singleton.1 hc]) (by simp [hsz]) (by simp)
  rw [hsz] at hf
  have e2 : ((#[(0, x)] : Array (Nat × Operand)).map fun (i, x) => (i, a.eval x)).toList = (([cs].zipIdx 0).map fun x => (x.2, Value.agg x.1)) := by simp [hx]
  rw [e2]
  rw [List.nil_append, ht] at hf
  rw [hf]
  simp
/-- append to a row that the call owns, as one step of a region that draws its order. -/
theorem step_append_own {ops : Array Oper} {o : Oper} {a : Act} {w : World} {K : Act → World → Prop} {Q : Exit → Act → World → Prop} {E : Prop} (hg : o.guard = none) (s x : Operand) (t : TypeId)
    (ho : o.op = .call { callee := .builtin .append, args := #[s, x], argTypes := #[t, t] })
    (base : Nat) (e : TypeId) (i : TypeInfo) (z : Value) (size bytes : Nat) (ht : P.underlying t = some (.slice e)) (hi : P.info? e = some i) (hz : i.zero = some z)
    (hsize : i.size = size) (hby : i.bytes = bytes) (hzs : z.cells.size = size) (hsz : 0 < size)
    (v : Value) (n : Nat) (xs : List Value) (hs : a.eval s = v) (hown : w.ownsRow base e size v n xs)
    (ad : Addr) (m c : Nat) (news : List Value) (hx : a.eval x = .slice (some ad) m c) (hl : news.length = m * size) (hnews : ∀ j u, news[j]? = some u → w.cell? (ad.add j) = some u) (h1 : ∀ u ∈ news, u.oneCell' = true)
    (h63 : n + m ≤ maxLen) (hbytes : (n + m) * bytes ≤ 140737488355328) (hbase : base ≤ w.heap.size)
    (h : ∀ v' w', w'.ownsRow base e size v' (n + m) (xs ++ news) → w.grownBy w' v.ownBlock → (v' = .slice none 0 0 ↔ v = .slice none 0 0 ∧ m = 0) → K (a.put o.dst v') w') :
    if Region.wanted o (yielded ops a.tmps) = true then Oper.wp P o a w K Q else E := by
  have hw : Region.wanted o (yielded ops a.tmps) = true := by simp [Region.wanted, hg]
  rw [if_pos hw]
  exact wp_append_own w s x t ho base e i z size bytes ht hi hz hsize hby hzs hsz v n xs hs hown ad m c news hx hl hnews h1 h63 hbytes hbase h
theorem fold_list (z : Array Value) (cs : List Value) (h : z.size = cs.length) : cs.zipIdx.foldl (fun (a : Array Value) (x : Value × Nat) => a.setIfInBounds x.2 x.1) z = cs.toArray := by
  have hf := fold_set 0 [] rfl cs [] z.toList (by simp [h])
  simp only [List.nil_append, List.length_nil, Nat.zero_add, Array.toArray_toList, ← h] at hf
  have e2 : z.toList.drop z.size = [] := by simp
  rw [e2, List.append_nil] at hf
  exact hf
/-- All cells of an array written over those of another one. -/
theorem fold_whole (z cs : Array Value) (h : z.size = cs.size) : Array.foldl (fun (a : Array Value) (x : Value × Nat) => a.setIfInBounds x.2 x.1) z cs.zipIdx 0 cs.size = cs := by
  have hf := fold_set 0 [] rfl cs.toList [] z.toList (by simp [h])
  have e1 : cs.zipIdx.size = cs.size := by simp
  rw [← e1, ← Array.foldl_toList, Array.toList_zipIdx]
  simp only [List.nil_append, List.length_nil, Nat.zero_add, Array.length_toList, Array.toArray_toList, ← h] at hf
  have e2 : z.toList.drop z.size = [] := by simp
  rw [e2, List.append_nil, Array.toArray_toList] at hf
  exact hf
end
end Go.Hoar
end
section
namespace Go.Proofs.YtffdkniahdekjaaDoor
open Go.RowKit Go.Hoar
theorem sumInfo3 : (Tryd.prog.info? 26).map (fun i => (i.zero, i.size, i.bytes)) = some (some (.agg zero32), 32, 32) := by kernel_rfl
/-- The digest of the places of a span. -/
def spanSum (ls : List (List Nat)) (p : Nat × Nat) : List Nat := listOf (p.2 - p.1 + 1) ((ls.drop p.1).take (p.2 - p.1))
def cellsOf (l : List Nat) : List Value := (arr32 l).toList
theorem cellsOf_len {l : List Nat} (h : l.length ≤ 32) : (cellsOf l).length = 32 := by
  rw [cellsOf, Array.length_toList, arr32_size l h]
theorem cellsOf_one (l : List Nat) : ∀ u ∈ cellsOf l, u.oneCell' = true := by
  have h := arr32_one l
  rw [← Array.all_toList] at h
  exact List.all_eq_true.1 h
theorem cell_row_new (w : World) (cs : Array Value) (t : TypeId) : ∀ j u, cs.toList[j]? = some u → (w.alloc (.cells cs t)).cell? ((⟨w.heap.size, 0, none⟩ : Addr).add j) = some u := fun j u hj =>
  (Has.fresh w t cs).row j u (by rwa [Array.getElem?_toList] at hj)
set_option maxRecDepth 100000 in
set_option maxHeartbeats 1000000 in
theorem proof_not (i : Int) (a : Option Addr) (n c : Nat) (h : i < 0 ∨ (n : Int) ≤ i) (_hn : n ≤ 1073741824) (w : World) :
    Calls Tryd.prog 34 #[.slice a n c, .int .i64 i] w fun e w' => e = .returned (.tuple #[.slice none 0 0, .int .i64 1]) ∧ w' = w := by
  by_cases h0 : i < 0
  · go_enter Tryd.func34, Tryd.ntmps34
    go_wp2
    go_ret2
    exact ⟨rfl, rfl⟩
  · have h1 : (n : Int) ≤ i := by omega
    go_enter Tryd.func34, Tryd.ntmps34
    go_wp2
    go_ret2
    exact ⟨rfl, rfl⟩
theorem own_shape {w : World} {base n size : Nat} {e : TypeId} {v : Value} {xs : List Value} (h : w.ownsRow base e size v n xs) : ∃ a c, v = .slice a n c ∧ n ≤ c ∧ c ≤ maxLen := by
  rcases h.2 with ⟨rfl, rfl⟩ | ⟨g, cap, cur, rfl, _, _, hc, hm, _⟩
  · exact ⟨_, _, rfl, Nat.le_refl _, Nat.zero_le _⟩
  · exact ⟨_, _, rfl, hc, hm⟩
theorem own_addr {w : World} {base : Nat} {e : TypeId} {size n c : Nat} {a : Option Addr} {xs : List Value} (h : w.ownsRow base e size (.slice a n c) n xs) (hn : 0 < n) : ∃ g, a = some ⟨g, 0, none⟩ ∧ base ≤ g ∧ g < w.heap.size := by
  have hl := h.lt
  rcases h.2 with ⟨_, h0⟩ | ⟨g, cap, cur, hv, hb, hh, _⟩
  · omega
  · cases hv
    exact ⟨g, rfl, hb, (hl g rfl).2⟩
set_option maxRecDepth 100000 in
set_option maxHeartbeats 2000000 in
theorem proof_any (ls : List (List Nat)) (i : Nat) (hi : i < ls.length) (hn : ls.length ≤ 1073741824) (g off c : Nat) (w : World) (hs : SumsAt w g off ls) (hg : g < w.heap.size) (hnc : ls.length ≤ c) (hcm : c ≤ maxLen) (hc : ConstAt w) (ps : List (Nat × Nat)) (hps : Hid (ps = waysOf ls.length i)) :
    Calls Tryd.prog 34 #[.slice (some ⟨g, off, none⟩) ls.length c, .int .i64 (i : Int)] w fun e w' => ∃ v, e = .returned (.tuple #[v, .int .i64 0]) ∧ w'.ownsRow w.heap.size 26 32 v ps.length (ps.flatMap fun p => cellsOf (spanSum ls p)) ∧ Below w.heap.size w w' := by
  obtain ⟨i0, hi0, hz0, hz1, hz2⟩ := info_parts sumInfo3
  have hin := spansF_in ls.length 0 ls.length i (by omega)
  have hlen := spansF_length ls.length 0 ls.length i (by omega) (by omega)
  have hpl : ps.length ≤ ls.length := by rw [hps.out, waysOf, List.length_reverse]; omega
  have hpin : ∀ p ∈ ps, p.1 < p.2 ∧ p.2 ≤ ls.length := fun p hp => by
    have := hin p (by rw [hps.out, waysOf, List.mem_reverse] at hp; exact hp)
    exact ⟨this.2.1, this.2.2⟩
  have hbes : ∀ V, Calls Tryd.prog 70 #[.int .i64 (ls.length : Int), .int .i64 (i : Int)] V fun e w' => ∃ v, e = .returned v ∧ w'.ownsRow (V.heap.size + 2) 108 2 v ps.length (ps.flatMap encSpan) ∧ Below V.heap.size V w' := fun V => by
    have := beside_any ls.length i hi hn V
    rwa [← hps.out] at this
  have hlist : ∀ V (p : Nat × Nat), p.1 < p.2 → p.2 ≤ ls.length → Below w.heap.size w V → ∀ out, Hid (out = spanSum ls p) → Calls Tryd.prog 33 #[.slice (some ⟨g, off + p.1 * 32, none⟩) (p.2 - p.1) (c - p.1)] V fun e w' => e = .returned (.agg (arr32 out)) ∧ out.length = 32 ∧ Below V.heap.size V w' := fun V p h1 h2 hv out hout => by
    have hl : ((ls.drop p.1).take (p.2 - p.1)).length = p.2 - p.1 := by rw [List.length_take, List.length_drop]; omega
    have k := list_any (p.2 - p.1 + 1) ((ls.drop p.1).take (p.2 - p.1)) g (off + p.1 * 32) (c - p.1) V (by omega) (by omega) (by omega) (by omega) (by omega) (((hs.below hg hv).drop p.1).take _) (Nat.lt_of_lt_of_le hg hv.size) (hc.below hv rfl) out hout
    rwa [hl] at k
  have HBe := Lib.hid hbes
  have HLi := Lib.hid hlist
  have HIn := Lib.hid hpin
  have i1 : ¬ (i : Int) < 0 := by omega
  have i2 : ¬ (ls.length : Int) ≤ (i : Int) := by omega
  clear hs hc hbes hlist hpin hin hlen
  go_enter Tryd.func34, Tryd.ntmps34
  go_wp2_with (first
    | (go_at_call 70; refine (HBe.out _).mono ?_; rintro e w1 ⟨v1, rfl, ho1, hb1⟩; obtain ⟨a1, cc1, rfl, hcc1, hcc2⟩ := own_shape ho1; have HO1 := Lib.hid ho1; have HB1 := Lib.hid hb1; clear ho1 hb1))
  go_loopw [6, 22] (fun v ix wr => ∃ (vv : Value) (k : Nat), vv = v ∧ k ≤ ps.length ∧ ix = .int .i64 k ∧ wr.ownsRow w1.heap.size 26 32 vv k ((ps.take k).flatMap fun p => cellsOf (spanSum ls p)) ∧ Below w1.heap.size w1 wr) (fun _ ix _ => ps.length - (intOf ix).toNat)
  case atStart => exact ⟨_, 0, rfl, Nat.zero_le _, rfl, World.ownsRow_nil _ _ _ _, Below.refl _ _⟩
  case round =>
    obtain ⟨vv, k, hvv, hk, rfl, hown, hB⟩ := hrel
    subst hvv
    by_cases hlt : k < ps.length
    · obtain ⟨⟨p, q⟩, hp⟩ : ∃ p, ps[k]? = some p := ⟨_, List.getElem?_eq_getElem hlt⟩
      obtain ⟨hpq, hqn⟩ := HIn.out (p, q) (List.mem_of_getElem? hp)
      dsimp only at hpq hqn
      obtain ⟨g1, rfl, hg1b, hg1⟩ := own_addr HO1.out (by omega)
      have hpk : ps[k]! = (p, q) := by rw [List.getElem!_eq_getElem?_getD, hp]; rfl
      have hsp := flat_get (enc := encSpan) (k := 2) encSpan_len (by decide) ps
      have d0 : wr.cell? ⟨g1, k * 2, none⟩ = some (.int .i64 (p : Int)) := by
        have h := HO1.out.cells (g := g1) rfl (k * 2) (.int .i64 (p : Int)) (by
          rw [hsp (k * 2) (by omega), Nat.mul_div_cancel _ (by decide), Nat.mul_mod_left, hpk]
          rfl)
        rw [Addr.add_lit, Nat.zero_add] at h
        exact (hB.cell hg1).trans h
      have d1 : wr.cell? ⟨g1, k * 2 + 1, none⟩ = some (.int .i64 (q : Int)) := by
        have h := HO1.out.cells (g := g1) rfl (k * 2 + 1) (.int .i64 (q : Int)) (by
          rw [hsp (k * 2 + 1) (by omega), show (k * 2 + 1) / 2 = k by omega, show (k * 2 + 1) % 2 = 1 by omega, hpk]
          rfl)
        rw [Addr.add_lit, Nat.zero_add] at h
        exact (hB.cell hg1).trans h
      have c2 : Tryd.prog.cellsOf 108 = 2 := by kernel_rfl
      have hlw := hown.lt
      have HO := Lib.hid hown
      have HB := Lib.hid hB
      have HLw := Lib.hid hlw
      obtain ⟨out, hout⟩ : ∃ out, out = spanSum ls (p, q) := ⟨_, rfl⟩
      have HOut := Lib.hid hout
      have hli : ∀ V, Below w.heap.size w V → Calls Tryd.prog 33 #[.slice (some ⟨g, off + p * 32, none⟩) (q - p) (c - p)] V fun e w' => e = .returned (.agg (arr32 out)) ∧ out.length = 32 ∧ Below V.heap.size V w' := fun V hV => HLi.out V (p, q) hpq hqn hV out HOut
      have HL2 := Lib.hid hli
      have HHp := Lib.hid hp
      have HIo : ∀ (o : List Nat), o.length = 32 → (arr32 o).size = i0.size := fun o ho => by rw [arr32_size o (by omega), hz1]
      have HI2 := Lib.hid HIo
      clear hown hB hsp hlw hout hli hp hpk HIo
      go_wp2_with (first
        | (go_at_call 33; refine (HL2.out _ (HB1.out.trans ((HB.out.alloc HB.out.size _).mono HB1.out.size))).mono ?_; rintro e w2 ⟨rfl, hol, hb2⟩; have hsz2 := hb2.size; have HO2 := Lib.hid (own_below (HO.out.alloc (.cells #[.int .i64 (p : Int), .int .i64 (q : Int)] 108)) hb2); have HB2 := Lib.hid ((HB.out.alloc HB.out.size (.cells #[.int .i64 (p : Int), .int .i64 (q : Int)] 108)).trans (hb2.mono (by simp; have := HB.out.size; omega))); have ho32 := arr32_size out (by omega); have HS2 := Lib.hid (HI2.out out hol); clear hb2)
        | ((with_reducible refine arm_slice1 26 i0 _ (arr32 out) Tryd.underlying49 hi0 hz0 HS2.out ?s1 ?s2 ?s3 ?_); (case s1 => omega); (case s2 => omega); (case s3 => rfl))
        | (at_builtin; refine wpList_append_own _ rfl _ _ 49 rfl w1.heap.size 26 i0 _ 32 32 Tryd.underlying49 hi0 hz0 hz1 hz2 rfl (by decide) _ _ _ rfl (HO2.out.alloc _) ⟨w2.heap.size, 0, none⟩ 1 1 (cellsOf out) rfl (by rw [cellsOf_len (by omega)]) (cell_row_new _ _ _) (cellsOf_one _) (by unfold maxLen; omega) (by omega) (by simp; have := HB2.out.size; omega) ?_; intro v' w3 hown3 hgrow3 _
           have HO3 := Lib.hid hown3
           have HB3 := Lib.hid ((HB2.out.alloc HB2.out.size (.cells (arr32 out) 26)).grown hgrow3 (by simp; have := HB2.out.size; omega) (fun j hj => by have := (HLw.out _ hj).1; omega))
           clear hown3 hgrow3))
      go_roundw
      case rel =>
        refine ⟨_, k + 1, rfl, by omega, by go_num, ?_, HB3.out⟩
        have e : (ps.take (k + 1)).flatMap (fun p => cellsOf (spanSum ls p)) = (ps.take k).flatMap (fun p => cellsOf (spanSum ls p)) ++ cellsOf out := by
          rw [List.take_add_one, HHp.out, List.flatMap_append, HOut.out]
          simp
        rw [e]
        exact HO3.out
      case measure => simp [intOf]; omega
    · obtain rfl : k = ps.length := by omega
      have HO := Lib.hid hown
      have HB := Lib.hid hB
      clear hown hB
      go_wp2
      go_ret2
      refine ⟨_, rfl, ?_, HB1.out.trans (HB.out.mono HB1.out.size)⟩
      have h := HO.out
      rw [List.take_length] at h
      exact own_base h HB1.out.size
end Go.Proofs.YtffdkniahdekjaaDoor
end
section
namespace Go.Hoar
/-- How many ones a number has in base 2. -/
def onesF : Nat → Nat → Nat
  | 0, _ => 0
  | f + 1, x => x % 2 + onesF f (x / 2)
def ones (x : Nat) : Nat := onesF 32 x
theorem onesF_zero : ∀ f, onesF f 0 = 0
  | 0 => rfl
  | f + 1 => by rw [onesF, Nat.zero_div, onesF_zero f]
theorem onesF_fuel : ∀ (f x g : Nat), x < 2 ^ f → f ≤ g → onesF g x = onesF f x
  | 0, x, g, hx, _ => by
    have : x = 0 := by simpa using hx
    subst this
    rw [onesF_zero, onesF_zero]
  | f + 1, x, g, hx, hg => by
    obtain ⟨g', rfl⟩ : ∃ g', g = g' + 1 := ⟨g - 1, by omega⟩
    rw [onesF, onesF, onesF_fuel f (x / 2) g' (by rw [Nat.pow_succ] at hx; omega) (by omega)]
theorem onesF_add : ∀ (f a b : Nat), b < 2 ^ f → ∀ g, onesF (f + g) (2 ^ f * a + b) = onesF f b + onesF g a
  | 0, a, b, hb, g => by
    have : b = 0 := by simpa using hb
    subst this
    simp [onesF]
  | f + 1, a, b, hb, g => by
    have e1 : (2 ^ (f + 1) * a + b) % 2 = b % 2 := by rw [Nat.pow_succ, Nat.mul_comm (2 ^ f) 2, Nat.mul_assoc]; omega
    have e2 : (2 ^ (f + 1) * a + b) / 2 = 2 ^ f * a + b / 2 := by rw [Nat.pow_succ, Nat.mul_comm (2 ^ f) 2, Nat.mul_assoc]; omega
    rw [show f + 1 + g = (f + g) + 1 by omega, onesF, onesF, e1, e2, onesF_add f a (b / 2) (by rw [Nat.pow_succ] at hb; omega) g]
    omega
theorem ones_step (x : Nat) (hx : x < 2 ^ 32) : ones x = x % 2 + ones (x / 2) := by
  have h : onesF 33 x = ones x := onesF_fuel 32 x 33 hx (by decide)
  rw [← h, onesF]
  rfl
theorem and_bytes (a m b n : Nat) (hb : b < 256) (hn : n < 256) : (256 * a + b) &&& (256 * m + n) = 256 * (a &&& m) + (b &&& n) := by
  apply Nat.eq_of_testBit_eq
  intro i
  have hbn : b &&& n < 2 ^ 8 := Nat.and_lt_two_pow b hn
  rw [Nat.testBit_and, show (256 : Nat) = 2 ^ 8 from rfl, Nat.testBit_two_pow_mul_add a hb, Nat.testBit_two_pow_mul_add m hn, Nat.testBit_two_pow_mul_add (a &&& m) hbn]
  split
  · rw [Nat.testBit_and]
  · rw [Nat.testBit_and]
/-- Four bytes against a mask of one byte, over and over. -/
theorem and_four (m a b c d : Nat) (hm : m < 256) (ha : a < 256) (hb : b < 256) (hc : c < 256) (hd : d < 256) :
    (256 * (256 * (256 * d + c) + b) + a) &&& (256 * (256 * (256 * (256 * (m * 16843009) + m) + m) + m) + m) = 256 * (256 * (256 * (d &&& m) + (c &&& m)) + (b &&& m)) + (a &&& m) := by
  rw [and_bytes _ _ _ _ ha hm, and_bytes _ _ _ _ hb hm, and_bytes _ _ _ _ hc hm]
  have e : (256 * 0 + d) &&& (256 * (m * 16843009) + m) = 256 * (0 &&& (m * 16843009)) + (d &&& m) := and_bytes _ _ _ _ hd hm
  rw [Nat.mul_zero, Nat.zero_add, Nat.zero_and, Nat.mul_zero, Nat.zero_add] at e
  rw [e]
def t1 (x : Nat) : Nat := (x / 2 &&& 85) + (x &&& 85)
def t2 (x : Nat) : Nat := (x / 4 &&& 51) + (x &&& 51)
def t3 (x : Nat) : Nat := x / 16 + x &&& 15
theorem t1_of : ∀ x : Fin 256, ∀ c : Fin 2, ((x.val / 2 + 128 * c.val) &&& 85) = (x.val / 2 &&& 85) ∧ t1 x.val < 256 := by decide +kernel
theorem t2_of : ∀ x : Fin 256, ∀ c : Fin 4, ((x.val / 4 + 64 * c.val) &&& 51) = (x.val / 4 &&& 51) ∧ t2 x.val < 256 := by decide +kernel
theorem t3_of : ∀ x : Fin 256, t2 (t1 x.val) / 16 + t2 (t1 x.val) ≤ 100 ∧ t3 (t2 (t1 x.val)) = onesF 8 x.val ∧ onesF 8 x.val ≤ 8 := by decide +kernel
theorem t4_of : ∀ y : Fin 101, ∀ c : Fin 9, ((y.val + 16 * c.val) &&& 15) = (y.val &&& 15) := by decide +kernel
theorem t5_of : ∀ x : Fin 256, t2 (t1 x.val) % 16 ≤ 8 := by decide +kernel
def swar1 (x : Nat) : Nat := (x / 2 &&& 6148914691236517205) + (x &&& 6148914691236517205)
def swar2 (x : Nat) : Nat := (x / 4 &&& 3689348814741910323) + (x &&& 3689348814741910323)
def swar3 (x : Nat) : Nat := x / 16 + x &&& 1085102592571150095
theorem swar1_four (a b c d : Nat) (ha : a < 256) (hb : b < 256) (hc : c < 256) (hd : d < 256) : swar1 (256 * (256 * (256 * d + c) + b) + a) = 256 * (256 * (256 * t1 d + t1 c) + t1 b) + t1 a := by
  have e : (256 * (256 * (256 * d + c) + b) + a) / 2 = 256 * (256 * (256 * (d / 2 + 128 * 0) + (c / 2 + 128 * (d % 2))) + (b / 2 + 128 * (c % 2))) + (a / 2 + 128 * (b % 2)) := by omega
  rw [swar1, e, show (6148914691236517205 : Nat) = 256 * (256 * (256 * (256 * (85 * 16843009) + 85) + 85) + 85) + 85 from rfl, and_four 85 _ _ _ _ (by decide) (by omega) (by omega) (by omega) (by omega), and_four 85 _ _ _ _ (by decide) ha hb hc hd]
  have ka := (t1_of ⟨a, ha⟩ ⟨b % 2, by omega⟩).1
  have kb := (t1_of ⟨b, hb⟩ ⟨c % 2, by omega⟩).1
  have kc := (t1_of ⟨c, hc⟩ ⟨d % 2, by omega⟩).1
  have kd := (t1_of ⟨d, hd⟩ ⟨0, by omega⟩).1
  dsimp only at ka kb kc kd
  rw [ka, kb, kc, kd]
  unfold t1
  omega
theorem swar2_four (a b c d : Nat) (ha : a < 256) (hb : b < 256) (hc : c < 256) (hd : d < 256) : swar2 (256 * (256 * (256 * d + c) + b) + a) = 256 * (256 * (256 * t2 d + t2 c) + t2 b) + t2 a := by
  have e : (256 * (256 * (256 * d + c) + b) + a) / 4 = 256 * (256 * (256 * (d / 4 + 64 * 0) + (c / 4 + 64 * (d % 4))) + (b / 4 + 64 * (c % 4))) + (a / 4 + 64 * (b % 4)) := by omega
  rw [swar2, e, show (3689348814741910323 : Nat) = 256 * (256 * (256 * (256 * (51 * 16843009) + 51) + 51) + 51) + 51 from rfl, and_four 51 _ _ _ _ (by decide) (by omega) (by omega) (by omega) (by omega), and_four 51 _ _ _ _ (by decide) ha hb hc hd]
  have ka := (t2_of ⟨a, ha⟩ ⟨b % 4, by omega⟩).1
  have kb := (t2_of ⟨b, hb⟩ ⟨c % 4, by omega⟩).1
  have kc := (t2_of ⟨c, hc⟩ ⟨d % 4, by omega⟩).1
  have kd := (t2_of ⟨d, hd⟩ ⟨0, by omega⟩).1
  dsimp only at ka kb kc kd
  rw [ka, kb, kc, kd]
  unfold t2
  omega
theorem swar3_four (a b c d : Nat) (ha : a / 16 + a ≤ 100) (hb : b / 16 + b ≤ 100) (hc : c / 16 + c ≤ 100) (hd : d / 16 + d ≤ 100) (mb : b % 16 ≤ 8) (mc : c % 16 ≤ 8) (md : d % 16 ≤ 8) : swar3 (256 * (256 * (256 * d + c) + b) + a) = 256 * (256 * (256 * t3 d + t3 c) + t3 b) + t3 a := by
  have e : (256 * (256 * (256 * d + c) + b) + a) / 16 + (256 * (256 * (256 * d + c) + b) + a) = 256 * (256 * (256 * ((d / 16 + d) + 16 * 0) + ((c / 16 + c) + 16 * (d % 16))) + ((b / 16 + b) + 16 * (c % 16))) + ((a / 16 + a) + 16 * (b % 16)) := by omega
  rw [swar3, e, show (1085102592571150095 : Nat) = 256 * (256 * (256 * (256 * (15 * 16843009) + 15) + 15) + 15) + 15 from rfl, and_four 15 _ _ _ _ (by decide) (by omega) (by omega) (by omega) (by omega)]
  have ka := t4_of ⟨a / 16 + a, by omega⟩ ⟨b % 16, by omega⟩
  have kb := t4_of ⟨b / 16 + b, by omega⟩ ⟨c % 16, by omega⟩
  have kc := t4_of ⟨c / 16 + c, by omega⟩ ⟨d % 16, by omega⟩
  have kd := t4_of ⟨d / 16 + d, by omega⟩ ⟨0, by omega⟩
  dsimp only at ka kb kc kd
  rw [ka, kb, kc, kd]
  rfl
/-- What the last steps make of four sums of bytes. -/
theorem fold_four (a b c d : Nat) (ha : a ≤ 8) (hb : b ≤ 8) (hc : c ≤ 8) (hd : d ≤ 8) (x y z : Nat) (hx : x = 256 * (256 * (256 * d + c) + b) + a) (hy : y = x + x / 256) (hz : z = y + y / 65536) : z + z / 4294967296 < 18446744073709551616 ∧ (z + z / 4294967296) % 128 = a + b + c + d := by
  have e1 : x / 256 = 65536 * d + 256 * c + b := by omega
  have e2 : y = 16777216 * d + 65536 * (c + d) + 256 * (b + c) + (a + b) := by omega
  have e3 : y / 65536 = 256 * d + (c + d) := by omega
  have e4 : z = 16777216 * d + 65536 * (c + d) + 256 * (b + c + d) + (a + b + c + d) := by omega
  have e5 : z / 4294967296 = 0 := by omega
  clear hx hy hz e1 e2 e3
  omega
theorem ones_four (a b c d : Nat) (ha : a < 256) (hb : b < 256) (hc : c < 256) (_hd : d < 256) : ones (256 * (256 * (256 * d + c) + b) + a) = onesF 8 a + onesF 8 b + onesF 8 c + onesF 8 d := by
  have h1 := onesF_add 8 (256 * (256 * d + c) + b) a ha 24
  have h2 := onesF_add 8 (256 * d + c) b hb 16
  have h3 := onesF_add 8 d c hc 8
  rw [show (2 : Nat) ^ 8 = 256 from rfl] at h1 h2 h3
  rw [ones, h1, h2, h3]
  omega
theorem swar_ones (x : Nat) (hx : x < 4294967296) (s y z : Nat) (hs : s = swar3 (swar2 (swar1 x))) (hy : y = s + s / 256) (hz : z = y + y / 65536) : s < 4294967296 ∧ y < 8589934592 ∧ z < 17179869184 ∧ (z + z / 4294967296) % 128 = ones x := by
  obtain ⟨a, b, c, d, ha, hb, hc, hd, rfl⟩ : ∃ a b c d, a < 256 ∧ b < 256 ∧ c < 256 ∧ d < 256 ∧ x = 256 * (256 * (256 * d + c) + b) + a := ⟨x % 256, x / 256 % 256, x / 65536 % 256, x / 16777216, by omega, by omega, by omega, by omega, by omega⟩
  obtain ⟨pa, qa, ra⟩ := t3_of ⟨a, ha⟩
  obtain ⟨pb, qb, rb⟩ := t3_of ⟨b, hb⟩
  obtain ⟨pc, qc, rc⟩ := t3_of ⟨c, hc⟩
  obtain ⟨pd, qd, rd⟩ := t3_of ⟨d, hd⟩
  have ma := t5_of ⟨a, ha⟩
  have mb := t5_of ⟨b, hb⟩
  have mc := t5_of ⟨c, hc⟩
  have md := t5_of ⟨d, hd⟩
  have ua := (t1_of ⟨a, ha⟩ 0).2
  have ub := (t1_of ⟨b, hb⟩ 0).2
  have uc := (t1_of ⟨c, hc⟩ 0).2
  have ud := (t1_of ⟨d, hd⟩ 0).2
  dsimp only at *
  rw [swar1_four a b c d ha hb hc hd, swar2_four _ _ _ _ ua ub uc ud, swar3_four _ _ _ _ pa pb pc pd mb mc md, qa, qb, qc, qd] at hs
  rw [ones_four a b c d ha hb hc hd]
  have := fold_four _ _ _ _ ra rb rc rd s y z hs hy hz
  exact ⟨by omega, by omega, by omega, this.2⟩
end Go.Hoar
end
section
namespace Go.Proofs.YtffdkniahdekjaaDoor
open Go.RowKit Go.Hoar
theorem wrapU (a : Nat) (h : a < 18446744073709551616) : IntKind.u64.wrap ((a : Nat) : Int) = (a : Int) := by
  simp [IntKind.wrap, IntKind.bits, IntKind.signed]
  omega
theorem swar_le (x : Nat) (hx : x < 4294967296) : swar1 x < 8589934592 ∧ swar2 (swar1 x) < 17179869184 := by
  have h1 : swar1 x ≤ x / 2 + x := Nat.add_le_add Nat.and_le_left Nat.and_le_left
  have h2 : swar2 (swar1 x) ≤ swar1 x / 4 + swar1 x := Nat.add_le_add Nat.and_le_left Nat.and_le_left
  omega
theorem swar1_int (x : Nat) (hx : x < 4294967296) : IntKind.u64.wrap (bits BinOp.and IntKind.u64 ((x : Int) / 2) 6148914691236517205 + bits BinOp.and IntKind.u64 (x : Int) 6148914691236517205) = ((swar1 x : Nat) : Int) := by
  have a := u64_and_nat (x / 2) 6148914691236517205 (by omega) (by decide)
  have b := u64_and_nat x 6148914691236517205 (by omega) (by decide)
  have h := (swar_le x hx).1
  have e : bits BinOp.and IntKind.u64 ((x : Int) / 2) 6148914691236517205 + bits BinOp.and IntKind.u64 (x : Int) 6148914691236517205 = ((swar1 x : Nat) : Int) := by
    rw [swar1, Int.natCast_add, ← a, ← b]
    rfl
  rw [e, wrapU _ (by omega)]
theorem swar2_int (x : Nat) (hx : x < 4294967296) : IntKind.u64.wrap (bits BinOp.and IntKind.u64 (((swar1 x : Nat) : Int) / 4) 3689348814741910323 + bits BinOp.and IntKind.u64 ((swar1 x : Nat) : Int) 3689348814741910323) = ((swar2 (swar1 x) : Nat) : Int) := by
  have h := swar_le x hx
  have a := u64_and_nat (swar1 x / 4) 3689348814741910323 (by omega) (by decide)
  have b := u64_and_nat (swar1 x) 3689348814741910323 (by omega) (by decide)
  have e : bits BinOp.and IntKind.u64 (((swar1 x : Nat) : Int) / 4) 3689348814741910323 + bits BinOp.and IntKind.u64 ((swar1 x : Nat) : Int) 3689348814741910323 = ((swar2 (swar1 x) : Nat) : Int) := by
    rw [swar2, Int.natCast_add, ← a, ← b]
    rfl
  rw [e, wrapU _ (by omega)]
theorem swar3_int (s : Nat) (hs : s < 17179869184) : bits BinOp.and IntKind.u64 (IntKind.u64.wrap ((s : Int) / 16 + (s : Int))) 1085102592571150095 = ((swar3 s : Nat) : Int) := by
  have e : ((s : Int) / 16 + (s : Int)) = ((s / 16 + s : Nat) : Int) := by omega
  have a := u64_and_nat (s / 16 + s) 1085102592571150095 (by omega) (by decide)
  rw [e, wrapU _ (by omega)]
  exact a
theorem swar4_int (s : Nat) (hs : s < 4294967296) : IntKind.u64.wrap ((s : Int) + (s : Int) / 256) = ((s + s / 256 : Nat) : Int) := by
  have e : ((s : Int) + (s : Int) / 256) = ((s + s / 256 : Nat) : Int) := by omega
  rw [e, wrapU _ (by omega)]
theorem swar5_int (s : Nat) (hs : s < 8589934592) : IntKind.u64.wrap ((s : Int) + (s : Int) / 65536) = ((s + s / 65536 : Nat) : Int) := by
  have e : ((s : Int) + (s : Int) / 65536) = ((s + s / 65536 : Nat) : Int) := by omega
  rw [e, wrapU _ (by omega)]
theorem swar6_int (s : Nat) (hs : s < 17179869184) : IntKind.u64.wrap ((s : Int) + (s : Int) / 4294967296) = ((s + s / 4294967296 : Nat) : Int) := by
  have e : ((s : Int) + (s : Int) / 4294967296) = ((s + s / 4294967296 : Nat) : Int) := by omega
  rw [e, wrapU _ (by omega)]
set_option maxRecDepth 100000 in
set_option maxHeartbeats 1000000 in
theorem ones64_any (x : Nat) (hx : x < 4294967296) (w : World) :
    Calls Tryd.prog 111 #[.int .u64 (x : Int)] w fun e w' => e = .returned (.int .i64 ((ones x : Nat) : Int)) ∧ w' = w := by
  obtain ⟨s, hs⟩ : ∃ s, s = swar3 (swar2 (swar1 x)) := ⟨_, rfl⟩
  obtain ⟨y, hy⟩ : ∃ y, y = s + s / 256 := ⟨_, rfl⟩
  obtain ⟨z, hz⟩ : ∃ z, z = y + y / 65536 := ⟨_, rfl⟩
  obtain ⟨b1, b2, b3, b4⟩ := swar_ones x hx s y z hs hy hz
  have e1 := swar1_int x hx
  have e2 := swar2_int x hx
  have e3 := swar3_int _ (swar_le x hx).2
  have e4 := swar4_int s b1
  have e5 := swar5_int y b2
  have e6 := swar6_int z b3
  rw [← hs] at e3
  rw [← hy] at e4
  rw [← hz] at e5
  have H := Lib.hid (And.intro e1 (And.intro e2 (And.intro e3 (And.intro e4 (And.intro e5 e6)))))
  have B4 := Lib.hid b4
  have B3 := Lib.hid b3
  clear e1 e2 e3 e4 e5 e6 b4 hs hy hz b1 b2 b3
  go_enter Tryd.func111, Tryd.ntmps111
  go_wp2
  go_ret
  obtain ⟨e1, e2, e3, e4, e5, e6⟩ := H.out
  have b3 := B3.out
  have w7 : wrap64 ((z + z / 4294967296 : Nat) : Int) = ((z + z / 4294967296 : Nat) : Int) := by
    have hq : z + z / 4294967296 < 34359738368 := by omega
    generalize z + z / 4294967296 = q at hq
    unfold wrap64
    omega
  have e7 : bits BinOp.and IntKind.i64 (wrap64 ((z + z / 4294967296 : Nat) : Int)) 127 = ((ones x : Nat) : Int) := by
    rw [w7, i64_and127, ← B4.out]
    rfl
  rw [e1, e2, e3, e4, e5, e6, e7]
  exact ⟨rfl, rfl⟩
set_option maxHeartbeats 1000000 in
theorem onesCount_any (x : Nat) (hx : x < 4294967296) (w : World) :
    Calls Tryd.prog 97 #[.int .u64 (x : Int)] w fun e w' => e = .returned (.int .i64 ((ones x : Nat) : Int)) ∧ w' = w := by
  have h := ones64_any x hx
  have HO := Lib.hid h
  clear h
  go_enter Tryd.func97, Tryd.ntmps97
  go_wp2_with (go_at_call 111; refine (HO.out _).mono ?_; rintro e w' ⟨rfl, rfl⟩)
  go_ret
  exact ⟨rfl, rfl⟩
end Go.Proofs.YtffdkniahdekjaaDoor
end
section
namespace Go.Proofs.YtffdkniahdekjaaDoor
open Go.RowKit Go.Hoar
/-- Can a tree be that of a list, as far as its numbers tell? -/
def TreeOk (n : Nat) (many : Int) : Prop := 0 ≤ many ∧ many ≤ 1073741824 ∧ n = ones many.toNat
instance (n : Nat) (many : Int) : Decidable (TreeOk n many) := by unfold TreeOk; infer_instance
set_option maxRecDepth 100000 in
set_option maxHeartbeats 1000000 in
theorem treeOk_any (a : Option Addr) (n c : Nat) (many : Int) (w : World) :
    Calls Tryd.prog 74 #[.agg #[.int .i64 many, .slice a n c]] w fun e w' => e = .returned (.bool (decide (TreeOk n many))) ∧ Below w.heap.size w w' := by
  by_cases g0 : 0 ≤ many
  · by_cases g1 : many ≤ 1073741824
    · obtain ⟨m, rfl⟩ := Int.eq_ofNat_of_zero_le g0
      have ho := onesCount_any m (by omega)
      have hw : IntKind.u64.wrap (m : Int) = (m : Int) := wrapU m (by omega)
      have hb : Below w.heap.size w (w.alloc (.cells #[.int .i64 (m : Int), .slice a n c] 57)) := (Below.refl _ _).alloc (Nat.le_refl _) _
      generalize hon : ones m = o at ho
      have HO := Lib.hid ho
      have HB := Lib.hid hb
      clear ho hb
      by_cases g2 : n = o
      · have e : decide (TreeOk n m) = true := decide_eq_true ⟨g0, g1, by rw [g2, ← hon]; rfl⟩
        rw [e]
        clear hon e
        subst g2
        go_enter Tryd.func74, Tryd.ntmps74
        go_upto_region 1 with (fail)
        go_quiet (first | (go_at_call 97; exact Calls.quiet_of_same (HO.out _)))
        go_wp2
        go_ret
        exact ⟨by simp, below_drewN HB.out _⟩
      · have e : decide (TreeOk n m) = false := decide_eq_false fun k => g2 (by have := k.2.2; rw [Int.toNat_natCast, hon] at this; exact this)
        rw [e]
        have g3 : ¬ (n : Int) = (o : Int) := by omega
        clear hon e
        go_enter Tryd.func74, Tryd.ntmps74
        go_upto_region 1 with (fail)
        go_quiet (first | (go_at_call 97; exact Calls.quiet_of_same (HO.out _)))
        go_wp2
        go_ret
        exact ⟨by simp [g3], below_drewN HB.out _⟩
    · have e : decide (TreeOk n many) = false := decide_eq_false fun k => g1 k.2.1
      rw [e]
      clear e
      go_enter Tryd.func74, Tryd.ntmps74
      go_upto_region 1 with (fail)
      go_quiet (fail)
      go_wp2
      go_ret
      exact ⟨by simp, below_drewN ((Below.refl _ _).alloc (Nat.le_refl _) _) _⟩
  · have e : decide (TreeOk n many) = false := decide_eq_false fun k => g0 k.1
    rw [e]
    clear e
    go_enter Tryd.func74, Tryd.ntmps74
    go_upto_region 1 with (fail)
    go_quiet (fail)
    go_wp2
    go_ret
    exact ⟨by simp, below_drewN ((Below.refl _ _).alloc (Nat.le_refl _) _) _⟩
end Go.Proofs.YtffdkniahdekjaaDoor
end
section
namespace Go.Proofs.YtffdkniahdekjaaDoor
open Go.RowKit Go.Hoar
/-- A slice of digests that lies in memory: nil, or so many at an address. -/
def RowOk (w : World) (a : Option Addr) (c : Nat) (ls : List (List Nat)) : Prop := (a = none ∧ ls = [] ∧ c = 0) ∨ ∃ g off, a = some ⟨g, off, none⟩ ∧ g < w.heap.size ∧ SumsAt w g off ls ∧ ls.length ≤ c ∧ c ≤ maxLen
theorem RowOk.below {w w' : World} {a : Option Addr} {c : Nat} {ls : List (List Nat)} (h : RowOk w a c ls) (hb : Below w.heap.size w w') : RowOk w' a c ls := by
  rcases h with h | ⟨g, off, e, hg, hs, r⟩
  · exact .inl h
  · exact .inr ⟨g, off, e, Nat.lt_of_lt_of_le hg hb.size, hs.below hg hb, r⟩
/-- Digests of 32 bytes each. -/
def SumsOk (ls : List (List Nat)) : Prop := ∀ l ∈ ls, l.length = 32 ∧ Sha.Bytes l
theorem sums_cells {w : World} {g off : Nat} {ls : List (List Nat)} (h : SumsAt w g off ls) (hok : SumsOk ls) : ∀ j u, (ls.flatMap cellsOf)[j]? = some u → w.cell? ⟨g, off + j, none⟩ = some u := by
  induction ls generalizing off with
  | nil => intro j u hj; simp at hj
  | cons l ls ih =>
    intro j u hj
    have hl := (hok l (by simp)).1
    have hlen : (cellsOf l).length = 32 := cellsOf_len (by omega)
    rw [List.flatMap_cons] at hj
    by_cases hj32 : j < 32
    · rw [List.getElem?_append_left (by omega)] at hj
      have h0 := (h 0 l rfl).2.2 j hj32
      rw [Nat.zero_mul, Nat.add_zero] at h0
      rw [h0, ← hj, cellsOf, Array.getElem?_toList, arr32_get l hl j hj32]
    · rw [List.getElem?_append_right (by omega), hlen] at hj
      have hd : SumsAt w g (off + 32) ls := by
        have := h.drop 1
        simpa using this
      have := ih hd (fun x hx => hok x (List.mem_cons_of_mem _ hx)) (j - 32) u hj
      rwa [show off + 32 + (j - 32) = off + j by omega] at this
theorem cells_flat_len {ls : List (List Nat)} (hok : SumsOk ls) : (ls.flatMap cellsOf).length = ls.length * 32 := by
  induction ls with
  | nil => rfl
  | cons l ls ih => rw [List.flatMap_cons, List.length_append, ih (fun x hx => hok x (List.mem_cons_of_mem _ hx)), cellsOf_len (by have := (hok l (by simp)).1; omega), List.length_cons]; omega
theorem cells_flat_one (ls : List (List Nat)) : ∀ u ∈ ls.flatMap cellsOf, u.oneCell' = true := fun u hu => by
  obtain ⟨l, _, hl⟩ := List.mem_flatMap.1 hu
  exact cellsOf_one l u hl
theorem cloneSums_any (ls : List (List Nat)) (hok : SumsOk ls) (hn : ls.length ≤ 1073741824) (a : Option Addr) (c : Nat) (w : World) (hl : RowOk w a c ls) :
    Calls Tryd.prog 32 #[.slice a ls.length c] w fun e w' => ∃ v, e = .returned v ∧ w'.ownsRow w.heap.size 26 32 v ls.length (ls.flatMap cellsOf) ∧ Below w.heap.size w w' := by
  obtain ⟨i0, hi0, hz0, hz1, hz2⟩ := info_parts sumInfo3
  rcases hl with ⟨rfl, rfl, rfl⟩ | ⟨g, off, rfl, hg, hs, hc, hm⟩
  · refine (AnyE.slices_Clone_nil Tryd.cloneSum 0 0 w).mono ?_
    rintro e w' ⟨rfl, rfl⟩
    exact ⟨_, rfl, World.ownsRow_nil _ _ _ _, Below.refl _ _⟩
  · refine (AnyE.slices_Clone Tryd.cloneSum i0 _ 32 32 hi0 hz0 hz1 hz2 rfl (by decide) Tryd.sizeOf26 g off ls.length c (ls.flatMap cellsOf) w (cells_flat_len hok) (by unfold maxLen; omega) (by omega) (sums_cells hs hok) (cells_flat_one ls)).mono ?_
    rintro e w' ⟨v, rfl, ho, _, hb⟩
    exact ⟨v, rfl, ho, hb⟩
/-- The peaks of a tree that has one digest more. -/
def growOf : Nat → Nat → List (List Nat) → List Nat → List (List Nat)
  | 0, _, ps, pk => ps ++ [pk]
  | f + 1, m, ps, pk => if m % 2 = 1 then growOf f (m / 2) ps.dropLast (Sha.sha (2 :: (ps.getLastD [] ++ pk))) else ps ++ [pk]
theorem treeInfo {x y : Value} : (Tryd.prog.info? 57).map (·.size) = some (#[x, y] : Array Value).size := by
  have h : (Tryd.prog.info? 57).map (·.size) = some 2 := by kernel_rfl
  exact h
theorem own_pop {w : World} {base g n m cap size : Nat} {e : TypeId} {xs : List Value} (h : w.ownsRow base e size (.slice (some ⟨g, 0, none⟩) n cap) n xs) (hm : m ≤ n) : w.ownsRow base e size (.slice (some ⟨g, 0, none⟩) m cap) m (xs.take (m * size)) := by
  obtain ⟨h1, ⟨h0, _⟩ | ⟨g', cap', cur, hv, hb, hh, hc, hcm, hs, ht⟩⟩ := h
  · cases h0
  · cases hv
    have hle : m * size ≤ n * size := Nat.mul_le_mul_right size hm
    refine ⟨by rw [List.length_take, h1]; omega, .inr ⟨g, cap, cur, rfl, hb, hh, by omega, hcm, hs, ?_⟩⟩
    rw [← ht, List.take_take, Nat.min_eq_left hle]
theorem own_setRow {w : World} {base : Nat} {e : TypeId} {size : Nat} {v : Value} {n g : Nat} {xs : List Value} (h : w.ownsRow base e size v n xs) (hne : v.ownBlock ≠ some g) (cs : Array Value) : (w.setRow g cs).ownsRow base e size v n xs :=
  h.kept (row := some g) ⟨rfl, rfl, rfl, by simp, fun k _ hb => setRow_heap_other _ _ _ _ (fun e => hb (by rw [e]))⟩ (.inr hne)
theorem onesF_le : ∀ f x, onesF f x ≤ f
  | 0, _ => Nat.le_refl _
  | f + 1, x => by have := onesF_le f (x / 2); rw [onesF]; omega
set_option maxRecDepth 100000 in
set_option maxHeartbeats 2000000 in
theorem treeGrow_any (ps : List (List Nat)) (x : List Nat) (many : Nat) (hps : SumsOk ps) (hx : x.length = 32) (hxb : Sha.Bytes x) (hok : TreeOk ps.length (many : Int)) (hm : many < 1073741824) (a : Option Addr) (c : Nat) (w : World) (hl : RowOk w a c ps) (hc : ConstAt w) (out : List (List Nat)) (hout : Hid (out = growOf 31 many ps (Sha.sha (1 :: x)))) :
    Calls Tryd.prog 38 #[.agg #[.int .i64 (many : Int), .slice a ps.length c], .agg (arr32 x)] w fun e w' => ∃ v, e = .returned (.tuple #[.agg #[.int .i64 ((many : Int) + 1), v], .int .i64 0]) ∧ w'.ownsRow w.heap.size 26 32 v out.length (out.flatMap cellsOf) ∧ Below w.heap.size w w' := by
  obtain ⟨i0, hi0, hz0, hz1, hz2⟩ := info_parts sumInfo3
  have hd : decide (TreeOk ps.length (many : Int)) = true := decide_eq_true hok
  have hpn : ps.length = ones many := by have := hok.2.2; rwa [Int.toNat_natCast] at this
  have hI := arr32_info x (by omega)
  obtain ⟨lf, hlf⟩ : ∃ lf, lf = Sha.sha (1 :: x) := ⟨_, rfl⟩
  have hlfb : Sha.Bytes lf := by rw [hlf]; exact (sha_bytes _).2
  have hIlf : lf.length = 32 := by rw [hlf]; exact (sha_bytes _).1
  have hp32 : ps.length ≤ 32 := by rw [hpn]; exact onesF_le _ _
  have HLf := Lib.hid hlf
  have HOk := Lib.hid hok
  have HPn := Lib.hid hpn
  have HL := Lib.hid hl
  have HC := Lib.hid hc
  have HI := Lib.hid hI
  have HPs := Lib.hid hps
  have hne : ¬ (many : Int) = 1073741824 := by omega
  clear hlf hok hpn hl hc hI hps
  go_enter Tryd.func38, Tryd.ntmps38
  go_upto_region 1 with (fail)
  refine gen_world (P := fun W => Code.wp _ _ _ _ W) (I := fun W => Below w.heap.size w W ∧ Has W w.heap.size 57 #[.int .i64 (many : Int), .slice a ps.length c] ∧ Has W (w.heap.size + 1) 26 (arr32 x) ∧ Has W (w.heap.size + 1 + 1) 57 #[.int .i64 0, .slice none 0 0]) _ ⟨(((Below.refl _ w).alloc (Nat.le_refl _) _).alloc (by simp) _).alloc (by simp; omega) _, ((Has.fresh_at _ _ _ _ rfl).alloc _).alloc _, (Has.fresh_at _ _ _ _ (by simp)).alloc _, Has.fresh_at _ _ _ _ (by simp)⟩ ?_
  rintro W ⟨hB, hT, hX, hR⟩
  have t0 : W.cell? ⟨w.heap.size, 0, none⟩ = some (.int .i64 (many : Int)) := hT.cell 0
  have t1 : W.cell? ⟨w.heap.size, 1, none⟩ = some (.slice a ps.length c) := hT.cell 1
  have HB := Lib.hid hB
  have HT := Lib.hid hT
  have HX := Lib.hid hX
  have HR := Lib.hid hR
  have HL1 := Lib.hid (HL.out.below hB)
  have HC1 := Lib.hid (HC.out.below hB rfl)
  have hszW := hR.lt
  clear hB hT hX hR
  go_upto_region 5 with (first
    | (go_at_call 74; refine (treeOk_any a ps.length c (many : Int) W).mono ?_; rintro e w1 ⟨rfl, hb1⟩; rw [hd]; have hsz1 := hb1.size; have u0 : w1.cell? ⟨w.heap.size, 0, none⟩ = some (.int .i64 (many : Int)) := (hb1.cell HT.out.lt).trans t0; have u1 : w1.cell? ⟨w.heap.size, 1, none⟩ = some (.slice a ps.length c) := (hb1.cell HT.out.lt).trans t1; have HB1 := Lib.hid (HB.out.trans (hb1.mono HB.out.size)); have HX1 := Lib.hid (HX.out.below hb1 HX.out.lt); have HT1 := Lib.hid (HT.out.below hb1 HT.out.lt); have HR1 := Lib.hid (HR.out.below hb1 HR.out.lt); have HL2 := Lib.hid (HL1.out.below hb1); have HC2 := Lib.hid (HC1.out.below hb1 rfl); clear hb1 t0 t1))
  go_upto_region 7 with (first
    | (go_at_call 32; refine (cloneSums_any ps HPs.out (by omega) a c w1 HL2.out).mono ?_; rintro e w2 ⟨v2, rfl, ho2, hb2⟩; have hsz2 := hb2.size; have HO2 := Lib.hid ho2; have HB2 := Lib.hid (HB1.out.trans (hb2.mono HB1.out.size)); have HX2 := Lib.hid (HX1.out.below hb2 HX1.out.lt).row; have HT2 := Lib.hid (HT1.out.below hb2 HT1.out.lt); have HR2 := Lib.hid (HR1.out.below hb2 HR1.out.lt); have HC3 := Lib.hid (HC2.out.below hb2 rfl); have u2 : w2.cell? ⟨w.heap.size, 0, none⟩ = some (.int .i64 (many : Int)) := (hb2.cell HT1.out.lt).trans u0; clear hb2 ho2)
    | ((with_reducible refine arm_load (w := w2) ⟨w.heap.size + 1, 0, none⟩ _ _ HX2.out Tryd.underlying26 HI.out ?h1 ?h2 ?_); (case h1 => rfl); (case h2 => rfl))
    | (go_at_call 67; refine (leaf_any x hx hxb w2 HC3.out lf HLf).mono ?_; rintro e w3 ⟨rfl, _, hb3⟩; have hsz3 := hb3.size; have HO3 := Lib.hid (own_below HO2.out hb3); have HB3 := Lib.hid (HB2.out.trans (hb3.mono HB2.out.size)); have HT3 := Lib.hid (HT2.out.below hb3 HT2.out.lt); have HR3 := Lib.hid (HR2.out.below hb3 HR2.out.lt); have HC4 := Lib.hid (HC3.out.below hb3 rfl); have u3 : w3.cell? ⟨w.heap.size, 0, none⟩ = some (.int .i64 (many : Int)) := (hb3.cell HT2.out.lt).trans u2; have HF := Lib.hid (fresh_sum w3); have HSz := Lib.hid (zero32_size lf (by omega)); have HIl := Lib.hid (arr32_info lf (by omega)); clear hb3)
    | ((with_reducible refine arm_store w3.heap.size (arr32 lf) 26 zero32 HF.out HSz.out HIl.out (arr32_one _) ?h5 ?h6 ?_); (case h5 => rfl); (case h6 => rfl)))
  have hlt2 : ∀ k, v2.ownBlock = some k → k < w3.heap.size := fun k hk => (HO3.out.lt k hk).2
  refine gen_world (P := fun W => Code.wp _ _ _ _ W) (I := fun V => Below w.heap.size w V ∧ Has V w.heap.size 57 #[.int .i64 (many : Int), .slice a ps.length c] ∧ Has V (w.heap.size + 1 + 1) 57 #[.int .i64 0, .slice none 0 0] ∧ Has V w3.heap.size 26 (arr32 lf) ∧ V.ownsRow w1.heap.size 26 32 v2 ps.length (ps.flatMap cellsOf)) _ ⟨below_setRow (HB3.out.alloc HB3.out.size _) HB3.out.size _, (HT3.out.alloc _).setRow_apart (by have := HT3.out.lt; omega), (HR3.out.alloc _).setRow_apart (by have := HR3.out.lt; omega), HF.out.setRow, own_setRow (HO3.out.alloc _) (fun e => by have := hlt2 _ e; omega) _⟩ ?_
  rintro V ⟨hBV, hTV, hRV, hPV, hOV⟩
  have t0 : V.cell? ⟨w.heap.size, 0, none⟩ = some (.int .i64 (many : Int)) := hTV.cell 0
  have HBV := Lib.hid hBV
  have HTV := Lib.hid hTV
  have HRV := Lib.hid hRV
  have HPV := Lib.hid hPV
  have HOV := Lib.hid hOV
  have hw1w3 : w.heap.size + 3 ≤ w1.heap.size := by omega
  clear hBV hTV hRV hPV hOV HB3 HT3 HR3 HO3 HC4 HC3 HB2 HT2 HR2 HO2 HX2 HB1 HX1 HT1 HR1 HL2 HC2 HB HT HX HR HL1 HC1 u0 u1 u2 u3
  go_wp2
  go_loopw [6, 8] (fun v mv wr => ∃ (vv : Value) (m f : Nat) (qs : List (List Nat)) (pk : List Nat), vv = v ∧ mv = .int .i64 (m : Int) ∧ m < 2 ^ f ∧ m < 1073741824 ∧ pk.length = 32 ∧ (∀ k, vv.ownBlock = some k → k < w3.heap.size) ∧ Hid (SumsOk qs ∧ Sha.Bytes pk ∧ qs.length = ones m ∧ growOf f m qs pk = out) ∧
    wr.ownsRow w1.heap.size 26 32 vv qs.length (qs.flatMap cellsOf) ∧ Has wr w3.heap.size 26 (arr32 pk) ∧ Has wr w.heap.size 57 #[.int .i64 (many : Int), .slice a ps.length c] ∧ Has wr (w.heap.size + 1 + 1) 57 #[.int .i64 0, .slice none 0 0] ∧ Below w.heap.size w wr) (fun _ mv _ => (intOf mv).toNat)
  case atStart => exact ⟨_, many, 31, ps, lf, rfl, rfl, by omega, hm, hIlf, hlt2, Lib.hid ⟨HPs.out, hlfb, HPn.out, by rw [hout.out, HLf.out]⟩, HOV.out, HPV.out, HTV.out, HRV.out, HBV.out⟩
  case round =>
    obtain ⟨vv, m, f, qs, pk, hvv, rfl, hmf, hm30, hpkl, hvlt, HQ, hO, hP, hT, hR, hB⟩ := hrel
    subst hvv
    by_cases hodd : m % 2 = 1
    · have hmod : (m : Int) % 2 = 1 := by omega
      obtain ⟨hqok, hpkb, hqn, hqg⟩ := HQ.out
      have hones := ones_step m (by omega)
      obtain ⟨f, rfl⟩ : ∃ f', f = f' + 1 := ⟨f - 1, by have : f ≠ 0 := (fun e => by subst e; omega); omega⟩
      have hm2 : m / 2 < 2 ^ f := by rw [Nat.pow_succ] at hmf; omega
      rcases List.eq_nil_or_concat qs with hq0 | ⟨qs', l, hqs⟩
      · rw [hq0] at hqn
        simp at hqn
        omega
      rw [List.concat_eq_append] at hqs
      subst hqs
      obtain ⟨n, hn⟩ : ∃ n, n = qs'.length := ⟨_, rfl⟩
      have hlen : (qs' ++ [l]).length = n + 1 := by rw [hn]; simp
      have hll := hqok l (by simp)
      have hqok2 : SumsOk qs' := fun x hx => hqok x (by simp [hx])
      rw [hlen] at hO
      obtain ⟨a6, c6, rfl, hc6, hcm6⟩ := own_shape hO
      obtain ⟨g6, rfl, hg6b, hg6⟩ := own_addr hO (by omega)
      have hflat : ((qs' ++ [l]).flatMap cellsOf) = qs'.flatMap cellsOf ++ cellsOf l := by rw [List.flatMap_append]; simp
      have hql : (qs'.flatMap cellsOf).length = n * 32 := by rw [cells_flat_len hqok2, hn]
      have hrowl : ∀ j u, (arr32 l)[j]? = some u → wr.cell? ((⟨g6, n * 32, none⟩ : Addr).add j) = some u := fun j u hj => by
        have h := hO.cells (g := g6) rfl (n * 32 + j) u (by
          rw [hflat, List.getElem?_append_right (by omega), hql, Nat.add_sub_cancel_left, cellsOf, Array.getElem?_toList]
          exact hj)
        rw [Addr.add_lit, Nat.zero_add] at h
        rw [Addr.add_lit]
        exact h
      have hpop := own_pop hO (m := n) (by omega)
      rw [hflat, List.take_append_of_le_length (by omega), List.take_of_length_le (by omega)] at hpop
      unfold maxLen at hcm6
      obtain ⟨np, hnp⟩ : ∃ np, np = Sha.sha (2 :: (l ++ pk)) := ⟨_, rfl⟩
      have HNp := Lib.hid hnp
      have hnpl : np.length = 32 := by rw [hnp]; exact (sha_bytes _).1
      have hnpb : Sha.Bytes np := by rw [hnp]; exact (sha_bytes _).2
      have HNext : Hid (SumsOk qs' ∧ Sha.Bytes np ∧ qs'.length = ones (m / 2) ∧ growOf f (m / 2) qs' np = out) := Lib.hid ⟨hqok2, hnpb, by rw [hlen] at hqn; omega, by
        rw [← hqg, growOf, if_pos hodd, List.dropLast_concat, List.getLastD_concat, hnp]⟩
      have HIL := Lib.hid (arr32_info l (by omega))
      have HIP := Lib.hid (arr32_info pk (by omega))
      have HIN := Lib.hid (arr32_info np (by omega))
      have HSN := Lib.hid ((arr32_size pk (by omega)).trans (arr32_size np (by omega)).symm)
      have HRowL := Lib.hid hrowl
      have HRowP := Lib.hid hP.row
      have HPop := Lib.hid hpop
      have HPair : Hid (∀ V, Below wr.heap.size wr V → Calls Tryd.prog 69 #[.agg (arr32 l), .agg (arr32 pk)] V fun e w' => e = .returned (.agg (arr32 np)) ∧ np.length = 32 ∧ Below V.heap.size V w') := Lib.hid fun V hV => pair_any l pk hll.1 hpkl hll.2 hpkb V ((HC.out.below hB rfl).below hV rfl) np HNp
      have HP := Lib.hid hP
      have HT := Lib.hid hT
      have HR := Lib.hid hR
      have HB := Lib.hid hB
      have hszr := hP.lt
      have hszr2 := hR.lt
      have hgne : g6 < w3.heap.size := hvlt g6 rfl
      have hix : (n : Int) < (n : Int) + 1 := by omega
      have HN := Lib.hid hn
      clear hO hP hT hR hB hrowl hpop hnp hqok hqok2 hll hflat hlen hqg hones hqn HQ hql hn
      go_upto_region 11 with (fail)
      refine wp_region_still_tail 5 (by kernel_rfl) (by kernel_rfl) ?_
      simp only [List.take_succ_cons, List.take_zero, List.drop_succ_cons, List.drop_zero]
      still_step
      still_step
      still_step
      refine still_load ⟨g6, n * 32, none⟩ (arr32 l) _ HRowL.out Tryd.underlying26 HIL.out rfl rfl ?_
      simp only [Act.put, List.setIfInBounds_toArray, List.set_cons_succ, List.set_cons_zero]
      refine still_load ⟨w3.heap.size, 0, none⟩ (arr32 pk) _ HRowP.out Tryd.underlying26 HIP.out rfl rfl ?_
      simp only [Act.put, List.setIfInBounds_toArray, List.set_cons_succ, List.set_cons_zero]
      refine wpStill_nil ?_
      go_wp2_with (first
        | (go_at_call 69; refine (HPair.out _ (Below.refl _ wr).drew).mono ?_; rintro e w4 ⟨rfl, _, hb4⟩; have hsz4 := hb4.size; have HP4 := Lib.hid (HP.out.drew.below hb4 hszr); have HT4 := Lib.hid (HT.out.drew.below hb4 HT.out.lt); have HR4 := Lib.hid (HR.out.drew.below hb4 hszr2); have HB4 := Lib.hid (HB.out.drew.trans (hb4.mono HB.out.size)); have HO4 := Lib.hid (own_below (w := wr.drew) HPop.out hb4); clear hb4)
        | ((with_reducible refine arm_store w3.heap.size (arr32 np) 26 (arr32 pk) HP4.out HSN.out HIN.out (arr32_one _) ?h5 ?h6 ?_); (case h5 => rfl); (case h6 => rfl)))
      refine ⟨⟨_, m / 2, f, qs', np, rfl, congrArg (Value.int .i64) (by omega), hm2, by omega, hnpl, fun k hk => by cases hk; exact hgne, HNext, ?_, HP4.out.setRow, HT4.out.setRow_apart (by omega), HR4.out.setRow_apart (by omega), below_setRow HB4.out (by omega) _⟩, by simp [intOf]; omega⟩
      rw [← HN.out]
      exact own_setRow HO4.out (fun e => by have h : g6 = w3.heap.size := Option.some.inj e; omega) _
    · have hmod : ¬ (m : Int) % 2 = 1 := by omega
      obtain ⟨hqok, hpkb, hqn, hqg⟩ := HQ.out
      have hout2 : out = qs ++ [pk] := by
        rw [← hqg]
        cases f with
        | zero => rfl
        | succ f => rw [growOf, if_neg hodd]
      have hq32 : qs.length ≤ 32 := by rw [hqn]; exact onesF_le _ _
      have t0 : wr.cell? ⟨w.heap.size, 0, none⟩ = some (.int .i64 (many : Int)) := hT.cell 0
      have HPge : w1.heap.size ≤ wr.heap.size := by have := hP.lt; omega
      have t0d : wr.drew.cell? ⟨w.heap.size, 0, none⟩ = some (.int .i64 (many : Int)) := t0
      have HOut2 := Lib.hid hout2
      have HIP := Lib.hid (arr32_info pk (by omega))
      have HSP := Lib.hid (show (arr32 pk).size = i0.size by rw [arr32_size pk (by omega), hz1])
      have ho32 := arr32_size pk (by omega)
      have HRowP := Lib.hid hP.row
      have HO := Lib.hid hO
      have HT := Lib.hid hT
      have HR := Lib.hid hR
      have HB := Lib.hid hB
      have HLt := Lib.hid hO.lt
      have hszr := hP.lt
      have hszr2 := hR.lt
      clear hO hP hT hR hB hqok hqn hqg hout2 HQ
      obtain ⟨cs, hcs⟩ : ∃ cs : List Value, cs.toArray = arr32 pk := ⟨(arr32 pk).toList, by simp⟩
      have hcl : cs.length = 32 := by have := congrArg Array.size hcs; rw [arr32_size pk (by omega)] at this; simpa using this
      have hcsl : cs = cellsOf pk := by rw [cellsOf, ← hcs]
      have hone : ∀ u ∈ cs, u.oneCell' = true := by rw [hcsl]; exact cellsOf_one pk
      have hinfo : (Tryd.prog.info? 26).map (·.size) = some cs.length := by rw [hcl]; exact info32
      have hu26 := Tryd.underlying26
      have hrange : wr.rangeAt w3.heap.size 0 cs := fun j u hj => by
        have h := HRowP.out j u (by rw [← hcs, List.getElem?_toArray]; exact hj)
        rwa [Addr.add_lit] at h
      have hfold := fold_list zero32 cs (by rw [hcl]; rfl)
      have hwr : IntKind.i64.wrap ((many : Int) + 1) = (many : Int) + 1 := IntWalk.i64_in _ (by omega)
      have HOA : Hid (((wr.alloc (.cells cs.toArray 26)).drew).ownsRow w1.heap.size 26 32 vv qs.length (qs.flatMap cellsOf)) := Lib.hid (HO.out.alloc (.cells cs.toArray 26))
      have HNews : Hid (∀ j u, cs[j]? = some u → ((wr.alloc (.cells cs.toArray 26)).drew).cell? ((⟨wr.heap.size, 0, none⟩ : Addr).add j) = some u) := Lib.hid (cell_row_new wr cs.toArray _)
      have HBase : Hid (w1.heap.size ≤ ((wr.alloc (.cells cs.toArray 26)).drew).heap.size) := Lib.hid (by have := HPge; simp; omega)
      have HRA := Lib.hid (HR.out.alloc (.cells cs.toArray 26)).drew
      have HTA := Lib.hid (HT.out.alloc (.cells cs.toArray 26)).drew
      have HBA : Hid (Below w.heap.size w ((wr.alloc (.cells cs.toArray 26)).drew)) := Lib.hid (HB.out.alloc HB.out.size _).drew
      have HRangeA : Hid (((wr.alloc (.cells cs.toArray 26)).drew).rangeAt w3.heap.size 0 cs) := Lib.hid fun j u hj => (World.cell?_alloc_lt _ _ _ hszr).trans (hrange j u hj)
      have HVlt := Lib.hid hvlt
      have HCs := Lib.hid hcsl
      have HOne := Lib.hid hone
      have HCl := Lib.hid hcl
      have hP3 := hszr
      clear hcs hcsl hone
      go_upto_region 13 with (fail)
      go_region_held3 (fun W' => W'.cell? ⟨w.heap.size, 0, none⟩ = some (.int .i64 (many : Int)) ∧ W'.rangeAt w3.heap.size 0 cs)
        (first | with_reducible exact ⟨t0, hrange⟩ | with_reducible exact hS5 | with_reducible exact hS6 _ _ | exact ⟨t0, hrange⟩ | exact ⟨HTA.out.cell 0, HRangeA.out⟩)
        (first
          | (refine step_append_own rfl (.tmp 47) (.tmp 49) 49 rfl w1.heap.size 26 i0 _ 32 32 Tryd.underlying49 hi0 hz0 hz1 hz2 rfl (by decide) _ _ _ rfl HOA.out ⟨wr.heap.size, 0, none⟩ 1 1 cs rfl (by rw [HCl.out]) HNews.out HOne.out (by unfold maxLen; omega) (by omega) HBase.out ?_; intro v' w5 hown5 hgrow5 _; obtain ⟨a7, c7, rfl, _, _⟩ := own_shape hown5; have hR5 := HRA.out.grown hgrow5 (fun e => by have := (HLt.out _ e.symm).1; omega); have hB5 : Below w.heap.size w w5 := HBA.out.grown hgrow5 HBA.out.size (fun j hj => by have := (HLt.out _ hj).1; omega); have hS5 : w5.cell? ⟨w.heap.size, 0, none⟩ = some (.int .i64 (many : Int)) ∧ w5.rangeAt w3.heap.size 0 cs := ⟨(HTA.out.grown hgrow5 (fun e => by have := (HLt.out _ e.symm).1; omega)).cell 0, fun j u hj => hgrow5.cell (HRangeA.out j u hj) (fun e => by have h := HVlt.out _ e.symm; exact absurd h (Nat.lt_irrefl _))⟩; have hS6 : ∀ x y : Value, ((w5.setCell ⟨w.heap.size + 1 + 1, 0, none⟩ x).setCell ⟨w.heap.size + 1 + 1, 1, none⟩ y).cell? ⟨w.heap.size, 0, none⟩ = some (.int .i64 (many : Int)) ∧ ((w5.setCell ⟨w.heap.size + 1 + 1, 0, none⟩ x).setCell ⟨w.heap.size + 1 + 1, 1, none⟩ y).rangeAt w3.heap.size 0 cs := fun x y => ⟨(World.cell?_setCell_other _ _ _ _ (ne_block (by omega))).trans ((World.cell?_setCell_other _ _ _ _ (ne_block (by omega))).trans hS5.1), fun j u hj => (World.cell?_setCell_other _ _ _ _ (ne_block (by omega))).trans ((World.cell?_setCell_other _ _ _ _ (ne_block (by omega))).trans (hS5.2 j u hj))⟩; have r0 : w5.cell? ⟨w.heap.size + 1 + 1, 0, none⟩ = some (.int .i64 0) := hR5.cell 0; have r1 : w5.cell? ⟨w.heap.size + 1 + 1, 1, none⟩ = some (.slice none 0 0) := hR5.cell 1; have f0 : w5.frozen? ⟨w.heap.size + 1 + 1, 0, none⟩ = false := hR5.free 0; have f1 : w5.frozen? ⟨w.heap.size + 1 + 1, 1, none⟩ = false := hR5.free 1; have HR5 := Lib.hid hR5; have HB5 := Lib.hid hB5; have HO5 := Lib.hid hown5; clear hR5 hB5 hown5 hgrow5))
      go_wp2
      have hrow := ((HR5.out.put 0 (.int .i64 ((many : Int) + 1))).put 1 (.slice a7 (qs.length + 1) c7)).of_eq (cs' := #[.int .i64 ((many : Int) + 1), .slice a7 (qs.length + 1) c7]) rfl
      have hfl : out.flatMap cellsOf = qs.flatMap cellsOf ++ cs := by rw [HOut2.out, List.flatMap_append, HCs.out]; simp
      have hol : out.length = qs.length + 1 := by rw [HOut2.out]; simp
      refine bodyPost_ret (results_row_tmp rfl _ _ (w.heap.size + 1 + 1) 57 #[.int .i64 ((many : Int) + 1), .slice a7 (qs.length + 1) c7] (0, 0) _ rfl hrow rfl Tryd.underlying57 treeInfo) rfl ⟨_, rfl, ?_, (HB5.out.setCell (by simp; omega) _).setCell (by simp; omega) _⟩
      rw [hfl, hol]
      exact own_base (own_setCell (own_setCell HO5.out (by simp; omega) _) (by simp; omega) _) (by omega)
end Go.Proofs.YtffdkniahdekjaaDoor
end
section
namespace Go.Proofs.YtffdkniahdekjaaDoor
open Go.RowKit Go.Hoar
/-- 'a[i]' of an array by value whose elements are words. -/
theorem run_index_word {t : TypeId} {n : Nat} {cs : Array Value} {i : Nat} {v : Value} {w : World} (hu : Tryd.prog.underlying t = some (.array n 30)) (hi : i < n) (h : cs[i]? = some v) :
    (Instr.index t (.agg cs) (.int .i64 (i : Int))).run Tryd.prog w = .ok v w := by
  have hn : (0 : Int) ≤ (i : Int) ∧ (i : Int) < (n : Int) := by omega
  have ha : (isAgg 30).run Tryd.prog w = .ok false w := Tryd.isAgg30 w
  have hz : (sizeOf 30).run Tryd.prog w = .ok 1 w := Tryd.sizeOf30 w
  simp [Instr.index, run_underlying hu, asIntOf, hn, hi, Go.part, hz, Sem.run_bind, h]
set_option maxRecDepth 100000 in
set_option maxHeartbeats 1000000 in
theorem constant_any (k : Nat) (hk : k < 64) (w : World) :
    Calls Tryd.prog 108 #[.int .i64 (k : Int)] w fun e w' => e = .returned (.int .u32 ((Sha.consts.getD k 0 : Nat) : Int)) ∧ w' = w := by
  have hcl : Sha.consts.length = 64 := by rfl
  have hget : ((Sha.consts.map WV).toArray)[k]? = some (.int .u32 ((Sha.consts.getD k 0 : Nat) : Int)) := by
    rw [List.getElem?_toArray, List.getElem?_map, List.getD_eq_getElem?_getD, List.getElem?_eq_getElem (by omega)]
    exact Eq.refl _
  have hix := run_index_word (w := w) Tryd.underlying151 hk hget
  clear hget hcl
  generalize Sha.consts.getD k 0 = x at *
  go_enter Tryd.func108, Tryd.ntmps108
  go_wp2
  erw [hix]
  simp only [Result.andThen]
  rw [Oper.upon_value]
  go_wp2
  go_ret
  exact ⟨rfl, rfl⟩
end Go.Proofs.YtffdkniahdekjaaDoor
end
section
namespace Go.Proofs.YtffdkniahdekjaaDoor
open Go.RowKit Go.Hoar
theorem turn_bits (x n : Nat) (hx : x < 4294967296) : bits BinOp.or IntKind.u32 ((x : Int) / 2 ^ n) ((x : Int) * 2 ^ (32 - n) % 4294967296) = ((Sha.rotr x n : Nat) : Int) := by
  have h := u32_or_nat (x / 2 ^ n) (x * 2 ^ (32 - n) % 4294967296) (Sha.div_lt hx _) (Nat.mod_lt _ (by decide))
  have hc : x / 2 ^ n ||| x * 2 ^ (32 - n) % 4294967296 = Sha.rotr x n := by rw [Nat.or_comm]; exact Eq.refl _
  rw [hc] at h
  rw [← h]
  simp
set_option maxRecDepth 100000 in
theorem refTurn_any (x n : Nat) (hx : x < 4294967296) (hn : 1 ≤ n) (hn' : n ≤ 31) (w : World) :
    Calls Tryd.prog 107 #[.int .u32 (x : Int), .int .i64 (n : Int)] w fun e w' => e = .returned (.int .u32 ((Sha.rotr x n : Nat) : Int)) ∧ ∃ k, w' = w.drewN k := by
  have h32 : IntKind.i64.wrap (32 - (n : Int)) = 32 - (n : Int) := IntWalk.i64_in _ (by omega)
  have hp1 : (0 : Int) ≤ 32 - (n : Int) := by omega
  have hp2 : (32 - (n : Int)).toNat = 32 - n := by omega
  have HT := Lib.hid (turn_bits x n hx)
  go_enter Tryd.func107, Tryd.ntmps107
  go_wp2
  go_quiet (fail)
  go_wp2
  go_ret
  exact ⟨ret_u32 HT.out, _, rfl⟩
end Go.Proofs.YtffdkniahdekjaaDoor
end
section
namespace Go.Proofs.YtffdkniahdekjaaDoor
open Go.RowKit Go.Hoar
def codeRest : Code → Code
  | .seq _ r => r
  | c => c
noncomputable def takTail (k : Nat) : Code := Nat.rec ((Tryd.f92.body).getD .skip) (fun _ c => codeRest c) k
/-- Eight words in a row. -/
def w8 (l : List Nat) : Array Value := (l.map WV).toArray
theorem w8_size (l : List Nat) (h : l.length = 8) : (w8 l).size = 8 := by simp [w8, h]
theorem w8_one (l : List Nat) : (w8 l).all (·.oneCell') = true := by
  rw [Array.all_eq_true_iff_forall_mem]
  intro v hv
  simp only [w8, List.mem_toArray, List.mem_map] at hv
  obtain ⟨x, _, rfl⟩ := hv
  rfl
theorem w8_eight : (Tryd.prog.info? 31).map (·.size) = some 8 := by kernel_rfl
theorem w8_info (l : List Nat) (h : l.length = 8) : (Tryd.prog.info? 31).map (·.size) = some (w8 l).size := by
  rw [w8_size l h]
  exact w8_eight
theorem w8_get (l : List Nat) (i : Nat) (h : i < l.length) : (w8 l)[i]? = some (.int .u32 ((l.getD i 0 : Nat) : Int)) := by
  have e : l.getD i 0 = l[i] := by rw [List.getD_eq_getElem?_getD, List.getElem?_eq_getElem h]; rfl
  rw [e, w8, List.getElem?_toArray, List.getElem?_map, List.getElem?_eq_getElem h]
  exact Eq.refl _
theorem part_get (h e : List Nat) (k : Nat) (hh : h.length = 8) (he : e.length = 8) (hk : k < 8) : (part h e k).getD k 0 = h.getD k 0 := by
  obtain ⟨a, b, c, d, e1, f, g, i, rfl⟩ := len8 hh
  obtain ⟨a', b', c', d', e', f', g', i', rfl⟩ := len8 he
  match k, hk with
  | 0, _ => rfl
  | 1, _ => rfl
  | 2, _ => rfl
  | 3, _ => rfl
  | 4, _ => rfl
  | 5, _ => rfl
  | 6, _ => rfl
  | 7, _ => rfl
theorem part_set (h e : List Nat) (k : Nat) (hh : h.length = 8) (he : e.length = 8) (hk : k < 8) : (w8 (part h e k)).setIfInBounds k (WV (Sha.add (h.getD k 0) (e.getD k 0))) = w8 (part h e (k + 1)) := by
  obtain ⟨a, b, c, d, e1, f, g, i, rfl⟩ := len8 hh
  obtain ⟨a', b', c', d', e', f', g', i', rfl⟩ := len8 he
  match k, hk with
  | 0, _ => rfl
  | 1, _ => rfl
  | 2, _ => rfl
  | 3, _ => rfl
  | 4, _ => rfl
  | 5, _ => rfl
  | 6, _ => rfl
  | 7, _ => rfl
/-- What the walk of a block must come to. -/
structure TakEnds (n : Nat) (w0 : World) (R : Array Value) (Q : Exit → Act → World → Prop) : Prop where
  ret : ∀ a w', a.defers = [] → a.tmps.getD 4 undef = .pointer (some ⟨n + 1, 0, none⟩) → Has w' (n + 1) 31 R → Below n w0 w' → Q .ret a w'
  panic : ∀ c a a' w', a'.defers = a.defers → Q (.panic c) a w' → Q (.panic c) a' w'
set_option maxRecDepth 100000 in
set_option maxHeartbeats 3000000 in
theorem tk10 (g off cap n : Nat) (h v : List Nat) (w0 : World) (Q : Exit → Act → World → Prop) (hh : h.length = 8) (hv : v.length = 8) (zs : Array Value) (hz : zs.size = 8) (hQ : TakEnds n w0 (w8 (List.zipWith Sha.add h v)) Q) (U : World) (hB : Below n w0 U) (_hn : n ≤ w0.heap.size) (hH : Has U n 31 (w8 h)) (hR : Has U (n + 1) 31 zs) (hV : Has U (n + 3) 31 (w8 v))
    (s3 s6 s7 s8 s9 s10 s12 s13 s14 s15 s16 s17 s18 s19 s20 s21 s22 s23 s24 s25 s26 s27 s28 s29 s30 s31 s32 s33 s34 s35 s36 s37 s38 s39 s40 s41 s42 s43 s44 s45 s46 s47 s48 s49 s50 s51 s52 s53 s54 s55 s56 s57 s58 s59 s60 s61 s62 s63 s64 s65 s66 s67 s68 s69 s70 s71 s72 s73 s74 s75 s76 s77 s78 s79 s80 s81 s82 s83 s84 s85 s86 s87 s88 s89 s90 s91 s92 s93 s94 s95 s96 s97 s98 s99 s100 s101 s102 s103 s104 s105 s106 s107 s108 s109 s110 s111 s112 s113 s114 s115 s116 s117 s118 s119 s120 s121 s122 s123 s124 s125 s126 s127 s128 s129 s130 s131 s132 s133 s134 s135 s136 s137 s138 s139 s140 s141 s142 s143 s144 s145 s146 s147 s148 s149 s150 s151 s152 s153 s154 s155 s156 s157 s158 s159 s160 s161 s162 s163 s164 s165 s166 s167 s168 s169 s170 s171 s172 s173 s174 s175 s176 s177 s178 s179 s180 s181 s182 : Value) : Code.wp Tryd.prog (takTail 6) Q ⟨#[.agg (w8 h), .slice (some ⟨g, off, none⟩) 64 cap, .pointer (some ⟨n, 0, none⟩), s3, .pointer (some ⟨n + 1, 0, none⟩), .pointer (some ⟨n + 2, 0, none⟩), s6, s7, s8, s9, s10, .pointer (some ⟨n + 3, 0, none⟩), s12, s13, s14, s15, s16, s17, s18, s19, s20, s21, s22, s23, s24, s25, s26, s27, s28, s29, s30, s31, s32, s33, s34, s35, s36, s37, s38, s39, s40, s41, s42, s43, s44, s45, s46, s47, s48, s49, s50, s51, s52, s53, s54, s55, s56, s57, s58, s59, s60, s61, s62, s63, s64, s65, s66, s67, s68, s69, s70, s71, s72, s73, s74, s75, s76, s77, s78, s79, s80, s81, s82, s83, s84, s85, s86, s87, s88, s89, s90, s91, s92, s93, s94, s95, s96, s97, s98, s99, s100, s101, s102, s103, s104, s105, s106, s107, s108, s109, s110, s111, s112, s113, s114, s115, s116, s117, s118, s119, s120, s121, s122, s123, s124, s125, s126, s127, s128, s129, s130, s131, s132, s133, s134, s135, s136, s137, s138, s139, s140, s141, s142, s143, s144, s145, s146, s147, s148, s149, s150, s151, s152, s153, s154, s155, s156, s157, s158, s159, s160, s161, s162, s163, s164, s165, s166, s167, s168, s169, s170, s171, s172, s173, s174, s175, s176, s177, s178, s179, s180, s181, s182], []⟩ U := by
  have HI := Lib.hid (w8_info (List.zipWith Sha.add h v) (by simp [hh, hv]))
  have HO := Lib.hid (w8_one (List.zipWith Sha.add h v))
  have HZ : Hid (zs.size = (w8 (List.zipWith Sha.add h v)).size) := Lib.hid (by rw [w8_size _ (by simp [hh, hv]), hz])
  conv => arg 2; whnf
  go_wp2
  go_loopw [21] (fun i wr => ∃ k : Nat, k ≤ 8 ∧ i = .int .i64 k ∧ Below n w0 wr ∧ Has wr n 31 (w8 (part h v k)) ∧ Has wr (n + 1) 31 zs ∧ Has wr (n + 3) 31 (w8 v)) (fun i _ => 8 - (intOf i).toNat)
  case atStart => exact ⟨0, Nat.zero_le _, rfl, hB, by rw [part_zero]; exact hH, hR, hV⟩
  case round =>
    obtain ⟨k, hk, rfl, hB2, hH2, hR2, hV2⟩ := hrel
    have HB := Lib.hid hB2
    have HH := Lib.hid hH2
    have HR := Lib.hid hR2
    have HV := Lib.hid hV2
    by_cases hlt : k < 8
    · have c1 : wr.cell? ⟨n, k, none⟩ = some (.int .u32 ((h.getD k 0 : Nat) : Int)) := by rw [hH2.cell, w8_get _ _ (by rw [part_length _ _ _ hh hv]; exact hlt), part_get h v k hh hv hlt]
      have c2 : wr.cell? ⟨n + 3, k, none⟩ = some (.int .u32 ((v.getD k 0 : Nat) : Int)) := by rw [hV2.cell, w8_get _ _ (by omega)]
      have hf := hH2.free k
      have hps := part_set h v k hh hv hlt
      generalize h.getD k 0 = x at *
      generalize v.getD k 0 = y at *
      have HP := Lib.hid hps
      have hac := add_cast x y
      clear hB2 hH2 hR2 hV2 hps hB hH hR hV
      go_wp2
      go_region
      go_wp2
      go_roundw
      case rel => exact ⟨k + 1, by omega, by go_num, (HB.out.setCell (Nat.le_refl _) _).drew, ((HH.out.put _ _).of_eq (by rw [← HP.out]; simp [WV, Sha.add])).drew, (HR.out.apart (by simp) _).drew, (HV.out.apart (by simp) _).drew⟩
      case measure => simp [intOf]; omega
    · obtain rfl : k = 8 := by omega
      rw [part_eight h v hh hv] at hH2
      replace HH := Lib.hid hH2
      clear hB2 hH2 hR2 hV2 hB hH hR hV
      go_wp2_with (first | ((with_reducible refine arm_load ⟨n, 0, none⟩ (w8 (List.zipWith Sha.add h v)) _ HH.out.row Tryd.underlying31 HI.out ?h1 ?h2 ?_); (case h1 => rfl); (case h2 => rfl)) | ((with_reducible refine arm_store (n + 1) (w8 (List.zipWith Sha.add h v)) _ _ HR.out HZ.out HI.out HO.out ?h5 ?h6 ?_); (case h5 => rfl); (case h6 => rfl)))
      refine hQ.ret _ _ ?_ ?_ HR.out.setRow (below_setRow HB.out (by omega) _)
      · rfl
      · rfl
end Go.Proofs.YtffdkniahdekjaaDoor
end
