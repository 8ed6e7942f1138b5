/-
  YtffdkniahdekjaaDoorAlike
  · YtffdkniahdekjaaDoorKey
  · YtffdkniahdekjaaDoorKeys
  · YtffdkniahdekjaaDoorIter
  · YtffdkniahdekjaaDoorApp
  · YtffdkniahdekjaaDoorComp
  · YtffdkniahdekjaaDoorSort
  · THE CONTRACT OF slices.SortFunc at this program's numbers, out of the library's general theorems.
  · YtffdkniahdekjaaDoorSorted
  · A MAP's ENTRY, TAKEN AND STORED LATER ('m[a], m[b] = x, y' takes the first one's entry ahead of its store): where the key is there already, taking the entry turns nothing, and the store is an update. It speaks of no program.
-/
import Derived.Test.YtffdkniahdekjaaDoorMBc
import Derived.Maps.Own
import Derived.Maps.OwnOps
import Derived.DeepKeys4
import Derived.Test.YtffdkniahdekjaaDoorMBd
import Derived.Test.YtffdkniahdekjaaDoorMBb
import Derived.RangeFuncGives
import Derived.RangeFuncKeeps
import Derived.Sort.MapsRangeIn
import Derived.Sort.KeysCollected
import Derived.OwnWalkIn
import Derived.TacticsInMore
import Derived.RegionIn
import Derived.LoopNIn
import Derived.LoopIn
import Derived.Shelf.Abstract
import Derived.RangeFuncNested
import Derived.RangeFuncBox
import Derived.Lib.BytesEntry
import Derived.Laws.Externs
import Derived.Deep.RegionHeld3
import Derived.Shelf.SlSortCmp.NoneTotal
import Derived.Ground.SlsfProg
import Derived.Shelf.SlGeneric
import Derived.Test.YtffdkniahdekjaaDoorProg
import Derived.WideKeyEntry
import Derived.Maps.OwnSet
import Derived.WalkMore
section
namespace Go.Proofs.YtffdkniahdekjaaDoor
open Go.RowKit Go.Hoar Go.Maps
theorem laidOut : laidOutB Tryd.prog = true := by kernel_rfl
theorem sum_keyed : Keyed Tryd.prog 26 := Keyed.of_law (deep_law_laid laidOut (m := 2) (by omega) (of_decide_eq_true (by kernel_rfl)) (by kernel_rfl) (by rw [Tryd.underlying26]))
/-- What a digest reads as, as a map's key. -/
def sumLit (l : List Nat) : Lit := .string (l.map UInt8.ofNat)
theorem mapM_some {α β : Type} {f : α → Option β} {g : α → β} : ∀ (l : List α), (∀ x ∈ l, f x = some (g x)) → l.mapM f = some (l.map g)
  | [], _ => rfl
  | x :: l, h => by
    rw [List.mapM_cons, h x (by simp), mapM_some l (fun y hy => h y (List.mem_cons_of_mem _ hy))]
    rfl
theorem keyBytes_u8 (l : List Nat) (hb : Sha.Bytes l) : keyBytes (l.map fun (x : Nat) => Lit.int .u8 (x : Int)) = l.map UInt8.ofNat := by
  induction l with
  | nil => rfl
  | cons x l ih =>
    have hx : x < 256 := hb x (by simp)
    have h := ih (fun y hy => hb y (List.mem_cons_of_mem _ hy))
    rw [keyBytes] at h ⊢
    rw [List.map_cons, List.flatMap_cons, h, List.map_cons]
    have e : Lit.keyBytes (.int .u8 (x : Int)) = [UInt8.ofNat x] := by
      have e1 : ((x : Int) % 2 ^ IntKind.bits .u8).toNat = x := by
        show ((x : Int) % 256).toNat = x
        omega
      rw [Lit.keyBytes, e1]
      show [UInt8.ofNat (x % 256)] = _
      rw [Nat.mod_eq_of_lt hx]
    rw [e]
    rfl
theorem keyLits_u8 (d : Nat) (x : Nat) (hx : x < 256) : Tryd.prog.keyLits (d + 1) 5 [BV x] = some [Lit.int .u8 (x : Int)] := by
  have hw : (Lit.int .u8 (x : Int)).wf = true := by
    simp [Lit.wf, IntKind.min, IntKind.max, IntKind.bits, IntKind.signed]
    omega
  simp only [Program.keyLits, Tryd.underlying5, BV]
  simp [hw]
theorem flat_single {α β : Type} (f : α → β) : ∀ l : List α, (l.map fun x => [f x]).flatten = l.map f
  | [] => rfl
  | x :: l => by
    rw [List.map_cons, List.flatten_cons, flat_single f l]
    rfl
theorem keyLits_sum (e : Nat) (cs : List Value) : Tryd.prog.keyLits (e + 1) 26 cs = if cs.length = Tryd.prog.cellsOf 26 then ((List.range 32).mapM fun i => Tryd.prog.keyLits e 5 ((cs.drop (i * Tryd.prog.cellsOf 5)).take (Tryd.prog.cellsOf 5))).map List.flatten else none := by
  simp only [Program.keyLits, Tryd.underlying26]
theorem sum_keyOf (l : List Nat) (hl : l.length = 32) (hb : Sha.Bytes l) : keyOf Tryd.prog 26 (.agg (arr32 l)) = some (sumLit l) := by
  have hk : Tryd.prog.keyType 26 = true := by kernel_rfl
  have hc32 : Tryd.prog.cellsOf 26 = 32 := by kernel_rfl
  have hc1 : Tryd.prog.cellsOf 5 = 1 := by kernel_rfl
  have hf : (Value.agg (arr32 l)).formed Tryd.prog 26 = true := by
    rw [Value.formed, Tryd.underlying26, hc32, arr32_size l (by omega)]
    rfl
  have hcells : (Value.agg (arr32 l)).cells.toList = l.map BV := by
    show (arr32 l).toList = _
    rw [arr32_full l hl]
  obtain ⟨d, hd⟩ : ∃ d, Tryd.prog.types.size + 1 = d + 2 := ⟨Tryd.prog.types.size - 1, by
    have : 0 < Tryd.prog.types.size := of_decide_eq_true (by kernel_rfl)
    omega⟩
  have hlits : Tryd.prog.keyLits (d + 2) 26 (l.map BV) = some (l.map fun (x : Nat) => Lit.int .u8 (x : Int)) := by
    rw [keyLits_sum (d + 1)]
    simp only [hc32, hc1, List.length_map, hl, if_true, Nat.mul_one]
    have hm := mapM_some (f := fun i => Tryd.prog.keyLits (d + 1) 5 (((l.map BV).drop i).take 1)) (g := fun i => [Lit.int .u8 ((l.getD i 0 : Nat) : Int)]) (List.range 32) (fun i hi => by
      have hi32 : i < 32 := List.mem_range.1 hi
      have hx : l.getD i 0 < 256 := Sha.getD_lt hb (by decide) i
      have e : ((l.map BV).drop i).take 1 = [BV (l.getD i 0)] := by
        rw [← List.map_drop, List.drop_eq_getElem_cons (by omega), List.map_cons, List.take_succ_cons, List.take_zero, List.getD_eq_getElem?_getD, List.getElem?_eq_getElem (by omega)]
        rfl
      rw [e]
      exact keyLits_u8 d _ hx)
    rw [hm]
    simp only [Option.map_some, Option.some.injEq]
    have e : (List.range 32).map (fun i => [Lit.int .u8 ((l.getD i 0 : Nat) : Int)]) = l.map fun (x : Nat) => [Lit.int .u8 (x : Int)] := by
      apply List.ext_getElem?
      intro i
      rw [List.getElem?_map, List.getElem?_map]
      by_cases hi : i < 32
      · rw [List.getElem?_range hi, List.getElem?_eq_getElem (by omega), Option.map_some, Option.map_some, List.getD_eq_getElem?_getD, List.getElem?_eq_getElem (by omega)]
        rfl
      · rw [List.getElem?_eq_none (by simp; omega), List.getElem?_eq_none (by omega)]
        rfl
    rw [e]
    exact flat_single (fun (x : Nat) => Lit.int .u8 (x : Int)) l
  rw [keyOf, Tryd.underlying26]
  simp only [hk, hf, Bool.and_self, if_true, hcells, hd, hlits, Option.map_some]
  rw [keyBytes_u8 l hb]
  rfl
end Go.Proofs.YtffdkniahdekjaaDoor
end
section
namespace Go.Proofs.YtffdkniahdekjaaDoor
open Go.RowKit Go.Hoar Go.Maps Go.Shelf
theorem mapM_get {α β : Type} {f : α → Option β} : ∀ (l : List α) (r : List β), l.mapM f = some r → ∀ x ∈ l, ∃ y, f x = some y
  | [], _, _, x, hx => by cases hx
  | a :: l, r, h, x, hx => by
    rw [List.mapM_cons] at h
    cases ha : f a with
    | none => rw [ha] at h; cases h
    | some y =>
      cases hl : l.mapM f with
      | none => rw [ha, hl] at h; cases h
      | some r' =>
        rcases List.mem_cons.1 hx with rfl | hx
        · exact ⟨y, ha⟩
        · exact mapM_get l r' hl x hx
theorem keyLits_u8_inv {e : Nat} {cs : List Value} {ls : List Lit} (h : Tryd.prog.keyLits (e + 1) 5 cs = some ls) : ∃ x, x < 256 ∧ cs = [BV x] := by
  simp only [Program.keyLits, Tryd.underlying5] at h
  split at h <;> first | (cases h; done) | skip
  all_goals (try (simp_all; done))
  rename_i q q' n heq
  obtain rfl : IntKind.u8 = q := by simpa using heq
  split at h
  case isFalse => cases h
  next hc =>
  obtain ⟨rfl, hw⟩ := hc
  simp [Lit.wf, IntKind.min, IntKind.max, IntKind.bits, IntKind.signed] at hw
  refine ⟨n.toNat, by omega, ?_⟩
  rw [BV, Int.toNat_of_nonneg (by omega)]
set_option maxRecDepth 20000 in
theorem sum_key_inv {v : Value} {kl : Lit} (h : keyOf Tryd.prog 26 v = some kl) : ∃ x : List Nat, x.length = 32 ∧ Sha.Bytes x ∧ v = .agg (arr32 x) := by
  have hc32 : Tryd.prog.cellsOf 26 = 32 := by kernel_rfl
  have hc1 : Tryd.prog.cellsOf 5 = 1 := by kernel_rfl
  unfold keyOf at h
  simp only [Tryd.underlying26] at h
  split at h
  · next hf =>
    rw [Bool.and_eq_true] at hf
    obtain ⟨_, hf⟩ := hf
    cases v with
    | agg cs =>
      rw [Value.formed, Tryd.underlying26, hc32] at hf
      have hsz : cs.size = 32 := by simpa using hf
      obtain ⟨d, hd⟩ : ∃ d, Tryd.prog.types.size + 1 = d + 2 := ⟨Tryd.prog.types.size - 1, by
        have : 0 < Tryd.prog.types.size := of_decide_eq_true (by kernel_rfl)
        omega⟩
      have hcc : (Value.agg cs).cells = cs := rfl
      rw [hcc, hd, keyLits_sum (d + 1), hc1] at h
      split at h
      · cases hm : (List.range 32).mapM (fun i => Tryd.prog.keyLits (d + 1) 5 ((cs.toList.drop (i * 1)).take 1)) with
        | none => rw [hm] at h; cases h
        | some r =>
          have hall : ∀ i, i < 32 → ∃ x, x < 256 ∧ cs[i]? = some (BV x) := fun i hi => by
            obtain ⟨y, hy⟩ := mapM_get _ _ hm i (List.mem_range.2 hi)
            obtain ⟨x, hx, he⟩ := keyLits_u8_inv hy
            refine ⟨x, hx, ?_⟩
            have h0 : ((cs.toList.drop (i * 1)).take 1)[0]? = some (BV x) := by rw [he]; rfl
            rw [List.getElem?_take, if_pos (by decide), List.getElem?_drop] at h0
            simpa using h0
          let g : Value → Nat := fun v => match v with | .int _ n => n.toNat | _ => 0
          refine ⟨cs.toList.map g, by simp [hsz], fun x hx => ?_, ?_⟩
          · obtain ⟨u, hu, rfl⟩ := List.mem_map.1 hx
            obtain ⟨i, hi, rfl⟩ := List.getElem_of_mem hu
            have hi32 : i < 32 := by simpa [hsz] using hi
            obtain ⟨x, hx256, he⟩ := hall i hi32
            rw [Array.getElem?_eq_getElem (by omega)] at he
            have e2 : cs.toList[i] = BV x := by simpa using he
            rw [e2]
            show ((x : Int)).toNat < 256
            omega
          · congr 1
            rw [arr32_full _ (by simp [hsz])]
            apply Array.ext_getElem?
            intro i
            by_cases hi : i < 32
            · obtain ⟨x, _, he⟩ := hall i hi
              rw [he, List.getElem?_toArray, List.getElem?_map, List.getElem?_map, Array.getElem?_toList, he]
              show some (BV x) = some (BV ((x : Int)).toNat)
              rw [Int.toNat_natCast]
            · rw [Array.getElem?_eq_none (by omega), Array.getElem?_eq_none (by simp [hsz]; omega)]
      · cases h
    | _ => simp [Value.formed, Tryd.underlying26] at hf
  · cases h
/-- The bytes that a key reads as. -/
def keyB (l : List Nat) : List UInt8 := l.map UInt8.ofNat
theorem keyB_inj {l m : List Nat} (hl : Sha.Bytes l) (hm : Sha.Bytes m) (h : keyB l = keyB m) : l = m := by
  have e : ∀ l : List Nat, Sha.Bytes l → (keyB l).map UInt8.toNat = l := fun l hb => by
    rw [keyB, List.map_map]
    have : ∀ x ∈ l, (UInt8.toNat ∘ UInt8.ofNat) x = x := fun x hx => by
      have h256 := hb x hx
      show (UInt8.ofNat x).toNat = x
      simp
      omega
    rw [List.map_congr_left this, List.map_id']
  rw [← e l hl, ← e m hm, h]
/-- A digest: 32 bytes. -/
abbrev Dig := {l : List Nat // l.length = 32 ∧ Sha.Bytes l}
theorem dig_keyB {a b : Dig} (h : keyB a.1 = keyB b.1) : a = b := Subtype.ext (keyB_inj a.2.2 b.2.2 h)
end Go.Proofs.YtffdkniahdekjaaDoor
end
section
namespace Go.Proofs.YtffdkniahdekjaaDoor
open Go.RowKit Go.Hoar Go.Maps Go.Shelf
attribute [local go_sem] Oper.semAt_some
theorem mapKeys_any (mb : Option Nat) (w : World) :
    Calls Tryd.prog 79 #[.map mb] w fun e w' => e = .returned (.func (.func 101) #[] #[.pointer (some ⟨w.heap.size, 0, none⟩)]) ∧ w.alloc (.cells #[.map mb] 114) = w' := by
  go_enter Tryd.func79, Tryd.ntmps79
  go_wp2
  go_ret
  exact ⟨rfl, rfl⟩
/-- All keys of a map, each once. -/
def KeysOfMap {H : Type} (D0 : DataW H) (ls : List Dig) : Prop := ls.Nodup ∧ (∀ d : Dig, d ∈ ls ↔ Maps.has D0 (sumLit d.1) = true) ∧ ls.length ≤ Maps.size D0
set_option maxRecDepth 100000 in
set_option maxHeartbeats 2000000 in
theorem keys1_in {H : Type} (F : Fence) (n : Nat) (hF : F.fn 101) (hro : F.round = none) (hn : 1 ≤ n) (l Bm b nn : Nat) (D0 : DataW H) {R : Value → Option (DataW H × List MemPlace)}
    (J Jx : List Dig → World → Prop) (W : World) (hJ : AbidesFrom W.heap.size J)
    (hY : ∀ pre (x : Dig) W1, J pre W1 → pre.length < Maps.size D0 → YieldAt F (n - 1) Tryd.prog l #[.agg (arr32 x.1)] W1 fun e W' =>
      (e = .returned (.bool true) ∧ J (pre ++ [x]) W' ∧ KeepsWalks W1 W') ∨ (e = .returned (.bool false) ∧ Jx (pre ++ [x]) W'))
    (hm : W.cell? ⟨Bm, 0, none⟩ = some (.map (some b))) (hown : W.ownsMap Tryd.prog 26 R b nn D0) (h0 : J [] W) :
    CallsIn F n Tryd.prog 101 #[.func (.yield l) #[] #[], .pointer (some ⟨Bm, 0, none⟩)] W fun e W' => (∃ v, e = .returned v) ∧
      ((∃ ys, KeysOfMap D0 ys ∧ J ys W') ∨ (∃ pre, True ∧ Jx pre W')) := by
  refine callsIn_of_wp Tryd.func101 rfl hF ?_ hro
  simp only [Tryd.ntmps101, List.size_toArray, List.length_cons, List.length_nil, Nat.reduceAdd, Nat.reduceSub, Array.replicate_succ, Array.replicate_zero, List.push_toArray, List.append_toArray, List.nil_append, List.cons_append]
  gi_wp2_with (first
    | (gi_at_range; refine wpListIn_range_own _ rfl _ 114 rfl 26 3 sum_keyed Tryd.underlying114 _ b nn _ rfl hown ?_; intro w0 hrg0 hg0 hs0)
    | gi_in)
  go_frame
  gi_loopw [3] (fun _ wr => ∃ (left : Lit → Bool) (cnt : Nat) (ss : List Dig), wr.ranges Tryd.prog 26 R b W.heap.size nn D0 left cnt ∧ ss.length + cnt ≤ Maps.size D0 ∧ Collected D0 left (ss.map fun d => keyB d.1) ∧ J ss wr)
    (fun _ wr => wr.rangeLeft b W.heap.size)
  case atStart =>
    exact ⟨_, _, [], hrg0, by simp, Collected.start D0, hJ [] W w0 none h0 hg0 (fun r e => by cases e)⟩
  case round =>
    obtain ⟨left, cnt, ss, hrg, hcs, hC, hJs⟩ := hrel
    gi_wp2_with (first
      | (gi_at_next; refine wpListIn_next_ranges _ rfl _ rfl 26 sum_keyed R (fun x : Dig => Value.agg (arr32 x.1)) id (fun key kl hk => by obtain ⟨x, hl, hb, hx⟩ := sum_key_inv hk; exact ⟨⟨x, hl, hb⟩, hx⟩) (fun v _ _ => ⟨v, rfl⟩) b W.heap.size nn _ _ _ rfl hrg ?_ ?_)
      | gi_in)
    · intro hc0 hl0
      gi_wp2
      go_end0
      refine ⟨⟨_, rfl⟩, .inl ⟨ss, ⟨List.Pairwise.of_map (fun d : Dig => keyB d.1) (fun a b h e => h (by rw [e])) hC.1, fun d => ?_, by omega⟩, hJs⟩⟩
      have h := hC.2 (keyB d.1)
      rw [hl0] at h
      constructor
      · intro hm
        exact (h.1 (List.mem_map.2 ⟨d, hm, rfl⟩)).1
      · intro hh
        obtain ⟨m, hm, he⟩ := List.mem_map.1 (h.2 ⟨hh, rfl⟩)
        rw [← dig_keyB he]
        exact hm
    · intro x hxl hxb c kl yd yp w2 cnt2 hkey hlk hv hat hrg2 hlt hg2 hs2 hen
      have hkl : kl = sumLit x := by
        have h1 := sum_keyOf x hxl hxb
        rw [h1] at hkey
        exact (Option.some.inj hkey).symm
      have hy0 := hY ss ⟨x, hxl, hxb⟩
      dsimp only at hy0
      have HF := Lib.hid (fresh_sum w2)
      have HSz := Lib.hid (zero32_size x (by omega))
      have HI := Lib.hid (arr32_info x (by omega))
      have HRg := Lib.hid hrg
      have HRg2 := Lib.hid hrg2
      have HG2 := Lib.hid hg2
      have HC := Lib.hid hC
      have HJs := Lib.hid hJs
      have HStp := Lib.hid (And.intro hlk hat)
      have hszle : wr.heap.size ≤ w2.heap.size := hg2.size
      clear hrg hrg2 hg2 hC hJs hkey hs2 hlk hat hown h0 hg0 hrg0 hs0
      gi_wp2_with ((with_reducible refine stopIn (ty := 26) ?_))
      refine armIn_store (ty := 26) w2.heap.size (arr32 x) 26 zero32 HF.out HSz.out HI.out (arr32_one _) ?k1 ?k2 ?_
      case k1 => rfl
      case k2 => rfl
      refine gen_world (P := fun W => wpListIn _ _ _ _ _ _ _ W) (I := fun V => Below w2.heap.size w2 V ∧ Has V w2.heap.size 26 (arr32 x)) _ ⟨below_setRow ((Below.refl _ w2).alloc (Nat.le_refl _) _) (Nat.le_refl _) _, HF.out.setRow⟩ ?_
      rintro V ⟨hBV, hXV⟩
      have hg0 : w2.grownBy V none := ⟨hBV.os, hBV.tape, hBV.output, hBV.size, fun k hk _ => hBV.block k hk⟩
      have hgw : wr.grownBy V (some W.heap.size) := ⟨hg0.os.trans HG2.out.os, hg0.tape.trans HG2.out.tape, hg0.output.trans HG2.out.output, Nat.le_trans HG2.out.size hg0.size, fun k hk hne => (hBV.block k (Nat.lt_of_lt_of_le hk hszle)).trans (HG2.out.block k hk hne)⟩
      have hkv : KeepsWalks w2 V := KeepsWalks.of_grownBy hg0 (fun j o e => by cases e)
      have hJ2 : J ss V := hJ ss wr V (some W.heap.size) HJs.out hgw (fun r e => by cases e; exact ⟨Nat.le_refl _, HRg.out.iter_walk⟩)
      obtain ⟨fn, tmps, assign, body, hy, hR⟩ := hy0 V hJ2 (by omega)
      have HRgV := Lib.hid (HRg2.out.of_walks hkv)
      have HRow := Lib.hid hXV.row
      clear hBV hXV hg0 hgw hkv hJ2
      gi_wp2_with ((with_reducible refine stopInL (ty := 26) ?_))
      refine armIn_load (ty := 26) ⟨w2.heap.size, 0, none⟩ (arr32 x) _ HRow.out Tryd.underlying26 HI.out ?j1 ?j2 ?_
      case j1 => rfl
      case j2 => rfl
      gi_wp2
      refine hR.mono ?_
      rintro e W3 (⟨rfl, hJ3, hk3⟩ | ⟨rfl, hJx3⟩)
      · gi_wp2
        have hrg3 := HRgV.out.of_walks hk3
        go_roundw
        case rel =>
          refine ⟨_, cnt2, ss ++ [⟨x, hxl, hxb⟩], hrg3, by simp; omega, ?_, hJ3⟩
          rw [hkl, List.map_append, List.map_cons, List.map_nil]
          exact HC.out.step (by have := HStp.out.1; rwa [hkl] at this) (by have := HStp.out.2; rwa [hkl] at this)
        case measure => rw [hrg3.left_eq, HRg.out.left_eq]; exact hlt
      · gi_wp2
        refine bodyPost_ret (results_none rfl _ _ _) rfl ?_
        exact ⟨⟨_, rfl⟩, .inr ⟨_, trivial, hJx3⟩⟩
theorem keys1_stops {H : Type} (F : Fence) (n : Nat) (hF : F.fn 101) (hro : F.round = none) (hn : 1 ≤ n) (Bm b nn : Nat) (D0 : DataW H) {R : Value → Option (DataW H × List MemPlace)} (w : World) (hBm : Bm < w.heap.size)
    (hm : w.cell? ⟨Bm, 0, none⟩ = some (.map (some b))) (hown : w.ownsMap Tryd.prog 26 R b nn D0) :
    SeqStopsK F n Tryd.prog 101 #[.pointer (some ⟨Bm, 0, none⟩)] (fun x : Dig => #[Value.agg (arr32 x.1)]) KeepsWalks (KeysOfMap D0) (fun _ => True) (Maps.size D0) w := fun l J Jx W hW hJ _ hY h0 => by
  have hown' : W.ownsMap Tryd.prog 26 R b nn D0 := by
    have hbl := hown.lt
    obtain ⟨es, clock, hb, Ft, hs, hD⟩ := hown
    exact ⟨es, clock, (hW.block b hbl).trans hb, Ft, hs, hD⟩
  exact keys1_in F n hF hro hn l Bm b nn D0 J Jx W hJ hY ((hW.cell (p := ⟨Bm, 0, none⟩) hBm).trans hm) hown' h0
end Go.Proofs.YtffdkniahdekjaaDoor
end
section
namespace Go.Hoar
open Go Go.RowKit
section
variable {P : Program} {F : Fence} {n : Nat}
/-- A slice literal of one array or struct, inside a fence. -/
theorem armIn_slice1 {ops : Array Oper} {rest : List Oper} {a : Act} {w : World} {Q : Exit → Act → World → Prop} {dst : Option Tmp} {t T : TypeId} {x : Operand} {pos : String} {af : Array Edge}
    (e : TypeId) (ie : TypeInfo) (z : Value) (cs : Array Value) (hu : P.underlying t = some (.slice e)) (hie : P.info? e = some ie) (hz : ie.zero = some z) (hsz : cs.size = ie.size) (hsmall : cs.size ≤ 1000) (hpos : 0 < cs.size)
    (hx : a.eval x = .agg cs) (h : wpListIn F n P ops Q rest (a.put dst (.slice (some ⟨w.heap.size, 0, none⟩) 1 1)) (w.alloc (.cells cs e))) :
    wpListIn F n P ops Q (⟨dst, .buildSlice t 1 #[(0, x)], T, pos, af, none⟩ :: rest) a w := by
  have ht : ∀ A : Array Value, A.toList.toArray = A := fun A => by simp
  have hf := fill_rows cs.size [cs] 0 [] ((Array.range (1 * ie.size)).map (z.cells[· % z.cells.size]!)).toList (fun c hc => by rw [List.mem_singleton.1 hc]) (by simp [hsz]) (by simp)
  rw [hsz] at hf
  have e2 : ((#[(0, x)] : Array (Nat × Operand)).map fun (i, x) => (i, a.eval x)).toList = (([cs].zipIdx 0).map fun x => (x.2, Value.agg x.1)) := by simp [hx]
  rw [List.nil_append, ht] at hf
  have hr := run_buildSlice (P := P) w t e 1 ((#[(0, x)] : Array (Nat × Operand)).map fun (i, x) => (i, a.eval x)) cs ie z hu hie hz (by rw [← hsz]; omega) (by rw [← hsz]; omega) (by rw [e2, hf]; simp)
  exact wpListIn_plain rfl fun K hK => by
    unfold Oper.wpIn
    refine ⟨by simp [Oper.about], ?_⟩
    rw [Oper.semAt_plain F _ _ (by intro c hc'; cases hc')]
    unfold execOp
    simp only [Sem.run_bind, hr, Result.andThen_ok, Sem.run_pure]
    exact hK _ _ h
end
end Go.Hoar
namespace Go.Proofs.YtffdkniahdekjaaDoor
open Go.RowKit Go.Hoar Go.Maps Go.Shelf
attribute [local go_sem] Oper.semAt_some
def digCells (ys : List Dig) : List Value := ys.flatMap fun d => cellsOf d.1
set_option maxRecDepth 100000 in
set_option maxHeartbeats 2000000 in
theorem appendSeq_any {gf : Nat} {lb : Array Value} {S : List Dig → Prop} {N : Nat} (hN : N ≤ 1000000) (eg : ∀ args w, (callFunc gf args).run Tryd.prog w = .ok (.enter gf args) w) (w : World)
    (hseq : ∀ n, 1 ≤ n → SeqStopsK Fence.wide n Tryd.prog gf lb (fun x : Dig => #[Value.agg (arr32 x.1)]) KeepsWalks S (fun _ => True) N w) :
    Calls Tryd.prog 112 #[.slice none 0 0, .func (.func gf) #[] lb] w fun e w' => ∃ v ys, e = .returned v ∧ S ys ∧ w'.ownsRow w.heap.size 26 32 v ys.length (digCells ys) ∧ Below w.heap.size w w' := by
  obtain ⟨i0, hi0, hz0, hz1, hz2⟩ := info_parts sumInfo3
  refine (callsIn_wide (n := 3)).1 ?_
  refine callsIn_of_wp_marks Tryd.func112 rfl trivial ?_ rfl
  simp only [Tryd.ntmps112, List.size_toArray, List.length_cons, List.length_nil, Nat.reduceAdd, Nat.reduceSub, Array.replicate_succ, Array.replicate_zero, List.push_toArray, List.append_toArray, List.nil_append, List.cons_append]
  gi_wp2_with (fail)
  obtain ⟨Wl, hWl⟩ : ∃ Wl, Wl = w.alloc (.cells #[.slice none 0 0] 49) := ⟨_, rfl⟩
  rw [← hWl]
  have hbl : Below w.heap.size w Wl := hWl ▸ (Below.refl _ w).alloc (Nat.le_refl _) _
  have hbox : Boxed Wl w.heap.size 49 (.slice none 0 0) := hWl ▸ Boxed.new w _ _
  have hszl : Wl.heap.size = w.heap.size + 1 := by rw [hWl]; simp
  clear hWl
  refine wpIn_rangeFunc_ownH rfl (by omega) (gf := gf) (lb := lb) rfl trivial eg (hseq _ (by omega)) (fun h k => h.trans k) (fun A l o o' _ ho _ hw => KeepsWalks.putObj _ ho hw) hbl (fun x => rfl)
    (fun pre A => (∃ v, Boxed A w.heap.size 49 v ∧ A.ownsRow w.heap.size 26 32 v pre.length (digCells pre) ∧ True) ∧ Below w.heap.size w A)
    (fun _ _ _ => False) ?own (fun _ _ _ _ _ hs _ _ => hs) ⟨⟨_, hbox, World.ownsRow_nil _ _ _ _, trivial⟩, hbl⟩
    (fun x a' A => ∃ p, w.heap.size < p ∧ a' = { tmps := #[.slice none 0 0, .func (.func gf) #[] lb, .pointer (some ⟨w.heap.size, 0, none⟩), undef, .slice none 0 0, .pointer (some ⟨p, 0, none⟩), .func (.func gf) #[] lb, .agg (arr32 x.1), undef, undef, undef, undef, undef], defers := [] } ∧ Has A p 26 (arr32 x.1)) ?ax ?assign ?body ?done ?stop
  case own =>
    exact OwnFrom.and (Own.from (holdsRow_own w.heap.size w.heap.size 49 26 32 (fun pre : List Dig => pre.length) digCells (fun _ _ => True)) _) (ownFrom_below (Nat.le_refl _) (by omega))
  case ax =>
    rintro x a' _ A B row ⟨p, hp, ha, hP⟩ hg hr
    refine ⟨p, hp, ha, hP.grown hg (fun e => ?_)⟩
    obtain ⟨_, o, ho, hc⟩ := hr p e.symm
    rw [show A.heap[p]? = _ from hP] at ho
    cases ho
    cases hc
  case assign =>
    rintro l pre x W K hI hK
    have hx32 := x.2.1
    have HF := Lib.hid (fresh_sum W)
    have HSz := Lib.hid (zero32_size x.1 (by omega))
    have HI := Lib.hid (arr32_info x.1 (by omega))
    gi_wp2_with ((with_reducible refine stopIn (ty := 26) ?_))
    refine armIn_store (ty := 26) W.heap.size (arr32 x.1) 26 zero32 HF.out HSz.out HI.out (arr32_one _) ?k1 ?k2 ?_
    case k1 => rfl
    case k2 => rfl
    refine gen_world (P := fun W => wpListIn _ _ _ _ _ _ _ W) (I := fun V => Below W.heap.size W V ∧ Has V W.heap.size 26 (arr32 x.1)) _ ⟨below_setRow ((Below.refl _ W).alloc (Nat.le_refl _) _) (Nat.le_refl _) _, HF.out.setRow⟩ ?_
    rintro V ⟨hBV, hXV⟩
    have hg0 : W.grownBy V none := ⟨hBV.os, hBV.tape, hBV.output, hBV.size, fun k hk _ => hBV.block k hk⟩
    have hks : KeepsOthers W V := KeepsOthers.of_grownBy hg0 (fun j o e => by cases e)
    gi_wp2
    exact hK _ _ (hks.from _) hks.walks ⟨holdsRow_own w.heap.size w.heap.size 49 26 32 (fun pre : List Dig => pre.length) digCells (fun _ _ => True) pre W V none hI.1 hg0 (fun r e => by cases e), hI.2.trans (hBV.mono hI.2.size)⟩ ⟨W.heap.size, hI.1.choose_spec.1.lt, rfl, hXV⟩
  case body =>
    rintro l pre x a' W hlD hl ⟨⟨v, hv, hrow, -⟩, hB⟩ ⟨p, hp, rfl, hP⟩ hlt
    have hc := hv.cell
    have hx32 := x.2.1
    gi_wp2_with ((with_reducible refine stopInL (ty := 26) ?_))
    refine armIn_load (ty := 26) ⟨p, 0, none⟩ (arr32 x.1) _ hP.row Tryd.underlying26 (arr32_info x.1 (by omega)) ?j1 ?j2 ?_
    case j1 => rfl
    case j2 => rfl
    refine armIn_slice1 26 i0 (.agg zero32) (arr32 x.1) Tryd.underlying49 hi0 hz0 (by rw [hz1, arr32_size _ (by omega)]) (by rw [arr32_size _ (by omega)]; omega) (by rw [arr32_size _ (by omega)]; omega) rfl ?_
    refine wpListIn_append_own _ rfl _ _ 49 rfl w.heap.size 26 i0 (.agg zero32) 32 32 Tryd.underlying49 hi0 hz0 hz1 hz2 rfl (by decide) _ _ _ rfl (hrow.alloc _) ⟨W.heap.size, 0, none⟩ 1 1 (arr32 x.1).toList rfl ?n1 ?n2 ?n3 (by unfold maxLen; omega) (by omega) (by have := hB.size; simp; omega) ?_
    case n1 => simp [arr32_size x.1 (by omega)]
    case n2 =>
      intro j u hj
      have h := (Has.fresh W 26 (arr32 x.1)).cell j
      have e : (⟨W.heap.size, 0, none⟩ : Addr).add j = ⟨W.heap.size, j, none⟩ := by
        simp only [Addr.add, Nat.zero_add]
        split
        · next hz => rw [hz]
        · rfl
      rw [e, h, ← hj, Array.getElem?_toList]
    case n3 =>
      intro u hu
      exact (Array.all_eq_true'.1 (arr32_one x.1)) u (by simpa using hu)
    intro v' w1 hown' hgrow _
    obtain ⟨g', cap', rfl⟩ := ownsRow_succ hown'
    obtain ⟨hv1, hv2, hr2, hk2, hb2⟩ := hv.appended (by decide) hrow hB.size (Nat.le_refl _) hown' hgrow
    have hc1 := hv1.cell
    have hf1 := hv1.frozen
    gi_wp2
    refine ⟨hk2.from _, hk2.walks, ⟨_, hv2, ?_, trivial⟩, hB.trans hb2⟩
    have e : digCells (pre ++ [x]) = digCells pre ++ (arr32 x.1).toList := by simp [digCells, cellsOf]
    rw [e]
    simpa using hr2
  case done =>
    rintro D ys W hD hS ⟨⟨v, hv, hrow, -⟩, hB⟩ hK
    have hc := hv.cell
    gi_wp2
    refine ⟨by simp, .inl ⟨_, _, rfl, run_takeDeferred hK, ?_⟩⟩
    exact ⟨_, results_tmp rfl _ _ _, v, ys, rfl, hS, ownsRow_putObj hrow _ hK rfl, hB.trans (belowK_b (w := w) (Nat.le_refl _) W D _ _ (by omega) hK rfl rfl)⟩
  case stop =>
    rintro D c pre W _ _ h _
    exact h.elim
end Go.Proofs.YtffdkniahdekjaaDoor
end
section
namespace Go.Proofs.YtffdkniahdekjaaDoor
open Go.RowKit Go.Hoar
def asInts (l : List Nat) : List Int := l.map fun (x : Nat) => (Int.ofNat x)
/-- Which of two lists of bytes comes first: -1, 0, 1. -/
def comp (l m : List Nat) : Int := Lib.compareBytes (Lib.bytesOf (asInts l)) (Lib.bytesOf (asInts m))
theorem load_part {V : World} {g off : Nat} {l : List Nat} (h : BytesAt V g off l.length l) : (Extern.Bytes.loadBytes ⟨g, off, none⟩ l.length .empty).run Tryd.prog V = .ok ⟨(Lib.bytesOf (asInts l)).toArray⟩ V := by
  have hl := Lib.run_loadBytesX (P := Tryd.prog) V (asInts l) ⟨g, off, none⟩ .empty (fun j x hj => by
    rw [asInts, List.getElem?_map] at hj
    obtain ⟨y, hy, rfl⟩ := Option.map_eq_some_iff.1 hj
    have hjl := (List.getElem?_eq_some_iff.1 hy).1
    have e : (⟨g, off, none⟩ : Addr).add j = ⟨g, off + j, none⟩ := by unfold Addr.add; split <;> simp_all
    rw [e, h j hjl, List.getD_eq_getElem?_getD, hy]
    rfl)
  have e : (asInts l).length = l.length := by simp [asInts]
  rw [e] at hl
  rw [hl]
  have e2 : ∀ a : Array UInt8, ByteArray.empty.data ++ a = a := fun a => Array.empty_append
  rw [e2]
theorem run_compareParts {V : World} {g1 o1 g2 o2 c1 c2 : Nat} {l m : List Nat} (h1 : BytesAt V g1 o1 l.length l) (h2 : BytesAt V g2 o2 m.length m) :
    (Extern.BytealgCompare.compare #[.slice (some ⟨g1, o1, none⟩) l.length c1, .slice (some ⟨g2, o2, none⟩) m.length c2]).run Tryd.prog V = .ok (.int .i64 (comp l m)) V := by
  change Sem.run Tryd.prog (do pure (goInt (Extern.BytealgCompare.cmp (← Extern.Bytes.bytesOf (.slice (some ⟨g1, o1, none⟩) l.length c1)) (← Extern.Bytes.bytesOf (.slice (some ⟨g2, o2, none⟩) m.length c2))))) V = _
  simp only [Extern.Bytes.bytesOf, Sem.run_bind, load_part h1, load_part h2, Sem.run_pure, Result.andThen]
  rw [Lib.cmp_eq]
  rfl
set_option maxRecDepth 100000 in
theorem bytesCompare_any {V : World} {g1 o1 g2 o2 c1 c2 n k : Nat} {l m : List Nat} (h1 : BytesAt V g1 o1 l.length l) (h2 : BytesAt V g2 o2 m.length m) (hn : n = l.length) (hk : k = m.length) :
    Calls Tryd.prog 66 #[.slice (some ⟨g1, o1, none⟩) n c1, .slice (some ⟨g2, o2, none⟩) k c2] V fun e w' => e = .returned (.int .i64 (comp l m)) ∧ w' = V := by
  subst hn hk
  have HR := Lib.hid (run_compareParts (c1 := c1) (c2 := c2) h1 h2)
  clear h1 h2
  go_enter Tryd.func66, Tryd.ntmps66
  go_wp2
  rw [run_callFunc_extern Tryd.func93 (by kernel_rfl) (by kernel_rfl) (by kernel_rfl) (e := Extern.BytealgCompare.compare) (by kernel_rfl), HR.out]
  simp only [Result.andThen]
  rw [Oper.upon_value]
  go_wp2
  go_ret
  exact ⟨rfl, rfl⟩
set_option maxRecDepth 100000 in
set_option maxHeartbeats 1000000 in
theorem compare_any (l m : List Nat) (hl : l.length = 32) (hm : m.length = 32) (w : World) :
    Calls Tryd.prog 30 #[.agg (arr32 l), .agg (arr32 m)] w fun e w' => e = .returned (.int .i64 (comp l m)) ∧ Below w.heap.size w w' := by
  go_enter Tryd.func30, Tryd.ntmps30
  go_upto_region 1 with (fail)
  refine gen_world (P := fun W => Code.wp _ _ _ _ W) (I := fun W => Below w.heap.size w W ∧ Has W w.heap.size 26 (arr32 l) ∧ Has W (w.heap.size + 1) 26 (arr32 m)) _ ⟨((Below.refl _ w).alloc (Nat.le_refl _) _).alloc (by simp) _, (Has.fresh_at _ _ _ _ rfl).alloc _, Has.fresh_at _ _ _ _ (by simp)⟩ ?_
  rintro W ⟨hB, hL, hM⟩
  have hbl : BytesAt W w.heap.size 0 l.length l := fun i hi => by rw [hL.cell, Nat.zero_add]; exact arr32_get l hl i (by omega)
  have hbm : BytesAt W (w.heap.size + 1) 0 m.length m := fun i hi => by rw [hM.cell, Nat.zero_add]; exact arr32_get m hm i (by omega)
  have hcall : ∀ V, Below W.heap.size W V → Calls Tryd.prog 66 #[.slice (some ⟨w.heap.size, 0, none⟩) 32 32, .slice (some ⟨w.heap.size + 1, 0, none⟩) 32 32] V fun e w' => e = .returned (.int .i64 (comp l m)) ∧ w' = V := fun V hv =>
    bytesCompare_any (V := V) (fun i hi => (hv.cell hL.lt).trans (hbl i hi)) (fun i hi => (hv.cell hM.lt).trans (hbm i hi)) hl.symm hm.symm
  have HB := Lib.hid hB
  have HCall := Lib.hid hcall
  clear hB hL hM hbl hbm hcall
  go_region_held3 (fun W' => True) (exact trivial) (first | (go_at_call 66; refine (HCall.out _ (by repeat (first | with_reducible assumption | with_reducible exact Below.refl _ _ | with_reducible refine Below.drew ?_ | with_reducible refine Below.setCell ?_ (by first | (with_reducible assumption) | (dsimp only; omega) | (simp; done)) _ | with_reducible refine Below.alloc ?_ (by first | omega | (simp; done) | (simp; omega)) _))).mono ?_; rintro e w' ⟨rfl, rfl⟩))
  go_wp2
  go_ret
  exact ⟨rfl, HB.out.drew⟩
end Go.Proofs.YtffdkniahdekjaaDoor
end
section
namespace Go.Proofs.YtffdkniahdekjaaDoor
open Go.RowKit Go.Hoar Go.Maps Go.Shelf Go.Sort
attribute [local go_sem] Oper.semAt_some
instance : Inhabited Dig := ⟨⟨List.replicate 32 0, by simp, fun x hx => by rw [List.eq_of_mem_replicate hx]; omega⟩⟩
set_option maxRecDepth 100000 in
set_option maxHeartbeats 1000000 in
theorem compare_grow (l m : List Nat) (hl : l.length = 32) (hm : m.length = 32) (w : World) :
    Calls Tryd.prog 30 #[.agg (arr32 l), .agg (arr32 m)] w fun e w' => e = .returned (.int .i64 (comp l m)) ∧ ∃ q os', w' = grow (w.drewN q) os' := by
  go_enter Tryd.func30, Tryd.ntmps30
  go_upto_region 1 with (fail)
  refine gen_world (P := fun W => Code.wp _ _ _ _ W) (I := fun W => (∃ os, W = grow w os) ∧ Has W w.heap.size 26 (arr32 l) ∧ Has W (w.heap.size + 1) 26 (arr32 m)) _ ⟨⟨_, by rw [alloc_eq_grow, alloc_eq_grow, grow_grow]⟩, (Has.fresh_at _ _ _ _ rfl).alloc _, Has.fresh_at _ _ _ _ (by simp)⟩ ?_
  rintro W ⟨hB, hL, hM⟩
  have hbl : BytesAt W w.heap.size 0 l.length l := fun i hi => by rw [hL.cell, Nat.zero_add]; exact arr32_get l hl i (by omega)
  have hbm : BytesAt W (w.heap.size + 1) 0 m.length m := fun i hi => by rw [hM.cell, Nat.zero_add]; exact arr32_get m hm i (by omega)
  have hcall : ∀ V, Below W.heap.size W V → Calls Tryd.prog 66 #[.slice (some ⟨w.heap.size, 0, none⟩) 32 32, .slice (some ⟨w.heap.size + 1, 0, none⟩) 32 32] V fun e w' => e = .returned (.int .i64 (comp l m)) ∧ w' = V := fun V hv =>
    bytesCompare_any (V := V) (fun i hi => (hv.cell hL.lt).trans (hbl i hi)) (fun i hi => (hv.cell hM.lt).trans (hbm i hi)) hl.symm hm.symm
  have HB := Lib.hid hB
  have HCall := Lib.hid hcall
  clear hB hL hM hbl hbm hcall
  go_region_held3 (fun W' => True) (exact trivial) (first | (go_at_call 66; refine (HCall.out _ (by repeat (first | with_reducible assumption | with_reducible exact Below.refl _ _ | with_reducible refine Below.drew ?_ | with_reducible refine Below.setCell ?_ (by first | (with_reducible assumption) | (dsimp only; omega) | (simp; done)) _ | with_reducible refine Below.alloc ?_ (by first | omega | (simp; done) | (simp; omega)) _))).mono ?_; rintro e w' ⟨rfl, rfl⟩))
  go_wp2
  go_ret
  obtain ⟨os, rfl⟩ := HB.out
  exact ⟨rfl, 1, os, rfl⟩
/-! ### The order of bytes -/
theorem compareBytes_lt : ∀ a b : List UInt8, Lib.compareBytes a b < 0 ↔ a < b
  | [], [] => by simp [Lib.compareBytes]
  | [], _ :: _ => by simp [Lib.compareBytes]
  | _ :: _, [] => by simp [Lib.compareBytes]
  | a :: r, b :: s => by
    rw [List.cons_lt_cons_iff]
    unfold Lib.compareBytes
    by_cases h1 : a < b
    · simp [h1]
    · by_cases h2 : b < a
      · have h3 : a ≠ b := fun e => by subst e; exact h1 h2
        simp [h1, h2, h3]
      · have h3 : a = b := UInt8.le_antisymm (UInt8.not_lt.1 h2) (UInt8.not_lt.1 h1)
        subst h3
        simpa [h1] using compareBytes_lt r s
def comp2 (x y : Dig) : Int := comp x.1 y.1
def keyL (x : Dig) : List UInt8 := Lib.bytesOf (asInts x.1)
theorem ltOf_comp (x y : Dig) : ltOf comp2 x y = decide (keyL x < keyL y) := by
  unfold ltOf
  exact decide_eq_decide.2 (compareBytes_lt _ _)
theorem keyL_inj {x y : Dig} (h : keyL x = keyL y) : x = y := by
  apply Subtype.ext
  unfold keyL Lib.bytesOf asInts at h
  rw [List.map_map, List.map_map] at h
  have hl : x.1.length = y.1.length := by rw [x.2.1, y.2.1]
  apply List.ext_getElem hl
  intro i h1 h2
  have h3 := congrArg (fun z => z[i]?) h
  simp only [List.getElem?_map, List.getElem?_eq_getElem h1, List.getElem?_eq_getElem h2, Option.map_some, Option.some.injEq, Function.comp_apply] at h3
  have a1 := x.2.2 _ (List.getElem_mem h1)
  have a2 := y.2.2 _ (List.getElem_mem h2)
  have h4 := congrArg UInt8.toNat h3
  simpa [Nat.mod_eq_of_lt a1, Nat.mod_eq_of_lt a2] using h4
theorem swo_comp : SWO (ltOf comp2) where
  irrefl x := by rw [ltOf_comp]; simp [List.lt_irrefl]
  trans x y z h1 h2 := by
    rw [ltOf_comp] at *
    simp only [decide_eq_true_eq] at *
    exact List.lt_trans h1 h2
  ntrans x y z h1 h2 := by
    rw [ltOf_comp] at *
    simp only [decide_eq_false_iff_not, List.not_lt] at *
    exact List.le_trans h2 h1
theorem tot_comp (x y : Dig) (h1 : ltOf comp2 x y = false) (h2 : ltOf comp2 y x = false) : x = y := by
  rw [ltOf_comp] at *
  simp only [decide_eq_false_iff_not, List.not_lt] at *
  exact keyL_inj (List.le_antisymm h2 h1)
/-- Digests in their order. -/
def rising (ys : List Dig) : List Dig := ys.mergeSort fun x y => !(ltOf comp2) y x
end Go.Proofs.YtffdkniahdekjaaDoor
end
section
namespace Go.Proofs
open Go.Shelf
def Tryd.sortSum_ren : Go.Shelf.Ren := ⟨fun | 6 => 100 | 15 => 109 | 14 => 113 | 28 => 116 | 29 => 117 | 20 => 118 | 21 => 119 | 22 => 120 | 23 => 121 | 24 => 122 | 25 => 123 | 26 => 124 | 27 => 125 | 46 => 126 | 47 => 127 | 48 => 128 | 49 => 129 | 50 => 130 | 57 => 131 | n => n, fun | 22 => 49 | 24 => 26 | 25 => 47 | 3 => 3 | 39 => 97 | 0 => 0 | 53 => 30 | 55 => 120 | 4 => 4 | 46 => 162 | 45 => 161 | 50 => 166 | 5 => 5 | 9 => 9 | 66 => 168 | 70 => 172 | 76 => 174 | 77 => 175 | n => n, fun | n => n⟩
theorem Tryd.sortSum : Go.Proofs.SlLaysF0.n6 Tryd.prog Tryd.sortSum_ren := {
  mixed := by kernel_rfl
  f6 := ⟨Tryd.f100.name, by decide, Tryd.func100.trans (congrArg some (by kernel_rfl))⟩
  f14 := ⟨Tryd.f113.name, by decide, Tryd.func113.trans (congrArg some (by kernel_rfl))⟩
  f15 := Tryd.func109.trans (congrArg some (by kernel_rfl))
  f20 := ⟨Tryd.f118.name, by decide, Tryd.func118.trans (congrArg some (by kernel_rfl))⟩
  f21 := ⟨Tryd.f119.name, by decide, Tryd.func119.trans (congrArg some (by kernel_rfl))⟩
  f22 := ⟨Tryd.f120.name, by decide, Tryd.func120.trans (congrArg some (by kernel_rfl))⟩
  f23 := ⟨Tryd.f121.name, by decide, Tryd.func121.trans (congrArg some (by kernel_rfl))⟩
  f24 := ⟨Tryd.f122.name, by decide, Tryd.func122.trans (congrArg some (by kernel_rfl))⟩
  f25 := ⟨Tryd.f123.name, by decide, Tryd.func123.trans (congrArg some (by kernel_rfl))⟩
  f26 := ⟨Tryd.f124.name, by decide, Tryd.func124.trans (congrArg some (by kernel_rfl))⟩
  f27 := ⟨Tryd.f125.name, by decide, Tryd.func125.trans (congrArg some (by kernel_rfl))⟩
  f28 := Tryd.func116.trans (congrArg some (by kernel_rfl))
  f29 := Tryd.func117.trans (congrArg some (by kernel_rfl))
  f46 := ⟨Tryd.f126.name, by decide, Tryd.func126.trans (congrArg some (by kernel_rfl))⟩
  f47 := Tryd.func127.trans (congrArg some (by kernel_rfl))
  f48 := Tryd.func128.trans (congrArg some (by kernel_rfl))
  f49 := ⟨Tryd.f129.name, by decide, Tryd.func129.trans (congrArg some (by kernel_rfl))⟩
  f50 := ⟨Tryd.f130.name, by decide, Tryd.func130.trans (congrArg some (by kernel_rfl))⟩
  f57 := ⟨Tryd.f131.name, by decide, Tryd.func131.trans (congrArg some (by kernel_rfl))⟩
  t0 := Tryd.underlying0
  a0 := Tryd.isAgg0
  z0 := Tryd.sizeOf0
  v0 := Tryd.zeroValue0
  t3 := Tryd.underlying3
  a3 := Tryd.isAgg3
  z3 := Tryd.sizeOf3
  v3 := Tryd.zeroValue3
  t4 := Tryd.underlying4
  a4 := Tryd.isAgg4
  z4 := Tryd.sizeOf4
  v4 := Tryd.zeroValue4
  t5 := Tryd.underlying5
  a5 := Tryd.isAgg5
  z5 := Tryd.sizeOf5
  v5 := Tryd.zeroValue5
  t9 := Tryd.underlying9
  a9 := Tryd.isAgg9
  z9 := Tryd.sizeOf9
  v9 := Tryd.zeroValue9
  t22 := Tryd.underlying49
  a22 := Tryd.isAgg49
  z22 := Tryd.sizeOf49
  v22 := Tryd.zeroValue49
  t25 := Tryd.underlying47
  a25 := Tryd.isAgg47
  z25 := Tryd.sizeOf47
  v25 := Tryd.zeroValue47
  t39 := Tryd.underlying97
  a39 := Tryd.isAgg97
  z39 := Tryd.sizeOf97
  v39 := Tryd.zeroValue97
  t45 := Tryd.underlying161
  a45 := Tryd.isAgg161
  z45 := Tryd.sizeOf161
  v45 := Tryd.zeroValue161
  t46 := Tryd.underlying162
  a46 := Tryd.isAgg162
  z46 := Tryd.sizeOf162
  v46 := Tryd.zeroValue162
  t50 := Tryd.underlying166
  a50 := Tryd.isAgg166
  z50 := Tryd.sizeOf166
  v50 := Tryd.zeroValue166
  t53 := Tryd.underlying30
  a53 := Tryd.isAgg30
  z53 := Tryd.sizeOf30
  v53 := Tryd.zeroValue30
  t55 := Tryd.underlying120
  a55 := Tryd.isAgg120
  z55 := Tryd.sizeOf120
  v55 := Tryd.zeroValue120
  t66 := Tryd.underlying168
  a66 := Tryd.isAgg168
  z66 := Tryd.sizeOf168
  v66 := Tryd.zeroValue168
  t70 := Tryd.underlying172
  a70 := Tryd.isAgg172
  z70 := Tryd.sizeOf172
  v70 := Tryd.zeroValue172
  t76 := Tryd.underlying174
  a76 := Tryd.isAgg174
  z76 := Tryd.sizeOf174
  v76 := Tryd.zeroValue174
  t77 := Tryd.underlying175
  a77 := Tryd.isAgg175
  z77 := Tryd.sizeOf175
  v77 := Tryd.zeroValue175 }
end Go.Proofs
end
section
namespace Go.Proofs.YtffdkniahdekjaaDoor
open Go.RowKit Go.Hoar Go.Maps Go.Shelf Go.Sort
attribute [local go_sem] Oper.semAt_some
theorem below_grow (B : Nat) (w : World) (os : Array Obj) (hB : B ≤ w.heap.size) : Go.RowKit.Below B w (grow w os) :=
  ⟨rfl, rfl, rfl, by simp [grow], fun k hk => by simp only [grow]; rw [Array.getElem?_append_left (by omega)]⟩
def encD (x : Dig) : List Value := cellsOf x.1
theorem encD_len (x : Dig) : (encD x).length = 32 := by
  have := arr32_size x.1 (by have := x.2.1; omega)
  simpa [encD, cellsOf] using this
theorem cmpLays_any (blk off size : Nat) (w : World) : CmpLays Tryd.prog 30 #[] encD 32 comp2 blk off size w :=
  fun _ _ _ _ x y => compare_grow x.1 y.1 x.2.1 y.2.1 _
set_option maxHeartbeats 1000000 in
theorem sortSums_any (ys : List Dig) (v : Value) (base : Nat) (w : World) (hn : ys.length ≤ 1000000) (hb : base ≤ w.heap.size) (h : w.ownsRow base 26 32 v ys.length (digCells ys)) :
    Calls Tryd.prog 100 #[v, .func (.func 30) #[] #[]] w fun e w' => e = .returned (.tuple #[]) ∧ w'.ownsRow base 26 32 v ys.length (digCells (rising ys)) ∧ Go.RowKit.Below base w w' := by
  obtain ⟨a, c, rfl, hc, hcm⟩ := own_shape h
  by_cases h0 : ys.length = 0
  · have hy : ys = [] := List.length_eq_zero_iff.1 h0
    subst hy
    refine (AnyF.slices_SortFunc_none Tryd.sortSum a c _ w).mono ?_
    rintro e w' ⟨rfl, rfl⟩
    have hr : rising ([] : List Dig) = [] := by simp [rising]
    rw [hr]
    exact ⟨rfl, h, Go.RowKit.Below.refl _ _⟩
  · obtain ⟨g, rfl, hg, hgl⟩ := own_addr h (by omega)
    have eg : ∀ args w, (callFunc 30 args).run Tryd.prog w = .ok (.enter 30 args) w := enters_of Tryd.func30 (by kernel_rfl) rfl
    have hd : ys.toArray.toList.flatMap encD = digCells ys := rfl
    rw [← hd] at h
    have hH := own_holdsK encD_len (by omega) h
    have hz : ys.toArray.size = ys.length := by simp
    have hcon := AnyQ.slices_SortFunc_total Tryd.sortSum 32 Tryd.isAgg26 Tryd.sizeOf26 encD encD_len (fun x u hu => cellsOf_one x.1 u hu) comp2 swo_comp 30 #[] g 0 c ys.toArray w eg (cmpLays_any g 0 _ w) hH hgl (by rw [hz]; omega) tot_comp
    rw [hz] at hcon
    refine hcon.mono ?_
    rintro e w' ⟨rfl, m, os, rfl⟩
    have hp : (rising ys).length = ys.length := (List.mergeSort_perm _ _).length_eq
    obtain ⟨ho, hbl⟩ := own_putK encD_len (by omega) h (d' := (rising ys).toArray) (by simp [hp]) m
    refine ⟨rfl, ?_, ?_⟩
    · exact own_below ho (below_grow _ _ _ (Nat.le_refl _))
    · exact hbl.trans ((below_grow _ _ _ (Nat.le_refl _)).mono (Nat.le_trans hb hbl.size))
set_option maxHeartbeats 1000000 in
theorem collect_any {gf : Nat} {lb : Array Value} {S : List Dig → Prop} {N : Nat} (hN : N ≤ 1000000) (eg : ∀ args w, (callFunc gf args).run Tryd.prog w = .ok (.enter gf args) w) (w : World)
    (hseq : ∀ n, 1 ≤ n → SeqStopsK Fence.wide n Tryd.prog gf lb (fun x : Dig => #[Value.agg (arr32 x.1)]) KeepsWalks S (fun _ => True) N w) :
    Calls Tryd.prog 99 #[.func (.func gf) #[] lb] w fun e w' => ∃ v ys, e = .returned v ∧ S ys ∧ w'.ownsRow w.heap.size 26 32 v ys.length (digCells ys) ∧ Go.RowKit.Below w.heap.size w w' := by
  have HA := Lib.hid (appendSeq_any hN eg w hseq)
  go_enter Tryd.func99, Tryd.ntmps99
  go_wp2_with (go_at_call 112; refine HA.out.mono ?_; rintro e w' ⟨v, ys, rfl, hS, ho, hb⟩)
  go_ret
  exact ⟨_, ys, rfl, hS, ho, hb⟩
set_option maxHeartbeats 1000000 in
theorem sortedFunc_any {gf : Nat} {lb : Array Value} {S : List Dig → Prop} {N : Nat} (hN : N ≤ 1000000) (hSN : ∀ ys, S ys → ys.length ≤ 1000000) (eg : ∀ args w, (callFunc gf args).run Tryd.prog w = .ok (.enter gf args) w) (w : World)
    (hseq : ∀ n, 1 ≤ n → SeqStopsK Fence.wide n Tryd.prog gf lb (fun x : Dig => #[Value.agg (arr32 x.1)]) KeepsWalks S (fun _ => True) N w) :
    Calls Tryd.prog 78 #[.func (.func gf) #[] lb, .func (.func 30) #[] #[]] w fun e w' => ∃ v ys, e = .returned v ∧ S ys ∧ w'.ownsRow w.heap.size 26 32 v ys.length (digCells (rising ys)) ∧ Go.RowKit.Below w.heap.size w w' := by
  have HA := Lib.hid (collect_any hN eg w hseq)
  go_enter Tryd.func78, Tryd.ntmps78
  go_wp2_with (first
    | (go_at_call 99; refine HA.out.mono ?_; rintro e w1 ⟨v, ys, rfl, hS, ho, hb⟩; obtain ⟨a, c, rfl, hc, hcm⟩ := own_shape ho; have HSo := Lib.hid (sortSums_any ys _ _ w1 (hSN ys hS) hb.size ho); have HB := Lib.hid hb; clear ho hb)
    | (go_at_call 100; refine HSo.out.mono ?_; rintro e w2 ⟨rfl, ho2, hb2⟩; have HO2 := Lib.hid ho2; have HB2 := Lib.hid hb2; clear ho2 hb2))
  go_ret
  exact ⟨_, ys, rfl, hS, HO2.out, HB.out.trans HB2.out⟩
end Go.Proofs.YtffdkniahdekjaaDoor
end
section
namespace Go.Hoar
open Go Go.ChangeMaps Go.MapKept Go.Maps
open Go.WideElems (Fit entry_then_store)
theorem setBlock_at {w : World} {b : Nat} {es : Array MapEntry} {c : Nat} {o' : Obj} (hb : w.heap[b]? = some (.map es c)) : (setBlock w b o').heap[b]? = some o' := heap_setBlock_same hb _
section
variable {H : Type} {P : Program} {w : World} {t k e : TypeId} {R : Value → Option (DataW H × List MemPlace)} {b n : Nat} {D : DataW H}
/-- The same block, the same map. -/
theorem ownsMap_same {w w' : World} (h : w.ownsMap P k R b n D) (hb : w'.heap[b]? = w.heap[b]?) : w'.ownsMap P k R b n D := by
  obtain ⟨es, clock, h1, F, hs, hD⟩ := h
  exact ⟨es, clock, hb.trans h1, F, hs, hD⟩
theorem entry_here (h : w.ownsMap P k R b n D) (L : Go.WideMaps.KeyLaw P k) (K : Keyed P k) (ht : P.underlying t = some (.map k e)) {z : Value} (hz : ∀ u : World, (zeroValue e).run P u = .ok z u) (hn : n < maxLen)
    {key : Value} {kl : Lit} (hkey : keyOf P k key = some kl) (hh : has D kl = true) :
    ∃ (v0 : Value) (st : Nat), (Instr.mapEntry t (.map (some b)) key).run P w = .ok (.tuple #[v0, goInt st]) w ∧
      ∀ (w2 : World) (val : Value) (d : DataW H) (ps : List MemPlace), w2.heap[b]? = w.heap[b]? → R val = some (d, ps) →
        ∃ w3, (Instr.entryStore t (.map (some b)) (goInt st) val).run P w2 = .ok () w3 ∧ w3.ownsMap P k R b (n + 1) (D.put kl d) ∧ w2.grownBy w3 (some b) := by
  have hown := h
  obtain ⟨es, clock, hb, F, hs, rfl⟩ := h
  obtain ⟨v0, st, es1, clock1, hrun, -, hst⟩ := entry_then_store L ht hz hb F hkey
  have hself : ∃ v, (Instr.mapEntry t (.map (some b)) key).run P w = .ok v w := by
    rcases L.find w hkey es.toList F.keys with ⟨h1, h2⟩ | ⟨j, e0, h1, h2, h3⟩
    · exfalso
      rcases fit_look false K ht (hz w) hb F hkey with ⟨_, _, hat⟩ | ⟨e1, _, he1, hk1, _⟩
      · rw [has_false_of_atKey hat] at hh
        cases hh
      · exact h2 e1 he1 hk1
    · have hj : es[j]? = some e0 := by simpa using h2
      have hlt : j < es.size := (Array.getElem?_eq_some_iff.1 hj).1
      have hsame : es.modify j (fun x => { x with key := key }) = es := by
        apply Array.ext (by simp)
        intro i hi1 hi2
        rw [Array.getElem_modify]
        split
        · next hij =>
          subst hij
          have he0 : es[j] = e0 := by rw [Array.getElem?_eq_getElem hlt] at hj; exact Option.some.inj hj
          rw [he0, ← h3]
        · rfl
      have hset : setBlock w b (.map es clock) = w := by
        have hbl : b < w.heap.size := (Array.getElem?_eq_some_iff.1 hb).1
        unfold setBlock
        have hx : w.heap.setIfInBounds b (.map es clock) = w.heap := by
          apply Array.ext (by simp)
          intro i hi1 hi2
          rw [Array.getElem_setIfInBounds]
          split
          · next hij => subst hij; rw [Array.getElem?_eq_getElem hbl] at hb; exact (Option.some.inj hb).symm
          · rfl
        rw [hx]
      refine ⟨.tuple #[e0.val, goInt e0.born], ?_⟩
      have hr : (Instr.mapEntry t (.map (some b)) key).run P w = .ok (.tuple #[e0.val, goInt e0.born]) (setBlock w b (.map es clock)) := by
        simp [Instr.mapEntry, run_underlying ht, MapKept.run_getObj_map hb, L.check w false hkey, h1, hj, h3, L.stays w hkey, hsame, MapKept.run_setObj_map _ hb, Result.andThen, setBlock]
      rw [hr, hset]
  obtain ⟨v, hv⟩ := hself
  have hw1 : setBlock w b (.map es1 clock1) = w := by
    have := hrun.symm.trans hv
    injection this
  have hb1 : w.heap[b]? = some (.map es1 clock1) := by
    have := setBlock_at (o' := .map es1 clock1) hb
    rwa [hw1] at this
  rw [hw1] at hrun
  refine ⟨v0, st, hrun, fun w2 val d ps hw2 hR => ?_⟩
  obtain ⟨es', clock', he1, he2⟩ := hst w2 val (hw2.trans hb1)
  obtain ⟨w', hu1, hu2, hu3⟩ := hown.update K ht hn hkey hR
  have hw' : w' = setBlock w b (.map es' clock') := by
    have := hu1.symm.trans he2
    injection this
  refine ⟨_, he1, ?_, ?_⟩
  · refine ownsMap_same hu2 ?_
    rw [hw', setBlock_at hb, setBlock_at (hw2.trans hb)]
  · exact ⟨rfl, rfl, rfl, by simp [setBlock], fun i _ hi => heap_setBlock_other (hw2.trans hb) _ (fun e => hi (by rw [e]))⟩
end
section
variable {P : Program} {a : Act} {w : World} {K : Act → World → Prop} {Q : Exit → Act → World → Prop} {dst : Option Tmp} {t T : TypeId} {m x y : Operand} {pos : String} {af : Array Edge}
theorem op_lookup (vm vx v : Value) (hm : a.eval m = vm) (hx : a.eval x = vx) (hr : (Instr.lookup t vm vx false).run P w = .ok v w) (h : K (a.put dst v) w) : Oper.wp P ⟨dst, .lookup t m x false, T, pos, af, none⟩ a w K Q := by
  unfold Oper.wp
  simp [execOp, hm, hx, hr, Result.andThen]
  exact h
theorem op_mapEntry (vm vx v : Value) (hm : a.eval m = vm) (hx : a.eval x = vx) (hr : (Instr.mapEntry t vm vx).run P w = .ok v w) (h : K (a.put dst v) w) : Oper.wp P ⟨dst, .mapEntry t m x, T, pos, af, none⟩ a w K Q := by
  unfold Oper.wp
  simp [execOp, hm, hx, hr, Result.andThen]
  exact h
theorem op_entryStore {w' : World} (vm vx vy : Value) (hm : a.eval m = vm) (hx : a.eval x = vx) (hy : a.eval y = vy) (hr : (Instr.entryStore t vm vx vy).run P w = .ok () w') (h : K a w') : Oper.wp P ⟨none, .entryStore t m x y, T, pos, af, none⟩ a w K Q := by
  unfold Oper.wp
  simp [execOp, hm, hx, hy, hr, Result.andThen]
  exact h
theorem op_mapUpdate {w' : World} (vm vx vy : Value) (hm : a.eval m = vm) (hx : a.eval x = vx) (hy : a.eval y = vy) (hr : (Instr.mapUpdate t vm vx vy).run P w = .ok () w') (h : K a w') : Oper.wp P ⟨none, .mapUpdate t m x y, T, pos, af, none⟩ a w K Q := by
  unfold Oper.wp
  simp [execOp, hm, hx, hy, hr, Result.andThen]
  exact h
theorem has_put_mono {H : Type} {D : DataW H} (hD : IsMap D) {k k' : Lit} (hk : WideAt.IsKeyLit k) (d : DataW H) (h : has D k' = true) : has (D.put k d) k' = true := by
  by_cases e : k' = k
  · subst e
    exact has_put_same hD hk d
  · rw [has_put_other e]
    exact h
end
end Go.Hoar
end
section
namespace Go.Proofs.YtffdkniahdekjaaDoor
open Go.RowKit Go.Hoar
/-- How many digits are the same before the first one that differs. -/
def alikeF (l m : List Nat) : Nat → Nat → Nat
  | 0, i => i
  | f + 1, i => if nib l i = nib m i then alikeF l m f (i + 1) else i
def alikeOf (l m : List Nat) : Nat := alikeF l m 64 0
theorem alikeF_le (l m : List Nat) : ∀ f i, alikeF l m f i ≤ i + f
  | 0, i => Nat.le_refl _
  | f + 1, i => by
    rw [alikeF]
    split
    · have := alikeF_le l m f (i + 1); omega
    · omega
set_option maxRecDepth 100000 in
set_option maxHeartbeats 2000000 in
theorem alike_any (l m : List Nat) (hl : l.length = 32) (hm : m.length = 32) (hlb : Sha.Bytes l) (hmb : Sha.Bytes m) (w : World) :
    Calls Tryd.prog 80 #[.agg (arr32 l), .agg (arr32 m)] w fun e w' => e = .returned (.int .i64 ((alikeOf l m : Nat) : Int)) ∧ Below w.heap.size w w' := by
  obtain ⟨out, hout⟩ : ∃ out, out = alikeOf l m := ⟨_, rfl⟩
  rw [← hout]
  have HOut := Lib.hid hout
  have hdl := digit_any l hl hlb
  have hdm := digit_any m hm hmb
  obtain ⟨cs, hcs⟩ : ∃ cs : List Value, cs.toArray = arr32 l := ⟨(arr32 l).toList, by simp⟩
  obtain ⟨ds, hds⟩ : ∃ ds : List Value, ds.toArray = arr32 m := ⟨(arr32 m).toList, by simp⟩
  rw [← hcs] at hdl ⊢
  rw [← hds] at hdm ⊢
  have hcl : cs.length = 32 := by have := congrArg Array.size hcs; rw [arr32_size l (by omega)] at this; simpa using this
  have hdl2 : ds.length = 32 := by have := congrArg Array.size hds; rw [arr32_size m (by omega)] at this; simpa using this
  have hi1 : (Tryd.prog.info? 26).map (·.size) = some cs.length := by rw [hcl]; kernel_rfl
  have hi2 : (Tryd.prog.info? 26).map (·.size) = some ds.length := by rw [hdl2]; kernel_rfl
  have hu26 := Tryd.underlying26
  have HDL := Lib.hid hdl
  have HDM := Lib.hid hdm
  have HCL := Lib.hid hcl
  have HDL2 := Lib.hid hdl2
  clear hdl hdm hcs hds hout hcl hdl2
  go_enter Tryd.func80, Tryd.ntmps80
  go_upto_region 1 with (fail)
  refine gen_world (P := fun W => Code.wp _ _ _ _ W) (I := fun W => Below w.heap.size w W ∧ Has W w.heap.size 26 cs.toArray ∧ Has W (w.heap.size + 1) 26 ds.toArray) _ ⟨((Below.refl _ w).alloc (Nat.le_refl _) _).alloc (by simp) _, (Has.fresh_at _ _ _ _ rfl).alloc _, Has.fresh_at _ _ _ _ (by simp)⟩ ?_
  rintro W ⟨hB, hL, hM⟩
  have hlt1 := hL.lt
  have hlt2 := hM.lt
  have hr1 : W.rangeAt w.heap.size 0 cs := fun j u hj => by rw [hL.cell, Nat.zero_add]; simpa using hj
  have hr2 : W.rangeAt (w.heap.size + 1) 0 ds := fun j u hj => by rw [hM.cell, Nat.zero_add]; simpa using hj
  have HR1 := Lib.hid hr1
  have HR2 := Lib.hid hr2
  have HB := Lib.hid hB
  clear hB hL hM hr1 hr2
  go_wp2
  go_step3
  go_wp2
  go_step3
  go_wp2
  go_loopw [5, 8] (fun nv iv wr => ∃ i : Nat, i ≤ 32 ∧ nv = .int .i64 (2 * (i : Int)) ∧ iv = .int .i64 (i : Int) ∧ Hid (alikeF l m (64 - 2 * i) (2 * i) = out) ∧ Below W.heap.size W wr) (fun _ iv _ => 32 - (intOf iv).toNat)
  case atStart => exact ⟨0, Nat.zero_le _, rfl, rfl, Lib.hid HOut.out.symm, Below.refl _ _⟩
  case round =>
    obtain ⟨i, hi, rfl, rfl, HA, hB⟩ := hrel
    by_cases hlt : i < 32
    · have HBi := Lib.hid hB
      clear hB
      go_wp2
      go_loopw [5, 11] (fun nv kv wr => ∃ k : Nat, k ≤ 2 ∧ nv = .int .i64 (2 * (i : Int) + (k : Int)) ∧ kv = .int .i64 (k : Int) ∧ Hid (alikeF l m (64 - (2 * i + k)) (2 * i + k) = out) ∧ Below W.heap.size W wr) (fun _ kv _ => 2 - (intOf kv).toNat)
      case atStart => exact ⟨0, Nat.zero_le _, by simp, rfl, HA, HBi.out⟩
      case round =>
        obtain ⟨k, hk, rfl, rfl, HK, hB⟩ := hrel
        by_cases hk2 : k < 2
        · have hx1 : 2 * i + k < 64 := by omega
          have hstep : alikeF l m (64 - (2 * i + k)) (2 * i + k) = if nib l (2 * i + k) = nib m (2 * i + k) then alikeF l m (64 - (2 * i + (k + 1))) (2 * i + (k + 1)) else 2 * i + k := by
            rw [show 64 - (2 * i + k) = (64 - (2 * i + (k + 1))) + 1 by omega, alikeF]
            rfl
          rw [HK.out] at hstep
          have HStep := Lib.hid hstep
          have hb0 := hB
          have hrs : ∀ V, Below wr.heap.size wr V → V.rangeAt w.heap.size 0 cs ∧ V.rangeAt (w.heap.size + 1) 0 ds := fun V hV => ⟨fun j u hj => ((hb0.trans (hV.mono hb0.size)).cell hlt1).trans (HR1.out j u hj), fun j u hj => ((hb0.trans (hV.mono hb0.size)).cell hlt2).trans (HR2.out j u hj)⟩
          have HLoad1 : Hid (∀ w', (∃ V : {V : World // Below wr.heap.size wr V}, w' = V.1) → ∀ j u, cs.toArray[j]? = some u → w'.cell? ((⟨w.heap.size, 0, none⟩ : Addr).add j) = some u) := Lib.hid fun V hV j u hj => by obtain ⟨⟨V, hV⟩, rfl⟩ := hV; rw [Addr.add_lit]; exact (hrs V hV).1 j u (by rwa [List.getElem?_toArray] at hj)
          have HLoad2 : Hid (∀ w', (∃ V : {V : World // Below wr.heap.size wr V}, w' = V.1) → ∀ j u, ds.toArray[j]? = some u → w'.cell? ((⟨w.heap.size + 1, 0, none⟩ : Addr).add j) = some u) := Lib.hid fun V hV j u hj => by obtain ⟨⟨V, hV⟩, rfl⟩ := hV; rw [Addr.add_lit]; exact (hrs V hV).2 j u (by rwa [List.getElem?_toArray] at hj)
          have HI1 : Hid ((Tryd.prog.info? 26).map (·.size) = some cs.toArray.size) := Lib.hid (by rw [List.size_toArray]; exact hi1)
          have HI2 : Hid ((Tryd.prog.info? 26).map (·.size) = some ds.toArray.size) := Lib.hid (by rw [List.size_toArray]; exact hi2)
          clear hrs
          have hd1 := fun V => HDL.out (2 * i + k) hx1 V
          have hd2 := fun V => HDM.out (2 * i + k) hx1 V
          have e : ((2 * i + k : Nat) : Int) = 2 * (i : Int) + (k : Int) := by omega
          rw [e] at hd1 hd2
          have hw1 : IntKind.i64.wrap (2 * (i : Int)) = 2 * (i : Int) := IntWalk.i64_in _ (by omega)
          have hw2 : IntKind.i64.wrap (2 * (i : Int) + (k : Int)) = 2 * (i : Int) + (k : Int) := IntWalk.i64_in _ (by omega)
          have HD1 := Lib.hid hd1
          have HD2 := Lib.hid hd2
          have HB2 := Lib.hid hB
          clear hB hb0 hstep e hd1 hd2
          generalize hnl : nib l (2 * i + k) = x at *
          generalize hnm : nib m (2 * i + k) = y at *
          go_upto_region 8 with (fail)
          haveI hNe : Nonempty {V : World // Below wr.heap.size wr V} := ⟨⟨wr, Below.refl _ _⟩⟩
          have eg : ∀ args w, (callFunc 65 args).run Tryd.prog w = .ok (.enter 65 args) w := enters_of Tryd.func65 (by kernel_rfl) rfl
          have HQ1 : Hid (∀ w', (∃ V : {V : World // Below wr.heap.size wr V}, w' = V.1) → Calls Tryd.prog 65 #[.agg cs.toArray, .int .i64 (2 * (i : Int) + (k : Int))] w' fun e w'' => e = .returned (.int .u8 (x : Int)) ∧ ∃ V : {V : World // Below wr.heap.size wr V}, w'' = V.1) := Lib.hid fun w' hw' => by obtain ⟨⟨V, hV⟩, rfl⟩ := hw'; exact (HD1.out w').mono fun _ w'' ⟨he, hb⟩ => ⟨he, ⟨w'', hV.trans (hb.mono hV.size)⟩, rfl⟩
          have HQ2 : Hid (∀ w', (∃ V : {V : World // Below wr.heap.size wr V}, w' = V.1) → Calls Tryd.prog 65 #[.agg ds.toArray, .int .i64 (2 * (i : Int) + (k : Int))] w' fun e w'' => e = .returned (.int .u8 (y : Int)) ∧ ∃ V : {V : World // Below wr.heap.size wr V}, w'' = V.1) := Lib.hid fun w' hw' => by obtain ⟨⟨V, hV⟩, rfl⟩ := hw'; exact (HD2.out w').mono fun _ w'' ⟨he, hb⟩ => ⟨he, ⟨w'', hV.trans (hb.mono hV.size)⟩, rfl⟩
          refine wp_region_quietC (fun w' => ∃ V : {V : World // Below wr.heap.size wr V}, w' = V.1) (by kernel_rfl) (by kernel_rfl) ⟨⟨wr.drew, (Below.refl _ wr).drew⟩, rfl⟩ ?_
          go_big_quiet_want
          (with_reducible refine quietC_load ⟨w.heap.size, 0, none⟩ cs.toArray _ HLoad1.out hu26 HI1.out ?l1 ?l2 ?_); (case l1 => rfl); (case l2 => rfl)
          simp only [Act.put, List.setIfInBounds_toArray, List.set_cons_succ, List.set_cons_zero]
          go_big_quiet_on
          repeat (go_big_quiet_step (fail))
          go_big_quiet_want
          refine quietC_value (.int .i64 (2 * (i : Int))) (fun w => by go_simp) ?_
          simp only [Act.put, List.setIfInBounds_toArray, List.set_cons_succ, List.set_cons_zero]
          go_big_quiet_on
          go_big_quiet_step (fail)
          go_big_quiet_want
          refine quietC_value (.int .i64 (2 * (i : Int) + (k : Int))) (fun w => by go_simp) ?_
          simp only [Act.put, List.setIfInBounds_toArray, List.set_cons_succ, List.set_cons_zero]
          go_big_quiet_on
          go_big_quiet_want
          refine quietC_call2 eg (.agg cs.toArray) (.int .i64 (2 * (i : Int) + (k : Int))) (.int .u8 (x : Int)) rfl rfl HQ1.out ?_
          simp only [Act.put, List.setIfInBounds_toArray, List.set_cons_succ, List.set_cons_zero]
          go_big_quiet_on
          go_big_quiet_want
          (with_reducible refine quietC_load ⟨w.heap.size + 1, 0, none⟩ ds.toArray _ HLoad2.out hu26 HI2.out ?l3 ?l4 ?_); (case l3 => rfl); (case l4 => rfl)
          simp only [Act.put, List.setIfInBounds_toArray, List.set_cons_succ, List.set_cons_zero]
          go_big_quiet_on
          go_big_quiet_step (fail)
          go_big_quiet_want
          refine quietC_value (.int .i64 (2 * (i : Int))) (fun w => by go_simp) ?_
          simp only [Act.put, List.setIfInBounds_toArray, List.set_cons_succ, List.set_cons_zero]
          go_big_quiet_on
          go_big_quiet_step (fail)
          go_big_quiet_want
          refine quietC_value (.int .i64 (2 * (i : Int) + (k : Int))) (fun w => by go_simp) ?_
          simp only [Act.put, List.setIfInBounds_toArray, List.set_cons_succ, List.set_cons_zero]
          go_big_quiet_on
          go_big_quiet_want
          refine quietC_call2 eg (.agg ds.toArray) (.int .i64 (2 * (i : Int) + (k : Int))) (.int .u8 (y : Int)) rfl rfl HQ2.out ?_
          simp only [Act.put, List.setIfInBounds_toArray, List.set_cons_succ, List.set_cons_zero]
          go_big_quiet_on
          by_cases hxy : x = y
          · subst hxy
            go_big_quiet_want
            refine quietC_value (.bool false) (fun w => by go_simp) ?_
            simp only [Act.put, List.setIfInBounds_toArray, List.set_cons_succ, List.set_cons_zero]
            go_big_quiet_on
            refine wpQuiet_nil ?_
            rintro _ ⟨⟨W2, hW2⟩, rfl⟩
            have HB3 := Lib.hid (HB2.out.trans (hW2.mono HB2.out.size))
            have HN := Lib.hid (HStep.out.trans (if_pos rfl))
            clear hW2
            go_wp2
            go_roundw
            case rel => exact ⟨k + 1, by omega, by go_num, by go_num, Lib.hid HN.out.symm, HB3.out⟩
            case measure => simp [intOf]; omega
          · have hxy2 : ¬ (x : Int) = (y : Int) := by omega
            go_big_quiet_want
            refine quietC_value (.bool true) (fun w => by go_simp) ?_
            simp only [Act.put, List.setIfInBounds_toArray, List.set_cons_succ, List.set_cons_zero]
            go_big_quiet_on
            refine wpQuiet_nil ?_
            rintro _ ⟨⟨W2, hW2⟩, rfl⟩
            have HB3 := Lib.hid (HB.out.trans ((HB2.out.trans (hW2.mono HB2.out.size)).mono HB.out.size))
            have HN := Lib.hid (HStep.out.trans (if_neg hxy))
            clear hW2
            go_wp2
            rw [Exit.noGoto_ret]
            go_ret
            refine ⟨?_, HB3.out⟩
            rw [HN.out]
            exact congrArg (fun z => Ending.returned (.int .i64 z)) (by omega)
        · obtain rfl : k = 2 := by omega
          have HB3 := Lib.hid hB
          clear hB
          go_wp2
          go_roundw
          case rel => exact ⟨i + 1, by omega, by go_num, by go_num, by have := HK.out; exact Lib.hid this, HB3.out⟩
          case measure => simp [intOf]; omega
    · obtain rfl : i = 32 := by omega
      have HB3 := Lib.hid hB
      clear hB
      have HN : Hid (64 = out) := Lib.hid HA.out
      go_wp2
      rw [Exit.noGoto_ret]
      go_ret
      refine ⟨?_, HB.out.trans (HB3.out.mono HB.out.size)⟩
      rw [← HN.out]
      rfl
end Go.Proofs.YtffdkniahdekjaaDoor
end
