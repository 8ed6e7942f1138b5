/-
  YtillghidmfglpaaDoorIter
  · YtillghidmfglpaaDoorState
  · YtillghidmfglpaaDoorWrite
  · YtillghidmfglpaaDoorUnhex
  · YtillghidmfglpaaDoorDigit
  · YtillghidmfglpaaDoorHex
  · YtillghidmfglpaaDoorBegins
  · YtillghidmfglpaaDoorLeaf
  · YtillghidmfglpaaDoorPair
  · YtillghidmfglpaaDoorHalf
  · YtillghidmfglpaaDoorCut
  · YtillghidmfglpaaDoorList
  · YtillghidmfglpaaDoorFind
  · YtillghidmfglpaaDoorKeys
-/
import Derived.Test.YtillghidmfglpaaDoorMDgb
import Derived.Laws.IdiomStrings
import Derived.Deep.RegionHeld3
import Derived.Lib.ItoaNum
import Derived.IntWalk
import Derived.BigQuiet
import Derived.Shelf.SlicesQ.Load
import Derived.RangeFuncGives
import Derived.RangeFuncKeeps
import Derived.Sort.MapsRangeIn
import Derived.Sort.KeysCollected
import Derived.OwnWalkIn
import Derived.TacticsInMore
import Derived.RegionIn
import Derived.LoopNIn
import Derived.LoopIn
import Derived.Shelf.Abstract
section
namespace Go.Proofs.YtillghidmfglpaaDoor
open Go.RowKit Go.Hoar
/-- Two results, the first an array or a struct in a block of its own. -/
theorem results_row_tmp {fn : Func} {p u : Tmp} {ty : TypeId} (h : fn.results = #[.cell p ty, .tmp u]) (tmps : Array Value) (w : World) (g : Nat) (t : TypeId) (cs : Array Value) (fr : Nat × Nat) (d : TypeDesc)
    (hp : tmps.getD p undef = .pointer (some ⟨g, 0, none⟩)) (hg : w.heap[g]? = some (.cells cs t fr))
    (hd : (match d with | .struct _ | .array _ _ => true | _ => false) = true) (hu : Tryd.prog.underlying ty = some d) (hi : (Tryd.prog.info? ty).map (·.size) = some cs.size) :
    (results fn tmps).run Tryd.prog w = .ok (.tuple #[.agg cs, tmps.getD u undef]) w := by
  have hp' : tmps[p]?.getD undef = .pointer (some ⟨g, 0, none⟩) := by simpa using hp
  simp [results, h, hp', asAddr, run_loadVar_row w g t ty cs fr d hg hu (by cases d <;> simp_all) hi]
/-- Can a state be that of bytes, as far as its numbers tell? -/
def Sound (n : Nat) (long : Int) : Prop := 0 ≤ long ∧ long ≤ 1099511627776 ∧ (n : Int) = long % 64
instance (n : Nat) (long : Int) : Decidable (Sound n long) := by unfold Sound; infer_instance
set_option maxRecDepth 100000 in
set_option maxHeartbeats 1000000 in
theorem sound_any (h : List Nat) (a : Option Addr) (n c : Nat) (long : Int) (w : World) (hh : h.length = 8) :
    Calls Tryd.prog 61 #[.agg (stateCells h (.slice a n c) long)] w fun e w' => e = .returned (.bool (decide (Sound n long))) ∧ Below w.heap.size w w' := by
  obtain ⟨h0, h1, h2, h3, h4, h5, h6, h7, rfl⟩ := len8 hh
  have hs : stateCells [h0, h1, h2, h3, h4, h5, h6, h7] (.slice a n c) long = #[.int .u32 (h0 : Int), .int .u32 (h1 : Int), .int .u32 (h2 : Int), .int .u32 (h3 : Int), .int .u32 (h4 : Int), .int .u32 (h5 : Int), .int .u32 (h6 : Int), .int .u32 (h7 : Int), .slice a n c, .int .i64 long] := rfl
  rw [hs]
  clear hs
  by_cases g0 : 0 ≤ long
  · by_cases g1 : long ≤ 1099511627776
    · by_cases g2 : (n : Int) = long % 64
      · have e : decide (Sound n long) = true := decide_eq_true ⟨g0, g1, g2⟩
        rw [e]
        go_enter Tryd.func61, Tryd.ntmps61
        go_wp2
        go_ret
        exact ⟨rfl, (Below.refl _ _).alloc (Nat.le_refl _) _⟩
      · have e : decide (Sound n long) = false := decide_eq_false fun k => g2 k.2.2
        rw [e]
        go_enter Tryd.func61, Tryd.ntmps61
        go_wp2
        go_ret
        exact ⟨by simp [g2], (Below.refl _ _).alloc (Nat.le_refl _) _⟩
    · have e : decide (Sound n long) = false := decide_eq_false fun k => g1 k.2.1
      rw [e]
      go_enter Tryd.func61, Tryd.ntmps61
      go_wp2
      go_ret
      exact ⟨rfl, (Below.refl _ _).alloc (Nat.le_refl _) _⟩
  · have e : decide (Sound n long) = false := decide_eq_false fun k => g0 k.1
    rw [e]
    go_enter Tryd.func61, Tryd.ntmps61
    go_wp2
    go_ret
    exact ⟨rfl, (Below.refl _ _).alloc (Nat.le_refl _) _⟩
set_option maxRecDepth 100000 in
set_option maxHeartbeats 2000000 in
theorem done_any (h rb : List Nat) (ra : Option Addr) (rc : Nat) (long : Int) (w : World) (hh : h.length = 8) (hw : Sha.Words h) (hr : PartOk w ra rc rb) (hrb : Sha.Bytes rb) (hc : ConstAt w) (out : List Nat) (hout : Hid (out = Sha.ended h rb long.toNat)) :
    Calls Tryd.prog 22 #[.agg (stateCells h (.slice ra rb.length rc) long)] w fun e w' => e = .returned (.tuple (if Sound rb.length long then #[.agg (arr32 out), .int .i64 0] else #[.agg (arr32 []), .int .i64 14])) ∧ Below w.heap.size w w' := by
  have HI := Lib.hid (state_info h (.slice ra rb.length rc) long hh)
  by_cases hs : Sound rb.length long
  · rw [if_pos hs]
    have hd : decide (Sound rb.length long) = true := decide_eq_true hs
    obtain ⟨g0, g1, g2⟩ := hs
    obtain ⟨ln, rfl⟩ := Int.eq_ofNat_of_zero_le g0
    have hrl : rb.length ≤ 140737488355000 := by omega
    obtain ⟨H, hH⟩ : ∃ H, H = Sha.all h (rb ++ Sha.pad ln) := ⟨_, rfl⟩
    have hH8 : H.length = 8 := by rw [hH, Sha.all, Sha.takes_length, hh]
    have hHw : Sha.Words H := by rw [hH]; exact Sha.takes_words hw _ _
    have hfin : out = Sha.bytes H := by rw [hout.out, hH]; exact Eq.refl _
    have HH := Lib.hid hH
    have HF := Lib.hid hfin
    clear hH hfin hout
    have hbl : (Sha.bytes H).length = 32 := by rw [bytes_length, hH8]
    have HI32 := Lib.hid (arr32_info (Sha.bytes H) (by omega))
    have HS32 := Lib.hid ((arr32_size [] (by simp)).trans (arr32_size (Sha.bytes H) (by omega)).symm)
    go_enter Tryd.func22, Tryd.ntmps22
    go_upto_region 1 with (fail)
    refine gen_world (P := fun W => Code.wp _ _ _ _ W) (I := fun W => Below w.heap.size w W ∧ Has W w.heap.size 33 (stateCells h (.slice ra rb.length rc) ln) ∧ Has W (w.heap.size + 1) 26 (arr32 [])) _ ⟨((Below.refl _ w).alloc (Nat.le_refl _) _).alloc (by simp) _, (Has.fresh_at _ _ _ _ rfl).alloc _, Has.fresh_at _ _ _ _ (by simp)⟩ ?_
    rintro W ⟨hB, hS, hR⟩
    have HP := Lib.hid (hr.below hB)
    have HC := Lib.hid (hc.below hB rfl)
    have hrow := hS.row
    have HRow := Lib.hid hrow
    have HS := Lib.hid hS
    have HB := Lib.hid hB
    have HR := Lib.hid hR
    clear hB hS hR hrow hr hc
    go_wp2_with (first
      | ((with_reducible refine arm_load (w := W) ⟨w.heap.size, 0, none⟩ _ _ HRow.out Tryd.underlying33 HI.out ?h1 ?h2 ?_); (case h1 => rfl); (case h2 => rfl))
      | (go_at_call 61; refine (sound_any h ra rb.length rc ln W hh).mono ?_; rintro e w1 ⟨rfl, hbel⟩; rw [hd]; have HB1 := Lib.hid hbel; have HS1 := Lib.hid (HS.out.below hbel HS.out.lt).row; have HP1 := Lib.hid (HP.out.below hbel); have HC1 := Lib.hid (HC.out.below hbel rfl); have HR1 := Lib.hid (HR.out.below hbel HR.out.lt); clear hbel)
      | ((with_reducible refine arm_load (w := w1) ⟨w.heap.size, 0, none⟩ _ _ HS1.out Tryd.underlying33 HI.out ?h3 ?h4 ?_); (case h3 => rfl); (case h4 => rfl))
      | (go_at_call 57; refine (digest_any h rb ra rc ln w1 hh hw HP1.out hrb hrl (by omega) HC1.out H hH8 hHw HH).mono ?_; rintro e w3 ⟨rfl, hbel3⟩; have HB3 := Lib.hid hbel3; have HR3 := Lib.hid (HR1.out.below hbel3 HR1.out.lt); clear hbel3)
      | ((with_reducible refine arm_store (w.heap.size + 1) _ _ _ HR3.out HS32.out HI32.out (arr32_one _) ?h5 ?h6 ?_); (case h5 => rfl); (case h6 => rfl)))
    have hw1 : W.heap.size ≤ w1.heap.size := HB1.out.size
    have hwW : w.heap.size ≤ W.heap.size := HB.out.size
    exact bodyPost_ret (results_row_tmp rfl _ _ (w.heap.size + 1) 26 (arr32 (Sha.bytes H)) (0, 0) _ rfl HR3.out.setRow rfl Tryd.underlying26 HI32.out) rfl ⟨by rw [HF.out]; exact Eq.refl _, below_setRow ((HB.out.trans (HB1.out.mono hwW)).trans (HB3.out.mono (by omega))) (by omega) _⟩
  · rw [if_neg hs]
    have hd : decide (Sound rb.length long) = false := decide_eq_false hs
    clear hs hout hrb hr hc
    have HI32 := Lib.hid (arr32_info [] (by simp))
    go_enter Tryd.func22, Tryd.ntmps22
    go_upto_region 1 with (fail)
    refine gen_world (P := fun W => Code.wp _ _ _ _ W) (I := fun W => Below w.heap.size w W ∧ Has W w.heap.size 33 (stateCells h (.slice ra rb.length rc) long) ∧ Has W (w.heap.size + 1) 26 (arr32 [])) _ ⟨((Below.refl _ w).alloc (Nat.le_refl _) _).alloc (by simp) _, (Has.fresh_at _ _ _ _ rfl).alloc _, Has.fresh_at _ _ _ _ (by simp)⟩ ?_
    rintro W ⟨hB, hS, hR⟩
    have hrow := hS.row
    have HRow := Lib.hid hrow
    have HB := Lib.hid hB
    have HR := Lib.hid hR
    clear hB hS hR hrow
    go_wp2_with (first
      | ((with_reducible refine arm_load (w := W) ⟨w.heap.size, 0, none⟩ _ _ HRow.out Tryd.underlying33 HI.out ?h1 ?h2 ?_); (case h1 => rfl); (case h2 => rfl))
      | (go_at_call 61; refine (sound_any h ra rb.length rc long W hh).mono ?_; rintro e w1 ⟨rfl, hbel⟩; rw [hd]; have HB1 := Lib.hid hbel; have HR1 := Lib.hid (HR.out.below hbel HR.out.lt); clear hbel)
      | ((with_reducible refine arm_store (w.heap.size + 1) (arr32 []) 26 (arr32 []) HR1.out rfl HI32.out (arr32_one _) ?h5 ?h6 ?_); (case h5 => rfl); (case h6 => rfl)))
    have hwW : w.heap.size ≤ W.heap.size := HB.out.size
    exact bodyPost_ret (results_row_tmp rfl _ _ (w.heap.size + 1) 26 (arr32 []) (0, 0) _ rfl HR1.out.setRow rfl Tryd.underlying26 HI32.out) rfl ⟨rfl, below_setRow (HB.out.trans (HB1.out.mono hwW)) (by omega) _⟩
end Go.Proofs.YtillghidmfglpaaDoor
end
section
namespace Go.Proofs.YtillghidmfglpaaDoor
open Go.RowKit Go.Hoar
theorem state_ninth {h : List Nat} {r : Value} {l : Int} (hh : h.length = 8) : (stateCells h r l)[9]? = some (.int .i64 l) := by
  obtain ⟨h0, h1, h2, h3, h4, h5, h6, h7, rfl⟩ := len8 hh
  exact Eq.refl _
theorem zero_info : (Tryd.prog.info? 33).map (·.size) = some zeroState.size := by kernel_rfl
theorem zero_one : zeroState.all (·.oneCell') = true := state_one [0, 0, 0, 0, 0, 0, 0, 0] (.slice none 0 0) 0 rfl
set_option maxRecDepth 100000 in
set_option maxHeartbeats 2000000 in
/-- A state that can be none of bytes. -/
theorem write_wrong (h rb bs : List Nat) (ra a : Option Addr) (rc c : Nat) (long : Int) (w : World) (hh : h.length = 8) (hs : ¬ Sound rb.length long) :
    Calls Tryd.prog 20 #[.agg (stateCells h (.slice ra rb.length rc) long), .slice a bs.length c] w fun e w' => e = .returned (.tuple #[.agg zeroState, .int .i64 14]) ∧ Below w.heap.size w w' := by
  have HI := Lib.hid (state_info h (.slice ra rb.length rc) long hh)
  have hd : decide (Sound rb.length long) = false := decide_eq_false hs
  have HI10 := Lib.hid zero_info
  clear hs
  go_enter Tryd.func20, Tryd.ntmps20
  go_upto_region 1 with (fail)
  refine gen_world (P := fun W => Code.wp _ _ _ _ W) (I := fun W => Below w.heap.size w W ∧ Has W w.heap.size 33 (stateCells h (.slice ra rb.length rc) long) ∧ Has W (w.heap.size + 1) 33 zeroState) _ ⟨((Below.refl _ w).alloc (Nat.le_refl _) _).alloc (by simp) _, (Has.fresh_at _ _ _ _ rfl).alloc _, Has.fresh_at _ _ _ _ (by simp)⟩ ?_
  rintro W ⟨hB, hS, hR⟩
  have hrow := hS.row
  have HRow := Lib.hid hrow
  have HB := Lib.hid hB
  have HR := Lib.hid hR
  clear hB hS hR hrow
  go_wp2_with (first
    | ((with_reducible refine arm_load (w := W) ⟨w.heap.size, 0, none⟩ _ _ HRow.out Tryd.underlying33 HI.out ?h1 ?h2 ?_); (case h1 => rfl); (case h2 => rfl))
    | (go_at_call 61; refine (sound_any h ra rb.length rc long W hh).mono ?_; rintro e w1 ⟨rfl, hbel⟩; rw [hd]; have HB1 := Lib.hid hbel; have HR1 := Lib.hid (HR.out.below hbel HR.out.lt); clear hbel)
    | ((with_reducible refine arm_store (w.heap.size + 1) zeroState 33 zeroState HR1.out rfl HI10.out zero_one ?h5 ?h6 ?_); (case h5 => rfl); (case h6 => rfl)))
  have hwW : w.heap.size ≤ W.heap.size := HB.out.size
  exact bodyPost_ret (results_row_tmp rfl _ _ (w.heap.size + 1) 33 zeroState (0, 0) _ rfl HR1.out.setRow rfl Tryd.underlying33 HI10.out) rfl ⟨rfl, below_setRow (HB.out.trans (HB1.out.mono hwW)) (by omega) _⟩
set_option maxRecDepth 100000 in
set_option maxHeartbeats 2000000 in
/-- More bytes than a digest may have. -/
theorem write_long (h rb bs : List Nat) (ra a : Option Addr) (rc c : Nat) (long : Int) (w : World) (hh : h.length = 8) (hs : Sound rb.length long) (hm : bs.length ≤ maxLen) (hl : 1099511627776 - long < bs.length) :
    Calls Tryd.prog 20 #[.agg (stateCells h (.slice ra rb.length rc) long), .slice a bs.length c] w fun e w' => e = .returned (.tuple #[.agg zeroState, .int .i64 11]) ∧ Below w.heap.size w w' := by
  have HI := Lib.hid (state_info h (.slice ra rb.length rc) long hh)
  have hd : decide (Sound rb.length long) = true := decide_eq_true hs
  have HI10 := Lib.hid zero_info
  obtain ⟨g0, g1, _⟩ := hs
  unfold maxLen at hm
  go_enter Tryd.func20, Tryd.ntmps20
  go_upto_region 1 with (fail)
  refine gen_world (P := fun W => Code.wp _ _ _ _ W) (I := fun W => Below w.heap.size w W ∧ Has W w.heap.size 33 (stateCells h (.slice ra rb.length rc) long) ∧ Has W (w.heap.size + 1) 33 zeroState) _ ⟨((Below.refl _ w).alloc (Nat.le_refl _) _).alloc (by simp) _, (Has.fresh_at _ _ _ _ rfl).alloc _, Has.fresh_at _ _ _ _ (by simp)⟩ ?_
  rintro W ⟨hB, hS, hR⟩
  have hrow := hS.row
  have HRow := Lib.hid hrow
  have HB := Lib.hid hB
  have HR := Lib.hid hR
  have HS := Lib.hid hS
  have H9 := Lib.hid (state_ninth (r := .slice ra rb.length rc) (l := long) hh)
  clear hB hS hR hrow
  go_wp2_with (first
    | ((with_reducible refine arm_load (w := W) ⟨w.heap.size, 0, none⟩ _ _ HRow.out Tryd.underlying33 HI.out ?h1 ?h2 ?_); (case h1 => rfl); (case h2 => rfl))
    | (go_at_call 61; refine (sound_any h ra rb.length rc long W hh).mono ?_; rintro e w1 ⟨rfl, hbel⟩; rw [hd]; have HB1 := Lib.hid hbel; have HR1 := Lib.hid (HR.out.below hbel HR.out.lt); have c9 := ((HS.out.below hbel HS.out.lt).cell 9).trans H9.out; clear hbel)
    | ((with_reducible refine arm_store (w.heap.size + 1) zeroState 33 zeroState HR1.out rfl HI10.out zero_one ?h5 ?h6 ?_); (case h5 => rfl); (case h6 => rfl)))
  have hwW : w.heap.size ≤ W.heap.size := HB.out.size
  exact bodyPost_ret (results_row_tmp rfl _ _ (w.heap.size + 1) 33 zeroState (0, 0) _ rfl HR1.out.setRow rfl Tryd.underlying33 HI10.out) rfl ⟨rfl, below_setRow (HB.out.trans (HB1.out.mono hwW)) (by omega) _⟩
set_option maxRecDepth 100000 in
set_option maxHeartbeats 2000000 in
theorem write_any (h rb bs : List Nat) (ra a : Option Addr) (rc c : Nat) (long : Int) (w : World) (hh : h.length = 8) (hw : Sha.Words h) (hr : PartOk w ra rc rb) (hb : PartOk w a c bs) (hrb : Sha.Bytes rb) (hbs : Sha.Bytes bs)
    (hs : Sound rb.length long) (hl : bs.length ≤ 1099511627776 - long) (hcap : CapOk a bs.length c) (hc : ConstAt w) (al : List Nat) (hal : Hid (al = rb ++ bs)) :
    Calls Tryd.prog 20 #[.agg (stateCells h (.slice ra rb.length rc) long), .slice a bs.length c] w fun e w' => ∃ a' c', e = .returned (.tuple #[.agg (stateCells (Sha.all h al) (.slice a' (restOf al).length c') (long + bs.length)), .int .i64 0]) ∧ w'.ownsRow w.heap.size 5 1 (.slice a' (restOf al).length c') (restOf al).length ((restOf al).map BV) ∧ Below w.heap.size w w' := by
  have HI := Lib.hid (state_info h (.slice ra rb.length rc) long hh)
  have hd : decide (Sound rb.length long) = true := decide_eq_true hs
  obtain ⟨g0, g1, g2⟩ := hs
  have h8 : (Sha.all h al).length = 8 := by rw [Sha.all, Sha.takes_length, hh]
  have hlen : rb.length + bs.length ≤ 140737488355328 := by omega
  go_enter Tryd.func20, Tryd.ntmps20
  go_upto_region 1 with (fail)
  refine gen_world (P := fun W => Code.wp _ _ _ _ W) (I := fun W => Below w.heap.size w W ∧ Has W w.heap.size 33 (stateCells h (.slice ra rb.length rc) long) ∧ Has W (w.heap.size + 1) 33 zeroState) _ ⟨((Below.refl _ w).alloc (Nat.le_refl _) _).alloc (by simp) _, (Has.fresh_at _ _ _ _ rfl).alloc _, Has.fresh_at _ _ _ _ (by simp)⟩ ?_
  rintro W ⟨hB, hS, hR⟩
  have HP := Lib.hid (hr.below hB)
  have HQ := Lib.hid (hb.below hB)
  have HC := Lib.hid (hc.below hB rfl)
  have HRow := Lib.hid hS.row
  have HB := Lib.hid hB
  have HR := Lib.hid hR
  have HS := Lib.hid hS
  have H9 := Lib.hid (state_ninth (r := .slice ra rb.length rc) (l := long) hh)
  clear hB hS hR hr hb hc
  go_wp2_with (first
    | ((with_reducible refine arm_load (w := W) ⟨w.heap.size, 0, none⟩ _ _ HRow.out Tryd.underlying33 HI.out ?h1 ?h2 ?_); (case h1 => rfl); (case h2 => rfl))
    | (go_at_call 61; refine (sound_any h ra rb.length rc long W hh).mono ?_; rintro e w1 ⟨rfl, hbel⟩; rw [hd]; have HB1 := Lib.hid hbel; have HR1 := Lib.hid (HR.out.below hbel HR.out.lt); have c9 := ((HS.out.below hbel HS.out.lt).cell 9).trans H9.out; have HRow1 := Lib.hid (HS.out.below hbel HS.out.lt).row; have HP1 := Lib.hid (HP.out.below hbel); have HQ1 := Lib.hid (HQ.out.below hbel); have HC1 := Lib.hid (HC.out.below hbel rfl); clear hbel)
    | ((with_reducible refine arm_load (w := w1) ⟨w.heap.size, 0, none⟩ _ _ HRow1.out Tryd.underlying33 HI.out ?h3 ?h4 ?_); (case h3 => rfl); (case h4 => rfl))
    | (go_at_call 58; refine (written_any h rb bs ra a rc c long w1 hh hw HP1.out HQ1.out hrb hbs hlen hcap g0 (by omega) HC1.out al hal).mono ?_; rintro e w2 ⟨a', c', rfl, hown, hbel2⟩; have HB2 := Lib.hid hbel2; have HO2 := Lib.hid hown; have HR2 := Lib.hid (HR1.out.below hbel2 HR1.out.lt); have HI2 := Lib.hid (state_info (Sha.all h al) (.slice a' (restOf al).length c') (long + bs.length) h8); have HS2 := Lib.hid (state_size (Sha.all h al) (.slice a' (restOf al).length c') (long + bs.length) h8).symm; have HO1 := Lib.hid (state_one (Sha.all h al) (.slice a' (restOf al).length c') (long + bs.length) rfl); clear hbel2 hown)
    | ((with_reducible refine arm_store (w.heap.size + 1) _ _ _ HR2.out HS2.out HI2.out HO1.out ?h5 ?h6 ?_); (case h5 => rfl); (case h6 => rfl)))
  have hwW : w.heap.size ≤ W.heap.size := HB.out.size
  have hw1 : w.heap.size + 1 < w1.heap.size := HR1.out.lt
  have hne1 : Value.ownBlock (.slice a' (restOf al).length c') ≠ some (w.heap.size + 1) := fun h => by have := (HO2.out.lt _ h).1; omega
  have hgr : w2.grownBy (w2.setRow (w.heap.size + 1) (stateCells (Sha.all h al) (.slice a' (restOf al).length c') (long + bs.length))) (some (w.heap.size + 1)) := ⟨rfl, rfl, rfl, by simp, fun k _ hk => setRow_heap_other _ _ _ _ (fun e => hk (by rw [e]))⟩
  exact bodyPost_ret (results_row_tmp rfl _ _ (w.heap.size + 1) 33 _ (0, 0) _ rfl HR2.out.setRow rfl Tryd.underlying33 HI2.out) rfl ⟨a', c', Eq.refl _, own_base (HO2.out.kept hgr (.inr hne1)) (by omega), below_setRow ((HB.out.trans (HB1.out.mono hwW)).trans (HB2.out.mono (by omega))) (by omega) _⟩
end Go.Proofs.YtillghidmfglpaaDoor
end
section
namespace Go.Proofs.YtillghidmfglpaaDoor
open Go.RowKit Go.Hoar
theorem shl_or : ∀ x y : Fin 16, bits BinOp.or IntKind.u8 ((x.val : Int) * 16) (y.val : Int) = ((x.val * 16 + y.val : Nat) : Int) := by decide +kernel
/-- The first k bytes of the digits of a text. -/
def packK (s : ByteArray) (k : Nat) : List Nat := (List.range k).map fun i => valOf (byteAt s (2 * i)) * 16 + valOf (byteAt s (2 * i + 1))
theorem packK_succ (s : ByteArray) (k : Nat) : packK s (k + 1) = packK s k ++ [valOf (byteAt s (2 * k)) * 16 + valOf (byteAt s (2 * k + 1))] := by simp [packK, List.range_succ]
theorem packK_length (s : ByteArray) (k : Nat) : (packK s k).length = k := by simp [packK]
theorem valOf_lt {c : Nat} (h : IsDig c) : valOf c < 16 := by
  unfold IsDig at h
  unfold valOf
  split <;> omega
theorem digs_cell {w : World} {base n g c : Nat} {s : ByteArray} (h : w.ownsRow base 5 1 (.slice (some ⟨g, 0, none⟩) n c) n ((digsK s n).map BV)) (i : Nat) (hi : i < n) : w.cell? ⟨g, i, none⟩ = some (.int .u8 ((valOf (byteAt s i) : Nat) : Int)) := by
  have h1 := h.cells (g := g) rfl i (BV (valOf (byteAt s i))) (by
    rw [List.getElem?_map, digsK, List.getElem?_map, List.getElem?_range hi]
    rfl)
  have hadd : (⟨g, 0, none⟩ : Addr).add i = ⟨g, i, none⟩ := by unfold Addr.add; split <;> simp_all
  rwa [hadd] at h1
set_option maxRecDepth 100000 in
set_option maxHeartbeats 1000000 in
theorem unhex_many (s : ByteArray) (h : s.size ≠ 64) (hsz : s.size ≤ 1099511627776) (w : World) :
    Calls Tryd.prog 26 #[.string s] w fun e w' => e = .returned (.tuple #[.agg (arr32 []), .int .i64 2]) ∧ Below w.heap.size w w' := by
  have hne : ¬ (s.size : Int) = 64 := by omega
  have HI32 := Lib.hid (arr32_info [] (by simp))
  go_enter Tryd.func26, Tryd.ntmps26
  go_upto_region 1 with (fail)
  refine gen_world (P := fun W => Code.wp _ _ _ _ W) (I := fun W => Below w.heap.size w W ∧ Has W w.heap.size 26 (arr32 [])) _ ⟨(Below.refl _ w).alloc (Nat.le_refl _) _, Has.fresh_at _ _ _ _ rfl⟩ ?_
  rintro W ⟨hB, hR⟩
  have HB := Lib.hid hB
  have HR := Lib.hid hR
  clear hB hR
  go_wp2_with (first
    | ((with_reducible refine arm_store w.heap.size (arr32 []) 26 (arr32 []) HR.out rfl HI32.out (arr32_one _) ?h5 ?h6 ?_); (case h5 => rfl); (case h6 => rfl)))
  exact bodyPost_ret (results_row_tmp rfl _ _ w.heap.size 26 (arr32 []) (0, 0) _ rfl HR.out.setRow rfl Tryd.underlying26 HI32.out) rfl ⟨rfl, below_setRow HB.out (Nat.le_refl _) _⟩
set_option maxRecDepth 100000 in
set_option maxHeartbeats 1000000 in
theorem unhex_form (s : ByteArray) (h : s.size = 64) (hd : ¬ AllDig s) (w : World) :
    Calls Tryd.prog 26 #[.string s] w fun e w' => e = .returned (.tuple #[.agg (arr32 []), .int .i64 4]) ∧ Below w.heap.size w w' := by
  have hne : (s.size : Int) = 64 := by omega
  have HI32 := Lib.hid (arr32_info [] (by simp))
  have hdig : ∀ V, Calls Tryd.prog 63 #[.string s] V fun e w' => e = .returned (.tuple #[.slice none 0 0, .bool false]) ∧ Below V.heap.size V w' := fun V =>
    (digits_any s (by omega) V).mono (by rintro e w' ⟨⟨k, _⟩ | ⟨_, rfl⟩, hb⟩; exact absurd k hd; exact ⟨rfl, hb⟩)
  have HD := Lib.hid hdig
  clear hdig hd
  go_enter Tryd.func26, Tryd.ntmps26
  go_upto_region 1 with (fail)
  refine gen_world (P := fun W => Code.wp _ _ _ _ W) (I := fun W => Below w.heap.size w W ∧ Has W w.heap.size 26 (arr32 [])) _ ⟨(Below.refl _ w).alloc (Nat.le_refl _) _, Has.fresh_at _ _ _ _ rfl⟩ ?_
  rintro W ⟨hB, hR⟩
  have HB := Lib.hid hB
  have HR := Lib.hid hR
  clear hB hR
  go_wp2_with (first
    | (go_at_call 63; refine (HD.out _).mono ?_; rintro e w1 ⟨rfl, hbel⟩; have HB1 := Lib.hid (HB.out.trans (hbel.mono HB.out.size)); have HR1 := Lib.hid (HR.out.below hbel HR.out.lt); clear hbel)
    | ((with_reducible refine arm_store w.heap.size (arr32 []) 26 (arr32 []) HR1.out rfl HI32.out (arr32_one _) ?h5 ?h6 ?_); (case h5 => rfl); (case h6 => rfl)))
  exact bodyPost_ret (results_row_tmp rfl _ _ w.heap.size 26 (arr32 []) (0, 0) _ rfl HR1.out.setRow rfl Tryd.underlying26 HI32.out) rfl ⟨rfl, below_setRow HB1.out (Nat.le_refl _) _⟩
set_option maxRecDepth 100000 in
set_option maxHeartbeats 2000000 in
theorem unhex_any (s : ByteArray) (h : s.size = 64) (hd : AllDig s) (w : World) :
    Calls Tryd.prog 26 #[.string s] w fun e w' => e = .returned (.tuple #[.agg (arr32 (packK s 32)), .int .i64 0]) ∧ Below w.heap.size w w' := by
  have hne : (s.size : Int) = 64 := by omega
  have hlen := packK_length s
  have HI32 := Lib.hid (arr32_info (packK s 32) (by rw [hlen]; omega))
  have HS32 := Lib.hid ((arr32_size [] (by simp)).trans (arr32_size (packK s 32) (by rw [hlen]; omega)).symm)
  have hdig : ∀ V, Calls Tryd.prog 63 #[.string s] V fun e w' => ∃ g, e = .returned (.tuple #[.slice (some ⟨g, 0, none⟩) 64 64, .bool true]) ∧ V.heap.size ≤ g ∧ g < w'.heap.size ∧ (∀ i, i < 64 → w'.cell? ⟨g, i, none⟩ = some (.int .u8 ((valOf (byteAt s i) : Nat) : Int))) ∧ Below V.heap.size V w' := fun V =>
    (digits_any s (by omega) V).mono (by
      rintro e w' ⟨⟨_, rfl, ho⟩ | ⟨k, _⟩, hb⟩
      · rw [h] at *
        exact ⟨_, rfl, Nat.le_refl _, (ho.lt _ rfl).2, fun i hi => digs_cell ho i hi, hb⟩
      · exact absurd hd k)
  have HD := Lib.hid hdig
  have HV := Lib.hid fun i (hi : i < 64) => valOf_lt (hd i (by omega))
  clear hdig hd
  go_enter Tryd.func26, Tryd.ntmps26
  go_upto_region 1 with (fail)
  refine gen_world (P := fun W => Code.wp _ _ _ _ W) (I := fun W => Below w.heap.size w W ∧ Has W w.heap.size 26 (arr32 [])) _ ⟨(Below.refl _ w).alloc (Nat.le_refl _) _, Has.fresh_at _ _ _ _ rfl⟩ ?_
  rintro W ⟨hB, hR⟩
  have HB := Lib.hid hB
  have HR := Lib.hid hR
  clear hB hR
  go_upto_region 7 with (first
    | (go_at_call 63; refine (HD.out _).mono ?_; rintro e w1 ⟨g, rfl, hg1, hg2, hcells, hbel⟩; have HB1 := Lib.hid (HB.out.trans (hbel.mono HB.out.size)); have HR1 := Lib.hid (HR.out.below hbel HR.out.lt); have HC1 := Lib.hid hcells; clear hbel hcells))
  refine gen_world (P := fun W => Code.wp _ _ _ _ W) (I := fun V => Below w.heap.size w V ∧ Has V w.heap.size 26 (arr32 []) ∧ Has V w1.heap.size 26 (arr32 []) ∧ (∀ i, i < 64 → V.cell? ⟨g, i, none⟩ = some (.int .u8 ((valOf (byteAt s i) : Nat) : Int)))) _ ⟨HB1.out.alloc HB1.out.size _, HR1.out.alloc _, Has.fresh_at _ _ _ _ rfl, fun i hi => (World.cell?_alloc_lt _ _ _ hg2).trans (HC1.out i hi)⟩ ?_
  rintro V ⟨hB2, hR2, hT2, hC2⟩
  have HB2 := Lib.hid hB2
  have HR2 := Lib.hid hR2
  have HT2 := Lib.hid hT2
  have HC2 := Lib.hid hC2
  have hwg : w.heap.size < w1.heap.size := HR1.out.lt
  have hWg : w.heap.size < W.heap.size := HR.out.lt
  clear hB2 hR2 hT2 hC2
  go_wp2
  go_loopw [20] (fun i wr => ∃ k : Nat, k ≤ 32 ∧ i = .int .i64 k ∧ Has wr w1.heap.size 26 (arr32 (packK s k)) ∧ Has wr w.heap.size 26 (arr32 []) ∧ (∀ i, i < 64 → wr.cell? ⟨g, i, none⟩ = some (.int .u8 ((valOf (byteAt s i) : Nat) : Int))) ∧ Below w.heap.size w wr) (fun i _ => 32 - (intOf i).toNat)
  case atStart => exact ⟨0, Nat.zero_le _, rfl, HT2.out, HR2.out, HC2.out, HB2.out⟩
  case round =>
    obtain ⟨k, hk, rfl, hT, hR, hC, hB⟩ := hrel
    by_cases hlt : k < 32
    · have c1 := hC (2 * k) (by omega)
      have c2 := hC (2 * k + 1) (by omega)
      have v1 := HV.out (2 * k) (by omega)
      have v2 := HV.out (2 * k + 1) (by omega)
      have hfree := hT.free k
      have hold := hT.cell k
      have hend := arr32_end (packK s k) (by rw [hlen]; omega)
      rw [hlen] at hend
      rw [hend] at hold
      have hset := arr32_set (packK s k) (valOf (byteAt s (2 * k)) * 16 + valOf (byteAt s (2 * k + 1))) (by rw [hlen]; omega)
      rw [hlen, ← packK_succ] at hset
      generalize valOf (byteAt s (2 * k)) = x at *
      generalize valOf (byteAt s (2 * k + 1)) = y at *
      have hso := shl_or ⟨x, v1⟩ ⟨y, v2⟩
      dsimp only at hso
      have hput := (hT.put k (BV (x * 16 + y))).of_eq hset
      have HP := Lib.hid hput
      have HSo := Lib.hid hso
      have HC3 := Lib.hid hC
      have HR3 := Lib.hid hR
      have HB3 := Lib.hid hB
      have hp1 : IntKind.i64.wrap (2 * (k : Int)) = 2 * (k : Int) := IntWalk.i64_in _ (by omega)
      clear hT hR hC hB hput hso hset
      go_wp2_with fail
      go_region
      go_wp2
      go_roundw
      case rel =>
        refine ⟨k + 1, by omega, by go_num, ?_, (HR3.out.apart (by simp; omega) _).drew, fun i hi => ?_, (HB3.out.setCell (by simp; omega) _).drew⟩
        · rw [HSo.out]; exact HP.out.drew
        · exact (World.cell?_setCell_other _ _ _ _ (by intro e; cases e; omega)).trans (HC3.out i hi)
      case measure => simp [intOf]; omega
    · obtain rfl : k = 32 := by omega
      have HT3 := Lib.hid hT.row
      have HR3 := Lib.hid hR
      have HB3 := Lib.hid hB
      clear hT hR hB hC
      go_wp2_with (first
        | ((with_reducible refine arm_load (w := wr) ⟨w1.heap.size, 0, none⟩ _ _ HT3.out Tryd.underlying26 HI32.out ?h3 ?h4 ?_); (case h3 => rfl); (case h4 => rfl))
        | ((with_reducible refine arm_store w.heap.size _ _ _ HR3.out HS32.out HI32.out (arr32_one _) ?h5 ?h6 ?_); (case h5 => rfl); (case h6 => rfl)))
      exact bodyPost_ret (results_row_tmp rfl _ _ w.heap.size 26 (arr32 (packK s 32)) (0, 0) _ rfl HR3.out.setRow rfl Tryd.underlying26 HI32.out) rfl ⟨rfl, below_setRow HB3.out (Nat.le_refl _) _⟩
end Go.Proofs.YtillghidmfglpaaDoor
end
section
namespace Go.Proofs.YtillghidmfglpaaDoor
open Go.RowKit Go.Hoar
/-- What the digit i of a digest is worth. -/
def nib (l : List Nat) (i : Nat) : Nat := if i % 2 = 0 then l.getD (i / 2) 0 / 16 else l.getD (i / 2) 0 % 16
theorem arr32_get (l : List Nat) (h : l.length = 32) (i : Nat) (hi : i < 32) : (arr32 l)[i]? = some (.int .u8 ((l.getD i 0 : Nat) : Int)) := by
  rw [arr32, List.getElem?_toArray, List.getElem?_append_left (by simp; omega), List.getElem?_map, List.getD_eq_getElem?_getD, List.getElem?_eq_getElem (by omega)]
  exact Eq.refl _
set_option maxRecDepth 100000 in
theorem digit_any (l : List Nat) (hl : l.length = 32) (hlb : Sha.Bytes l) (i : Nat) (hi : i < 64) (w : World) :
    Calls Tryd.prog 65 #[.agg (arr32 l), .int .i64 (i : Int)] w fun e w' => e = .returned (.int .u8 ((nib l i : Nat) : Int)) ∧ Below w.heap.size w w' := by
  have hx := Sha.getD_lt hlb (by decide) (i / 2)
  have HG := Lib.hid (arr32_get l hl (i / 2) (by omega))
  have HN : Hid (nib l i = if i % 2 = 0 then l.getD (i / 2) 0 / 16 else l.getD (i / 2) 0 % 16) := Lib.hid rfl
  generalize l.getD (i / 2) 0 = x at *
  go_enter Tryd.func65, Tryd.ntmps65
  go_upto_region 1 with (fail)
  refine gen_world (P := fun W => Code.wp _ _ _ _ W) (I := fun W => Below w.heap.size w W ∧ Has W w.heap.size 26 (arr32 l)) _ ⟨(Below.refl _ w).alloc (Nat.le_refl _) _, Has.fresh_at _ _ _ _ rfl⟩ ?_
  rintro W ⟨hB, hS⟩
  have hc := (hS.cell (i / 2)).trans HG.out
  have HB := Lib.hid hB
  clear hB hS
  have h2 : i / 2 < 32 := by omega
  have h3 : ((i : Int) / 2).toNat = i / 2 := by omega
  by_cases hp : (i : Int) % 2 = 0
  · have hn : nib l i = x / 16 := by rw [HN.out, if_pos (by omega)]
    have HX := Lib.hid hn
    clear hn
    go_wp2
    rw [HX.out]
    go_ret
    exact ⟨rfl, HB.out⟩
  · have hn : nib l i = x % 16 := by rw [HN.out, if_neg (by omega)]
    have HX := Lib.hid hn
    clear hn
    go_wp2
    rw [HX.out]
    go_ret
    exact ⟨rfl, HB.out⟩
end Go.Proofs.YtillghidmfglpaaDoor
end
section
namespace Go.Proofs.YtillghidmfglpaaDoor
open Go.RowKit Go.Hoar
/-- The letter of a digit. -/
def letter (d : Nat) : Nat := if d < 10 then 48 + d else 87 + d
theorem nib_lt {l : List Nat} (h : Sha.Bytes l) (i : Nat) : nib l i < 16 := by
  have hx := Sha.getD_lt h (by decide) (i / 2)
  unfold nib
  split <;> omega
theorem index16 (d : Nat) (hd : d < 16) (w : World) :
    (Instr.index 9 (.string ⟨#[48, 49, 50, 51, 52, 53, 54, 55, 56, 57, 97, 98, 99, 100, 101, 102]⟩) (.int .u8 (d : Int))).run Tryd.prog w = .ok (.int .u8 ((letter d : Nat) : Int)) w := by
  have h : d = 0 ∨ d = 1 ∨ d = 2 ∨ d = 3 ∨ d = 4 ∨ d = 5 ∨ d = 6 ∨ d = 7 ∨ d = 8 ∨ d = 9 ∨ d = 10 ∨ d = 11 ∨ d = 12 ∨ d = 13 ∨ d = 14 ∨ d = 15 := by omega
  rcases h with rfl | rfl | rfl | rfl | rfl | rfl | rfl | rfl | rfl | rfl | rfl | rfl | rfl | rfl | rfl | rfl
  all_goals rw [run_index_string _ _ _ _ _ Tryd.underlying9]; exact Eq.refl _
/-- The first k letters of a digest, and room for the rest. -/
def hexK (l : List Nat) (k : Nat) : List Nat := (List.range k).map (fun i => letter (nib l i)) ++ List.replicate (64 - k) 0
theorem hexK_length (l : List Nat) (k : Nat) (hk : k ≤ 64) : (hexK l k).length = 64 := by
  simp [hexK]
  omega
theorem hexK_set (l : List Nat) (k : Nat) (hk : k < 64) : ((hexK l k).map BV).toArray.setIfInBounds k (BV (letter (nib l k))) = ((hexK l (k + 1)).map BV).toArray := by
  have e : 64 - k = (64 - (k + 1)) + 1 := by omega
  simp only [List.setIfInBounds_toArray, hexK, List.map_append]
  congr 1
  rw [List.set_append_right _ _ (by simp)]
  rw [List.length_map, List.length_map, List.length_range, Nat.sub_self, e, List.replicate_succ, List.map_cons, List.set_cons_zero, List.range_succ, List.map_append, List.map_append]
  simp
def hexOf (l : List Nat) : List Nat := (List.range 64).map fun i => letter (nib l i)
theorem hex_cell (l : List Nat) (hlb : Sha.Bytes l) (j : Nat) (hj : j < 64) : ((hexK l 64).map BV).toArray[j]? = some (.int .u8 ((((hexOf l).map UInt8.ofNat)[j]'(by simpa [hexOf] using hj)).toNat : Int)) := by
  have hn := nib_lt hlb j
  have hlt : letter (nib l j) < 256 := by unfold letter; split <;> omega
  have e : hexK l 64 = hexOf l := by simp [hexK, hexOf]
  rw [e, List.getElem?_toArray, List.getElem?_map, List.getElem?_eq_getElem (by simpa [hexOf] using hj)]
  simp only [List.getElem_map, hexOf, List.getElem_range, Option.map_some, BV]
  have e2 : (UInt8.ofNat (letter (nib l j))).toNat = letter (nib l j) := by simp; omega
  rw [e2]
set_option maxRecDepth 100000 in
set_option maxHeartbeats 1000000 in
theorem hex_any (l : List Nat) (hl : l.length = 32) (hlb : Sha.Bytes l) (w : World) :
    Calls Tryd.prog 28 #[.agg (arr32 l)] w fun e w' => e = .returned (.string ⟨((hexOf l).map UInt8.ofNat).toArray⟩) ∧ Below w.heap.size w w' := by
  have hmk := make_bytes 64 (by unfold maxLen; omega) (by omega)
  have e64 : ((64 : Nat) : Int) = 64 := rfl
  rw [e64] at hmk
  have HI := Lib.hid (arr32_info l (by omega))
  go_enter Tryd.func28, Tryd.ntmps28
  go_upto_region 2 with (fail)
  refine gen_world (P := fun W => Code.wp _ _ _ _ W) (I := fun W => Below w.heap.size w W ∧ Has W w.heap.size 26 (arr32 l) ∧ Has W (w.heap.size + 1) 5 ((hexK l 0).map BV).toArray) _ ⟨((Below.refl _ w).alloc (Nat.le_refl _) _).alloc (by simp) _, (Has.fresh_at _ _ _ _ rfl).alloc _, (Has.fresh_at _ _ _ _ (by simp)).of_eq (by simp [hexK])⟩ ?_
  rintro W ⟨hB, hS, hT⟩
  have HB := Lib.hid hB
  have HS := Lib.hid hS
  have HT := Lib.hid hT
  clear hB hS hT hmk
  go_wp2
  go_loopw [8] (fun i wr => ∃ k : Nat, k ≤ 64 ∧ i = .int .i64 k ∧ Has wr (w.heap.size + 1) 5 ((hexK l k).map BV).toArray ∧ Has wr w.heap.size 26 (arr32 l) ∧ Below w.heap.size w wr) (fun i _ => 64 - (intOf i).toNat)
  case atStart => exact ⟨0, Nat.zero_le _, rfl, HT.out, HS.out, HB.out⟩
  case round =>
    obtain ⟨k, hk, rfl, hT, hS, hB⟩ := hrel
    by_cases hlt : k < 64
    · have hnl := nib_lt hlb k
      have hset := hexK_set l k hlt
      have hidx := index16 (nib l k) hnl
      have HT := Lib.hid hT
      have HRow := Lib.hid hS.row
      have HS := Lib.hid hS
      have HB := Lib.hid hB
      have HSet := Lib.hid hset
      have hcell : wr.cell? ⟨w.heap.size + 1, k, none⟩ = some (BV ((hexK l k).getD k 0)) := by
        rw [hT.cell, List.getElem?_toArray, List.getElem?_map, List.getD_eq_getElem?_getD, List.getElem?_eq_getElem (by rw [hexK_length _ _ hk]; omega)]
        rfl
      have HCell := Lib.hid hcell
      clear hT hS hB hset hcell
      go_wp2_with (first
        | ((with_reducible refine arm_load (w := wr) ⟨w.heap.size, 0, none⟩ _ _ HRow.out Tryd.underlying26 HI.out ?h1 ?h2 ?_); (case h1 => rfl); (case h2 => rfl))
        | (go_at_call 65; refine (digit_any l hl hlb k hlt _).mono ?_; rintro e w1 ⟨rfl, hbel⟩; have HB1 := Lib.hid hbel; have hT1 := HT.out.below hbel HT.out.lt; have HT1 := Lib.hid hT1; have hfree := hT1.free k; have hcell := ((hbel.cell HT.out.lt).trans HCell.out); have HS1 := Lib.hid (HS.out.below hbel HS.out.lt); unfold BV at hcell; clear hT1 hbel))
      exact ⟨⟨k + 1, by omega, by go_num, (HT1.out.put k _).of_eq HSet.out, HS1.out.apart (by simp) _, (HB.out.trans (HB1.out.mono HB.out.size)).setCell (by simp) _⟩, by simp [intOf]; omega⟩
    · obtain rfl : k = 64 := by omega
      have hconv := run_convert_bytes_back (P := Tryd.prog) wr 22 9 5 ⟨w.heap.size + 1, 0, none⟩ 64 ((hexOf l).map UInt8.ofNat) Tryd.underlying22 Tryd.underlying5 Tryd.underlying9 (fun j hj => hT.row j _ (hex_cell l hlb j (by simpa [hexOf] using hj)))
      rw [show ((hexOf l).map UInt8.ofNat).length = 64 by simp [hexOf]] at hconv
      have HB := Lib.hid hB
      clear hT hS hB
      go_wp2
      go_ret
      exact ⟨rfl, HB.out⟩
end Go.Proofs.YtillghidmfglpaaDoor
end
section
namespace Go.Proofs.YtillghidmfglpaaDoor
open Go.RowKit Go.Hoar
/-- Does a digest begin with such digits? -/
def Starts (l ds : List Nat) : Prop := ∀ i, i < ds.length → nib l i = ds.getD i 0
instance (l ds : List Nat) : Decidable (Starts l ds) := by unfold Starts; infer_instance
set_option maxRecDepth 100000 in
set_option maxHeartbeats 1000000 in
theorem begins_any (l ds : List Nat) (hl : l.length = 32) (hlb : Sha.Bytes l) (hds : Sha.Bytes ds) (hn : ds.length ≤ 64) (g off c : Nat) (w : World) (hc : ds.length ≤ c) (hcm : c ≤ maxLen) (hg : g < w.heap.size) (hb : BytesAt w g off ds.length ds) :
    Calls Tryd.prog 81 #[.agg (arr32 l), .slice (some ⟨g, off, none⟩) ds.length c] w fun e w' => e = .returned (.bool (decide (Starts l ds))) ∧ Below w.heap.size w w' := by
  have HI := Lib.hid (arr32_info l (by omega))
  unfold maxLen at hcm
  go_enter Tryd.func81, Tryd.ntmps81
  go_upto_region 1 with (fail)
  refine gen_world (P := fun W => Code.wp _ _ _ _ W) (I := fun W => Below w.heap.size w W ∧ Has W w.heap.size 26 (arr32 l)) _ ⟨(Below.refl _ w).alloc (Nat.le_refl _) _, Has.fresh_at _ _ _ _ rfl⟩ ?_
  rintro W ⟨hB, hS⟩
  have HB := Lib.hid hB
  have HS := Lib.hid hS
  clear hB hS
  go_wp2
  go_loopw [9] (fun i wr => ∃ k : Nat, k ≤ ds.length ∧ i = .int .i64 k ∧ (∀ i, i < k → nib l i = ds.getD i 0) ∧ Has wr w.heap.size 26 (arr32 l) ∧ Below w.heap.size w wr) (fun i _ => ds.length - (intOf i).toNat)
  case atStart => exact ⟨0, Nat.zero_le _, rfl, fun i hi => absurd hi (Nat.not_lt_zero _), HS.out, HB.out⟩
  case round =>
    obtain ⟨k, hk, rfl, hall, hS, hB⟩ := hrel
    by_cases hlt : k < ds.length
    · have hcell : wr.cell? ⟨g, off + k, none⟩ = some (.int .u8 ((ds.getD k 0 : Nat) : Int)) := (hB.cell hg).trans (hb k hlt)
      have HRow := Lib.hid hS.row
      have HS := Lib.hid hS
      have HB := Lib.hid hB
      have HAll := Lib.hid hall
      have HEq : Hid (nib l k = ds.getD k 0 ↔ nib l k = ds.getD k 0) := Lib.hid Iff.rfl
      have hcase : (ds.getD k 0 = nib l k) ∨ ¬ ((nib l k : Nat) : Int) = ((ds.getD k 0 : Nat) : Int) := by omega
      have HNot : Hid (ds.getD k 0 ≠ nib l k → ¬ Starts l ds) := Lib.hid fun hne hst => hne (hst k hlt).symm
      have HStep : Hid (ds.getD k 0 = nib l k → ∀ i, i < k + 1 → nib l i = ds.getD i 0) := Lib.hid fun he i hi => by
        by_cases hik : i = k
        · rw [hik, he]
        · exact HAll.out i (by omega)
      clear hS hB hall
      generalize ds.getD k 0 = d at *
      rcases hcase with hd | hd
      · subst hd
        go_wp2_with (first
          | ((with_reducible refine arm_load (w := wr) ⟨w.heap.size, 0, none⟩ _ _ HRow.out Tryd.underlying26 HI.out ?h1 ?h2 ?_); (case h1 => rfl); (case h2 => rfl))
          | (go_at_call 65; refine (digit_any l hl hlb k (by omega) _).mono ?_; rintro e w1 ⟨rfl, hbel⟩; have HB1 := Lib.hid hbel; have HS1 := Lib.hid (HS.out.below hbel HS.out.lt); clear hbel))
        exact ⟨⟨k + 1, by omega, by go_num, HStep.out trivial, HS1.out, HB.out.trans (HB1.out.mono HB.out.size)⟩, by simp [intOf]; omega⟩
      · have hst : decide (Starts l ds) = false := decide_eq_false (HNot.out (fun e => hd (by rw [e])))
        have HD := Lib.hid hst
        clear hst
        go_wp2_with (first
          | ((with_reducible refine arm_load (w := wr) ⟨w.heap.size, 0, none⟩ _ _ HRow.out Tryd.underlying26 HI.out ?h3 ?h4 ?_); (case h3 => rfl); (case h4 => rfl))
          | (go_at_call 65; refine (digit_any l hl hlb k (by omega) _).mono ?_; rintro e w1 ⟨rfl, hbel⟩; have HB1 := Lib.hid hbel; clear hbel))
        go_ret
        exact ⟨by rw [HD.out]; exact Eq.refl _, HB.out.trans (HB1.out.mono HB.out.size)⟩
    · have hst : decide (Starts l ds) = true := decide_eq_true fun i hi => hall i (by omega)
      have HD := Lib.hid hst
      clear hst
      have HB := Lib.hid hB
      clear hB hS hall
      go_wp2
      go_ret
      exact ⟨by rw [HD.out]; exact Eq.refl _, HB.out⟩
end Go.Proofs.YtillghidmfglpaaDoor
end
section
namespace Go.Proofs.YtillghidmfglpaaDoor
open Go.RowKit Go.Hoar
theorem own_row {W : World} {g base : Nat} {bs : List Nat} (h : Has W g 5 (bs.map BV).toArray) (hb : base ≤ g) (hn : bs.length ≤ maxLen) :
    W.ownsRow base 5 1 (.slice (some ⟨g, 0, none⟩) bs.length bs.length) bs.length (bs.map BV) :=
  ⟨by simp, .inr ⟨g, bs.length, _, rfl, hb, h, Nat.le_refl _, hn, by simp, by simp [List.take_of_length_le]⟩⟩
theorem arr32_whole (l : List Nat) (h : l.length = 32) : arr32 l = (l.map BV).toArray := by simp [arr32, h]
/-- What a digest holds is bytes in memory. -/
theorem sum_part {W : World} {g : Nat} {t : TypeId} {l : List Nat} (h : Has W g t (arr32 l)) (hl : l.length = 32) : PartOk W (some ⟨g, 0, none⟩) 32 l :=
  .inr ⟨g, 0, rfl, h.lt, fun i hi => by rw [h.cell, Nat.zero_add]; exact arr32_get l hl i (by omega)⟩
set_option maxRecDepth 100000 in
set_option maxHeartbeats 1000000 in
theorem leaf_any (l : List Nat) (hl : l.length = 32) (hlb : Sha.Bytes l) (w : World) (hc : ConstAt w) (out : List Nat) (hout : Hid (out = Sha.sha (1 :: l))) :
    Calls Tryd.prog 67 #[.agg (arr32 l)] w fun e w' => e = .returned (.agg (arr32 out)) ∧ out.length = 32 ∧ Below w.heap.size w w' := by
  obtain ⟨i0, hi, hz0, hz1, hz2⟩ := info_parts info8
  go_enter Tryd.func67, Tryd.ntmps67
  go_upto_region 1 with (fail)
  refine gen_world (P := fun W => Code.wp _ _ _ _ W) (I := fun W => Below w.heap.size w W ∧ Has W w.heap.size 26 (arr32 l) ∧ Has W (w.heap.size + 1) 26 (arr32 []) ∧ W.heap.size = w.heap.size + 2) _ ⟨((Below.refl _ w).alloc (Nat.le_refl _) _).alloc (by simp) _, (Has.fresh_at _ _ _ _ rfl).alloc _, Has.fresh_at _ _ _ _ (by simp), by simp⟩ ?_
  rintro W ⟨hB, hS, hR, hsz⟩
  have HB := Lib.hid hB
  have HS := Lib.hid hS
  have HR := Lib.hid hR
  have HC := Lib.hid hc
  have hone : ∀ u ∈ l.map BV, u.oneCell' = true := by
    intro u hu
    obtain ⟨x, _, rfl⟩ := List.mem_map.1 hu
    rfl
  have h33 : (1 :: l).length = 33 := by simp [hl]
  have hby : Sha.Bytes (1 :: l) := fun x hx => (List.mem_cons.1 hx).elim (fun e => by omega) (hlb x)
  have hof : ∀ (a : Option Addr) (c : Nat) (V : World), V.ownsRow w.heap.size 5 1 (.slice a 33 c) 33 ((1 :: l).map BV) → ConstAt V → Calls Tryd.prog 17 #[.slice a 33 c] V fun e w' => e = .returned (.agg (arr32 out)) ∧ out.length = 32 ∧ Below V.heap.size V w' := fun a c V ho hcv => by
    have hcap : CapOk a (1 :: l).length c := fun g off e => by rw [h33]; have := own_cap ho g off e; exact ⟨this.1, this.2.1⟩
    have := of_any (1 :: l) a c V (part_own ho).1 hby (by rw [h33]; omega) hcap hcv out hout
    rwa [h33] at this
  have HOf := Lib.hid hof
  have HO : Hid ((W.alloc (.cells #[.int .u8 1] 5)).ownsRow w.heap.size 5 1 (.slice (some ⟨w.heap.size + 2, 0, none⟩) 1 1) 1 [.int .u8 1]) := Lib.hid (own_row (bs := [1]) (Has.fresh_at W 5 _ (w.heap.size + 2) hsz.symm) (by omega) (by decide))
  have HN : Hid (∀ j u, (l.map BV)[j]? = some u → (W.alloc (.cells #[.int .u8 1] 5)).cell? ((⟨w.heap.size, 0, none⟩ : Addr).add j) = some u) := Lib.hid fun j u hj => (hS.alloc _).row j u (by rw [arr32_whole l hl, List.getElem?_toArray]; exact hj)
  have HRa := Lib.hid (hR.alloc (.cells #[.int .u8 1] 5))
  have HBa := Lib.hid (hB.alloc hB.size (.cells #[.int .u8 1] 5))
  have hbase : w.heap.size ≤ (W.alloc (.cells #[.int .u8 1] 5)).heap.size := HBa.out.size
  have hl32 : (l.map BV).length = 32 * 1 := by simp [hl]
  clear hB hS hR hc hof
  go_wp2_with (at_builtin; refine wpList_append_own _ rfl _ _ 22 rfl w.heap.size 5 i0 (.int .u8 0) 1 1 Tryd.underlying22 hi hz0 hz1 hz2 rfl (by decide) _ _ _ rfl HO.out ⟨w.heap.size, 0, none⟩ 32 32 (l.map BV) rfl hl32 HN.out hone (by decide) (by decide) hbase ?_; intro v' w2 hown2 hgrow _)
  have hown3 : w2.ownsRow w.heap.size 5 1 v' 33 ((1 :: l).map BV) := hown2
  obtain ⟨a', c', rfl⟩ := own_form hown3
  have hB2 : Below w.heap.size w w2 := HBa.out.grown hgrow hbase (fun r hr => by cases hr; exact Nat.le_add_right _ _)
  have HB2 := Lib.hid hB2
  have hne : some (w.heap.size + 1) ≠ Value.ownBlock (.slice (some ⟨w.heap.size + 2, 0, none⟩) 1 1) := fun e => by
    have e2 : w.heap.size + 1 = w.heap.size + 2 := Option.some.inj e
    omega
  have HR2 := Lib.hid (has_grown HRa.out hgrow hne)
  have hw2 : w.heap.size ≤ w2.heap.size := hB2.size
  have HC2 := Lib.hid (HC.out.below hB2 rfl)
  have HO3 := Lib.hid hown3
  clear hown2 hown3 hgrow hB2
  refine (HOf.out a' c' w2 HO3.out HC2.out).mono ?_
  rintro e w3 ⟨rfl, hol, hbel⟩
  have HB3 := Lib.hid hbel
  have HR3 := Lib.hid (HR2.out.below hbel HR2.out.lt)
  have HI32 := Lib.hid (arr32_info out (by omega))
  have HS32 := Lib.hid ((arr32_size [] (by simp)).trans (arr32_size out (by omega)).symm)
  clear hbel
  go_wp2_with ((with_reducible refine arm_store (w.heap.size + 1) _ _ _ HR3.out HS32.out HI32.out (arr32_one _) ?h5 ?h6 ?_); (case h5 => rfl); (case h6 => rfl))
  exact bodyPost_ret (results_cell_row (P := Tryd.prog) rfl _ _ (w.heap.size + 1) 26 (arr32 out) (0, 0) _ rfl HR3.out.setRow Tryd.underlying26 rfl HI32.out) rfl ⟨rfl, hol, below_setRow (HB2.out.trans (HB3.out.mono hw2)) (by omega) _⟩
end Go.Proofs.YtillghidmfglpaaDoor
end
section
namespace Go.Proofs.YtillghidmfglpaaDoor
open Go.RowKit Go.Hoar
theorem has_setCells {g : Nat} {t : TypeId} : ∀ (vs pre old : List Value) (w : World), old.length = vs.length → Has w g t (pre ++ old).toArray → Has (w.setCells g pre.length vs) g t (pre ++ vs).toArray
  | [], pre, old, w, hl, h => by
    have e : old = [] := List.length_eq_zero_iff.1 hl
    subst e
    exact h
  | v :: r, pre, [], w, hl, h => by simp at hl
  | v :: r, pre, x :: old, w, hl, h => by
    have h1 := h.put pre.length v
    have e : (pre ++ x :: old).toArray.setIfInBounds pre.length v = ((pre ++ [v]) ++ old).toArray := by
      rw [List.setIfInBounds_toArray, List.set_append_right _ _ (Nat.le_refl _), Nat.sub_self, List.set_cons_zero, List.append_assoc]
      rfl
    rw [e] at h1
    have h2 := has_setCells r (pre ++ [v]) old _ (by simpa using hl) h1
    rw [List.length_append, List.append_assoc] at h2
    exact h2
theorem below_setCells {B g : Nat} {a : World} (hB : B ≤ g) : ∀ (vs : List Value) (o : Nat) (w : World), Below B a w → Below B a (w.setCells g o vs)
  | [], _, _, h => h
  | v :: r, o, w, h => below_setCells hB r (o + 1) _ (h.setCell hB v)
theorem has_there {w : World} {g : Nat} {t : TypeId} {cs : Array Value} (h : Has w g t cs) : w.there g 0 cs.size := fun j hj => ⟨by rw [h.cell, Nat.zero_add, Array.getElem?_eq_getElem hj]; rfl, h.free _⟩
theorem of_own (bs : List Nat) (n : Nat) (hn : n = bs.length) (hbs : Sha.Bytes bs) (hlen : n ≤ 140737488355328) {V : World} {base : Nat} {a : Option Addr} {c : Nat} (ho : V.ownsRow base 5 1 (.slice a n c) n (bs.map BV)) (hc : ConstAt V) (out : List Nat) (hout : Hid (out = Sha.sha bs)) :
    Calls Tryd.prog 17 #[.slice a n c] V fun e w' => e = .returned (.agg (arr32 out)) ∧ out.length = 32 ∧ Below V.heap.size V w' := by
  subst hn
  have hcap : CapOk a bs.length c := fun g off e => by have := own_cap ho g off e; exact ⟨this.1, this.2.1⟩
  exact of_any bs a c V (part_own ho).1 hbs hlen hcap hc out hout
theorem cat3 (l m : List Nat) (hl : l.length = 32) (hm : m.length = 32) (g5 g8 gl gm : Nat) (V : World) (h5 : Has V g5 5 #[.int .u8 2]) (hL : Has V gl 26 (arr32 l)) (hM : Has V gm 26 (arr32 m))
    (h8 : Has V g8 22 #[.slice (some ⟨g5, 0, none⟩) 1 1, .slice (some ⟨gl, 0, none⟩) 32 32, .slice (some ⟨gm, 0, none⟩) 32 32]) :
    Calls Tryd.prog 90 #[.slice (some ⟨g8, 0, none⟩) 3 3] V fun e w' => ∃ a c, e = .returned (.slice a 65 c) ∧ w'.ownsRow V.heap.size 5 1 (.slice a 65 c) 65 ((2 :: (l ++ m)).map BV) ∧ Below V.heap.size V w' := by
  have hj : joinedB [(some ⟨g5, 0, none⟩, 1, [2]), (some ⟨gl, 0, none⟩, 32, l), (some ⟨gm, 0, none⟩, 32, m)] = 2 :: (l ++ m) := by simp [joinedB]
  have hjl : (2 :: (l ++ m)).length = 65 := by simp [hl, hm]
  refine (concat_any [(some ⟨g5, 0, none⟩, 1, [2]), (some ⟨gl, 0, none⟩, 32, l), (some ⟨gm, 0, none⟩, 32, m)] g8 V (by simp) (by rw [hj, hjl]; omega) (h8.of_eq (by simp [partV, hl, hm])) (fun p hp => ?_)).mono ?_
  · simp only [List.mem_cons, List.not_mem_nil, or_false] at hp
    rcases hp with rfl | rfl | rfl
    · exact pad_part (bs := [2]) h5
    · exact sum_part hL hl
    · exact sum_part hM hm
  · rintro e w' ⟨v, rfl, ho, hb⟩
    rw [hj, hjl] at ho
    obtain ⟨a, c, rfl⟩ := own_form ho
    exact ⟨a, c, rfl, ho, hb⟩
set_option maxRecDepth 100000 in
set_option maxHeartbeats 2000000 in
theorem pair_any (l m : List Nat) (hl : l.length = 32) (hm : m.length = 32) (hlb : Sha.Bytes l) (hmb : Sha.Bytes m) (w : World) (hc : ConstAt w) (out : List Nat) (hout : Hid (out = Sha.sha (2 :: (l ++ m)))) :
    Calls Tryd.prog 69 #[.agg (arr32 l), .agg (arr32 m)] w fun e w' => e = .returned (.agg (arr32 out)) ∧ out.length = 32 ∧ Below w.heap.size w w' := by
  go_enter Tryd.func69, Tryd.ntmps69
  go_upto_region 1 with (fail)
  refine gen_world (P := fun W => Code.wp _ _ _ _ W) (I := fun W => Below w.heap.size w W ∧ Has W w.heap.size 26 (arr32 l) ∧ Has W (w.heap.size + 1) 26 (arr32 m) ∧ Has W (w.heap.size + 2) 26 (arr32 []) ∧ W.heap.size = w.heap.size + 3) _ ⟨(((Below.refl _ w).alloc (Nat.le_refl _) _).alloc (by simp) _).alloc (by simp; omega) _, ((Has.fresh_at _ _ _ _ rfl).alloc _).alloc _, (Has.fresh_at _ _ _ _ (by simp)).alloc _, Has.fresh_at _ _ _ _ (by simp), by simp⟩ ?_
  rintro W ⟨hB, hL, hM, hR, hsz⟩
  have HB := Lib.hid hB
  have HL := Lib.hid hL
  have HM := Lib.hid hM
  have HR := Lib.hid hR
  have HC := Lib.hid (hc.below hB rfl)
  have hby : Sha.Bytes (2 :: (l ++ m)) := fun x hx => (List.mem_cons.1 hx).elim (fun e => by omega) (bytes_append hlb hmb x)
  have h65 : 65 = (2 :: (l ++ m)).length := by simp [hl, hm]
  clear hB hL hM hR hc
  have hbV : ∀ o o', Below W.heap.size W ((W.alloc o).alloc o').drew := fun o o' => (((Below.refl _ W).alloc (Nat.le_refl _) _).alloc (by simp) _).drew
  go_region_held3 (fun W' => True) (exact trivial)
    (first
      | (go_at_call 90; refine (cat3 l m hl hm (w.heap.size + 3) (w.heap.size + 3 + 1) w.heap.size (w.heap.size + 1) _ ((Has.fresh_at W _ _ (w.heap.size + 3) hsz.symm).alloc _).drew ((HL.out.alloc _).alloc _).drew ((HM.out.alloc _).alloc _).drew (Has.fresh_at _ _ _ _ (by simp [hsz])).drew).mono ?_; rintro e w1 ⟨a, c, rfl, ho, hb1⟩; have hbw1 : Below W.heap.size W w1 := (hbV _ _).trans (hb1.mono (by simp; omega)))
      | (go_at_call 17; refine (of_own (2 :: (l ++ m)) 65 h65 hby (by omega) ho (HC.out.below hbw1 rfl) out hout).mono ?_; rintro e w3 ⟨rfl, hol, hbel⟩; obtain ⟨cs, hcs⟩ : ∃ cs : List Value, cs = out.map BV ++ List.replicate (32 - out.length) (Value.int IntKind.u8 0) := ⟨_, rfl⟩; have hcl : cs.length = 32 := (by simp [hcs, hol]); have hone : ∀ v ∈ cs, v.oneCell' = true := (by rw [hcs]; intro v hv; rcases List.mem_append.1 hv with hv | hv; (obtain ⟨x, _, rfl⟩ := List.mem_map.1 hv; rfl); (rw [List.eq_of_mem_replicate hv]; rfl)); have hcs2 : arr32 out = cs.toArray := (by rw [hcs]; rfl); rw [hcs2]; have HCS := Lib.hid hcs2; have hinfo : (Tryd.prog.info? 26).map (·.size) = some cs.length := (by rw [hcl]; exact info32); have hR3 := (HR.out.below hbw1 HR.out.lt).below hbel (Nat.lt_of_lt_of_le HR.out.lt hbw1.size); have hthere : w3.there (w.heap.size + 1 + 1) 0 cs.length := (by have h := has_there hR3; rw [arr32_size [] (by simp)] at h; rw [hcl]; exact h); clear hcs hcs2))
  have hR4 : Has (w3.setCells (w.heap.size + 1 + 1) 0 cs) (w.heap.size + 1 + 1) 26 cs.toArray := has_setCells cs [] ([].map BV ++ List.replicate (32 - ([] : List Nat).length) (Value.int .u8 0)) w3 (by simp [hcl]) hR3
  have hw1 : W.heap.size ≤ w1.heap.size := hbw1.size
  have hwW : w.heap.size ≤ W.heap.size := by omega
  have hB4 : Below w.heap.size w (w3.setCells (w.heap.size + 1 + 1) 0 cs) := below_setCells (by omega) cs 0 w3 ((HB.out.trans (hbw1.mono hwW)).trans (hbel.mono (by omega)))
  generalize w3.setCells (w.heap.size + 1 + 1) 0 cs = V at *
  have HR4 := Lib.hid hR4
  have HB4 := Lib.hid hB4
  have HI32 : Hid ((Tryd.prog.info? 26).map (·.size) = some cs.toArray.size) := Lib.hid (by rw [List.size_toArray]; exact hinfo)
  clear hR4 hB4 hbel hR3 hthere ho hbw1 hinfo hone
  go_wp2
  exact bodyPost_ret (results_cell_row (P := Tryd.prog) rfl _ _ (w.heap.size + 1 + 1) 26 cs.toArray (0, 0) _ rfl HR4.out Tryd.underlying26 rfl HI32.out) rfl ⟨by rw [HCS.out], hol, HB4.out⟩
end Go.Proofs.YtillghidmfglpaaDoor
end
section
namespace Go.Proofs.YtillghidmfglpaaDoor
open Go.RowKit Go.Hoar
/-- The greatest power of 2 below n. -/
def halfOf (n : Nat) : Nat := 2 ^ (Lib.bitLen (n - 1) - 1)
theorem halfOf_bounds {n : Nat} (h2 : 2 ≤ n) (hn : n ≤ 140737488355328) : 1 ≤ Lib.bitLen (n - 1) ∧ halfOf n ≤ n - 1 ∧ n - 1 < 2 * halfOf n := by
  have h := Lib.bitLenAux_bounds 64 (n - 1) (by omega) (by omega)
  refine ⟨h.1, h.2.1, ?_⟩
  have e : 2 * halfOf n = 2 ^ Lib.bitLen (n - 1) := by
    have h1 : 1 ≤ Lib.bitLen (n - 1) := h.1
    rw [halfOf, ← Nat.pow_succ', Nat.succ_eq_add_one, Nat.sub_add_cancel h1]
  rw [e]
  exact h.2.2
theorem wrap_pow (d : Nat) (hd : d ≤ 47) : wrap64 ((2 : Int) ^ d) = ((2 ^ d : Nat) : Int) := by
  have h2 : (2 : Nat) ^ d ≤ 2 ^ 47 := Nat.pow_le_pow_right (by decide) hd
  have e : (2 : Int) ^ d = ((2 ^ d : Nat) : Int) := by simp
  rw [e]
  generalize (2 : Nat) ^ d = p at *
  unfold wrap64
  omega
theorem half_any (n : Nat) (h2 : 2 ≤ n) (hn : n ≤ 140737488355328) (w : World) :
    Calls Tryd.prog 94 #[.int .i64 (n : Int)] w fun e w' => e = .returned (.int .i64 ((halfOf n : Nat) : Int)) ∧ w' = w := by
  obtain ⟨b1, b2, _⟩ := halfOf_bounds h2 hn
  have hd : Lib.bitLen (n - 1) - 1 ≤ 47 := by
    by_cases k : Lib.bitLen (n - 1) - 1 ≤ 47
    · exact k
    · have : 2 ^ 48 ≤ halfOf n := Nat.pow_le_pow_right (by decide) (by omega)
      omega
  obtain ⟨d, hde⟩ : ∃ d, Lib.bitLen (n - 1) = d + 1 := ⟨Lib.bitLen (n - 1) - 1, by omega⟩
  have hh : halfOf n = 2 ^ d := by rw [halfOf, hde, Nat.add_sub_cancel]
  have hd2 : d ≤ 47 := by omega
  have HW := Lib.hid (wrap_pow d hd2)
  have hlen : ∀ w, Calls Tryd.prog 109 #[.int .u64 ((n : Int) - 1)] w fun e w' => e = .returned (.int .i64 ((d : Int) + 1)) ∧ w' = w := fun w => by
    have h := Tryd.bits_Len ((n : Int) - 1) w (by omega) (by omega)
    have e : ((n : Int) - 1).toNat = n - 1 := by omega
    rw [e, hde] at h
    exact h
  rw [hh]
  have HLen := Lib.hid hlen
  clear hlen hh hde b1 b2 hd
  go_enter Tryd.func94, Tryd.ntmps94
  go_wp2_with (go_at_call 109; refine (HLen.out _).mono ?_; rintro e w' ⟨rfl, rfl⟩)
  go_ret
  exact ⟨congrArg (fun x => Ending.returned (.int .i64 x)) HW.out, rfl⟩
end Go.Proofs.YtillghidmfglpaaDoor
end
section
namespace Go.Proofs.YtillghidmfglpaaDoor
open Go.RowKit Go.Hoar
set_option maxHeartbeats 1000000 in
theorem cut_any (g off n c : Nat) (h2 : 2 ≤ n) (hn : n ≤ 140737488355328) (hnc : n ≤ c) (hcm : c ≤ maxLen) (h : Nat) (hh : Hid (h = halfOf n)) (w : World) :
    Calls Tryd.prog 68 #[.slice (some ⟨g, off, none⟩) n c] w fun e w' => e = .returned (.tuple #[.slice (some ⟨g, off, none⟩) h c, .slice (some ⟨g, off + h * 32, none⟩) (n - h) (c - h)]) ∧ Below w.heap.size w w' := by
  obtain ⟨_, b2, _⟩ := halfOf_bounds h2 hn
  rw [← hh.out] at b2
  have hhalf := half_any n h2 hn
  rw [← hh.out] at hhalf
  unfold maxLen at hcm
  have hlt : h < c := by omega
  have hlt2 : h ≤ n := by omega
  have hne : ¬ c = h := by omega
  go_enter Tryd.func68, Tryd.ntmps68
  go_wp2_with (go_at_call 94; refine (hhalf _).mono ?_; rintro e w' ⟨rfl, rfl⟩)
  go_quiet (fail)
  go_wp2
  exact bodyPost_ret (results_tmp2 rfl _ _ _) rfl ⟨rfl, below_drewN (Below.refl _ _) _⟩
end Go.Proofs.YtillghidmfglpaaDoor
end
section
namespace Go.Proofs.YtillghidmfglpaaDoor
open Go.RowKit Go.Hoar
/-- The digest of a list of digests. -/
def listOf : Nat → List (List Nat) → List Nat
  | 0, _ => []
  | f + 1, ls =>
    match ls with
    | [] => Sha.sha [0]
    | [x] => Sha.sha (1 :: x)
    | x :: y :: r => Sha.sha (2 :: (listOf f ((x :: y :: r).take (halfOf (r.length + 2))) ++ listOf f ((x :: y :: r).drop (halfOf (r.length + 2)))))
/-- So many digests at an address. -/
def SumsAt (w : World) (g off : Nat) (ls : List (List Nat)) : Prop := ∀ i, ∀ l, ls[i]? = some l → l.length = 32 ∧ Sha.Bytes l ∧ ∀ j, j < 32 → w.cell? ⟨g, off + i * 32 + j, none⟩ = some (.int .u8 ((l.getD j 0 : Nat) : Int))
theorem SumsAt.below {w w' : World} {g off : Nat} {ls : List (List Nat)} (h : SumsAt w g off ls) (hg : g < w.heap.size) (hb : Below w.heap.size w w') : SumsAt w' g off ls := fun i l hi => ⟨(h i l hi).1, (h i l hi).2.1, fun j hj => (hb.cell hg).trans ((h i l hi).2.2 j hj)⟩
theorem SumsAt.take {w : World} {g off : Nat} {ls : List (List Nat)} (h : SumsAt w g off ls) (n : Nat) : SumsAt w g off (ls.take n) := fun i l hi => h i l (by rw [List.getElem?_take] at hi; split at hi; exact hi; cases hi)
theorem SumsAt.drop {w : World} {g off : Nat} {ls : List (List Nat)} (h : SumsAt w g off ls) (n : Nat) : SumsAt w g (off + n * 32) (ls.drop n) := fun i l hi => by
  rw [List.getElem?_drop] at hi
  have := h (n + i) l hi
  refine ⟨this.1, this.2.1, fun j hj => ?_⟩
  rw [show off + n * 32 + i * 32 + j = off + (n + i) * 32 + j by omega]
  exact this.2.2 j hj
/-- What lies at a place is read whole. -/
theorem SumsAt.row {w : World} {g off : Nat} {ls : List (List Nat)} (h : SumsAt w g off ls) {i : Nat} {l : List Nat} (hi : ls[i]? = some l) : ∀ j u, (arr32 l)[j]? = some u → w.cell? ((⟨g, off + i * 32, none⟩ : Addr).add j) = some u := fun j u hj => by
  obtain ⟨hl, _, hc⟩ := h i l hi
  have hj' : j < 32 := by
    have := (Array.getElem?_eq_some_iff.1 hj).1
    rwa [arr32_size l (by omega)] at this
  have hadd : (⟨g, off + i * 32, none⟩ : Addr).add j = ⟨g, off + i * 32 + j, none⟩ := by unfold Addr.add; split <;> simp_all
  rw [hadd, hc j hj', ← hj, arr32_get l hl j hj']
theorem sha_bytes (b : List Nat) : (Sha.sha b).length = 32 ∧ Sha.Bytes (Sha.sha b) := by
  have hw : Sha.Words (Sha.all (Sha.all Sha.first b) (b.drop (64 * (b.length / 64)) ++ Sha.pad b.length)) := Sha.takes_words (Sha.takes_words Sha.first_words _ _) _ _
  have hl : (Sha.all (Sha.all Sha.first b) (b.drop (64 * (b.length / 64)) ++ Sha.pad b.length)).length = 8 := by rw [Sha.all, Sha.takes_length, Sha.all, Sha.takes_length]; rfl
  have e : Sha.sha b = Sha.bytes (Sha.all (Sha.all Sha.first b) (b.drop (64 * (b.length / 64)) ++ Sha.pad b.length)) := Eq.refl _
  rw [e]
  generalize Sha.all (Sha.all Sha.first b) (b.drop (64 * (b.length / 64)) ++ Sha.pad b.length) = H at *
  refine ⟨by rw [bytes_length, hl], fun x hx => ?_⟩
  rw [Sha.bytes, List.mem_flatMap] at hx
  obtain ⟨y, hy, hx⟩ := hx
  have := hw y hy
  simp only [List.mem_cons, List.not_mem_nil, or_false] at hx
  rcases hx with rfl | rfl | rfl | rfl <;> omega
set_option maxRecDepth 100000 in
set_option maxHeartbeats 1000000 in
theorem list_none (a : Option Addr) (c : Nat) (w : World) (hc : ConstAt w) (out : List Nat) (hout : Hid (out = Sha.sha [0])) :
    Calls Tryd.prog 33 #[.slice a 0 c] w fun e w' => e = .returned (.agg (arr32 out)) ∧ out.length = 32 ∧ Below w.heap.size w w' := by
  have hof : ∀ (V : World) (g : Nat), Has V g 5 #[.int .u8 0] → ConstAt V → Calls Tryd.prog 17 #[.slice (some ⟨g, 0, none⟩) 1 1] V fun e w' => e = .returned (.agg (arr32 out)) ∧ out.length = 32 ∧ Below V.heap.size V w' := fun V g h hcv =>
    of_any [0] (some ⟨g, 0, none⟩) 1 V (pad_part (bs := [0]) h) (fun x hx => by rw [List.mem_singleton.1 hx]; decide) (by decide) (fun _ _ _ => ⟨Nat.le_refl _, by decide⟩) hcv out hout
  have HOf := Lib.hid hof
  clear hof
  go_enter Tryd.func33, Tryd.ntmps33
  go_upto_region 1 with (fail)
  refine gen_world (P := fun W => Code.wp _ _ _ _ W) (I := fun W => Below w.heap.size w W ∧ Has W w.heap.size 26 (arr32 []) ∧ W.heap.size = w.heap.size + 1) _ ⟨(Below.refl _ w).alloc (Nat.le_refl _) _, Has.fresh_at _ _ _ _ rfl, by simp⟩ ?_
  rintro W ⟨hB, hR, hsz⟩
  have HC := Lib.hid (hc.below (hB.alloc hB.size (.cells #[.int .u8 0] 5)) rfl)
  have HBa := Lib.hid (hB.alloc hB.size (.cells #[.int .u8 0] 5))
  have HRa := Lib.hid (hR.alloc (.cells #[.int .u8 0] 5))
  clear hB hR hc
  go_wp2_with (first
    | (go_at_call 17; refine (HOf.out _ _ (Has.fresh_at W 5 _ (w.heap.size + 1) hsz.symm) HC.out).mono ?_; rintro e w3 ⟨rfl, hol, hbel⟩; have HB3 := Lib.hid hbel; have HR3 := Lib.hid (HRa.out.below hbel HRa.out.lt); have HI32 := Lib.hid (arr32_info out (by omega)); have HS32 := Lib.hid ((arr32_size [] (by simp)).trans (arr32_size out (by omega)).symm); clear hbel)
    | ((with_reducible refine arm_store w.heap.size _ _ _ HR3.out HS32.out HI32.out (arr32_one _) ?h5 ?h6 ?_); (case h5 => rfl); (case h6 => rfl)))
  exact bodyPost_ret (results_cell_row (P := Tryd.prog) rfl _ _ w.heap.size 26 (arr32 out) (0, 0) _ rfl HR3.out.setRow Tryd.underlying26 rfl HI32.out) rfl ⟨rfl, hol, below_setRow (HBa.out.trans (HB3.out.mono HBa.out.size)) (Nat.le_refl _) _⟩
set_option maxRecDepth 100000 in
set_option maxHeartbeats 1000000 in
theorem list_one (l : List Nat) (g off c : Nat) (w : World) (hc : ConstAt w) (hs : SumsAt w g off [l]) (hg : g < w.heap.size) (hcm : c ≤ maxLen) (h1c : 1 ≤ c) (out : List Nat) (hout : Hid (out = Sha.sha (1 :: l))) :
    Calls Tryd.prog 33 #[.slice (some ⟨g, off, none⟩) 1 c] w fun e w' => e = .returned (.agg (arr32 out)) ∧ out.length = 32 ∧ Below w.heap.size w w' := by
  obtain ⟨hl, hlb, _⟩ := hs 0 l rfl
  unfold maxLen at hcm
  have HI := Lib.hid (arr32_info l (by omega))
  go_enter Tryd.func33, Tryd.ntmps33
  go_upto_region 1 with (fail)
  refine gen_world (P := fun W => Code.wp _ _ _ _ W) (I := fun W => Below w.heap.size w W ∧ Has W w.heap.size 26 (arr32 [])) _ ⟨(Below.refl _ w).alloc (Nat.le_refl _) _, Has.fresh_at _ _ _ _ rfl⟩ ?_
  rintro W ⟨hB, hR⟩
  have HC := Lib.hid (hc.below hB rfl)
  have hrow := (hs.below hg hB).row (i := 0) (l := l) rfl
  rw [Nat.zero_mul, Nat.add_zero] at hrow
  have HRow := Lib.hid hrow
  have HB := Lib.hid hB
  have HR := Lib.hid hR
  clear hB hR hc hs hrow
  go_wp2_with (first
    | ((with_reducible refine arm_load ⟨g, off, none⟩ _ _ HRow.out Tryd.underlying26 HI.out ?h1 ?h2 ?_); (case h1 => rfl); (case h2 => rfl))
    | (go_at_call 67; refine (leaf_any l hl hlb _ HC.out out hout).mono ?_; rintro e w3 ⟨rfl, hol, hbel⟩; have HB3 := Lib.hid hbel; have HR3 := Lib.hid (HR.out.below hbel HR.out.lt); have HI32 := Lib.hid (arr32_info out (by omega)); have HS32 := Lib.hid ((arr32_size [] (by simp)).trans (arr32_size out (by omega)).symm); clear hbel)
    | ((with_reducible refine arm_store w.heap.size _ _ _ HR3.out HS32.out HI32.out (arr32_one _) ?h5 ?h6 ?_); (case h5 => rfl); (case h6 => rfl)))
  exact bodyPost_ret (results_cell_row (P := Tryd.prog) rfl _ _ w.heap.size 26 (arr32 out) (0, 0) _ rfl HR3.out.setRow Tryd.underlying26 rfl HI32.out) rfl ⟨rfl, hol, below_setRow (HB.out.trans (HB3.out.mono HB.out.size)) (Nat.le_refl _) _⟩
theorem listOf_bytes (f : Nat) (ls : List (List Nat)) : Sha.Bytes (listOf f ls) := by
  match f, ls with
  | 0, _ => intro x hx; rw [listOf] at hx; cases hx
  | f + 1, [] => rw [listOf]; exact (sha_bytes _).2
  | f + 1, [x] => rw [listOf]; exact (sha_bytes _).2
  | f + 1, x :: y :: r => rw [listOf]; exact (sha_bytes _).2
theorem halfOf_pos (n : Nat) : 0 < halfOf n := Nat.two_pow_pos _
def ListOk (f : Nat) : Prop := ∀ (ls : List (List Nat)) (g off c : Nat) (w : World), ls.length < f → 0 < ls.length → ls.length ≤ c → c ≤ maxLen → ls.length ≤ 140737488355328 → SumsAt w g off ls → g < w.heap.size → ConstAt w → ∀ out, Hid (out = listOf f ls) →
    Calls Tryd.prog 33 #[.slice (some ⟨g, off, none⟩) ls.length c] w fun e w' => e = .returned (.agg (arr32 out)) ∧ out.length = 32 ∧ Below w.heap.size w w'
set_option maxRecDepth 100000 in
set_option maxHeartbeats 2000000 in
theorem list_step (f : Nat) (ih : ListOk f) (ls : List (List Nat)) (n : Nat) (hnl : n = ls.length) (h2 : 2 ≤ n) (g off c : Nat) (w : World) (hf : n < f + 1) (hnc : n ≤ c) (hcm : c ≤ maxLen) (hn : n ≤ 140737488355328) (hs : SumsAt w g off ls) (hg : g < w.heap.size) (hc : ConstAt w) (out : List Nat)
    (hlo : out = Sha.sha (2 :: (listOf f (ls.take (halfOf n)) ++ listOf f (ls.drop (halfOf n))))) :
    Calls Tryd.prog 33 #[.slice (some ⟨g, off, none⟩) n c] w fun e w' => e = .returned (.agg (arr32 out)) ∧ out.length = 32 ∧ Below w.heap.size w w' := by
  obtain ⟨_, b2, _⟩ := halfOf_bounds h2 hn
  have b0 := halfOf_pos n
  obtain ⟨h, hh⟩ : ∃ h, h = halfOf n := ⟨_, rfl⟩
  rw [← hh] at b2 b0 hlo
  have lt1 : (ls.take h).length = h := by rw [List.length_take]; omega
  have lt2 : (ls.drop h).length = n - h := by rw [List.length_drop]; omega
  obtain ⟨A, hA⟩ : ∃ A, A = listOf f (ls.take h) := ⟨_, rfl⟩
  obtain ⟨B, hB⟩ : ∃ B, B = listOf f (ls.drop h) := ⟨_, rfl⟩
  have hAb : Sha.Bytes A := by rw [hA]; exact listOf_bytes _ _
  have hBb : Sha.Bytes B := by rw [hB]; exact listOf_bytes _ _
  rw [← hA, ← hB] at hlo
  have hfirst : ∀ V, Below w.heap.size w V → Calls Tryd.prog 33 #[.slice (some ⟨g, off, none⟩) h c] V fun e w' => e = .returned (.agg (arr32 A)) ∧ A.length = 32 ∧ Below V.heap.size V w' := fun V hv => by
    have k := ih (ls.take h) g off c V (by rw [lt1]; omega) (by rw [lt1]; omega) (by rw [lt1]; omega) hcm (by rw [lt1]; omega) ((hs.below hg hv).take h) (Nat.lt_of_lt_of_le hg hv.size) (hc.below hv rfl) A (Lib.hid hA)
    rwa [lt1] at k
  have hrest : ∀ V, Below w.heap.size w V → Calls Tryd.prog 33 #[.slice (some ⟨g, off + h * 32, none⟩) (n - h) (c - h)] V fun e w' => e = .returned (.agg (arr32 B)) ∧ B.length = 32 ∧ Below V.heap.size V w' := fun V hv => by
    have k := ih (ls.drop h) g (off + h * 32) (c - h) V (by rw [lt2]; omega) (by rw [lt2]; omega) (by rw [lt2]; omega) (by omega) (by rw [lt2]; omega) ((hs.below hg hv).drop h) (Nat.lt_of_lt_of_le hg hv.size) (hc.below hv rfl) B (Lib.hid hB)
    rwa [lt2] at k
  have hpair : ∀ V, Below w.heap.size w V → A.length = 32 → B.length = 32 → Calls Tryd.prog 69 #[.agg (arr32 A), .agg (arr32 B)] V fun e w' => e = .returned (.agg (arr32 out)) ∧ out.length = 32 ∧ Below V.heap.size V w' := fun V hv ha hb => pair_any A B ha hb hAb hBb V (hc.below hv rfl) out (Lib.hid hlo)
  have hcut := cut_any g off n c h2 hn hnc hcm h (Lib.hid hh)
  unfold maxLen at hcm
  have HF := Lib.hid hfirst
  have HS := Lib.hid hrest
  have HP := Lib.hid hpair
  have HK := Lib.hid hcut
  have n0 : ¬ n = 0 := by omega
  have n1 : ¬ n = 1 := by omega
  clear hfirst hrest hpair hcut hs hc hA hB hlo lt1 lt2 hnl hh ih
  go_enter Tryd.func33, Tryd.ntmps33
  go_upto_region 1 with (fail)
  refine gen_world (P := fun W => Code.wp _ _ _ _ W) (I := fun W => Below w.heap.size w W ∧ Has W w.heap.size 26 (arr32 [])) _ ⟨(Below.refl _ w).alloc (Nat.le_refl _) _, Has.fresh_at _ _ _ _ rfl⟩ ?_
  rintro W ⟨hBW, hRW⟩
  have HB := Lib.hid hBW
  have HR := Lib.hid hRW
  clear hBW hRW
  go_wp2_with (first
    | (go_at_call 68; refine (HK.out _).mono ?_; rintro e w1 ⟨rfl, hb1⟩; have HB1 := Lib.hid (HB.out.trans (hb1.mono HB.out.size)); have HR1 := Lib.hid (HR.out.below hb1 HR.out.lt); clear hb1)
    | (go_at_call_of 33 (Value.slice (some ⟨g, off, none⟩) h c); refine (HF.out _ HB1.out).mono ?_; rintro e w2 ⟨rfl, hal, hb2⟩; have HB2 := Lib.hid (HB1.out.trans (hb2.mono HB1.out.size)); have HR2 := Lib.hid (HR1.out.below hb2 HR1.out.lt); clear hb2)
    | (go_at_call 33; refine (HS.out _ HB2.out).mono ?_; rintro e w3 ⟨rfl, hbl, hb3⟩; have HB3 := Lib.hid (HB2.out.trans (hb3.mono HB2.out.size)); have HR3 := Lib.hid (HR2.out.below hb3 HR2.out.lt); clear hb3)
    | (go_at_call 69; refine (HP.out _ HB3.out hal hbl).mono ?_; rintro e w4 ⟨rfl, hol, hb4⟩; have HB4 := Lib.hid (HB3.out.trans (hb4.mono HB3.out.size)); have HR4 := Lib.hid (HR3.out.below hb4 HR3.out.lt); have HI32 := Lib.hid (arr32_info out (by omega)); have HS32 := Lib.hid ((arr32_size [] (by simp)).trans (arr32_size out (by omega)).symm); clear hb4)
    | ((with_reducible refine arm_store w.heap.size _ _ _ HR4.out HS32.out HI32.out (arr32_one _) ?h5 ?h6 ?_); (case h5 => rfl); (case h6 => rfl)))
  exact bodyPost_ret (results_cell_row (P := Tryd.prog) rfl _ _ w.heap.size 26 (arr32 out) (0, 0) _ rfl HR4.out.setRow Tryd.underlying26 rfl HI32.out) rfl ⟨rfl, hol, below_setRow HB4.out (Nat.le_refl _) _⟩
theorem list_any : ∀ (f : Nat), ListOk f
  | 0 => fun _ _ _ _ _ h _ _ _ _ _ _ _ _ _ => absurd h (Nat.not_lt_zero _)
  | f + 1 => fun ls g off c w hf hp hnc hcm hn hs hg hc out hout => by
    match ls, hf, hp, hnc, hn, hs, hout with
    | [], _, hp, _, _, _, _ => exact absurd hp (Nat.lt_irrefl _)
    | [x], _, _, h1, _, hs, hout => exact list_one x g off c w hc hs hg hcm h1 out (Lib.hid (hout.out.trans (by rw [listOf])))
    | x :: y :: r, hf, _, hnc, hn, hs, hout => exact list_step f (list_any f) (x :: y :: r) _ rfl (by simp) g off c w hf hnc hcm hn hs hg hc out (hout.out.trans (by rw [listOf]; exact Eq.refl _))
end Go.Proofs.YtillghidmfglpaaDoor
end
section
namespace Go.Proofs.YtillghidmfglpaaDoor
open Go.RowKit Go.Hoar
/-- Which digest begins with such digits: its place, and 0; or 0 and an error. -/
def findGo (ds : List Nat) : Nat → Option (Nat × List Nat) → List (List Nat) → Int × Int
  | _, none, [] => (0, 6)
  | _, some (j, _), [] => ((j : Nat), 0)
  | k, f, x :: r => if Starts x ds then (match f with | none => findGo ds (k + 1) (some (k, x)) r | some (_, y) => if x = y then findGo ds (k + 1) f r else (0, 7)) else findGo ds (k + 1) f r
def foundV : Option (Nat × List Nat) → Int
  | none => -1
  | some (j, _) => (j : Nat)
def FoundOk (ls : List (List Nat)) (k : Nat) : Option (Nat × List Nat) → Prop
  | none => True
  | some (j, y) => j < k ∧ ls[j]? = some y
theorem findGo_not {ds : List Nat} {k : Nat} {f : Option (Nat × List Nat)} {x : List Nat} {r : List (List Nat)} (h : ¬ Starts x ds) : findGo ds k f (x :: r) = findGo ds (k + 1) f r := by
  cases f <;> rw [findGo, if_neg h]
theorem findGo_first {ds : List Nat} {k : Nat} {x : List Nat} {r : List (List Nat)} (h : Starts x ds) : findGo ds k none (x :: r) = findGo ds (k + 1) (some (k, x)) r := by rw [findGo, if_pos h]
theorem findGo_same {ds : List Nat} {k j : Nat} {x : List Nat} {r : List (List Nat)} (h : Starts x ds) : findGo ds k (some (j, x)) (x :: r) = findGo ds (k + 1) (some (j, x)) r := by rw [findGo, if_pos h]; simp
theorem findGo_clash {ds : List Nat} {k j : Nat} {x y : List Nat} {r : List (List Nat)} (h : Starts x ds) (hxy : x ≠ y) : findGo ds k (some (j, y)) (x :: r) = (0, 7) := by rw [findGo, if_pos h]; simp [hxy]
theorem drop_at {α : Type} {l : List α} {k : Nat} {x : α} (h : l[k]? = some x) : l.drop k = x :: l.drop (k + 1) := by
  obtain ⟨hlt, rfl⟩ := List.getElem?_eq_some_iff.1 h
  exact List.drop_eq_getElem_cons hlt
theorem load_sum {w : World} {g off : Nat} {l : List Nat} (hl : l.length = 32) (h : ∀ j, j < 32 → w.cell? ⟨g, off + j, none⟩ = some (.int .u8 ((l.getD j 0 : Nat) : Int))) (m : Nat) : Sem.run Tryd.prog (loadCellsFrom ⟨g, off, none⟩ 0 32 #[]) (w.drewN m) = .ok (arr32 l) (w.drewN m) := by
  have hs : (l.map BV).length = 32 := by rw [List.length_map, hl]
  rw [arr32_full l hl]
  refine run_loadCellsFrom_list Tryd.prog _ _ (l.map BV) 32 hs (fun i v hi => ?_)
  have hi32 : i < 32 := by have := (List.getElem?_eq_some_iff.1 hi).1; rwa [hs] at this
  rw [World.cell?_drewN, Addr.add_lit, h i hi32, ← hi, List.getElem?_map, List.getD_eq_getElem?_getD, List.getElem?_eq_getElem (by omega)]
  rfl
abbrev zero32 : Array Value := #[.int .u8 0, .int .u8 0, .int .u8 0, .int .u8 0, .int .u8 0, .int .u8 0, .int .u8 0, .int .u8 0, .int .u8 0, .int .u8 0, .int .u8 0, .int .u8 0, .int .u8 0, .int .u8 0, .int .u8 0, .int .u8 0, .int .u8 0, .int .u8 0, .int .u8 0, .int .u8 0, .int .u8 0, .int .u8 0, .int .u8 0, .int .u8 0, .int .u8 0, .int .u8 0, .int .u8 0, .int .u8 0, .int .u8 0, .int .u8 0, .int .u8 0, .int .u8 0]
theorem fresh_sum (w : World) : Has (w.alloc (.cells zero32 26)) w.heap.size 26 zero32 := Has.fresh w _ _
theorem zero32_size (x : List Nat) (h : x.length ≤ 32) : zero32.size = (arr32 x).size := (arr32_size x h).symm
theorem has_sum {w : World} {g : Nat} {t : TypeId} {l : List Nat} (h : Has w g t (arr32 l)) (hl : l.length = 32) : ∀ j, j < 32 → w.cell? ⟨g, 0 + j, none⟩ = some (.int .u8 ((l.getD j 0 : Nat) : Int)) := fun j hj => by
  rw [Nat.zero_add, h.cell]
  exact arr32_get l hl j hj
set_option maxRecDepth 100000 in
set_option maxHeartbeats 1000000 in
theorem find_many (s : ByteArray) (h : s.size < 1 ∨ 64 < s.size) (hsz : s.size ≤ 1099511627776) (v : Value) (w : World) :
    Calls Tryd.prog 45 #[.string s, v] w fun e w' => e = .returned (.tuple #[.int .i64 0, .int .i64 2]) ∧ w' = w := by
  rcases h with h | h
  · have h0 : s.size = 0 := by omega
    have hi : (s.size : Int) < 1 := by omega
    go_enter Tryd.func45, Tryd.ntmps45
    go_wp2
    go_ret2
    exact ⟨rfl, rfl⟩
  · have h1 : ¬ (s.size : Int) < 1 := by omega
    have h2 : (64 : Int) < s.size := by omega
    go_enter Tryd.func45, Tryd.ntmps45
    go_wp2
    go_ret2
    exact ⟨rfl, rfl⟩
set_option maxRecDepth 100000 in
set_option maxHeartbeats 1000000 in
theorem find_form (s : ByteArray) (h1 : 1 ≤ s.size) (h2 : s.size ≤ 64) (hd : ¬ AllDig s) (v : Value) (w : World) :
    Calls Tryd.prog 45 #[.string s, v] w fun e w' => e = .returned (.tuple #[.int .i64 0, .int .i64 4]) ∧ Below w.heap.size w w' := by
  have hdig : ∀ V, Calls Tryd.prog 63 #[.string s] V fun e w' => e = .returned (.tuple #[.slice none 0 0, .bool false]) ∧ Below V.heap.size V w' := fun V =>
    (digits_any s (by omega) V).mono (by rintro e w' ⟨⟨k, _⟩ | ⟨_, rfl⟩, hb⟩; exact absurd k hd; exact ⟨rfl, hb⟩)
  have HD := Lib.hid hdig
  have i1 : ¬ (s.size : Int) < 1 := by omega
  have i2 : ¬ (64 : Int) < s.size := by omega
  clear hdig hd
  go_enter Tryd.func45, Tryd.ntmps45
  go_wp2_with (first
    | (go_at_call 63; refine (HD.out _).mono ?_; rintro e w1 ⟨rfl, hbel⟩; have HB1 := Lib.hid hbel; clear hbel))
  go_ret2
  exact ⟨rfl, HB1.out⟩
set_option maxRecDepth 100000 in
set_option maxHeartbeats 3000000 in
theorem find_any (s : ByteArray) (h1 : 1 ≤ s.size) (h2 : s.size ≤ 64) (hd : AllDig s) (ls : List (List Nat)) (g off c : Nat) (w : World) (hs : SumsAt w g off ls) (hg : g < w.heap.size) (hc : ls.length ≤ c) (hcm : c ≤ maxLen) (hn : ls.length ≤ 1073741824) (out : Int × Int) (hout : Hid (out = findGo (digsK s s.size) 0 none ls)) :
    Calls Tryd.prog 45 #[.string s, .slice (some ⟨g, off, none⟩) ls.length c] w fun e w' => e = .returned (.tuple #[.int .i64 out.1, .int .i64 out.2]) ∧ Below w.heap.size w w' := by
  obtain ⟨ds, hds⟩ : ∃ ds, ds = digsK s s.size := ⟨_, rfl⟩
  have hdl : ds.length = s.size := by rw [hds, digsK_length]
  have hdb : Sha.Bytes ds := fun x hx => by
    rw [hds, digsK, List.mem_map] at hx
    obtain ⟨i, hi, rfl⟩ := hx
    have := valOf_lt (hd i (List.mem_range.1 hi))
    omega
  have hdig : ∀ V, Calls Tryd.prog 63 #[.string s] V fun e w' => ∃ gd, e = .returned (.tuple #[.slice (some ⟨gd, 0, none⟩) ds.length ds.length, .bool true]) ∧ gd < w'.heap.size ∧ BytesAt w' gd 0 ds.length ds ∧ Below V.heap.size V w' := fun V =>
    (digits_any s (by omega) V).mono (by
      rintro e w' ⟨⟨_, rfl, ho⟩ | ⟨k, _⟩, hb⟩
      · refine ⟨_, by rw [hdl], (ho.lt _ rfl).2, fun i hi => ?_, hb⟩
        rw [Nat.zero_add, digs_cell ho i (by omega), hds, List.getD_eq_getElem?_getD, digsK, List.getElem?_map, List.getElem?_range (by omega)]
        rfl
      · exact absurd hd k)
  rw [← hds] at hout
  have hd64 : ds.length ≤ 64 := by omega
  have hdc : ds.length ≤ maxLen := by unfold maxLen; omega
  have i1 : ¬ (s.size : Int) < 1 := by omega
  have i2 : ¬ (64 : Int) < s.size := by omega
  have HD := Lib.hid hdig
  have HS := Lib.hid hs
  unfold maxLen at hcm
  clear hdig hd hds hs
  go_enter Tryd.func45, Tryd.ntmps45
  go_wp2_with (first
    | (go_at_call 63; refine (HD.out _).mono ?_; rintro e w1 ⟨gd, rfl, hgd, hbytes, hbel⟩; have HB1 := Lib.hid hbel; have HY1 := Lib.hid hbytes; clear hbel hbytes))
  go_loopw [8, 28] (fun f i wr => ∃ (k : Nat) (q : Option (Nat × List Nat)) (z : Int), k ≤ ls.length ∧ i = .int .i64 k ∧ f = .int .i64 z ∧ Hid (findGo ds k q (ls.drop k) = findGo ds 0 none ls) ∧ ((z = -1 ∧ q = none) ∨ ∃ (j : Nat) (y : List Nat), z = (j : Int) ∧ q = some (j, y) ∧ j < k ∧ ls[j]? = some y) ∧ Below w1.heap.size w1 wr) (fun _ i _ => ls.length - (intOf i).toNat)
  case atStart => exact ⟨0, none, -1, Nat.zero_le _, rfl, rfl, rfl, .inl ⟨rfl, rfl⟩, Below.refl _ _⟩
  case round =>
    obtain ⟨k, q, z, hk, rfl, rfl, HQ, hz, hB⟩ := hrel
    by_cases hlt : k < ls.length
    · obtain ⟨x, hx⟩ : ∃ x, ls[k]? = some x := ⟨_, List.getElem?_eq_getElem hlt⟩
      have hsw := HS.out.below hg HB1.out
      have hg1 : g < w1.heap.size := Nat.lt_of_lt_of_le hg HB1.out.size
      obtain ⟨hxl, hxb, _⟩ := hsw k x hx
      have hsr := hsw.below hg1 hB
      have HRow := Lib.hid (hsr.row hx)
      have HSr := Lib.hid hsr
      have HI := Lib.hid (arr32_info x (by omega))
      have HSz := Lib.hid (zero32_size x (by omega))
      have HF := Lib.hid (fresh_sum wr)
      have HY2 : Hid (BytesAt wr gd 0 ds.length ds) := Lib.hid fun i hi => (hB.cell hgd).trans (HY1.out i hi)
      have hgr : g < wr.heap.size := Nat.lt_of_lt_of_le hg1 hB.size
      have hgdr : gd < wr.heap.size := Nat.lt_of_lt_of_le hgd hB.size
      have HB := Lib.hid hB
      have HX := Lib.hid (drop_at hx)
      have HZ := Lib.hid hz
      clear hB hsw hsr hz
      go_upto_region 10 with (first
        | ((with_reducible refine arm_load (w := wr) ⟨g, off + k * 32, none⟩ _ _ HRow.out Tryd.underlying26 HI.out ?h1 ?h2 ?_); (case h1 => rfl); (case h2 => rfl))
        | ((with_reducible refine arm_store wr.heap.size (arr32 x) 26 zero32 HF.out HSz.out HI.out (arr32_one _) ?h5 ?h6 ?_); (case h5 => rfl); (case h6 => rfl)))
      refine gen_world (P := fun W => Code.wp _ _ _ _ W) (I := fun V => Below wr.heap.size wr V ∧ Has V wr.heap.size 26 (arr32 x)) _ ⟨below_setRow ((Below.refl _ wr).alloc (Nat.le_refl _) _) (Nat.le_refl _) _, HF.out.setRow⟩ ?_
      rintro V ⟨hBV, hxV⟩
      have hgdV : gd < V.heap.size := Nat.lt_of_lt_of_le hgdr hBV.size
      have hbeg := begins_any x ds hxl hxb hdb hd64 gd 0 ds.length V (Nat.le_refl _) hdc hgdV (fun i hi => (hBV.cell hgdr).trans (HY2.out i hi))
      rw [hdl] at hbeg
      have HBeg := Lib.hid hbeg
      have HBV := Lib.hid hBV
      have HXr := Lib.hid hxV.row
      have HXV := Lib.hid hxV
      clear hbeg hBV hxV
      by_cases hst : Starts x ds
      · have hdec : decide (Starts x ds) = true := decide_eq_true hst
        rcases HZ.out with ⟨rfl, rfl⟩ | ⟨j, y, rfl, rfl, hjk, hy⟩
        · have HStep : Hid (findGo ds (k + 1) (some (k, x)) (ls.drop (k + 1)) = findGo ds 0 none ls) := Lib.hid ((findGo_first (k := k) (r := ls.drop (k + 1)) hst).symm.trans (HX.out ▸ HQ.out))
          go_wp2_with (first
            | ((with_reducible refine arm_load (w := V) ⟨wr.heap.size, 0, none⟩ _ _ HXr.out Tryd.underlying26 HI.out ?h3 ?h4 ?_); (case h3 => rfl); (case h4 => rfl))
            | (go_at_call 81; refine HBeg.out.mono ?_; rintro e w3 ⟨rfl, hb3⟩; rw [hdec]; have HB3 := Lib.hid hb3; clear hb3))
          exact ⟨⟨k + 1, some (k, x), k, by omega, by go_num, rfl, HStep, .inr ⟨k, x, rfl, rfl, by omega, hx⟩, HB.out.trans ((HBV.out.trans (HB3.out.mono HBV.out.size)).mono HB.out.size)⟩, by simp [intOf]; omega⟩
        · have hyl : y.length = 32 := (HSr.out j y hy).1
          have hj0 : ¬ (j : Int) < 0 := by omega
          have hjl : j < ls.length := by omega
          go_upto_region 13 with (first
            | ((with_reducible refine arm_load (w := V) ⟨wr.heap.size, 0, none⟩ _ _ HXr.out Tryd.underlying26 HI.out ?h3 ?h4 ?_); (case h3 => rfl); (case h4 => rfl))
            | (go_at_call 81; refine HBeg.out.mono ?_; rintro e w3 ⟨rfl, hb3⟩; rw [hdec]; have HB3 := Lib.hid hb3; have HX3 := Lib.hid (HXV.out.below hb3 HXV.out.lt); clear hb3))
          have hbr := HBV.out.trans (HB3.out.mono HBV.out.size)
          have HL1 := Lib.hid HX3.out.row
          have HL2 := Lib.hid ((HSr.out.below hgr hbr).row hy)
          have HIy := Lib.hid (arr32_info y (by omega))
          have hguard := sum_guard
          by_cases hxy : x = y
          · have hne := sum_neq x y hxl hyl
            rw [show (!decide (x = y)) = false by simp [hxy]] at hne
            have HStep : Hid (findGo ds (k + 1) (some (j, y)) (ls.drop (k + 1)) = findGo ds 0 none ls) := Lib.hid ((findGo_same (k := k) (j := j) (r := ls.drop (k + 1)) (hxy ▸ hst)).symm.trans (by have := HX.out ▸ HQ.out; rwa [hxy] at this))
            have HBr := Lib.hid hbr
            clear hbr hxy
            refine wp_region_quiet_lit (by kernel_rfl) (by kernel_rfl) ?_
            go_big_quiet_want
            (with_reducible refine quiet_load ⟨wr.heap.size, 0, none⟩ _ _ HL1.out Tryd.underlying26 HI.out ?l1 ?l2 ?_); (case l1 => rfl); (case l2 => rfl)
            simp only [Act.put, List.setIfInBounds_toArray, List.set_cons_succ, List.set_cons_zero]
            go_big_quiet_on
            repeat (go_big_quiet_step (fail))
            go_big_quiet_want
            (with_reducible refine quiet_load ⟨g, off + j * 32, none⟩ _ _ HL2.out Tryd.underlying26 HIy.out ?l3 ?l4 ?_); (case l3 => rfl); (case l4 => rfl)
            simp only [Act.put, List.setIfInBounds_toArray, List.set_cons_succ, List.set_cons_zero]
            go_big_quiet_on
            repeat (go_big_quiet_step (fail))
            refine wpQuiet_nil ?_
            intro _ hw'
            obtain ⟨nq, rfl⟩ := hw'
            go_wp2
            exact ⟨⟨k + 1, some (j, y), j, by omega, by go_num, rfl, HStep, .inr ⟨j, y, rfl, rfl, by omega, hy⟩, below_drewN (HB.out.trans (HBr.out.mono HB.out.size)) _⟩, by simp [intOf]; omega⟩
          · have hne := sum_neq x y hxl hyl
            rw [show (!decide (x = y)) = true by simp [hxy]] at hne
            have HEnd : Hid (out = (0, 7)) := Lib.hid (hout.out.trans (HQ.out.symm.trans (by rw [HX.out, findGo_clash hst hxy])))
            have HBr := Lib.hid hbr
            clear hbr
            refine wp_region_quiet_lit (by kernel_rfl) (by kernel_rfl) ?_
            go_big_quiet_want
            (with_reducible refine quiet_load ⟨wr.heap.size, 0, none⟩ _ _ HL1.out Tryd.underlying26 HI.out ?l1 ?l2 ?_); (case l1 => rfl); (case l2 => rfl)
            simp only [Act.put, List.setIfInBounds_toArray, List.set_cons_succ, List.set_cons_zero]
            go_big_quiet_on
            repeat (go_big_quiet_step (fail))
            go_big_quiet_want
            (with_reducible refine quiet_load ⟨g, off + j * 32, none⟩ _ _ HL2.out Tryd.underlying26 HIy.out ?l3 ?l4 ?_); (case l3 => rfl); (case l4 => rfl)
            simp only [Act.put, List.setIfInBounds_toArray, List.set_cons_succ, List.set_cons_zero]
            go_big_quiet_on
            repeat (go_big_quiet_step (fail))
            refine wpQuiet_nil ?_
            intro _ hw'
            obtain ⟨nq, rfl⟩ := hw'
            go_wp2
            go_ret2
            exact ⟨by rw [HEnd.out]; exact Eq.refl _, below_drewN (HB1.out.trans ((HB.out.trans (HBr.out.mono HB.out.size)).mono HB1.out.size)) _⟩
      · have hdec : decide (Starts x ds) = false := decide_eq_false hst
        have HStep : Hid (findGo ds (k + 1) q (ls.drop (k + 1)) = findGo ds 0 none ls) := Lib.hid ((findGo_not (k := k) (f := q) (r := ls.drop (k + 1)) hst).symm.trans (HX.out ▸ HQ.out))
        go_wp2_with (first
          | ((with_reducible refine arm_load (w := V) ⟨wr.heap.size, 0, none⟩ _ _ HXr.out Tryd.underlying26 HI.out ?h3 ?h4 ?_); (case h3 => rfl); (case h4 => rfl))
          | (go_at_call 81; refine HBeg.out.mono ?_; rintro e w3 ⟨rfl, hb3⟩; rw [hdec]; have HB3 := Lib.hid hb3; clear hb3))
        exact ⟨⟨k + 1, q, z, by omega, by go_num, rfl, HStep, HZ.out.imp id (fun ⟨j, y, a, b, c, d⟩ => ⟨j, y, a, b, by omega, d⟩), HB.out.trans ((HBV.out.trans (HB3.out.mono HBV.out.size)).mono HB.out.size)⟩, by simp [intOf]; omega⟩
    · obtain rfl : k = ls.length := by omega
      have hnil : ls.drop ls.length = [] := List.drop_length
      rcases hz with ⟨rfl, rfl⟩ | ⟨j, y, rfl, rfl, hjk, hy⟩
      · have HEnd : Hid (out = (0, 6)) := Lib.hid (hout.out.trans (HQ.out.symm.trans (by rw [hnil, findGo])))
        go_wp2
        go_ret2
        exact ⟨by rw [HEnd.out]; exact Eq.refl _, HB1.out.trans (hB.mono HB1.out.size)⟩
      · have HEnd : Hid (out = (((j : Nat) : Int), (0 : Int))) := Lib.hid (hout.out.trans (HQ.out.symm.trans (by rw [hnil, findGo])))
        have hj0 : ¬ (j : Int) < 0 := by omega
        go_wp2
        go_ret2
        exact ⟨by rw [HEnd.out]; exact Eq.refl _, HB1.out.trans (hB.mono HB1.out.size)⟩
end Go.Proofs.YtillghidmfglpaaDoor
end
section
namespace Go.Proofs.YtillghidmfglpaaDoor
open Go.RowKit Go.Hoar Go.Maps Go.Shelf
theorem mapM_get {α β : Type} {f : α → Option β} : ∀ (l : List α) (r : List β), l.mapM f = some r → ∀ x ∈ l, ∃ y, f x = some y
  | [], _, _, x, hx => by cases hx
  | a :: l, r, h, x, hx => by
    rw [List.mapM_cons] at h
    cases ha : f a with
    | none => rw [ha] at h; cases h
    | some y =>
      cases hl : l.mapM f with
      | none => rw [ha, hl] at h; cases h
      | some r' =>
        rcases List.mem_cons.1 hx with rfl | hx
        · exact ⟨y, ha⟩
        · exact mapM_get l r' hl x hx
theorem keyLits_u8_inv {e : Nat} {cs : List Value} {ls : List Lit} (h : Tryd.prog.keyLits (e + 1) 5 cs = some ls) : ∃ x, x < 256 ∧ cs = [BV x] := by
  simp only [Program.keyLits, Tryd.underlying5] at h
  split at h <;> first | (cases h; done) | skip
  all_goals (try (simp_all; done))
  rename_i q q' n heq
  obtain rfl : IntKind.u8 = q := by simpa using heq
  split at h
  case isFalse => cases h
  next hc =>
  obtain ⟨rfl, hw⟩ := hc
  simp [Lit.wf, IntKind.min, IntKind.max, IntKind.bits, IntKind.signed] at hw
  refine ⟨n.toNat, by omega, ?_⟩
  rw [BV, Int.toNat_of_nonneg (by omega)]
set_option maxRecDepth 20000 in
theorem sum_key_inv {v : Value} {kl : Lit} (h : keyOf Tryd.prog 26 v = some kl) : ∃ x : List Nat, x.length = 32 ∧ Sha.Bytes x ∧ v = .agg (arr32 x) := by
  have hc32 : Tryd.prog.cellsOf 26 = 32 := by kernel_rfl
  have hc1 : Tryd.prog.cellsOf 5 = 1 := by kernel_rfl
  unfold keyOf at h
  simp only [Tryd.underlying26] at h
  split at h
  · next hf =>
    rw [Bool.and_eq_true] at hf
    obtain ⟨_, hf⟩ := hf
    cases v with
    | agg cs =>
      rw [Value.formed, Tryd.underlying26, hc32] at hf
      have hsz : cs.size = 32 := by simpa using hf
      obtain ⟨d, hd⟩ : ∃ d, Tryd.prog.types.size + 1 = d + 2 := ⟨Tryd.prog.types.size - 1, by
        have : 0 < Tryd.prog.types.size := of_decide_eq_true (by kernel_rfl)
        omega⟩
      have hcc : (Value.agg cs).cells = cs := rfl
      rw [hcc, hd, keyLits_sum (d + 1), hc1] at h
      split at h
      · cases hm : (List.range 32).mapM (fun i => Tryd.prog.keyLits (d + 1) 5 ((cs.toList.drop (i * 1)).take 1)) with
        | none => rw [hm] at h; cases h
        | some r =>
          have hall : ∀ i, i < 32 → ∃ x, x < 256 ∧ cs[i]? = some (BV x) := fun i hi => by
            obtain ⟨y, hy⟩ := mapM_get _ _ hm i (List.mem_range.2 hi)
            obtain ⟨x, hx, he⟩ := keyLits_u8_inv hy
            refine ⟨x, hx, ?_⟩
            have h0 : ((cs.toList.drop (i * 1)).take 1)[0]? = some (BV x) := by rw [he]; rfl
            rw [List.getElem?_take, if_pos (by decide), List.getElem?_drop] at h0
            simpa using h0
          let g : Value → Nat := fun v => match v with | .int _ n => n.toNat | _ => 0
          refine ⟨cs.toList.map g, by simp [hsz], fun x hx => ?_, ?_⟩
          · obtain ⟨u, hu, rfl⟩ := List.mem_map.1 hx
            obtain ⟨i, hi, rfl⟩ := List.getElem_of_mem hu
            have hi32 : i < 32 := by simpa [hsz] using hi
            obtain ⟨x, hx256, he⟩ := hall i hi32
            rw [Array.getElem?_eq_getElem (by omega)] at he
            have e2 : cs.toList[i] = BV x := by simpa using he
            rw [e2]
            show ((x : Int)).toNat < 256
            omega
          · congr 1
            rw [arr32_full _ (by simp [hsz])]
            apply Array.ext_getElem?
            intro i
            by_cases hi : i < 32
            · obtain ⟨x, _, he⟩ := hall i hi
              rw [he, List.getElem?_toArray, List.getElem?_map, List.getElem?_map, Array.getElem?_toList, he]
              show some (BV x) = some (BV ((x : Int)).toNat)
              rw [Int.toNat_natCast]
            · rw [Array.getElem?_eq_none (by omega), Array.getElem?_eq_none (by simp [hsz]; omega)]
      · cases h
    | _ => simp [Value.formed, Tryd.underlying26] at hf
  · cases h
/-- The bytes that a key reads as. -/
def keyB (l : List Nat) : List UInt8 := l.map UInt8.ofNat
theorem keyB_inj {l m : List Nat} (hl : Sha.Bytes l) (hm : Sha.Bytes m) (h : keyB l = keyB m) : l = m := by
  have e : ∀ l : List Nat, Sha.Bytes l → (keyB l).map UInt8.toNat = l := fun l hb => by
    rw [keyB, List.map_map]
    have : ∀ x ∈ l, (UInt8.toNat ∘ UInt8.ofNat) x = x := fun x hx => by
      have h256 := hb x hx
      show (UInt8.ofNat x).toNat = x
      simp
      omega
    rw [List.map_congr_left this, List.map_id']
  rw [← e l hl, ← e m hm, h]
/-- A digest: 32 bytes. -/
abbrev Dig := {l : List Nat // l.length = 32 ∧ Sha.Bytes l}
theorem dig_keyB {a b : Dig} (h : keyB a.1 = keyB b.1) : a = b := Subtype.ext (keyB_inj a.2.2 b.2.2 h)
end Go.Proofs.YtillghidmfglpaaDoor
end
section
namespace Go.Proofs.YtillghidmfglpaaDoor
open Go.RowKit Go.Hoar Go.Maps Go.Shelf
attribute [local go_sem] Oper.semAt_some
theorem mapKeys_any (mb : Option Nat) (w : World) :
    Calls Tryd.prog 79 #[.map mb] w fun e w' => e = .returned (.func (.func 101) #[] #[.pointer (some ⟨w.heap.size, 0, none⟩)]) ∧ w.alloc (.cells #[.map mb] 114) = w' := by
  go_enter Tryd.func79, Tryd.ntmps79
  go_wp2
  go_ret
  exact ⟨rfl, rfl⟩
/-- All keys of a map, each once. -/
def KeysOfMap {H : Type} (D0 : DataW H) (ls : List Dig) : Prop := ls.Nodup ∧ (∀ d : Dig, d ∈ ls ↔ Maps.has D0 (sumLit d.1) = true) ∧ ls.length ≤ Maps.size D0
set_option maxRecDepth 100000 in
set_option maxHeartbeats 2000000 in
theorem keys1_in {H : Type} (F : Fence) (n : Nat) (hF : F.fn 101) (hro : F.round = none) (hn : 1 ≤ n) (l Bm b nn : Nat) (D0 : DataW H) {R : Value → Option (DataW H × List MemPlace)}
    (J Jx : List Dig → World → Prop) (W : World) (hJ : AbidesFrom W.heap.size J)
    (hY : ∀ pre (x : Dig) W1, J pre W1 → pre.length < Maps.size D0 → YieldAt F (n - 1) Tryd.prog l #[.agg (arr32 x.1)] W1 fun e W' =>
      (e = .returned (.bool true) ∧ J (pre ++ [x]) W' ∧ KeepsWalks W1 W') ∨ (e = .returned (.bool false) ∧ Jx (pre ++ [x]) W'))
    (hm : W.cell? ⟨Bm, 0, none⟩ = some (.map (some b))) (hown : W.ownsMap Tryd.prog 26 R b nn D0) (h0 : J [] W) :
    CallsIn F n Tryd.prog 101 #[.func (.yield l) #[] #[], .pointer (some ⟨Bm, 0, none⟩)] W fun e W' => (∃ v, e = .returned v) ∧
      ((∃ ys, KeysOfMap D0 ys ∧ J ys W') ∨ (∃ pre, True ∧ Jx pre W')) := by
  refine callsIn_of_wp Tryd.func101 rfl hF ?_ hro
  simp only [Tryd.ntmps101, List.size_toArray, List.length_cons, List.length_nil, Nat.reduceAdd, Nat.reduceSub, Array.replicate_succ, Array.replicate_zero, List.push_toArray, List.append_toArray, List.nil_append, List.cons_append]
  gi_wp2_with (first
    | (gi_at_range; refine wpListIn_range_own _ rfl _ 114 rfl 26 3 sum_keyed Tryd.underlying114 _ b nn _ rfl hown ?_; intro w0 hrg0 hg0 hs0)
    | gi_in)
  go_frame
  gi_loopw [3] (fun _ wr => ∃ (left : Lit → Bool) (cnt : Nat) (ss : List Dig), wr.ranges Tryd.prog 26 R b W.heap.size nn D0 left cnt ∧ ss.length + cnt ≤ Maps.size D0 ∧ Collected D0 left (ss.map fun d => keyB d.1) ∧ J ss wr)
    (fun _ wr => wr.rangeLeft b W.heap.size)
  case atStart =>
    exact ⟨_, _, [], hrg0, by simp, Collected.start D0, hJ [] W w0 none h0 hg0 (fun r e => by cases e)⟩
  case round =>
    obtain ⟨left, cnt, ss, hrg, hcs, hC, hJs⟩ := hrel
    gi_wp2_with (first
      | (gi_at_next; refine wpListIn_next_ranges _ rfl _ rfl 26 sum_keyed R (fun x : Dig => Value.agg (arr32 x.1)) id (fun key kl hk => by obtain ⟨x, hl, hb, hx⟩ := sum_key_inv hk; exact ⟨⟨x, hl, hb⟩, hx⟩) (fun v _ _ => ⟨v, rfl⟩) b W.heap.size nn _ _ _ rfl hrg ?_ ?_)
      | gi_in)
    · intro hc0 hl0
      gi_wp2
      go_end0
      refine ⟨⟨_, rfl⟩, .inl ⟨ss, ⟨List.Pairwise.of_map (fun d : Dig => keyB d.1) (fun a b h e => h (by rw [e])) hC.1, fun d => ?_, by omega⟩, hJs⟩⟩
      have h := hC.2 (keyB d.1)
      rw [hl0] at h
      constructor
      · intro hm
        exact (h.1 (List.mem_map.2 ⟨d, hm, rfl⟩)).1
      · intro hh
        obtain ⟨m, hm, he⟩ := List.mem_map.1 (h.2 ⟨hh, rfl⟩)
        rw [← dig_keyB he]
        exact hm
    · intro x hxl hxb c kl yd yp w2 cnt2 hkey hlk hv hat hrg2 hlt hg2 hs2 hen
      have hkl : kl = sumLit x := by
        have h1 := sum_keyOf x hxl hxb
        rw [h1] at hkey
        exact (Option.some.inj hkey).symm
      have hy0 := hY ss ⟨x, hxl, hxb⟩
      dsimp only at hy0
      have HF := Lib.hid (fresh_sum w2)
      have HSz := Lib.hid (zero32_size x (by omega))
      have HI := Lib.hid (arr32_info x (by omega))
      have HRg := Lib.hid hrg
      have HRg2 := Lib.hid hrg2
      have HG2 := Lib.hid hg2
      have HC := Lib.hid hC
      have HJs := Lib.hid hJs
      have HStp := Lib.hid (And.intro hlk hat)
      have hszle : wr.heap.size ≤ w2.heap.size := hg2.size
      clear hrg hrg2 hg2 hC hJs hkey hs2 hlk hat hown h0 hg0 hrg0 hs0
      gi_wp2_with ((with_reducible refine stopIn (ty := 26) ?_))
      refine armIn_store (ty := 26) w2.heap.size (arr32 x) 26 zero32 HF.out HSz.out HI.out (arr32_one _) ?k1 ?k2 ?_
      case k1 => rfl
      case k2 => rfl
      refine gen_world (P := fun W => wpListIn _ _ _ _ _ _ _ W) (I := fun V => Below w2.heap.size w2 V ∧ Has V w2.heap.size 26 (arr32 x)) _ ⟨below_setRow ((Below.refl _ w2).alloc (Nat.le_refl _) _) (Nat.le_refl _) _, HF.out.setRow⟩ ?_
      rintro V ⟨hBV, hXV⟩
      have hg0 : w2.grownBy V none := ⟨hBV.os, hBV.tape, hBV.output, hBV.size, fun k hk _ => hBV.block k hk⟩
      have hgw : wr.grownBy V (some W.heap.size) := ⟨hg0.os.trans HG2.out.os, hg0.tape.trans HG2.out.tape, hg0.output.trans HG2.out.output, Nat.le_trans HG2.out.size hg0.size, fun k hk hne => (hBV.block k (Nat.lt_of_lt_of_le hk hszle)).trans (HG2.out.block k hk hne)⟩
      have hkv : KeepsWalks w2 V := KeepsWalks.of_grownBy hg0 (fun j o e => by cases e)
      have hJ2 : J ss V := hJ ss wr V (some W.heap.size) HJs.out hgw (fun r e => by cases e; exact ⟨Nat.le_refl _, HRg.out.iter_walk⟩)
      obtain ⟨fn, tmps, assign, body, hy, hR⟩ := hy0 V hJ2 (by omega)
      have HRgV := Lib.hid (HRg2.out.of_walks hkv)
      have HRow := Lib.hid hXV.row
      clear hBV hXV hg0 hgw hkv hJ2
      gi_wp2_with ((with_reducible refine stopInL (ty := 26) ?_))
      refine armIn_load (ty := 26) ⟨w2.heap.size, 0, none⟩ (arr32 x) _ HRow.out Tryd.underlying26 HI.out ?j1 ?j2 ?_
      case j1 => rfl
      case j2 => rfl
      gi_wp2
      refine hR.mono ?_
      rintro e W3 (⟨rfl, hJ3, hk3⟩ | ⟨rfl, hJx3⟩)
      · gi_wp2
        have hrg3 := HRgV.out.of_walks hk3
        go_roundw
        case rel =>
          refine ⟨_, cnt2, ss ++ [⟨x, hxl, hxb⟩], hrg3, by simp; omega, ?_, hJ3⟩
          rw [hkl, List.map_append, List.map_cons, List.map_nil]
          exact HC.out.step (by have := HStp.out.1; rwa [hkl] at this) (by have := HStp.out.2; rwa [hkl] at this)
        case measure => rw [hrg3.left_eq, HRg.out.left_eq]; exact hlt
      · gi_wp2
        refine bodyPost_ret (results_none rfl _ _ _) rfl ?_
        exact ⟨⟨_, rfl⟩, .inr ⟨_, trivial, hJx3⟩⟩
theorem keys1_stops {H : Type} (F : Fence) (n : Nat) (hF : F.fn 101) (hro : F.round = none) (hn : 1 ≤ n) (Bm b nn : Nat) (D0 : DataW H) {R : Value → Option (DataW H × List MemPlace)} (w : World) (hBm : Bm < w.heap.size)
    (hm : w.cell? ⟨Bm, 0, none⟩ = some (.map (some b))) (hown : w.ownsMap Tryd.prog 26 R b nn D0) :
    SeqStopsK F n Tryd.prog 101 #[.pointer (some ⟨Bm, 0, none⟩)] (fun x : Dig => #[Value.agg (arr32 x.1)]) KeepsWalks (KeysOfMap D0) (fun _ => True) (Maps.size D0) w := fun l J Jx W hW hJ _ hY h0 => by
  have hown' : W.ownsMap Tryd.prog 26 R b nn D0 := by
    have hbl := hown.lt
    obtain ⟨es, clock, hb, Ft, hs, hD⟩ := hown
    exact ⟨es, clock, (hW.block b hbl).trans hb, Ft, hs, hD⟩
  exact keys1_in F n hF hro hn l Bm b nn D0 J Jx W hJ hY ((hW.cell (p := ⟨Bm, 0, none⟩) hBm).trans hm) hown' h0
end Go.Proofs.YtillghidmfglpaaDoor
end
