/-
  PROVED: SumDigits answers true for every input, and its arguments read as before; the table of constants is tied to the program's text.
-/
import Derived.Test.YtillghidmfglpaaDoorMDgi
section
namespace Go.Proofs.YtillghidmfglpaaDoor.sumDigits
open Go.ChangeShapes Go.WideShapes Go.ChangeAt Go.RowKit Go.ChangeMaps Go.Hoar
set_option maxRecDepth 100000 in
theorem contract (H : Type) (enc : TypeId × Value → H) (W : World) (base : Nat) (args : Array Value) (ds gs : List (DataW H)) (before : List MemPlace)
    (hval : ∀ (j : Nat) t v, Tryd.f5.params[j]? = some t → args[j]? = some v → Value.okWide Tryd.prog W .any base t v)
    (hW : DataW.Whole enc Tryd.prog Tryd.f5.params.toList Rows.sumDigitsSpec.vars false W args.toList ds gs before)
    (hw : (DataW.weightsEach Tryd.prog (Tryd.f5.params.toList ++ (OpenSpec.ofChange Rows.sumDigitsSpec).bare.plain.varTypes Tryd.prog) (ds ++ gs)).all (· ≤ reachBytes) = true)
    (hL : laidMetH Tryd.prog Rows.sumDigitsRow.laid W) :
    Calls Tryd.prog 5 args W fun e W' => ∃ v, e = .returned v ∧ Rows.sumDigitsSpec.post enc Tryd.prog Tryd.f5 false true false false W args v W' := by
  have hc : ConstAt W := constAt_of_laid hL
  have hW' := hW
  obtain ⟨p, q, hA0, hV, rfl, hfz, hnd⟩ := hW
  have hA : DataW.TrodAll enc Tryd.prog W 0 (fun _ => true) true Tryd.f5.params.toList args.toList ds p := hA0
  rw [Tryd.params5] at hA hval hw
  obtain ⟨v0, vs0, d0, ds0, p0, q0, hargs, rfl, rfl, h0, r0⟩ := trodAll_cons hA
  obtain ⟨v1, vs1, d1, ds1, p1, q1, rfl, rfl, rfl, h1, r1⟩ := trodAll_cons r0
  obtain ⟨v2, vs2, d2, ds2, p2, q2, rfl, rfl, rfl, h2, r2⟩ := trodAll_cons r1
  obtain ⟨rfl, rfl, rfl⟩ := trodAll_nil r2
  obtain rfl : args = #[v0, v1, v2] := by cases args; simp_all
  obtain ⟨rfl, rfl⟩ := trodVars_none hV
  clear hA0 hA
  obtain ⟨zs0, hl0, rfl, rfl, rfl, hz0⟩ := open_row Tryd.underlying26 Tryd.underlying5 cellsU8 cellsSum (okWide_agg Tryd.underlying26 (hval 0 26 v0 rfl rfl)) h0
  obtain ⟨zs1, hl1, rfl, rfl, rfl, hz1⟩ := open_row Tryd.underlying26 Tryd.underlying5 cellsU8 cellsSum (okWide_agg Tryd.underlying26 (hval 1 26 v1 rfl rfl)) h1
  obtain ⟨s, rfl, rfl, rfl, hs⟩ := open_string Tryd.underlying9 (hval 2 9 v2 rfl rfl) h2
  clear hval
  simp only [List.append_nil] at hW' hw
  obtain ⟨l, hl, hlb⟩ := bytes_of_ints zs0 hz0
  obtain ⟨m, hm, hmb⟩ := bytes_of_ints zs1 hz1
  have hs2 : s.size ≤ 140737488351232 := by
    have := sized_string hw (j := 2) rfl rfl
    rwa [Array.length_toList] at this
  have e0 : (zs0.map (Value.int .u8)).toArray = arr32 l := by
    rw [hl]
    simp only [arr32, List.map_map]
    rw [show 32 - l.length = 0 by rw [hl, List.length_map] at hl0; omega]
    simp [BV, Function.comp_def]
  have e1 : (zs1.map (Value.int .u8)).toArray = arr32 m := by
    rw [hm]
    simp only [arr32, List.map_map]
    rw [show 32 - m.length = 0 by rw [hm, List.length_map] at hl1; omega]
    simp [BV, Function.comp_def]
  have walk := digits_law l m (by rw [hl, List.length_map] at hl0; exact hl0) (by rw [hm, List.length_map] at hl1; exact hl1) hlb hmb s (by omega) W hc
  rw [← e0, ← e1] at walk
  refine walk.mono fun e W' ⟨he, hg⟩ => ?_
  subst he
  exact ⟨_, rfl, post_of_below (pa := []) (pv := []) hW' (fun _ _ _ => trodAll_cons_mk (shut_bool Tryd.underlying4 _) trodAll_mk0)
    (fun _ _ => trodAll_cons_mk (shut_row Tryd.underlying26 Tryd.underlying5 cellsU8 cellsSum zs0 hl0 hz0) (trodAll_cons_mk (shut_row Tryd.underlying26 Tryd.underlying5 cellsU8 cellsSum zs1 hl1 hz1) (trodAll_cons_mk (shut_string Tryd.underlying9 hs) trodAll_mk0))) (fun _ _ => rfl) rfl
    hg (ok_one (by kernel_rfl) rfl (okWide_bool_mk Tryd.underlying4 _))⟩
/-- What the witness passes. -/
def wit : Array Value := #[.agg (arr32 []), .agg (arr32 []), .string ByteArray.empty]
theorem reads (os : Os) {H : Type} (enc : TypeId × Value → H) : DataW.whole enc Tryd.prog ((laidWorld os).forCall (fun _ _ => 0) ⟨#[], wit, []⟩).memory Tryd.f5.params.toList Rows.sumDigitsSpec.vars false wit.toList 8 = some ([.agg (List.replicate 32 (.lit (.int .u8 0))), .agg (List.replicate 32 (.lit (.int .u8 0))), .lit (.string [])], [], []) := by kernel_rfl
set_option maxRecDepth 100000 in
theorem lifted (os : Os) (started : os.Started) (H : Type) (enc : TypeId × Value → H) (F : Stop.Interp) :
    ReturnsInHanded {} Tryd.checked os 5 .any ((OpenSpec.ofChange Rows.sumDigitsSpec).preRow enc Tryd.prog Tryd.f5 Rows.sumDigitsRow.domain false Rows.sumDigitsRow.laid) (((OpenSpec.ofChange Rows.sumDigitsSpec).at F).post enc Tryd.prog Tryd.f5 false true false false) := by
  refine returnsInHanded_of_row (C := Tryd.checked) (s := OpenSpec.ofChange Rows.sumDigitsSpec) ownK started (by kernel_rfl) Tryd.func5
    (witness_row_at (enc := enc) (C := Tryd.checked) false (laidWorld os) wit rfl (by kernel_rfl) (by kernel_rfl) (by kernel_rfl)
      (OpenSpec.preRow_of_cond 8 (reads os enc) (by kernel_rfl) (fun k hk => by cases hk) (by kernel_rfl) (laid_met os wit))) ?_
  intro W base args ds gs before hval hW _ _ hw hL _ _
  exact contract H enc W base args ds gs before hval hW hw hL
theorem said : Rows.SumDigitsSaid :=
  OpenClaim.holds_of_cond 5 Tryd.f5 rfl rfl rfl rfl rfl rfl rfl ⟨rfl, rfl, rfl, rfl, rfl⟩ rfl rfl rfl rfl rfl (by kernel_rfl) Tryd.func5 (by kernel_rfl)
    (of_decide_eq_true (by kernel_rfl)) (by unfold Func.isWrapper; first | (rw [if_pos (by decide +kernel)]; kernel_rfl) | (rw [if_neg (by decide +kernel)]; exact ⟨rfl, rfl⟩))
    (fun os started H enc _ F => by rw [OpenClaim.pre_eq_preRow]; exact lifted os started H enc F)
/-- No parameter wants a stand-in; the program's own looks are off: what the card asks. -/
theorem plain (f : FuncId) (fn : Func) (hf : Tryd.pinned.checked.prog.funcNamed "hoarstone/hoarstonelaw01.SumDigits" = some f) (hfn : Tryd.pinned.checked.prog.funcs[f]? = some fn) :
    false = Tryd.pinned.checked.prog.looks [] ∧ ∀ (j : Nat) t, fn.params[j]? = some t → Tryd.pinned.checked.prog.wantsStandIn t = false := by
  obtain rfl : f = 5 := Option.some.inj ((show Tryd.prog.funcNamed "hoarstone/hoarstonelaw01.SumDigits" = some 5 by kernel_rfl).symm.trans hf) |>.symm
  obtain rfl : fn = Tryd.f5 := (Option.some.inj (Tryd.func5.symm.trans hfn)).symm
  refine ⟨by kernel_rfl, fun j t ht => ?_⟩
  rw [Tryd.params5] at ht
  have hm : t ∈ [26, 9] := by
    have := Array.mem_of_getElem? ht
    simp at this ⊢
    exact this
  have hall : ([26, 9].all fun u => !Tryd.prog.wantsStandIn u) = true := by kernel_rfl
  exact (show Tryd.prog.wantsStandIn t = false by simpa using List.all_eq_true.1 hall t hm)
/-- ████ THE CARD ████ -/
theorem card : Rows.SumDigitsCardSaid :=
  Claim7.holds_tied_plain_at .later [] _ _ _ _ said (fun _ h => by cases h) (by kernel_rfl) (fun _ h => by cases h) sumDigits_row_tie rfl ⟨rfl, rfl⟩ (by kernel_rfl) rfl plain (by kernel_rfl)
end Go.Proofs.YtillghidmfglpaaDoor.sumDigits
end
