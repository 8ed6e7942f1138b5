/-
  WHAT A WALK OVER ROWS OF ROWS NEEDS: literals of one and two digests, a byte of a row that is set, rows that are not touched.
  · THE LAWS' joined: a byte and digests, one behind the other, and their digest; rows of slices of bytes.
  · A REGION THAT DRAWS ITS ORDER, WALKED ONCE OVER ALL WORLDS THAT MAY COME: loads, calls and values, guarded or not.
-/
import Derived.Test.YtffdkniahdekjaaDoorMBd
import Derived.Test.YtffdkniahdekjaaDoorMBj
import Derived.Test.YtffdkniahdekjaaDoorMDa
import Derived.Test.YtffdkniahdekjaaDoorMBc
import Derived.BigQuiet
import Derived.Test.YtffdkniahdekjaaDoorMBl
import Derived.Test.YtffdkniahdekjaaDoorMBi
section
namespace Go.Proofs.YtffdkniahdekjaaDoor
open Go.RowKit Go.Hoar
theorem flat32 {ls : List (List Nat)} (hok : SumsOk ls) : ls.flatten.length = 32 * ls.length ∧ Sha.Bytes ls.flatten := by
  induction ls with
  | nil => exact ⟨rfl, fun _ h => absurd h List.not_mem_nil⟩
  | cons x r ih =>
    obtain ⟨h1, h2⟩ := ih (fun l hl => hok l (List.mem_cons_of_mem _ hl))
    have hx := hok x List.mem_cons_self
    refine ⟨by rw [List.flatten_cons, List.length_append, hx.1, h1, List.length_cons]; omega, fun v hv => ?_⟩
    rw [List.flatten_cons, List.mem_append] at hv
    exact hv.elim (hx.2 v) (h2 v)
theorem flat_snoc (ls : List (List Nat)) (j : Nat) (x : List Nat) (h : ls[j]? = some x) : (ls.take (j + 1)).flatten = (ls.take j).flatten ++ x := by
  rw [List.take_add_one, h]
  simp
theorem own_cast {w : World} {base n m : Nat} {e : TypeId} {size : Nat} {v : Value} {xs ys : List Value} (h : w.ownsRow base e size v n xs) (hn : n = m) (hx : xs = ys) : w.ownsRow base e size v m ys := by subst hn; subst hx; exact h
set_option maxRecDepth 100000 in
set_option maxHeartbeats 3000000 in
theorem joined_any (first : Nat) (hf : first < 256) (ls : List (List Nat)) (hok : SumsOk ls) (hn : ls.length ≤ 100) (a : Option Addr) (c : Nat) (w : World) (hr : RowOk w a c ls) (hc : ConstAt w) (out : List Nat) (hout : Hid (out = Sha.sha (first :: ls.flatten))) :
    Calls Tryd.prog 86 #[.int .u8 (first : Int), .slice a ls.length c] w fun e w' => ∃ v, e = .returned (.tuple #[.agg (arr32 out), v]) ∧ BPart w' v (first :: ls.flatten) ∧ out.length = 32 ∧ Below w.heap.size w w' := by
  obtain ⟨i0, hi, hz0, hz1, hz2⟩ := info_parts info8
  have hol : out.length = 32 := by rw [hout.out]; exact (sha_bytes _).1
  have HIo := Lib.hid (arr32_info out (by omega))
  have HSo := Lib.hid (zero32_size out (by omega))
  have HRw := Lib.hid hr
  have HC := Lib.hid hc
  obtain ⟨fl, fb⟩ := flat32 hok
  have hby : Sha.Bytes (first :: ls.flatten) := fun x hx => (List.mem_cons.1 hx).elim (fun e => by omega) (fb x)
  have hof : ∀ (a : Option Addr) (c : Nat) (V : World), V.ownsRow (w.heap.size + 1) 5 1 (.slice a (1 + 32 * ls.length) c) (1 + 32 * ls.length) ((first :: ls.flatten).map BV) → ConstAt V → Calls Tryd.prog 17 #[.slice a (1 + 32 * ls.length) c] V fun e w' => e = .returned (.agg (arr32 out)) ∧ out.length = 32 ∧ Below V.heap.size V w' := fun a c V ho hcv =>
    of_own (first :: ls.flatten) (1 + 32 * ls.length) (by rw [List.length_cons, fl]; omega) hby (by omega) ho hcv out hout
  have HOf := Lib.hid hof
  have hone : ∀ l : List Nat, ∀ u ∈ l.map BV, u.oneCell' = true := by
    intro l u hu
    obtain ⟨x, _, rfl⟩ := List.mem_map.1 hu
    rfl
  have HOne := Lib.hid hone
  clear hr hc hof hone hby
  go_enter Tryd.func86, Tryd.ntmps86
  go_upto_region 1 with (fail)
  refine gen_world (P := fun W => Code.wp _ _ _ _ W) (I := fun W => Below w.heap.size w W ∧ Has W w.heap.size 26 zero32 ∧ W.heap.size = w.heap.size + 1) _ ⟨(Below.refl _ w).alloc (Nat.le_refl _) _, fresh_sum w, by simp⟩ ?_
  rintro W ⟨hB, hR, hsz⟩
  have HB := Lib.hid hB
  have HR := Lib.hid hR
  clear hB hR
  go_upto_region 2 with (fail)
  refine gen_world (P := fun W => Code.wp _ _ _ _ W) (I := fun V => Below w.heap.size w V ∧ Has V w.heap.size 26 zero32 ∧ V.ownsRow (w.heap.size + 1) 5 1 (.slice (some ⟨w.heap.size + 1, 0, none⟩) 1 1) 1 ([first].map BV)) _ ⟨HB.out.alloc HB.out.size _, HR.out.alloc _, own_row (bs := [first]) (Has.fresh_at W 5 _ (w.heap.size + 1) hsz.symm) (Nat.le_refl _) (by show 1 ≤ maxLen; decide)⟩ ?_
  rintro W2 ⟨hB, hR, hO⟩
  have HB2 := Lib.hid hB
  have HR2 := Lib.hid hR
  have HO2 := Lib.hid hO
  clear hB hR hO HB HR hsz
  go_wp2
  go_loopw [6, 13] (fun bv iv wr => ∃ (j : Nat) (vv : Value), vv = bv ∧ j ≤ ls.length ∧ iv = .int .i64 (j : Int) ∧ wr.ownsRow (w.heap.size + 1) 5 1 vv (1 + 32 * j) ((first :: (ls.take j).flatten).map BV) ∧ Has wr w.heap.size 26 zero32 ∧ Below w.heap.size w wr) (fun _ iv _ => ls.length - (intOf iv).toNat)
  case atStart => exact ⟨0, _, rfl, Nat.zero_le _, rfl, HO2.out, HR2.out, HB2.out⟩
  case round =>
    obtain ⟨j, vv, hvv, hj, rfl, hO, hR, hB⟩ := hrel
    subst hvv
    obtain ⟨a6, c6, rfl, hc6, hcm6⟩ := own_shape hO
    unfold maxLen at hcm6
    by_cases hlt : j < ls.length
    · obtain ⟨x, hx⟩ : ∃ x, ls[j]? = some x := ⟨_, List.getElem?_eq_getElem hlt⟩
      rcases HRw.out with ⟨_, he, _⟩ | ⟨g, off, rfl, hg, hs, hcc, hcm⟩
      · rw [he] at hx; simp at hx
      obtain ⟨hxl, hxb, _⟩ := hs j x hx
      have HRow := Lib.hid ((hs.below hg hB).row hx)
      have HI := Lib.hid (arr32_info x (by omega))
      have HSz := Lib.hid (zero32_size x (by omega))
      have HF := Lib.hid (fresh_sum wr)
      have HO := Lib.hid hO
      have HR3 := Lib.hid hR
      have HB3 := Lib.hid hB
      have HFl := Lib.hid (flat_snoc ls j x hx)
      unfold maxLen at hcm
      have hjc : j < c := by omega
      clear hO hR hB hs hx
      go_upto_region 5 with (first
        | ((with_reducible refine arm_load (w := wr) ⟨g, off + j * 32, none⟩ _ _ HRow.out Tryd.underlying26 HI.out ?h1 ?h2 ?_); (case h1 => rfl); (case h2 => rfl))
        | ((with_reducible refine arm_store wr.heap.size (arr32 x) 26 zero32 HF.out HSz.out HI.out (arr32_one _) ?h5 ?h6 ?_); (case h5 => rfl); (case h6 => rfl)))
      have hb3 : w.heap.size + 1 ≤ wr.heap.size := by have := HR3.out.lt; omega
      refine gen_world (P := fun W => Code.wp _ _ _ _ W) (I := fun V => Below w.heap.size w V ∧ Has V wr.heap.size 26 (arr32 x) ∧ Has V w.heap.size 26 zero32 ∧ V.ownsRow (w.heap.size + 1) 5 1 (.slice a6 (1 + 32 * j) c6) (1 + 32 * j) ((first :: (ls.take j).flatten).map BV) ∧ wr.heap.size < V.heap.size) _ ⟨below_setRow (HB3.out.alloc HB3.out.size _) HB3.out.size _, HF.out.setRow, Has.below (HR3.out) (below_setRow ((Below.refl _ wr).alloc (Nat.le_refl _) _) (Nat.le_refl _) _) HR3.out.lt, own_setRow (HO.out.alloc _) (fun e => by have := (HO.out.lt _ e).2; omega) _, HF.out.setRow.lt⟩ ?_
      rintro U ⟨hBU, hXU, hRU, hOU, hgU⟩
      generalize wr.heap.size = b5 at *
      have HN : Hid (∀ q u, (x.map BV)[q]? = some u → U.cell? ((⟨b5, 0, none⟩ : Addr).add q) = some u) := Lib.hid fun q u hq => hXU.row q u (by rw [arr32_whole x hxl, List.getElem?_toArray]; exact hq)
      have HBU := Lib.hid hBU
      have HRU := Lib.hid hRU
      have HOU := Lib.hid hOU
      have hl32 : (x.map BV).length = 32 * 1 := by simp [hxl]
      have hbase : w.heap.size + 1 ≤ U.heap.size := by omega
      clear hBU hXU hRU hOU HO HR3 HB3 HF HRow
      go_wp2_with (first
        | (at_builtin; refine wpList_append_own _ rfl _ _ 22 rfl (w.heap.size + 1) 5 i0 (.int .u8 0) 1 1 Tryd.underlying22 hi hz0 hz1 hz2 rfl (by decide) _ _ _ rfl HOU.out ⟨b5, 0, none⟩ 32 32 (x.map BV) rfl hl32 HN.out (HOne.out x) (by unfold maxLen; omega) (by omega) hbase ?_; intro v' w9 hown9 hgrow9 _
           have HO9 : Hid (w9.ownsRow (w.heap.size + 1) 5 1 v' (1 + 32 * (j + 1)) ((first :: (ls.take (j + 1)).flatten).map BV)) := Lib.hid (own_cast hown9 (by omega) (by rw [HFl.out, List.map_cons, List.map_cons, List.map_append, List.cons_append]))
           have HB9 := Lib.hid (HBU.out.grown hgrow9 (by omega) (fun q hq => by have := (HOU.out.lt q hq).1; omega))
           have HR9 := Lib.hid (has_grown HRU.out hgrow9 (fun e => by have := (HOU.out.lt _ e.symm).1; omega))
           clear hown9 hgrow9))
      go_roundw
      case rel => exact ⟨j + 1, _, rfl, by omega, by go_num, HO9.out, HR9.out, HB9.out⟩
      case measure => simp [intOf]; omega
    · obtain rfl : j = ls.length := by omega
      have HO : Hid (wr.ownsRow (w.heap.size + 1) 5 1 (.slice a6 (1 + 32 * ls.length) c6) (1 + 32 * ls.length) ((first :: ls.flatten).map BV)) := Lib.hid (own_cast hO rfl (by rw [List.take_length]))
      have HR3 := Lib.hid hR
      have HB3 := Lib.hid hB
      have HP : Hid (BPart wr (.slice a6 (1 + 32 * ls.length) c6) (first :: ls.flatten)) := Lib.hid (bpart_own HO.out (by rw [List.length_cons, fl]; omega) (by omega))
      clear hO hR hB
      go_wp2_with (first
        | (go_at_call 17; refine (HOf.out a6 c6 wr HO.out (HC.out.below HB3.out rfl)).mono ?_; rintro e w7 ⟨rfl, _, hb7⟩; have HB7 := Lib.hid (HB3.out.trans (hb7.mono HB3.out.size)); have HR7 := Lib.hid (HR3.out.below hb7 HR3.out.lt); have HP7 := Lib.hid (HP.out.below hb7); clear hb7)
        | ((with_reducible refine arm_store w.heap.size (arr32 out) 26 zero32 HR7.out HSo.out HIo.out (arr32_one _) ?h5 ?h6 ?_); (case h5 => rfl); (case h6 => rfl)))
      refine bodyPost_ret (results_row_tmp rfl _ _ w.heap.size 26 (arr32 out) (0, 0) _ rfl HR7.out.setRow rfl Tryd.underlying26 HIo.out) rfl ⟨_, rfl, ?_, hol, below_setRow HB7.out (Nat.le_refl _) _⟩
      exact HP7.out.setRow (fun e => by have := (HO.out.lt _ e).1; omega) _
end Go.Proofs.YtffdkniahdekjaaDoor
end
section
namespace Go.Proofs.YtffdkniahdekjaaDoor
open Go.RowKit Go.Hoar
theorem quietG_load {P : Program} {C : World → Prop} {K : Act → Prop} {a : Act} {dst : Option Tmp} {ty T : TypeId} {x : Operand} {pos : String} {af : Array Edge} {gd : Option (Nat × Bool)}
    (ad : Addr) (cs : Array Value) (d : TypeDesc) (hc : ∀ w', C w' → ∀ j u, cs[j]? = some u → w'.cell? (ad.add j) = some u) (hu : P.underlying ty = some d)
    (hi : (P.info? ty).map (·.size) = some cs.size) (hx : a.eval x = .pointer (some ad))
    (hd : (match d with | .struct _ | .array _ _ => true | _ => false) = true) (hk : K (a.put dst (.agg cs))) :
    Oper.quiet P ⟨dst, .load ty x, T, pos, af, gd⟩ a C K :=
  ⟨.agg cs, fun w hw => by
    have hr := run_loadVar_at (P := P) w ad ty cs d (hc w hw) hu hd hi
    unfold Oper.quietAt execOp
    simp only [hx, Instr.loadAt, Instr.sureAddr, Sem.run_bind, Sem.run_pure, Result.andThen_ok, hr]
    exact ⟨rfl, rfl⟩, hk⟩
theorem quietG_call2 {P : Program} {C : World → Prop} {K : Act → Prop} {a : Act} {dst : Option Tmp} {f : FuncId} {T : TypeId} {x y : Operand} {ts : Array TypeId} {pos : String} {af : Array Edge} {gd : Option (Nat × Bool)}
    (eg : ∀ args w, (callFunc f args).run P w = .ok (.enter f args) w) (u1 u2 v : Value) (hx : a.eval x = u1) (hy : a.eval y = u2)
    (hc : ∀ w', C w' → Calls P f #[u1, u2] w' fun e w'' => e = .returned v ∧ C w'') (hk : K (a.put dst v)) :
    Oper.quiet P ⟨dst, .call { callee := .value (.func f), args := #[x, y], argTypes := ts }, T, pos, af, gd⟩ a C K :=
  ⟨v, fun w hw => by
    have hf : a.eval (.func f) = .func (.func f) #[] #[] := rfl
    unfold Oper.quietAt
    simp [execOp, resolve, Deferred.ofValue, invoke, hx, hy, hf, eg, Oper.quietUpon, hc w hw], hk⟩
theorem quietG_call1 {P : Program} {C : World → Prop} {K : Act → Prop} {a : Act} {dst : Option Tmp} {f : FuncId} {T : TypeId} {x : Operand} {ts : Array TypeId} {pos : String} {af : Array Edge} {gd : Option (Nat × Bool)}
    (eg : ∀ args w, (callFunc f args).run P w = .ok (.enter f args) w) (u1 v : Value) (hx : a.eval x = u1)
    (hc : ∀ w', C w' → Calls P f #[u1] w' fun e w'' => e = .returned v ∧ C w'') (hk : K (a.put dst v)) :
    Oper.quiet P ⟨dst, .call { callee := .value (.func f), args := #[x], argTypes := ts }, T, pos, af, gd⟩ a C K :=
  ⟨v, fun w hw => by
    have hf : a.eval (.func f) = .func (.func f) #[] #[] := rfl
    unfold Oper.quietAt
    simp [execOp, resolve, Deferred.ofValue, invoke, hx, hf, eg, Oper.quietUpon, hc w hw], hk⟩
theorem quietG_call0 {P : Program} {C : World → Prop} {K : Act → Prop} {a : Act} {dst : Option Tmp} {f : FuncId} {T : TypeId} {ts : Array TypeId} {pos : String} {af : Array Edge} {gd : Option (Nat × Bool)}
    (eg : ∀ args w, (callFunc f args).run P w = .ok (.enter f args) w) (v : Value)
    (hc : ∀ w', C w' → Calls P f #[] w' fun e w'' => e = .returned v ∧ C w'') (hk : K (a.put dst v)) :
    Oper.quiet P ⟨dst, .call { callee := .value (.func f), args := #[], argTypes := ts }, T, pos, af, gd⟩ a C K :=
  ⟨v, fun w hw => by
    have hf : a.eval (.func f) = .func (.func f) #[] #[] := rfl
    unfold Oper.quietAt
    simp [execOp, resolve, Deferred.ofValue, invoke, hf, eg, Oper.quietUpon, hc w hw], hk⟩
/-- What has this value in all worlds of the class. -/
theorem quietG_world {P : Program} {C : World → Prop} {K : Act → Prop} {a : Act} {o : Oper} (v : Value) (h : ∀ w, C w → (execOp a.eval o).run P w = .ok (.value v) w) (hk : K (a.put o.dst v)) : o.quiet P a C K :=
  ⟨v, fun w hw => by unfold Oper.quietAt; rw [h w hw]; exact ⟨rfl, rfl⟩, hk⟩
theorem quietG_value {P : Program} {C : World → Prop} {K : Act → Prop} {a : Act} {o : Oper} (v : Value) (h : ∀ w, (execOp a.eval o).run P w = .ok (.value v) w) (hk : K (a.put o.dst v)) : o.quiet P a C K :=
  quietG_world v (fun w _ => h w) hk
/-- All worlds behind one, which leave what lies there. -/
abbrev Behind (w0 w' : World) : Prop := ∃ V : {V : World // Below w0.heap.size w0 V}, w' = V.1
theorem Behind.out {w0 w' : World} (h : Behind w0 w') : Below w0.heap.size w0 w' := by obtain ⟨⟨V, hV⟩, rfl⟩ := h; exact hV
theorem Behind.of {w0 w' : World} (h : Below w0.heap.size w0 w') : Behind w0 w' := ⟨⟨w', h⟩, rfl⟩
theorem Behind.on {w0 w' w'' : World} (h : Behind w0 w') (hb : Below w'.heap.size w' w'') : Behind w0 w'' := .of (h.out.trans (hb.mono h.out.size))
end Go.Proofs.YtffdkniahdekjaaDoor
end
section
namespace Go.Hoar
open Go Go.RowKit
theorem opw_slice2 {P : Program} {a : Act} {w : World} {K : Act → World → Prop} {Q : Exit → Act → World → Prop} {dst : Option Tmp} {t T : TypeId} {x0 x1 : Operand} {pos : String} {af : Array Edge}
    (e : TypeId) (ie : TypeInfo) (z : Value) (c0 c1 : Array Value) (hu : P.underlying t = some (.slice e)) (hie : P.info? e = some ie) (hz : ie.zero = some z) (h0 : c0.size = ie.size) (h1 : c1.size = ie.size) (hsmall : 2 * ie.size ≤ 1000) (hpos : 0 < 2 * ie.size)
    (e0 : a.eval x0 = .agg c0) (e1 : a.eval x1 = .agg c1) (h : K (a.put dst (.slice (some ⟨w.heap.size, 0, none⟩) 2 2)) (w.alloc (.cells ([c0, c1].flatMap Array.toList).toArray e))) :
    Oper.wp P ⟨dst, .buildSlice t 2 #[(0, x0), (1, x1)], T, pos, af, none⟩ a w K Q :=
  opw_slices e ie z [c0, c1] hu hie hz (fun c hc => by
    simp only [List.mem_cons, List.not_mem_nil, or_false] at hc
    rcases hc with rfl | rfl
    · exact h0
    · exact h1) rfl hsmall hpos (by simp [e0, e1, List.zipIdx]) h
theorem opw_slice1 {P : Program} {a : Act} {w : World} {K : Act → World → Prop} {Q : Exit → Act → World → Prop} {dst : Option Tmp} {t T : TypeId} {x0 : Operand} {pos : String} {af : Array Edge}
    (e : TypeId) (ie : TypeInfo) (z : Value) (c0 : Array Value) (hu : P.underlying t = some (.slice e)) (hie : P.info? e = some ie) (hz : ie.zero = some z) (h0 : c0.size = ie.size) (hsmall : 1 * ie.size ≤ 1000) (hpos : 0 < 1 * ie.size)
    (e0 : a.eval x0 = .agg c0) (h : K (a.put dst (.slice (some ⟨w.heap.size, 0, none⟩) 1 1)) (w.alloc (.cells c0 e))) :
    Oper.wp P ⟨dst, .buildSlice t 1 #[(0, x0)], T, pos, af, none⟩ a w K Q := by
  have e1 : ([c0].flatMap Array.toList).toArray = c0 := by simp
  refine opw_slices e ie z [c0] hu hie hz (fun c hc => by rw [List.mem_singleton.1 hc]; exact h0) rfl hsmall hpos (by simp [e0, List.zipIdx]) ?_
  rw [e1]
  exact h
end Go.Hoar
namespace Go.Proofs.YtffdkniahdekjaaDoor
open Go.RowKit Go.Hoar
theorem own_low {w : World} {base base' n : Nat} {e : TypeId} {size : Nat} {v : Value} {xs : List Value} (h : w.ownsRow base' e size v n xs) (hb : base ≤ base') : w.ownsRow base e size v n xs := by
  refine ⟨h.1, ?_⟩
  rcases h.2 with h2 | ⟨g, cap, cur, h3, h4, h5⟩
  · exact .inl h2
  · exact .inr ⟨g, cap, cur, h3, Nat.le_trans hb h4, h5⟩
theorem bpart_not_sum {w : World} {v : Value} {b : List Nat} {g : Nat} {cs : Array Value} (h : BPart w v b) (hh : Has w g 26 cs) : v.ownBlock ≠ some g := by
  obtain ⟨g7, c, ds, rfl, h7, _⟩ := h
  intro e
  obtain rfl : g7 = g := Option.some.inj e
  have h1 : w.heap[g7]? = some (.cells ds 5 (0, 0)) := h7
  have h2 : w.heap[g7]? = some (.cells cs 26 (0, 0)) := hh
  rw [h1] at h2
  injection h2 with h2
  injection h2 with _ h2
  exact absurd h2 (by decide)
theorem own_lit2 (A B : List Nat) (ha : A.length = 32) (hb : B.length = 32) {V : World} {base : Nat} (h : base ≤ V.heap.size) : (V.alloc (.cells ([arr32 A, arr32 B].flatMap Array.toList).toArray 26)).ownsRow base 26 32 (.slice (some ⟨V.heap.size, 0, none⟩) 2 2) 2 ([A, B].flatMap cellsOf) := by
  have e : ([A, B].flatMap cellsOf) = ([arr32 A, arr32 B].flatMap Array.toList).toArray.toList := by simp [cellsOf]
  rw [e]
  refine World.ownsRow_lit _ _ 2 h (by decide) ?_
  have h1 := arr32_size A (by omega)
  have h2 := arr32_size B (by omega)
  simp [h1, h2]
theorem own_lit1 (A : List Nat) (ha : A.length = 32) {V : World} {base : Nat} (h : base ≤ V.heap.size) : (V.alloc (.cells (arr32 A) 26)).ownsRow base 26 32 (.slice (some ⟨V.heap.size, 0, none⟩) 1 1) 1 ([A].flatMap cellsOf) := by
  have e : ([A].flatMap cellsOf) = (arr32 A).toList := by simp [cellsOf]
  rw [e]
  refine World.ownsRow_lit _ _ 1 h (by decide) ?_
  rw [arr32_size A (by omega)]
theorem row_lit {V : World} {base g n c : Nat} {ls : List (List Nat)} (h : V.ownsRow base 26 32 (.slice (some ⟨g, 0, none⟩) n c) n (ls.flatMap cellsOf)) (hok : SumsOk ls) (hn : ls.length = n) : RowOk V (some ⟨g, 0, none⟩) c ls := by
  obtain ⟨a, c', e, hr, _⟩ := row_of_own h hok hn
  injection e with e1 _ e2
  subst e1
  subst e2
  exact hr
/-- joined of one digest, and of two. -/
theorem joined_lit (first : Nat) (hf : first < 256) (ls : List (List Nat)) (hok : SumsOk ls) (n : Nat) (hn : ls.length = n) (hs : n ≤ 100) (g c base : Nat) (V : World) (h : V.ownsRow base 26 32 (.slice (some ⟨g, 0, none⟩) n c) n (ls.flatMap cellsOf)) (hc : ConstAt V) (m : Nat) (hm : m = 1 + 32 * n) :
    Calls Tryd.prog 86 #[.int .u8 (first : Int), .slice (some ⟨g, 0, none⟩) n c] V fun e w' => ∃ g7 c7, e = .returned (.tuple #[.agg (arr32 (Sha.sha (first :: ls.flatten))), .slice (some ⟨g7, 0, none⟩) m c7]) ∧ BPart w' (.slice (some ⟨g7, 0, none⟩) m c7) (first :: ls.flatten) ∧ Below V.heap.size V w' := by
  have hr := row_lit h hok hn
  subst hn
  refine (joined_any first hf ls hok hs _ c V hr hc _ (Lib.hid rfl)).mono ?_
  rintro e w' ⟨v, rfl, hv, _, hb⟩
  have hlen : (first :: ls.flatten).length = m := by rw [List.length_cons, (flat32 hok).1, hm]; omega
  obtain ⟨g7, c7, rfl, _, _, _⟩ := hv.part
  rw [hlen] at hv ⊢
  exact ⟨g7, c7, rfl, hv, hb⟩
theorem part_of {w : World} {g c : Nat} {b : List Nat} {vs : List Value} {bss : List (List Nat)} {base n : Nat} (ho : w.ownsRow base 22 1 (.slice (some ⟨g, 0, none⟩) n c) n vs) (hr : BRows w vs bss) {i : Nat} (hi : bss[i]? = some b) :
    ∃ gb cb, w.cell? ⟨g, i, none⟩ = some (.slice (some ⟨gb, 0, none⟩) b.length cb) ∧ PartOk w (some ⟨gb, 0, none⟩) cb b ∧ b.length ≤ cb ∧ cb ≤ maxLen := by
  obtain ⟨v, hv, hp⟩ := hr.get i hi
  obtain ⟨gb, cb, rfl, h1, h2, h3⟩ := hp.part
  have hc := own_news ho i _ hv
  rw [Addr.add_lit, Nat.zero_add] at hc
  exact ⟨gb, cb, hc, h1, h2, h3⟩
theorem cells_set (y : List Nat) (hy : y.length = 32) (j v : Nat) : (cellsOf y).set j (.int .u8 (v : Int)) = cellsOf (y.set j v) := by
  have h1 := arr32_full y hy
  have h2 := arr32_full (y.set j v) (by rw [List.length_set, hy])
  unfold cellsOf
  rw [h1, h2]
  simp [List.map_set, BV]
theorem flat_set : ∀ (L : List (List Nat)), SumsOk L → ∀ (p : Nat) (y : List Nat) (j v : Nat), L[p]? = some y → j < 32 → (L.flatMap cellsOf).set (p * 32 + j) (.int .u8 (v : Int)) = (L.set p (y.set j v)).flatMap cellsOf
  | [], _, p, y, j, v, h, _ => by simp at h
  | x :: L, hok, 0, y, j, v, h, hj => by
    obtain rfl : x = y := by simpa using h
    have hx := (hok x List.mem_cons_self).1
    have hc : (cellsOf x).length = 32 := cellsOf_len (by omega)
    rw [List.set_cons_zero, List.flatMap_cons, List.flatMap_cons, Nat.zero_mul, Nat.zero_add, List.set_append_left _ _ (by omega), cells_set x hx]
  | x :: L, hok, p + 1, y, j, v, h, hj => by
    have hx := (hok x List.mem_cons_self).1
    have hc : (cellsOf x).length = 32 := cellsOf_len (by omega)
    have ih := flat_set L (fun l hl => hok l (List.mem_cons_of_mem _ hl)) p y j v (by simpa using h) hj
    rw [List.set_cons_succ, List.flatMap_cons, List.flatMap_cons, List.set_append_right _ _ (by omega), hc, show (p + 1) * 32 + j - 32 = p * 32 + j by omega, ih]
theorem set_other {L : List (List Nat)} {p : Nat} {y : List Nat} {j v : Nat} (h : L[p]? = some y) (hj : j < y.length) (hv : v ≠ y.getD j 0) : L.set p (y.set j v) ≠ L := fun e => by
  have hp := (List.getElem?_eq_some_iff.1 h).1
  have h1 : (L.set p (y.set j v))[p]? = some (y.set j v) := List.getElem?_set_self hp
  rw [e, h] at h1
  have h2 : (y.set j v).getD j 0 = v := by rw [List.getD_eq_getElem?_getD, List.getElem?_set_self hj]; rfl
  rw [← Option.some.inj h1] at h2
  exact hv h2.symm
theorem set_ok {L : List (List Nat)} (hok : SumsOk L) {p j v : Nat} {y : List Nat} (h : L[p]? = some y) (hv : v < 256) : SumsOk (L.set p (y.set j v)) := fun l hl => by
  rcases List.mem_or_eq_of_mem_set hl with hl | rfl
  · exact hok l hl
  · have hy := hok y (List.mem_of_getElem? h)
    exact ⟨by rw [List.length_set]; exact hy.1, fun u hu => (List.mem_or_eq_of_mem_set hu).elim (hy.2 u) (fun e => by rw [e]; exact hv)⟩
end Go.Proofs.YtffdkniahdekjaaDoor
end
