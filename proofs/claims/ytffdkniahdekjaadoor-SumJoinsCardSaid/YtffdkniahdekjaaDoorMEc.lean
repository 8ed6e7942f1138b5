/-
  A REGION THAT DRAWS ITS ORDER, WALKED ONCE OVER ALL WORLDS THAT MAY COME: loads, calls and values, guarded or not.
  · THE REFERENCE's Write.
  · WHAT THE LAW SumPieces WANTS: arrays of words compared; a state's parts in memory; both write alike, and both end alike.
-/
import Derived.Test.YtffdkniahdekjaaDoorMEb
import Derived.Test.YtffdkniahdekjaaDoorMBi
import Derived.Test.YtffdkniahdekjaaDoorMBd
import Derived.Test.YtffdkniahdekjaaDoorMBc
import Derived.BigQuiet
section
namespace Go.Proofs.YtffdkniahdekjaaDoor
open Go.RowKit Go.Hoar
noncomputable def wrOps (k : Nat) : Array Oper := (Tryd.f21.body.bind (opsAt k)).getD #[]
/-- Four results, the first one a row. -/
theorem results_row_tmp3 {fn : Func} {p u1 u2 u3 : Tmp} {ty : TypeId} (h : fn.results = #[.cell p ty, .tmp u1, .tmp u2, .tmp u3]) (tmps : Array Value) (w : World) (g : Nat) (t : TypeId) (cs : Array Value) (fr : Nat × Nat) (d : TypeDesc)
    (hp : tmps.getD p undef = .pointer (some ⟨g, 0, none⟩)) (hg : w.heap[g]? = some (.cells cs t fr))
    (hd : (match d with | .struct _ | .array _ _ => true | _ => false) = true) (hu : Tryd.prog.underlying ty = some d) (hi : (Tryd.prog.info? ty).map (·.size) = some cs.size) :
    (results fn tmps).run Tryd.prog w = .ok (.tuple #[.agg cs, tmps.getD u1 undef, tmps.getD u2 undef, tmps.getD u3 undef]) w := by
  have hp' : tmps[p]?.getD undef = .pointer (some ⟨g, 0, none⟩) := by simpa using hp
  simp [results, h, hp', asAddr, run_loadVar_row w g t ty cs fr d hg hu (by cases d <;> simp_all) hi]
/-- An append of whatever bytes lie in memory to a row of one's own. -/
theorem opw_append_part {o : Oper} {a : Act} {w : World} {K : Act → World → Prop} {Q : Exit → Act → World → Prop} (s x : Operand)
    (ho : o.op = .call { callee := .builtin .append, args := #[s, x], argTypes := #[22, 22] })
    (base : Nat) (v : Value) (n : Nat) (xs : List Value) (hs : a.eval s = v) (hown : w.ownsRow base 5 1 v n xs) (sa : Option Addr) (c : Nat) (bs : List Nat) (hx : a.eval x = .slice sa bs.length c) (hp : PartOk w sa c bs)
    (hlen : n + bs.length ≤ 140737488355328) (hbase : base ≤ w.heap.size)
    (h : ∀ v' w', w'.ownsRow base 5 1 v' (n + bs.length) (xs ++ bs.map BV) → w.grownBy w' v.ownBlock → K (a.put o.dst v') w') : o.wp Tryd.prog a w K Q := by
  obtain ⟨i0, hi, hz0, hz1, hz2⟩ := info_parts info8
  rcases hp with ⟨rfl, rfl, rfl⟩ | ⟨g, off, rfl, hg, hb⟩
  · have hrun := run_append_owned_none (P := Tryd.prog) (w := w) base 22 o.type 5 i0 1 Tryd.underlying22 hi v n xs hown
    unfold Oper.wp
    simp only [List.length_nil] at hx
    simp [execOp, ho, resolve, invoke, builtin, hs, hx, hrun, Result.andThen]
    exact h v w (by simpa using hown) ⟨rfl, rfl, rfl, Nat.le_refl _, fun _ _ _ => rfl⟩
  · refine wp_append_own w s x 22 ho base 5 i0 (.int .u8 0) 1 1 Tryd.underlying22 hi hz0 hz1 hz2 rfl (by decide) v n xs hs hown ⟨g, off, none⟩ bs.length c (bs.map BV) hx (by simp) (fun j u hj => ?_) (fun u hu => ?_) (by unfold maxLen; omega) (by omega) hbase (fun v' w' h1 h2 _ => h v' w' h1 h2)
    · rw [List.getElem?_map] at hj
      obtain ⟨y, hy, rfl⟩ := Option.map_eq_some_iff.1 hj
      have hjl := (List.getElem?_eq_some_iff.1 hy).1
      rw [Addr.add_lit, hb j hjl, List.getD_eq_getElem?_getD, hy]
      rfl
    · obtain ⟨x, _, rfl⟩ := List.mem_map.1 hu
      rfl
theorem own_empty (V : World) (base : Nat) (hb : base ≤ V.heap.size) : (V.alloc (.cells #[] 5)).ownsRow base 5 1 (.slice (some ⟨V.heap.size, 0, none⟩) 0 0) 0 [] :=
  ⟨rfl, .inr ⟨V.heap.size, 0, #[], rfl, hb, heap_alloc_new V _, Nat.le_refl _, Nat.zero_le _, rfl, rfl⟩⟩
/-- Bytes do not lie where words lie. -/
theorem part_words {W : World} {a : Option Addr} {c b0 : Nat} {t : TypeId} {bs l : List Nat} (h : PartOk W a c bs) (hl : Has W b0 t (w8 l)) (cs : Array Value) : PartOk (W.setRow b0 cs) a c bs := by
  rcases h with h | ⟨g, off, rfl, hg, hb⟩
  · exact .inl h
  · refine .inr ⟨g, off, rfl, by simpa using hg, fun i hi => ?_⟩
    have h1 := hb i hi
    by_cases he : g = b0
    · subst he
      rw [hl.cell, w8, List.getElem?_toArray, List.getElem?_map] at h1
      cases hx : l[off + i]? with
      | none => rw [hx] at h1; cases h1
      | some x => rw [hx] at h1; cases h1
    · rw [← h1]
      exact World.cell?_of_block (setRow_heap_other W b0 g cs he)
theorem zero_words : w8 (List.replicate 8 0) = #[.int .u32 0, .int .u32 0, .int .u32 0, .int .u32 0, .int .u32 0, .int .u32 0, .int .u32 0, .int .u32 0] := rfl
set_option maxRecDepth 100000 in
set_option maxHeartbeats 1000000 in
theorem refWrite_bad (h : List Nat) (ra a : Option Addr) (rn rc n c : Nat) (long : Int) (w : World) (hrn : rn ≤ 140737488355328) (_hn : n ≤ 140737488355328) (hl : -9223372036854775808 ≤ long) (er : Int)
    (hbad : (¬ Sound rn long ∧ er = 14) ∨ (Sound rn long ∧ 1099511627776 - long < n ∧ er = 11)) :
    Calls Tryd.prog 21 #[.agg (w8 h), .slice ra rn rc, .int .i64 long, .slice a n c] w fun e w' => e = .returned (.tuple #[.agg (w8 (List.replicate 8 0)), .slice none 0 0, .int .i64 0, .int .i64 er]) ∧ Below w.heap.size w w' := by
  have HRt := Lib.hid fun V : World => refRight_any ra rn rc long V hrn hl
  have HI := Lib.hid (w8_info (List.replicate 8 0) (by simp))
  have HO := Lib.hid (w8_one (List.replicate 8 0))
  rw [zero_words] at HI HO
  rw [zero_words]
  rcases hbad with ⟨hs, rfl⟩ | ⟨hs, hb, rfl⟩
  · rw [decide_eq_false hs] at HRt
    clear hs
    go_enter Tryd.func21, Tryd.ntmps21
    go_upto_region 1 with (fail)
    refine gen_world (P := fun W => Code.wp _ _ _ _ W) (I := fun W => Below w.heap.size w W ∧ Has W (w.heap.size + 1) 31 #[.int .u32 0, .int .u32 0, .int .u32 0, .int .u32 0, .int .u32 0, .int .u32 0, .int .u32 0, .int .u32 0]) _ ⟨((Below.refl _ w).alloc (Nat.le_refl _) _).alloc (by simp) _, Has.fresh_at _ _ _ _ (by simp)⟩ ?_
    rintro W ⟨hB, hR⟩
    have HB := Lib.hid hB
    have HR := Lib.hid hR
    clear hB hR
    go_wp2_with (first
      | (go_at_call 62; (with_reducible refine (HRt.out _).mono ?_); rintro e w1 ⟨rfl, rfl⟩)
      | ((with_reducible refine arm_store (w.heap.size + 1) #[.int .u32 0, .int .u32 0, .int .u32 0, .int .u32 0, .int .u32 0, .int .u32 0, .int .u32 0, .int .u32 0] _ _ HR.out rfl HI.out HO.out ?h5 ?h6 ?_); (case h5 => rfl); (case h6 => rfl)))
    exact bodyPost_ret (results_row_tmp3 rfl _ _ (w.heap.size + 1) 31 #[.int .u32 0, .int .u32 0, .int .u32 0, .int .u32 0, .int .u32 0, .int .u32 0, .int .u32 0, .int .u32 0] (0, 0) _ rfl HR.out.setRow rfl Tryd.underlying31 HI.out) rfl ⟨rfl, below_setRow HB.out (by omega) _⟩
  · rw [decide_eq_true hs] at HRt
    have h1 := hs.1
    have h2 := hs.2.1
    clear hs
    go_enter Tryd.func21, Tryd.ntmps21
    go_upto_region 1 with (fail)
    refine gen_world (P := fun W => Code.wp _ _ _ _ W) (I := fun W => Below w.heap.size w W ∧ Has W (w.heap.size + 1) 31 #[.int .u32 0, .int .u32 0, .int .u32 0, .int .u32 0, .int .u32 0, .int .u32 0, .int .u32 0, .int .u32 0]) _ ⟨((Below.refl _ w).alloc (Nat.le_refl _) _).alloc (by simp) _, Has.fresh_at _ _ _ _ (by simp)⟩ ?_
    rintro W ⟨hB, hR⟩
    have HB := Lib.hid hB
    have HR := Lib.hid hR
    clear hB hR
    go_wp2_with (first
      | (go_at_call 62; (with_reducible refine (HRt.out _).mono ?_); rintro e w1 ⟨rfl, rfl⟩)
      | ((with_reducible refine arm_store (w.heap.size + 1) #[.int .u32 0, .int .u32 0, .int .u32 0, .int .u32 0, .int .u32 0, .int .u32 0, .int .u32 0, .int .u32 0] _ _ HR.out rfl HI.out HO.out ?h5 ?h6 ?_); (case h5 => rfl); (case h6 => rfl)))
    exact bodyPost_ret (results_row_tmp3 rfl _ _ (w.heap.size + 1) 31 #[.int .u32 0, .int .u32 0, .int .u32 0, .int .u32 0, .int .u32 0, .int .u32 0, .int .u32 0, .int .u32 0] (0, 0) _ rfl HR.out.setRow rfl Tryd.underlying31 HI.out) rfl ⟨rfl, below_setRow HB.out (by omega) _⟩
set_option maxRecDepth 100000 in
set_option maxHeartbeats 3000000 in
theorem refWrite_any (h rb bs : List Nat) (ra a : Option Addr) (rc c : Nat) (long : Int) (w : World) (hh : h.length = 8) (hw : Sha.Words h) (hr : PartOk w ra rc rb) (hb : PartOk w a c bs) (hrb : Sha.Bytes rb) (hbs : Sha.Bytes bs) (hrl : rb.length ≤ 1000) (hbl : bs.length ≤ 1000000)
    (hs : Sound rb.length long) (hlen : bs.length ≤ 1099511627776 - long) (al : List Nat) (hal : Hid (al = rb ++ bs)) :
    Calls Tryd.prog 21 #[.agg (w8 h), .slice ra rb.length rc, .int .i64 long, .slice a bs.length c] w fun e w' => ∃ a' c', e = .returned (.tuple #[.agg (w8 (Sha.all h al)), .slice a' (restOf al).length c', .int .i64 (long + bs.length), .int .i64 0]) ∧ PartOk w' a' c' (restOf al) ∧ Below w.heap.size w w' := by
  have h1 := hs.1
  have h2 := hs.2.1
  have HRt := Lib.hid fun V : World => refRight_any ra rb.length rc long V (by omega) (by omega)
  rw [decide_eq_true hs] at HRt
  obtain ⟨H, hH⟩ : ∃ H, H = Sha.all h al := ⟨_, rfl⟩
  obtain ⟨R, hR⟩ : ∃ R, R = restOf al := ⟨_, rfl⟩
  have hHl : H.length = 8 := by rw [hH, Sha.all, Sha.takes_length, hh]
  have hall : al.length = rb.length + bs.length := by rw [hal.out, List.length_append]
  have hRl : R.length ≤ 140737488000000 := by rw [hR, restOf, List.length_drop]; omega
  have HAll : Hid (∀ (V : World) (a' : Option Addr) (c' : Nat), V.ownsRow (w.heap.size + 2) 5 1 (.slice a' (rb.length + bs.length) c') (rb.length + bs.length) (al.map BV) → Calls Tryd.prog 59 #[.agg (w8 h), .slice a' (rb.length + bs.length) c'] V fun e w' => ∃ a'' c'', e = .returned (.tuple #[.agg (w8 H), .slice a'' R.length c'']) ∧ PartOk w' a'' c'' R ∧ Below V.heap.size V w') := Lib.hid fun V a' c' ho => by
    have hp := (part_own ho).1
    obtain ⟨a0, c0, hv, k1, k2⟩ := own_shape ho
    simp only [Value.slice.injEq, true_and] at hv
    obtain ⟨rfl, rfl⟩ := hv
    have := refAll_any h al a' c' V hh hw (by rw [hal.out]; exact bytes_append hrb hbs) hp (by omega) k2 H (Lib.hid hH) R (Lib.hid (by rw [hR, restOf]))
    rw [hall] at this
    exact this.mono fun e w' ⟨a1, c1, he, g1, _, _, g2⟩ => ⟨a1, c1, he, g1, g2⟩
  have HIh := Lib.hid (w8_info h hh)
  have HIH := Lib.hid (w8_info H hHl)
  have HOH := Lib.hid (w8_one H)
  have HSH : Hid ((w8 h).size = (w8 H).size) := Lib.hid (by rw [w8_size _ hh, w8_size _ hHl])
  have HSZ : Hid ((#[.int .u32 0, .int .u32 0, .int .u32 0, .int .u32 0, .int .u32 0, .int .u32 0, .int .u32 0, .int .u32 0] : Array Value).size = (w8 H).size) := Lib.hid (by rw [w8_size _ hHl]; rfl)
  have HRb := Lib.hid hr
  have HBb := Lib.hid hb
  have HAl : Hid (rb.map BV ++ bs.map BV = al.map BV) := Lib.hid (by rw [hal.out, List.map_append])
  rw [← hH, ← hR]
  clear hs hr hb hH hR hall
  go_enter Tryd.func21, Tryd.ntmps21
  go_upto_region 1 with (fail)
  refine gen_world (P := fun W => Code.wp _ _ _ _ W) (I := fun W => Below w.heap.size w W ∧ Has W w.heap.size 31 (w8 h) ∧ Has W (w.heap.size + 1) 31 #[.int .u32 0, .int .u32 0, .int .u32 0, .int .u32 0, .int .u32 0, .int .u32 0, .int .u32 0, .int .u32 0]) _ ⟨((Below.refl _ w).alloc (Nat.le_refl _) _).alloc (by simp) _, (Has.fresh_at _ _ _ _ rfl).alloc _, Has.fresh_at _ _ _ _ (by simp)⟩ ?_
  rintro W ⟨hB, hT4, hT8⟩
  have HB := Lib.hid hB
  have HT4 := Lib.hid hT4
  have HT8 := Lib.hid hT8
  clear hB hT4 hT8
  go_upto_region 5 with (go_at_call 62; (with_reducible refine (HRt.out _).mono ?_); rintro e w1 ⟨rfl, rfl⟩)
  change Code.wp _ (Code.region 5 (wrOps 5) true) _ _ _
  refine wp_region_held (S := fun V => Below w.heap.size w V) (by kernel_rfl) ?_
  have hsz : (wrOps 5).size = 12 := by kernel_rfl
  rw [hsz]
  clear hsz
  refine gen_world (P := fun W' => wpAnyH _ _ _ _ _ _ _ _ W') (I := fun V => Below w.heap.size w V ∧ Has V w.heap.size 31 (w8 h) ∧ Has V (w.heap.size + 1) 31 #[.int .u32 0, .int .u32 0, .int .u32 0, .int .u32 0, .int .u32 0, .int .u32 0, .int .u32 0, .int .u32 0]) _ ⟨HB.out.drew, HT4.out.drew, HT8.out.drew⟩ ?_
  rintro V ⟨hBV, hT4, hT8⟩
  have HB0 := Lib.hid hBV
  have HX4 := Lib.hid hT4
  have HX8 := Lib.hid hT8
  have hV2 : w.heap.size + 2 ≤ V.heap.size := by have := hT8.lt; omega
  have HB1 := Lib.hid (hBV.alloc hBV.size (.cells #[] 5))
  have HY4 := Lib.hid (hT4.alloc (.cells #[] 5))
  have HY8 := Lib.hid (hT8.alloc (.cells #[] 5))
  have HO1 := Lib.hid (own_empty V (w.heap.size + 2) hV2)
  have HP1 := Lib.hid (HRb.out.below HB1.out)
  have HQ1 := Lib.hid (HBb.out.below HB1.out)
  have hV3 : w.heap.size + 2 ≤ (V.alloc (.cells #[] 5)).heap.size := by simp; omega
  clear hBV hT4 hT8 HB HT4 HT8
  refine wpAnyH_take (i := 2) (oi := ⟨some 27, _, _, _, _, _⟩) (v := ?_) rfl (by kernel_rfl) (by kernel_rfl) (by kernel_rfl) (fun _ _ _ h => h) (Or.inl ⟨by rfl, fun w' hw' => by go_simp; with_reducible rfl⟩) HB0.out ?_
  try simp only [Act.put, List.setIfInBounds_toArray, List.set_cons_succ, List.set_cons_zero]
  refine wpAnyH_take (i := 4) (oi := ⟨some 29, _, _, _, _, _⟩) (v := ?_) rfl (by kernel_rfl) (by kernel_rfl) (by kernel_rfl) (fun _ _ _ h => h) (Or.inl ⟨by rfl, fun w' hw' => by go_simp; with_reducible rfl⟩) HB0.out ?_
  try simp only [Act.put, List.setIfInBounds_toArray, List.set_cons_succ, List.set_cons_zero]
  refine wpAnyH_all (rs := [0, 1]) (by kernel_rfl) (by simp) ?_
  intro j hj
  have hj2 : j = 0 ∨ j = 1 := by simpa using hj
  clear hj
  rcases hj2 with rfl | rfl
  · refine wpOp_step (o := ⟨some 25, _, _, _, _, _⟩) rfl (fun K' hK' => ?_)
    rw [if_pos (show Region.wanted _ _ = true from rfl)]
    refine opw_load ⟨w.heap.size, 0, none⟩ (w8 h) _ HX4.out.row Tryd.underlying31 HIh.out rfl rfl ?_
    refine hK' _ _ ⟨HB0.out, ?_⟩
    clear hK' K'
    try simp only [Act.put, List.setIfInBounds_toArray, List.set_cons_succ, List.set_cons_zero]
    refine wpAnyH_all (rs := [1]) (by kernel_rfl) (by simp) ?_
    intro i hi
    obtain rfl : i = 1 := by simpa using hi
    clear hi
    refine wpOp_step (o := ⟨some 26, _, _, _, _, _⟩) rfl (fun K' hK' => ?_)
    rw [if_pos (show Region.wanted _ _ = true from rfl)]
    go_simp
    refine hK' _ _ ⟨HB1.out, ?_⟩
    clear hK' K'
    try simp only [Act.put, List.setIfInBounds_toArray, List.set_cons_succ, List.set_cons_zero]
    refine wpAnyH_all (rs := [3]) (by kernel_rfl) (by simp) ?_
    intro i hi
    obtain rfl : i = 3 := by simpa using hi
    clear hi
    refine wpOp_step (o := ⟨some 28, _, _, _, _, _⟩) rfl (fun K' hK' => ?_)
    rw [if_pos (show Region.wanted _ _ = true from rfl)]
    refine opw_append_part _ _ rfl (w.heap.size + 2) _ _ _ rfl HO1.out ra rc rb rfl HP1.out (by omega) hV3 (fun v3 w3 hown3 hgrow3 => ?_)
    have hB3 : Below (w.heap.size + 2) (V.alloc (.cells #[] 5)) w3 := (Below.refl _ _).grown hgrow3 hV3 (fun r hr => (HO1.out.lt r hr).1)
    have HB3 := Lib.hid (HB1.out.trans (hB3.mono (by omega)))
    have HZ4 := Lib.hid (HY4.out.below hB3 (by omega))
    have HZ8 := Lib.hid (HY8.out.below hB3 (by omega))
    have HQ3 := Lib.hid (HBb.out.below HB3.out)
    have ho3 : w3.ownsRow (w.heap.size + 2) 5 1 v3 rb.length (rb.map BV) := by simpa using hown3
    have hV4 : w.heap.size + 2 ≤ w3.heap.size := Nat.le_trans hV3 hB3.size
    have HO3 := Lib.hid ho3
    clear hown3 hgrow3 hB3 ho3
    refine hK' _ _ ⟨HB3.out, ?_⟩
    clear hK' K'
    try simp only [Act.put, List.setIfInBounds_toArray, List.set_cons_succ, List.set_cons_zero]
    refine wpAnyH_all (rs := [5]) (by kernel_rfl) (by simp) ?_
    intro i hi
    obtain rfl : i = 5 := by simpa using hi
    clear hi
    refine wpOp_step (o := ⟨some 30, _, _, _, _, _⟩) rfl (fun K' hK' => ?_)
    rw [if_pos (show Region.wanted _ _ = true from rfl)]
    refine opw_append_part _ _ rfl (w.heap.size + 2) _ _ _ rfl HO3.out a c bs rfl HQ3.out (by omega) hV4 (fun v5 w5 hown5 hgrow5 => ?_)
    have hB5 : Below (w.heap.size + 2) w3 w5 := (Below.refl _ _).grown hgrow5 hV4 (fun r hr => (HO3.out.lt r hr).1)
    have HB5 := Lib.hid (HB3.out.trans (hB5.mono (by omega)))
    have HW4 := Lib.hid (HZ4.out.below hB5 (by omega))
    have HW8 := Lib.hid (HZ8.out.below hB5 (by omega))
    rw [HAl.out] at hown5
    obtain ⟨a5, c5, rfl⟩ := own_form hown5
    have HO5 := Lib.hid hown5
    clear hown5 hgrow5 hB5
    refine hK' _ _ ⟨HB5.out, ?_⟩
    clear hK' K'
    try simp only [Act.put, List.setIfInBounds_toArray, List.set_cons_succ, List.set_cons_zero]
    refine wpAnyH_all (rs := [6]) (by kernel_rfl) (by simp) ?_
    intro i hi
    obtain rfl : i = 6 := by simpa using hi
    clear hi
    refine wpOp_step (o := ⟨some 31, _, _, _, _, _⟩) rfl (fun K' hK' => ?_)
    rw [if_pos (show Region.wanted _ _ = true from rfl)]
    go_simp
    (with_reducible refine (HAll.out w5 a5 c5 HO5.out).mono ?_)
    rintro e w6 ⟨a6, c6, rfl, hp6, hbx⟩
    have HB6 := Lib.hid (HB5.out.trans (hbx.mono HB5.out.size))
    have HU4 := Lib.hid (HW4.out.below hbx HW4.out.lt)
    have HU8 := Lib.hid (HW8.out.below hbx HW8.out.lt)
    have HP6 := Lib.hid hp6
    clear hbx hp6
    refine hK' _ _ ⟨HB6.out, ?_⟩
    clear hK' K'
    try simp only [Act.put, List.setIfInBounds_toArray, List.set_cons_succ, List.set_cons_zero]
    refine wpAnyH_take (i := 7) (oi := ⟨some 24, _, _, _, _, _⟩) (v := ?_) rfl (by kernel_rfl) (by kernel_rfl) (by kernel_rfl) (fun _ _ _ h => h) (Or.inl ⟨by rfl, fun w' hw' => by go_simp; with_reducible rfl⟩) HB6.out ?_
    try simp only [Act.put, List.setIfInBounds_toArray, List.set_cons_succ, List.set_cons_zero]
    refine wpAnyH_take (i := 8) (oi := ⟨some 32, _, _, _, _, _⟩) (v := ?_) rfl (by kernel_rfl) (by kernel_rfl) (by kernel_rfl) (fun _ _ _ h => h) (Or.inl ⟨by rfl, fun w' hw' => by go_simp; with_reducible rfl⟩) HB6.out ?_
    try simp only [Act.put, List.setIfInBounds_toArray, List.set_cons_succ, List.set_cons_zero]
    refine wpAnyH_take (i := 9) (oi := ⟨some 33, _, _, _, _, _⟩) (v := ?_) rfl (by kernel_rfl) (by kernel_rfl) (by kernel_rfl) (fun _ _ _ h => h) (Or.inl ⟨by rfl, fun w' hw' => by go_simp; with_reducible rfl⟩) HB6.out ?_
    try simp only [Act.put, List.setIfInBounds_toArray, List.set_cons_succ, List.set_cons_zero]
    refine wpAnyH_all (rs := [10]) (by kernel_rfl) (by simp) ?_
    intro i hi
    obtain rfl : i = 10 := by simpa using hi
    clear hi
    refine wpOp_step (o := ⟨none, _, _, _, _, _⟩) rfl (fun K' hK' => ?_)
    rw [if_pos (show Region.wanted _ _ = true from rfl)]
    refine opw_store w.heap.size (w8 H) _ _ HU4.out HSH.out HIH.out HOH.out rfl rfl ?_
    refine hK' _ _ ⟨below_setRow HB6.out (Nat.le_refl _) _, ?_⟩
    clear hK' K'
    try simp only [Act.put, List.setIfInBounds_toArray, List.set_cons_succ, List.set_cons_zero]
    have HB7 := Lib.hid (below_setRow HB6.out (Nat.le_refl _) (w8 H))
    refine wpAnyH_take (i := 11) (oi := ⟨some 12, _, _, _, _, _⟩) (v := ?_) rfl (by kernel_rfl) (by kernel_rfl) (by kernel_rfl) (fun _ _ _ h => h) (Or.inl ⟨by rfl, fun w' hw' => by go_simp; with_reducible rfl⟩) HB7.out ?_
    try simp only [Act.put, List.setIfInBounds_toArray, List.set_cons_succ, List.set_cons_zero]
    refine wpAnyH_done (by kernel_rfl) ?_ _
    refine gen_world (P := fun W => _) (I := fun Z => Below w.heap.size w Z ∧ Has Z w.heap.size 31 (w8 H) ∧ Has Z (w.heap.size + 1) 31 #[.int .u32 0, .int .u32 0, .int .u32 0, .int .u32 0, .int .u32 0, .int .u32 0, .int .u32 0, .int .u32 0] ∧ PartOk Z a6 c6 R) _ ⟨HB7.out, HU4.out.setRow, HU8.out.setRow_apart (by omega), part_words HP6.out HU4.out _⟩ ?_
    rintro U ⟨hBU, hU4, hU8, hPU⟩
    have HBU := Lib.hid hBU
    have HX4 := Lib.hid hU4
    have HX8 := Lib.hid hU8
    have HPU := Lib.hid hPU
    have hU2 : w.heap.size + 2 ≤ U.heap.size := by have := hU8.lt; omega
    clear hBU hU4 hU8 hPU
    have hwr : IntKind.i64.wrap (long + (bs.length : Int)) = long + (bs.length : Int) := IntWalk.i64_in _ (by omega)
    go_upto_region 6 with (fail)
    change Code.wp _ (Code.region 6 (wrOps 6) true) _ _ _
    refine wp_region_held (S := fun V => Below (w.heap.size + 1) U V) (by kernel_rfl) ?_
    have hsz : (wrOps 6).size = 12 := by kernel_rfl
    rw [hsz]
    clear hsz
    refine gen_world (P := fun W' => wpAnyH _ _ _ _ _ _ _ _ W') (I := fun V => Below U.heap.size U V) _ (Below.refl _ U).drew ?_
    intro Z hBZ
    have hUZ := hBZ.size
    have HS0 := Lib.hid (hBZ.mono (show w.heap.size + 1 ≤ U.heap.size by omega))
    have HE8 := Lib.hid ((HX8.out.below hBZ HX8.out.lt).alloc (.cells #[] 5))
    have HS1 := Lib.hid (HS0.out.alloc (show w.heap.size + 1 ≤ Z.heap.size by omega) (.cells #[] 5))
    have HOZ := Lib.hid (own_empty Z (w.heap.size + 2) (by omega))
    have HPZ := Lib.hid ((HPU.out.below hBZ).below ((Below.refl _ Z).alloc (Nat.le_refl _) (.cells #[] 5)))
    have hZ2 : w.heap.size + 2 ≤ (Z.alloc (.cells #[] 5)).heap.size := by simp; omega
    clear hBZ
    refine wpAnyH_take (i := 0) (oi := ⟨some 34, _, _, _, _, none⟩) (v := .agg (w8 H)) rfl (by kernel_rfl) (by kernel_rfl) (by kernel_rfl) (fun _ _ _ h => h) (yieldsIf_load ⟨w.heap.size, 0, none⟩ _ _ (fun x hx => (HX4.out.below hx (by omega)).row) Tryd.underlying31 HIH.out rfl rfl) HS0.out ?_
    try simp only [Act.put, List.setIfInBounds_toArray, List.set_cons_succ, List.set_cons_zero]
    refine wpAnyH_take (i := 2) (oi := ⟨some 36, _, _, _, _, _⟩) (v := ?_) rfl (by kernel_rfl) (by kernel_rfl) (by kernel_rfl) (fun _ _ _ h => h) (Or.inl ⟨by rfl, fun w' hw' => by go_simp; with_reducible rfl⟩) HS0.out ?_
    try simp only [Act.put, List.setIfInBounds_toArray, List.set_cons_succ, List.set_cons_zero]
    refine wpAnyH_take (i := 4) (oi := ⟨some 38, _, _, _, _, _⟩) (v := ?_) rfl (by kernel_rfl) (by kernel_rfl) (by kernel_rfl) (fun _ _ _ h => h) (Or.inl ⟨by rfl, fun w' hw' => by go_simp; with_reducible rfl⟩) HS0.out ?_
    try simp only [Act.put, List.setIfInBounds_toArray, List.set_cons_succ, List.set_cons_zero]
    refine wpAnyH_take (i := 5) (oi := ⟨some 39, _, _, _, _, _⟩) (v := ?_) rfl (by kernel_rfl) (by kernel_rfl) (by kernel_rfl) (fun _ _ _ h => h) (Or.inl ⟨by rfl, fun w' hw' => by go_simp; with_reducible rfl⟩) HS0.out ?_
    try simp only [Act.put, List.setIfInBounds_toArray, List.set_cons_succ, List.set_cons_zero]
    refine wpAnyH_take (i := 6) (oi := ⟨some 40, _, _, _, _, _⟩) (v := ?_) rfl (by kernel_rfl) (by kernel_rfl) (by kernel_rfl) (fun _ _ _ h => h) (Or.inl ⟨by rfl, fun w' hw' => by go_simp; with_reducible rfl⟩) HS0.out ?_
    try simp only [Act.put, List.setIfInBounds_toArray, List.set_cons_succ, List.set_cons_zero]
    refine wpAnyH_take (i := 7) (oi := ⟨some 41, _, _, _, _, _⟩) (v := ?_) rfl (by kernel_rfl) (by kernel_rfl) (by kernel_rfl) (fun _ _ _ h => h) (Or.inl ⟨by rfl, fun w' hw' => by go_simp; with_reducible rfl⟩) HS0.out ?_
    try simp only [Act.put, List.setIfInBounds_toArray, List.set_cons_succ, List.set_cons_zero]
    refine wpAnyH_all (rs := [1]) (by kernel_rfl) (by simp) ?_
    intro i hi
    obtain rfl : i = 1 := by simpa using hi
    clear hi
    refine wpOp_step (o := ⟨some 35, _, _, _, _, _⟩) rfl (fun K' hK' => ?_)
    rw [if_pos (show Region.wanted _ _ = true from rfl)]
    go_simp
    refine hK' _ _ ⟨HS1.out, ?_⟩
    clear hK' K'
    try simp only [Act.put, List.setIfInBounds_toArray, List.set_cons_succ, List.set_cons_zero]
    refine wpAnyH_all (rs := [3]) (by kernel_rfl) (by simp) ?_
    intro i hi
    obtain rfl : i = 3 := by simpa using hi
    clear hi
    refine wpOp_step (o := ⟨some 37, _, _, _, _, _⟩) rfl (fun K' hK' => ?_)
    rw [if_pos (show Region.wanted _ _ = true from rfl)]
    refine opw_append_part _ _ rfl (w.heap.size + 2) _ _ _ rfl HOZ.out a6 c6 R rfl HPZ.out (by omega) hZ2 (fun v9 w9 hown9 hgrow9 => ?_)
    have hB9 : Below (w.heap.size + 2) (Z.alloc (.cells #[] 5)) w9 := (Below.refl _ _).grown hgrow9 hZ2 (fun r hr => (HOZ.out.lt r hr).1)
    have HS9 := Lib.hid (HS1.out.trans (hB9.mono (by omega)))
    have HE9 := Lib.hid (HE8.out.below hB9 (by omega))
    have ho9 : w9.ownsRow (w.heap.size + 2) 5 1 v9 R.length (R.map BV) := by simpa using hown9
    obtain ⟨a9, c9, rfl⟩ := own_form ho9
    have HO9 := Lib.hid ho9
    clear hown9 hgrow9 hB9 ho9 hwr
    refine hK' _ _ ⟨HS9.out, ?_⟩
    clear hK' K'
    try simp only [Act.put, List.setIfInBounds_toArray, List.set_cons_succ, List.set_cons_zero]
    refine wpAnyH_all (rs := [8]) (by kernel_rfl) (by simp) ?_
    intro i hi
    obtain rfl : i = 8 := by simpa using hi
    clear hi
    refine wpOp_step (o := ⟨none, _, _, _, _, _⟩) rfl (fun K' hK' => ?_)
    rw [if_pos (show Region.wanted _ _ = true from rfl)]
    refine opw_store (w.heap.size + 1) (w8 H) _ _ HE9.out HSZ.out HIH.out HOH.out rfl rfl ?_
    refine hK' _ _ ⟨below_setRow HS9.out (Nat.le_refl _) _, ?_⟩
    clear hK' K'
    try simp only [Act.put, List.setIfInBounds_toArray, List.set_cons_succ, List.set_cons_zero]
    have HS10 := Lib.hid (below_setRow HS9.out (Nat.le_refl _) (w8 H))
    refine wpAnyH_take (i := 9) (oi := ⟨some 9, _, _, _, _, _⟩) (v := ?_) rfl (by kernel_rfl) (by kernel_rfl) (by kernel_rfl) (fun _ _ _ h => h) (Or.inl ⟨by rfl, fun w' hw' => by go_simp; with_reducible rfl⟩) HS10.out ?_
    try simp only [Act.put, List.setIfInBounds_toArray, List.set_cons_succ, List.set_cons_zero]
    refine wpAnyH_take (i := 10) (oi := ⟨some 10, _, _, _, _, _⟩) (v := ?_) rfl (by kernel_rfl) (by kernel_rfl) (by kernel_rfl) (fun _ _ _ h => h) (Or.inl ⟨by rfl, fun w' hw' => by go_simp; with_reducible rfl⟩) HS10.out ?_
    try simp only [Act.put, List.setIfInBounds_toArray, List.set_cons_succ, List.set_cons_zero]
    refine wpAnyH_take (i := 11) (oi := ⟨some 11, _, _, _, _, _⟩) (v := ?_) rfl (by kernel_rfl) (by kernel_rfl) (by kernel_rfl) (fun _ _ _ h => h) (Or.inl ⟨by rfl, fun w' hw' => by go_simp; with_reducible rfl⟩) HS10.out ?_
    try simp only [Act.put, List.setIfInBounds_toArray, List.set_cons_succ, List.set_cons_zero]
    refine wpAnyH_done (by kernel_rfl) ?_ _
    have HPart : Hid (PartOk (w9.setRow (w.heap.size + 1) (w8 H)) a9 c9 R) := Lib.hid (part_row (part_own HO9.out).1 (fun x hx => by subst hx; have := (HO9.out.lt x.block rfl).1; omega) _)
    go_wp2
    exact bodyPost_ret (results_row_tmp3 rfl _ _ (w.heap.size + 1) 31 (w8 H) (0, 0) _ rfl HE9.out.setRow rfl Tryd.underlying31 HIH.out) rfl ⟨a9, c9, rfl, HPart.out, HBU.out.trans (HS10.out.mono (by omega))⟩
  · refine wpOp_step (o := ⟨some 26, _, _, _, _, _⟩) rfl (fun K' hK' => ?_)
    rw [if_pos (show Region.wanted _ _ = true from rfl)]
    go_simp
    refine hK' _ _ ⟨HB1.out, ?_⟩
    clear hK' K'
    try simp only [Act.put, List.setIfInBounds_toArray, List.set_cons_succ, List.set_cons_zero]
    refine wpAnyH_all (rs := [0, 3]) (by kernel_rfl) (by simp) ?_
    intro j hj
    have hj2 : j = 0 ∨ j = 3 := by simpa using hj
    clear hj
    rcases hj2 with rfl | rfl
    · refine wpOp_step (o := ⟨some 25, _, _, _, _, _⟩) rfl (fun K' hK' => ?_)
      rw [if_pos (show Region.wanted _ _ = true from rfl)]
      refine opw_load ⟨w.heap.size, 0, none⟩ (w8 h) _ HY4.out.row Tryd.underlying31 HIh.out rfl rfl ?_
      refine hK' _ _ ⟨HB1.out, ?_⟩
      clear hK' K'
      try simp only [Act.put, List.setIfInBounds_toArray, List.set_cons_succ, List.set_cons_zero]
      refine wpAnyH_all (rs := [3]) (by kernel_rfl) (by simp) ?_
      intro i hi
      obtain rfl : i = 3 := by simpa using hi
      clear hi
      refine wpOp_step (o := ⟨some 28, _, _, _, _, _⟩) rfl (fun K' hK' => ?_)
      rw [if_pos (show Region.wanted _ _ = true from rfl)]
      refine opw_append_part _ _ rfl (w.heap.size + 2) _ _ _ rfl HO1.out ra rc rb rfl HP1.out (by omega) hV3 (fun v3 w3 hown3 hgrow3 => ?_)
      have hB3 : Below (w.heap.size + 2) (V.alloc (.cells #[] 5)) w3 := (Below.refl _ _).grown hgrow3 hV3 (fun r hr => (HO1.out.lt r hr).1)
      have HB3 := Lib.hid (HB1.out.trans (hB3.mono (by omega)))
      have HZ4 := Lib.hid (HY4.out.below hB3 (by omega))
      have HZ8 := Lib.hid (HY8.out.below hB3 (by omega))
      have HQ3 := Lib.hid (HBb.out.below HB3.out)
      have ho3 : w3.ownsRow (w.heap.size + 2) 5 1 v3 rb.length (rb.map BV) := by simpa using hown3
      have hV4 : w.heap.size + 2 ≤ w3.heap.size := Nat.le_trans hV3 hB3.size
      have HO3 := Lib.hid ho3
      clear hown3 hgrow3 hB3 ho3
      refine hK' _ _ ⟨HB3.out, ?_⟩
      clear hK' K'
      try simp only [Act.put, List.setIfInBounds_toArray, List.set_cons_succ, List.set_cons_zero]
      refine wpAnyH_all (rs := [5]) (by kernel_rfl) (by simp) ?_
      intro i hi
      obtain rfl : i = 5 := by simpa using hi
      clear hi
      refine wpOp_step (o := ⟨some 30, _, _, _, _, _⟩) rfl (fun K' hK' => ?_)
      rw [if_pos (show Region.wanted _ _ = true from rfl)]
      refine opw_append_part _ _ rfl (w.heap.size + 2) _ _ _ rfl HO3.out a c bs rfl HQ3.out (by omega) hV4 (fun v5 w5 hown5 hgrow5 => ?_)
      have hB5 : Below (w.heap.size + 2) w3 w5 := (Below.refl _ _).grown hgrow5 hV4 (fun r hr => (HO3.out.lt r hr).1)
      have HB5 := Lib.hid (HB3.out.trans (hB5.mono (by omega)))
      have HW4 := Lib.hid (HZ4.out.below hB5 (by omega))
      have HW8 := Lib.hid (HZ8.out.below hB5 (by omega))
      rw [HAl.out] at hown5
      obtain ⟨a5, c5, rfl⟩ := own_form hown5
      have HO5 := Lib.hid hown5
      clear hown5 hgrow5 hB5
      refine hK' _ _ ⟨HB5.out, ?_⟩
      clear hK' K'
      try simp only [Act.put, List.setIfInBounds_toArray, List.set_cons_succ, List.set_cons_zero]
      refine wpAnyH_all (rs := [6]) (by kernel_rfl) (by simp) ?_
      intro i hi
      obtain rfl : i = 6 := by simpa using hi
      clear hi
      refine wpOp_step (o := ⟨some 31, _, _, _, _, _⟩) rfl (fun K' hK' => ?_)
      rw [if_pos (show Region.wanted _ _ = true from rfl)]
      go_simp
      (with_reducible refine (HAll.out w5 a5 c5 HO5.out).mono ?_)
      rintro e w6 ⟨a6, c6, rfl, hp6, hbx⟩
      have HB6 := Lib.hid (HB5.out.trans (hbx.mono HB5.out.size))
      have HU4 := Lib.hid (HW4.out.below hbx HW4.out.lt)
      have HU8 := Lib.hid (HW8.out.below hbx HW8.out.lt)
      have HP6 := Lib.hid hp6
      clear hbx hp6
      refine hK' _ _ ⟨HB6.out, ?_⟩
      clear hK' K'
      try simp only [Act.put, List.setIfInBounds_toArray, List.set_cons_succ, List.set_cons_zero]
      refine wpAnyH_take (i := 7) (oi := ⟨some 24, _, _, _, _, _⟩) (v := ?_) rfl (by kernel_rfl) (by kernel_rfl) (by kernel_rfl) (fun _ _ _ h => h) (Or.inl ⟨by rfl, fun w' hw' => by go_simp; with_reducible rfl⟩) HB6.out ?_
      try simp only [Act.put, List.setIfInBounds_toArray, List.set_cons_succ, List.set_cons_zero]
      refine wpAnyH_take (i := 8) (oi := ⟨some 32, _, _, _, _, _⟩) (v := ?_) rfl (by kernel_rfl) (by kernel_rfl) (by kernel_rfl) (fun _ _ _ h => h) (Or.inl ⟨by rfl, fun w' hw' => by go_simp; with_reducible rfl⟩) HB6.out ?_
      try simp only [Act.put, List.setIfInBounds_toArray, List.set_cons_succ, List.set_cons_zero]
      refine wpAnyH_take (i := 9) (oi := ⟨some 33, _, _, _, _, _⟩) (v := ?_) rfl (by kernel_rfl) (by kernel_rfl) (by kernel_rfl) (fun _ _ _ h => h) (Or.inl ⟨by rfl, fun w' hw' => by go_simp; with_reducible rfl⟩) HB6.out ?_
      try simp only [Act.put, List.setIfInBounds_toArray, List.set_cons_succ, List.set_cons_zero]
      refine wpAnyH_all (rs := [10]) (by kernel_rfl) (by simp) ?_
      intro i hi
      obtain rfl : i = 10 := by simpa using hi
      clear hi
      refine wpOp_step (o := ⟨none, _, _, _, _, _⟩) rfl (fun K' hK' => ?_)
      rw [if_pos (show Region.wanted _ _ = true from rfl)]
      refine opw_store w.heap.size (w8 H) _ _ HU4.out HSH.out HIH.out HOH.out rfl rfl ?_
      refine hK' _ _ ⟨below_setRow HB6.out (Nat.le_refl _) _, ?_⟩
      clear hK' K'
      try simp only [Act.put, List.setIfInBounds_toArray, List.set_cons_succ, List.set_cons_zero]
      have HB7 := Lib.hid (below_setRow HB6.out (Nat.le_refl _) (w8 H))
      refine wpAnyH_take (i := 11) (oi := ⟨some 12, _, _, _, _, _⟩) (v := ?_) rfl (by kernel_rfl) (by kernel_rfl) (by kernel_rfl) (fun _ _ _ h => h) (Or.inl ⟨by rfl, fun w' hw' => by go_simp; with_reducible rfl⟩) HB7.out ?_
      try simp only [Act.put, List.setIfInBounds_toArray, List.set_cons_succ, List.set_cons_zero]
      refine wpAnyH_done (by kernel_rfl) ?_ _
      refine gen_world (P := fun W => _) (I := fun Z => Below w.heap.size w Z ∧ Has Z w.heap.size 31 (w8 H) ∧ Has Z (w.heap.size + 1) 31 #[.int .u32 0, .int .u32 0, .int .u32 0, .int .u32 0, .int .u32 0, .int .u32 0, .int .u32 0, .int .u32 0] ∧ PartOk Z a6 c6 R) _ ⟨HB7.out, HU4.out.setRow, HU8.out.setRow_apart (by omega), part_words HP6.out HU4.out _⟩ ?_
      rintro U ⟨hBU, hU4, hU8, hPU⟩
      have HBU := Lib.hid hBU
      have HX4 := Lib.hid hU4
      have HX8 := Lib.hid hU8
      have HPU := Lib.hid hPU
      have hU2 : w.heap.size + 2 ≤ U.heap.size := by have := hU8.lt; omega
      clear hBU hU4 hU8 hPU
      have hwr : IntKind.i64.wrap (long + (bs.length : Int)) = long + (bs.length : Int) := IntWalk.i64_in _ (by omega)
      go_upto_region 6 with (fail)
      change Code.wp _ (Code.region 6 (wrOps 6) true) _ _ _
      refine wp_region_held (S := fun V => Below (w.heap.size + 1) U V) (by kernel_rfl) ?_
      have hsz : (wrOps 6).size = 12 := by kernel_rfl
      rw [hsz]
      clear hsz
      refine gen_world (P := fun W' => wpAnyH _ _ _ _ _ _ _ _ W') (I := fun V => Below U.heap.size U V) _ (Below.refl _ U).drew ?_
      intro Z hBZ
      have hUZ := hBZ.size
      have HS0 := Lib.hid (hBZ.mono (show w.heap.size + 1 ≤ U.heap.size by omega))
      have HE8 := Lib.hid ((HX8.out.below hBZ HX8.out.lt).alloc (.cells #[] 5))
      have HS1 := Lib.hid (HS0.out.alloc (show w.heap.size + 1 ≤ Z.heap.size by omega) (.cells #[] 5))
      have HOZ := Lib.hid (own_empty Z (w.heap.size + 2) (by omega))
      have HPZ := Lib.hid ((HPU.out.below hBZ).below ((Below.refl _ Z).alloc (Nat.le_refl _) (.cells #[] 5)))
      have hZ2 : w.heap.size + 2 ≤ (Z.alloc (.cells #[] 5)).heap.size := by simp; omega
      clear hBZ
      refine wpAnyH_take (i := 0) (oi := ⟨some 34, _, _, _, _, none⟩) (v := .agg (w8 H)) rfl (by kernel_rfl) (by kernel_rfl) (by kernel_rfl) (fun _ _ _ h => h) (yieldsIf_load ⟨w.heap.size, 0, none⟩ _ _ (fun x hx => (HX4.out.below hx (by omega)).row) Tryd.underlying31 HIH.out rfl rfl) HS0.out ?_
      try simp only [Act.put, List.setIfInBounds_toArray, List.set_cons_succ, List.set_cons_zero]
      refine wpAnyH_take (i := 2) (oi := ⟨some 36, _, _, _, _, _⟩) (v := ?_) rfl (by kernel_rfl) (by kernel_rfl) (by kernel_rfl) (fun _ _ _ h => h) (Or.inl ⟨by rfl, fun w' hw' => by go_simp; with_reducible rfl⟩) HS0.out ?_
      try simp only [Act.put, List.setIfInBounds_toArray, List.set_cons_succ, List.set_cons_zero]
      refine wpAnyH_take (i := 4) (oi := ⟨some 38, _, _, _, _, _⟩) (v := ?_) rfl (by kernel_rfl) (by kernel_rfl) (by kernel_rfl) (fun _ _ _ h => h) (Or.inl ⟨by rfl, fun w' hw' => by go_simp; with_reducible rfl⟩) HS0.out ?_
      try simp only [Act.put, List.setIfInBounds_toArray, List.set_cons_succ, List.set_cons_zero]
      refine wpAnyH_take (i := 5) (oi := ⟨some 39, _, _, _, _, _⟩) (v := ?_) rfl (by kernel_rfl) (by kernel_rfl) (by kernel_rfl) (fun _ _ _ h => h) (Or.inl ⟨by rfl, fun w' hw' => by go_simp; with_reducible rfl⟩) HS0.out ?_
      try simp only [Act.put, List.setIfInBounds_toArray, List.set_cons_succ, List.set_cons_zero]
      refine wpAnyH_take (i := 6) (oi := ⟨some 40, _, _, _, _, _⟩) (v := ?_) rfl (by kernel_rfl) (by kernel_rfl) (by kernel_rfl) (fun _ _ _ h => h) (Or.inl ⟨by rfl, fun w' hw' => by go_simp; with_reducible rfl⟩) HS0.out ?_
      try simp only [Act.put, List.setIfInBounds_toArray, List.set_cons_succ, List.set_cons_zero]
      refine wpAnyH_take (i := 7) (oi := ⟨some 41, _, _, _, _, _⟩) (v := ?_) rfl (by kernel_rfl) (by kernel_rfl) (by kernel_rfl) (fun _ _ _ h => h) (Or.inl ⟨by rfl, fun w' hw' => by go_simp; with_reducible rfl⟩) HS0.out ?_
      try simp only [Act.put, List.setIfInBounds_toArray, List.set_cons_succ, List.set_cons_zero]
      refine wpAnyH_all (rs := [1]) (by kernel_rfl) (by simp) ?_
      intro i hi
      obtain rfl : i = 1 := by simpa using hi
      clear hi
      refine wpOp_step (o := ⟨some 35, _, _, _, _, _⟩) rfl (fun K' hK' => ?_)
      rw [if_pos (show Region.wanted _ _ = true from rfl)]
      go_simp
      refine hK' _ _ ⟨HS1.out, ?_⟩
      clear hK' K'
      try simp only [Act.put, List.setIfInBounds_toArray, List.set_cons_succ, List.set_cons_zero]
      refine wpAnyH_all (rs := [3]) (by kernel_rfl) (by simp) ?_
      intro i hi
      obtain rfl : i = 3 := by simpa using hi
      clear hi
      refine wpOp_step (o := ⟨some 37, _, _, _, _, _⟩) rfl (fun K' hK' => ?_)
      rw [if_pos (show Region.wanted _ _ = true from rfl)]
      refine opw_append_part _ _ rfl (w.heap.size + 2) _ _ _ rfl HOZ.out a6 c6 R rfl HPZ.out (by omega) hZ2 (fun v9 w9 hown9 hgrow9 => ?_)
      have hB9 : Below (w.heap.size + 2) (Z.alloc (.cells #[] 5)) w9 := (Below.refl _ _).grown hgrow9 hZ2 (fun r hr => (HOZ.out.lt r hr).1)
      have HS9 := Lib.hid (HS1.out.trans (hB9.mono (by omega)))
      have HE9 := Lib.hid (HE8.out.below hB9 (by omega))
      have ho9 : w9.ownsRow (w.heap.size + 2) 5 1 v9 R.length (R.map BV) := by simpa using hown9
      obtain ⟨a9, c9, rfl⟩ := own_form ho9
      have HO9 := Lib.hid ho9
      clear hown9 hgrow9 hB9 ho9 hwr
      refine hK' _ _ ⟨HS9.out, ?_⟩
      clear hK' K'
      try simp only [Act.put, List.setIfInBounds_toArray, List.set_cons_succ, List.set_cons_zero]
      refine wpAnyH_all (rs := [8]) (by kernel_rfl) (by simp) ?_
      intro i hi
      obtain rfl : i = 8 := by simpa using hi
      clear hi
      refine wpOp_step (o := ⟨none, _, _, _, _, _⟩) rfl (fun K' hK' => ?_)
      rw [if_pos (show Region.wanted _ _ = true from rfl)]
      refine opw_store (w.heap.size + 1) (w8 H) _ _ HE9.out HSZ.out HIH.out HOH.out rfl rfl ?_
      refine hK' _ _ ⟨below_setRow HS9.out (Nat.le_refl _) _, ?_⟩
      clear hK' K'
      try simp only [Act.put, List.setIfInBounds_toArray, List.set_cons_succ, List.set_cons_zero]
      have HS10 := Lib.hid (below_setRow HS9.out (Nat.le_refl _) (w8 H))
      refine wpAnyH_take (i := 9) (oi := ⟨some 9, _, _, _, _, _⟩) (v := ?_) rfl (by kernel_rfl) (by kernel_rfl) (by kernel_rfl) (fun _ _ _ h => h) (Or.inl ⟨by rfl, fun w' hw' => by go_simp; with_reducible rfl⟩) HS10.out ?_
      try simp only [Act.put, List.setIfInBounds_toArray, List.set_cons_succ, List.set_cons_zero]
      refine wpAnyH_take (i := 10) (oi := ⟨some 10, _, _, _, _, _⟩) (v := ?_) rfl (by kernel_rfl) (by kernel_rfl) (by kernel_rfl) (fun _ _ _ h => h) (Or.inl ⟨by rfl, fun w' hw' => by go_simp; with_reducible rfl⟩) HS10.out ?_
      try simp only [Act.put, List.setIfInBounds_toArray, List.set_cons_succ, List.set_cons_zero]
      refine wpAnyH_take (i := 11) (oi := ⟨some 11, _, _, _, _, _⟩) (v := ?_) rfl (by kernel_rfl) (by kernel_rfl) (by kernel_rfl) (fun _ _ _ h => h) (Or.inl ⟨by rfl, fun w' hw' => by go_simp; with_reducible rfl⟩) HS10.out ?_
      try simp only [Act.put, List.setIfInBounds_toArray, List.set_cons_succ, List.set_cons_zero]
      refine wpAnyH_done (by kernel_rfl) ?_ _
      have HPart : Hid (PartOk (w9.setRow (w.heap.size + 1) (w8 H)) a9 c9 R) := Lib.hid (part_row (part_own HO9.out).1 (fun x hx => by subst hx; have := (HO9.out.lt x.block rfl).1; omega) _)
      go_wp2
      exact bodyPost_ret (results_row_tmp3 rfl _ _ (w.heap.size + 1) 31 (w8 H) (0, 0) _ rfl HE9.out.setRow rfl Tryd.underlying31 HIH.out) rfl ⟨a9, c9, rfl, HPart.out, HBU.out.trans (HS10.out.mono (by omega))⟩
    · refine wpOp_step (o := ⟨some 28, _, _, _, _, _⟩) rfl (fun K' hK' => ?_)
      rw [if_pos (show Region.wanted _ _ = true from rfl)]
      refine opw_append_part _ _ rfl (w.heap.size + 2) _ _ _ rfl HO1.out ra rc rb rfl HP1.out (by omega) hV3 (fun v3 w3 hown3 hgrow3 => ?_)
      have hB3 : Below (w.heap.size + 2) (V.alloc (.cells #[] 5)) w3 := (Below.refl _ _).grown hgrow3 hV3 (fun r hr => (HO1.out.lt r hr).1)
      have HB3 := Lib.hid (HB1.out.trans (hB3.mono (by omega)))
      have HZ4 := Lib.hid (HY4.out.below hB3 (by omega))
      have HZ8 := Lib.hid (HY8.out.below hB3 (by omega))
      have HQ3 := Lib.hid (HBb.out.below HB3.out)
      have ho3 : w3.ownsRow (w.heap.size + 2) 5 1 v3 rb.length (rb.map BV) := by simpa using hown3
      have hV4 : w.heap.size + 2 ≤ w3.heap.size := Nat.le_trans hV3 hB3.size
      have HO3 := Lib.hid ho3
      clear hown3 hgrow3 hB3 ho3
      refine hK' _ _ ⟨HB3.out, ?_⟩
      clear hK' K'
      try simp only [Act.put, List.setIfInBounds_toArray, List.set_cons_succ, List.set_cons_zero]
      refine wpAnyH_all (rs := [0, 5]) (by kernel_rfl) (by simp) ?_
      intro j hj
      have hj2 : j = 0 ∨ j = 5 := by simpa using hj
      clear hj
      rcases hj2 with rfl | rfl
      · refine wpOp_step (o := ⟨some 25, _, _, _, _, _⟩) rfl (fun K' hK' => ?_)
        rw [if_pos (show Region.wanted _ _ = true from rfl)]
        refine opw_load ⟨w.heap.size, 0, none⟩ (w8 h) _ HZ4.out.row Tryd.underlying31 HIh.out rfl rfl ?_
        refine hK' _ _ ⟨HB3.out, ?_⟩
        clear hK' K'
        try simp only [Act.put, List.setIfInBounds_toArray, List.set_cons_succ, List.set_cons_zero]
        refine wpAnyH_all (rs := [5]) (by kernel_rfl) (by simp) ?_
        intro i hi
        obtain rfl : i = 5 := by simpa using hi
        clear hi
        refine wpOp_step (o := ⟨some 30, _, _, _, _, _⟩) rfl (fun K' hK' => ?_)
        rw [if_pos (show Region.wanted _ _ = true from rfl)]
        refine opw_append_part _ _ rfl (w.heap.size + 2) _ _ _ rfl HO3.out a c bs rfl HQ3.out (by omega) hV4 (fun v5 w5 hown5 hgrow5 => ?_)
        have hB5 : Below (w.heap.size + 2) w3 w5 := (Below.refl _ _).grown hgrow5 hV4 (fun r hr => (HO3.out.lt r hr).1)
        have HB5 := Lib.hid (HB3.out.trans (hB5.mono (by omega)))
        have HW4 := Lib.hid (HZ4.out.below hB5 (by omega))
        have HW8 := Lib.hid (HZ8.out.below hB5 (by omega))
        rw [HAl.out] at hown5
        obtain ⟨a5, c5, rfl⟩ := own_form hown5
        have HO5 := Lib.hid hown5
        clear hown5 hgrow5 hB5
        refine hK' _ _ ⟨HB5.out, ?_⟩
        clear hK' K'
        try simp only [Act.put, List.setIfInBounds_toArray, List.set_cons_succ, List.set_cons_zero]
        refine wpAnyH_all (rs := [6]) (by kernel_rfl) (by simp) ?_
        intro i hi
        obtain rfl : i = 6 := by simpa using hi
        clear hi
        refine wpOp_step (o := ⟨some 31, _, _, _, _, _⟩) rfl (fun K' hK' => ?_)
        rw [if_pos (show Region.wanted _ _ = true from rfl)]
        go_simp
        (with_reducible refine (HAll.out w5 a5 c5 HO5.out).mono ?_)
        rintro e w6 ⟨a6, c6, rfl, hp6, hbx⟩
        have HB6 := Lib.hid (HB5.out.trans (hbx.mono HB5.out.size))
        have HU4 := Lib.hid (HW4.out.below hbx HW4.out.lt)
        have HU8 := Lib.hid (HW8.out.below hbx HW8.out.lt)
        have HP6 := Lib.hid hp6
        clear hbx hp6
        refine hK' _ _ ⟨HB6.out, ?_⟩
        clear hK' K'
        try simp only [Act.put, List.setIfInBounds_toArray, List.set_cons_succ, List.set_cons_zero]
        refine wpAnyH_take (i := 7) (oi := ⟨some 24, _, _, _, _, _⟩) (v := ?_) rfl (by kernel_rfl) (by kernel_rfl) (by kernel_rfl) (fun _ _ _ h => h) (Or.inl ⟨by rfl, fun w' hw' => by go_simp; with_reducible rfl⟩) HB6.out ?_
        try simp only [Act.put, List.setIfInBounds_toArray, List.set_cons_succ, List.set_cons_zero]
        refine wpAnyH_take (i := 8) (oi := ⟨some 32, _, _, _, _, _⟩) (v := ?_) rfl (by kernel_rfl) (by kernel_rfl) (by kernel_rfl) (fun _ _ _ h => h) (Or.inl ⟨by rfl, fun w' hw' => by go_simp; with_reducible rfl⟩) HB6.out ?_
        try simp only [Act.put, List.setIfInBounds_toArray, List.set_cons_succ, List.set_cons_zero]
        refine wpAnyH_take (i := 9) (oi := ⟨some 33, _, _, _, _, _⟩) (v := ?_) rfl (by kernel_rfl) (by kernel_rfl) (by kernel_rfl) (fun _ _ _ h => h) (Or.inl ⟨by rfl, fun w' hw' => by go_simp; with_reducible rfl⟩) HB6.out ?_
        try simp only [Act.put, List.setIfInBounds_toArray, List.set_cons_succ, List.set_cons_zero]
        refine wpAnyH_all (rs := [10]) (by kernel_rfl) (by simp) ?_
        intro i hi
        obtain rfl : i = 10 := by simpa using hi
        clear hi
        refine wpOp_step (o := ⟨none, _, _, _, _, _⟩) rfl (fun K' hK' => ?_)
        rw [if_pos (show Region.wanted _ _ = true from rfl)]
        refine opw_store w.heap.size (w8 H) _ _ HU4.out HSH.out HIH.out HOH.out rfl rfl ?_
        refine hK' _ _ ⟨below_setRow HB6.out (Nat.le_refl _) _, ?_⟩
        clear hK' K'
        try simp only [Act.put, List.setIfInBounds_toArray, List.set_cons_succ, List.set_cons_zero]
        have HB7 := Lib.hid (below_setRow HB6.out (Nat.le_refl _) (w8 H))
        refine wpAnyH_take (i := 11) (oi := ⟨some 12, _, _, _, _, _⟩) (v := ?_) rfl (by kernel_rfl) (by kernel_rfl) (by kernel_rfl) (fun _ _ _ h => h) (Or.inl ⟨by rfl, fun w' hw' => by go_simp; with_reducible rfl⟩) HB7.out ?_
        try simp only [Act.put, List.setIfInBounds_toArray, List.set_cons_succ, List.set_cons_zero]
        refine wpAnyH_done (by kernel_rfl) ?_ _
        refine gen_world (P := fun W => _) (I := fun Z => Below w.heap.size w Z ∧ Has Z w.heap.size 31 (w8 H) ∧ Has Z (w.heap.size + 1) 31 #[.int .u32 0, .int .u32 0, .int .u32 0, .int .u32 0, .int .u32 0, .int .u32 0, .int .u32 0, .int .u32 0] ∧ PartOk Z a6 c6 R) _ ⟨HB7.out, HU4.out.setRow, HU8.out.setRow_apart (by omega), part_words HP6.out HU4.out _⟩ ?_
        rintro U ⟨hBU, hU4, hU8, hPU⟩
        have HBU := Lib.hid hBU
        have HX4 := Lib.hid hU4
        have HX8 := Lib.hid hU8
        have HPU := Lib.hid hPU
        have hU2 : w.heap.size + 2 ≤ U.heap.size := by have := hU8.lt; omega
        clear hBU hU4 hU8 hPU
        have hwr : IntKind.i64.wrap (long + (bs.length : Int)) = long + (bs.length : Int) := IntWalk.i64_in _ (by omega)
        go_upto_region 6 with (fail)
        change Code.wp _ (Code.region 6 (wrOps 6) true) _ _ _
        refine wp_region_held (S := fun V => Below (w.heap.size + 1) U V) (by kernel_rfl) ?_
        have hsz : (wrOps 6).size = 12 := by kernel_rfl
        rw [hsz]
        clear hsz
        refine gen_world (P := fun W' => wpAnyH _ _ _ _ _ _ _ _ W') (I := fun V => Below U.heap.size U V) _ (Below.refl _ U).drew ?_
        intro Z hBZ
        have hUZ := hBZ.size
        have HS0 := Lib.hid (hBZ.mono (show w.heap.size + 1 ≤ U.heap.size by omega))
        have HE8 := Lib.hid ((HX8.out.below hBZ HX8.out.lt).alloc (.cells #[] 5))
        have HS1 := Lib.hid (HS0.out.alloc (show w.heap.size + 1 ≤ Z.heap.size by omega) (.cells #[] 5))
        have HOZ := Lib.hid (own_empty Z (w.heap.size + 2) (by omega))
        have HPZ := Lib.hid ((HPU.out.below hBZ).below ((Below.refl _ Z).alloc (Nat.le_refl _) (.cells #[] 5)))
        have hZ2 : w.heap.size + 2 ≤ (Z.alloc (.cells #[] 5)).heap.size := by simp; omega
        clear hBZ
        refine wpAnyH_take (i := 0) (oi := ⟨some 34, _, _, _, _, none⟩) (v := .agg (w8 H)) rfl (by kernel_rfl) (by kernel_rfl) (by kernel_rfl) (fun _ _ _ h => h) (yieldsIf_load ⟨w.heap.size, 0, none⟩ _ _ (fun x hx => (HX4.out.below hx (by omega)).row) Tryd.underlying31 HIH.out rfl rfl) HS0.out ?_
        try simp only [Act.put, List.setIfInBounds_toArray, List.set_cons_succ, List.set_cons_zero]
        refine wpAnyH_take (i := 2) (oi := ⟨some 36, _, _, _, _, _⟩) (v := ?_) rfl (by kernel_rfl) (by kernel_rfl) (by kernel_rfl) (fun _ _ _ h => h) (Or.inl ⟨by rfl, fun w' hw' => by go_simp; with_reducible rfl⟩) HS0.out ?_
        try simp only [Act.put, List.setIfInBounds_toArray, List.set_cons_succ, List.set_cons_zero]
        refine wpAnyH_take (i := 4) (oi := ⟨some 38, _, _, _, _, _⟩) (v := ?_) rfl (by kernel_rfl) (by kernel_rfl) (by kernel_rfl) (fun _ _ _ h => h) (Or.inl ⟨by rfl, fun w' hw' => by go_simp; with_reducible rfl⟩) HS0.out ?_
        try simp only [Act.put, List.setIfInBounds_toArray, List.set_cons_succ, List.set_cons_zero]
        refine wpAnyH_take (i := 5) (oi := ⟨some 39, _, _, _, _, _⟩) (v := ?_) rfl (by kernel_rfl) (by kernel_rfl) (by kernel_rfl) (fun _ _ _ h => h) (Or.inl ⟨by rfl, fun w' hw' => by go_simp; with_reducible rfl⟩) HS0.out ?_
        try simp only [Act.put, List.setIfInBounds_toArray, List.set_cons_succ, List.set_cons_zero]
        refine wpAnyH_take (i := 6) (oi := ⟨some 40, _, _, _, _, _⟩) (v := ?_) rfl (by kernel_rfl) (by kernel_rfl) (by kernel_rfl) (fun _ _ _ h => h) (Or.inl ⟨by rfl, fun w' hw' => by go_simp; with_reducible rfl⟩) HS0.out ?_
        try simp only [Act.put, List.setIfInBounds_toArray, List.set_cons_succ, List.set_cons_zero]
        refine wpAnyH_take (i := 7) (oi := ⟨some 41, _, _, _, _, _⟩) (v := ?_) rfl (by kernel_rfl) (by kernel_rfl) (by kernel_rfl) (fun _ _ _ h => h) (Or.inl ⟨by rfl, fun w' hw' => by go_simp; with_reducible rfl⟩) HS0.out ?_
        try simp only [Act.put, List.setIfInBounds_toArray, List.set_cons_succ, List.set_cons_zero]
        refine wpAnyH_all (rs := [1]) (by kernel_rfl) (by simp) ?_
        intro i hi
        obtain rfl : i = 1 := by simpa using hi
        clear hi
        refine wpOp_step (o := ⟨some 35, _, _, _, _, _⟩) rfl (fun K' hK' => ?_)
        rw [if_pos (show Region.wanted _ _ = true from rfl)]
        go_simp
        refine hK' _ _ ⟨HS1.out, ?_⟩
        clear hK' K'
        try simp only [Act.put, List.setIfInBounds_toArray, List.set_cons_succ, List.set_cons_zero]
        refine wpAnyH_all (rs := [3]) (by kernel_rfl) (by simp) ?_
        intro i hi
        obtain rfl : i = 3 := by simpa using hi
        clear hi
        refine wpOp_step (o := ⟨some 37, _, _, _, _, _⟩) rfl (fun K' hK' => ?_)
        rw [if_pos (show Region.wanted _ _ = true from rfl)]
        refine opw_append_part _ _ rfl (w.heap.size + 2) _ _ _ rfl HOZ.out a6 c6 R rfl HPZ.out (by omega) hZ2 (fun v9 w9 hown9 hgrow9 => ?_)
        have hB9 : Below (w.heap.size + 2) (Z.alloc (.cells #[] 5)) w9 := (Below.refl _ _).grown hgrow9 hZ2 (fun r hr => (HOZ.out.lt r hr).1)
        have HS9 := Lib.hid (HS1.out.trans (hB9.mono (by omega)))
        have HE9 := Lib.hid (HE8.out.below hB9 (by omega))
        have ho9 : w9.ownsRow (w.heap.size + 2) 5 1 v9 R.length (R.map BV) := by simpa using hown9
        obtain ⟨a9, c9, rfl⟩ := own_form ho9
        have HO9 := Lib.hid ho9
        clear hown9 hgrow9 hB9 ho9 hwr
        refine hK' _ _ ⟨HS9.out, ?_⟩
        clear hK' K'
        try simp only [Act.put, List.setIfInBounds_toArray, List.set_cons_succ, List.set_cons_zero]
        refine wpAnyH_all (rs := [8]) (by kernel_rfl) (by simp) ?_
        intro i hi
        obtain rfl : i = 8 := by simpa using hi
        clear hi
        refine wpOp_step (o := ⟨none, _, _, _, _, _⟩) rfl (fun K' hK' => ?_)
        rw [if_pos (show Region.wanted _ _ = true from rfl)]
        refine opw_store (w.heap.size + 1) (w8 H) _ _ HE9.out HSZ.out HIH.out HOH.out rfl rfl ?_
        refine hK' _ _ ⟨below_setRow HS9.out (Nat.le_refl _) _, ?_⟩
        clear hK' K'
        try simp only [Act.put, List.setIfInBounds_toArray, List.set_cons_succ, List.set_cons_zero]
        have HS10 := Lib.hid (below_setRow HS9.out (Nat.le_refl _) (w8 H))
        refine wpAnyH_take (i := 9) (oi := ⟨some 9, _, _, _, _, _⟩) (v := ?_) rfl (by kernel_rfl) (by kernel_rfl) (by kernel_rfl) (fun _ _ _ h => h) (Or.inl ⟨by rfl, fun w' hw' => by go_simp; with_reducible rfl⟩) HS10.out ?_
        try simp only [Act.put, List.setIfInBounds_toArray, List.set_cons_succ, List.set_cons_zero]
        refine wpAnyH_take (i := 10) (oi := ⟨some 10, _, _, _, _, _⟩) (v := ?_) rfl (by kernel_rfl) (by kernel_rfl) (by kernel_rfl) (fun _ _ _ h => h) (Or.inl ⟨by rfl, fun w' hw' => by go_simp; with_reducible rfl⟩) HS10.out ?_
        try simp only [Act.put, List.setIfInBounds_toArray, List.set_cons_succ, List.set_cons_zero]
        refine wpAnyH_take (i := 11) (oi := ⟨some 11, _, _, _, _, _⟩) (v := ?_) rfl (by kernel_rfl) (by kernel_rfl) (by kernel_rfl) (fun _ _ _ h => h) (Or.inl ⟨by rfl, fun w' hw' => by go_simp; with_reducible rfl⟩) HS10.out ?_
        try simp only [Act.put, List.setIfInBounds_toArray, List.set_cons_succ, List.set_cons_zero]
        refine wpAnyH_done (by kernel_rfl) ?_ _
        have HPart : Hid (PartOk (w9.setRow (w.heap.size + 1) (w8 H)) a9 c9 R) := Lib.hid (part_row (part_own HO9.out).1 (fun x hx => by subst hx; have := (HO9.out.lt x.block rfl).1; omega) _)
        go_wp2
        exact bodyPost_ret (results_row_tmp3 rfl _ _ (w.heap.size + 1) 31 (w8 H) (0, 0) _ rfl HE9.out.setRow rfl Tryd.underlying31 HIH.out) rfl ⟨a9, c9, rfl, HPart.out, HBU.out.trans (HS10.out.mono (by omega))⟩
      · refine wpOp_step (o := ⟨some 30, _, _, _, _, _⟩) rfl (fun K' hK' => ?_)
        rw [if_pos (show Region.wanted _ _ = true from rfl)]
        refine opw_append_part _ _ rfl (w.heap.size + 2) _ _ _ rfl HO3.out a c bs rfl HQ3.out (by omega) hV4 (fun v5 w5 hown5 hgrow5 => ?_)
        have hB5 : Below (w.heap.size + 2) w3 w5 := (Below.refl _ _).grown hgrow5 hV4 (fun r hr => (HO3.out.lt r hr).1)
        have HB5 := Lib.hid (HB3.out.trans (hB5.mono (by omega)))
        have HW4 := Lib.hid (HZ4.out.below hB5 (by omega))
        have HW8 := Lib.hid (HZ8.out.below hB5 (by omega))
        rw [HAl.out] at hown5
        obtain ⟨a5, c5, rfl⟩ := own_form hown5
        have HO5 := Lib.hid hown5
        clear hown5 hgrow5 hB5
        refine hK' _ _ ⟨HB5.out, ?_⟩
        clear hK' K'
        try simp only [Act.put, List.setIfInBounds_toArray, List.set_cons_succ, List.set_cons_zero]
        refine wpAnyH_all (rs := [0]) (by kernel_rfl) (by simp) ?_
        intro i hi
        obtain rfl : i = 0 := by simpa using hi
        clear hi
        refine wpOp_step (o := ⟨some 25, _, _, _, _, _⟩) rfl (fun K' hK' => ?_)
        rw [if_pos (show Region.wanted _ _ = true from rfl)]
        refine opw_load ⟨w.heap.size, 0, none⟩ (w8 h) _ HW4.out.row Tryd.underlying31 HIh.out rfl rfl ?_
        refine hK' _ _ ⟨HB5.out, ?_⟩
        clear hK' K'
        try simp only [Act.put, List.setIfInBounds_toArray, List.set_cons_succ, List.set_cons_zero]
        refine wpAnyH_all (rs := [6]) (by kernel_rfl) (by simp) ?_
        intro i hi
        obtain rfl : i = 6 := by simpa using hi
        clear hi
        refine wpOp_step (o := ⟨some 31, _, _, _, _, _⟩) rfl (fun K' hK' => ?_)
        rw [if_pos (show Region.wanted _ _ = true from rfl)]
        go_simp
        (with_reducible refine (HAll.out w5 a5 c5 HO5.out).mono ?_)
        rintro e w6 ⟨a6, c6, rfl, hp6, hbx⟩
        have HB6 := Lib.hid (HB5.out.trans (hbx.mono HB5.out.size))
        have HU4 := Lib.hid (HW4.out.below hbx HW4.out.lt)
        have HU8 := Lib.hid (HW8.out.below hbx HW8.out.lt)
        have HP6 := Lib.hid hp6
        clear hbx hp6
        refine hK' _ _ ⟨HB6.out, ?_⟩
        clear hK' K'
        try simp only [Act.put, List.setIfInBounds_toArray, List.set_cons_succ, List.set_cons_zero]
        refine wpAnyH_take (i := 7) (oi := ⟨some 24, _, _, _, _, _⟩) (v := ?_) rfl (by kernel_rfl) (by kernel_rfl) (by kernel_rfl) (fun _ _ _ h => h) (Or.inl ⟨by rfl, fun w' hw' => by go_simp; with_reducible rfl⟩) HB6.out ?_
        try simp only [Act.put, List.setIfInBounds_toArray, List.set_cons_succ, List.set_cons_zero]
        refine wpAnyH_take (i := 8) (oi := ⟨some 32, _, _, _, _, _⟩) (v := ?_) rfl (by kernel_rfl) (by kernel_rfl) (by kernel_rfl) (fun _ _ _ h => h) (Or.inl ⟨by rfl, fun w' hw' => by go_simp; with_reducible rfl⟩) HB6.out ?_
        try simp only [Act.put, List.setIfInBounds_toArray, List.set_cons_succ, List.set_cons_zero]
        refine wpAnyH_take (i := 9) (oi := ⟨some 33, _, _, _, _, _⟩) (v := ?_) rfl (by kernel_rfl) (by kernel_rfl) (by kernel_rfl) (fun _ _ _ h => h) (Or.inl ⟨by rfl, fun w' hw' => by go_simp; with_reducible rfl⟩) HB6.out ?_
        try simp only [Act.put, List.setIfInBounds_toArray, List.set_cons_succ, List.set_cons_zero]
        refine wpAnyH_all (rs := [10]) (by kernel_rfl) (by simp) ?_
        intro i hi
        obtain rfl : i = 10 := by simpa using hi
        clear hi
        refine wpOp_step (o := ⟨none, _, _, _, _, _⟩) rfl (fun K' hK' => ?_)
        rw [if_pos (show Region.wanted _ _ = true from rfl)]
        refine opw_store w.heap.size (w8 H) _ _ HU4.out HSH.out HIH.out HOH.out rfl rfl ?_
        refine hK' _ _ ⟨below_setRow HB6.out (Nat.le_refl _) _, ?_⟩
        clear hK' K'
        try simp only [Act.put, List.setIfInBounds_toArray, List.set_cons_succ, List.set_cons_zero]
        have HB7 := Lib.hid (below_setRow HB6.out (Nat.le_refl _) (w8 H))
        refine wpAnyH_take (i := 11) (oi := ⟨some 12, _, _, _, _, _⟩) (v := ?_) rfl (by kernel_rfl) (by kernel_rfl) (by kernel_rfl) (fun _ _ _ h => h) (Or.inl ⟨by rfl, fun w' hw' => by go_simp; with_reducible rfl⟩) HB7.out ?_
        try simp only [Act.put, List.setIfInBounds_toArray, List.set_cons_succ, List.set_cons_zero]
        refine wpAnyH_done (by kernel_rfl) ?_ _
        refine gen_world (P := fun W => _) (I := fun Z => Below w.heap.size w Z ∧ Has Z w.heap.size 31 (w8 H) ∧ Has Z (w.heap.size + 1) 31 #[.int .u32 0, .int .u32 0, .int .u32 0, .int .u32 0, .int .u32 0, .int .u32 0, .int .u32 0, .int .u32 0] ∧ PartOk Z a6 c6 R) _ ⟨HB7.out, HU4.out.setRow, HU8.out.setRow_apart (by omega), part_words HP6.out HU4.out _⟩ ?_
        rintro U ⟨hBU, hU4, hU8, hPU⟩
        have HBU := Lib.hid hBU
        have HX4 := Lib.hid hU4
        have HX8 := Lib.hid hU8
        have HPU := Lib.hid hPU
        have hU2 : w.heap.size + 2 ≤ U.heap.size := by have := hU8.lt; omega
        clear hBU hU4 hU8 hPU
        have hwr : IntKind.i64.wrap (long + (bs.length : Int)) = long + (bs.length : Int) := IntWalk.i64_in _ (by omega)
        go_upto_region 6 with (fail)
        change Code.wp _ (Code.region 6 (wrOps 6) true) _ _ _
        refine wp_region_held (S := fun V => Below (w.heap.size + 1) U V) (by kernel_rfl) ?_
        have hsz : (wrOps 6).size = 12 := by kernel_rfl
        rw [hsz]
        clear hsz
        refine gen_world (P := fun W' => wpAnyH _ _ _ _ _ _ _ _ W') (I := fun V => Below U.heap.size U V) _ (Below.refl _ U).drew ?_
        intro Z hBZ
        have hUZ := hBZ.size
        have HS0 := Lib.hid (hBZ.mono (show w.heap.size + 1 ≤ U.heap.size by omega))
        have HE8 := Lib.hid ((HX8.out.below hBZ HX8.out.lt).alloc (.cells #[] 5))
        have HS1 := Lib.hid (HS0.out.alloc (show w.heap.size + 1 ≤ Z.heap.size by omega) (.cells #[] 5))
        have HOZ := Lib.hid (own_empty Z (w.heap.size + 2) (by omega))
        have HPZ := Lib.hid ((HPU.out.below hBZ).below ((Below.refl _ Z).alloc (Nat.le_refl _) (.cells #[] 5)))
        have hZ2 : w.heap.size + 2 ≤ (Z.alloc (.cells #[] 5)).heap.size := by simp; omega
        clear hBZ
        refine wpAnyH_take (i := 0) (oi := ⟨some 34, _, _, _, _, none⟩) (v := .agg (w8 H)) rfl (by kernel_rfl) (by kernel_rfl) (by kernel_rfl) (fun _ _ _ h => h) (yieldsIf_load ⟨w.heap.size, 0, none⟩ _ _ (fun x hx => (HX4.out.below hx (by omega)).row) Tryd.underlying31 HIH.out rfl rfl) HS0.out ?_
        try simp only [Act.put, List.setIfInBounds_toArray, List.set_cons_succ, List.set_cons_zero]
        refine wpAnyH_take (i := 2) (oi := ⟨some 36, _, _, _, _, _⟩) (v := ?_) rfl (by kernel_rfl) (by kernel_rfl) (by kernel_rfl) (fun _ _ _ h => h) (Or.inl ⟨by rfl, fun w' hw' => by go_simp; with_reducible rfl⟩) HS0.out ?_
        try simp only [Act.put, List.setIfInBounds_toArray, List.set_cons_succ, List.set_cons_zero]
        refine wpAnyH_take (i := 4) (oi := ⟨some 38, _, _, _, _, _⟩) (v := ?_) rfl (by kernel_rfl) (by kernel_rfl) (by kernel_rfl) (fun _ _ _ h => h) (Or.inl ⟨by rfl, fun w' hw' => by go_simp; with_reducible rfl⟩) HS0.out ?_
        try simp only [Act.put, List.setIfInBounds_toArray, List.set_cons_succ, List.set_cons_zero]
        refine wpAnyH_take (i := 5) (oi := ⟨some 39, _, _, _, _, _⟩) (v := ?_) rfl (by kernel_rfl) (by kernel_rfl) (by kernel_rfl) (fun _ _ _ h => h) (Or.inl ⟨by rfl, fun w' hw' => by go_simp; with_reducible rfl⟩) HS0.out ?_
        try simp only [Act.put, List.setIfInBounds_toArray, List.set_cons_succ, List.set_cons_zero]
        refine wpAnyH_take (i := 6) (oi := ⟨some 40, _, _, _, _, _⟩) (v := ?_) rfl (by kernel_rfl) (by kernel_rfl) (by kernel_rfl) (fun _ _ _ h => h) (Or.inl ⟨by rfl, fun w' hw' => by go_simp; with_reducible rfl⟩) HS0.out ?_
        try simp only [Act.put, List.setIfInBounds_toArray, List.set_cons_succ, List.set_cons_zero]
        refine wpAnyH_take (i := 7) (oi := ⟨some 41, _, _, _, _, _⟩) (v := ?_) rfl (by kernel_rfl) (by kernel_rfl) (by kernel_rfl) (fun _ _ _ h => h) (Or.inl ⟨by rfl, fun w' hw' => by go_simp; with_reducible rfl⟩) HS0.out ?_
        try simp only [Act.put, List.setIfInBounds_toArray, List.set_cons_succ, List.set_cons_zero]
        refine wpAnyH_all (rs := [1]) (by kernel_rfl) (by simp) ?_
        intro i hi
        obtain rfl : i = 1 := by simpa using hi
        clear hi
        refine wpOp_step (o := ⟨some 35, _, _, _, _, _⟩) rfl (fun K' hK' => ?_)
        rw [if_pos (show Region.wanted _ _ = true from rfl)]
        go_simp
        refine hK' _ _ ⟨HS1.out, ?_⟩
        clear hK' K'
        try simp only [Act.put, List.setIfInBounds_toArray, List.set_cons_succ, List.set_cons_zero]
        refine wpAnyH_all (rs := [3]) (by kernel_rfl) (by simp) ?_
        intro i hi
        obtain rfl : i = 3 := by simpa using hi
        clear hi
        refine wpOp_step (o := ⟨some 37, _, _, _, _, _⟩) rfl (fun K' hK' => ?_)
        rw [if_pos (show Region.wanted _ _ = true from rfl)]
        refine opw_append_part _ _ rfl (w.heap.size + 2) _ _ _ rfl HOZ.out a6 c6 R rfl HPZ.out (by omega) hZ2 (fun v9 w9 hown9 hgrow9 => ?_)
        have hB9 : Below (w.heap.size + 2) (Z.alloc (.cells #[] 5)) w9 := (Below.refl _ _).grown hgrow9 hZ2 (fun r hr => (HOZ.out.lt r hr).1)
        have HS9 := Lib.hid (HS1.out.trans (hB9.mono (by omega)))
        have HE9 := Lib.hid (HE8.out.below hB9 (by omega))
        have ho9 : w9.ownsRow (w.heap.size + 2) 5 1 v9 R.length (R.map BV) := by simpa using hown9
        obtain ⟨a9, c9, rfl⟩ := own_form ho9
        have HO9 := Lib.hid ho9
        clear hown9 hgrow9 hB9 ho9 hwr
        refine hK' _ _ ⟨HS9.out, ?_⟩
        clear hK' K'
        try simp only [Act.put, List.setIfInBounds_toArray, List.set_cons_succ, List.set_cons_zero]
        refine wpAnyH_all (rs := [8]) (by kernel_rfl) (by simp) ?_
        intro i hi
        obtain rfl : i = 8 := by simpa using hi
        clear hi
        refine wpOp_step (o := ⟨none, _, _, _, _, _⟩) rfl (fun K' hK' => ?_)
        rw [if_pos (show Region.wanted _ _ = true from rfl)]
        refine opw_store (w.heap.size + 1) (w8 H) _ _ HE9.out HSZ.out HIH.out HOH.out rfl rfl ?_
        refine hK' _ _ ⟨below_setRow HS9.out (Nat.le_refl _) _, ?_⟩
        clear hK' K'
        try simp only [Act.put, List.setIfInBounds_toArray, List.set_cons_succ, List.set_cons_zero]
        have HS10 := Lib.hid (below_setRow HS9.out (Nat.le_refl _) (w8 H))
        refine wpAnyH_take (i := 9) (oi := ⟨some 9, _, _, _, _, _⟩) (v := ?_) rfl (by kernel_rfl) (by kernel_rfl) (by kernel_rfl) (fun _ _ _ h => h) (Or.inl ⟨by rfl, fun w' hw' => by go_simp; with_reducible rfl⟩) HS10.out ?_
        try simp only [Act.put, List.setIfInBounds_toArray, List.set_cons_succ, List.set_cons_zero]
        refine wpAnyH_take (i := 10) (oi := ⟨some 10, _, _, _, _, _⟩) (v := ?_) rfl (by kernel_rfl) (by kernel_rfl) (by kernel_rfl) (fun _ _ _ h => h) (Or.inl ⟨by rfl, fun w' hw' => by go_simp; with_reducible rfl⟩) HS10.out ?_
        try simp only [Act.put, List.setIfInBounds_toArray, List.set_cons_succ, List.set_cons_zero]
        refine wpAnyH_take (i := 11) (oi := ⟨some 11, _, _, _, _, _⟩) (v := ?_) rfl (by kernel_rfl) (by kernel_rfl) (by kernel_rfl) (fun _ _ _ h => h) (Or.inl ⟨by rfl, fun w' hw' => by go_simp; with_reducible rfl⟩) HS10.out ?_
        try simp only [Act.put, List.setIfInBounds_toArray, List.set_cons_succ, List.set_cons_zero]
        refine wpAnyH_done (by kernel_rfl) ?_ _
        have HPart : Hid (PartOk (w9.setRow (w.heap.size + 1) (w8 H)) a9 c9 R) := Lib.hid (part_row (part_own HO9.out).1 (fun x hx => by subst hx; have := (HO9.out.lt x.block rfl).1; omega) _)
        go_wp2
        exact bodyPost_ret (results_row_tmp3 rfl _ _ (w.heap.size + 1) 31 (w8 H) (0, 0) _ rfl HE9.out.setRow rfl Tryd.underlying31 HIH.out) rfl ⟨a9, c9, rfl, HPart.out, HBU.out.trans (HS10.out.mono (by omega))⟩
end Go.Proofs.YtffdkniahdekjaaDoor
end
section
namespace Go.Proofs.YtffdkniahdekjaaDoor
open Go.RowKit Go.Hoar
section
variable {P : Program} (w : World)
theorem run_equalIn_words (d : Nat) (t e : TypeId) (n : Nat) (ht : P.underlying t = some (.array n e)) (he : P.underlying e = some (.int .u32)) (hsz : ∀ w, (sizeOf e).run P w = .ok 1 w)
    (xs ys : List Nat) (hx : xs.length = n) (hy : ys.length = n) :
    (Op.equalIn (d + 2) t (.agg (xs.map WV).toArray) (.agg (ys.map WV).toArray)).run P w = .ok (decide (xs = ys)) w := by
  rw [← all_range_nats xs ys (hx.trans hy.symm), hx, List.range_eq_range', Op.equalIn]
  simp only [Sem.run_bind, run_underlying ht, Result.andThen_ok, hsz, Std.Legacy.Range.forIn_eq_forIn_range', Std.Legacy.Range.size, Nat.sub_zero, Nat.add_sub_cancel, Nat.div_one]
  have hl : ∀ i ∈ List.range' 0 n 1, i < n := fun i hi => by simpa using (List.mem_range'_1.1 hi).2
  generalize List.range' 0 n 1 = l at hl ⊢
  induction l with
  | nil => simp
  | cons i l ih =>
    have hi : i < n := hl i (by simp)
    have px : (_root_.Go.part e (xs.map WV).toArray (i * 1)).run P w = .ok (WV (xs.getD i 0)) w := by
      simp [_root_.Go.part, isAgg, run_underlying he, List.getD, List.getElem?_eq_getElem (show i < xs.length by omega)]
    have py : (_root_.Go.part e (ys.map WV).toArray (i * 1)).run P w = .ok (WV (ys.getD i 0)) w := by
      simp [_root_.Go.part, isAgg, run_underlying he, List.getD, List.getElem?_eq_getElem (show i < ys.length by omega)]
    have pe : (Op.equalIn (d + 1) e (WV (xs.getD i 0)) (WV (ys.getD i 0))).run P w = .ok (xs.getD i 0 == ys.getD i 0) w := by
      rw [WV, WV, run_equalIn_int w d e .u32 .u32 _ _ he]
      congr 1
      rw [Bool.eq_iff_iff]
      simp
      omega
    simp only [List.forIn_cons, Sem.run_bind, px, py, pe, Result.andThen_ok, List.all_cons]
    cases hb : (xs.getD i 0 == ys.getD i 0)
    · simp
    · simp only [Bool.not_true, Bool.false_eq_true, if_false, Sem.run_pure, Result.andThen_ok, Bool.true_and]
      exact ih fun j hj => hl j (by simp [hj])
end
theorem words_same (d : Nat) (l : List Nat) (hl : l.length = 8) (w : World) : (Op.equalIn (d + 2) 31 (.agg (w8 l)) (.agg (w8 l))).run Tryd.prog w = .ok true w := by
  have := run_equalIn_words (P := Tryd.prog) w d 31 30 8 Tryd.underlying31 Tryd.underlying30 Tryd.sizeOf30 l l hl hl
  rwa [decide_eq_true rfl] at this
theorem words_eql (l : List Nat) (hl : l.length = 8) (w : World) : (binOp .eql 31 (.agg (w8 l)) (.agg (w8 l))).run Tryd.prog w = .ok (.bool true) w := by
  rw [run_eql_struct, show (10000 : Nat) = 9998 + 2 from rfl, words_same 9998 l hl]
  rfl
theorem words_neq (l : List Nat) (hl : l.length = 8) (w : World) : (binOp .neq 31 (.agg (w8 l)) (.agg (w8 l))).run Tryd.prog w = .ok (.bool false) w := by
  rw [run_neq_struct, show (10000 : Nat) = 9998 + 2 from rfl, words_same 9998 l hl]
  rfl
theorem words_guard : Tryd.prog.eqGuardType Tryd.prog.depth 31 = false := by kernel_rfl
theorem state_words {V : World} {b : Nat} {t : TypeId} {H : List Nat} {r : Value} {l : Int} (h : Has V b t (stateCells H r l)) : ∀ j u, (w8 H)[j]? = some u → V.cell? ((⟨b, 0, none⟩ : Addr).add j) = some u := fun j u hj => by
  have hlt : j < (w8 H).size := (Array.getElem?_eq_some_iff.1 hj).1
  have hl : j < (H.map WV).length := by simpa [w8] using hlt
  rw [Addr.add_lit, Nat.zero_add, h.cell, ← hj, stateCells, w8, List.getElem?_toArray, List.getElem?_toArray, List.getElem?_append_left hl]
theorem state_rest {V : World} {b : Nat} {t : TypeId} {H : List Nat} {r : Value} {l : Int} (h : Has V b t (stateCells H r l)) (hH : H.length = 8) : V.cell? ⟨b, 8, none⟩ = some r := by
  rw [h.cell, stateCells, List.getElem?_toArray, List.getElem?_append_right (by simp [hH])]
  simp [hH]
theorem state_long {V : World} {b : Nat} {t : TypeId} {H : List Nat} {r : Value} {l : Int} (h : Has V b t (stateCells H r l)) (hH : H.length = 8) : V.cell? ⟨b, 9, none⟩ = some (.int .i64 l) := by
  rw [h.cell, stateCells, List.getElem?_toArray, List.getElem?_append_right (by simp [hH])]
  simp [hH]
/-- A state, built of its parts. -/
theorem run_state (h : List Nat) (hh : h.length = 8) (r : Option Addr) (n c : Nat) (l : Int) (w : World) : (Instr.build 33 #[(0, .agg (w8 h)), (1, .slice r n c), (2, .int .i64 l)]).run Tryd.prog w = .ok (.agg (stateCells h (.slice r n c) l)) w := by
  obtain ⟨h0, h1, h2, h3, h4, h5, h6, h7, rfl⟩ := len8 hh
  exact run_build w _ _ _ (by kernel_rfl)
/-- Both write alike. -/
theorem write_both (h rb bs : List Nat) (long : Int) (hh : h.length = 8) (hw : Sha.Words h) (hrb : Sha.Bytes rb) (hbs : Sha.Bytes bs) (hrl : rb.length ≤ 1000) (hbl : bs.length ≤ 1000000) (hl : -9223372036854775808 ≤ long) (_hl2 : long ≤ 9223372036854775807) :
    ∃ (H R : List Nat) (N er : Int), H.length = 8 ∧ R.length ≤ 1000000 ∧ Sha.Bytes R ∧
    (∀ (V : World) (ra a : Option Addr) (rc c : Nat), PartOk V ra rc rb → PartOk V a c bs → CapOk a bs.length c → ConstAt V → Calls Tryd.prog 20 #[.agg (stateCells h (.slice ra rb.length rc) long), .slice a bs.length c] V fun e w' => ∃ a' c', e = .returned (.tuple #[.agg (stateCells H (.slice a' R.length c') N), .int .i64 er]) ∧ w'.ownsRow V.heap.size 5 1 (.slice a' R.length c') R.length (R.map BV) ∧ Below V.heap.size V w') ∧
    (∀ (V : World) (ra a : Option Addr) (rc c : Nat), PartOk V ra rc rb → PartOk V a c bs → Calls Tryd.prog 21 #[.agg (w8 h), .slice ra rb.length rc, .int .i64 long, .slice a bs.length c] V fun e w' => ∃ a' c', e = .returned (.tuple #[.agg (w8 H), .slice a' R.length c', .int .i64 N, .int .i64 er]) ∧ PartOk w' a' c' R ∧ Below V.heap.size V w') := by
  have hz : zeroState = stateCells (List.replicate 8 0) (.slice none 0 0) 0 := rfl
  by_cases hs : Sound rb.length long
  · by_cases hb : 1099511627776 - long < bs.length
    · refine ⟨List.replicate 8 0, [], 0, 11, by simp, by simp, (fun x hx => by cases hx), fun V ra a rc c hp hq hcap hc => ?_, fun V ra a rc c hp hq => ?_⟩
      · refine (write_long h rb bs ra a rc c long V hh hs (by unfold maxLen; omega) hb).mono ?_
        rintro e w' ⟨rfl, hbel⟩
        exact ⟨none, 0, by rw [hz]; rfl, World.ownsRow_nil _ _ _ _, hbel⟩
      · refine (refWrite_bad h ra a rb.length rc bs.length c long V (by omega) (by omega) hl 11 (.inr ⟨hs, hb, rfl⟩)).mono ?_
        rintro e w' ⟨rfl, hbel⟩
        exact ⟨none, 0, rfl, .inl ⟨rfl, rfl, rfl⟩, hbel⟩
    · have h1 := hs.1
      have hall : (rb ++ bs).length = rb.length + bs.length := List.length_append
      refine ⟨Sha.all h (rb ++ bs), restOf (rb ++ bs), long + bs.length, 0, by rw [Sha.all, Sha.takes_length, hh], by rw [restOf, List.length_drop]; omega, fun x hx => bytes_append hrb hbs x (List.mem_of_mem_drop hx), fun V ra a rc c hp hq hcap hc => ?_, fun V ra a rc c hp hq => ?_⟩
      · exact write_any h rb bs ra a rc c long V hh hw hp hq hrb hbs hs (by omega) hcap hc _ (Lib.hid rfl)
      · exact refWrite_any h rb bs ra a rc c long V hh hw hp hq hrb hbs hrl hbl hs (by omega) _ (Lib.hid rfl)
  · refine ⟨List.replicate 8 0, [], 0, 14, by simp, by simp, (fun x hx => by cases hx), fun V ra a rc c hp hq hcap hc => ?_, fun V ra a rc c hp hq => ?_⟩
    · refine (write_wrong h rb bs ra a rc c long V hh hs).mono ?_
      rintro e w' ⟨rfl, hbel⟩
      exact ⟨none, 0, by rw [hz]; rfl, World.ownsRow_nil _ _ _ _, hbel⟩
    · refine (refWrite_bad h ra a rb.length rc bs.length c long V (by omega) (by omega) hl 14 (.inl ⟨hs, rfl⟩)).mono ?_
      rintro e w' ⟨rfl, hbel⟩
      exact ⟨none, 0, rfl, .inl ⟨rfl, rfl, rfl⟩, hbel⟩
/-- Both end alike. -/
theorem done_both (h rb : List Nat) (long : Int) (hh : h.length = 8) (hw : Sha.Words h) (hrb : Sha.Bytes rb) (hrl : rb.length ≤ 1000) (hl : -9223372036854775808 ≤ long) :
    ∃ (X : List Nat) (er : Int), X.length = 32 ∧
    (∀ (V : World) (ra : Option Addr) (rc : Nat), PartOk V ra rc rb → ConstAt V → Calls Tryd.prog 22 #[.agg (stateCells h (.slice ra rb.length rc) long)] V fun e w' => e = .returned (.tuple #[.agg (arr32 X), .int .i64 er]) ∧ Below V.heap.size V w') ∧
    (∀ (V : World) (ra : Option Addr) (rc : Nat), PartOk V ra rc rb → Calls Tryd.prog 23 #[.agg (w8 h), .slice ra rb.length rc, .int .i64 long] V fun e w' => e = .returned (.tuple #[.agg (arr32 X), .int .i64 er]) ∧ Below V.heap.size V w') := by
  by_cases hs : Sound rb.length long
  · refine ⟨Sha.ended h rb long.toNat, 0, by rw [Sha.ended, bytes_length, Sha.all, Sha.takes_length, hh], fun V ra rc hp hc => ?_, fun V ra rc hp => ?_⟩
    · have := done_any h rb ra rc long V hh hw hp hrb hc _ (Lib.hid rfl)
      rwa [if_pos hs] at this
    · have := refDone_any h rb ra rc long V hh hw hp hrb (by omega) hl _ (Lib.hid rfl)
      rwa [if_pos hs] at this
  · refine ⟨List.replicate 32 0, 14, by simp, fun V ra rc hp hc => ?_, fun V ra rc hp => ?_⟩
    · have := done_any h rb ra rc long V hh hw hp hrb hc _ (Lib.hid rfl)
      rwa [if_neg hs] at this
    · have := refDone_any h rb ra rc long V hh hw hp hrb (by omega) hl _ (Lib.hid rfl)
      rwa [if_neg hs] at this
end Go.Proofs.YtffdkniahdekjaaDoor
end
section
namespace Go.Proofs.YtffdkniahdekjaaDoor
open Go.RowKit Go.Hoar
theorem quietG_load {P : Program} {C : World → Prop} {K : Act → Prop} {a : Act} {dst : Option Tmp} {ty T : TypeId} {x : Operand} {pos : String} {af : Array Edge} {gd : Option (Nat × Bool)}
    (ad : Addr) (cs : Array Value) (d : TypeDesc) (hc : ∀ w', C w' → ∀ j u, cs[j]? = some u → w'.cell? (ad.add j) = some u) (hu : P.underlying ty = some d)
    (hi : (P.info? ty).map (·.size) = some cs.size) (hx : a.eval x = .pointer (some ad))
    (hd : (match d with | .struct _ | .array _ _ => true | _ => false) = true) (hk : K (a.put dst (.agg cs))) :
    Oper.quiet P ⟨dst, .load ty x, T, pos, af, gd⟩ a C K :=
  ⟨.agg cs, fun w hw => by
    have hr := run_loadVar_at (P := P) w ad ty cs d (hc w hw) hu hd hi
    unfold Oper.quietAt execOp
    simp only [hx, Instr.loadAt, Instr.sureAddr, Sem.run_bind, Sem.run_pure, Result.andThen_ok, hr]
    exact ⟨rfl, rfl⟩, hk⟩
theorem quietG_call2 {P : Program} {C : World → Prop} {K : Act → Prop} {a : Act} {dst : Option Tmp} {f : FuncId} {T : TypeId} {x y : Operand} {ts : Array TypeId} {pos : String} {af : Array Edge} {gd : Option (Nat × Bool)}
    (eg : ∀ args w, (callFunc f args).run P w = .ok (.enter f args) w) (u1 u2 v : Value) (hx : a.eval x = u1) (hy : a.eval y = u2)
    (hc : ∀ w', C w' → Calls P f #[u1, u2] w' fun e w'' => e = .returned v ∧ C w'') (hk : K (a.put dst v)) :
    Oper.quiet P ⟨dst, .call { callee := .value (.func f), args := #[x, y], argTypes := ts }, T, pos, af, gd⟩ a C K :=
  ⟨v, fun w hw => by
    have hf : a.eval (.func f) = .func (.func f) #[] #[] := rfl
    unfold Oper.quietAt
    simp [execOp, resolve, Deferred.ofValue, invoke, hx, hy, hf, eg, Oper.quietUpon, hc w hw], hk⟩
theorem quietG_call1 {P : Program} {C : World → Prop} {K : Act → Prop} {a : Act} {dst : Option Tmp} {f : FuncId} {T : TypeId} {x : Operand} {ts : Array TypeId} {pos : String} {af : Array Edge} {gd : Option (Nat × Bool)}
    (eg : ∀ args w, (callFunc f args).run P w = .ok (.enter f args) w) (u1 v : Value) (hx : a.eval x = u1)
    (hc : ∀ w', C w' → Calls P f #[u1] w' fun e w'' => e = .returned v ∧ C w'') (hk : K (a.put dst v)) :
    Oper.quiet P ⟨dst, .call { callee := .value (.func f), args := #[x], argTypes := ts }, T, pos, af, gd⟩ a C K :=
  ⟨v, fun w hw => by
    have hf : a.eval (.func f) = .func (.func f) #[] #[] := rfl
    unfold Oper.quietAt
    simp [execOp, resolve, Deferred.ofValue, invoke, hx, hf, eg, Oper.quietUpon, hc w hw], hk⟩
theorem quietG_call0 {P : Program} {C : World → Prop} {K : Act → Prop} {a : Act} {dst : Option Tmp} {f : FuncId} {T : TypeId} {ts : Array TypeId} {pos : String} {af : Array Edge} {gd : Option (Nat × Bool)}
    (eg : ∀ args w, (callFunc f args).run P w = .ok (.enter f args) w) (v : Value)
    (hc : ∀ w', C w' → Calls P f #[] w' fun e w'' => e = .returned v ∧ C w'') (hk : K (a.put dst v)) :
    Oper.quiet P ⟨dst, .call { callee := .value (.func f), args := #[], argTypes := ts }, T, pos, af, gd⟩ a C K :=
  ⟨v, fun w hw => by
    have hf : a.eval (.func f) = .func (.func f) #[] #[] := rfl
    unfold Oper.quietAt
    simp [execOp, resolve, Deferred.ofValue, invoke, hf, eg, Oper.quietUpon, hc w hw], hk⟩
/-- What has this value in all worlds of the class. -/
theorem quietG_world {P : Program} {C : World → Prop} {K : Act → Prop} {a : Act} {o : Oper} (v : Value) (h : ∀ w, C w → (execOp a.eval o).run P w = .ok (.value v) w) (hk : K (a.put o.dst v)) : o.quiet P a C K :=
  ⟨v, fun w hw => by unfold Oper.quietAt; rw [h w hw]; exact ⟨rfl, rfl⟩, hk⟩
theorem quietG_value {P : Program} {C : World → Prop} {K : Act → Prop} {a : Act} {o : Oper} (v : Value) (h : ∀ w, (execOp a.eval o).run P w = .ok (.value v) w) (hk : K (a.put o.dst v)) : o.quiet P a C K :=
  quietG_world v (fun w _ => h w) hk
/-- All worlds behind one, which leave what lies there. -/
abbrev Behind (w0 w' : World) : Prop := ∃ V : {V : World // Below w0.heap.size w0 V}, w' = V.1
theorem Behind.out {w0 w' : World} (h : Behind w0 w') : Below w0.heap.size w0 w' := by obtain ⟨⟨V, hV⟩, rfl⟩ := h; exact hV
theorem Behind.of {w0 w' : World} (h : Below w0.heap.size w0 w') : Behind w0 w' := ⟨⟨w', h⟩, rfl⟩
theorem Behind.on {w0 w' w'' : World} (h : Behind w0 w') (hb : Below w'.heap.size w' w'') : Behind w0 w'' := .of (h.out.trans (hb.mono h.out.size))
end Go.Proofs.YtffdkniahdekjaaDoor
end
