/-
  WHAT THE LAWS OF THIS SEAT ARE GIVEN: slices of bytes and of digests, opened; and what a row asks behind a call that answers true and turns nothing.
-/
import Derived.Test.YtffdkniahdekjaaDoorMBb
import Derived.Test.YtffdkniahdekjaaDoorMBd
import Derived.Deep.Slices
import Derived.Test.YtffdkniahdekjaaDoorMBf
section
namespace Go.Proofs.YtffdkniahdekjaaDoor
open Go.ChangeShapes Go.WideShapes Go.ChangeAt Go.RowKit Go.Hoar Go.Deep
theorem laidOpen : laidOutB Tryd.prog = true := by kernel_rfl
/-- All arguments read as they did where nothing has turned. -/
theorem trodAll_stays {H : Type} {enc : TypeId × Value → H} {P : Program} (hl : laidOutB P = true) {W W' : World} {sp : Nat → Bool} (hb : Below W.heap.size W W') : ∀ {ts : List TypeId} {vs : List Value} {ds : List (DataW H)} {ps : List MemPlace},
    (∀ t ∈ ts, P.readableRec t = true ∧ t < P.types.size) → DataW.TrodAll enc P W 0 (fun _ => true) true ts vs ds ps → (∀ x ∈ ps, x.block < W.heap.size) → (∀ x ∈ ps, sp x.block = true) → DataW.TrodAll enc P W' 0 sp true ts vs ds ps
  | [], [], [], _, _, h, _, _ => h
  | _ :: _, _ :: _, _ :: _, _, hr, ⟨p, q, h1, h2, e⟩, hlt, hs =>
    ⟨p, q, WideElems.Trod_stays hl (hr _ (List.mem_cons_self ..)).1 (hr _ (List.mem_cons_self ..)).2 h1 (fun x hx => hb.same (hlt x (by rw [e]; exact List.mem_append_left _ hx))) (fun x hx => hs x (by rw [e]; exact List.mem_append_left _ hx)),
      trodAll_stays hl hb (fun t ht => hr t (List.mem_cons_of_mem _ ht)) h2 (fun x hx => hlt x (by rw [e]; exact List.mem_append_right _ hx)) (fun x hx => hs x (by rw [e]; exact List.mem_append_right _ hx)), e⟩
set_option maxRecDepth 100000 in
/-- What a law's row asks, where the law answers true and turns nothing. -/
theorem said_post {H : Type} {enc : TypeId × Value → H} {f : Func} {s : ChangeSpec} {W W' : World} {args : Array Value} {ds gs : List (DataW H)} {before : List MemPlace}
    (hW : DataW.Whole enc Tryd.prog f.params.toList s.vars false W args.toList ds gs before) (hvars : s.vars = [])
    (hread : (f.params.toList.all fun t => Tryd.prog.readableRec t && decide (t < Tryd.prog.types.size)) = true)
    (hft : f.resultTypes = #[4]) (hb : Below W.heap.size W W')
    (hres : (s.fn H ds).results = [.lit (.bool true)]) (hargs : (s.fn H ds).args = ds) (hvs : (s.fn H ds).vars = []) :
    s.post enc Tryd.prog f false true false false W args (.bool true) W' := by
  have hW' := hW
  obtain ⟨p, q, hA, hV, rfl, hfz, hnd⟩ := hW
  have hg0 : gs = [] ∧ q = [] := by
    rw [hvars] at hV
    exact trodVars_none hV
  obtain ⟨rfl, rfl⟩ := hg0
  have hlt : ∀ x ∈ p, x.block < W.heap.size := fun x hx => hW'.lt x (by rw [List.append_nil]; exact hx)
  have hr : ∀ t ∈ f.params.toList, Tryd.prog.readableRec t = true ∧ t < Tryd.prog.types.size := fun t ht => by
    have := List.all_eq_true.1 hread t ht
    simpa using this
  refine post_of_below (pa := p) (pv := []) hW' (fun _ _ _ => ?_) (fun sp hsp => ?_) (fun sp _ => ?_) rfl hb ?_
  · rw [hft, List.append_nil, hres]
    exact trodAll_cons_mk (shut_bool Tryd.underlying4 true) trodAll_mk0
  · rw [List.append_nil, hargs]
    exact trodAll_stays laidOpen hb hr hA hlt (fun x hx => hsp x (by rw [List.append_nil]; exact hx))
  · rw [hvars, List.append_nil, hvs]
    exact Eq.refl _
  · exact ok_one hft rfl (okWide_bool_mk Tryd.underlying4 _)
set_option maxRecDepth 100000 in
/-- Where a slice's memory lies. -/
theorem slice_spot {W : World} {base : Nat} {t e : TypeId} {a : Addr} {n c : Nat} (ht : Tryd.prog.underlying t = some (.slice e)) (h : Value.okWide Tryd.prog W .any base t (.slice (some a) n c)) : ∃ g off, a = ⟨g, off, none⟩ ∧ g < W.heap.size := by
  simp only [Value.okWide, Cell.okWide, Cell.ok, ht] at h
  obtain ⟨_, _, _, hs, row, cells, hsh, _⟩ := h
  obtain ⟨g, off, spot⟩ := a
  simp only at hs hsh
  subst hs
  refine ⟨g, off, rfl, ?_⟩
  by_cases k : g < W.heap.size
  · exact k
  · unfold World.shape? at hsh
    rw [Array.getElem?_eq_none (by omega)] at hsh
    cases hsh
set_option maxRecDepth 100000 in
/-- A slice of bytes. -/
theorem open_bytes {H : Type} {enc : TypeId × Value → H} {W : World} {base : Nat} {v : Value} {d : DataW H} {ps : List MemPlace} (hval : Value.okWide Tryd.prog W .any base 22 v) (h : DataW.Trod enc Tryd.prog W 0 (fun _ => true) true 22 v d ps) :
    ∃ (a : Option Addr) (c : Nat) (bs : List Nat), v = .slice a bs.length c ∧ Sha.Bytes bs ∧ PartOk W a c bs ∧ bs.length ≤ c ∧ c ≤ maxLen := by
  obtain ⟨a0, len, cap, rfl⟩ := okWide_slice Tryd.underlying22 hval
  obtain ⟨fuel, hf⟩ := h
  rcases open_ints Tryd.underlying22 Tryd.underlying5 cellsU8 hf with ⟨hcs, _⟩ | ⟨a, len', cap', zs, hcs, _, hl, hm, hz, _, hcell, hwz⟩
  · simp only [Value.cells, List.cons.injEq, and_true, Value.slice.injEq] at hcs
    obtain ⟨rfl, rfl, rfl⟩ := hcs
    exact ⟨none, 0, [], rfl, (fun _ h => by cases h), .inl ⟨rfl, rfl, rfl⟩, Nat.le_refl _, Nat.zero_le _⟩
  · simp only [Value.cells, List.cons.injEq, and_true, Value.slice.injEq] at hcs
    obtain ⟨rfl, rfl, rfl⟩ := hcs
    obtain ⟨g, off, rfl, hg⟩ := slice_spot Tryd.underlying22 hval
    obtain ⟨l, rfl, hlb⟩ := bytes_of_ints zs hwz
    simp only [if_true, List.length_map] at hz
    have htl : (l.take len).length = len := by rw [List.length_take]; omega
    refine ⟨some ⟨g, off, none⟩, cap, l.take len, by rw [htl], fun x hx => hlb x (List.mem_of_mem_take hx), .inr ⟨g, off, rfl, hg, fun i hi => ?_⟩, by rw [htl]; exact hl, hm⟩
    rw [htl] at hi
    have := hcell i (by rw [List.length_map]; omega)
    rw [Addr.add_lit] at this
    rw [this, List.getD_eq_getElem?_getD, List.getD_eq_getElem?_getD, List.getElem?_map, List.getElem?_take, if_pos hi]
    cases l[i]? <;> rfl
set_option maxRecDepth 100000 in
/-- A digest. -/
theorem open_sum {H : Type} {enc : TypeId × Value → H} {W : World} {base : Nat} {v : Value} {d : DataW H} {ps : List MemPlace} (hval : Value.okWide Tryd.prog W .any base 26 v) (h : DataW.Trod enc Tryd.prog W 0 (fun _ => true) true 26 v d ps) :
    ∃ l : List Nat, l.length = 32 ∧ Sha.Bytes l ∧ v = .agg (arr32 l) := by
  obtain ⟨zs, hl, hv, _, _, hz⟩ := Hoar.open_row Tryd.underlying26 Tryd.underlying5 cellsU8 cellsSum (okWide_agg Tryd.underlying26 hval) h
  obtain ⟨l, rfl, hlb⟩ := bytes_of_ints zs hz
  rw [List.length_map] at hl
  refine ⟨l, hl, hlb, ?_⟩
  rw [hv, arr32_full l hl, List.map_map]
  rfl
/-- Integers of a word's kind are words. -/
theorem words_of_ints : ∀ zs : List Int, (∀ z ∈ zs, (Lit.int .u32 z).wf = true) → ∃ l : List Nat, zs = l.map (fun n : Nat => (n : Int)) ∧ ∀ x ∈ l, x < 4294967296
  | [], _ => ⟨[], rfl, fun _ h => by cases h⟩
  | z :: zs, h => by
    obtain ⟨l, rfl, hl⟩ := words_of_ints zs (fun x hx => h x (by simp [hx]))
    have hz := bounds_u32 (h z (by simp))
    refine ⟨z.toNat :: l, by simp [Int.toNat_of_nonneg hz.1], fun x hx => ?_⟩
    rcases List.mem_cons.1 hx with rfl | hx
    · omega
    · exact hl x hx
set_option maxRecDepth 100000 in
/-- The eight words of a state. -/
theorem open_words {H : Type} {enc : TypeId × Value → H} {W : World} {base : Nat} {v : Value} {d : DataW H} {ps : List MemPlace} (hval : Value.okWide Tryd.prog W .any base 31 v) (h : DataW.Trod enc Tryd.prog W 0 (fun _ => true) true 31 v d ps) :
    ∃ l : List Nat, l.length = 8 ∧ Sha.Words l ∧ v = .agg (w8 l) := by
  have c8 : Tryd.prog.cellsOf 31 = 8 := by kernel_rfl
  obtain ⟨zs, hl, hv, _, _, hz⟩ := Hoar.open_row Tryd.underlying31 Tryd.underlying30 cellsU32 c8 (okWide_agg Tryd.underlying31 hval) h
  obtain ⟨l, rfl, hlb⟩ := words_of_ints zs hz
  rw [List.length_map] at hl
  refine ⟨l, hl, hlb, ?_⟩
  rw [hv, w8, List.map_map]
  rfl
set_option maxRecDepth 100000 in
/-- The digest whose cells these are. -/
theorem sum_of_cells {H : Type} {enc : TypeId × Value → H} {W : World} {base n : Nat} {sp : Nat → Bool} {held : Bool} {cs : List Value} {x : DataW H × List MemPlace} (h : DataW.trod enc Tryd.prog W base sp held n 26 cs = some x) :
    ∃ l : List Nat, l.length = 32 ∧ Sha.Bytes l ∧ cs = l.map BV := by
  obtain ⟨xs, m, rfl, _, hl, hn, hel⟩ := DataW.trod_array Tryd.underlying26 h
  rw [cellsSum] at hl
  rw [cellsU8] at hel
  obtain ⟨zs, hz1, hz2, hz3⟩ := cells_ints (m := m) Tryd.underlying5 cs xs (hl.trans hn.symm) (fun i hi => by
    have := hel i (by omega)
    rw [Nat.mul_one] at this
    exact this)
  obtain ⟨l, rfl, hlb⟩ := bytes_of_ints zs hz3
  refine ⟨l, by rw [hz1, List.length_map, List.length_map] at hl; exact hl, hlb, ?_⟩
  rw [hz1, List.map_map]
  rfl
theorem choose_list {P : Nat → List Nat → Prop} : ∀ n : Nat, (∀ i, i < n → ∃ l, P i l) → ∃ ls : List (List Nat), ls.length = n ∧ ∀ i l, ls[i]? = some l → P i l
  | 0, _ => ⟨[], rfl, fun i l h => by simp at h⟩
  | n + 1, h => by
    obtain ⟨ls, hn, hp⟩ := choose_list n (fun i hi => h i (by omega))
    obtain ⟨l, hl⟩ := h n (by omega)
    refine ⟨ls ++ [l], by simp [hn], fun i x hx => ?_⟩
    by_cases hi : i < n
    · rw [List.getElem?_append_left (by omega)] at hx
      exact hp i x hx
    · rw [List.getElem?_append_right (by omega), hn] at hx
      have hi2 : i - n = 0 := by
        have := (List.getElem?_eq_some_iff.1 hx).1
        simp at this
        omega
      rw [hi2] at hx
      obtain rfl := Option.some.inj hx
      obtain rfl : i = n := by omega
      exact hl
set_option maxRecDepth 100000 in
/-- A slice of digests. -/
theorem open_sums {H : Type} {enc : TypeId × Value → H} {W : World} {base : Nat} {v : Value} {d : DataW H} {ps : List MemPlace} (hval : Value.okWide Tryd.prog W .any base 49 v) (h : DataW.Trod enc Tryd.prog W 0 (fun _ => true) true 49 v d ps) :
    ∃ (a : Option Addr) (c : Nat) (ls : List (List Nat)), v = .slice a ls.length c ∧ SumsOk ls ∧ RowOk W a c ls := by
  obtain ⟨a0, len, cap, rfl⟩ := okWide_slice Tryd.underlying49 hval
  obtain ⟨fuel, hf⟩ := h
  rcases open_slice Tryd.underlying49 hf with ⟨hcs, _⟩ | ⟨a, len', cap', m, n, D, Pl, hcs, _, hl, hm, hmm, _, hi⟩
  · simp only [Value.cells, List.cons.injEq, and_true, Value.slice.injEq] at hcs
    obtain ⟨rfl, rfl, rfl⟩ := hcs
    exact ⟨none, 0, [], rfl, (fun _ h => by cases h), .inl ⟨rfl, rfl, rfl⟩⟩
  · simp only [Value.cells, List.cons.injEq, and_true, Value.slice.injEq] at hcs
    obtain ⟨rfl, rfl, rfl⟩ := hcs
    obtain ⟨g, off, rfl, hg⟩ := slice_spot Tryd.underlying49 hval
    simp only [if_true] at hmm
    rw [cellsSum] at hi
    obtain ⟨ls, hn, hp⟩ := choose_list (P := fun i l => l.length = 32 ∧ Sha.Bytes l ∧ ∀ j, j < 32 → W.cell? ⟨g, off + i * 32 + j, none⟩ = some (.int .u8 ((l.getD j 0 : Nat) : Int))) len (fun i hil => by
      obtain ⟨cs', h1, h2⟩ := hi i (by omega)
      obtain ⟨l, hl32, hlb, rfl⟩ := sum_of_cells h2
      obtain ⟨_, _, hc⟩ := World.cells?_some h1
      refine ⟨l, hl32, hlb, fun j hj => ?_⟩
      have := hc j hj
      rw [Addr.add_lit, Addr.add_lit] at this
      rw [this, List.getElem?_map, List.getD_eq_getElem?_getD, List.getElem?_eq_getElem (by omega)]
      rfl)
    refine ⟨some ⟨g, off, none⟩, cap, ls, by rw [hn], fun l hl' => ?_, .inr ⟨g, off, rfl, hg, fun i l hil => hp i l hil, by omega, hm⟩⟩
    obtain ⟨i, hi'⟩ := List.getElem?_of_mem hl'
    exact ⟨(hp i l hi').1, (hp i l hi').2.1⟩
end Go.Proofs.YtffdkniahdekjaaDoor
end
