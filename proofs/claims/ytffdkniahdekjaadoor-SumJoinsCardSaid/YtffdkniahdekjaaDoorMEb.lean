/-
  THE REFERENCE's Right and Done; an append to a row of one's own of whatever lies in memory.
  · THE LAWS' made: the lists of bytes that are made for the digest of a list.
-/
import Derived.Test.YtffdkniahdekjaaDoorMEa
import Derived.Test.YtffdkniahdekjaaDoorMBl
import Derived.Test.YtffdkniahdekjaaDoorMBf
import Derived.Test.YtffdkniahdekjaaDoorMBc
import Derived.Laws.AppendOwnNone
section
namespace Go.Hoar
open Go Go.RowKit
theorem opw_slice2 {P : Program} {a : Act} {w : World} {K : Act → World → Prop} {Q : Exit → Act → World → Prop} {dst : Option Tmp} {t T : TypeId} {x0 x1 : Operand} {pos : String} {af : Array Edge}
    (e : TypeId) (ie : TypeInfo) (z : Value) (c0 c1 : Array Value) (hu : P.underlying t = some (.slice e)) (hie : P.info? e = some ie) (hz : ie.zero = some z) (h0 : c0.size = ie.size) (h1 : c1.size = ie.size) (hsmall : 2 * ie.size ≤ 1000) (hpos : 0 < 2 * ie.size)
    (e0 : a.eval x0 = .agg c0) (e1 : a.eval x1 = .agg c1) (h : K (a.put dst (.slice (some ⟨w.heap.size, 0, none⟩) 2 2)) (w.alloc (.cells ([c0, c1].flatMap Array.toList).toArray e))) :
    Oper.wp P ⟨dst, .buildSlice t 2 #[(0, x0), (1, x1)], T, pos, af, none⟩ a w K Q :=
  opw_slices e ie z [c0, c1] hu hie hz (fun c hc => by
    simp only [List.mem_cons, List.not_mem_nil, or_false] at hc
    rcases hc with rfl | rfl
    · exact h0
    · exact h1) rfl hsmall hpos (by simp [e0, e1, List.zipIdx]) h
end Go.Hoar
namespace Go.Proofs.YtffdkniahdekjaaDoor
open Go.RowKit Go.Hoar
noncomputable def mdOps (k : Nat) : Array Oper := (Tryd.f54.body.bind (opsAt k)).getD #[]
theorem own_low {w : World} {base base' n : Nat} {e : TypeId} {size : Nat} {v : Value} {xs : List Value} (h : w.ownsRow base' e size v n xs) (hb : base ≤ base') : w.ownsRow base e size v n xs := by
  refine ⟨h.1, ?_⟩
  rcases h.2 with h2 | ⟨g, cap, cur, h3, h4, h5⟩
  · exact .inl h2
  · exact .inr ⟨g, cap, cur, h3, Nat.le_trans hb h4, h5⟩
theorem bpart_not_sum {w : World} {v : Value} {b : List Nat} {g : Nat} {cs : Array Value} (h : BPart w v b) (hh : Has w g 26 cs) : v.ownBlock ≠ some g := by
  obtain ⟨g7, c, ds, rfl, h7, _⟩ := h
  intro e
  obtain rfl : g7 = g := Option.some.inj e
  have h1 : w.heap[g7]? = some (.cells ds 5 (0, 0)) := h7
  have h2 : w.heap[g7]? = some (.cells cs 26 (0, 0)) := hh
  rw [h1] at h2
  injection h2 with h2
  injection h2 with _ h2
  exact absurd h2 (by decide)
theorem own_lit2 (A B : List Nat) (ha : A.length = 32) (hb : B.length = 32) {V : World} {base : Nat} (h : base ≤ V.heap.size) : (V.alloc (.cells ([arr32 A, arr32 B].flatMap Array.toList).toArray 26)).ownsRow base 26 32 (.slice (some ⟨V.heap.size, 0, none⟩) 2 2) 2 ([A, B].flatMap cellsOf) := by
  have e : ([A, B].flatMap cellsOf) = ([arr32 A, arr32 B].flatMap Array.toList).toArray.toList := by simp [cellsOf]
  rw [e]
  refine World.ownsRow_lit _ _ 2 h (by decide) ?_
  have h1 := arr32_size A (by omega)
  have h2 := arr32_size B (by omega)
  simp [h1, h2]
theorem own_lit1 (A : List Nat) (ha : A.length = 32) {V : World} {base : Nat} (h : base ≤ V.heap.size) : (V.alloc (.cells (arr32 A) 26)).ownsRow base 26 32 (.slice (some ⟨V.heap.size, 0, none⟩) 1 1) 1 ([A].flatMap cellsOf) := by
  have e : ([A].flatMap cellsOf) = (arr32 A).toList := by simp [cellsOf]
  rw [e]
  refine World.ownsRow_lit _ _ 1 h (by decide) ?_
  rw [arr32_size A (by omega)]
theorem row_lit {V : World} {base g n c : Nat} {ls : List (List Nat)} (h : V.ownsRow base 26 32 (.slice (some ⟨g, 0, none⟩) n c) n (ls.flatMap cellsOf)) (hok : SumsOk ls) (hn : ls.length = n) : RowOk V (some ⟨g, 0, none⟩) c ls := by
  obtain ⟨a, c', e, hr, _⟩ := row_of_own h hok hn
  injection e with e1 _ e2
  subst e1
  subst e2
  exact hr
/-- joined of one digest, and of two. -/
theorem joined_lit (first : Nat) (hf : first < 256) (ls : List (List Nat)) (hok : SumsOk ls) (n : Nat) (hn : ls.length = n) (hs : n ≤ 100) (g c base : Nat) (V : World) (h : V.ownsRow base 26 32 (.slice (some ⟨g, 0, none⟩) n c) n (ls.flatMap cellsOf)) (hc : ConstAt V) (m : Nat) (hm : m = 1 + 32 * n) :
    Calls Tryd.prog 86 #[.int .u8 (first : Int), .slice (some ⟨g, 0, none⟩) n c] V fun e w' => ∃ g7 c7, e = .returned (.tuple #[.agg (arr32 (Sha.sha (first :: ls.flatten))), .slice (some ⟨g7, 0, none⟩) m c7]) ∧ BPart w' (.slice (some ⟨g7, 0, none⟩) m c7) (first :: ls.flatten) ∧ Below V.heap.size V w' := by
  have hr := row_lit h hok hn
  subst hn
  refine (joined_any first hf ls hok hs _ c V hr hc _ (Lib.hid rfl)).mono ?_
  rintro e w' ⟨v, rfl, hv, _, hb⟩
  have hlen : (first :: ls.flatten).length = m := by rw [List.length_cons, (flat32 hok).1, hm]; omega
  obtain ⟨g7, c7, rfl, _, _, _⟩ := hv.part
  rw [hlen] at hv ⊢
  exact ⟨g7, c7, rfl, hv, hb⟩
theorem madeOf_len : ∀ (f : Nat) (ls : List (List Nat)), ls.length ≤ 1000000 → (madeOf f ls).length ≤ if ls.length = 0 then 1 else 2 * ls.length - 1
  | 0, _, _ => by rw [madeOf]; simp
  | f + 1, [], _ => by rw [madeOf]; simp
  | f + 1, [x], _ => by rw [madeOf]; simp
  | f + 1, x :: y :: r, hb => by
    have hl : (x :: y :: r).length = r.length + 2 := rfl
    obtain ⟨_, b2, _⟩ := halfOf_bounds (n := r.length + 2) (by omega) (by omega)
    have b1 := halfOf_pos (r.length + 2)
    have hm := madeOf_many f (x :: y :: r) (by omega)
    rw [hl] at hm
    generalize halfOf (r.length + 2) = q at *
    have l1 : ((x :: y :: r).take q).length = q := by rw [List.length_take]; omega
    have l2 : ((x :: y :: r).drop q).length = r.length + 2 - q := by rw [List.length_drop]; rfl
    have h1 := madeOf_len f ((x :: y :: r).take q) (by omega)
    have h2 := madeOf_len f ((x :: y :: r).drop q) (by omega)
    rw [l1, if_neg (by omega)] at h1
    rw [l2, if_neg (by omega)] at h2
    rw [hm, hl, if_neg (by omega), List.length_append, List.length_cons]
    omega
theorem madeOf_pos (f : Nat) (ls : List (List Nat)) : 0 < (madeOf (f + 1) ls).length := List.length_pos_of_mem (headOf_mem f ls)
def MadeOk (f : Nat) : Prop := ∀ (ls : List (List Nat)) (a : Option Addr) (c : Nat) (w : World), ls.length < f → ls.length ≤ 100 → SumsOk ls → RowOk w a c ls → ConstAt w →
    Calls Tryd.prog 54 #[.slice a ls.length c] w fun e w' => ∃ v vals, e = .returned v ∧ w'.ownsRow w.heap.size 22 1 v (madeOf f ls).length vals ∧ BRows w' vals (madeOf f ls) ∧ Below w.heap.size w w'
set_option maxRecDepth 100000 in
set_option maxHeartbeats 6000000 in
theorem made_many (f : Nat) (ih : MadeOk f) (ls : List (List Nat)) (n : Nat) (hnl : n = ls.length) (h2 : 2 ≤ n) (hn : n ≤ 100) (hf : n < f + 1) (hok : SumsOk ls) (g off c : Nat) (w : World) (hs : SumsAt w g off ls) (hg : g < w.heap.size) (hnc : n ≤ c) (hcm : c ≤ maxLen) (hc : ConstAt w) :
    Calls Tryd.prog 54 #[.slice (some ⟨g, off, none⟩) n c] w fun e w' => ∃ v vals, e = .returned v ∧ w'.ownsRow w.heap.size 22 1 v (madeOf (f + 1) ls).length vals ∧ BRows w' vals (madeOf (f + 1) ls) ∧ Below w.heap.size w w' := by
  obtain ⟨i9, hi9, hz90, hz91, _⟩ := info_parts sumInfo3
  obtain ⟨ib, hib, hb0, hb1, hb2⟩ := info_parts bytesInfo3
  obtain ⟨q, hq⟩ : ∃ q, q = halfOf n := ⟨_, rfl⟩
  obtain ⟨_, b2, _⟩ := halfOf_bounds (n := n) h2 (by omega)
  have b1 := halfOf_pos n
  rw [← hq] at b1 b2
  have l1 : (ls.take q).length = q := by rw [List.length_take]; omega
  have l2 : (ls.drop q).length = n - q := by rw [List.length_drop, hnl]
  obtain ⟨A, hA⟩ : ∃ A, A = rootOf (ls.take q) := ⟨_, rfl⟩
  obtain ⟨B, hB⟩ : ∃ B, B = rootOf (ls.drop q) := ⟨_, rfl⟩
  have hAl : A.length = 32 ∧ Sha.Bytes A := by rw [hA]; exact rootOf_len _
  have hBl : B.length = 32 ∧ Sha.Bytes B := by rw [hB]; exact rootOf_len _
  obtain ⟨M1, hM1⟩ : ∃ M, M = madeOf f (ls.take q) := ⟨_, rfl⟩
  obtain ⟨M2, hM2⟩ : ∃ M, M = madeOf f (ls.drop q) := ⟨_, rfl⟩
  have hmo : madeOf (f + 1) ls = ([2 :: (A ++ B)] ++ M1) ++ M2 := by rw [madeOf_many f ls (by omega), ← hnl, ← hq, ← hA, ← hB, ← hM1, ← hM2]; rfl
  have hm1 : M1.length ≤ 200 := by have := madeOf_len f (ls.take q) (by omega); rw [← hM1, l1, if_neg (by omega)] at this; omega
  have hm2 : M2.length ≤ 200 := by have := madeOf_len f (ls.drop q) (by omega); rw [← hM2, l2, if_neg (by omega)] at this; omega
  obtain ⟨f', rfl⟩ : ∃ f', f = f' + 1 := ⟨f - 1, by omega⟩
  have hp1 : 0 < M1.length := by rw [hM1]; exact madeOf_pos _ _
  have hp2 : 0 < M2.length := by rw [hM2]; exact madeOf_pos _ _
  unfold maxLen at hcm
  have r1 : ∀ V, Below w.heap.size w V → RowOk V (some ⟨g, off, none⟩) c (ls.take q) := fun V hV => .inr ⟨g, off, rfl, Nat.lt_of_lt_of_le hg hV.size, (hs.below hg hV).take q, by omega, by unfold maxLen; omega⟩
  have r2 : ∀ V, Below w.heap.size w V → RowOk V (some ⟨g, off + q * 32, none⟩) (c - q) (ls.drop q) := fun V hV => .inr ⟨g, off + q * 32, rfl, Nat.lt_of_lt_of_le hg hV.size, (hs.below hg hV).drop q, by omega, by unfold maxLen; omega⟩
  have HL1 : Hid (∀ V : World, Below w.heap.size w V → Calls Tryd.prog 33 #[.slice (some ⟨g, off, none⟩) q c] V fun e w' => e = .returned (.agg (arr32 A)) ∧ Below V.heap.size V w') := Lib.hid fun V hV => by
    have h : Calls Tryd.prog 33 #[.slice (some ⟨g, off, none⟩) (ls.take q).length c] V fun e w' => e = .returned (.agg (arr32 (rootOf (ls.take q)))) ∧ (rootOf (ls.take q)).length = 32 ∧ Below V.heap.size V w' := listAll_any (ls.take q) V _ c (r1 V hV) (by omega) (hc.below hV rfl)
    rw [← hA, l1] at h
    exact h.mono fun e w' k => ⟨k.1, k.2.2⟩
  have HL2 : Hid (∀ V : World, Below w.heap.size w V → Calls Tryd.prog 33 #[.slice (some ⟨g, off + q * 32, none⟩) (n - q) (c - q)] V fun e w' => e = .returned (.agg (arr32 B)) ∧ Below V.heap.size V w') := Lib.hid fun V hV => by
    have h : Calls Tryd.prog 33 #[.slice (some ⟨g, off + q * 32, none⟩) (ls.drop q).length (c - q)] V fun e w' => e = .returned (.agg (arr32 (rootOf (ls.drop q)))) ∧ (rootOf (ls.drop q)).length = 32 ∧ Below V.heap.size V w' := listAll_any (ls.drop q) V _ (c - q) (r2 V hV) (by omega) (hc.below hV rfl)
    rw [← hB, l2] at h
    exact h.mono fun e w' k => ⟨k.1, k.2.2⟩
  have HM1 : Hid (∀ V : World, Below w.heap.size w V → Calls Tryd.prog 54 #[.slice (some ⟨g, off, none⟩) q c] V fun e w' => ∃ gm cm vm, e = .returned (.slice (some ⟨gm, 0, none⟩) M1.length cm) ∧ w'.ownsRow V.heap.size 22 1 (.slice (some ⟨gm, 0, none⟩) M1.length cm) M1.length vm ∧ BRows w' vm M1 ∧ Below V.heap.size V w') := Lib.hid fun V hV => by
    have h := ih (ls.take q) _ c V (by omega) (by omega) (fun l hl => hok l (List.mem_of_mem_take hl)) (r1 V hV) (hc.below hV rfl)
    rw [← hM1, l1] at h
    refine h.mono ?_
    rintro e w' ⟨v, vals, rfl, ho, hr, hb⟩
    obtain ⟨a, cm, rfl, _, _⟩ := own_shape ho
    obtain ⟨gm, rfl, _, _⟩ := own_addr ho hp1
    exact ⟨gm, cm, vals, rfl, ho, hr, hb⟩
  have HM2 : Hid (∀ V : World, Below w.heap.size w V → Calls Tryd.prog 54 #[.slice (some ⟨g, off + q * 32, none⟩) (n - q) (c - q)] V fun e w' => ∃ gm cm vm, e = .returned (.slice (some ⟨gm, 0, none⟩) M2.length cm) ∧ w'.ownsRow V.heap.size 22 1 (.slice (some ⟨gm, 0, none⟩) M2.length cm) M2.length vm ∧ BRows w' vm M2 ∧ Below V.heap.size V w') := Lib.hid fun V hV => by
    have h := ih (ls.drop q) _ (c - q) V (by omega) (by omega) (fun l hl => hok l (List.mem_of_mem_drop hl)) (r2 V hV) (hc.below hV rfl)
    rw [← hM2, l2] at h
    refine h.mono ?_
    rintro e w' ⟨v, vals, rfl, ho, hr, hb⟩
    obtain ⟨a, cm, rfl, _, _⟩ := own_shape ho
    obtain ⟨gm, rfl, _, _⟩ := own_addr ho hp2
    exact ⟨gm, cm, vals, rfl, ho, hr, hb⟩
  obtain ⟨out, hout⟩ : ∃ out, out = Sha.sha (2 :: (A ++ B)) := ⟨_, rfl⟩
  have hol : out.length = 32 := by rw [hout]; exact (sha_bytes _).1
  have HJ : Hid (∀ (g8 : Nat) (V : World), Below w.heap.size w V → V.ownsRow w.heap.size 26 32 (.slice (some ⟨g8, 0, none⟩) 2 2) 2 ([A, B].flatMap cellsOf) → Calls Tryd.prog 86 #[.int .u8 2, .slice (some ⟨g8, 0, none⟩) 2 2] V fun e w' => ∃ g7 c7, e = .returned (.tuple #[.agg (arr32 out), .slice (some ⟨g7, 0, none⟩) 65 c7]) ∧ BPart w' (.slice (some ⟨g7, 0, none⟩) 65 c7) (2 :: (A ++ B)) ∧ Below V.heap.size V w') := Lib.hid fun g8 V hV ho => by
    have h := joined_lit 2 (by decide) [A, B] (fun l hl => by
      simp only [List.mem_cons, List.not_mem_nil, or_false] at hl
      rcases hl with rfl | rfl
      · exact hAl
      · exact hBl) 2 rfl (by decide) g8 2 w.heap.size V ho (hc.below hV rfl) 65 rfl
    have e : [A, B].flatten = A ++ B := by simp
    rw [e, ← hout] at h
    exact h
  have HMo := Lib.hid hmo
  have HLa := Lib.hid hAl.1
  have HLb := Lib.hid hBl.1
  have HSa : Hid ((arr32 A).size = i9.size) := Lib.hid (by rw [hz91]; exact arr32_size A (by omega))
  have HSb : Hid ((arr32 B).size = i9.size) := Lib.hid (by rw [hz91]; exact arr32_size B (by omega))
  have HIo := Lib.hid (arr32_info out (by omega))
  have HSo := Lib.hid (zero32_size out (by omega))
  have HQ := Lib.hid hq
  have HC := Lib.hid hc
  clear hs r1 r2 hmo hAl hBl hA hB hM1 hM2 l1 l2 hout hq hc ih hok hnl
  go_enter Tryd.func54, Tryd.ntmps54
  go_wp2
  go_loop [5] (fun v => ∃ k : Nat, 2 ^ k < n ∧ v = .int .i64 ((2 ^ k : Nat) : Int)) (fun v => n - (intOf v).toNat)
  case atStart => exact ⟨0, by omega, rfl⟩
  case round =>
    obtain ⟨k, hk, rfl⟩ := hrel
    have HK := Lib.hid (show 2 ^ (k + 1) = 2 * 2 ^ k by rw [Nat.pow_succ]; omega)
    have HE : Hid (n ≤ 2 * 2 ^ k → 2 ^ k = q) := Lib.hid fun h => by rw [HQ.out]; exact (halfOf_is n k hk h (by omega)).symm
    have HP := Lib.hid (Nat.two_pow_pos k)
    by_cases hlt : 2 * 2 ^ k < n
    · generalize 2 ^ k = p at *
      have hp := HP.out
      have hlt2 : 2 * (p : Int) < (n : Int) := by omega
      go_wp2
      go_round
      case rel => exact ⟨k + 1, by rw [HK.out]; exact hlt, by rw [HK.out]; go_num⟩
      case measure => simp [intOf]; omega
    · have hpq := HE.out (by omega)
      clear HK HE HP
      generalize 2 ^ k = p at *
      subst hpq
      have hlt2 : ¬ 2 * (p : Int) < (n : Int) := by omega
      have hpc : p ≤ c := by omega
      have hpn : p ≤ n := by omega
      have hpc2 : p < c := by omega
      have hne : ¬ c = p := by omega
      go_upto_region 9 with (fail)
      rename_i K9 hK9
      have HNext : Hid (∀ (s1 s2 s3 s4 s6 s8 s9 s10 s11 s12 s13 s14 s15 s16 s17 s18 s19 s20 s21 s22 s23 s24 s25 s26 s27 s28 s29 s30 s31 s32 s33 s34 s35 s36 s37 s38 s39 s40 s41 s42 s43 s44 s45 s46 s47 s48 s49 s50 s51 s52 s53 s54 s55 s56 s57 : Value) (g7 c7 : Nat) (U : World), Below w.heap.size w U → BPart U (.slice (some ⟨g7, 0, none⟩) 65 c7) (2 :: (A ++ B)) → K9 ⟨#[.slice (some ⟨g, off, none⟩) n c, s1, s2, s3, s4, .int .i64 (p : Int), s6, .slice (some ⟨g7, 0, none⟩) 65 c7, s8, s9, s10, s11, s12, s13, s14, s15, s16, s17, s18, s19, s20, s21, s22, s23, s24, s25, s26, s27, s28, s29, s30, s31, s32, s33, s34, s35, s36, s37, s38, s39, s40, s41, s42, s43, s44, s45, s46, s47, s48, s49, s50, s51, s52, s53, s54, s55, s56, s57], []⟩ U) := Lib.hid fun s1 s2 s3 s4 s6 s8 s9 s10 s11 s12 s13 s14 s15 s16 s17 s18 s19 s20 s21 s22 s23 s24 s25 s26 s27 s28 s29 s30 s31 s32 s33 s34 s35 s36 s37 s38 s39 s40 s41 s42 s43 s44 s45 s46 s47 s48 s49 s50 s51 s52 s53 s54 s55 s56 s57 g7 c7 U hBU hVU => by
        apply hK9
        go_upto_region 10 with (fail)
        change Code.wp _ (Code.region 10 (mdOps 10) true) _ _ _
        refine wp_region_held (S := fun _ => True) (by kernel_rfl) ?_
        have hsz : (mdOps 10).size = 13 := by kernel_rfl
        rw [hsz]
        clear hsz
        refine gen_world (P := fun W' => wpAnyH _ _ _ _ _ _ _ _ W') (I := fun V => Below w.heap.size w V ∧ BPart V (.slice (some ⟨g7, 0, none⟩) 65 c7) (2 :: (A ++ B))) _ ⟨hBU.drew, hVU.below (Below.refl _ U).drew⟩ ?_
        rintro U0 ⟨hB, hV⟩
        have HBU0 := Lib.hid hB
        have HVU0 := Lib.hid hV
        clear hB hV hBU hVU
        refine wpAnyH_take (i := 0) (oi := ⟨some 46, _, _, _, _, _⟩) (v := .slice (some ⟨g7, 0, none⟩) 65 c7) rfl (by kernel_rfl) (by kernel_rfl) (by kernel_rfl) (fun _ _ _ h => h) (Or.inl ⟨by rfl, fun w' hw' => by go_simp⟩) trivial ?_
        try simp only [Act.put, List.setIfInBounds_toArray, List.set_cons_succ, List.set_cons_zero]
        refine wpAnyH_take (i := 2) (oi := ⟨some 48, _, _, _, _, _⟩) (v := .slice (some ⟨g, off, none⟩) n c) rfl (by kernel_rfl) (by kernel_rfl) (by kernel_rfl) (fun _ _ _ h => h) (Or.inl ⟨by rfl, fun w' hw' => by go_simp⟩) trivial ?_
        try simp only [Act.put, List.setIfInBounds_toArray, List.set_cons_succ, List.set_cons_zero]
        refine wpAnyH_take (i := 3) (oi := ⟨some 49, _, _, _, _, _⟩) (v := .int .i64 (p : Int)) rfl (by kernel_rfl) (by kernel_rfl) (by kernel_rfl) (fun _ _ _ h => h) (Or.inl ⟨by rfl, fun w' hw' => by go_simp⟩) trivial ?_
        try simp only [Act.put, List.setIfInBounds_toArray, List.set_cons_succ, List.set_cons_zero]
        refine wpAnyH_take (i := 4) (oi := ⟨some 50, _, _, _, _, _⟩) (v := .slice (some ⟨g, off, none⟩) p c) rfl (by kernel_rfl) (by kernel_rfl) (by kernel_rfl) (fun _ _ _ h => h) (Or.inl ⟨by rfl, fun w' hw' => by go_simp⟩) trivial ?_
        try simp only [Act.put, List.setIfInBounds_toArray, List.set_cons_succ, List.set_cons_zero]
        refine wpAnyH_take (i := 7) (oi := ⟨some 53, _, _, _, _, _⟩) (v := .slice (some ⟨g, off, none⟩) n c) rfl (by kernel_rfl) (by kernel_rfl) (by kernel_rfl) (fun _ _ _ h => h) (Or.inl ⟨by rfl, fun w' hw' => by go_simp⟩) trivial ?_
        try simp only [Act.put, List.setIfInBounds_toArray, List.set_cons_succ, List.set_cons_zero]
        refine wpAnyH_take (i := 8) (oi := ⟨some 54, _, _, _, _, _⟩) (v := .int .i64 (p : Int)) rfl (by kernel_rfl) (by kernel_rfl) (by kernel_rfl) (fun _ _ _ h => h) (Or.inl ⟨by rfl, fun w' hw' => by go_simp⟩) trivial ?_
        try simp only [Act.put, List.setIfInBounds_toArray, List.set_cons_succ, List.set_cons_zero]
        refine wpAnyH_take (i := 9) (oi := ⟨some 55, _, _, _, _, _⟩) (v := .slice (some ⟨g, off + p * 32, none⟩) (n - p) (c - p)) rfl (by kernel_rfl) (by kernel_rfl) (by kernel_rfl) (fun _ _ _ h => h) (Or.inl ⟨by rfl, fun w' hw' => by go_simp⟩) trivial ?_
        try simp only [Act.put, List.setIfInBounds_toArray, List.set_cons_succ, List.set_cons_zero]
        refine wpAnyH_all (rs := [1, 5]) (by kernel_rfl) (by simp) ?_
        intro i hi
        have hi2 : i = 1 ∨ i = 5 := by simpa using hi
        clear hi
        rcases hi2 with rfl | rfl
        · refine wpOp_step (o := ⟨some 47, _, _, _, _, _⟩) rfl (fun K' hK' => ?_)
          rw [if_pos (show Region.wanted _ _ = true from rfl)]
          go_simp
          refine hK' _ _ ⟨trivial, ?_⟩
          clear hK' K'
          try simp only [Act.put, List.setIfInBounds_toArray, List.set_cons_succ, List.set_cons_zero]
          have hg1 : w.heap.size ≤ U0.heap.size := HBU0.out.size
          refine gen_world (P := fun W' => wpAnyH _ _ _ _ _ _ _ _ W') (I := fun V => Below w.heap.size w V ∧ BPart V (.slice (some ⟨g7, 0, none⟩) 65 c7) (2 :: (A ++ B)) ∧ V.ownsRow w.heap.size 22 1 (.slice (some ⟨U0.heap.size, 0, none⟩) 1 1) 1 [.slice (some ⟨g7, 0, none⟩) 65 c7]) _ ⟨HBU0.out.alloc HBU0.out.size _, HVU0.out.below ((Below.refl _ U0).alloc (Nat.le_refl _) _), own_one (Has.fresh _ _ _) hg1⟩ ?_
          rintro U1 ⟨hB, hV, hO⟩
          generalize U0.heap.size = g1 at *
          have HBU1 := Lib.hid hB
          have HVU1 := Lib.hid hV
          have HOU1 := Lib.hid hO
          clear hB hV hO
          refine wpAnyH_all (rs := [5]) (by kernel_rfl) (by simp) ?_
          intro i hi
          obtain rfl : i = 5 := by simpa using hi
          clear hi
          refine wpOp_step (o := ⟨some 51, _, _, _, _, _⟩) rfl (fun K' hK' => ?_)
          rw [if_pos (show Region.wanted _ _ = true from rfl)]
          go_simp
          (with_reducible refine (HM1.out U1 HBU1.out).mono ?_)
          rintro e U2 ⟨gm, cm, vm, rfl, hM, hN, hb⟩
          refine hK' _ _ ⟨trivial, ?_⟩
          clear hK' K'
          try simp only [Act.put, List.setIfInBounds_toArray, List.set_cons_succ, List.set_cons_zero]
          have HBU2 := Lib.hid (HBU1.out.trans (hb.mono HBU1.out.size))
          have HMU2 := Lib.hid (own_low hM HBU1.out.size)
          have HNU2 := Lib.hid hN
          have HOU2 := Lib.hid (own_below HOU1.out hb)
          have HVU2 := Lib.hid (HVU1.out.below hb)
          clear hM hN hb
          refine wpAnyH_all (rs := [6]) (by kernel_rfl) (by simp) ?_
          intro i hi
          obtain rfl : i = 6 := by simpa using hi
          clear hi
          refine wpOp_step (o := ⟨some 52, _, _, _, _, _⟩) rfl (fun K' hK' => ?_)
          rw [if_pos (show Region.wanted _ _ = true from rfl)]
          refine wp_append_own _ _ _ 84 rfl w.heap.size 22 ib (.slice none 0 0) 1 24 Tryd.underlying84 hib hb0 hb1 hb2 rfl (by decide) _ _ _ rfl HOU2.out ⟨gm, 0, none⟩ M1.length cm vm rfl (by rw [Nat.mul_one]; exact HNU2.out.len) (own_news HMU2.out) (brows_one HNU2.out) (by unfold maxLen; omega) (by omega) HBU2.out.size (fun v' y1 hown hgrow _ => ?_)
          have hV2 := HVU2.out.grown HOU2.out hgrow
          have hN2 := HNU2.out.grown HOU2.out hgrow
          have hB2 : Below w.heap.size w y1 := HBU2.out.grown hgrow HBU2.out.size (fun r hr => (HOU2.out.lt r hr).1)
          obtain ⟨a9, c9, rfl, _, _⟩ := own_shape hown
          refine hK' _ _ ⟨trivial, ?_⟩
          clear hK' K'
          try simp only [Act.put, List.setIfInBounds_toArray, List.set_cons_succ, List.set_cons_zero]
          have HBy1 := Lib.hid hB2
          have HOy1 := Lib.hid hown
          have HDy1 : Hid (BRows y1 ([.slice (some ⟨g7, 0, none⟩) 65 c7] ++ vm) ([2 :: (A ++ B)] ++ M1)) := Lib.hid (BRows.append ⟨hV2, trivial⟩ hN2)
          clear hV2 hN2 hB2 hown hgrow
          refine wpAnyH_all (rs := [10]) (by kernel_rfl) (by simp) ?_
          intro i hi
          obtain rfl : i = 10 := by simpa using hi
          clear hi
          refine wpOp_step (o := ⟨some 56, _, _, _, _, _⟩) rfl (fun K' hK' => ?_)
          rw [if_pos (show Region.wanted _ _ = true from rfl)]
          go_simp
          (with_reducible refine (HM2.out y1 HBy1.out).mono ?_)
          rintro e y2 ⟨gk, ck, vk, rfl, hM, hN, hb⟩
          refine hK' _ _ ⟨trivial, ?_⟩
          clear hK' K'
          try simp only [Act.put, List.setIfInBounds_toArray, List.set_cons_succ, List.set_cons_zero]
          have HBy2 := Lib.hid (HBy1.out.trans (hb.mono HBy1.out.size))
          have HPy2 := Lib.hid (own_low hM HBy1.out.size)
          have HRy2 := Lib.hid hN
          have HOy2 := Lib.hid (own_below HOy1.out hb)
          have HDy2 := Lib.hid (HDy1.out.below hb)
          clear hM hN hb
          refine wpAnyH_all (rs := [11]) (by kernel_rfl) (by simp) ?_
          intro i hi
          obtain rfl : i = 11 := by simpa using hi
          clear hi
          refine wpOp_step (o := ⟨some 57, _, _, _, _, _⟩) rfl (fun K' hK' => ?_)
          rw [if_pos (show Region.wanted _ _ = true from rfl)]
          refine wp_append_own _ _ _ 84 rfl w.heap.size 22 ib (.slice none 0 0) 1 24 Tryd.underlying84 hib hb0 hb1 hb2 rfl (by decide) _ _ _ rfl HOy2.out ⟨gk, 0, none⟩ M2.length ck vk rfl (by rw [Nat.mul_one]; exact HRy2.out.len) (own_news HPy2.out) (brows_one HRy2.out) (by unfold maxLen; omega) (by omega) HBy2.out.size (fun v' y3 hown hgrow _ => ?_)
          have hD3 := HDy2.out.grown HOy2.out hgrow
          have hR3 := HRy2.out.grown HOy2.out hgrow
          have hB3 : Below w.heap.size w y3 := HBy2.out.grown hgrow HBy2.out.size (fun r hr => (HOy2.out.lt r hr).1)
          refine hK' _ _ ⟨trivial, ?_⟩
          clear hK' K'
          try simp only [Act.put, List.setIfInBounds_toArray, List.set_cons_succ, List.set_cons_zero]
          refine wpAnyH_take (i := 12) (oi := ⟨some 2, _, _, _, _, _⟩) (v := v') rfl (by kernel_rfl) (by kernel_rfl) (by kernel_rfl) (fun _ _ _ h => h) (Or.inl ⟨by rfl, fun w' hw' => by go_simp⟩) trivial ?_
          try simp only [Act.put, List.setIfInBounds_toArray, List.set_cons_succ, List.set_cons_zero]
          refine wpAnyH_done (by kernel_rfl) ?_ _
          go_wp2
          go_ret
          exact ⟨v', rfl, _, own_cast hown (by rw [HMo.out, List.length_append, List.length_append]; rfl) rfl, by rw [HMo.out]; exact BRows.append hD3 hR3, hB3⟩
        · refine wpOp_step (o := ⟨some 51, _, _, _, _, _⟩) rfl (fun K' hK' => ?_)
          rw [if_pos (show Region.wanted _ _ = true from rfl)]
          go_simp
          (with_reducible refine (HM1.out U0 HBU0.out).mono ?_)
          rintro e U1 ⟨gm, cm, vm, rfl, hM, hN, hb⟩
          refine hK' _ _ ⟨trivial, ?_⟩
          clear hK' K'
          try simp only [Act.put, List.setIfInBounds_toArray, List.set_cons_succ, List.set_cons_zero]
          have HBU1 := Lib.hid (HBU0.out.trans (hb.mono HBU0.out.size))
          have HMU1 := Lib.hid (own_low hM HBU0.out.size)
          have HNU1 := Lib.hid hN
          have HVU1 := Lib.hid (HVU0.out.below hb)
          clear hM hN hb
          refine wpAnyH_all (rs := [1]) (by kernel_rfl) (by simp) ?_
          intro i hi
          obtain rfl : i = 1 := by simpa using hi
          clear hi
          refine wpOp_step (o := ⟨some 47, _, _, _, _, _⟩) rfl (fun K' hK' => ?_)
          rw [if_pos (show Region.wanted _ _ = true from rfl)]
          go_simp
          refine hK' _ _ ⟨trivial, ?_⟩
          clear hK' K'
          try simp only [Act.put, List.setIfInBounds_toArray, List.set_cons_succ, List.set_cons_zero]
          have hg1 : w.heap.size ≤ U1.heap.size := HBU1.out.size
          refine gen_world (P := fun W' => wpAnyH _ _ _ _ _ _ _ _ W') (I := fun V => Below w.heap.size w V ∧ BPart V (.slice (some ⟨g7, 0, none⟩) 65 c7) (2 :: (A ++ B)) ∧ V.ownsRow w.heap.size 22 1 (.slice (some ⟨U1.heap.size, 0, none⟩) 1 1) 1 [.slice (some ⟨g7, 0, none⟩) 65 c7] ∧ V.ownsRow w.heap.size 22 1 (.slice (some ⟨gm, 0, none⟩) M1.length cm) M1.length vm ∧ BRows V vm M1) _ ⟨HBU1.out.alloc HBU1.out.size _, HVU1.out.below ((Below.refl _ U1).alloc (Nat.le_refl _) _), own_one (Has.fresh _ _ _) hg1, HMU1.out.alloc _, HNU1.out.below ((Below.refl _ U1).alloc (Nat.le_refl _) _)⟩ ?_
          rintro U2 ⟨hB, hV, hO, hM, hN⟩
          generalize U1.heap.size = g1 at *
          have HBU2 := Lib.hid hB
          have HVU2 := Lib.hid hV
          have HOU2 := Lib.hid hO
          have HMU2 := Lib.hid hM
          have HNU2 := Lib.hid hN
          clear hB hV hO hM hN
          refine wpAnyH_all (rs := [6]) (by kernel_rfl) (by simp) ?_
          intro i hi
          obtain rfl : i = 6 := by simpa using hi
          clear hi
          refine wpOp_step (o := ⟨some 52, _, _, _, _, _⟩) rfl (fun K' hK' => ?_)
          rw [if_pos (show Region.wanted _ _ = true from rfl)]
          refine wp_append_own _ _ _ 84 rfl w.heap.size 22 ib (.slice none 0 0) 1 24 Tryd.underlying84 hib hb0 hb1 hb2 rfl (by decide) _ _ _ rfl HOU2.out ⟨gm, 0, none⟩ M1.length cm vm rfl (by rw [Nat.mul_one]; exact HNU2.out.len) (own_news HMU2.out) (brows_one HNU2.out) (by unfold maxLen; omega) (by omega) HBU2.out.size (fun v' y1 hown hgrow _ => ?_)
          have hV2 := HVU2.out.grown HOU2.out hgrow
          have hN2 := HNU2.out.grown HOU2.out hgrow
          have hB2 : Below w.heap.size w y1 := HBU2.out.grown hgrow HBU2.out.size (fun r hr => (HOU2.out.lt r hr).1)
          obtain ⟨a9, c9, rfl, _, _⟩ := own_shape hown
          refine hK' _ _ ⟨trivial, ?_⟩
          clear hK' K'
          try simp only [Act.put, List.setIfInBounds_toArray, List.set_cons_succ, List.set_cons_zero]
          have HBy1 := Lib.hid hB2
          have HOy1 := Lib.hid hown
          have HDy1 : Hid (BRows y1 ([.slice (some ⟨g7, 0, none⟩) 65 c7] ++ vm) ([2 :: (A ++ B)] ++ M1)) := Lib.hid (BRows.append ⟨hV2, trivial⟩ hN2)
          clear hV2 hN2 hB2 hown hgrow
          refine wpAnyH_all (rs := [10]) (by kernel_rfl) (by simp) ?_
          intro i hi
          obtain rfl : i = 10 := by simpa using hi
          clear hi
          refine wpOp_step (o := ⟨some 56, _, _, _, _, _⟩) rfl (fun K' hK' => ?_)
          rw [if_pos (show Region.wanted _ _ = true from rfl)]
          go_simp
          (with_reducible refine (HM2.out y1 HBy1.out).mono ?_)
          rintro e y2 ⟨gk, ck, vk, rfl, hM, hN, hb⟩
          refine hK' _ _ ⟨trivial, ?_⟩
          clear hK' K'
          try simp only [Act.put, List.setIfInBounds_toArray, List.set_cons_succ, List.set_cons_zero]
          have HBy2 := Lib.hid (HBy1.out.trans (hb.mono HBy1.out.size))
          have HPy2 := Lib.hid (own_low hM HBy1.out.size)
          have HRy2 := Lib.hid hN
          have HOy2 := Lib.hid (own_below HOy1.out hb)
          have HDy2 := Lib.hid (HDy1.out.below hb)
          clear hM hN hb
          refine wpAnyH_all (rs := [11]) (by kernel_rfl) (by simp) ?_
          intro i hi
          obtain rfl : i = 11 := by simpa using hi
          clear hi
          refine wpOp_step (o := ⟨some 57, _, _, _, _, _⟩) rfl (fun K' hK' => ?_)
          rw [if_pos (show Region.wanted _ _ = true from rfl)]
          refine wp_append_own _ _ _ 84 rfl w.heap.size 22 ib (.slice none 0 0) 1 24 Tryd.underlying84 hib hb0 hb1 hb2 rfl (by decide) _ _ _ rfl HOy2.out ⟨gk, 0, none⟩ M2.length ck vk rfl (by rw [Nat.mul_one]; exact HRy2.out.len) (own_news HPy2.out) (brows_one HRy2.out) (by unfold maxLen; omega) (by omega) HBy2.out.size (fun v' y3 hown hgrow _ => ?_)
          have hD3 := HDy2.out.grown HOy2.out hgrow
          have hR3 := HRy2.out.grown HOy2.out hgrow
          have hB3 : Below w.heap.size w y3 := HBy2.out.grown hgrow HBy2.out.size (fun r hr => (HOy2.out.lt r hr).1)
          refine hK' _ _ ⟨trivial, ?_⟩
          clear hK' K'
          try simp only [Act.put, List.setIfInBounds_toArray, List.set_cons_succ, List.set_cons_zero]
          refine wpAnyH_take (i := 12) (oi := ⟨some 2, _, _, _, _, _⟩) (v := v') rfl (by kernel_rfl) (by kernel_rfl) (by kernel_rfl) (fun _ _ _ h => h) (Or.inl ⟨by rfl, fun w' hw' => by go_simp⟩) trivial ?_
          try simp only [Act.put, List.setIfInBounds_toArray, List.set_cons_succ, List.set_cons_zero]
          refine wpAnyH_done (by kernel_rfl) ?_ _
          go_wp2
          go_ret
          exact ⟨v', rfl, _, own_cast hown (by rw [HMo.out, List.length_append, List.length_append]; rfl) rfl, by rw [HMo.out]; exact BRows.append hD3 hR3, hB3⟩
      clear hK9
      change Code.wp _ (Code.region 9 (mdOps 9) true) _ _ _
      refine wp_region_held (S := fun _ => True) (by kernel_rfl) ?_
      have hsz : (mdOps 9).size = 16 := by kernel_rfl
      rw [hsz]
      clear hsz
      refine gen_world (P := fun W' => wpAnyH _ _ _ _ _ _ _ _ W') (I := fun V => Below w.heap.size w V) _ (Below.refl _ w).drew ?_
      rintro z0 hB
      have HBz0 := Lib.hid hB
      clear hB
      refine wpAnyH_take (i := 0) (oi := ⟨some 34, _, _, _, _, _⟩) (v := .slice (some ⟨g, off, none⟩) n c) rfl (by kernel_rfl) (by kernel_rfl) (by kernel_rfl) (fun _ _ _ h => h) (Or.inl ⟨by rfl, fun w' hw' => by go_simp⟩) trivial ?_
      try simp only [Act.put, List.setIfInBounds_toArray, List.set_cons_succ, List.set_cons_zero]
      refine wpAnyH_take (i := 1) (oi := ⟨some 35, _, _, _, _, _⟩) (v := .int .i64 (p : Int)) rfl (by kernel_rfl) (by kernel_rfl) (by kernel_rfl) (fun _ _ _ h => h) (Or.inl ⟨by rfl, fun w' hw' => by go_simp⟩) trivial ?_
      try simp only [Act.put, List.setIfInBounds_toArray, List.set_cons_succ, List.set_cons_zero]
      refine wpAnyH_take (i := 2) (oi := ⟨some 36, _, _, _, _, _⟩) (v := .slice (some ⟨g, off, none⟩) p c) rfl (by kernel_rfl) (by kernel_rfl) (by kernel_rfl) (fun _ _ _ h => h) (Or.inl ⟨by rfl, fun w' hw' => by go_simp⟩) trivial ?_
      try simp only [Act.put, List.setIfInBounds_toArray, List.set_cons_succ, List.set_cons_zero]
      refine wpAnyH_take (i := 4) (oi := ⟨some 38, _, _, _, _, _⟩) (v := .slice (some ⟨g, off, none⟩) n c) rfl (by kernel_rfl) (by kernel_rfl) (by kernel_rfl) (fun _ _ _ h => h) (Or.inl ⟨by rfl, fun w' hw' => by go_simp⟩) trivial ?_
      try simp only [Act.put, List.setIfInBounds_toArray, List.set_cons_succ, List.set_cons_zero]
      refine wpAnyH_take (i := 5) (oi := ⟨some 39, _, _, _, _, _⟩) (v := .int .i64 (p : Int)) rfl (by kernel_rfl) (by kernel_rfl) (by kernel_rfl) (fun _ _ _ h => h) (Or.inl ⟨by rfl, fun w' hw' => by go_simp⟩) trivial ?_
      try simp only [Act.put, List.setIfInBounds_toArray, List.set_cons_succ, List.set_cons_zero]
      refine wpAnyH_take (i := 6) (oi := ⟨some 40, _, _, _, _, _⟩) (v := .slice (some ⟨g, off + p * 32, none⟩) (n - p) (c - p)) rfl (by kernel_rfl) (by kernel_rfl) (by kernel_rfl) (fun _ _ _ h => h) (Or.inl ⟨by rfl, fun w' hw' => by go_simp⟩) trivial ?_
      try simp only [Act.put, List.setIfInBounds_toArray, List.set_cons_succ, List.set_cons_zero]
      refine wpAnyH_all (rs := [3, 13]) (by kernel_rfl) (by simp) ?_
      intro i hi
      have hi2 : i = 3 ∨ i = 13 := by simpa using hi
      clear hi
      rcases hi2 with rfl | rfl
      · refine wpOp_step (o := ⟨some 37, _, _, _, _, _⟩) rfl (fun K' hK' => ?_)
        rw [if_pos (show Region.wanted _ _ = true from rfl)]
        go_simp
        (with_reducible refine (HL1.out z0 HBz0.out).mono ?_)
        rintro e z1 ⟨rfl, hb⟩
        refine hK' _ _ ⟨trivial, ?_⟩
        clear hK' K'
        try simp only [Act.put, List.setIfInBounds_toArray, List.set_cons_succ, List.set_cons_zero]
        have HBz1 := Lib.hid (HBz0.out.trans (hb.mono HBz0.out.size))
        clear hb
        refine wpAnyH_all (rs := [7, 13]) (by kernel_rfl) (by simp) ?_
        intro i hi
        have hi2 : i = 7 ∨ i = 13 := by simpa using hi
        clear hi
        rcases hi2 with rfl | rfl
        · refine wpOp_step (o := ⟨some 41, _, _, _, _, _⟩) rfl (fun K' hK' => ?_)
          rw [if_pos (show Region.wanted _ _ = true from rfl)]
          go_simp
          (with_reducible refine (HL2.out z1 HBz1.out).mono ?_)
          rintro e z2 ⟨rfl, hb⟩
          refine hK' _ _ ⟨trivial, ?_⟩
          clear hK' K'
          try simp only [Act.put, List.setIfInBounds_toArray, List.set_cons_succ, List.set_cons_zero]
          have HBz2 := Lib.hid (HBz1.out.trans (hb.mono HBz1.out.size))
          clear hb
          refine wpAnyH_all (rs := [8, 13]) (by kernel_rfl) (by simp) ?_
          intro i hi
          have hi2 : i = 8 ∨ i = 13 := by simpa using hi
          clear hi
          rcases hi2 with rfl | rfl
          · refine wpOp_step (o := ⟨some 42, _, _, _, _, _⟩) rfl (fun K' hK' => ?_)
            rw [if_pos (show Region.wanted _ _ = true from rfl)]
            refine opw_slice2 26 i9 _ (arr32 A) (arr32 B) Tryd.underlying49 hi9 hz90 HSa.out HSb.out (by rw [hz91]; decide) (by rw [hz91]; decide) rfl rfl ?_
            refine hK' _ _ ⟨trivial, ?_⟩
            clear hK' K'
            try simp only [Act.put, List.setIfInBounds_toArray, List.set_cons_succ, List.set_cons_zero]
            refine gen_world (P := fun W' => wpAnyH _ _ _ _ _ _ _ _ W') (I := fun V => Below w.heap.size w V ∧ V.ownsRow w.heap.size 26 32 (.slice (some ⟨z2.heap.size, 0, none⟩) 2 2) 2 ([A, B].flatMap cellsOf)) _ ⟨HBz2.out.alloc HBz2.out.size _, own_lit2 A B HLa.out HLb.out HBz2.out.size⟩ ?_
            rintro z3 ⟨hB, hS⟩
            generalize z2.heap.size = g8 at *
            have HBz3 := Lib.hid hB
            have HSz3 := Lib.hid hS
            clear hB hS
            refine wpAnyH_all (rs := [9, 13]) (by kernel_rfl) (by simp) ?_
            intro i hi
            have hi2 : i = 9 ∨ i = 13 := by simpa using hi
            clear hi
            rcases hi2 with rfl | rfl
            · refine wpOp_step (o := ⟨some 43, _, _, _, _, _⟩) rfl (fun K' hK' => ?_)
              rw [if_pos (show Region.wanted _ _ = true from rfl)]
              go_simp
              (with_reducible refine (HJ.out g8 z3 HBz3.out HSz3.out).mono ?_)
              rintro e z4 ⟨g7, c7, rfl, hv, hb⟩
              refine hK' _ _ ⟨trivial, ?_⟩
              clear hK' K'
              try simp only [Act.put, List.setIfInBounds_toArray, List.set_cons_succ, List.set_cons_zero]
              have HBz4 := Lib.hid (HBz3.out.trans (hb.mono HBz3.out.size))
              have HVz4 := Lib.hid hv
              clear hb hv
              refine wpAnyH_take (i := 10) (oi := ⟨some 33, _, _, _, _, _⟩) (v := .tuple #[.agg (arr32 out), .slice (some ⟨g7, 0, none⟩) 65 c7]) rfl (by kernel_rfl) (by kernel_rfl) (by kernel_rfl) (fun _ _ _ h => h) (Or.inl ⟨by rfl, fun w' hw' => by go_simp⟩) trivial ?_
              try simp only [Act.put, List.setIfInBounds_toArray, List.set_cons_succ, List.set_cons_zero]
              refine wpAnyH_take (i := 11) (oi := ⟨some 44, _, _, _, _, _⟩) (v := .agg (arr32 out)) rfl (by kernel_rfl) (by kernel_rfl) (by kernel_rfl) (fun _ _ _ h => h) (Or.inl ⟨by rfl, fun w' hw' => by go_simp⟩) trivial ?_
              try simp only [Act.put, List.setIfInBounds_toArray, List.set_cons_succ, List.set_cons_zero]
              refine wpAnyH_take (i := 12) (oi := ⟨some 45, _, _, _, _, _⟩) (v := .slice (some ⟨g7, 0, none⟩) 65 c7) rfl (by kernel_rfl) (by kernel_rfl) (by kernel_rfl) (fun _ _ _ h => h) (Or.inl ⟨by rfl, fun w' hw' => by go_simp⟩) trivial ?_
              try simp only [Act.put, List.setIfInBounds_toArray, List.set_cons_succ, List.set_cons_zero]
              refine wpAnyH_all (rs := [13]) (by kernel_rfl) (by simp) ?_
              intro i hi
              obtain rfl : i = 13 := by simpa using hi
              clear hi
              refine wpOp_step (o := ⟨some 6, _, _, _, _, _⟩) rfl (fun K' hK' => ?_)
              rw [if_pos (show Region.wanted _ _ = true from rfl)]
              go_simp
              refine hK' _ _ ⟨trivial, ?_⟩
              clear hK' K'
              try simp only [Act.put, List.setIfInBounds_toArray, List.set_cons_succ, List.set_cons_zero]
              have hg6 : w.heap.size ≤ z4.heap.size := HBz4.out.size
              refine gen_world (P := fun W' => wpAnyH _ _ _ _ _ _ _ _ W') (I := fun V => Below w.heap.size w V ∧ Has V z4.heap.size 26 zero32 ∧ BPart V (.slice (some ⟨g7, 0, none⟩) 65 c7) (2 :: (A ++ B))) _ ⟨HBz4.out.alloc HBz4.out.size _, fresh_sum z4, HVz4.out.below ((Below.refl _ z4).alloc (Nat.le_refl _) _)⟩ ?_
              rintro z4a ⟨hB, hA, hV⟩
              generalize z4.heap.size = g6 at *
              have HBz4a := Lib.hid hB
              have HAz4a := Lib.hid hA
              have HVz4a := Lib.hid hV
              clear hB hA hV
              refine wpAnyH_all (rs := [14]) (by kernel_rfl) (by simp) ?_
              intro i hi
              obtain rfl : i = 14 := by simpa using hi
              clear hi
              refine wpOp_step (o := ⟨none, _, _, _, _, _⟩) rfl (fun K' hK' => ?_)
              rw [if_pos (show Region.wanted _ _ = true from rfl)]
              refine opw_store g6 (arr32 out) _ _ HAz4a.out HSo.out HIo.out (arr32_one _) rfl rfl ?_
              refine hK' _ _ ⟨trivial, ?_⟩
              clear hK' K'
              try simp only [Act.put, List.setIfInBounds_toArray, List.set_cons_succ, List.set_cons_zero]
              refine wpAnyH_take (i := 15) (oi := ⟨some 7, _, _, _, _, _⟩) (v := .slice (some ⟨g7, 0, none⟩) 65 c7) rfl (by kernel_rfl) (by kernel_rfl) (by kernel_rfl) (fun _ _ _ h => h) (Or.inl ⟨by rfl, fun w' hw' => by go_simp⟩) trivial ?_
              try simp only [Act.put, List.setIfInBounds_toArray, List.set_cons_succ, List.set_cons_zero]
              refine wpAnyH_done (by kernel_rfl) ?_ _
              exact HNext.out _ _ _ _ _ _ _ _ _ _ _ _ _ _ _ _ _ _ _ _ _ _ _ _ _ _ _ _ _ _ _ _ _ _ _ _ _ _ _ _ _ _ _ _ _ _ _ _ _ _ _ _ _ _ _ g7 c7 _ (below_setRow HBz4a.out hg6 _) (HVz4a.out.setRow (bpart_not_sum HVz4a.out HAz4a.out) _)
            · refine wpOp_step (o := ⟨some 6, _, _, _, _, _⟩) rfl (fun K' hK' => ?_)
              rw [if_pos (show Region.wanted _ _ = true from rfl)]
              go_simp
              refine hK' _ _ ⟨trivial, ?_⟩
              clear hK' K'
              try simp only [Act.put, List.setIfInBounds_toArray, List.set_cons_succ, List.set_cons_zero]
              have hg6 : w.heap.size ≤ z3.heap.size := HBz3.out.size
              refine gen_world (P := fun W' => wpAnyH _ _ _ _ _ _ _ _ W') (I := fun V => Below w.heap.size w V ∧ Has V z3.heap.size 26 zero32 ∧ V.ownsRow w.heap.size 26 32 (.slice (some ⟨g8, 0, none⟩) 2 2) 2 ([A, B].flatMap cellsOf)) _ ⟨HBz3.out.alloc HBz3.out.size _, fresh_sum z3, HSz3.out.alloc _⟩ ?_
              rintro z3a ⟨hB, hA, hS⟩
              generalize z3.heap.size = g6 at *
              have HBz3a := Lib.hid hB
              have HAz3a := Lib.hid hA
              have HSz3a := Lib.hid hS
              clear hB hA hS
              refine wpAnyH_all (rs := [9]) (by kernel_rfl) (by simp) ?_
              intro i hi
              obtain rfl : i = 9 := by simpa using hi
              clear hi
              refine wpOp_step (o := ⟨some 43, _, _, _, _, _⟩) rfl (fun K' hK' => ?_)
              rw [if_pos (show Region.wanted _ _ = true from rfl)]
              go_simp
              (with_reducible refine (HJ.out g8 z3a HBz3a.out HSz3a.out).mono ?_)
              rintro e z4a ⟨g7, c7, rfl, hv, hb⟩
              refine hK' _ _ ⟨trivial, ?_⟩
              clear hK' K'
              try simp only [Act.put, List.setIfInBounds_toArray, List.set_cons_succ, List.set_cons_zero]
              have HBz4a := Lib.hid (HBz3a.out.trans (hb.mono HBz3a.out.size))
              have HVz4a := Lib.hid hv
              have HAz4a := Lib.hid (HAz3a.out.below hb HAz3a.out.lt)
              clear hb hv
              refine wpAnyH_take (i := 10) (oi := ⟨some 33, _, _, _, _, _⟩) (v := .tuple #[.agg (arr32 out), .slice (some ⟨g7, 0, none⟩) 65 c7]) rfl (by kernel_rfl) (by kernel_rfl) (by kernel_rfl) (fun _ _ _ h => h) (Or.inl ⟨by rfl, fun w' hw' => by go_simp⟩) trivial ?_
              try simp only [Act.put, List.setIfInBounds_toArray, List.set_cons_succ, List.set_cons_zero]
              refine wpAnyH_take (i := 11) (oi := ⟨some 44, _, _, _, _, _⟩) (v := .agg (arr32 out)) rfl (by kernel_rfl) (by kernel_rfl) (by kernel_rfl) (fun _ _ _ h => h) (Or.inl ⟨by rfl, fun w' hw' => by go_simp⟩) trivial ?_
              try simp only [Act.put, List.setIfInBounds_toArray, List.set_cons_succ, List.set_cons_zero]
              refine wpAnyH_take (i := 12) (oi := ⟨some 45, _, _, _, _, _⟩) (v := .slice (some ⟨g7, 0, none⟩) 65 c7) rfl (by kernel_rfl) (by kernel_rfl) (by kernel_rfl) (fun _ _ _ h => h) (Or.inl ⟨by rfl, fun w' hw' => by go_simp⟩) trivial ?_
              try simp only [Act.put, List.setIfInBounds_toArray, List.set_cons_succ, List.set_cons_zero]
              refine wpAnyH_all (rs := [14]) (by kernel_rfl) (by simp) ?_
              intro i hi
              obtain rfl : i = 14 := by simpa using hi
              clear hi
              refine wpOp_step (o := ⟨none, _, _, _, _, _⟩) rfl (fun K' hK' => ?_)
              rw [if_pos (show Region.wanted _ _ = true from rfl)]
              refine opw_store g6 (arr32 out) _ _ HAz4a.out HSo.out HIo.out (arr32_one _) rfl rfl ?_
              refine hK' _ _ ⟨trivial, ?_⟩
              clear hK' K'
              try simp only [Act.put, List.setIfInBounds_toArray, List.set_cons_succ, List.set_cons_zero]
              refine wpAnyH_take (i := 15) (oi := ⟨some 7, _, _, _, _, _⟩) (v := .slice (some ⟨g7, 0, none⟩) 65 c7) rfl (by kernel_rfl) (by kernel_rfl) (by kernel_rfl) (fun _ _ _ h => h) (Or.inl ⟨by rfl, fun w' hw' => by go_simp⟩) trivial ?_
              try simp only [Act.put, List.setIfInBounds_toArray, List.set_cons_succ, List.set_cons_zero]
              refine wpAnyH_done (by kernel_rfl) ?_ _
              exact HNext.out _ _ _ _ _ _ _ _ _ _ _ _ _ _ _ _ _ _ _ _ _ _ _ _ _ _ _ _ _ _ _ _ _ _ _ _ _ _ _ _ _ _ _ _ _ _ _ _ _ _ _ _ _ _ _ g7 c7 _ (below_setRow HBz4a.out hg6 _) (HVz4a.out.setRow (bpart_not_sum HVz4a.out HAz4a.out) _)
          · refine wpOp_step (o := ⟨some 6, _, _, _, _, _⟩) rfl (fun K' hK' => ?_)
            rw [if_pos (show Region.wanted _ _ = true from rfl)]
            go_simp
            refine hK' _ _ ⟨trivial, ?_⟩
            clear hK' K'
            try simp only [Act.put, List.setIfInBounds_toArray, List.set_cons_succ, List.set_cons_zero]
            have hg6 : w.heap.size ≤ z2.heap.size := HBz2.out.size
            refine gen_world (P := fun W' => wpAnyH _ _ _ _ _ _ _ _ W') (I := fun V => Below w.heap.size w V ∧ Has V z2.heap.size 26 zero32) _ ⟨HBz2.out.alloc HBz2.out.size _, fresh_sum z2⟩ ?_
            rintro z2a ⟨hB, hA⟩
            generalize z2.heap.size = g6 at *
            have HBz2a := Lib.hid hB
            have HAz2a := Lib.hid hA
            clear hB hA
            refine wpAnyH_all (rs := [8]) (by kernel_rfl) (by simp) ?_
            intro i hi
            obtain rfl : i = 8 := by simpa using hi
            clear hi
            refine wpOp_step (o := ⟨some 42, _, _, _, _, _⟩) rfl (fun K' hK' => ?_)
            rw [if_pos (show Region.wanted _ _ = true from rfl)]
            refine opw_slice2 26 i9 _ (arr32 A) (arr32 B) Tryd.underlying49 hi9 hz90 HSa.out HSb.out (by rw [hz91]; decide) (by rw [hz91]; decide) rfl rfl ?_
            refine hK' _ _ ⟨trivial, ?_⟩
            clear hK' K'
            try simp only [Act.put, List.setIfInBounds_toArray, List.set_cons_succ, List.set_cons_zero]
            refine gen_world (P := fun W' => wpAnyH _ _ _ _ _ _ _ _ W') (I := fun V => Below w.heap.size w V ∧ V.ownsRow w.heap.size 26 32 (.slice (some ⟨z2a.heap.size, 0, none⟩) 2 2) 2 ([A, B].flatMap cellsOf) ∧ Has V g6 26 zero32) _ ⟨HBz2a.out.alloc HBz2a.out.size _, own_lit2 A B HLa.out HLb.out HBz2a.out.size, HAz2a.out.alloc _⟩ ?_
            rintro z3a ⟨hB, hS, hA⟩
            generalize z2a.heap.size = g8 at *
            have HBz3a := Lib.hid hB
            have HSz3a := Lib.hid hS
            have HAz3a := Lib.hid hA
            clear hB hS hA
            refine wpAnyH_all (rs := [9]) (by kernel_rfl) (by simp) ?_
            intro i hi
            obtain rfl : i = 9 := by simpa using hi
            clear hi
            refine wpOp_step (o := ⟨some 43, _, _, _, _, _⟩) rfl (fun K' hK' => ?_)
            rw [if_pos (show Region.wanted _ _ = true from rfl)]
            go_simp
            (with_reducible refine (HJ.out g8 z3a HBz3a.out HSz3a.out).mono ?_)
            rintro e z4a ⟨g7, c7, rfl, hv, hb⟩
            refine hK' _ _ ⟨trivial, ?_⟩
            clear hK' K'
            try simp only [Act.put, List.setIfInBounds_toArray, List.set_cons_succ, List.set_cons_zero]
            have HBz4a := Lib.hid (HBz3a.out.trans (hb.mono HBz3a.out.size))
            have HVz4a := Lib.hid hv
            have HAz4a := Lib.hid (HAz3a.out.below hb HAz3a.out.lt)
            clear hb hv
            refine wpAnyH_take (i := 10) (oi := ⟨some 33, _, _, _, _, _⟩) (v := .tuple #[.agg (arr32 out), .slice (some ⟨g7, 0, none⟩) 65 c7]) rfl (by kernel_rfl) (by kernel_rfl) (by kernel_rfl) (fun _ _ _ h => h) (Or.inl ⟨by rfl, fun w' hw' => by go_simp⟩) trivial ?_
            try simp only [Act.put, List.setIfInBounds_toArray, List.set_cons_succ, List.set_cons_zero]
            refine wpAnyH_take (i := 11) (oi := ⟨some 44, _, _, _, _, _⟩) (v := .agg (arr32 out)) rfl (by kernel_rfl) (by kernel_rfl) (by kernel_rfl) (fun _ _ _ h => h) (Or.inl ⟨by rfl, fun w' hw' => by go_simp⟩) trivial ?_
            try simp only [Act.put, List.setIfInBounds_toArray, List.set_cons_succ, List.set_cons_zero]
            refine wpAnyH_take (i := 12) (oi := ⟨some 45, _, _, _, _, _⟩) (v := .slice (some ⟨g7, 0, none⟩) 65 c7) rfl (by kernel_rfl) (by kernel_rfl) (by kernel_rfl) (fun _ _ _ h => h) (Or.inl ⟨by rfl, fun w' hw' => by go_simp⟩) trivial ?_
            try simp only [Act.put, List.setIfInBounds_toArray, List.set_cons_succ, List.set_cons_zero]
            refine wpAnyH_all (rs := [14]) (by kernel_rfl) (by simp) ?_
            intro i hi
            obtain rfl : i = 14 := by simpa using hi
            clear hi
            refine wpOp_step (o := ⟨none, _, _, _, _, _⟩) rfl (fun K' hK' => ?_)
            rw [if_pos (show Region.wanted _ _ = true from rfl)]
            refine opw_store g6 (arr32 out) _ _ HAz4a.out HSo.out HIo.out (arr32_one _) rfl rfl ?_
            refine hK' _ _ ⟨trivial, ?_⟩
            clear hK' K'
            try simp only [Act.put, List.setIfInBounds_toArray, List.set_cons_succ, List.set_cons_zero]
            refine wpAnyH_take (i := 15) (oi := ⟨some 7, _, _, _, _, _⟩) (v := .slice (some ⟨g7, 0, none⟩) 65 c7) rfl (by kernel_rfl) (by kernel_rfl) (by kernel_rfl) (fun _ _ _ h => h) (Or.inl ⟨by rfl, fun w' hw' => by go_simp⟩) trivial ?_
            try simp only [Act.put, List.setIfInBounds_toArray, List.set_cons_succ, List.set_cons_zero]
            refine wpAnyH_done (by kernel_rfl) ?_ _
            exact HNext.out _ _ _ _ _ _ _ _ _ _ _ _ _ _ _ _ _ _ _ _ _ _ _ _ _ _ _ _ _ _ _ _ _ _ _ _ _ _ _ _ _ _ _ _ _ _ _ _ _ _ _ _ _ _ _ g7 c7 _ (below_setRow HBz4a.out hg6 _) (HVz4a.out.setRow (bpart_not_sum HVz4a.out HAz4a.out) _)
        · refine wpOp_step (o := ⟨some 6, _, _, _, _, _⟩) rfl (fun K' hK' => ?_)
          rw [if_pos (show Region.wanted _ _ = true from rfl)]
          go_simp
          refine hK' _ _ ⟨trivial, ?_⟩
          clear hK' K'
          try simp only [Act.put, List.setIfInBounds_toArray, List.set_cons_succ, List.set_cons_zero]
          have hg6 : w.heap.size ≤ z1.heap.size := HBz1.out.size
          refine gen_world (P := fun W' => wpAnyH _ _ _ _ _ _ _ _ W') (I := fun V => Below w.heap.size w V ∧ Has V z1.heap.size 26 zero32) _ ⟨HBz1.out.alloc HBz1.out.size _, fresh_sum z1⟩ ?_
          rintro z1a ⟨hB, hA⟩
          generalize z1.heap.size = g6 at *
          have HBz1a := Lib.hid hB
          have HAz1a := Lib.hid hA
          clear hB hA
          refine wpAnyH_all (rs := [7]) (by kernel_rfl) (by simp) ?_
          intro i hi
          obtain rfl : i = 7 := by simpa using hi
          clear hi
          refine wpOp_step (o := ⟨some 41, _, _, _, _, _⟩) rfl (fun K' hK' => ?_)
          rw [if_pos (show Region.wanted _ _ = true from rfl)]
          go_simp
          (with_reducible refine (HL2.out z1a HBz1a.out).mono ?_)
          rintro e z2a ⟨rfl, hb⟩
          refine hK' _ _ ⟨trivial, ?_⟩
          clear hK' K'
          try simp only [Act.put, List.setIfInBounds_toArray, List.set_cons_succ, List.set_cons_zero]
          have HBz2a := Lib.hid (HBz1a.out.trans (hb.mono HBz1a.out.size))
          have HAz2a := Lib.hid (HAz1a.out.below hb HAz1a.out.lt)
          clear hb
          refine wpAnyH_all (rs := [8]) (by kernel_rfl) (by simp) ?_
          intro i hi
          obtain rfl : i = 8 := by simpa using hi
          clear hi
          refine wpOp_step (o := ⟨some 42, _, _, _, _, _⟩) rfl (fun K' hK' => ?_)
          rw [if_pos (show Region.wanted _ _ = true from rfl)]
          refine opw_slice2 26 i9 _ (arr32 A) (arr32 B) Tryd.underlying49 hi9 hz90 HSa.out HSb.out (by rw [hz91]; decide) (by rw [hz91]; decide) rfl rfl ?_
          refine hK' _ _ ⟨trivial, ?_⟩
          clear hK' K'
          try simp only [Act.put, List.setIfInBounds_toArray, List.set_cons_succ, List.set_cons_zero]
          refine gen_world (P := fun W' => wpAnyH _ _ _ _ _ _ _ _ W') (I := fun V => Below w.heap.size w V ∧ V.ownsRow w.heap.size 26 32 (.slice (some ⟨z2a.heap.size, 0, none⟩) 2 2) 2 ([A, B].flatMap cellsOf) ∧ Has V g6 26 zero32) _ ⟨HBz2a.out.alloc HBz2a.out.size _, own_lit2 A B HLa.out HLb.out HBz2a.out.size, HAz2a.out.alloc _⟩ ?_
          rintro z3a ⟨hB, hS, hA⟩
          generalize z2a.heap.size = g8 at *
          have HBz3a := Lib.hid hB
          have HSz3a := Lib.hid hS
          have HAz3a := Lib.hid hA
          clear hB hS hA
          refine wpAnyH_all (rs := [9]) (by kernel_rfl) (by simp) ?_
          intro i hi
          obtain rfl : i = 9 := by simpa using hi
          clear hi
          refine wpOp_step (o := ⟨some 43, _, _, _, _, _⟩) rfl (fun K' hK' => ?_)
          rw [if_pos (show Region.wanted _ _ = true from rfl)]
          go_simp
          (with_reducible refine (HJ.out g8 z3a HBz3a.out HSz3a.out).mono ?_)
          rintro e z4a ⟨g7, c7, rfl, hv, hb⟩
          refine hK' _ _ ⟨trivial, ?_⟩
          clear hK' K'
          try simp only [Act.put, List.setIfInBounds_toArray, List.set_cons_succ, List.set_cons_zero]
          have HBz4a := Lib.hid (HBz3a.out.trans (hb.mono HBz3a.out.size))
          have HVz4a := Lib.hid hv
          have HAz4a := Lib.hid (HAz3a.out.below hb HAz3a.out.lt)
          clear hb hv
          refine wpAnyH_take (i := 10) (oi := ⟨some 33, _, _, _, _, _⟩) (v := .tuple #[.agg (arr32 out), .slice (some ⟨g7, 0, none⟩) 65 c7]) rfl (by kernel_rfl) (by kernel_rfl) (by kernel_rfl) (fun _ _ _ h => h) (Or.inl ⟨by rfl, fun w' hw' => by go_simp⟩) trivial ?_
          try simp only [Act.put, List.setIfInBounds_toArray, List.set_cons_succ, List.set_cons_zero]
          refine wpAnyH_take (i := 11) (oi := ⟨some 44, _, _, _, _, _⟩) (v := .agg (arr32 out)) rfl (by kernel_rfl) (by kernel_rfl) (by kernel_rfl) (fun _ _ _ h => h) (Or.inl ⟨by rfl, fun w' hw' => by go_simp⟩) trivial ?_
          try simp only [Act.put, List.setIfInBounds_toArray, List.set_cons_succ, List.set_cons_zero]
          refine wpAnyH_take (i := 12) (oi := ⟨some 45, _, _, _, _, _⟩) (v := .slice (some ⟨g7, 0, none⟩) 65 c7) rfl (by kernel_rfl) (by kernel_rfl) (by kernel_rfl) (fun _ _ _ h => h) (Or.inl ⟨by rfl, fun w' hw' => by go_simp⟩) trivial ?_
          try simp only [Act.put, List.setIfInBounds_toArray, List.set_cons_succ, List.set_cons_zero]
          refine wpAnyH_all (rs := [14]) (by kernel_rfl) (by simp) ?_
          intro i hi
          obtain rfl : i = 14 := by simpa using hi
          clear hi
          refine wpOp_step (o := ⟨none, _, _, _, _, _⟩) rfl (fun K' hK' => ?_)
          rw [if_pos (show Region.wanted _ _ = true from rfl)]
          refine opw_store g6 (arr32 out) _ _ HAz4a.out HSo.out HIo.out (arr32_one _) rfl rfl ?_
          refine hK' _ _ ⟨trivial, ?_⟩
          clear hK' K'
          try simp only [Act.put, List.setIfInBounds_toArray, List.set_cons_succ, List.set_cons_zero]
          refine wpAnyH_take (i := 15) (oi := ⟨some 7, _, _, _, _, _⟩) (v := .slice (some ⟨g7, 0, none⟩) 65 c7) rfl (by kernel_rfl) (by kernel_rfl) (by kernel_rfl) (fun _ _ _ h => h) (Or.inl ⟨by rfl, fun w' hw' => by go_simp⟩) trivial ?_
          try simp only [Act.put, List.setIfInBounds_toArray, List.set_cons_succ, List.set_cons_zero]
          refine wpAnyH_done (by kernel_rfl) ?_ _
          exact HNext.out _ _ _ _ _ _ _ _ _ _ _ _ _ _ _ _ _ _ _ _ _ _ _ _ _ _ _ _ _ _ _ _ _ _ _ _ _ _ _ _ _ _ _ _ _ _ _ _ _ _ _ _ _ _ _ g7 c7 _ (below_setRow HBz4a.out hg6 _) (HVz4a.out.setRow (bpart_not_sum HVz4a.out HAz4a.out) _)
      · refine wpOp_step (o := ⟨some 6, _, _, _, _, _⟩) rfl (fun K' hK' => ?_)
        rw [if_pos (show Region.wanted _ _ = true from rfl)]
        go_simp
        refine hK' _ _ ⟨trivial, ?_⟩
        clear hK' K'
        try simp only [Act.put, List.setIfInBounds_toArray, List.set_cons_succ, List.set_cons_zero]
        have hg6 : w.heap.size ≤ z0.heap.size := HBz0.out.size
        refine gen_world (P := fun W' => wpAnyH _ _ _ _ _ _ _ _ W') (I := fun V => Below w.heap.size w V ∧ Has V z0.heap.size 26 zero32) _ ⟨HBz0.out.alloc HBz0.out.size _, fresh_sum z0⟩ ?_
        rintro z0a ⟨hB, hA⟩
        generalize z0.heap.size = g6 at *
        have HBz0a := Lib.hid hB
        have HAz0a := Lib.hid hA
        clear hB hA
        refine wpAnyH_all (rs := [3]) (by kernel_rfl) (by simp) ?_
        intro i hi
        obtain rfl : i = 3 := by simpa using hi
        clear hi
        refine wpOp_step (o := ⟨some 37, _, _, _, _, _⟩) rfl (fun K' hK' => ?_)
        rw [if_pos (show Region.wanted _ _ = true from rfl)]
        go_simp
        (with_reducible refine (HL1.out z0a HBz0a.out).mono ?_)
        rintro e z1a ⟨rfl, hb⟩
        refine hK' _ _ ⟨trivial, ?_⟩
        clear hK' K'
        try simp only [Act.put, List.setIfInBounds_toArray, List.set_cons_succ, List.set_cons_zero]
        have HBz1a := Lib.hid (HBz0a.out.trans (hb.mono HBz0a.out.size))
        have HAz1a := Lib.hid (HAz0a.out.below hb HAz0a.out.lt)
        clear hb
        refine wpAnyH_all (rs := [7]) (by kernel_rfl) (by simp) ?_
        intro i hi
        obtain rfl : i = 7 := by simpa using hi
        clear hi
        refine wpOp_step (o := ⟨some 41, _, _, _, _, _⟩) rfl (fun K' hK' => ?_)
        rw [if_pos (show Region.wanted _ _ = true from rfl)]
        go_simp
        (with_reducible refine (HL2.out z1a HBz1a.out).mono ?_)
        rintro e z2a ⟨rfl, hb⟩
        refine hK' _ _ ⟨trivial, ?_⟩
        clear hK' K'
        try simp only [Act.put, List.setIfInBounds_toArray, List.set_cons_succ, List.set_cons_zero]
        have HBz2a := Lib.hid (HBz1a.out.trans (hb.mono HBz1a.out.size))
        have HAz2a := Lib.hid (HAz1a.out.below hb HAz1a.out.lt)
        clear hb
        refine wpAnyH_all (rs := [8]) (by kernel_rfl) (by simp) ?_
        intro i hi
        obtain rfl : i = 8 := by simpa using hi
        clear hi
        refine wpOp_step (o := ⟨some 42, _, _, _, _, _⟩) rfl (fun K' hK' => ?_)
        rw [if_pos (show Region.wanted _ _ = true from rfl)]
        refine opw_slice2 26 i9 _ (arr32 A) (arr32 B) Tryd.underlying49 hi9 hz90 HSa.out HSb.out (by rw [hz91]; decide) (by rw [hz91]; decide) rfl rfl ?_
        refine hK' _ _ ⟨trivial, ?_⟩
        clear hK' K'
        try simp only [Act.put, List.setIfInBounds_toArray, List.set_cons_succ, List.set_cons_zero]
        refine gen_world (P := fun W' => wpAnyH _ _ _ _ _ _ _ _ W') (I := fun V => Below w.heap.size w V ∧ V.ownsRow w.heap.size 26 32 (.slice (some ⟨z2a.heap.size, 0, none⟩) 2 2) 2 ([A, B].flatMap cellsOf) ∧ Has V g6 26 zero32) _ ⟨HBz2a.out.alloc HBz2a.out.size _, own_lit2 A B HLa.out HLb.out HBz2a.out.size, HAz2a.out.alloc _⟩ ?_
        rintro z3a ⟨hB, hS, hA⟩
        generalize z2a.heap.size = g8 at *
        have HBz3a := Lib.hid hB
        have HSz3a := Lib.hid hS
        have HAz3a := Lib.hid hA
        clear hB hS hA
        refine wpAnyH_all (rs := [9]) (by kernel_rfl) (by simp) ?_
        intro i hi
        obtain rfl : i = 9 := by simpa using hi
        clear hi
        refine wpOp_step (o := ⟨some 43, _, _, _, _, _⟩) rfl (fun K' hK' => ?_)
        rw [if_pos (show Region.wanted _ _ = true from rfl)]
        go_simp
        (with_reducible refine (HJ.out g8 z3a HBz3a.out HSz3a.out).mono ?_)
        rintro e z4a ⟨g7, c7, rfl, hv, hb⟩
        refine hK' _ _ ⟨trivial, ?_⟩
        clear hK' K'
        try simp only [Act.put, List.setIfInBounds_toArray, List.set_cons_succ, List.set_cons_zero]
        have HBz4a := Lib.hid (HBz3a.out.trans (hb.mono HBz3a.out.size))
        have HVz4a := Lib.hid hv
        have HAz4a := Lib.hid (HAz3a.out.below hb HAz3a.out.lt)
        clear hb hv
        refine wpAnyH_take (i := 10) (oi := ⟨some 33, _, _, _, _, _⟩) (v := .tuple #[.agg (arr32 out), .slice (some ⟨g7, 0, none⟩) 65 c7]) rfl (by kernel_rfl) (by kernel_rfl) (by kernel_rfl) (fun _ _ _ h => h) (Or.inl ⟨by rfl, fun w' hw' => by go_simp⟩) trivial ?_
        try simp only [Act.put, List.setIfInBounds_toArray, List.set_cons_succ, List.set_cons_zero]
        refine wpAnyH_take (i := 11) (oi := ⟨some 44, _, _, _, _, _⟩) (v := .agg (arr32 out)) rfl (by kernel_rfl) (by kernel_rfl) (by kernel_rfl) (fun _ _ _ h => h) (Or.inl ⟨by rfl, fun w' hw' => by go_simp⟩) trivial ?_
        try simp only [Act.put, List.setIfInBounds_toArray, List.set_cons_succ, List.set_cons_zero]
        refine wpAnyH_take (i := 12) (oi := ⟨some 45, _, _, _, _, _⟩) (v := .slice (some ⟨g7, 0, none⟩) 65 c7) rfl (by kernel_rfl) (by kernel_rfl) (by kernel_rfl) (fun _ _ _ h => h) (Or.inl ⟨by rfl, fun w' hw' => by go_simp⟩) trivial ?_
        try simp only [Act.put, List.setIfInBounds_toArray, List.set_cons_succ, List.set_cons_zero]
        refine wpAnyH_all (rs := [14]) (by kernel_rfl) (by simp) ?_
        intro i hi
        obtain rfl : i = 14 := by simpa using hi
        clear hi
        refine wpOp_step (o := ⟨none, _, _, _, _, _⟩) rfl (fun K' hK' => ?_)
        rw [if_pos (show Region.wanted _ _ = true from rfl)]
        refine opw_store g6 (arr32 out) _ _ HAz4a.out HSo.out HIo.out (arr32_one _) rfl rfl ?_
        refine hK' _ _ ⟨trivial, ?_⟩
        clear hK' K'
        try simp only [Act.put, List.setIfInBounds_toArray, List.set_cons_succ, List.set_cons_zero]
        refine wpAnyH_take (i := 15) (oi := ⟨some 7, _, _, _, _, _⟩) (v := .slice (some ⟨g7, 0, none⟩) 65 c7) rfl (by kernel_rfl) (by kernel_rfl) (by kernel_rfl) (fun _ _ _ h => h) (Or.inl ⟨by rfl, fun w' hw' => by go_simp⟩) trivial ?_
        try simp only [Act.put, List.setIfInBounds_toArray, List.set_cons_succ, List.set_cons_zero]
        refine wpAnyH_done (by kernel_rfl) ?_ _
        exact HNext.out _ _ _ _ _ _ _ _ _ _ _ _ _ _ _ _ _ _ _ _ _ _ _ _ _ _ _ _ _ _ _ _ _ _ _ _ _ _ _ _ _ _ _ _ _ _ _ _ _ _ _ _ _ _ _ g7 c7 _ (below_setRow HBz4a.out hg6 _) (HVz4a.out.setRow (bpart_not_sum HVz4a.out HAz4a.out) _)
end Go.Proofs.YtffdkniahdekjaaDoor
end
section
namespace Go.Proofs.YtffdkniahdekjaaDoor
open Go.RowKit Go.Hoar
set_option maxHeartbeats 1000000 in
theorem refRight_any (a : Option Addr) (n c : Nat) (long : Int) (w : World) (_hn : n ≤ 140737488355328) (_hl : -9223372036854775808 ≤ long) :
    Calls Tryd.prog 62 #[.slice a n c, .int .i64 long] w fun e w' => e = .returned (.bool (decide (Sound n long))) ∧ w = w' := by
  by_cases h0 : 0 ≤ long
  · by_cases h1 : long ≤ 1099511627776
    · by_cases h2 : (n : Int) = long % 64
      · have hd : decide (Sound n long) = true := decide_eq_true ⟨h0, h1, h2⟩
        rw [hd]
        have HE : Hid ((n : Int) = long % 64) := Lib.hid h2
        have hb : ((n : Int) == long % 64) = true := by rw [beq_iff_eq]; exact h2
        clear hd h2
        go_enter Tryd.func62, Tryd.ntmps62
        go_wp2
        go_ret
        exact ⟨rfl, rfl⟩
      · have hd : decide (Sound n long) = false := decide_eq_false (fun h => h2 h.2.2)
        rw [hd]
        have hb : ((n : Int) == long % 64) = false := by rw [beq_eq_false_iff_ne]; exact h2
        clear hd
        go_enter Tryd.func62, Tryd.ntmps62
        go_wp2
        go_ret
        exact ⟨rfl, rfl⟩
    · have hd : decide (Sound n long) = false := decide_eq_false (fun h => h1 h.2.1)
      rw [hd]
      clear hd
      go_enter Tryd.func62, Tryd.ntmps62
      go_wp2
      go_ret
      exact ⟨rfl, rfl⟩
  · have hd : decide (Sound n long) = false := decide_eq_false (fun h => h0 h.1)
    rw [hd]
    clear hd
    go_enter Tryd.func62, Tryd.ntmps62
    go_wp2
    go_ret
    exact ⟨rfl, rfl⟩
set_option maxRecDepth 100000 in
set_option maxHeartbeats 1000000 in
theorem refDone_any (h rb : List Nat) (ra : Option Addr) (rc : Nat) (long : Int) (w : World) (hh : h.length = 8) (hw : Sha.Words h) (hr : PartOk w ra rc rb) (hrb : Sha.Bytes rb) (hrl : rb.length ≤ 140737488340000) (hl : -9223372036854775808 ≤ long) (out : List Nat) (hout : Hid (out = Sha.ended h rb long.toNat)) :
    Calls Tryd.prog 23 #[.agg (w8 h), .slice ra rb.length rc, .int .i64 long] w fun e w' => e = .returned (.tuple (if Sound rb.length long then #[.agg (arr32 out), .int .i64 0] else #[.agg (arr32 []), .int .i64 14])) ∧ Below w.heap.size w w' := by
  have HI := Lib.hid (w8_info h hh)
  have HRt := Lib.hid fun V : World => refRight_any ra rb.length rc long V (by omega) hl
  by_cases hs : Sound rb.length long
  · rw [if_pos hs]
    rw [decide_eq_true hs] at HRt
    obtain ⟨L, rfl⟩ : ∃ L : Nat, long = (L : Int) := ⟨long.toNat, by have := hs.1; omega⟩
    have hol : out.length = 32 := by rw [hout.out, Sha.ended, bytes_length, Sha.all, Sha.takes_length, hh]
    have hE : ∀ V : World, Below w.heap.size w V → Calls Tryd.prog 60 #[.agg (w8 h), .slice ra rb.length rc, .int .i64 (L : Int)] V fun e w' => e = .returned (.agg (arr32 out)) ∧ Below V.heap.size V w' := fun V hV => by
      have h3 := hs.2.1
      have h4 := hs.2.2
      rw [hout.out, Int.toNat_natCast]
      exact refEnded_any h rb L ra rc V hh hw (by omega) hrb hrl (by omega) (hr.below hV)
    have HE := Lib.hid hE
    have HIO := Lib.hid (arr32_info out (by omega))
    have HSO := Lib.hid ((arr32_size [] (by simp)).trans (arr32_size out (by omega)).symm)
    clear hE hs hr
    go_enter Tryd.func23, Tryd.ntmps23
    go_upto_region 1 with (fail)
    refine gen_world (P := fun W => Code.wp _ _ _ _ W) (I := fun W => Below w.heap.size w W ∧ Has W w.heap.size 31 (w8 h) ∧ Has W (w.heap.size + 1) 26 (arr32 [])) _ ⟨((Below.refl _ w).alloc (Nat.le_refl _) _).alloc (by simp) _, (Has.fresh_at _ _ _ _ rfl).alloc _, Has.fresh_at _ _ _ _ (by simp)⟩ ?_
    rintro W ⟨hB, hH, hR⟩
    have HB := Lib.hid hB
    have HH := Lib.hid hH
    have HR := Lib.hid hR
    clear hB hH hR
    go_wp2_with (first
      | (go_at_call 62; (with_reducible refine (HRt.out _).mono ?_); rintro e w1 ⟨rfl, rfl⟩)
      | ((with_reducible refine arm_load ⟨w.heap.size, 0, none⟩ (w8 h) _ HH.out.row Tryd.underlying31 HI.out ?h1 ?h2 ?_); (case h1 => rfl); (case h2 => rfl))
      | (go_at_call 60; (with_reducible refine (HE.out _ HB.out).mono ?_); rintro e w2 ⟨rfl, hb2⟩; have HB2 := Lib.hid (HB.out.trans (hb2.mono HB.out.size)); have HR2 := Lib.hid (HR.out.below hb2 HR.out.lt); clear hb2)
      | ((with_reducible refine arm_store (w.heap.size + 1) (arr32 out) _ _ HR2.out HSO.out HIO.out (arr32_one _) ?h5 ?h6 ?_); (case h5 => rfl); (case h6 => rfl)))
    exact bodyPost_ret (results_row_tmp rfl _ _ (w.heap.size + 1) 26 (arr32 out) (0, 0) _ rfl HR2.out.setRow rfl Tryd.underlying26 HIO.out) rfl ⟨rfl, below_setRow HB2.out (by omega) _⟩
  · rw [if_neg hs]
    have hz : arr32 [] = zero32 := rfl
    rw [hz]
    rw [decide_eq_false hs] at HRt
    have HIO := Lib.hid (arr32_info [] (by simp))
    clear hs hr
    go_enter Tryd.func23, Tryd.ntmps23
    go_upto_region 1 with (fail)
    refine gen_world (P := fun W => Code.wp _ _ _ _ W) (I := fun W => Below w.heap.size w W ∧ Has W (w.heap.size + 1) 26 (arr32 [])) _ ⟨((Below.refl _ w).alloc (Nat.le_refl _) _).alloc (by simp) _, Has.fresh_at _ _ _ _ (by simp)⟩ ?_
    rintro W ⟨hB, hR⟩
    have HB := Lib.hid hB
    have HR := Lib.hid hR
    clear hB hR
    rw [hz] at HIO HR
    have HO : Hid (zero32.all (·.oneCell') = true) := Lib.hid (by rw [← hz]; exact arr32_one _)
    clear hz
    go_wp2_with (first
      | (go_at_call 62; (with_reducible refine (HRt.out _).mono ?_); rintro e w1 ⟨rfl, rfl⟩)
      | ((with_reducible refine arm_store (w.heap.size + 1) zero32 _ _ HR.out rfl HIO.out HO.out ?h5 ?h6 ?_); (case h5 => rfl); (case h6 => rfl)))
    exact bodyPost_ret (results_row_tmp rfl _ _ (w.heap.size + 1) 26 zero32 (0, 0) _ rfl HR.out.setRow rfl Tryd.underlying26 HIO.out) rfl ⟨rfl, below_setRow HB.out (by omega) _⟩
end Go.Proofs.YtffdkniahdekjaaDoor
end
