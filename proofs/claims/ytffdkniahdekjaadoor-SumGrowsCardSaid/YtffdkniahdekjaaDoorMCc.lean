/-
  THE LAWS' Clash: true, if among some lists of bytes are two unlike ones with one digest.
  · THE LAWS' made: the lists of bytes that are made for the digest of a list.
  · THE LAWS' made, of a list of any length.
  · A REGION THAT DRAWS ITS ORDER, WALKED ONCE OVER ALL WORLDS THAT MAY COME: loads, calls and values, guarded or not.
-/
import Derived.Test.YtffdkniahdekjaaDoorMCb
import Derived.Test.YtffdkniahdekjaaDoorMCa
import Derived.Test.YtffdkniahdekjaaDoorMBl
import Derived.Test.YtffdkniahdekjaaDoorMBc
import Derived.BigQuiet
import Derived.Test.YtffdkniahdekjaaDoorMBi
section
namespace Go.Hoar
open Go Go.RowKit
theorem opw_slice2 {P : Program} {a : Act} {w : World} {K : Act → World → Prop} {Q : Exit → Act → World → Prop} {dst : Option Tmp} {t T : TypeId} {x0 x1 : Operand} {pos : String} {af : Array Edge}
    (e : TypeId) (ie : TypeInfo) (z : Value) (c0 c1 : Array Value) (hu : P.underlying t = some (.slice e)) (hie : P.info? e = some ie) (hz : ie.zero = some z) (h0 : c0.size = ie.size) (h1 : c1.size = ie.size) (hsmall : 2 * ie.size ≤ 1000) (hpos : 0 < 2 * ie.size)
    (e0 : a.eval x0 = .agg c0) (e1 : a.eval x1 = .agg c1) (h : K (a.put dst (.slice (some ⟨w.heap.size, 0, none⟩) 2 2)) (w.alloc (.cells ([c0, c1].flatMap Array.toList).toArray e))) :
    Oper.wp P ⟨dst, .buildSlice t 2 #[(0, x0), (1, x1)], T, pos, af, none⟩ a w K Q :=
  opw_slices e ie z [c0, c1] hu hie hz (fun c hc => by
    simp only [List.mem_cons, List.not_mem_nil, or_false] at hc
    rcases hc with rfl | rfl
    · exact h0
    · exact h1) rfl hsmall hpos (by simp [e0, e1, List.zipIdx]) h
end Go.Hoar
namespace Go.Proofs.YtffdkniahdekjaaDoor
open Go.RowKit Go.Hoar
noncomputable def mdOps (k : Nat) : Array Oper := (Tryd.f54.body.bind (opsAt k)).getD #[]
theorem own_low {w : World} {base base' n : Nat} {e : TypeId} {size : Nat} {v : Value} {xs : List Value} (h : w.ownsRow base' e size v n xs) (hb : base ≤ base') : w.ownsRow base e size v n xs := by
  refine ⟨h.1, ?_⟩
  rcases h.2 with h2 | ⟨g, cap, cur, h3, h4, h5⟩
  · exact .inl h2
  · exact .inr ⟨g, cap, cur, h3, Nat.le_trans hb h4, h5⟩
theorem bpart_not_sum {w : World} {v : Value} {b : List Nat} {g : Nat} {cs : Array Value} (h : BPart w v b) (hh : Has w g 26 cs) : v.ownBlock ≠ some g := by
  obtain ⟨g7, c, ds, rfl, h7, _⟩ := h
  intro e
  obtain rfl : g7 = g := Option.some.inj e
  have h1 : w.heap[g7]? = some (.cells ds 5 (0, 0)) := h7
  have h2 : w.heap[g7]? = some (.cells cs 26 (0, 0)) := hh
  rw [h1] at h2
  injection h2 with h2
  injection h2 with _ h2
  exact absurd h2 (by decide)
theorem own_lit2 (A B : List Nat) (ha : A.length = 32) (hb : B.length = 32) {V : World} {base : Nat} (h : base ≤ V.heap.size) : (V.alloc (.cells ([arr32 A, arr32 B].flatMap Array.toList).toArray 26)).ownsRow base 26 32 (.slice (some ⟨V.heap.size, 0, none⟩) 2 2) 2 ([A, B].flatMap cellsOf) := by
  have e : ([A, B].flatMap cellsOf) = ([arr32 A, arr32 B].flatMap Array.toList).toArray.toList := by simp [cellsOf]
  rw [e]
  refine World.ownsRow_lit _ _ 2 h (by decide) ?_
  have h1 := arr32_size A (by omega)
  have h2 := arr32_size B (by omega)
  simp [h1, h2]
theorem own_lit1 (A : List Nat) (ha : A.length = 32) {V : World} {base : Nat} (h : base ≤ V.heap.size) : (V.alloc (.cells (arr32 A) 26)).ownsRow base 26 32 (.slice (some ⟨V.heap.size, 0, none⟩) 1 1) 1 ([A].flatMap cellsOf) := by
  have e : ([A].flatMap cellsOf) = (arr32 A).toList := by simp [cellsOf]
  rw [e]
  refine World.ownsRow_lit _ _ 1 h (by decide) ?_
  rw [arr32_size A (by omega)]
theorem row_lit {V : World} {base g n c : Nat} {ls : List (List Nat)} (h : V.ownsRow base 26 32 (.slice (some ⟨g, 0, none⟩) n c) n (ls.flatMap cellsOf)) (hok : SumsOk ls) (hn : ls.length = n) : RowOk V (some ⟨g, 0, none⟩) c ls := by
  obtain ⟨a, c', e, hr, _⟩ := row_of_own h hok hn
  injection e with e1 _ e2
  subst e1
  subst e2
  exact hr
/-- joined of one digest, and of two. -/
theorem joined_lit (first : Nat) (hf : first < 256) (ls : List (List Nat)) (hok : SumsOk ls) (n : Nat) (hn : ls.length = n) (hs : n ≤ 100) (g c base : Nat) (V : World) (h : V.ownsRow base 26 32 (.slice (some ⟨g, 0, none⟩) n c) n (ls.flatMap cellsOf)) (hc : ConstAt V) (m : Nat) (hm : m = 1 + 32 * n) :
    Calls Tryd.prog 86 #[.int .u8 (first : Int), .slice (some ⟨g, 0, none⟩) n c] V fun e w' => ∃ g7 c7, e = .returned (.tuple #[.agg (arr32 (Sha.sha (first :: ls.flatten))), .slice (some ⟨g7, 0, none⟩) m c7]) ∧ BPart w' (.slice (some ⟨g7, 0, none⟩) m c7) (first :: ls.flatten) ∧ Below V.heap.size V w' := by
  have hr := row_lit h hok hn
  subst hn
  refine (joined_any first hf ls hok hs _ c V hr hc _ (Lib.hid rfl)).mono ?_
  rintro e w' ⟨v, rfl, hv, _, hb⟩
  have hlen : (first :: ls.flatten).length = m := by rw [List.length_cons, (flat32 hok).1, hm]; omega
  obtain ⟨g7, c7, rfl, _, _, _⟩ := hv.part
  rw [hlen] at hv ⊢
  exact ⟨g7, c7, rfl, hv, hb⟩
theorem madeOf_len : ∀ (f : Nat) (ls : List (List Nat)), ls.length ≤ 1000000 → (madeOf f ls).length ≤ if ls.length = 0 then 1 else 2 * ls.length - 1
  | 0, _, _ => by rw [madeOf]; simp
  | f + 1, [], _ => by rw [madeOf]; simp
  | f + 1, [x], _ => by rw [madeOf]; simp
  | f + 1, x :: y :: r, hb => by
    have hl : (x :: y :: r).length = r.length + 2 := rfl
    obtain ⟨_, b2, _⟩ := halfOf_bounds (n := r.length + 2) (by omega) (by omega)
    have b1 := halfOf_pos (r.length + 2)
    have hm := madeOf_many f (x :: y :: r) (by omega)
    rw [hl] at hm
    generalize halfOf (r.length + 2) = q at *
    have l1 : ((x :: y :: r).take q).length = q := by rw [List.length_take]; omega
    have l2 : ((x :: y :: r).drop q).length = r.length + 2 - q := by rw [List.length_drop]; rfl
    have h1 := madeOf_len f ((x :: y :: r).take q) (by omega)
    have h2 := madeOf_len f ((x :: y :: r).drop q) (by omega)
    rw [l1, if_neg (by omega)] at h1
    rw [l2, if_neg (by omega)] at h2
    rw [hm, hl, if_neg (by omega), List.length_append, List.length_cons]
    omega
theorem madeOf_pos (f : Nat) (ls : List (List Nat)) : 0 < (madeOf (f + 1) ls).length := List.length_pos_of_mem (headOf_mem f ls)
def MadeOk (f : Nat) : Prop := ∀ (ls : List (List Nat)) (a : Option Addr) (c : Nat) (w : World), ls.length < f → ls.length ≤ 100 → SumsOk ls → RowOk w a c ls → ConstAt w →
    Calls Tryd.prog 54 #[.slice a ls.length c] w fun e w' => ∃ v vals, e = .returned v ∧ w'.ownsRow w.heap.size 22 1 v (madeOf f ls).length vals ∧ BRows w' vals (madeOf f ls) ∧ Below w.heap.size w w'
set_option maxRecDepth 100000 in
set_option maxHeartbeats 6000000 in
theorem made_many (f : Nat) (ih : MadeOk f) (ls : List (List Nat)) (n : Nat) (hnl : n = ls.length) (h2 : 2 ≤ n) (hn : n ≤ 100) (hf : n < f + 1) (hok : SumsOk ls) (g off c : Nat) (w : World) (hs : SumsAt w g off ls) (hg : g < w.heap.size) (hnc : n ≤ c) (hcm : c ≤ maxLen) (hc : ConstAt w) :
    Calls Tryd.prog 54 #[.slice (some ⟨g, off, none⟩) n c] w fun e w' => ∃ v vals, e = .returned v ∧ w'.ownsRow w.heap.size 22 1 v (madeOf (f + 1) ls).length vals ∧ BRows w' vals (madeOf (f + 1) ls) ∧ Below w.heap.size w w' := by
  obtain ⟨i9, hi9, hz90, hz91, _⟩ := info_parts sumInfo3
  obtain ⟨ib, hib, hb0, hb1, hb2⟩ := info_parts bytesInfo3
  obtain ⟨q, hq⟩ : ∃ q, q = halfOf n := ⟨_, rfl⟩
  obtain ⟨_, b2, _⟩ := halfOf_bounds (n := n) h2 (by omega)
  have b1 := halfOf_pos n
  rw [← hq] at b1 b2
  have l1 : (ls.take q).length = q := by rw [List.length_take]; omega
  have l2 : (ls.drop q).length = n - q := by rw [List.length_drop, hnl]
  obtain ⟨A, hA⟩ : ∃ A, A = rootOf (ls.take q) := ⟨_, rfl⟩
  obtain ⟨B, hB⟩ : ∃ B, B = rootOf (ls.drop q) := ⟨_, rfl⟩
  have hAl : A.length = 32 ∧ Sha.Bytes A := by rw [hA]; exact rootOf_len _
  have hBl : B.length = 32 ∧ Sha.Bytes B := by rw [hB]; exact rootOf_len _
  obtain ⟨M1, hM1⟩ : ∃ M, M = madeOf f (ls.take q) := ⟨_, rfl⟩
  obtain ⟨M2, hM2⟩ : ∃ M, M = madeOf f (ls.drop q) := ⟨_, rfl⟩
  have hmo : madeOf (f + 1) ls = ([2 :: (A ++ B)] ++ M1) ++ M2 := by rw [madeOf_many f ls (by omega), ← hnl, ← hq, ← hA, ← hB, ← hM1, ← hM2]; rfl
  have hm1 : M1.length ≤ 200 := by have := madeOf_len f (ls.take q) (by omega); rw [← hM1, l1, if_neg (by omega)] at this; omega
  have hm2 : M2.length ≤ 200 := by have := madeOf_len f (ls.drop q) (by omega); rw [← hM2, l2, if_neg (by omega)] at this; omega
  obtain ⟨f', rfl⟩ : ∃ f', f = f' + 1 := ⟨f - 1, by omega⟩
  have hp1 : 0 < M1.length := by rw [hM1]; exact madeOf_pos _ _
  have hp2 : 0 < M2.length := by rw [hM2]; exact madeOf_pos _ _
  unfold maxLen at hcm
  have r1 : ∀ V, Below w.heap.size w V → RowOk V (some ⟨g, off, none⟩) c (ls.take q) := fun V hV => .inr ⟨g, off, rfl, Nat.lt_of_lt_of_le hg hV.size, (hs.below hg hV).take q, by omega, by unfold maxLen; omega⟩
  have r2 : ∀ V, Below w.heap.size w V → RowOk V (some ⟨g, off + q * 32, none⟩) (c - q) (ls.drop q) := fun V hV => .inr ⟨g, off + q * 32, rfl, Nat.lt_of_lt_of_le hg hV.size, (hs.below hg hV).drop q, by omega, by unfold maxLen; omega⟩
  have HL1 : Hid (∀ V : World, Below w.heap.size w V → Calls Tryd.prog 33 #[.slice (some ⟨g, off, none⟩) q c] V fun e w' => e = .returned (.agg (arr32 A)) ∧ Below V.heap.size V w') := Lib.hid fun V hV => by
    have h : Calls Tryd.prog 33 #[.slice (some ⟨g, off, none⟩) (ls.take q).length c] V fun e w' => e = .returned (.agg (arr32 (rootOf (ls.take q)))) ∧ (rootOf (ls.take q)).length = 32 ∧ Below V.heap.size V w' := listAll_any (ls.take q) V _ c (r1 V hV) (by omega) (hc.below hV rfl)
    rw [← hA, l1] at h
    exact h.mono fun e w' k => ⟨k.1, k.2.2⟩
  have HL2 : Hid (∀ V : World, Below w.heap.size w V → Calls Tryd.prog 33 #[.slice (some ⟨g, off + q * 32, none⟩) (n - q) (c - q)] V fun e w' => e = .returned (.agg (arr32 B)) ∧ Below V.heap.size V w') := Lib.hid fun V hV => by
    have h : Calls Tryd.prog 33 #[.slice (some ⟨g, off + q * 32, none⟩) (ls.drop q).length (c - q)] V fun e w' => e = .returned (.agg (arr32 (rootOf (ls.drop q)))) ∧ (rootOf (ls.drop q)).length = 32 ∧ Below V.heap.size V w' := listAll_any (ls.drop q) V _ (c - q) (r2 V hV) (by omega) (hc.below hV rfl)
    rw [← hB, l2] at h
    exact h.mono fun e w' k => ⟨k.1, k.2.2⟩
  have HM1 : Hid (∀ V : World, Below w.heap.size w V → Calls Tryd.prog 54 #[.slice (some ⟨g, off, none⟩) q c] V fun e w' => ∃ gm cm vm, e = .returned (.slice (some ⟨gm, 0, none⟩) M1.length cm) ∧ w'.ownsRow V.heap.size 22 1 (.slice (some ⟨gm, 0, none⟩) M1.length cm) M1.length vm ∧ BRows w' vm M1 ∧ Below V.heap.size V w') := Lib.hid fun V hV => by
    have h := ih (ls.take q) _ c V (by omega) (by omega) (fun l hl => hok l (List.mem_of_mem_take hl)) (r1 V hV) (hc.below hV rfl)
    rw [← hM1, l1] at h
    refine h.mono ?_
    rintro e w' ⟨v, vals, rfl, ho, hr, hb⟩
    obtain ⟨a, cm, rfl, _, _⟩ := own_shape ho
    obtain ⟨gm, rfl, _, _⟩ := own_addr ho hp1
    exact ⟨gm, cm, vals, rfl, ho, hr, hb⟩
  have HM2 : Hid (∀ V : World, Below w.heap.size w V → Calls Tryd.prog 54 #[.slice (some ⟨g, off + q * 32, none⟩) (n - q) (c - q)] V fun e w' => ∃ gm cm vm, e = .returned (.slice (some ⟨gm, 0, none⟩) M2.length cm) ∧ w'.ownsRow V.heap.size 22 1 (.slice (some ⟨gm, 0, none⟩) M2.length cm) M2.length vm ∧ BRows w' vm M2 ∧ Below V.heap.size V w') := Lib.hid fun V hV => by
    have h := ih (ls.drop q) _ (c - q) V (by omega) (by omega) (fun l hl => hok l (List.mem_of_mem_drop hl)) (r2 V hV) (hc.below hV rfl)
    rw [← hM2, l2] at h
    refine h.mono ?_
    rintro e w' ⟨v, vals, rfl, ho, hr, hb⟩
    obtain ⟨a, cm, rfl, _, _⟩ := own_shape ho
    obtain ⟨gm, rfl, _, _⟩ := own_addr ho hp2
    exact ⟨gm, cm, vals, rfl, ho, hr, hb⟩
  obtain ⟨out, hout⟩ : ∃ out, out = Sha.sha (2 :: (A ++ B)) := ⟨_, rfl⟩
  have hol : out.length = 32 := by rw [hout]; exact (sha_bytes _).1
  have HJ : Hid (∀ (g8 : Nat) (V : World), Below w.heap.size w V → V.ownsRow w.heap.size 26 32 (.slice (some ⟨g8, 0, none⟩) 2 2) 2 ([A, B].flatMap cellsOf) → Calls Tryd.prog 86 #[.int .u8 2, .slice (some ⟨g8, 0, none⟩) 2 2] V fun e w' => ∃ g7 c7, e = .returned (.tuple #[.agg (arr32 out), .slice (some ⟨g7, 0, none⟩) 65 c7]) ∧ BPart w' (.slice (some ⟨g7, 0, none⟩) 65 c7) (2 :: (A ++ B)) ∧ Below V.heap.size V w') := Lib.hid fun g8 V hV ho => by
    have h := joined_lit 2 (by decide) [A, B] (fun l hl => by
      simp only [List.mem_cons, List.not_mem_nil, or_false] at hl
      rcases hl with rfl | rfl
      · exact hAl
      · exact hBl) 2 rfl (by decide) g8 2 w.heap.size V ho (hc.below hV rfl) 65 rfl
    have e : [A, B].flatten = A ++ B := by simp
    rw [e, ← hout] at h
    exact h
  have HMo := Lib.hid hmo
  have HLa := Lib.hid hAl.1
  have HLb := Lib.hid hBl.1
  have HSa : Hid ((arr32 A).size = i9.size) := Lib.hid (by rw [hz91]; exact arr32_size A (by omega))
  have HSb : Hid ((arr32 B).size = i9.size) := Lib.hid (by rw [hz91]; exact arr32_size B (by omega))
  have HIo := Lib.hid (arr32_info out (by omega))
  have HSo := Lib.hid (zero32_size out (by omega))
  have HQ := Lib.hid hq
  have HC := Lib.hid hc
  clear hs r1 r2 hmo hAl hBl hA hB hM1 hM2 l1 l2 hout hq hc ih hok hnl
  go_enter Tryd.func54, Tryd.ntmps54
  go_wp2
  go_loop [5] (fun v => ∃ k : Nat, 2 ^ k < n ∧ v = .int .i64 ((2 ^ k : Nat) : Int)) (fun v => n - (intOf v).toNat)
  case atStart => exact ⟨0, by omega, rfl⟩
  case round =>
    obtain ⟨k, hk, rfl⟩ := hrel
    have HK := Lib.hid (show 2 ^ (k + 1) = 2 * 2 ^ k by rw [Nat.pow_succ]; omega)
    have HE : Hid (n ≤ 2 * 2 ^ k → 2 ^ k = q) := Lib.hid fun h => by rw [HQ.out]; exact (halfOf_is n k hk h (by omega)).symm
    have HP := Lib.hid (Nat.two_pow_pos k)
    by_cases hlt : 2 * 2 ^ k < n
    · generalize 2 ^ k = p at *
      have hp := HP.out
      have hlt2 : 2 * (p : Int) < (n : Int) := by omega
      go_wp2
      go_round
      case rel => exact ⟨k + 1, by rw [HK.out]; exact hlt, by rw [HK.out]; go_num⟩
      case measure => simp [intOf]; omega
    · have hpq := HE.out (by omega)
      clear HK HE HP
      generalize 2 ^ k = p at *
      subst hpq
      have hlt2 : ¬ 2 * (p : Int) < (n : Int) := by omega
      have hpc : p ≤ c := by omega
      have hpn : p ≤ n := by omega
      have hpc2 : p < c := by omega
      have hne : ¬ c = p := by omega
      go_upto_region 9 with (fail)
      rename_i K9 hK9
      have HNext : Hid (∀ (s1 s2 s3 s4 s6 s8 s9 s10 s11 s12 s13 s14 s15 s16 s17 s18 s19 s20 s21 s22 s23 s24 s25 s26 s27 s28 s29 s30 s31 s32 s33 s34 s35 s36 s37 s38 s39 s40 s41 s42 s43 s44 s45 s46 s47 s48 s49 s50 s51 s52 s53 s54 s55 s56 s57 : Value) (g7 c7 : Nat) (U : World), Below w.heap.size w U → BPart U (.slice (some ⟨g7, 0, none⟩) 65 c7) (2 :: (A ++ B)) → K9 ⟨#[.slice (some ⟨g, off, none⟩) n c, s1, s2, s3, s4, .int .i64 (p : Int), s6, .slice (some ⟨g7, 0, none⟩) 65 c7, s8, s9, s10, s11, s12, s13, s14, s15, s16, s17, s18, s19, s20, s21, s22, s23, s24, s25, s26, s27, s28, s29, s30, s31, s32, s33, s34, s35, s36, s37, s38, s39, s40, s41, s42, s43, s44, s45, s46, s47, s48, s49, s50, s51, s52, s53, s54, s55, s56, s57], []⟩ U) := Lib.hid fun s1 s2 s3 s4 s6 s8 s9 s10 s11 s12 s13 s14 s15 s16 s17 s18 s19 s20 s21 s22 s23 s24 s25 s26 s27 s28 s29 s30 s31 s32 s33 s34 s35 s36 s37 s38 s39 s40 s41 s42 s43 s44 s45 s46 s47 s48 s49 s50 s51 s52 s53 s54 s55 s56 s57 g7 c7 U hBU hVU => by
        apply hK9
        go_upto_region 10 with (fail)
        change Code.wp _ (Code.region 10 (mdOps 10) true) _ _ _
        refine wp_region_held (S := fun _ => True) (by kernel_rfl) ?_
        have hsz : (mdOps 10).size = 13 := by kernel_rfl
        rw [hsz]
        clear hsz
        refine gen_world (P := fun W' => wpAnyH _ _ _ _ _ _ _ _ W') (I := fun V => Below w.heap.size w V ∧ BPart V (.slice (some ⟨g7, 0, none⟩) 65 c7) (2 :: (A ++ B))) _ ⟨hBU.drew, hVU.below (Below.refl _ U).drew⟩ ?_
        rintro U0 ⟨hB, hV⟩
        have HBU0 := Lib.hid hB
        have HVU0 := Lib.hid hV
        clear hB hV hBU hVU
        refine wpAnyH_take (i := 0) (oi := ⟨some 46, _, _, _, _, _⟩) (v := .slice (some ⟨g7, 0, none⟩) 65 c7) rfl (by kernel_rfl) (by kernel_rfl) (by kernel_rfl) (fun _ _ _ h => h) (Or.inl ⟨by rfl, fun w' hw' => by go_simp⟩) trivial ?_
        try simp only [Act.put, List.setIfInBounds_toArray, List.set_cons_succ, List.set_cons_zero]
        refine wpAnyH_take (i := 2) (oi := ⟨some 48, _, _, _, _, _⟩) (v := .slice (some ⟨g, off, none⟩) n c) rfl (by kernel_rfl) (by kernel_rfl) (by kernel_rfl) (fun _ _ _ h => h) (Or.inl ⟨by rfl, fun w' hw' => by go_simp⟩) trivial ?_
        try simp only [Act.put, List.setIfInBounds_toArray, List.set_cons_succ, List.set_cons_zero]
        refine wpAnyH_take (i := 3) (oi := ⟨some 49, _, _, _, _, _⟩) (v := .int .i64 (p : Int)) rfl (by kernel_rfl) (by kernel_rfl) (by kernel_rfl) (fun _ _ _ h => h) (Or.inl ⟨by rfl, fun w' hw' => by go_simp⟩) trivial ?_
        try simp only [Act.put, List.setIfInBounds_toArray, List.set_cons_succ, List.set_cons_zero]
        refine wpAnyH_take (i := 4) (oi := ⟨some 50, _, _, _, _, _⟩) (v := .slice (some ⟨g, off, none⟩) p c) rfl (by kernel_rfl) (by kernel_rfl) (by kernel_rfl) (fun _ _ _ h => h) (Or.inl ⟨by rfl, fun w' hw' => by go_simp⟩) trivial ?_
        try simp only [Act.put, List.setIfInBounds_toArray, List.set_cons_succ, List.set_cons_zero]
        refine wpAnyH_take (i := 7) (oi := ⟨some 53, _, _, _, _, _⟩) (v := .slice (some ⟨g, off, none⟩) n c) rfl (by kernel_rfl) (by kernel_rfl) (by kernel_rfl) (fun _ _ _ h => h) (Or.inl ⟨by rfl, fun w' hw' => by go_simp⟩) trivial ?_
        try simp only [Act.put, List.setIfInBounds_toArray, List.set_cons_succ, List.set_cons_zero]
        refine wpAnyH_take (i := 8) (oi := ⟨some 54, _, _, _, _, _⟩) (v := .int .i64 (p : Int)) rfl (by kernel_rfl) (by kernel_rfl) (by kernel_rfl) (fun _ _ _ h => h) (Or.inl ⟨by rfl, fun w' hw' => by go_simp⟩) trivial ?_
        try simp only [Act.put, List.setIfInBounds_toArray, List.set_cons_succ, List.set_cons_zero]
        refine wpAnyH_take (i := 9) (oi := ⟨some 55, _, _, _, _, _⟩) (v := .slice (some ⟨g, off + p * 32, none⟩) (n - p) (c - p)) rfl (by kernel_rfl) (by kernel_rfl) (by kernel_rfl) (fun _ _ _ h => h) (Or.inl ⟨by rfl, fun w' hw' => by go_simp⟩) trivial ?_
        try simp only [Act.put, List.setIfInBounds_toArray, List.set_cons_succ, List.set_cons_zero]
        refine wpAnyH_all (rs := [1, 5]) (by kernel_rfl) (by simp) ?_
        intro i hi
        have hi2 : i = 1 ∨ i = 5 := by simpa using hi
        clear hi
        rcases hi2 with rfl | rfl
        · refine wpOp_step (o := ⟨some 47, _, _, _, _, _⟩) rfl (fun K' hK' => ?_)
          rw [if_pos (show Region.wanted _ _ = true from rfl)]
          go_simp
          refine hK' _ _ ⟨trivial, ?_⟩
          clear hK' K'
          try simp only [Act.put, List.setIfInBounds_toArray, List.set_cons_succ, List.set_cons_zero]
          have hg1 : w.heap.size ≤ U0.heap.size := HBU0.out.size
          refine gen_world (P := fun W' => wpAnyH _ _ _ _ _ _ _ _ W') (I := fun V => Below w.heap.size w V ∧ BPart V (.slice (some ⟨g7, 0, none⟩) 65 c7) (2 :: (A ++ B)) ∧ V.ownsRow w.heap.size 22 1 (.slice (some ⟨U0.heap.size, 0, none⟩) 1 1) 1 [.slice (some ⟨g7, 0, none⟩) 65 c7]) _ ⟨HBU0.out.alloc HBU0.out.size _, HVU0.out.below ((Below.refl _ U0).alloc (Nat.le_refl _) _), own_one (Has.fresh _ _ _) hg1⟩ ?_
          rintro U1 ⟨hB, hV, hO⟩
          generalize U0.heap.size = g1 at *
          have HBU1 := Lib.hid hB
          have HVU1 := Lib.hid hV
          have HOU1 := Lib.hid hO
          clear hB hV hO
          refine wpAnyH_all (rs := [5]) (by kernel_rfl) (by simp) ?_
          intro i hi
          obtain rfl : i = 5 := by simpa using hi
          clear hi
          refine wpOp_step (o := ⟨some 51, _, _, _, _, _⟩) rfl (fun K' hK' => ?_)
          rw [if_pos (show Region.wanted _ _ = true from rfl)]
          go_simp
          (with_reducible refine (HM1.out U1 HBU1.out).mono ?_)
          rintro e U2 ⟨gm, cm, vm, rfl, hM, hN, hb⟩
          refine hK' _ _ ⟨trivial, ?_⟩
          clear hK' K'
          try simp only [Act.put, List.setIfInBounds_toArray, List.set_cons_succ, List.set_cons_zero]
          have HBU2 := Lib.hid (HBU1.out.trans (hb.mono HBU1.out.size))
          have HMU2 := Lib.hid (own_low hM HBU1.out.size)
          have HNU2 := Lib.hid hN
          have HOU2 := Lib.hid (own_below HOU1.out hb)
          have HVU2 := Lib.hid (HVU1.out.below hb)
          clear hM hN hb
          refine wpAnyH_all (rs := [6]) (by kernel_rfl) (by simp) ?_
          intro i hi
          obtain rfl : i = 6 := by simpa using hi
          clear hi
          refine wpOp_step (o := ⟨some 52, _, _, _, _, _⟩) rfl (fun K' hK' => ?_)
          rw [if_pos (show Region.wanted _ _ = true from rfl)]
          refine wp_append_own _ _ _ 84 rfl w.heap.size 22 ib (.slice none 0 0) 1 24 Tryd.underlying84 hib hb0 hb1 hb2 rfl (by decide) _ _ _ rfl HOU2.out ⟨gm, 0, none⟩ M1.length cm vm rfl (by rw [Nat.mul_one]; exact HNU2.out.len) (own_news HMU2.out) (brows_one HNU2.out) (by unfold maxLen; omega) (by omega) HBU2.out.size (fun v' y1 hown hgrow _ => ?_)
          have hV2 := HVU2.out.grown HOU2.out hgrow
          have hN2 := HNU2.out.grown HOU2.out hgrow
          have hB2 : Below w.heap.size w y1 := HBU2.out.grown hgrow HBU2.out.size (fun r hr => (HOU2.out.lt r hr).1)
          obtain ⟨a9, c9, rfl, _, _⟩ := own_shape hown
          refine hK' _ _ ⟨trivial, ?_⟩
          clear hK' K'
          try simp only [Act.put, List.setIfInBounds_toArray, List.set_cons_succ, List.set_cons_zero]
          have HBy1 := Lib.hid hB2
          have HOy1 := Lib.hid hown
          have HDy1 : Hid (BRows y1 ([.slice (some ⟨g7, 0, none⟩) 65 c7] ++ vm) ([2 :: (A ++ B)] ++ M1)) := Lib.hid (BRows.append ⟨hV2, trivial⟩ hN2)
          clear hV2 hN2 hB2 hown hgrow
          refine wpAnyH_all (rs := [10]) (by kernel_rfl) (by simp) ?_
          intro i hi
          obtain rfl : i = 10 := by simpa using hi
          clear hi
          refine wpOp_step (o := ⟨some 56, _, _, _, _, _⟩) rfl (fun K' hK' => ?_)
          rw [if_pos (show Region.wanted _ _ = true from rfl)]
          go_simp
          (with_reducible refine (HM2.out y1 HBy1.out).mono ?_)
          rintro e y2 ⟨gk, ck, vk, rfl, hM, hN, hb⟩
          refine hK' _ _ ⟨trivial, ?_⟩
          clear hK' K'
          try simp only [Act.put, List.setIfInBounds_toArray, List.set_cons_succ, List.set_cons_zero]
          have HBy2 := Lib.hid (HBy1.out.trans (hb.mono HBy1.out.size))
          have HPy2 := Lib.hid (own_low hM HBy1.out.size)
          have HRy2 := Lib.hid hN
          have HOy2 := Lib.hid (own_below HOy1.out hb)
          have HDy2 := Lib.hid (HDy1.out.below hb)
          clear hM hN hb
          refine wpAnyH_all (rs := [11]) (by kernel_rfl) (by simp) ?_
          intro i hi
          obtain rfl : i = 11 := by simpa using hi
          clear hi
          refine wpOp_step (o := ⟨some 57, _, _, _, _, _⟩) rfl (fun K' hK' => ?_)
          rw [if_pos (show Region.wanted _ _ = true from rfl)]
          refine wp_append_own _ _ _ 84 rfl w.heap.size 22 ib (.slice none 0 0) 1 24 Tryd.underlying84 hib hb0 hb1 hb2 rfl (by decide) _ _ _ rfl HOy2.out ⟨gk, 0, none⟩ M2.length ck vk rfl (by rw [Nat.mul_one]; exact HRy2.out.len) (own_news HPy2.out) (brows_one HRy2.out) (by unfold maxLen; omega) (by omega) HBy2.out.size (fun v' y3 hown hgrow _ => ?_)
          have hD3 := HDy2.out.grown HOy2.out hgrow
          have hR3 := HRy2.out.grown HOy2.out hgrow
          have hB3 : Below w.heap.size w y3 := HBy2.out.grown hgrow HBy2.out.size (fun r hr => (HOy2.out.lt r hr).1)
          refine hK' _ _ ⟨trivial, ?_⟩
          clear hK' K'
          try simp only [Act.put, List.setIfInBounds_toArray, List.set_cons_succ, List.set_cons_zero]
          refine wpAnyH_take (i := 12) (oi := ⟨some 2, _, _, _, _, _⟩) (v := v') rfl (by kernel_rfl) (by kernel_rfl) (by kernel_rfl) (fun _ _ _ h => h) (Or.inl ⟨by rfl, fun w' hw' => by go_simp⟩) trivial ?_
          try simp only [Act.put, List.setIfInBounds_toArray, List.set_cons_succ, List.set_cons_zero]
          refine wpAnyH_done (by kernel_rfl) ?_ _
          go_wp2
          go_ret
          exact ⟨v', rfl, _, own_cast hown (by rw [HMo.out, List.length_append, List.length_append]; rfl) rfl, by rw [HMo.out]; exact BRows.append hD3 hR3, hB3⟩
        · refine wpOp_step (o := ⟨some 51, _, _, _, _, _⟩) rfl (fun K' hK' => ?_)
          rw [if_pos (show Region.wanted _ _ = true from rfl)]
          go_simp
          (with_reducible refine (HM1.out U0 HBU0.out).mono ?_)
          rintro e U1 ⟨gm, cm, vm, rfl, hM, hN, hb⟩
          refine hK' _ _ ⟨trivial, ?_⟩
          clear hK' K'
          try simp only [Act.put, List.setIfInBounds_toArray, List.set_cons_succ, List.set_cons_zero]
          have HBU1 := Lib.hid (HBU0.out.trans (hb.mono HBU0.out.size))
          have HMU1 := Lib.hid (own_low hM HBU0.out.size)
          have HNU1 := Lib.hid hN
          have HVU1 := Lib.hid (HVU0.out.below hb)
          clear hM hN hb
          refine wpAnyH_all (rs := [1]) (by kernel_rfl) (by simp) ?_
          intro i hi
          obtain rfl : i = 1 := by simpa using hi
          clear hi
          refine wpOp_step (o := ⟨some 47, _, _, _, _, _⟩) rfl (fun K' hK' => ?_)
          rw [if_pos (show Region.wanted _ _ = true from rfl)]
          go_simp
          refine hK' _ _ ⟨trivial, ?_⟩
          clear hK' K'
          try simp only [Act.put, List.setIfInBounds_toArray, List.set_cons_succ, List.set_cons_zero]
          have hg1 : w.heap.size ≤ U1.heap.size := HBU1.out.size
          refine gen_world (P := fun W' => wpAnyH _ _ _ _ _ _ _ _ W') (I := fun V => Below w.heap.size w V ∧ BPart V (.slice (some ⟨g7, 0, none⟩) 65 c7) (2 :: (A ++ B)) ∧ V.ownsRow w.heap.size 22 1 (.slice (some ⟨U1.heap.size, 0, none⟩) 1 1) 1 [.slice (some ⟨g7, 0, none⟩) 65 c7] ∧ V.ownsRow w.heap.size 22 1 (.slice (some ⟨gm, 0, none⟩) M1.length cm) M1.length vm ∧ BRows V vm M1) _ ⟨HBU1.out.alloc HBU1.out.size _, HVU1.out.below ((Below.refl _ U1).alloc (Nat.le_refl _) _), own_one (Has.fresh _ _ _) hg1, HMU1.out.alloc _, HNU1.out.below ((Below.refl _ U1).alloc (Nat.le_refl _) _)⟩ ?_
          rintro U2 ⟨hB, hV, hO, hM, hN⟩
          generalize U1.heap.size = g1 at *
          have HBU2 := Lib.hid hB
          have HVU2 := Lib.hid hV
          have HOU2 := Lib.hid hO
          have HMU2 := Lib.hid hM
          have HNU2 := Lib.hid hN
          clear hB hV hO hM hN
          refine wpAnyH_all (rs := [6]) (by kernel_rfl) (by simp) ?_
          intro i hi
          obtain rfl : i = 6 := by simpa using hi
          clear hi
          refine wpOp_step (o := ⟨some 52, _, _, _, _, _⟩) rfl (fun K' hK' => ?_)
          rw [if_pos (show Region.wanted _ _ = true from rfl)]
          refine wp_append_own _ _ _ 84 rfl w.heap.size 22 ib (.slice none 0 0) 1 24 Tryd.underlying84 hib hb0 hb1 hb2 rfl (by decide) _ _ _ rfl HOU2.out ⟨gm, 0, none⟩ M1.length cm vm rfl (by rw [Nat.mul_one]; exact HNU2.out.len) (own_news HMU2.out) (brows_one HNU2.out) (by unfold maxLen; omega) (by omega) HBU2.out.size (fun v' y1 hown hgrow _ => ?_)
          have hV2 := HVU2.out.grown HOU2.out hgrow
          have hN2 := HNU2.out.grown HOU2.out hgrow
          have hB2 : Below w.heap.size w y1 := HBU2.out.grown hgrow HBU2.out.size (fun r hr => (HOU2.out.lt r hr).1)
          obtain ⟨a9, c9, rfl, _, _⟩ := own_shape hown
          refine hK' _ _ ⟨trivial, ?_⟩
          clear hK' K'
          try simp only [Act.put, List.setIfInBounds_toArray, List.set_cons_succ, List.set_cons_zero]
          have HBy1 := Lib.hid hB2
          have HOy1 := Lib.hid hown
          have HDy1 : Hid (BRows y1 ([.slice (some ⟨g7, 0, none⟩) 65 c7] ++ vm) ([2 :: (A ++ B)] ++ M1)) := Lib.hid (BRows.append ⟨hV2, trivial⟩ hN2)
          clear hV2 hN2 hB2 hown hgrow
          refine wpAnyH_all (rs := [10]) (by kernel_rfl) (by simp) ?_
          intro i hi
          obtain rfl : i = 10 := by simpa using hi
          clear hi
          refine wpOp_step (o := ⟨some 56, _, _, _, _, _⟩) rfl (fun K' hK' => ?_)
          rw [if_pos (show Region.wanted _ _ = true from rfl)]
          go_simp
          (with_reducible refine (HM2.out y1 HBy1.out).mono ?_)
          rintro e y2 ⟨gk, ck, vk, rfl, hM, hN, hb⟩
          refine hK' _ _ ⟨trivial, ?_⟩
          clear hK' K'
          try simp only [Act.put, List.setIfInBounds_toArray, List.set_cons_succ, List.set_cons_zero]
          have HBy2 := Lib.hid (HBy1.out.trans (hb.mono HBy1.out.size))
          have HPy2 := Lib.hid (own_low hM HBy1.out.size)
          have HRy2 := Lib.hid hN
          have HOy2 := Lib.hid (own_below HOy1.out hb)
          have HDy2 := Lib.hid (HDy1.out.below hb)
          clear hM hN hb
          refine wpAnyH_all (rs := [11]) (by kernel_rfl) (by simp) ?_
          intro i hi
          obtain rfl : i = 11 := by simpa using hi
          clear hi
          refine wpOp_step (o := ⟨some 57, _, _, _, _, _⟩) rfl (fun K' hK' => ?_)
          rw [if_pos (show Region.wanted _ _ = true from rfl)]
          refine wp_append_own _ _ _ 84 rfl w.heap.size 22 ib (.slice none 0 0) 1 24 Tryd.underlying84 hib hb0 hb1 hb2 rfl (by decide) _ _ _ rfl HOy2.out ⟨gk, 0, none⟩ M2.length ck vk rfl (by rw [Nat.mul_one]; exact HRy2.out.len) (own_news HPy2.out) (brows_one HRy2.out) (by unfold maxLen; omega) (by omega) HBy2.out.size (fun v' y3 hown hgrow _ => ?_)
          have hD3 := HDy2.out.grown HOy2.out hgrow
          have hR3 := HRy2.out.grown HOy2.out hgrow
          have hB3 : Below w.heap.size w y3 := HBy2.out.grown hgrow HBy2.out.size (fun r hr => (HOy2.out.lt r hr).1)
          refine hK' _ _ ⟨trivial, ?_⟩
          clear hK' K'
          try simp only [Act.put, List.setIfInBounds_toArray, List.set_cons_succ, List.set_cons_zero]
          refine wpAnyH_take (i := 12) (oi := ⟨some 2, _, _, _, _, _⟩) (v := v') rfl (by kernel_rfl) (by kernel_rfl) (by kernel_rfl) (fun _ _ _ h => h) (Or.inl ⟨by rfl, fun w' hw' => by go_simp⟩) trivial ?_
          try simp only [Act.put, List.setIfInBounds_toArray, List.set_cons_succ, List.set_cons_zero]
          refine wpAnyH_done (by kernel_rfl) ?_ _
          go_wp2
          go_ret
          exact ⟨v', rfl, _, own_cast hown (by rw [HMo.out, List.length_append, List.length_append]; rfl) rfl, by rw [HMo.out]; exact BRows.append hD3 hR3, hB3⟩
      clear hK9
      change Code.wp _ (Code.region 9 (mdOps 9) true) _ _ _
      refine wp_region_held (S := fun _ => True) (by kernel_rfl) ?_
      have hsz : (mdOps 9).size = 16 := by kernel_rfl
      rw [hsz]
      clear hsz
      refine gen_world (P := fun W' => wpAnyH _ _ _ _ _ _ _ _ W') (I := fun V => Below w.heap.size w V) _ (Below.refl _ w).drew ?_
      rintro z0 hB
      have HBz0 := Lib.hid hB
      clear hB
      refine wpAnyH_take (i := 0) (oi := ⟨some 34, _, _, _, _, _⟩) (v := .slice (some ⟨g, off, none⟩) n c) rfl (by kernel_rfl) (by kernel_rfl) (by kernel_rfl) (fun _ _ _ h => h) (Or.inl ⟨by rfl, fun w' hw' => by go_simp⟩) trivial ?_
      try simp only [Act.put, List.setIfInBounds_toArray, List.set_cons_succ, List.set_cons_zero]
      refine wpAnyH_take (i := 1) (oi := ⟨some 35, _, _, _, _, _⟩) (v := .int .i64 (p : Int)) rfl (by kernel_rfl) (by kernel_rfl) (by kernel_rfl) (fun _ _ _ h => h) (Or.inl ⟨by rfl, fun w' hw' => by go_simp⟩) trivial ?_
      try simp only [Act.put, List.setIfInBounds_toArray, List.set_cons_succ, List.set_cons_zero]
      refine wpAnyH_take (i := 2) (oi := ⟨some 36, _, _, _, _, _⟩) (v := .slice (some ⟨g, off, none⟩) p c) rfl (by kernel_rfl) (by kernel_rfl) (by kernel_rfl) (fun _ _ _ h => h) (Or.inl ⟨by rfl, fun w' hw' => by go_simp⟩) trivial ?_
      try simp only [Act.put, List.setIfInBounds_toArray, List.set_cons_succ, List.set_cons_zero]
      refine wpAnyH_take (i := 4) (oi := ⟨some 38, _, _, _, _, _⟩) (v := .slice (some ⟨g, off, none⟩) n c) rfl (by kernel_rfl) (by kernel_rfl) (by kernel_rfl) (fun _ _ _ h => h) (Or.inl ⟨by rfl, fun w' hw' => by go_simp⟩) trivial ?_
      try simp only [Act.put, List.setIfInBounds_toArray, List.set_cons_succ, List.set_cons_zero]
      refine wpAnyH_take (i := 5) (oi := ⟨some 39, _, _, _, _, _⟩) (v := .int .i64 (p : Int)) rfl (by kernel_rfl) (by kernel_rfl) (by kernel_rfl) (fun _ _ _ h => h) (Or.inl ⟨by rfl, fun w' hw' => by go_simp⟩) trivial ?_
      try simp only [Act.put, List.setIfInBounds_toArray, List.set_cons_succ, List.set_cons_zero]
      refine wpAnyH_take (i := 6) (oi := ⟨some 40, _, _, _, _, _⟩) (v := .slice (some ⟨g, off + p * 32, none⟩) (n - p) (c - p)) rfl (by kernel_rfl) (by kernel_rfl) (by kernel_rfl) (fun _ _ _ h => h) (Or.inl ⟨by rfl, fun w' hw' => by go_simp⟩) trivial ?_
      try simp only [Act.put, List.setIfInBounds_toArray, List.set_cons_succ, List.set_cons_zero]
      refine wpAnyH_all (rs := [3, 13]) (by kernel_rfl) (by simp) ?_
      intro i hi
      have hi2 : i = 3 ∨ i = 13 := by simpa using hi
      clear hi
      rcases hi2 with rfl | rfl
      · refine wpOp_step (o := ⟨some 37, _, _, _, _, _⟩) rfl (fun K' hK' => ?_)
        rw [if_pos (show Region.wanted _ _ = true from rfl)]
        go_simp
        (with_reducible refine (HL1.out z0 HBz0.out).mono ?_)
        rintro e z1 ⟨rfl, hb⟩
        refine hK' _ _ ⟨trivial, ?_⟩
        clear hK' K'
        try simp only [Act.put, List.setIfInBounds_toArray, List.set_cons_succ, List.set_cons_zero]
        have HBz1 := Lib.hid (HBz0.out.trans (hb.mono HBz0.out.size))
        clear hb
        refine wpAnyH_all (rs := [7, 13]) (by kernel_rfl) (by simp) ?_
        intro i hi
        have hi2 : i = 7 ∨ i = 13 := by simpa using hi
        clear hi
        rcases hi2 with rfl | rfl
        · refine wpOp_step (o := ⟨some 41, _, _, _, _, _⟩) rfl (fun K' hK' => ?_)
          rw [if_pos (show Region.wanted _ _ = true from rfl)]
          go_simp
          (with_reducible refine (HL2.out z1 HBz1.out).mono ?_)
          rintro e z2 ⟨rfl, hb⟩
          refine hK' _ _ ⟨trivial, ?_⟩
          clear hK' K'
          try simp only [Act.put, List.setIfInBounds_toArray, List.set_cons_succ, List.set_cons_zero]
          have HBz2 := Lib.hid (HBz1.out.trans (hb.mono HBz1.out.size))
          clear hb
          refine wpAnyH_all (rs := [8, 13]) (by kernel_rfl) (by simp) ?_
          intro i hi
          have hi2 : i = 8 ∨ i = 13 := by simpa using hi
          clear hi
          rcases hi2 with rfl | rfl
          · refine wpOp_step (o := ⟨some 42, _, _, _, _, _⟩) rfl (fun K' hK' => ?_)
            rw [if_pos (show Region.wanted _ _ = true from rfl)]
            refine opw_slice2 26 i9 _ (arr32 A) (arr32 B) Tryd.underlying49 hi9 hz90 HSa.out HSb.out (by rw [hz91]; decide) (by rw [hz91]; decide) rfl rfl ?_
            refine hK' _ _ ⟨trivial, ?_⟩
            clear hK' K'
            try simp only [Act.put, List.setIfInBounds_toArray, List.set_cons_succ, List.set_cons_zero]
            refine gen_world (P := fun W' => wpAnyH _ _ _ _ _ _ _ _ W') (I := fun V => Below w.heap.size w V ∧ V.ownsRow w.heap.size 26 32 (.slice (some ⟨z2.heap.size, 0, none⟩) 2 2) 2 ([A, B].flatMap cellsOf)) _ ⟨HBz2.out.alloc HBz2.out.size _, own_lit2 A B HLa.out HLb.out HBz2.out.size⟩ ?_
            rintro z3 ⟨hB, hS⟩
            generalize z2.heap.size = g8 at *
            have HBz3 := Lib.hid hB
            have HSz3 := Lib.hid hS
            clear hB hS
            refine wpAnyH_all (rs := [9, 13]) (by kernel_rfl) (by simp) ?_
            intro i hi
            have hi2 : i = 9 ∨ i = 13 := by simpa using hi
            clear hi
            rcases hi2 with rfl | rfl
            · refine wpOp_step (o := ⟨some 43, _, _, _, _, _⟩) rfl (fun K' hK' => ?_)
              rw [if_pos (show Region.wanted _ _ = true from rfl)]
              go_simp
              (with_reducible refine (HJ.out g8 z3 HBz3.out HSz3.out).mono ?_)
              rintro e z4 ⟨g7, c7, rfl, hv, hb⟩
              refine hK' _ _ ⟨trivial, ?_⟩
              clear hK' K'
              try simp only [Act.put, List.setIfInBounds_toArray, List.set_cons_succ, List.set_cons_zero]
              have HBz4 := Lib.hid (HBz3.out.trans (hb.mono HBz3.out.size))
              have HVz4 := Lib.hid hv
              clear hb hv
              refine wpAnyH_take (i := 10) (oi := ⟨some 33, _, _, _, _, _⟩) (v := .tuple #[.agg (arr32 out), .slice (some ⟨g7, 0, none⟩) 65 c7]) rfl (by kernel_rfl) (by kernel_rfl) (by kernel_rfl) (fun _ _ _ h => h) (Or.inl ⟨by rfl, fun w' hw' => by go_simp⟩) trivial ?_
              try simp only [Act.put, List.setIfInBounds_toArray, List.set_cons_succ, List.set_cons_zero]
              refine wpAnyH_take (i := 11) (oi := ⟨some 44, _, _, _, _, _⟩) (v := .agg (arr32 out)) rfl (by kernel_rfl) (by kernel_rfl) (by kernel_rfl) (fun _ _ _ h => h) (Or.inl ⟨by rfl, fun w' hw' => by go_simp⟩) trivial ?_
              try simp only [Act.put, List.setIfInBounds_toArray, List.set_cons_succ, List.set_cons_zero]
              refine wpAnyH_take (i := 12) (oi := ⟨some 45, _, _, _, _, _⟩) (v := .slice (some ⟨g7, 0, none⟩) 65 c7) rfl (by kernel_rfl) (by kernel_rfl) (by kernel_rfl) (fun _ _ _ h => h) (Or.inl ⟨by rfl, fun w' hw' => by go_simp⟩) trivial ?_
              try simp only [Act.put, List.setIfInBounds_toArray, List.set_cons_succ, List.set_cons_zero]
              refine wpAnyH_all (rs := [13]) (by kernel_rfl) (by simp) ?_
              intro i hi
              obtain rfl : i = 13 := by simpa using hi
              clear hi
              refine wpOp_step (o := ⟨some 6, _, _, _, _, _⟩) rfl (fun K' hK' => ?_)
              rw [if_pos (show Region.wanted _ _ = true from rfl)]
              go_simp
              refine hK' _ _ ⟨trivial, ?_⟩
              clear hK' K'
              try simp only [Act.put, List.setIfInBounds_toArray, List.set_cons_succ, List.set_cons_zero]
              have hg6 : w.heap.size ≤ z4.heap.size := HBz4.out.size
              refine gen_world (P := fun W' => wpAnyH _ _ _ _ _ _ _ _ W') (I := fun V => Below w.heap.size w V ∧ Has V z4.heap.size 26 zero32 ∧ BPart V (.slice (some ⟨g7, 0, none⟩) 65 c7) (2 :: (A ++ B))) _ ⟨HBz4.out.alloc HBz4.out.size _, fresh_sum z4, HVz4.out.below ((Below.refl _ z4).alloc (Nat.le_refl _) _)⟩ ?_
              rintro z4a ⟨hB, hA, hV⟩
              generalize z4.heap.size = g6 at *
              have HBz4a := Lib.hid hB
              have HAz4a := Lib.hid hA
              have HVz4a := Lib.hid hV
              clear hB hA hV
              refine wpAnyH_all (rs := [14]) (by kernel_rfl) (by simp) ?_
              intro i hi
              obtain rfl : i = 14 := by simpa using hi
              clear hi
              refine wpOp_step (o := ⟨none, _, _, _, _, _⟩) rfl (fun K' hK' => ?_)
              rw [if_pos (show Region.wanted _ _ = true from rfl)]
              refine opw_store g6 (arr32 out) _ _ HAz4a.out HSo.out HIo.out (arr32_one _) rfl rfl ?_
              refine hK' _ _ ⟨trivial, ?_⟩
              clear hK' K'
              try simp only [Act.put, List.setIfInBounds_toArray, List.set_cons_succ, List.set_cons_zero]
              refine wpAnyH_take (i := 15) (oi := ⟨some 7, _, _, _, _, _⟩) (v := .slice (some ⟨g7, 0, none⟩) 65 c7) rfl (by kernel_rfl) (by kernel_rfl) (by kernel_rfl) (fun _ _ _ h => h) (Or.inl ⟨by rfl, fun w' hw' => by go_simp⟩) trivial ?_
              try simp only [Act.put, List.setIfInBounds_toArray, List.set_cons_succ, List.set_cons_zero]
              refine wpAnyH_done (by kernel_rfl) ?_ _
              exact HNext.out _ _ _ _ _ _ _ _ _ _ _ _ _ _ _ _ _ _ _ _ _ _ _ _ _ _ _ _ _ _ _ _ _ _ _ _ _ _ _ _ _ _ _ _ _ _ _ _ _ _ _ _ _ _ _ g7 c7 _ (below_setRow HBz4a.out hg6 _) (HVz4a.out.setRow (bpart_not_sum HVz4a.out HAz4a.out) _)
            · refine wpOp_step (o := ⟨some 6, _, _, _, _, _⟩) rfl (fun K' hK' => ?_)
              rw [if_pos (show Region.wanted _ _ = true from rfl)]
              go_simp
              refine hK' _ _ ⟨trivial, ?_⟩
              clear hK' K'
              try simp only [Act.put, List.setIfInBounds_toArray, List.set_cons_succ, List.set_cons_zero]
              have hg6 : w.heap.size ≤ z3.heap.size := HBz3.out.size
              refine gen_world (P := fun W' => wpAnyH _ _ _ _ _ _ _ _ W') (I := fun V => Below w.heap.size w V ∧ Has V z3.heap.size 26 zero32 ∧ V.ownsRow w.heap.size 26 32 (.slice (some ⟨g8, 0, none⟩) 2 2) 2 ([A, B].flatMap cellsOf)) _ ⟨HBz3.out.alloc HBz3.out.size _, fresh_sum z3, HSz3.out.alloc _⟩ ?_
              rintro z3a ⟨hB, hA, hS⟩
              generalize z3.heap.size = g6 at *
              have HBz3a := Lib.hid hB
              have HAz3a := Lib.hid hA
              have HSz3a := Lib.hid hS
              clear hB hA hS
              refine wpAnyH_all (rs := [9]) (by kernel_rfl) (by simp) ?_
              intro i hi
              obtain rfl : i = 9 := by simpa using hi
              clear hi
              refine wpOp_step (o := ⟨some 43, _, _, _, _, _⟩) rfl (fun K' hK' => ?_)
              rw [if_pos (show Region.wanted _ _ = true from rfl)]
              go_simp
              (with_reducible refine (HJ.out g8 z3a HBz3a.out HSz3a.out).mono ?_)
              rintro e z4a ⟨g7, c7, rfl, hv, hb⟩
              refine hK' _ _ ⟨trivial, ?_⟩
              clear hK' K'
              try simp only [Act.put, List.setIfInBounds_toArray, List.set_cons_succ, List.set_cons_zero]
              have HBz4a := Lib.hid (HBz3a.out.trans (hb.mono HBz3a.out.size))
              have HVz4a := Lib.hid hv
              have HAz4a := Lib.hid (HAz3a.out.below hb HAz3a.out.lt)
              clear hb hv
              refine wpAnyH_take (i := 10) (oi := ⟨some 33, _, _, _, _, _⟩) (v := .tuple #[.agg (arr32 out), .slice (some ⟨g7, 0, none⟩) 65 c7]) rfl (by kernel_rfl) (by kernel_rfl) (by kernel_rfl) (fun _ _ _ h => h) (Or.inl ⟨by rfl, fun w' hw' => by go_simp⟩) trivial ?_
              try simp only [Act.put, List.setIfInBounds_toArray, List.set_cons_succ, List.set_cons_zero]
              refine wpAnyH_take (i := 11) (oi := ⟨some 44, _, _, _, _, _⟩) (v := .agg (arr32 out)) rfl (by kernel_rfl) (by kernel_rfl) (by kernel_rfl) (fun _ _ _ h => h) (Or.inl ⟨by rfl, fun w' hw' => by go_simp⟩) trivial ?_
              try simp only [Act.put, List.setIfInBounds_toArray, List.set_cons_succ, List.set_cons_zero]
              refine wpAnyH_take (i := 12) (oi := ⟨some 45, _, _, _, _, _⟩) (v := .slice (some ⟨g7, 0, none⟩) 65 c7) rfl (by kernel_rfl) (by kernel_rfl) (by kernel_rfl) (fun _ _ _ h => h) (Or.inl ⟨by rfl, fun w' hw' => by go_simp⟩) trivial ?_
              try simp only [Act.put, List.setIfInBounds_toArray, List.set_cons_succ, List.set_cons_zero]
              refine wpAnyH_all (rs := [14]) (by kernel_rfl) (by simp) ?_
              intro i hi
              obtain rfl : i = 14 := by simpa using hi
              clear hi
              refine wpOp_step (o := ⟨none, _, _, _, _, _⟩) rfl (fun K' hK' => ?_)
              rw [if_pos (show Region.wanted _ _ = true from rfl)]
              refine opw_store g6 (arr32 out) _ _ HAz4a.out HSo.out HIo.out (arr32_one _) rfl rfl ?_
              refine hK' _ _ ⟨trivial, ?_⟩
              clear hK' K'
              try simp only [Act.put, List.setIfInBounds_toArray, List.set_cons_succ, List.set_cons_zero]
              refine wpAnyH_take (i := 15) (oi := ⟨some 7, _, _, _, _, _⟩) (v := .slice (some ⟨g7, 0, none⟩) 65 c7) rfl (by kernel_rfl) (by kernel_rfl) (by kernel_rfl) (fun _ _ _ h => h) (Or.inl ⟨by rfl, fun w' hw' => by go_simp⟩) trivial ?_
              try simp only [Act.put, List.setIfInBounds_toArray, List.set_cons_succ, List.set_cons_zero]
              refine wpAnyH_done (by kernel_rfl) ?_ _
              exact HNext.out _ _ _ _ _ _ _ _ _ _ _ _ _ _ _ _ _ _ _ _ _ _ _ _ _ _ _ _ _ _ _ _ _ _ _ _ _ _ _ _ _ _ _ _ _ _ _ _ _ _ _ _ _ _ _ g7 c7 _ (below_setRow HBz4a.out hg6 _) (HVz4a.out.setRow (bpart_not_sum HVz4a.out HAz4a.out) _)
          · refine wpOp_step (o := ⟨some 6, _, _, _, _, _⟩) rfl (fun K' hK' => ?_)
            rw [if_pos (show Region.wanted _ _ = true from rfl)]
            go_simp
            refine hK' _ _ ⟨trivial, ?_⟩
            clear hK' K'
            try simp only [Act.put, List.setIfInBounds_toArray, List.set_cons_succ, List.set_cons_zero]
            have hg6 : w.heap.size ≤ z2.heap.size := HBz2.out.size
            refine gen_world (P := fun W' => wpAnyH _ _ _ _ _ _ _ _ W') (I := fun V => Below w.heap.size w V ∧ Has V z2.heap.size 26 zero32) _ ⟨HBz2.out.alloc HBz2.out.size _, fresh_sum z2⟩ ?_
            rintro z2a ⟨hB, hA⟩
            generalize z2.heap.size = g6 at *
            have HBz2a := Lib.hid hB
            have HAz2a := Lib.hid hA
            clear hB hA
            refine wpAnyH_all (rs := [8]) (by kernel_rfl) (by simp) ?_
            intro i hi
            obtain rfl : i = 8 := by simpa using hi
            clear hi
            refine wpOp_step (o := ⟨some 42, _, _, _, _, _⟩) rfl (fun K' hK' => ?_)
            rw [if_pos (show Region.wanted _ _ = true from rfl)]
            refine opw_slice2 26 i9 _ (arr32 A) (arr32 B) Tryd.underlying49 hi9 hz90 HSa.out HSb.out (by rw [hz91]; decide) (by rw [hz91]; decide) rfl rfl ?_
            refine hK' _ _ ⟨trivial, ?_⟩
            clear hK' K'
            try simp only [Act.put, List.setIfInBounds_toArray, List.set_cons_succ, List.set_cons_zero]
            refine gen_world (P := fun W' => wpAnyH _ _ _ _ _ _ _ _ W') (I := fun V => Below w.heap.size w V ∧ V.ownsRow w.heap.size 26 32 (.slice (some ⟨z2a.heap.size, 0, none⟩) 2 2) 2 ([A, B].flatMap cellsOf) ∧ Has V g6 26 zero32) _ ⟨HBz2a.out.alloc HBz2a.out.size _, own_lit2 A B HLa.out HLb.out HBz2a.out.size, HAz2a.out.alloc _⟩ ?_
            rintro z3a ⟨hB, hS, hA⟩
            generalize z2a.heap.size = g8 at *
            have HBz3a := Lib.hid hB
            have HSz3a := Lib.hid hS
            have HAz3a := Lib.hid hA
            clear hB hS hA
            refine wpAnyH_all (rs := [9]) (by kernel_rfl) (by simp) ?_
            intro i hi
            obtain rfl : i = 9 := by simpa using hi
            clear hi
            refine wpOp_step (o := ⟨some 43, _, _, _, _, _⟩) rfl (fun K' hK' => ?_)
            rw [if_pos (show Region.wanted _ _ = true from rfl)]
            go_simp
            (with_reducible refine (HJ.out g8 z3a HBz3a.out HSz3a.out).mono ?_)
            rintro e z4a ⟨g7, c7, rfl, hv, hb⟩
            refine hK' _ _ ⟨trivial, ?_⟩
            clear hK' K'
            try simp only [Act.put, List.setIfInBounds_toArray, List.set_cons_succ, List.set_cons_zero]
            have HBz4a := Lib.hid (HBz3a.out.trans (hb.mono HBz3a.out.size))
            have HVz4a := Lib.hid hv
            have HAz4a := Lib.hid (HAz3a.out.below hb HAz3a.out.lt)
            clear hb hv
            refine wpAnyH_take (i := 10) (oi := ⟨some 33, _, _, _, _, _⟩) (v := .tuple #[.agg (arr32 out), .slice (some ⟨g7, 0, none⟩) 65 c7]) rfl (by kernel_rfl) (by kernel_rfl) (by kernel_rfl) (fun _ _ _ h => h) (Or.inl ⟨by rfl, fun w' hw' => by go_simp⟩) trivial ?_
            try simp only [Act.put, List.setIfInBounds_toArray, List.set_cons_succ, List.set_cons_zero]
            refine wpAnyH_take (i := 11) (oi := ⟨some 44, _, _, _, _, _⟩) (v := .agg (arr32 out)) rfl (by kernel_rfl) (by kernel_rfl) (by kernel_rfl) (fun _ _ _ h => h) (Or.inl ⟨by rfl, fun w' hw' => by go_simp⟩) trivial ?_
            try simp only [Act.put, List.setIfInBounds_toArray, List.set_cons_succ, List.set_cons_zero]
            refine wpAnyH_take (i := 12) (oi := ⟨some 45, _, _, _, _, _⟩) (v := .slice (some ⟨g7, 0, none⟩) 65 c7) rfl (by kernel_rfl) (by kernel_rfl) (by kernel_rfl) (fun _ _ _ h => h) (Or.inl ⟨by rfl, fun w' hw' => by go_simp⟩) trivial ?_
            try simp only [Act.put, List.setIfInBounds_toArray, List.set_cons_succ, List.set_cons_zero]
            refine wpAnyH_all (rs := [14]) (by kernel_rfl) (by simp) ?_
            intro i hi
            obtain rfl : i = 14 := by simpa using hi
            clear hi
            refine wpOp_step (o := ⟨none, _, _, _, _, _⟩) rfl (fun K' hK' => ?_)
            rw [if_pos (show Region.wanted _ _ = true from rfl)]
            refine opw_store g6 (arr32 out) _ _ HAz4a.out HSo.out HIo.out (arr32_one _) rfl rfl ?_
            refine hK' _ _ ⟨trivial, ?_⟩
            clear hK' K'
            try simp only [Act.put, List.setIfInBounds_toArray, List.set_cons_succ, List.set_cons_zero]
            refine wpAnyH_take (i := 15) (oi := ⟨some 7, _, _, _, _, _⟩) (v := .slice (some ⟨g7, 0, none⟩) 65 c7) rfl (by kernel_rfl) (by kernel_rfl) (by kernel_rfl) (fun _ _ _ h => h) (Or.inl ⟨by rfl, fun w' hw' => by go_simp⟩) trivial ?_
            try simp only [Act.put, List.setIfInBounds_toArray, List.set_cons_succ, List.set_cons_zero]
            refine wpAnyH_done (by kernel_rfl) ?_ _
            exact HNext.out _ _ _ _ _ _ _ _ _ _ _ _ _ _ _ _ _ _ _ _ _ _ _ _ _ _ _ _ _ _ _ _ _ _ _ _ _ _ _ _ _ _ _ _ _ _ _ _ _ _ _ _ _ _ _ g7 c7 _ (below_setRow HBz4a.out hg6 _) (HVz4a.out.setRow (bpart_not_sum HVz4a.out HAz4a.out) _)
        · refine wpOp_step (o := ⟨some 6, _, _, _, _, _⟩) rfl (fun K' hK' => ?_)
          rw [if_pos (show Region.wanted _ _ = true from rfl)]
          go_simp
          refine hK' _ _ ⟨trivial, ?_⟩
          clear hK' K'
          try simp only [Act.put, List.setIfInBounds_toArray, List.set_cons_succ, List.set_cons_zero]
          have hg6 : w.heap.size ≤ z1.heap.size := HBz1.out.size
          refine gen_world (P := fun W' => wpAnyH _ _ _ _ _ _ _ _ W') (I := fun V => Below w.heap.size w V ∧ Has V z1.heap.size 26 zero32) _ ⟨HBz1.out.alloc HBz1.out.size _, fresh_sum z1⟩ ?_
          rintro z1a ⟨hB, hA⟩
          generalize z1.heap.size = g6 at *
          have HBz1a := Lib.hid hB
          have HAz1a := Lib.hid hA
          clear hB hA
          refine wpAnyH_all (rs := [7]) (by kernel_rfl) (by simp) ?_
          intro i hi
          obtain rfl : i = 7 := by simpa using hi
          clear hi
          refine wpOp_step (o := ⟨some 41, _, _, _, _, _⟩) rfl (fun K' hK' => ?_)
          rw [if_pos (show Region.wanted _ _ = true from rfl)]
          go_simp
          (with_reducible refine (HL2.out z1a HBz1a.out).mono ?_)
          rintro e z2a ⟨rfl, hb⟩
          refine hK' _ _ ⟨trivial, ?_⟩
          clear hK' K'
          try simp only [Act.put, List.setIfInBounds_toArray, List.set_cons_succ, List.set_cons_zero]
          have HBz2a := Lib.hid (HBz1a.out.trans (hb.mono HBz1a.out.size))
          have HAz2a := Lib.hid (HAz1a.out.below hb HAz1a.out.lt)
          clear hb
          refine wpAnyH_all (rs := [8]) (by kernel_rfl) (by simp) ?_
          intro i hi
          obtain rfl : i = 8 := by simpa using hi
          clear hi
          refine wpOp_step (o := ⟨some 42, _, _, _, _, _⟩) rfl (fun K' hK' => ?_)
          rw [if_pos (show Region.wanted _ _ = true from rfl)]
          refine opw_slice2 26 i9 _ (arr32 A) (arr32 B) Tryd.underlying49 hi9 hz90 HSa.out HSb.out (by rw [hz91]; decide) (by rw [hz91]; decide) rfl rfl ?_
          refine hK' _ _ ⟨trivial, ?_⟩
          clear hK' K'
          try simp only [Act.put, List.setIfInBounds_toArray, List.set_cons_succ, List.set_cons_zero]
          refine gen_world (P := fun W' => wpAnyH _ _ _ _ _ _ _ _ W') (I := fun V => Below w.heap.size w V ∧ V.ownsRow w.heap.size 26 32 (.slice (some ⟨z2a.heap.size, 0, none⟩) 2 2) 2 ([A, B].flatMap cellsOf) ∧ Has V g6 26 zero32) _ ⟨HBz2a.out.alloc HBz2a.out.size _, own_lit2 A B HLa.out HLb.out HBz2a.out.size, HAz2a.out.alloc _⟩ ?_
          rintro z3a ⟨hB, hS, hA⟩
          generalize z2a.heap.size = g8 at *
          have HBz3a := Lib.hid hB
          have HSz3a := Lib.hid hS
          have HAz3a := Lib.hid hA
          clear hB hS hA
          refine wpAnyH_all (rs := [9]) (by kernel_rfl) (by simp) ?_
          intro i hi
          obtain rfl : i = 9 := by simpa using hi
          clear hi
          refine wpOp_step (o := ⟨some 43, _, _, _, _, _⟩) rfl (fun K' hK' => ?_)
          rw [if_pos (show Region.wanted _ _ = true from rfl)]
          go_simp
          (with_reducible refine (HJ.out g8 z3a HBz3a.out HSz3a.out).mono ?_)
          rintro e z4a ⟨g7, c7, rfl, hv, hb⟩
          refine hK' _ _ ⟨trivial, ?_⟩
          clear hK' K'
          try simp only [Act.put, List.setIfInBounds_toArray, List.set_cons_succ, List.set_cons_zero]
          have HBz4a := Lib.hid (HBz3a.out.trans (hb.mono HBz3a.out.size))
          have HVz4a := Lib.hid hv
          have HAz4a := Lib.hid (HAz3a.out.below hb HAz3a.out.lt)
          clear hb hv
          refine wpAnyH_take (i := 10) (oi := ⟨some 33, _, _, _, _, _⟩) (v := .tuple #[.agg (arr32 out), .slice (some ⟨g7, 0, none⟩) 65 c7]) rfl (by kernel_rfl) (by kernel_rfl) (by kernel_rfl) (fun _ _ _ h => h) (Or.inl ⟨by rfl, fun w' hw' => by go_simp⟩) trivial ?_
          try simp only [Act.put, List.setIfInBounds_toArray, List.set_cons_succ, List.set_cons_zero]
          refine wpAnyH_take (i := 11) (oi := ⟨some 44, _, _, _, _, _⟩) (v := .agg (arr32 out)) rfl (by kernel_rfl) (by kernel_rfl) (by kernel_rfl) (fun _ _ _ h => h) (Or.inl ⟨by rfl, fun w' hw' => by go_simp⟩) trivial ?_
          try simp only [Act.put, List.setIfInBounds_toArray, List.set_cons_succ, List.set_cons_zero]
          refine wpAnyH_take (i := 12) (oi := ⟨some 45, _, _, _, _, _⟩) (v := .slice (some ⟨g7, 0, none⟩) 65 c7) rfl (by kernel_rfl) (by kernel_rfl) (by kernel_rfl) (fun _ _ _ h => h) (Or.inl ⟨by rfl, fun w' hw' => by go_simp⟩) trivial ?_
          try simp only [Act.put, List.setIfInBounds_toArray, List.set_cons_succ, List.set_cons_zero]
          refine wpAnyH_all (rs := [14]) (by kernel_rfl) (by simp) ?_
          intro i hi
          obtain rfl : i = 14 := by simpa using hi
          clear hi
          refine wpOp_step (o := ⟨none, _, _, _, _, _⟩) rfl (fun K' hK' => ?_)
          rw [if_pos (show Region.wanted _ _ = true from rfl)]
          refine opw_store g6 (arr32 out) _ _ HAz4a.out HSo.out HIo.out (arr32_one _) rfl rfl ?_
          refine hK' _ _ ⟨trivial, ?_⟩
          clear hK' K'
          try simp only [Act.put, List.setIfInBounds_toArray, List.set_cons_succ, List.set_cons_zero]
          refine wpAnyH_take (i := 15) (oi := ⟨some 7, _, _, _, _, _⟩) (v := .slice (some ⟨g7, 0, none⟩) 65 c7) rfl (by kernel_rfl) (by kernel_rfl) (by kernel_rfl) (fun _ _ _ h => h) (Or.inl ⟨by rfl, fun w' hw' => by go_simp⟩) trivial ?_
          try simp only [Act.put, List.setIfInBounds_toArray, List.set_cons_succ, List.set_cons_zero]
          refine wpAnyH_done (by kernel_rfl) ?_ _
          exact HNext.out _ _ _ _ _ _ _ _ _ _ _ _ _ _ _ _ _ _ _ _ _ _ _ _ _ _ _ _ _ _ _ _ _ _ _ _ _ _ _ _ _ _ _ _ _ _ _ _ _ _ _ _ _ _ _ g7 c7 _ (below_setRow HBz4a.out hg6 _) (HVz4a.out.setRow (bpart_not_sum HVz4a.out HAz4a.out) _)
      · refine wpOp_step (o := ⟨some 6, _, _, _, _, _⟩) rfl (fun K' hK' => ?_)
        rw [if_pos (show Region.wanted _ _ = true from rfl)]
        go_simp
        refine hK' _ _ ⟨trivial, ?_⟩
        clear hK' K'
        try simp only [Act.put, List.setIfInBounds_toArray, List.set_cons_succ, List.set_cons_zero]
        have hg6 : w.heap.size ≤ z0.heap.size := HBz0.out.size
        refine gen_world (P := fun W' => wpAnyH _ _ _ _ _ _ _ _ W') (I := fun V => Below w.heap.size w V ∧ Has V z0.heap.size 26 zero32) _ ⟨HBz0.out.alloc HBz0.out.size _, fresh_sum z0⟩ ?_
        rintro z0a ⟨hB, hA⟩
        generalize z0.heap.size = g6 at *
        have HBz0a := Lib.hid hB
        have HAz0a := Lib.hid hA
        clear hB hA
        refine wpAnyH_all (rs := [3]) (by kernel_rfl) (by simp) ?_
        intro i hi
        obtain rfl : i = 3 := by simpa using hi
        clear hi
        refine wpOp_step (o := ⟨some 37, _, _, _, _, _⟩) rfl (fun K' hK' => ?_)
        rw [if_pos (show Region.wanted _ _ = true from rfl)]
        go_simp
        (with_reducible refine (HL1.out z0a HBz0a.out).mono ?_)
        rintro e z1a ⟨rfl, hb⟩
        refine hK' _ _ ⟨trivial, ?_⟩
        clear hK' K'
        try simp only [Act.put, List.setIfInBounds_toArray, List.set_cons_succ, List.set_cons_zero]
        have HBz1a := Lib.hid (HBz0a.out.trans (hb.mono HBz0a.out.size))
        have HAz1a := Lib.hid (HAz0a.out.below hb HAz0a.out.lt)
        clear hb
        refine wpAnyH_all (rs := [7]) (by kernel_rfl) (by simp) ?_
        intro i hi
        obtain rfl : i = 7 := by simpa using hi
        clear hi
        refine wpOp_step (o := ⟨some 41, _, _, _, _, _⟩) rfl (fun K' hK' => ?_)
        rw [if_pos (show Region.wanted _ _ = true from rfl)]
        go_simp
        (with_reducible refine (HL2.out z1a HBz1a.out).mono ?_)
        rintro e z2a ⟨rfl, hb⟩
        refine hK' _ _ ⟨trivial, ?_⟩
        clear hK' K'
        try simp only [Act.put, List.setIfInBounds_toArray, List.set_cons_succ, List.set_cons_zero]
        have HBz2a := Lib.hid (HBz1a.out.trans (hb.mono HBz1a.out.size))
        have HAz2a := Lib.hid (HAz1a.out.below hb HAz1a.out.lt)
        clear hb
        refine wpAnyH_all (rs := [8]) (by kernel_rfl) (by simp) ?_
        intro i hi
        obtain rfl : i = 8 := by simpa using hi
        clear hi
        refine wpOp_step (o := ⟨some 42, _, _, _, _, _⟩) rfl (fun K' hK' => ?_)
        rw [if_pos (show Region.wanted _ _ = true from rfl)]
        refine opw_slice2 26 i9 _ (arr32 A) (arr32 B) Tryd.underlying49 hi9 hz90 HSa.out HSb.out (by rw [hz91]; decide) (by rw [hz91]; decide) rfl rfl ?_
        refine hK' _ _ ⟨trivial, ?_⟩
        clear hK' K'
        try simp only [Act.put, List.setIfInBounds_toArray, List.set_cons_succ, List.set_cons_zero]
        refine gen_world (P := fun W' => wpAnyH _ _ _ _ _ _ _ _ W') (I := fun V => Below w.heap.size w V ∧ V.ownsRow w.heap.size 26 32 (.slice (some ⟨z2a.heap.size, 0, none⟩) 2 2) 2 ([A, B].flatMap cellsOf) ∧ Has V g6 26 zero32) _ ⟨HBz2a.out.alloc HBz2a.out.size _, own_lit2 A B HLa.out HLb.out HBz2a.out.size, HAz2a.out.alloc _⟩ ?_
        rintro z3a ⟨hB, hS, hA⟩
        generalize z2a.heap.size = g8 at *
        have HBz3a := Lib.hid hB
        have HSz3a := Lib.hid hS
        have HAz3a := Lib.hid hA
        clear hB hS hA
        refine wpAnyH_all (rs := [9]) (by kernel_rfl) (by simp) ?_
        intro i hi
        obtain rfl : i = 9 := by simpa using hi
        clear hi
        refine wpOp_step (o := ⟨some 43, _, _, _, _, _⟩) rfl (fun K' hK' => ?_)
        rw [if_pos (show Region.wanted _ _ = true from rfl)]
        go_simp
        (with_reducible refine (HJ.out g8 z3a HBz3a.out HSz3a.out).mono ?_)
        rintro e z4a ⟨g7, c7, rfl, hv, hb⟩
        refine hK' _ _ ⟨trivial, ?_⟩
        clear hK' K'
        try simp only [Act.put, List.setIfInBounds_toArray, List.set_cons_succ, List.set_cons_zero]
        have HBz4a := Lib.hid (HBz3a.out.trans (hb.mono HBz3a.out.size))
        have HVz4a := Lib.hid hv
        have HAz4a := Lib.hid (HAz3a.out.below hb HAz3a.out.lt)
        clear hb hv
        refine wpAnyH_take (i := 10) (oi := ⟨some 33, _, _, _, _, _⟩) (v := .tuple #[.agg (arr32 out), .slice (some ⟨g7, 0, none⟩) 65 c7]) rfl (by kernel_rfl) (by kernel_rfl) (by kernel_rfl) (fun _ _ _ h => h) (Or.inl ⟨by rfl, fun w' hw' => by go_simp⟩) trivial ?_
        try simp only [Act.put, List.setIfInBounds_toArray, List.set_cons_succ, List.set_cons_zero]
        refine wpAnyH_take (i := 11) (oi := ⟨some 44, _, _, _, _, _⟩) (v := .agg (arr32 out)) rfl (by kernel_rfl) (by kernel_rfl) (by kernel_rfl) (fun _ _ _ h => h) (Or.inl ⟨by rfl, fun w' hw' => by go_simp⟩) trivial ?_
        try simp only [Act.put, List.setIfInBounds_toArray, List.set_cons_succ, List.set_cons_zero]
        refine wpAnyH_take (i := 12) (oi := ⟨some 45, _, _, _, _, _⟩) (v := .slice (some ⟨g7, 0, none⟩) 65 c7) rfl (by kernel_rfl) (by kernel_rfl) (by kernel_rfl) (fun _ _ _ h => h) (Or.inl ⟨by rfl, fun w' hw' => by go_simp⟩) trivial ?_
        try simp only [Act.put, List.setIfInBounds_toArray, List.set_cons_succ, List.set_cons_zero]
        refine wpAnyH_all (rs := [14]) (by kernel_rfl) (by simp) ?_
        intro i hi
        obtain rfl : i = 14 := by simpa using hi
        clear hi
        refine wpOp_step (o := ⟨none, _, _, _, _, _⟩) rfl (fun K' hK' => ?_)
        rw [if_pos (show Region.wanted _ _ = true from rfl)]
        refine opw_store g6 (arr32 out) _ _ HAz4a.out HSo.out HIo.out (arr32_one _) rfl rfl ?_
        refine hK' _ _ ⟨trivial, ?_⟩
        clear hK' K'
        try simp only [Act.put, List.setIfInBounds_toArray, List.set_cons_succ, List.set_cons_zero]
        refine wpAnyH_take (i := 15) (oi := ⟨some 7, _, _, _, _, _⟩) (v := .slice (some ⟨g7, 0, none⟩) 65 c7) rfl (by kernel_rfl) (by kernel_rfl) (by kernel_rfl) (fun _ _ _ h => h) (Or.inl ⟨by rfl, fun w' hw' => by go_simp⟩) trivial ?_
        try simp only [Act.put, List.setIfInBounds_toArray, List.set_cons_succ, List.set_cons_zero]
        refine wpAnyH_done (by kernel_rfl) ?_ _
        exact HNext.out _ _ _ _ _ _ _ _ _ _ _ _ _ _ _ _ _ _ _ _ _ _ _ _ _ _ _ _ _ _ _ _ _ _ _ _ _ _ _ _ _ _ _ _ _ _ _ _ _ _ _ _ _ _ _ g7 c7 _ (below_setRow HBz4a.out hg6 _) (HVz4a.out.setRow (bpart_not_sum HVz4a.out HAz4a.out) _)
end Go.Proofs.YtffdkniahdekjaaDoor
end
section
namespace Go.Proofs.YtffdkniahdekjaaDoor
open Go.RowKit Go.Hoar
set_option maxHeartbeats 1000000 in
theorem made_none (f : Nat) (a : Option Addr) (c : Nat) (w : World) :
    Calls Tryd.prog 54 #[.slice a 0 c] w fun e w' => ∃ v vals, e = .returned v ∧ w'.ownsRow w.heap.size 22 1 v (madeOf (f + 1) []).length vals ∧ BRows w' vals (madeOf (f + 1) []) ∧ Below w.heap.size w w' := by
  go_enter Tryd.func54, Tryd.ntmps54
  go_wp2
  go_ret
  have h1 : Has (w.alloc (.cells #[.int .u8 0] 5)) w.heap.size 5 #[.int .u8 0] := Has.fresh _ _ _
  refine ⟨_, [.slice (some ⟨w.heap.size, 0, none⟩) 1 1], rfl, own_one (g := w.heap.size + 1) (Has.fresh_at _ _ _ _ (by simp)) (by omega), ⟨⟨w.heap.size, 1, #[.int .u8 0], rfl, h1.alloc _, rfl, Nat.le_refl _, by decide⟩, trivial⟩, ((Below.refl _ w).alloc (Nat.le_refl _) _).alloc (by simp) _⟩
set_option maxRecDepth 100000 in
set_option maxHeartbeats 3000000 in
theorem made_one (f : Nat) (x : List Nat) (hx : x.length = 32) (hxb : Sha.Bytes x) (g off c : Nat) (w : World) (hs : SumsAt w g off [x]) (_hg : g < w.heap.size) (hnc : 1 ≤ c) (_hcm : c ≤ maxLen) (hc : ConstAt w) :
    Calls Tryd.prog 54 #[.slice (some ⟨g, off, none⟩) 1 c] w fun e w' => ∃ v vals, e = .returned v ∧ w'.ownsRow w.heap.size 22 1 v (madeOf (f + 1) [x]).length vals ∧ BRows w' vals (madeOf (f + 1) [x]) ∧ Below w.heap.size w w' := by
  obtain ⟨i9, hi9, hz90, hz91, _⟩ := info_parts sumInfo3
  have hrow : ∀ j u, (arr32 x)[j]? = some u → w.cell? ((⟨g, off, none⟩ : Addr).add j) = some u := by
    have h := hs.row (i := 0) (l := x) rfl
    simpa using h
  obtain ⟨out, hout⟩ : ∃ out, out = Sha.sha (1 :: x) := ⟨_, rfl⟩
  have hol : out.length = 32 := by rw [hout]; exact (sha_bytes _).1
  have HJ : Hid (∀ V : World, Below w.heap.size w V → V.ownsRow w.heap.size 26 32 (.slice (some ⟨w.heap.size, 0, none⟩) 1 1) 1 ([x].flatMap cellsOf) → Calls Tryd.prog 86 #[.int .u8 1, .slice (some ⟨w.heap.size, 0, none⟩) 1 1] V fun e w' => ∃ g7 c7, e = .returned (.tuple #[.agg (arr32 out), .slice (some ⟨g7, 0, none⟩) 33 c7]) ∧ BPart w' (.slice (some ⟨g7, 0, none⟩) 33 c7) (1 :: x) ∧ Below V.heap.size V w') := Lib.hid fun V hV ho => by
    have h := joined_lit 1 (by decide) [x] (fun l hl => by rw [List.mem_singleton.1 hl]; exact ⟨hx, hxb⟩) 1 rfl (by decide) w.heap.size 1 w.heap.size V ho (hc.below hV rfl) 33 rfl
    have e : [x].flatten = x := by simp
    rw [e, ← hout] at h
    exact h
  have HRow := Lib.hid hrow
  have HI := Lib.hid (arr32_info x (by omega))
  have HIo := Lib.hid (arr32_info out (by omega))
  have HSo := Lib.hid (zero32_size out (by omega))
  have HSx : Hid ((arr32 x).size = i9.size) := Lib.hid (by rw [hz91]; exact arr32_size x (by omega))
  have hsz : (arr32 x).size = 32 := arr32_size x (by omega)
  have HOx := Lib.hid (own_lit1 x hx (V := w) (base := w.heap.size) (Nat.le_refl _))
  have HBx := Lib.hid ((Below.refl _ w).alloc (Nat.le_refl _) (.cells (arr32 x) 26))
  have HF0 : Hid (∀ V : World, Has (V.alloc (.cells zero32 26)) V.heap.size 26 zero32) := Lib.hid fun V => fresh_sum V
  have hc0 : 0 < c := hnc
  have s1 : (arr32 x).size ≤ 1000 := by omega
  have s2 : 0 < (arr32 x).size := by omega
  have HS1 := Lib.hid s1
  have HS2 := Lib.hid s2
  unfold maxLen at _hcm
  clear hs hrow hc hout hsz s1 s2
  go_enter Tryd.func54, Tryd.ntmps54
  go_upto_region 5 with (first
    | ((with_reducible refine arm_load ⟨g, off, none⟩ (arr32 x) _ HRow.out Tryd.underlying26 HI.out ?h1 ?h2 ?_); (case h1 => rfl); (case h2 => rfl))
    | ((with_reducible refine arm_slice1 26 i9 _ (arr32 x) Tryd.underlying49 hi9 hz90 HSx.out HS1.out HS2.out ?s3 ?_); (case s3 => rfl))
    | (go_at_call 86; (with_reducible refine (HJ.out _ HBx.out HOx.out).mono ?_); rintro e w2 ⟨g7, c7, rfl, hv, hb⟩; have HB2 := Lib.hid (HBx.out.trans (hb.mono HBx.out.size)); have HV2 := Lib.hid hv; have HF := Lib.hid (HF0.out w2); clear hb hv)
    | ((with_reducible refine arm_store w2.heap.size (arr32 out) 26 zero32 HF.out HSo.out HIo.out (arr32_one _) ?h5 ?h6 ?_); (case h5 => rfl); (case h6 => rfl)))
  refine gen_world (P := fun W => Code.wp _ _ _ _ W) (I := fun V => Below w.heap.size w V ∧ BPart V (.slice (some ⟨g7, 0, none⟩) 33 c7) (1 :: x)) _ ⟨below_setRow (HB2.out.alloc HB2.out.size _) HB2.out.size _, (HV2.out.below ((Below.refl _ w2).alloc (Nat.le_refl _) _)).setRow (bpart_not_sum (HV2.out.below ((Below.refl _ w2).alloc (Nat.le_refl _) _)) HF.out) _⟩ ?_
  rintro V ⟨hB, hV⟩
  have HB := Lib.hid hB
  have HV := Lib.hid hV
  clear hB hV HF HB2 HV2
  go_wp2
  go_ret
  exact ⟨_, [.slice (some ⟨g7, 0, none⟩) 33 c7], rfl, own_one (Has.fresh _ _ _) HB.out.size, ⟨HV.out.below ((Below.refl _ V).alloc (Nat.le_refl _) _), trivial⟩, HB.out.alloc HB.out.size _⟩
theorem made_any : ∀ f : Nat, MadeOk f
  | 0 => fun _ _ _ _ h => absurd h (Nat.not_lt_zero _)
  | f + 1 => fun ls a c w hf hn hok hr hc => by
    match ls, hf, hn, hok, hr with
    | [], _, _, _, hr => exact made_none f a c w
    | [x], _, _, hok, hr =>
      rcases hr with ⟨_, he, _⟩ | ⟨g, off, rfl, hg, hs, hc1, hm⟩
      · cases he
      · have h := hok x List.mem_cons_self
        exact made_one f x h.1 h.2 g off c w hs hg hc1 hm hc
    | x :: y :: r, hf, hn, hok, hr =>
      rcases hr with ⟨_, he, _⟩ | ⟨g, off, rfl, hg, hs, hc1, hm⟩
      · cases he
      · exact made_many f (made_any f) (x :: y :: r) _ rfl (by simp) hn hf hok g off c w hs hg hc1 hm hc
end Go.Proofs.YtffdkniahdekjaaDoor
end
section
namespace Go.Proofs.YtffdkniahdekjaaDoor
open Go.RowKit Go.Hoar
theorem quietG_load {P : Program} {C : World → Prop} {K : Act → Prop} {a : Act} {dst : Option Tmp} {ty T : TypeId} {x : Operand} {pos : String} {af : Array Edge} {gd : Option (Nat × Bool)}
    (ad : Addr) (cs : Array Value) (d : TypeDesc) (hc : ∀ w', C w' → ∀ j u, cs[j]? = some u → w'.cell? (ad.add j) = some u) (hu : P.underlying ty = some d)
    (hi : (P.info? ty).map (·.size) = some cs.size) (hx : a.eval x = .pointer (some ad))
    (hd : (match d with | .struct _ | .array _ _ => true | _ => false) = true) (hk : K (a.put dst (.agg cs))) :
    Oper.quiet P ⟨dst, .load ty x, T, pos, af, gd⟩ a C K :=
  ⟨.agg cs, fun w hw => by
    have hr := run_loadVar_at (P := P) w ad ty cs d (hc w hw) hu hd hi
    unfold Oper.quietAt execOp
    simp only [hx, Instr.loadAt, Instr.sureAddr, Sem.run_bind, Sem.run_pure, Result.andThen_ok, hr]
    exact ⟨rfl, rfl⟩, hk⟩
theorem quietG_call2 {P : Program} {C : World → Prop} {K : Act → Prop} {a : Act} {dst : Option Tmp} {f : FuncId} {T : TypeId} {x y : Operand} {ts : Array TypeId} {pos : String} {af : Array Edge} {gd : Option (Nat × Bool)}
    (eg : ∀ args w, (callFunc f args).run P w = .ok (.enter f args) w) (u1 u2 v : Value) (hx : a.eval x = u1) (hy : a.eval y = u2)
    (hc : ∀ w', C w' → Calls P f #[u1, u2] w' fun e w'' => e = .returned v ∧ C w'') (hk : K (a.put dst v)) :
    Oper.quiet P ⟨dst, .call { callee := .value (.func f), args := #[x, y], argTypes := ts }, T, pos, af, gd⟩ a C K :=
  ⟨v, fun w hw => by
    have hf : a.eval (.func f) = .func (.func f) #[] #[] := rfl
    unfold Oper.quietAt
    simp [execOp, resolve, Deferred.ofValue, invoke, hx, hy, hf, eg, Oper.quietUpon, hc w hw], hk⟩
theorem quietG_call1 {P : Program} {C : World → Prop} {K : Act → Prop} {a : Act} {dst : Option Tmp} {f : FuncId} {T : TypeId} {x : Operand} {ts : Array TypeId} {pos : String} {af : Array Edge} {gd : Option (Nat × Bool)}
    (eg : ∀ args w, (callFunc f args).run P w = .ok (.enter f args) w) (u1 v : Value) (hx : a.eval x = u1)
    (hc : ∀ w', C w' → Calls P f #[u1] w' fun e w'' => e = .returned v ∧ C w'') (hk : K (a.put dst v)) :
    Oper.quiet P ⟨dst, .call { callee := .value (.func f), args := #[x], argTypes := ts }, T, pos, af, gd⟩ a C K :=
  ⟨v, fun w hw => by
    have hf : a.eval (.func f) = .func (.func f) #[] #[] := rfl
    unfold Oper.quietAt
    simp [execOp, resolve, Deferred.ofValue, invoke, hx, hf, eg, Oper.quietUpon, hc w hw], hk⟩
theorem quietG_call0 {P : Program} {C : World → Prop} {K : Act → Prop} {a : Act} {dst : Option Tmp} {f : FuncId} {T : TypeId} {ts : Array TypeId} {pos : String} {af : Array Edge} {gd : Option (Nat × Bool)}
    (eg : ∀ args w, (callFunc f args).run P w = .ok (.enter f args) w) (v : Value)
    (hc : ∀ w', C w' → Calls P f #[] w' fun e w'' => e = .returned v ∧ C w'') (hk : K (a.put dst v)) :
    Oper.quiet P ⟨dst, .call { callee := .value (.func f), args := #[], argTypes := ts }, T, pos, af, gd⟩ a C K :=
  ⟨v, fun w hw => by
    have hf : a.eval (.func f) = .func (.func f) #[] #[] := rfl
    unfold Oper.quietAt
    simp [execOp, resolve, Deferred.ofValue, invoke, hf, eg, Oper.quietUpon, hc w hw], hk⟩
/-- What has this value in all worlds of the class. -/
theorem quietG_world {P : Program} {C : World → Prop} {K : Act → Prop} {a : Act} {o : Oper} (v : Value) (h : ∀ w, C w → (execOp a.eval o).run P w = .ok (.value v) w) (hk : K (a.put o.dst v)) : o.quiet P a C K :=
  ⟨v, fun w hw => by unfold Oper.quietAt; rw [h w hw]; exact ⟨rfl, rfl⟩, hk⟩
theorem quietG_value {P : Program} {C : World → Prop} {K : Act → Prop} {a : Act} {o : Oper} (v : Value) (h : ∀ w, (execOp a.eval o).run P w = .ok (.value v) w) (hk : K (a.put o.dst v)) : o.quiet P a C K :=
  quietG_world v (fun w _ => h w) hk
/-- All worlds behind one, which leave what lies there. -/
abbrev Behind (w0 w' : World) : Prop := ∃ V : {V : World // Below w0.heap.size w0 V}, w' = V.1
theorem Behind.out {w0 w' : World} (h : Behind w0 w') : Below w0.heap.size w0 w' := by obtain ⟨⟨V, hV⟩, rfl⟩ := h; exact hV
theorem Behind.of {w0 w' : World} (h : Below w0.heap.size w0 w') : Behind w0 w' := ⟨⟨w', h⟩, rfl⟩
theorem Behind.on {w0 w' w'' : World} (h : Behind w0 w') (hb : Below w'.heap.size w' w'') : Behind w0 w'' := .of (h.out.trans (hb.mono h.out.size))
end Go.Proofs.YtffdkniahdekjaaDoor
end
section
namespace Go.Proofs.YtffdkniahdekjaaDoor
open Go.RowKit Go.Hoar
def Clashing (bss : List (List Nat)) : Prop := ∃ b ∈ bss, ∃ d ∈ bss, b ≠ d ∧ Sha.sha b = Sha.sha d
def NoneTo (bss : List (List Nat)) (i : Nat) : Prop := ∀ p q b d, q < p → p < i → bss[p]? = some b → bss[q]? = some d → b ≠ d → Sha.sha b ≠ Sha.sha d
def NoneIn (bss : List (List Nat)) (i k : Nat) : Prop := ∀ q b d, q < k → bss[i]? = some b → bss[q]? = some d → b ≠ d → Sha.sha b ≠ Sha.sha d
theorem noneTo_all {bss : List (List Nat)} (h : NoneTo bss bss.length) : ¬ Clashing bss := by
  rintro ⟨b, hb, d, hd, hne, he⟩
  obtain ⟨p, hp⟩ := List.getElem?_of_mem hb
  obtain ⟨q, hq⟩ := List.getElem?_of_mem hd
  have hpl := (List.getElem?_eq_some_iff.1 hp).1
  have hql := (List.getElem?_eq_some_iff.1 hq).1
  rcases Nat.lt_trichotomy p q with h1 | h1 | h1
  · exact h q p d b h1 hql hq hp (Ne.symm hne) he.symm
  · subst h1
    rw [hp] at hq
    exact hne (Option.some.inj hq)
  · exact h p q b d h1 hpl hp hq hne he
theorem noneTo_succ {bss : List (List Nat)} {i : Nat} (h : NoneTo bss i) (k : NoneIn bss i i) : NoneTo bss (i + 1) := fun p q b d hq hp hb hd hne => by
  by_cases e : p = i
  · subst e
    exact k q b d hq hb hd hne
  · exact h p q b d hq (by omega) hb hd hne
theorem noneIn_succ {bss : List (List Nat)} {i k : Nat} {b d : List Nat} (h : NoneIn bss i k) (hb : bss[i]? = some b) (hd : bss[k]? = some d) (hn : b ≠ d → Sha.sha b ≠ Sha.sha d) : NoneIn bss i (k + 1) := fun q b' d' hq hb' hd' hne => by
  by_cases e : q = k
  · subst e
    rw [hb] at hb'
    rw [hd] at hd'
    obtain rfl := Option.some.inj hb'
    obtain rfl := Option.some.inj hd'
    exact hn hne
  · exact h q b' d' (by omega) hb' hd' hne
theorem part_of {w : World} {g c : Nat} {b : List Nat} {vs : List Value} {bss : List (List Nat)} {base n : Nat} (ho : w.ownsRow base 22 1 (.slice (some ⟨g, 0, none⟩) n c) n vs) (hr : BRows w vs bss) {i : Nat} (hi : bss[i]? = some b) :
    ∃ gb cb, w.cell? ⟨g, i, none⟩ = some (.slice (some ⟨gb, 0, none⟩) b.length cb) ∧ PartOk w (some ⟨gb, 0, none⟩) cb b ∧ b.length ≤ cb ∧ cb ≤ maxLen := by
  obtain ⟨v, hv, hp⟩ := hr.get i hi
  obtain ⟨gb, cb, rfl, h1, h2, h3⟩ := hp.part
  have hc := own_news ho i _ hv
  rw [Addr.add_lit, Nat.zero_add] at hc
  exact ⟨gb, cb, hc, h1, h2, h3⟩
set_option maxRecDepth 100000 in
set_option maxHeartbeats 6000000 in
theorem clash_any (bss : List (List Nat)) (hby : ∀ b ∈ bss, Sha.Bytes b ∧ b.length ≤ 1000000) (n : Nat) (hn : n = bss.length) (hl : n ≤ 1000) (g c base : Nat) (vals : List Value) (w : World) (ho : w.ownsRow base 22 1 (.slice (some ⟨g, 0, none⟩) n c) n vals) (hr : BRows w vals bss) (hc : ConstAt w) :
    Calls Tryd.prog 53 #[.slice (some ⟨g, 0, none⟩) n c] w fun e w' => ∃ r : Bool, e = .returned (.bool r) ∧ (Clashing bss → r = true) ∧ Below w.heap.size w w' := by
  have hg : g < w.heap.size := (ho.lt g rfl).2
  obtain ⟨_, _, hsh, hnc, hcm⟩ := own_shape ho
  injection hsh with e1 _ e3
  subst e1
  subst e3
  unfold maxLen at hcm
  have HO := Lib.hid ho
  have HR := Lib.hid hr
  have HC := Lib.hid hc
  have HBy := Lib.hid hby
  have HN := Lib.hid hn
  clear ho hr hc hby hn
  have egE : ∀ args w, (callFunc 19 args).run Tryd.prog w = .ok (.enter 19 args) w := enters_of Tryd.func19 (by kernel_rfl) rfl
  have egO : ∀ args w, (callFunc 17 args).run Tryd.prog w = .ok (.enter 17 args) w := enters_of Tryd.func17 (by kernel_rfl) rfl
  go_enter Tryd.func53, Tryd.ntmps53
  go_wp2
  go_loopw [7] (fun iv wr => ∃ i : Nat, i ≤ n ∧ iv = .int .i64 (i : Int) ∧ Hid (NoneTo bss i) ∧ Below w.heap.size w wr) (fun iv _ => n - (intOf iv).toNat)
  case atStart => exact ⟨0, Nat.zero_le _, rfl, Lib.hid (fun p q b d hq hp => absurd hp (Nat.not_lt_zero _)), Below.refl _ _⟩
  case round =>
    obtain ⟨i, hi, rfl, HT, hB⟩ := hrel
    by_cases hlt : i < n
    · have HB1 := Lib.hid hB
      have hic : i < c := by omega
      obtain ⟨b, hb⟩ : ∃ b, bss[i]? = some b := ⟨_, List.getElem?_eq_getElem (by rw [← HN.out]; exact hlt)⟩
      obtain ⟨gb, cb, hcb, hpb, hlb, hmb⟩ := part_of HO.out HR.out hb
      obtain ⟨hbb, hbl⟩ := HBy.out b (List.mem_of_getElem? hb)
      have HCi : Hid (∀ V, Below w.heap.size w V → V.cell? ⟨g, i, none⟩ = some (.slice (some ⟨gb, 0, none⟩) b.length cb)) := Lib.hid fun V hV => (hV.cell hg).trans hcb
      have HPb := Lib.hid hpb
      have HBi := Lib.hid hb
      obtain ⟨A, hA⟩ : ∃ A, A = Sha.sha b := ⟨_, rfl⟩
      have hAl : A.length = 32 := by rw [hA]; exact (sha_bytes _).1
      have HOb : Hid (∀ V, Below w.heap.size w V → Calls Tryd.prog 17 #[.slice (some ⟨gb, 0, none⟩) b.length cb] V fun e w' => e = .returned (.agg (arr32 A)) ∧ Below V.heap.size V w') := Lib.hid fun V hV => (of_any b _ cb V (hpb.below hV) hbb (by omega) (fun _ _ _ => ⟨hlb, hmb⟩) (HC.out.below hV rfl) A (Lib.hid hA)).mono fun e w' h => ⟨h.1, h.2.2⟩
      have HA := Lib.hid hA
      have HBb := Lib.hid hbb
      clear hB hb hcb hpb hbb hA
      go_wp2
      go_loopw [11] (fun kv wr => ∃ k : Nat, k ≤ i ∧ kv = .int .i64 (k : Int) ∧ Hid (NoneIn bss i k) ∧ Below w.heap.size w wr) (fun kv _ => i - (intOf kv).toNat)
      case atStart => exact ⟨0, Nat.zero_le _, rfl, Lib.hid (fun q b d hq => absurd hq (Nat.not_lt_zero _)), HB1.out⟩
      case round =>
        obtain ⟨k, hk, rfl, HI, hB⟩ := hrel
        have HB2 := Lib.hid hB
        clear hB
        by_cases hki : k < i
        · have hkn : k < n := by omega
          have hkc : k < c := by omega
          obtain ⟨d, hd⟩ : ∃ d, bss[k]? = some d := ⟨_, List.getElem?_eq_getElem (by rw [← HN.out]; exact hkn)⟩
          obtain ⟨gd, cd, hcd, hpd, hld, hmd⟩ := part_of HO.out HR.out hd
          obtain ⟨hdb, hdl⟩ := HBy.out d (List.mem_of_getElem? hd)
          have HCk : Hid (∀ V, Below w.heap.size w V → V.cell? ⟨g, k, none⟩ = some (.slice (some ⟨gd, 0, none⟩) d.length cd)) := Lib.hid fun V hV => (hV.cell hg).trans hcd
          obtain ⟨B, hB⟩ : ∃ B, B = Sha.sha d := ⟨_, rfl⟩
          have hBl : B.length = 32 := by rw [hB]; exact (sha_bytes _).1
          have HOd : Hid (∀ V, Below w.heap.size w V → Calls Tryd.prog 17 #[.slice (some ⟨gd, 0, none⟩) d.length cd] V fun e w' => e = .returned (.agg (arr32 B)) ∧ Below V.heap.size V w') := Lib.hid fun V hV => (of_any d _ cd V (hpd.below hV) hdb (by omega) (fun _ _ _ => ⟨hld, hmd⟩) (HC.out.below hV rfl) B (Lib.hid hB)).mono fun e w' h => ⟨h.1, h.2.2⟩
          have heq : ∀ V, Below w.heap.size w V → Calls Tryd.prog 19 #[.slice (some ⟨gb, 0, none⟩) b.length cb, .slice (some ⟨gd, 0, none⟩) d.length cd] V fun e w' => e = .returned (.bool (decide (b = d))) ∧ Below V.heap.size V w' := fun V hV => (equal_any b d HBb.out hdb _ _ cb cd V (HPb.out.below hV) (hpd.below hV)).mono fun e w' h => ⟨h.1, by rw [h.2]; exact Below.refl _ _⟩
          have HDk := Lib.hid hd
          have HBB := Lib.hid hB
          clear hd hcd hpd hdb hB
          by_cases hbd : b = d
          · rw [decide_eq_true hbd] at heq
            have HEq := Lib.hid heq
            have HNx : Hid (NoneIn bss i (k + 1)) := Lib.hid (noneIn_succ HI.out HBi.out HDk.out (fun h => absurd hbd h))
            clear heq hbd
            go_upto_region 7 with (fail)
            haveI hNe : Nonempty {V : World // Below wr.heap.size wr V} := ⟨⟨wr, Below.refl _ _⟩⟩
            refine wp_region_quietC (fun w' => ∃ V : {V : World // Below wr.heap.size wr V}, w' = V.1) (by kernel_rfl) (by kernel_rfl) ⟨⟨wr.drew, (Below.refl _ wr).drew⟩, rfl⟩ ?_
            go_big_quiet_step (fail)
            go_big_quiet_step (fail)
            go_big_quiet_want
            refine quietG_value (.pointer (some ⟨g, i, none⟩)) (fun w => by go_simp) ?_
            simp only [Act.put, List.setIfInBounds_toArray, List.set_cons_succ, List.set_cons_zero]
            go_big_quiet_on
            go_big_quiet_want
            refine quietG_world (.slice (some ⟨gb, 0, none⟩) b.length cb) (fun w hw => by have hq := HCi.out w (HB2.out.trans ((Behind.out hw).mono HB2.out.size)); go_simp) ?_
            simp only [Act.put, List.setIfInBounds_toArray, List.set_cons_succ, List.set_cons_zero]
            go_big_quiet_on
            go_big_quiet_step (fail)
            go_big_quiet_step (fail)
            go_big_quiet_want
            refine quietG_value (.pointer (some ⟨g, k, none⟩)) (fun w => by go_simp) ?_
            simp only [Act.put, List.setIfInBounds_toArray, List.set_cons_succ, List.set_cons_zero]
            go_big_quiet_on
            go_big_quiet_want
            refine quietG_world (.slice (some ⟨gd, 0, none⟩) d.length cd) (fun w hw => by have hq := HCk.out w (HB2.out.trans ((Behind.out hw).mono HB2.out.size)); go_simp) ?_
            simp only [Act.put, List.setIfInBounds_toArray, List.set_cons_succ, List.set_cons_zero]
            go_big_quiet_on
            go_big_quiet_want
            (with_reducible refine quietG_call2 egE (.slice (some ⟨gb, 0, none⟩) b.length cb) (.slice (some ⟨gd, 0, none⟩) d.length cd) (.bool true) ?a1 ?a2 (fun w' hw' => ((HEq.out w' (HB2.out.trans ((Behind.out hw').mono HB2.out.size)))).mono fun e w'' h => ⟨h.1, Behind.on hw' h.2⟩) ?_); (case a1 => rfl); (case a2 => rfl)
            simp only [Act.put, List.setIfInBounds_toArray, List.set_cons_succ, List.set_cons_zero]
            go_big_quiet_on
            go_big_quiet_want
            refine quietG_value (.bool false) (fun w => by go_simp) ?_
            simp only [Act.put, List.setIfInBounds_toArray, List.set_cons_succ, List.set_cons_zero]
            go_big_quiet_on
            go_big_quiet_step (fail)
            go_big_quiet_step (fail)
            go_big_quiet_step (fail)
            go_big_quiet_step (fail)
            go_big_quiet_step (fail)
            go_big_quiet_step (fail)
            go_big_quiet_step (fail)
            go_big_quiet_step (fail)
            go_big_quiet_step (fail)
            go_big_quiet_step (fail)
            go_big_quiet_step (fail)
            go_big_quiet_step (fail)
            go_big_quiet_want
            refine quietG_value (.bool false) (fun w => by go_simp) ?_
            simp only [Act.put, List.setIfInBounds_toArray, List.set_cons_succ, List.set_cons_zero]
            go_big_quiet_on
            refine wpQuiet_nil ?_
            rintro w7 ⟨⟨_, hW7⟩, rfl⟩
            have HB7 := Lib.hid (HB2.out.trans (hW7.mono HB2.out.size))
            clear hW7 hNe
            go_wp2
            go_roundw
            case rel => exact ⟨k + 1, by omega, by go_num, HNx, HB7.out⟩
            case measure => simp [intOf]; omega
          · rw [decide_eq_false hbd] at heq
            have HEq := Lib.hid heq
            clear heq
            by_cases hsh : A = B
            · have HCl : Hid (Clashing bss) := Lib.hid ⟨b, List.mem_of_getElem? HBi.out, d, List.mem_of_getElem? HDk.out, hbd, by rw [← HA.out, ← HBB.out, hsh]⟩
              have HEl : Hid (∀ V : World, (binOp .eql 26 (.agg (arr32 A)) (.agg (arr32 B))).run Tryd.prog V = .ok (.bool true) V) := Lib.hid fun V => by
                have := sum_eql A B hAl hBl V
                rwa [decide_eq_true hsh] at this
              clear hsh hbd
              go_upto_region 7 with (fail)
              haveI hNe : Nonempty {V : World // Below wr.heap.size wr V} := ⟨⟨wr, Below.refl _ _⟩⟩
              refine wp_region_quietC (fun w' => ∃ V : {V : World // Below wr.heap.size wr V}, w' = V.1) (by kernel_rfl) (by kernel_rfl) ⟨⟨wr.drew, (Below.refl _ wr).drew⟩, rfl⟩ ?_
              go_big_quiet_step (fail)
              go_big_quiet_step (fail)
              go_big_quiet_want
              refine quietG_value (.pointer (some ⟨g, i, none⟩)) (fun w => by go_simp) ?_
              simp only [Act.put, List.setIfInBounds_toArray, List.set_cons_succ, List.set_cons_zero]
              go_big_quiet_on
              go_big_quiet_want
              refine quietG_world (.slice (some ⟨gb, 0, none⟩) b.length cb) (fun w hw => by have hq := HCi.out w (HB2.out.trans ((Behind.out hw).mono HB2.out.size)); go_simp) ?_
              simp only [Act.put, List.setIfInBounds_toArray, List.set_cons_succ, List.set_cons_zero]
              go_big_quiet_on
              go_big_quiet_step (fail)
              go_big_quiet_step (fail)
              go_big_quiet_want
              refine quietG_value (.pointer (some ⟨g, k, none⟩)) (fun w => by go_simp) ?_
              simp only [Act.put, List.setIfInBounds_toArray, List.set_cons_succ, List.set_cons_zero]
              go_big_quiet_on
              go_big_quiet_want
              refine quietG_world (.slice (some ⟨gd, 0, none⟩) d.length cd) (fun w hw => by have hq := HCk.out w (HB2.out.trans ((Behind.out hw).mono HB2.out.size)); go_simp) ?_
              simp only [Act.put, List.setIfInBounds_toArray, List.set_cons_succ, List.set_cons_zero]
              go_big_quiet_on
              go_big_quiet_want
              (with_reducible refine quietG_call2 egE (.slice (some ⟨gb, 0, none⟩) b.length cb) (.slice (some ⟨gd, 0, none⟩) d.length cd) (.bool false) ?a1 ?a2 (fun w' hw' => ((HEq.out w' (HB2.out.trans ((Behind.out hw').mono HB2.out.size)))).mono fun e w'' h => ⟨h.1, Behind.on hw' h.2⟩) ?_); (case a1 => rfl); (case a2 => rfl)
              simp only [Act.put, List.setIfInBounds_toArray, List.set_cons_succ, List.set_cons_zero]
              go_big_quiet_on
              go_big_quiet_want
              refine quietG_value (.bool true) (fun w => by go_simp) ?_
              simp only [Act.put, List.setIfInBounds_toArray, List.set_cons_succ, List.set_cons_zero]
              go_big_quiet_on
              go_big_quiet_step (fail)
              go_big_quiet_step (fail)
              go_big_quiet_step (fail)
              go_big_quiet_want
              refine quietG_value (.pointer (some ⟨g, i, none⟩)) (fun w => by go_simp) ?_
              simp only [Act.put, List.setIfInBounds_toArray, List.set_cons_succ, List.set_cons_zero]
              go_big_quiet_on
              go_big_quiet_want
              refine quietG_world (.slice (some ⟨gb, 0, none⟩) b.length cb) (fun w hw => by have hq := HCi.out w (HB2.out.trans ((Behind.out hw).mono HB2.out.size)); go_simp) ?_
              simp only [Act.put, List.setIfInBounds_toArray, List.set_cons_succ, List.set_cons_zero]
              go_big_quiet_on
              go_big_quiet_want
              (with_reducible refine quietG_call1 egO (.slice (some ⟨gb, 0, none⟩) b.length cb) (.agg (arr32 A)) ?a1 (fun w' hw' => (HOb.out w' (HB2.out.trans ((Behind.out hw').mono HB2.out.size))).mono fun e w'' h => ⟨h.1, Behind.on hw' h.2⟩) ?_); (case a1 => rfl)
              simp only [Act.put, List.setIfInBounds_toArray, List.set_cons_succ, List.set_cons_zero]
              go_big_quiet_on
              go_big_quiet_step (fail)
              go_big_quiet_step (fail)
              go_big_quiet_want
              refine quietG_value (.pointer (some ⟨g, k, none⟩)) (fun w => by go_simp) ?_
              simp only [Act.put, List.setIfInBounds_toArray, List.set_cons_succ, List.set_cons_zero]
              go_big_quiet_on
              go_big_quiet_want
              refine quietG_world (.slice (some ⟨gd, 0, none⟩) d.length cd) (fun w hw => by have hq := HCk.out w (HB2.out.trans ((Behind.out hw).mono HB2.out.size)); go_simp) ?_
              simp only [Act.put, List.setIfInBounds_toArray, List.set_cons_succ, List.set_cons_zero]
              go_big_quiet_on
              go_big_quiet_want
              (with_reducible refine quietG_call1 egO (.slice (some ⟨gd, 0, none⟩) d.length cd) (.agg (arr32 B)) ?a1 (fun w' hw' => (HOd.out w' (HB2.out.trans ((Behind.out hw').mono HB2.out.size))).mono fun e w'' h => ⟨h.1, Behind.on hw' h.2⟩) ?_); (case a1 => rfl)
              simp only [Act.put, List.setIfInBounds_toArray, List.set_cons_succ, List.set_cons_zero]
              go_big_quiet_on
              go_big_quiet_want
              have heql := HEl.out
              have hgd := sum_guard
              refine quietG_value (.bool true) (fun w => by go_simp) ?_
              clear heql hgd
              simp only [Act.put, List.setIfInBounds_toArray, List.set_cons_succ, List.set_cons_zero]
              go_big_quiet_on
              go_big_quiet_want
              refine quietG_value (.bool true) (fun w => by go_simp) ?_
              simp only [Act.put, List.setIfInBounds_toArray, List.set_cons_succ, List.set_cons_zero]
              go_big_quiet_on
              refine wpQuiet_nil ?_
              rintro w7 ⟨⟨_, hW7⟩, rfl⟩
              have HB7 := Lib.hid (HB2.out.trans (hW7.mono HB2.out.size))
              clear hW7 hNe
              go_wp2
              go_ret
              exact ⟨true, rfl, fun _ => rfl, HB7.out⟩
            · have HNx : Hid (NoneIn bss i (k + 1)) := Lib.hid (noneIn_succ HI.out HBi.out HDk.out (fun _ e => hsh (by rw [HA.out, HBB.out, e])))
              have HEl : Hid (∀ V : World, (binOp .eql 26 (.agg (arr32 A)) (.agg (arr32 B))).run Tryd.prog V = .ok (.bool false) V) := Lib.hid fun V => by
                have := sum_eql A B hAl hBl V
                rwa [decide_eq_false hsh] at this
              clear hsh hbd
              go_upto_region 7 with (fail)
              haveI hNe : Nonempty {V : World // Below wr.heap.size wr V} := ⟨⟨wr, Below.refl _ _⟩⟩
              refine wp_region_quietC (fun w' => ∃ V : {V : World // Below wr.heap.size wr V}, w' = V.1) (by kernel_rfl) (by kernel_rfl) ⟨⟨wr.drew, (Below.refl _ wr).drew⟩, rfl⟩ ?_
              go_big_quiet_step (fail)
              go_big_quiet_step (fail)
              go_big_quiet_want
              refine quietG_value (.pointer (some ⟨g, i, none⟩)) (fun w => by go_simp) ?_
              simp only [Act.put, List.setIfInBounds_toArray, List.set_cons_succ, List.set_cons_zero]
              go_big_quiet_on
              go_big_quiet_want
              refine quietG_world (.slice (some ⟨gb, 0, none⟩) b.length cb) (fun w hw => by have hq := HCi.out w (HB2.out.trans ((Behind.out hw).mono HB2.out.size)); go_simp) ?_
              simp only [Act.put, List.setIfInBounds_toArray, List.set_cons_succ, List.set_cons_zero]
              go_big_quiet_on
              go_big_quiet_step (fail)
              go_big_quiet_step (fail)
              go_big_quiet_want
              refine quietG_value (.pointer (some ⟨g, k, none⟩)) (fun w => by go_simp) ?_
              simp only [Act.put, List.setIfInBounds_toArray, List.set_cons_succ, List.set_cons_zero]
              go_big_quiet_on
              go_big_quiet_want
              refine quietG_world (.slice (some ⟨gd, 0, none⟩) d.length cd) (fun w hw => by have hq := HCk.out w (HB2.out.trans ((Behind.out hw).mono HB2.out.size)); go_simp) ?_
              simp only [Act.put, List.setIfInBounds_toArray, List.set_cons_succ, List.set_cons_zero]
              go_big_quiet_on
              go_big_quiet_want
              (with_reducible refine quietG_call2 egE (.slice (some ⟨gb, 0, none⟩) b.length cb) (.slice (some ⟨gd, 0, none⟩) d.length cd) (.bool false) ?a1 ?a2 (fun w' hw' => ((HEq.out w' (HB2.out.trans ((Behind.out hw').mono HB2.out.size)))).mono fun e w'' h => ⟨h.1, Behind.on hw' h.2⟩) ?_); (case a1 => rfl); (case a2 => rfl)
              simp only [Act.put, List.setIfInBounds_toArray, List.set_cons_succ, List.set_cons_zero]
              go_big_quiet_on
              go_big_quiet_want
              refine quietG_value (.bool true) (fun w => by go_simp) ?_
              simp only [Act.put, List.setIfInBounds_toArray, List.set_cons_succ, List.set_cons_zero]
              go_big_quiet_on
              go_big_quiet_step (fail)
              go_big_quiet_step (fail)
              go_big_quiet_step (fail)
              go_big_quiet_want
              refine quietG_value (.pointer (some ⟨g, i, none⟩)) (fun w => by go_simp) ?_
              simp only [Act.put, List.setIfInBounds_toArray, List.set_cons_succ, List.set_cons_zero]
              go_big_quiet_on
              go_big_quiet_want
              refine quietG_world (.slice (some ⟨gb, 0, none⟩) b.length cb) (fun w hw => by have hq := HCi.out w (HB2.out.trans ((Behind.out hw).mono HB2.out.size)); go_simp) ?_
              simp only [Act.put, List.setIfInBounds_toArray, List.set_cons_succ, List.set_cons_zero]
              go_big_quiet_on
              go_big_quiet_want
              (with_reducible refine quietG_call1 egO (.slice (some ⟨gb, 0, none⟩) b.length cb) (.agg (arr32 A)) ?a1 (fun w' hw' => (HOb.out w' (HB2.out.trans ((Behind.out hw').mono HB2.out.size))).mono fun e w'' h => ⟨h.1, Behind.on hw' h.2⟩) ?_); (case a1 => rfl)
              simp only [Act.put, List.setIfInBounds_toArray, List.set_cons_succ, List.set_cons_zero]
              go_big_quiet_on
              go_big_quiet_step (fail)
              go_big_quiet_step (fail)
              go_big_quiet_want
              refine quietG_value (.pointer (some ⟨g, k, none⟩)) (fun w => by go_simp) ?_
              simp only [Act.put, List.setIfInBounds_toArray, List.set_cons_succ, List.set_cons_zero]
              go_big_quiet_on
              go_big_quiet_want
              refine quietG_world (.slice (some ⟨gd, 0, none⟩) d.length cd) (fun w hw => by have hq := HCk.out w (HB2.out.trans ((Behind.out hw).mono HB2.out.size)); go_simp) ?_
              simp only [Act.put, List.setIfInBounds_toArray, List.set_cons_succ, List.set_cons_zero]
              go_big_quiet_on
              go_big_quiet_want
              (with_reducible refine quietG_call1 egO (.slice (some ⟨gd, 0, none⟩) d.length cd) (.agg (arr32 B)) ?a1 (fun w' hw' => (HOd.out w' (HB2.out.trans ((Behind.out hw').mono HB2.out.size))).mono fun e w'' h => ⟨h.1, Behind.on hw' h.2⟩) ?_); (case a1 => rfl)
              simp only [Act.put, List.setIfInBounds_toArray, List.set_cons_succ, List.set_cons_zero]
              go_big_quiet_on
              go_big_quiet_want
              have heql := HEl.out
              have hgd := sum_guard
              refine quietG_value (.bool false) (fun w => by go_simp) ?_
              clear heql hgd
              simp only [Act.put, List.setIfInBounds_toArray, List.set_cons_succ, List.set_cons_zero]
              go_big_quiet_on
              go_big_quiet_want
              refine quietG_value (.bool false) (fun w => by go_simp) ?_
              simp only [Act.put, List.setIfInBounds_toArray, List.set_cons_succ, List.set_cons_zero]
              go_big_quiet_on
              refine wpQuiet_nil ?_
              rintro w7 ⟨⟨_, hW7⟩, rfl⟩
              have HB7 := Lib.hid (HB2.out.trans (hW7.mono HB2.out.size))
              clear hW7 hNe
              go_wp2
              go_roundw
              case rel => exact ⟨k + 1, by omega, by go_num, HNx, HB7.out⟩
              case measure => simp [intOf]; omega
        · obtain rfl : k = i := by omega
          have HNx := Lib.hid (noneTo_succ HT.out HI.out)
          go_wp2
          go_roundw
          case rel => exact ⟨k + 1, by omega, by go_num, HNx, HB2.out⟩
          case measure => simp [intOf]; omega
    · obtain rfl : i = n := by omega
      have HB1 := Lib.hid hB
      have HNo : Hid (¬ Clashing bss) := Lib.hid (noneTo_all (by rw [← HN.out]; exact HT.out))
      clear hB
      go_wp2
      go_ret
      exact ⟨false, rfl, fun h => absurd h HNo.out, HB1.out⟩
end Go.Proofs.YtffdkniahdekjaaDoor
end
