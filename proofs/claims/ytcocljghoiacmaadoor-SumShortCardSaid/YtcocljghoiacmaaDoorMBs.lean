/-
  THE LAW SumShort, WALKED: true, and nothing that was there is turned.
  · YtcocljghoiacmaaDoorRefUnhex
  · THE REFERENCE's Find.
  · THE REFERENCE's Short.
-/
import Derived.Test.YtcocljghoiacmaaDoorMBr
import Derived.Test.YtcocljghoiacmaaDoorMBd
import Derived.BigQuiet
import Derived.Test.YtcocljghoiacmaaDoorMBm
import Derived.Test.YtcocljghoiacmaaDoorMBl
section
namespace Go.Proofs.YtcocljghoiacmaaDoor
open Go.RowKit Go.Hoar
/-- The array behind so many letters. -/
def outAt (s : ByteArray) (k : Nat) : List Nat := packK s (k / 2) ++ if k % 2 = 1 then [valOf (byteAt s (k - 1))] else []
def prevAt (s : ByteArray) (k : Nat) : Nat := if k % 2 = 1 then valOf (byteAt s (k - 1)) else 0
theorem outAt_cell (s : ByteArray) (k : Nat) (hk : k < 64) : (arr32 (outAt s k))[k / 2]? = some (.int .u8 ((prevAt s k : Nat) : Int)) := by
  unfold outAt prevAt
  have hl := packK_length s (k / 2)
  split
  · rw [arr32, List.getElem?_toArray, List.map_append, List.append_assoc, List.getElem?_append_right (by simp [hl]), List.length_map, hl, Nat.sub_self]
    rfl
  · rw [List.append_nil]
    have := arr32_end (packK s (k / 2)) (by omega)
    rwa [hl] at this
theorem outAt_step (s : ByteArray) (k : Nat) (hk : k < 64) : (arr32 (outAt s k)).setIfInBounds (k / 2) (BV (prevAt s k * 16 + valOf (byteAt s k))) = arr32 (outAt s (k + 1)) := by
  have hl := packK_length s (k / 2)
  unfold outAt prevAt
  by_cases h : k % 2 = 1
  · have h' : ¬ (k + 1) % 2 = 1 := by omega
    simp only [if_pos h, if_neg h', List.append_nil]
    rw [show (k + 1) / 2 = k / 2 + 1 by omega, packK_succ]
    have e1 := arr32_set (packK s (k / 2)) (valOf (byteAt s (k - 1))) (by omega)
    have e2 := arr32_set (packK s (k / 2)) (valOf (byteAt s (k - 1)) * 16 + valOf (byteAt s k)) (by omega)
    rw [hl] at e1 e2
    rw [← e1, Array.setIfInBounds_setIfInBounds, e2, show 2 * (k / 2) = k - 1 by omega, show k - 1 + 1 = k by omega]
  · have h' : (k + 1) % 2 = 1 := by omega
    simp only [if_neg h, if_pos h', List.append_nil]
    rw [show (k + 1) / 2 = k / 2 by omega, show k + 1 - 1 = k by omega]
    have e1 := arr32_set (packK s (k / 2)) (0 * 16 + valOf (byteAt s k)) (by omega)
    rw [hl] at e1
    rw [e1, Nat.zero_mul, Nat.zero_add]
theorem index_str (s : ByteArray) (k : Nat) (hk : k < s.size) (w : World) : (Instr.index 9 (.string s) (.int .i64 (k : Int))).run Tryd.prog w = .ok (.int .u8 ((byteAt s k : Nat) : Int)) w := by
  rw [run_index_string w 9 s .i64 (k : Int) Tryd.underlying9]
  have := byteAt_eq s k hk
  simp [hk, this]
set_option maxRecDepth 100000 in
set_option maxHeartbeats 1000000 in
theorem refUnhex_many (s : ByteArray) (h : s.size ≠ 64) (_hsz : s.size ≤ 1099511627776) (w : World) :
    Calls Tryd.prog 27 #[.string s] w fun e w' => e = .returned (.tuple #[.agg (arr32 []), .int .i64 2]) ∧ Below w.heap.size w w' := by
  have hne : ¬ (s.size : Int) = 64 := by omega
  have HI32 := Lib.hid (arr32_info [] (by simp))
  go_enter Tryd.func27, Tryd.ntmps27
  go_upto_region 2 with (fail)
  refine gen_world (P := fun W => Code.wp _ _ _ _ W) (I := fun W => Below w.heap.size w W ∧ Has W w.heap.size 26 (arr32 []) ∧ Has W (w.heap.size + 1) 26 (arr32 [])) _ ⟨((Below.refl _ w).alloc (Nat.le_refl _) _).alloc (by simp) _, (Has.fresh_at _ _ _ _ rfl).alloc _, Has.fresh_at _ _ _ _ (by simp)⟩ ?_
  rintro W ⟨hB, hR, hO⟩
  have HB := Lib.hid hB
  have HR := Lib.hid hR
  have HO := Lib.hid hO.row
  clear hB hR hO
  go_wp2_with (first
    | ((with_reducible refine arm_load (w := W) ⟨w.heap.size + 1, 0, none⟩ _ _ HO.out Tryd.underlying26 HI32.out ?h3 ?h4 ?_); (case h3 => rfl); (case h4 => rfl))
    | ((with_reducible refine arm_store w.heap.size (arr32 []) 26 (arr32 []) HR.out rfl HI32.out (arr32_one _) ?h5 ?h6 ?_); (case h5 => rfl); (case h6 => rfl)))
  exact bodyPost_ret (results_row_tmp rfl _ _ w.heap.size 26 (arr32 []) (0, 0) _ rfl HR.out.setRow rfl Tryd.underlying26 HI32.out) rfl ⟨rfl, below_setRow HB.out (Nat.le_refl _) _⟩
set_option maxRecDepth 100000 in
set_option maxHeartbeats 2000000 in
theorem refUnhex_any (s : ByteArray) (h : s.size = 64) (w : World) :
    Calls Tryd.prog 27 #[.string s] w fun e w' => e = .returned (.tuple (if AllDig s then #[.agg (arr32 (packK s 32)), .int .i64 0] else #[.agg (arr32 []), .int .i64 4])) ∧ Below w.heap.size w w' := by
  have hne : (s.size : Int) = 64 := by omega
  have HI32 := Lib.hid (arr32_info [] (by simp))
  have hlen := packK_length s 32
  have HI33 := Lib.hid (arr32_info (packK s 32) (by rw [hlen]; omega))
  have HS32 := Lib.hid ((arr32_size [] (by simp)).trans (arr32_size (packK s 32) (by rw [hlen]; omega)).symm)
  clear hlen
  go_enter Tryd.func27, Tryd.ntmps27
  go_upto_region 2 with (fail)
  refine gen_world (P := fun W => Code.wp _ _ _ _ W) (I := fun W => Below w.heap.size w W ∧ Has W w.heap.size 26 (arr32 []) ∧ Has W (w.heap.size + 1) 26 (arr32 [])) _ ⟨((Below.refl _ w).alloc (Nat.le_refl _) _).alloc (by simp) _, (Has.fresh_at _ _ _ _ rfl).alloc _, Has.fresh_at _ _ _ _ (by simp)⟩ ?_
  rintro W ⟨hB, hR, hO⟩
  have HB := Lib.hid hB
  have HR := Lib.hid hR
  have HO := Lib.hid hO
  clear hB hR hO
  go_wp2
  go_loopw [5] (fun i wr => ∃ k : Nat, k ≤ 64 ∧ i = .int .i64 k ∧ Hid (∀ j, j < k → IsDig (byteAt s j)) ∧ Has wr (w.heap.size + 1) 26 (arr32 (outAt s k)) ∧ Has wr w.heap.size 26 (arr32 []) ∧ Below w.heap.size w wr) (fun i _ => 64 - (intOf i).toNat)
  case atStart => exact ⟨0, Nat.zero_le _, rfl, Lib.hid (fun j hj => absurd hj (Nat.not_lt_zero _)), HO.out, HR.out, HB.out⟩
  case round =>
    obtain ⟨k, hk, rfl, HN, hO, hR, hB⟩ := hrel
    by_cases hlt : k < 64
    · have hix := index_str s k (by omega)
      have hb256 : byteAt s k < 256 := by unfold byteAt; exact UInt8.toNat_lt _
      have hdg := refDigit_any (byteAt s k) hb256
      have HDg := Lib.hid hdg
      have HR := Lib.hid hR
      have HB := Lib.hid hB
      by_cases hd : IsDig (byteAt s k)
      · have hdv : digOf (byteAt s k) = ((valOf (byteAt s k) : Nat) : Int) := if_pos hd
        have hv := valOf_lt hd
        have hst := outAt_step s k hlt
        have hcell := (hO.cell (k / 2)).trans (outAt_cell s k hlt)
        have hfree := hO.free (k / 2)
        have hpv : prevAt s k < 16 := by
          unfold prevAt
          split
          · exact valOf_lt (HN.out (k - 1) (by omega))
          · omega
        have HN2 : Hid (∀ j, j < k + 1 → IsDig (byteAt s j)) := Lib.hid fun j hj => by
          rcases Nat.lt_or_ge j k with h | h
          · exact HN.out j h
          · obtain rfl : j = k := by omega
            exact hd
        have HDv := Lib.hid hdv
        have hput := (hO.put (k / 2) (BV (prevAt s k * 16 + valOf (byteAt s k)))).of_eq hst
        generalize byteAt s k = c at *
        generalize prevAt s k = x at *
        obtain ⟨v, hvv⟩ : ∃ v, v = valOf c := ⟨_, rfl⟩
        rw [← hvv] at HDv hv hput
        have HP := Lib.hid hput
        clear hO hR hB hdg hdv hst hput hvv hd
        go_wp2_with (first
          | (go_at_call 64; (with_reducible refine (HDg.out _).mono ?_); rintro e w' ⟨rfl, rfl⟩; rw [HDv.out]))
        have hbv : BV (x * 16 + v) = Value.int .u8 ((x : Int) * 16 + (v : Int)) := congrArg (Value.int .u8) (by omega)
        have hp := HP.out
        rw [hbv] at hp
        exact ⟨⟨k + 1, by omega, by go_num, HN2, hp, HR.out.apart (by simp) _, HB.out.setCell (by simp) _⟩, by simp [intOf]; omega⟩
      · have hdv : digOf (byteAt s k) = -1 := if_neg hd
        have hall : ¬ AllDig s := fun ha => hd (ha k (by omega))
        have HA := Lib.hid hall
        have HDv := Lib.hid hdv
        clear hO hR hB hdg hdv hd hall
        generalize byteAt s k = c at *
        go_wp2_with (first
          | (go_at_call 64; (with_reducible refine (HDg.out _).mono ?_); rintro e w' ⟨rfl, rfl⟩; rw [HDv.out])
          | ((with_reducible refine arm_store w.heap.size (arr32 []) 26 (arr32 []) HR.out rfl HI32.out (arr32_one _) ?h5 ?h6 ?_); (case h5 => rfl); (case h6 => rfl)))
        try rw [if_neg HA.out]
        exact bodyPost_ret (results_row_tmp rfl _ _ w.heap.size 26 (arr32 []) (0, 0) _ rfl HR.out.setRow rfl Tryd.underlying26 HI32.out) rfl ⟨rfl, below_setRow HB.out (Nat.le_refl _) _⟩
    · obtain rfl : k = 64 := by omega
      have hall : AllDig s := fun i hi => HN.out i (by omega)
      have ho : outAt s 64 = packK s 32 := by simp [outAt]
      rw [ho] at hO
      have HO3 := Lib.hid hO.row
      have HR3 := Lib.hid hR
      have HB3 := Lib.hid hB
      have HA := Lib.hid hall
      clear hO hR hB hall
      go_wp2_with (first
        | ((with_reducible refine arm_load (w := wr) ⟨w.heap.size + 1, 0, none⟩ _ _ HO3.out Tryd.underlying26 HI33.out ?h3 ?h4 ?_); (case h3 => rfl); (case h4 => rfl))
        | ((with_reducible refine arm_store w.heap.size _ _ _ HR3.out HS32.out HI33.out (arr32_one _) ?h5 ?h6 ?_); (case h5 => rfl); (case h6 => rfl)))
      try rw [if_pos HA.out]
      exact bodyPost_ret (results_row_tmp rfl _ _ w.heap.size 26 (arr32 (packK s 32)) (0, 0) _ rfl HR3.out.setRow rfl Tryd.underlying26 HI33.out) rfl ⟨rfl, below_setRow HB3.out (Nat.le_refl _) _⟩
end Go.Proofs.YtcocljghoiacmaaDoor
end
section
namespace Go.Proofs.YtcocljghoiacmaaDoor
open Go.RowKit Go.Hoar
theorem quiet_load_g {P : Program} {K : Act → Prop} {a : Act} {w0 : World} {dst : Option Tmp} {ty T : TypeId} {x : Operand} {pos : String} {af : Array Edge} {gd : Nat × Bool}
    (ad : Addr) (cs : Array Value) (d : TypeDesc) (hc : ∀ j u, cs[j]? = some u → w0.cell? (ad.add j) = some u) (hu : P.underlying ty = some d)
    (hi : (P.info? ty).map (·.size) = some cs.size) (hx : a.eval x = .pointer (some ad))
    (hd : (match d with | .struct _ | .array _ _ => true | _ => false) = true) (hk : K (a.put dst (.agg cs))) :
    Oper.quiet P ⟨dst, .load ty x, T, pos, af, some gd⟩ a (fun w' => ∃ n, w' = w0.drewN n) K :=
  ⟨.agg cs, fun w hw => by
    obtain ⟨n, rfl⟩ := hw
    have hr := run_loadVar_at (P := P) (w0.drewN n) ad ty cs d (fun j u hj => hc j u hj) hu hd hi
    unfold Oper.quietAt execOp
    simp only [hx, Instr.loadAt, Instr.sureAddr, Sem.run_bind, Sem.run_pure, Result.andThen_ok, hr]
    exact ⟨rfl, rfl⟩, hk⟩
theorem toList_inj {a b : ByteArray} (h : a.toList = b.toList) : a = b := by
  rw [Lib.toList_data, Lib.toList_data] at h
  exact ByteArray.ext (Array.toList_inj.1 h)
theorem letter_val {c : Nat} (h : IsDig c) : letter (valOf c) = c := by
  unfold IsDig at h
  unfold valOf letter
  split <;> split <;> omega
theorem val_letter {k : Nat} (h : k < 16) : valOf (letter k) = k := by
  have : ∀ k, k < 16 → valOf (letter k) = k := by decide
  exact this k h
theorem letter_small {k : Nat} (h : k < 16) : letter k < 256 := by unfold letter; split <;> omega
/-- The first letters of a digest's text are a text of digits: it begins with them. -/
theorem ext_hex (x : List Nat) (_hx : x.length = 32) (hxb : Sha.Bytes x) (s : ByteArray) (h2 : s.size ≤ 64) (hd : AllDig s) : (str (hexOf x)).extract 0 s.size = s ↔ Starts x (digsK s s.size) := by
  have hlen : (hexOf x).length = 64 := by simp [hexOf]
  have hsz : ((str (hexOf x)).extract 0 s.size).size = s.size := by
    rw [ByteArray.size_extract]
    have : (str (hexOf x)).size = 64 := by unfold str; simp [ByteArray.size, hlen]
    omega
  have hget : ∀ i (hi : i < s.size), (((str (hexOf x)).extract 0 s.size)[i]'(by omega)).toNat = letter (nib x i) := fun i hi => by
    rw [ByteArray.getElem_extract]
    have hn := nib_lt hxb i
    have hl := letter_small hn
    simp only [str, Nat.zero_add]
    show (((hexOf x).map UInt8.ofNat).toArray[i]'(by simp [hlen]; omega)).toNat = _
    simp only [List.getElem_toArray, List.getElem_map, hexOf, List.getElem_range]
    simp
    omega
  constructor
  · intro h i hi
    rw [digsK_length] at hi
    have e1 := hget i hi
    have e2 : (((str (hexOf x)).extract 0 s.size)[i]'(by omega)) = s[i]'hi := by simp only [h]
    rw [e2, byteAt_eq] at e1
    rw [List.getD_eq_getElem?_getD, digsK, List.getElem?_map, List.getElem?_range hi]
    show nib x i = valOf (byteAt s i)
    rw [e1, val_letter (nib_lt hxb i)]
  · intro h
    apply ByteArray.ext_getElem hsz
    intro i h1 h3
    apply UInt8.toNat_inj.1
    rw [hget i h3, byteAt_eq, h i (by rw [digsK_length]; exact h3), List.getD_eq_getElem?_getD, digsK, List.getElem?_map, List.getElem?_range h3]
    exact letter_val (hd i h3)
theorem refFind_many (s : ByteArray) (h : s.size < 1 ∨ 64 < s.size) (hsz : s.size ≤ 1099511627776) (v : Value) (w : World) :
    Calls Tryd.prog 46 #[.string s, v] w fun e w' => e = .returned (.tuple #[.int .i64 0, .int .i64 2]) ∧ w = w' := by
  by_cases h1 : s.size < 1
  · have h2 : (s.size : Int) < 1 := by omega
    go_enter Tryd.func46, Tryd.ntmps46
    go_wp2
    go_ret2
    exact ⟨rfl, rfl⟩
  · have h2 : ¬ (s.size : Int) < 1 := by omega
    have h3 : (64 : Int) < s.size := by omega
    go_enter Tryd.func46, Tryd.ntmps46
    go_wp2
    go_ret2
    exact ⟨rfl, rfl⟩
set_option maxHeartbeats 1000000 in
theorem refFind_form (s : ByteArray) (h1 : 1 ≤ s.size) (h2 : s.size ≤ 64) (hd : ¬ AllDig s) (v : Value) (w : World) :
    Calls Tryd.prog 46 #[.string s, v] w fun e w' => e = .returned (.tuple #[.int .i64 0, .int .i64 4]) ∧ w = w' := by
  have i1 : ¬ (s.size : Int) < 1 := by omega
  have i2 : ¬ (64 : Int) < s.size := by omega
  have HD := Lib.hid hd
  clear hd
  go_enter Tryd.func46, Tryd.ntmps46
  go_wp2
  go_loop [6] (fun i => ∃ k : Nat, k ≤ s.size ∧ i = .int .i64 k ∧ Hid (∀ j, j < k → IsDig (byteAt s j))) (fun i => s.size - (intOf i).toNat)
  case atStart => exact ⟨0, Nat.zero_le _, rfl, Lib.hid (fun j hj => absurd hj (Nat.not_lt_zero _))⟩
  case round =>
    obtain ⟨k, hk, rfl, HN⟩ := hrel
    by_cases hlt : k < s.size
    · have hix := index_str s k hlt
      have hb256 : byteAt s k < 256 := by unfold byteAt; exact UInt8.toNat_lt _
      have HDg := Lib.hid (refDigit_any (byteAt s k) hb256)
      by_cases hg : IsDig (byteAt s k)
      · have hdv : digOf (byteAt s k) = ((valOf (byteAt s k) : Nat) : Int) := if_pos hg
        have HN2 : Hid (∀ j, j < k + 1 → IsDig (byteAt s j)) := Lib.hid fun j hj => by
          rcases Nat.lt_or_ge j k with h | h
          · exact HN.out j h
          · obtain rfl : j = k := by omega
            exact hg
        have HDv := Lib.hid hdv
        generalize byteAt s k = c at *
        generalize valOf c = v at *
        have hv0 : ¬ (v : Int) < 0 := by omega
        clear hdv hg
        go_wp2_with (go_at_call 64; (with_reducible refine (HDg.out _).mono ?_); rintro e w' ⟨rfl, rfl⟩; rw [HDv.out])
        go_round
        case rel => exact ⟨k + 1, by omega, by go_num, HN2⟩
        case measure => simp [intOf]; omega
      · have hdv : digOf (byteAt s k) = -1 := if_neg hg
        have HDv := Lib.hid hdv
        generalize byteAt s k = c at *
        clear hdv hg
        go_wp2_with (go_at_call 64; (with_reducible refine (HDg.out _).mono ?_); rintro e w' ⟨rfl, rfl⟩; rw [HDv.out])
        go_ret2
        exact ⟨rfl, rfl⟩
    · exact absurd (fun j hj => HN.out j (by omega)) HD.out
set_option maxRecDepth 100000 in
set_option maxHeartbeats 3000000 in
theorem refFind_any (s : ByteArray) (h1 : 1 ≤ s.size) (h2 : s.size ≤ 64) (hd : AllDig s) (ls : List (List Nat)) (a : Option Addr) (c : Nat) (w : World) (hr : RowOk w a c ls) (_hn : ls.length ≤ 1000000) (out : Int × Int) (hout : Hid (out = findGo (digsK s s.size) 0 none ls)) :
    Calls Tryd.prog 46 #[.string s, .slice a ls.length c] w fun e w' => e = .returned (.tuple #[.int .i64 out.1, .int .i64 out.2]) ∧ Below w.heap.size w w' := by
  have hcmp : ∀ x : List Nat, x.length = 32 → Sha.Bytes x → ((str (hexOf x)).extract 0 s.size = s ↔ Starts x (digsK s s.size)) := fun x hx hxb => ext_hex x hx hxb s h2 hd
  obtain ⟨ds, hds⟩ : ∃ ds, ds = digsK s s.size := ⟨_, rfl⟩
  rw [← hds] at hout hcmp
  have i1 : ¬ (s.size : Int) < 1 := by omega
  have i2 : ¬ (64 : Int) < s.size := by omega
  have HD := Lib.hid hd
  have HRw := Lib.hid hr
  have HCmp := Lib.hid hcmp
  clear hd hds hr hcmp
  go_enter Tryd.func46, Tryd.ntmps46
  go_wp2
  go_loop [6] (fun i => ∃ k : Nat, k ≤ s.size ∧ i = .int .i64 k) (fun i => s.size - (intOf i).toNat)
  case atStart => exact ⟨0, Nat.zero_le _, rfl⟩
  case round =>
    obtain ⟨k, hk, rfl⟩ := hrel
    by_cases hlt : k < s.size
    · have hix := index_str s k hlt
      have hb256 : byteAt s k < 256 := by unfold byteAt; exact UInt8.toNat_lt _
      have HDg := Lib.hid (refDigit_any (byteAt s k) hb256)
      have hdv : digOf (byteAt s k) = ((valOf (byteAt s k) : Nat) : Int) := if_pos (HD.out k hlt)
      have HDv := Lib.hid hdv
      generalize byteAt s k = c0 at *
      generalize valOf c0 = v at *
      have hv0 : ¬ (v : Int) < 0 := by omega
      clear hdv
      go_wp2_with (go_at_call 64; (with_reducible refine (HDg.out _).mono ?_); rintro e w' ⟨rfl, rfl⟩; rw [HDv.out])
      go_round
      case rel => exact ⟨k + 1, by omega, by go_num⟩
      case measure => simp [intOf]; omega
    · obtain rfl : k = s.size := by omega
      go_wp2
      go_loopw [7, 31] (fun f i wr => ∃ (k : Nat) (q : Option (Nat × List Nat)) (z : Int), k ≤ ls.length ∧ i = .int .i64 k ∧ f = .int .i64 z ∧ Hid (findGo ds k q (ls.drop k) = findGo ds 0 none ls) ∧ ((z < 0 ∧ q = none) ∨ ∃ (j : Nat) (y : List Nat), z = (j : Int) ∧ q = some (j, y) ∧ j < k ∧ ls[j]? = some y) ∧ Below w.heap.size w wr) (fun _ i _ => ls.length - (intOf i).toNat)
      case atStart => exact ⟨0, none, -1, Nat.zero_le _, rfl, rfl, Lib.hid rfl, .inl ⟨by omega, rfl⟩, Below.refl _ _⟩
      case round =>
        obtain ⟨k, q, z, hk, rfl, rfl, HQ, hz, hB⟩ := hrel
        by_cases hlt : k < ls.length
        · obtain ⟨x, hx⟩ : ∃ x, ls[k]? = some x := ⟨_, List.getElem?_eq_getElem hlt⟩
          rcases HRw.out with ⟨_, he, _⟩ | ⟨g, off, rfl, hg, hs, hcc, hcm⟩
          · rw [he] at hx; simp at hx
          obtain ⟨hxl, hxb, _⟩ := hs k x hx
          have hsr := hs.below hg hB
          have HRow := Lib.hid (hsr.row hx)
          have HSr := Lib.hid hsr
          have HI := Lib.hid (arr32_info x (by omega))
          have HSz := Lib.hid (zero32_size x (by omega))
          have HF := Lib.hid (fresh_sum wr)
          have hgr : g < wr.heap.size := Nat.lt_of_lt_of_le hg hB.size
          have HB := Lib.hid hB
          have HX := Lib.hid (drop_at hx)
          have HZ := Lib.hid hz
          unfold maxLen at hcm
          have hkc : k < c := by omega
          clear hB hs hsr hz
          go_upto_region 12 with (first
            | ((with_reducible refine arm_load (w := wr) ⟨g, off + k * 32, none⟩ _ _ HRow.out Tryd.underlying26 HI.out ?h1 ?h2 ?_); (case h1 => rfl); (case h2 => rfl))
            | ((with_reducible refine arm_store wr.heap.size (arr32 x) 26 zero32 HF.out HSz.out HI.out (arr32_one _) ?h5 ?h6 ?_); (case h5 => rfl); (case h6 => rfl)))
          refine gen_world (P := fun W => Code.wp _ _ _ _ W) (I := fun V => Below wr.heap.size wr V ∧ Has V wr.heap.size 26 (arr32 x)) _ ⟨below_setRow ((Below.refl _ wr).alloc (Nat.le_refl _) _) (Nat.le_refl _) _, HF.out.setRow⟩ ?_
          rintro V ⟨hBV, hxV⟩
          have HHex := Lib.hid (refHex_any x hxl hxb V)
          have hcx := HCmp.out x hxl hxb
          have hstr : (str (hexOf x)).size = 64 := by unfold str; simp [ByteArray.size, hexOf]
          generalize str (hexOf x) = t at hcx HHex hstr
          have hts : (s.size : Int) ≤ (t.size : Int) := by omega
          have HBV := Lib.hid hBV
          have HXr := Lib.hid hxV.row
          have HXV := Lib.hid hxV
          clear hBV hxV
          by_cases hst : Starts x ds
          · have heq : t.extract 0 s.size = s := hcx.2 hst
            clear hcx
            rcases HZ.out with ⟨hz0, rfl⟩ | ⟨j, y, rfl, rfl, hjk, hy⟩
            · have HStep : Hid (findGo ds (k + 1) (some (k, x)) (ls.drop (k + 1)) = findGo ds 0 none ls) := Lib.hid ((findGo_first (k := k) (r := ls.drop (k + 1)) hst).symm.trans (HX.out ▸ HQ.out))
              have hg0 : decide (0 ≤ z) = false := decide_eq_false (by omega)
              go_upto_region 13 with (first
            | ((with_reducible refine arm_load (w := V) ⟨wr.heap.size, 0, none⟩ _ _ HXr.out Tryd.underlying26 HI.out ?h3 ?h4 ?_); (case h3 => rfl); (case h4 => rfl))
            | (go_at_call 29; refine HHex.out.mono ?_; rintro e w3 ⟨rfl, hb3⟩; have HB3 := Lib.hid hb3; have HX3 := Lib.hid (HXV.out.below hb3 HXV.out.lt); clear hb3))
              have hbr := HBV.out.trans (HB3.out.mono HBV.out.size)
              have HBr := Lib.hid hbr
              clear hbr
              go_quiet (fail)
              go_wp2
              go_roundw
              case rel => exact ⟨k + 1, some (k, x), k, by omega, by go_num, rfl, HStep, .inr ⟨k, x, rfl, rfl, by omega, hx⟩, below_drewN (HB.out.trans (HBr.out.mono HB.out.size)) _⟩
              case measure => simp [intOf]; omega
            · have hyl : y.length = 32 := (HSr.out j y hy).1
              have hj0 : ¬ (j : Int) < 0 := by omega
              have hg0 : decide (0 ≤ (j : Int)) = true := decide_eq_true (by omega)
              have hjl : j < ls.length := by omega
              have hjc : j < c := by omega
              have hji : (j : Int) < (ls.length : Int) := by omega
              go_upto_region 13 with (first
            | ((with_reducible refine arm_load (w := V) ⟨wr.heap.size, 0, none⟩ _ _ HXr.out Tryd.underlying26 HI.out ?h3 ?h4 ?_); (case h3 => rfl); (case h4 => rfl))
            | (go_at_call 29; refine HHex.out.mono ?_; rintro e w3 ⟨rfl, hb3⟩; have HB3 := Lib.hid hb3; have HX3 := Lib.hid (HXV.out.below hb3 HXV.out.lt); clear hb3))
              have hbr := HBV.out.trans (HB3.out.mono HBV.out.size)
              have HL1 := Lib.hid HX3.out.row
              have HL2 := Lib.hid ((HSr.out.below hgr hbr).row hy)
              have HIy := Lib.hid (arr32_info y (by omega))
              have hguard := sum_guard
              by_cases hxy : x = y
              · have hne := sum_neq y x hyl hxl
                rw [show (!decide (y = x)) = false by simp [hxy]] at hne
                have HStep : Hid (findGo ds (k + 1) (some (j, y)) (ls.drop (k + 1)) = findGo ds 0 none ls) := Lib.hid ((findGo_same (k := k) (j := j) (r := ls.drop (k + 1)) (hxy ▸ hst)).symm.trans (by have := HX.out ▸ HQ.out; rwa [hxy] at this))
                have HBr := Lib.hid hbr
                clear hbr hxy
                refine wp_region_quiet_lit (by kernel_rfl) (by kernel_rfl) ?_
                repeat (go_big_quiet_step (fail))
                go_big_quiet_want
                (with_reducible refine quiet_load_g ⟨g, off + j * 32, none⟩ _ _ HL2.out Tryd.underlying26 HIy.out ?l1 ?l2 ?_); (case l1 => rfl); (case l2 => rfl)
                simp only [Act.put, List.setIfInBounds_toArray, List.set_cons_succ, List.set_cons_zero]
                go_big_quiet_on
                repeat (go_big_quiet_step (fail))
                go_big_quiet_want
                (with_reducible refine quiet_load_g ⟨wr.heap.size, 0, none⟩ _ _ HL1.out Tryd.underlying26 HI.out ?l3 ?l4 ?_); (case l3 => rfl); (case l4 => rfl)
                simp only [Act.put, List.setIfInBounds_toArray, List.set_cons_succ, List.set_cons_zero]
                go_big_quiet_on
                repeat (go_big_quiet_step (fail))
                refine wpQuiet_nil ?_
                intro _ hw'
                obtain ⟨nq, rfl⟩ := hw'
                go_wp2
                go_roundw
                case rel => exact ⟨k + 1, some (j, y), j, by omega, by go_num, rfl, HStep, .inr ⟨j, y, rfl, rfl, by omega, hy⟩, below_drewN (HB.out.trans (HBr.out.mono HB.out.size)) _⟩
                case measure => simp [intOf]; omega
              · have hne := sum_neq y x hyl hxl
                rw [show (!decide (y = x)) = true by simp [Ne.symm hxy]] at hne
                have HEnd : Hid (out = (0, 7)) := Lib.hid (hout.out.trans (HQ.out.symm.trans (by rw [HX.out, findGo_clash hst hxy])))
                have HBr := Lib.hid hbr
                clear hbr
                refine wp_region_quiet_lit (by kernel_rfl) (by kernel_rfl) ?_
                repeat (go_big_quiet_step (fail))
                go_big_quiet_want
                (with_reducible refine quiet_load_g ⟨g, off + j * 32, none⟩ _ _ HL2.out Tryd.underlying26 HIy.out ?l1 ?l2 ?_); (case l1 => rfl); (case l2 => rfl)
                simp only [Act.put, List.setIfInBounds_toArray, List.set_cons_succ, List.set_cons_zero]
                go_big_quiet_on
                repeat (go_big_quiet_step (fail))
                go_big_quiet_want
                (with_reducible refine quiet_load_g ⟨wr.heap.size, 0, none⟩ _ _ HL1.out Tryd.underlying26 HI.out ?l3 ?l4 ?_); (case l3 => rfl); (case l4 => rfl)
                simp only [Act.put, List.setIfInBounds_toArray, List.set_cons_succ, List.set_cons_zero]
                go_big_quiet_on
                repeat (go_big_quiet_step (fail))
                refine wpQuiet_nil ?_
                intro _ hw'
                obtain ⟨nq, rfl⟩ := hw'
                go_wp2
                go_ret2
                exact ⟨by rw [HEnd.out]; exact Eq.refl _, below_drewN (HB.out.trans (HBr.out.mono HB.out.size)) _⟩
          · have hne0 : ¬ t.extract 0 s.size = s := fun e => hst (hcx.1 e)
            have hne1 : ((t.extract 0 s.size).toList == s.toList) = false := by rw [beq_eq_false_iff_ne]; exact fun e => hne0 (toList_inj e)
            have HStep : Hid (findGo ds (k + 1) q (ls.drop (k + 1)) = findGo ds 0 none ls) := Lib.hid ((findGo_not (k := k) (f := q) (r := ls.drop (k + 1)) hst).symm.trans (HX.out ▸ HQ.out))
            clear hcx
            go_wp2_with (first
            | ((with_reducible refine arm_load (w := V) ⟨wr.heap.size, 0, none⟩ _ _ HXr.out Tryd.underlying26 HI.out ?h3 ?h4 ?_); (case h3 => rfl); (case h4 => rfl))
            | (go_at_call 29; refine HHex.out.mono ?_; rintro e w3 ⟨rfl, hb3⟩; have HB3 := Lib.hid hb3; have HX3 := Lib.hid (HXV.out.below hb3 HXV.out.lt); clear hb3))
            go_roundw
            case rel =>
              refine ⟨k + 1, q, z, by omega, by go_num, rfl, HStep, ?_, HB.out.trans ((HBV.out.trans (HB3.out.mono HBV.out.size)).mono HB.out.size)⟩
              rcases HZ.out with h | ⟨j, y, e1, e2, e3, e4⟩
              · exact .inl h
              · exact .inr ⟨j, y, e1, e2, by omega, e4⟩
            case measure => simp [intOf]; omega
        · obtain rfl : k = ls.length := by omega
          have hq := HQ.out
          rw [List.drop_length] at hq
          rcases hz with ⟨hz0, rfl⟩ | ⟨j, y, rfl, rfl, hjk, hy⟩
          · have HEnd : Hid (out = (0, 6)) := Lib.hid (hout.out.trans (hq.symm.trans (by rw [findGo])))
            have HB := Lib.hid hB
            clear hB hq
            go_wp2
            go_ret2
            exact ⟨by rw [HEnd.out]; exact Eq.refl _, HB.out⟩
          · have HEnd : Hid (out = ((j : Int), 0)) := Lib.hid (hout.out.trans (hq.symm.trans (by rw [findGo])))
            have hj0 : ¬ (j : Int) < 0 := by omega
            have HB := Lib.hid hB
            clear hB hq
            go_wp2
            go_ret2
            exact ⟨by rw [HEnd.out]; exact Eq.refl _, HB.out⟩
end Go.Proofs.YtcocljghoiacmaaDoor
end
section
namespace Go.Proofs.YtcocljghoiacmaaDoor
open Go.RowKit Go.Hoar
noncomputable def rsOps (k : Nat) : Array Oper := (Tryd.f48.body.bind (opsAt k)).getD #[]
/-- What one more digest makes of the number of digits. -/
def nStep (x : Dig) (v : Nat) (y : Dig) : Nat := if alikeOf x.1 y.1 < 64 ∧ v < alikeOf x.1 y.1 + 1 then alikeOf x.1 y.1 + 1 else v
def needR (x : Dig) (ys : List Dig) : Nat := ys.foldl (nStep x) 1
theorem alike_self (x : Dig) : alikeOf x.1 x.1 = 64 := Nat.le_antisymm (alike_le _ _) (alike_ge _ _ _ (Nat.le_refl _) (fun _ _ => rfl))
def Good (x : Dig) (pre : List Dig) (v : Nat) : Prop := 1 ≤ v ∧ v ≤ 64 ∧ (∀ y ∈ pre, y ≠ x → alikeOf x.1 y.1 + 1 ≤ v) ∧ (v = 1 ∨ ∃ y ∈ pre, y ≠ x ∧ v = alikeOf x.1 y.1 + 1)
theorem good_step (x : Dig) (pre : List Dig) (v : Nat) (y : Dig) (h : Good x pre v) : Good x (pre ++ [y]) (nStep x v y) := by
  obtain ⟨a, a2, b, c⟩ := h
  have hc : v = 1 ∨ ∃ z ∈ pre ++ [y], z ≠ x ∧ v = alikeOf x.1 z.1 + 1 := by
    rcases c with c | ⟨z, hz, h2, h3⟩
    · exact .inl c
    · exact .inr ⟨z, List.mem_append_left _ hz, h2, h3⟩
  unfold nStep
  split
  · next h =>
    have hne : y ≠ x := fun e => by rw [e, alike_self] at h; omega
    refine ⟨by omega, by omega, fun z hz hzx => ?_, .inr ⟨y, by simp, hne, rfl⟩⟩
    rcases List.mem_append.1 hz with hz | hz
    · have := b z hz hzx
      omega
    · rw [List.mem_singleton.1 hz]
      exact Nat.le_refl _
  · next h =>
    refine ⟨a, a2, fun z hz hzx => ?_, hc⟩
    rcases List.mem_append.1 hz with hz | hz
    · exact b z hz hzx
    · rw [List.mem_singleton.1 hz] at hzx ⊢
      have := alike_lt (Ne.symm hzx)
      omega
theorem good_fold (x : Dig) : ∀ (ys pre : List Dig) (v : Nat), Good x pre v → Good x (pre ++ ys) (ys.foldl (nStep x) v)
  | [], pre, v, h => by rw [List.append_nil]; exact h
  | y :: ys, pre, v, h => by
    have := good_fold x ys (pre ++ [y]) _ (good_step x pre v y h)
    rwa [List.append_assoc] at this
theorem needR_good (x : Dig) (ys : List Dig) : Good x ys (needR x ys) := good_fold x ys [] 1 ⟨Nat.le_refl _, by decide, fun _ h => absurd h List.not_mem_nil, .inl rfl⟩
theorem needR_need (ls : List Dig) (x : Dig) : IsNeed ls x ((needR x ls : Nat) : Int) := by
  obtain ⟨a, _, b, c⟩ := needR_good x ls
  refine ⟨by omega, fun y hy hne => by have := b y hy hne; omega, ?_⟩
  rcases c with c | ⟨y, hy, h2, h3⟩
  · exact .inl (by omega)
  · exact .inr ⟨y, hy, h2, by omega⟩
theorem needR_snoc (x : Dig) (ls : List Dig) (j : Nat) (y : Dig) (h : ls[j]? = some y) : needR x (ls.take (j + 1)) = nStep x (needR x (ls.take j)) y := by
  rw [needR, needR, List.take_add_one, h, List.foldl_append]; rfl
theorem byteAt_hex (x : List Nat) (hxb : Sha.Bytes x) (q : Nat) (hq : q < 64) : byteAt (str (hexOf x)) q = letter (nib x q) := by
  have hlen : (hexOf x).length = 64 := by simp [hexOf]
  have hsz : (str (hexOf x)).size = 64 := by unfold str; simp [ByteArray.size, hlen]
  rw [← byteAt_eq _ q (by omega)]
  show (((hexOf x).map UInt8.ofNat).toArray[q]'(by simp [hlen]; omega)).toNat = _
  have hl := letter_small (nib_lt hxb q)
  simp only [List.getElem_toArray, List.getElem_map, hexOf, List.getElem_range]
  simp
  omega
theorem letter_inj {a b : Nat} (ha : a < 16) (hb : b < 16) (h : letter a = letter b) : a = b := by
  rw [← val_letter ha, ← val_letter hb, h]
theorem alike_is {l m : List Nat} {q : Nat} (hq : q ≤ 64) (h : ∀ i, i < q → nib l i = nib m i) (he : q < 64 → nib l q ≠ nib m q) : alikeOf l m = q := by
  have h1 := alike_ge l m q hq h
  rcases Nat.lt_or_ge q (alikeOf l m) with h2 | h2
  · have := alike_le l m
    exact absurd (alike_same l m q h2) (he (by omega))
  · omega
set_option maxRecDepth 100000 in
set_option maxHeartbeats 6000000 in
theorem refShort_any (ls : List Dig) (a : Option Addr) (c : Nat) (w : World) (hr : RowOk w a c (ls.map (·.1))) (hn : ls.length ≤ 60) :
    Calls Tryd.prog 48 #[.slice a ls.length c] w fun e w' => ∃ v, e = .returned v ∧ w'.ownsRow w.heap.size 3 1 v ls.length (ls.map fun x => .int .i64 ((needR x ls : Nat) : Int)) ∧ Below w.heap.size w w' := by
  obtain ⟨i0, hi0, hz0, hz1, hz2⟩ := info_parts intInfo3
  have HRw := Lib.hid hr
  clear hr
  go_enter Tryd.func48, Tryd.ntmps48
  go_wp2
  go_loopw [3, 14] (fun v i wr => ∃ (k : Nat) (vv : Value), vv = v ∧ k ≤ ls.length ∧ i = .int .i64 k ∧ wr.ownsRow w.heap.size 3 1 vv k ((ls.take k).map fun x => .int .i64 ((needR x ls : Nat) : Int)) ∧ Below w.heap.size w wr) (fun _ i _ => ls.length - (intOf i).toNat)
  case atStart => exact ⟨0, _, rfl, Nat.zero_le _, rfl, World.ownsRow_nil _ _ _ _, Below.refl _ _⟩
  case round =>
    obtain ⟨k, vv, hvv, hk, rfl, hO, hB⟩ := hrel
    subst hvv
    by_cases hlt : k < ls.length
    · obtain ⟨x, hx⟩ : ∃ x, ls[k]? = some x := ⟨_, List.getElem?_eq_getElem hlt⟩
      have hx1 : (ls.map (·.1))[k]? = some x.1 := by rw [List.getElem?_map, hx]; rfl
      rcases HRw.out with ⟨_, he, _⟩ | ⟨g, off, rfl, hg, hs, hcc, hcm⟩
      · rw [he] at hx1; simp at hx1
      rw [List.length_map] at hcc
      have hxl := x.2.1
      have hxb := x.2.2
      have HRow := Lib.hid ((hs.below hg hB).row hx1)
      have HS := Lib.hid hs
      have HI := Lib.hid (arr32_info x.1 (by omega))
      have HSz := Lib.hid (zero32_size x.1 (by omega))
      have HF := Lib.hid (fresh_sum wr)
      obtain ⟨a6, c6, rfl, hc6, hcm6⟩ := own_shape hO
      have HO := Lib.hid hO
      have HB := Lib.hid hB
      unfold maxLen at hcm
      have hkc : k < c := by omega
      have HNext : Hid (((ls.take k).map fun z : Dig => Value.int .i64 ((needR z ls : Nat) : Int)) ++ [.int .i64 ((needR x ls : Nat) : Int)] = (ls.take (k + 1)).map fun z : Dig => Value.int .i64 ((needR z ls : Nat) : Int)) := Lib.hid (by rw [List.take_add_one, hx, List.map_append]; rfl)
      have HNl := Lib.hid (needR_good x ls).2.1
      clear hB hO hs hx hx1
      go_upto_region 5 with (first
        | ((with_reducible refine arm_load (w := wr) ⟨g, off + k * 32, none⟩ _ _ HRow.out Tryd.underlying26 HI.out ?h1 ?h2 ?_); (case h1 => rfl); (case h2 => rfl))
        | ((with_reducible refine arm_store wr.heap.size (arr32 x.1) 26 zero32 HF.out HSz.out HI.out (arr32_one _) ?h5 ?h6 ?_); (case h5 => rfl); (case h6 => rfl)))
      refine gen_world (P := fun W => Code.wp _ _ _ _ W) (I := fun V => Below w.heap.size w V ∧ Has V wr.heap.size 26 (arr32 x.1) ∧ V.ownsRow w.heap.size 3 1 (.slice a6 k c6) k ((ls.take k).map fun x => .int .i64 ((needR x ls : Nat) : Int))) _ ⟨below_setRow (HB.out.alloc HB.out.size _) HB.out.size _, HF.out.setRow, own_setRow (HO.out.alloc _) (fun e => by have := (HO.out.lt _ e).2; omega) _⟩ ?_
      rintro U ⟨hBU, hXU, hOU⟩
      generalize wr.heap.size = b5 at hXU ⊢
      have HBU := Lib.hid hBU
      have HXU := Lib.hid hXU
      have HOU := Lib.hid hOU
      clear hBU hXU hOU HO HB HF HRow
      go_wp2
      go_loopw [6, 20] (fun lv iv wr => ∃ j : Nat, j ≤ ls.length ∧ iv = .int .i64 j ∧ lv = .int .i64 ((needR x (ls.take j) : Nat) : Int) ∧ Below U.heap.size U wr) (fun _ iv _ => ls.length - (intOf iv).toNat)
      case atStart => exact ⟨0, Nat.zero_le _, rfl, rfl, Below.refl _ _⟩
      case round =>
        obtain ⟨j, hj, rfl, rfl, hB⟩ := hrel
        by_cases hjlt : j < ls.length
        · obtain ⟨y, hy⟩ : ∃ y, ls[j]? = some y := ⟨_, List.getElem?_eq_getElem hjlt⟩
          have hy1 : (ls.map (·.1))[j]? = some y.1 := by rw [List.getElem?_map, hy]; rfl
          have hyl := y.2.1
          have hyb := y.2.2
          have hBw : Below w.heap.size w wr := HBU.out.trans (hB.mono HBU.out.size)
          have HRow := Lib.hid ((HS.out.below hg hBw).row hy1)
          have HIy := Lib.hid (arr32_info y.1 (by omega))
          have HSy := Lib.hid (zero32_size y.1 (by omega))
          have HF := Lib.hid (fresh_sum wr)
          have HB := Lib.hid hB
          have hjc : j < c := by omega
          have HSt := Lib.hid (needR_snoc x ls j y hy)
          have hL64 := (needR_good x (ls.take j)).2.1
          generalize needR x (ls.take j) = L at HSt hL64 ⊢
          clear hB hBw hy hy1
          go_upto_region 9 with (first
            | ((with_reducible refine arm_load (w := wr) ⟨g, off + j * 32, none⟩ _ _ HRow.out Tryd.underlying26 HIy.out ?h1 ?h2 ?_); (case h1 => rfl); (case h2 => rfl))
            | ((with_reducible refine arm_store wr.heap.size (arr32 y.1) 26 zero32 HF.out HSy.out HIy.out (arr32_one _) ?h5 ?h6 ?_); (case h5 => rfl); (case h6 => rfl)))
          refine gen_world (P := fun W => Code.wp _ _ _ _ W) (I := fun V => Below U.heap.size U V ∧ Has V wr.heap.size 26 (arr32 y.1)) _ ⟨below_setRow (HB.out.alloc HB.out.size _) HB.out.size _, HF.out.setRow⟩ ?_
          rintro Y ⟨hBY, hYY⟩
          generalize wr.heap.size = b8 at hYY ⊢
          have HBY := Lib.hid hBY
          have HX5 := Lib.hid (HXU.out.below hBY HXU.out.lt)
          have HY8 := Lib.hid hYY
          have HHx : Hid (∀ V : World, Calls Tryd.prog 29 #[.agg (arr32 x.1)] V fun e w' => e = .returned (.string (str (hexOf x.1))) ∧ Below V.heap.size V w') := Lib.hid fun V => refHex_any x.1 hxl hxb V
          have HHy : Hid (∀ V : World, Calls Tryd.prog 29 #[.agg (arr32 y.1)] V fun e w' => e = .returned (.string (str (hexOf y.1))) ∧ Below V.heap.size V w') := Lib.hid fun V => refHex_any y.1 hyl hyb V
          have hix : ∀ q : Nat, q < 64 → ∀ V : World, (Instr.index 9 (.string (str (hexOf x.1))) (.int .i64 (q : Int))).run Tryd.prog V = .ok (.int .u8 ((letter (nib x.1 q) : Nat) : Int)) V := fun q hq V => by
            have := index_str (str (hexOf x.1)) q (by unfold str; simp [ByteArray.size, hexOf]; omega) V
            rwa [byteAt_hex x.1 hxb q hq] at this
          have hiy : ∀ q : Nat, q < 64 → ∀ V : World, (Instr.index 9 (.string (str (hexOf y.1))) (.int .i64 (q : Int))).run Tryd.prog V = .ok (.int .u8 ((letter (nib y.1 q) : Nat) : Int)) V := fun q hq V => by
            have := index_str (str (hexOf y.1)) q (by unfold str; simp [ByteArray.size, hexOf]; omega) V
            rwa [byteAt_hex y.1 hyb q hq] at this
          generalize str (hexOf x.1) = tx at HHx hix
          generalize str (hexOf y.1) = ty at HHy hiy
          have HIX := Lib.hid hix
          have HIY := Lib.hid hiy
          clear hBY hYY HB HF HRow hix hiy
          change Code.wp _ (Code.region 9 (rsOps 9) true) _ _ _
          refine wp_region_held (S := fun V => Below Y.heap.size Y V) (by kernel_rfl) ?_
          have hsz : (rsOps 9).size = 6 := by kernel_rfl
          rw [hsz]
          clear hsz
          refine gen_world (P := fun W' => wpAnyH _ _ _ _ _ _ _ _ W') (I := fun V => Below Y.heap.size Y V) _ (Below.refl _ Y).drew ?_
          rintro V hBV
          have HS0 := Lib.hid hBV
          clear hBV
          refine wpAnyH_take (i := 0) (oi := ⟨some 24, _, _, _, _, none⟩) (v := .agg (arr32 x.1)) rfl (by kernel_rfl) (by kernel_rfl) (by kernel_rfl) (fun _ _ _ h => h) (yieldsIf_load ⟨b5, 0, none⟩ _ _ (fun Z hZ => (HX5.out.below hZ HX5.out.lt).row) Tryd.underlying26 HI.out rfl rfl) HS0.out ?_
          try simp only [Act.put, List.setIfInBounds_toArray, List.set_cons_succ, List.set_cons_zero]
          refine wpAnyH_take (i := 2) (oi := ⟨some 26, _, _, _, _, none⟩) (v := .agg (arr32 y.1)) rfl (by kernel_rfl) (by kernel_rfl) (by kernel_rfl) (fun _ _ _ h => h) (yieldsIf_load ⟨b8, 0, none⟩ _ _ (fun Z hZ => (HY8.out.below hZ HY8.out.lt).row) Tryd.underlying26 HIy.out rfl rfl) HS0.out ?_
          try simp only [Act.put, List.setIfInBounds_toArray, List.set_cons_succ, List.set_cons_zero]
          refine wpAnyH_all (rs := [1]) (by kernel_rfl) (by simp) ?_
          intro i hi
          obtain rfl : i = 1 := by simpa using hi
          clear hi
          refine wpOp_step (o := ⟨some 25, _, _, _, _, _⟩) rfl (fun K' hK' => ?_)
          rw [if_pos (show Region.wanted _ _ = true from rfl)]
          go_simp
          (with_reducible refine (HHx.out V).mono ?_)
          rintro e v1 ⟨rfl, hbx⟩
          have HS1 := Lib.hid (HS0.out.trans (hbx.mono HS0.out.size))
          clear hbx
          refine hK' _ _ ⟨HS1.out, ?_⟩
          clear hK' K'
          try simp only [Act.put, List.setIfInBounds_toArray, List.set_cons_succ, List.set_cons_zero]
          refine wpAnyH_all (rs := [3]) (by kernel_rfl) (by simp) ?_
          intro i hi
          obtain rfl : i = 3 := by simpa using hi
          clear hi
          refine wpOp_step (o := ⟨some 27, _, _, _, _, _⟩) rfl (fun K' hK' => ?_)
          rw [if_pos (show Region.wanted _ _ = true from rfl)]
          go_simp
          (with_reducible refine (HHy.out v1).mono ?_)
          rintro e v2 ⟨rfl, hbx⟩
          have HS2 := Lib.hid (HS1.out.trans (hbx.mono HS1.out.size))
          clear hbx
          refine hK' _ _ ⟨HS2.out, ?_⟩
          clear hK' K'
          try simp only [Act.put, List.setIfInBounds_toArray, List.set_cons_succ, List.set_cons_zero]
          refine wpAnyH_take (i := 4) (oi := ⟨some 9, _, _, _, _, _⟩) (v := ?_) rfl (by kernel_rfl) (by kernel_rfl) (by kernel_rfl) (fun _ _ _ h => h) (Or.inl ⟨by rfl, fun w' hw' => by go_simp; with_reducible rfl⟩) HS2.out ?_
          try simp only [Act.put, List.setIfInBounds_toArray, List.set_cons_succ, List.set_cons_zero]
          refine wpAnyH_take (i := 5) (oi := ⟨some 10, _, _, _, _, _⟩) (v := ?_) rfl (by kernel_rfl) (by kernel_rfl) (by kernel_rfl) (fun _ _ _ h => h) (Or.inl ⟨by rfl, fun w' hw' => by go_simp; with_reducible rfl⟩) HS2.out ?_
          try simp only [Act.put, List.setIfInBounds_toArray, List.set_cons_succ, List.set_cons_zero]
          refine wpAnyH_done (by kernel_rfl) ?_ _
          clear HS1 HS0
          go_wp2
          go_loopw [11] (fun nv wr => ∃ q : Nat, q ≤ 64 ∧ nv = .int .i64 q ∧ Hid (∀ i, i < q → nib x.1 i = nib y.1 i) ∧ Below Y.heap.size Y wr) (fun nv _ => 64 - (intOf nv).toNat)
          case atStart => exact ⟨0, Nat.zero_le _, rfl, Lib.hid (fun i hi => absurd hi (Nat.not_lt_zero _)), HS2.out⟩
          case round =>
            obtain ⟨q, hq, rfl, HN, hB3⟩ := hrel
            have HB3 := Lib.hid hB3
            clear hB3
            by_cases hq64 : q < 64
            · have hx1 := HIX.out q hq64
              have hy1 := HIY.out q hq64
              have hnx := nib_lt hxb q
              have hny := nib_lt hyb q
              have hq0 : decide ((q : Int) < 64) = true := decide_eq_true (by omega)
              by_cases hnib : nib x.1 q = nib y.1 q
              · have hb : (((letter (nib x.1 q) : Nat) : Int) == ((letter (nib y.1 q) : Nat) : Int)) = true := by rw [hnib]; exact beq_self_eq_true _
                have HN2 : Hid (∀ i, i < q + 1 → nib x.1 i = nib y.1 i) := Lib.hid fun i hi => by
                  rcases Nat.lt_or_ge i q with h | h
                  · exact HN.out i h
                  · obtain rfl : i = q := by omega
                    exact hnib
                clear hnib
                go_upto_region 11 with (fail)
                go_quiet (fail)
                go_wp2
                go_roundw
                case rel => exact ⟨q + 1, by omega, by go_num, HN2, below_drewN HB3.out _⟩
                case measure => simp [intOf]; omega
              · have hb : (((letter (nib x.1 q) : Nat) : Int) == ((letter (nib y.1 q) : Nat) : Int)) = false := by
                  rw [beq_eq_false_iff_ne]
                  exact fun e => hnib (letter_inj hnx hny (by omega))
                have hal : alikeOf x.1 y.1 = q := alike_is hq HN.out (fun _ => hnib)
                have HAl := Lib.hid hal
                clear hal hnib
                by_cases hLq : L < q + 1
                · have hLq2 : (L : Int) < (q : Int) + 1 := by omega
                  have HV : Hid (q + 1 = nStep x L y) := Lib.hid (by rw [nStep, HAl.out, if_pos ⟨hq64, hLq⟩])
                  go_upto_region 11 with (fail)
                  go_quiet (fail)
                  go_wp2
                  go_roundw
                  case rel => exact ⟨j + 1, by omega, by go_num, by rw [HSt.out, ← HV.out]; go_num, below_drewN (HBY.out.trans (HB3.out.mono HBY.out.size)) _⟩
                  case measure => simp [intOf]; omega
                · have hLq2 : ¬ (L : Int) < (q : Int) + 1 := by omega
                  have HV : Hid (L = nStep x L y) := Lib.hid (by rw [nStep, if_neg (by rw [HAl.out]; omega)])
                  go_upto_region 11 with (fail)
                  go_quiet (fail)
                  go_wp2
                  go_roundw
                  case rel => exact ⟨j + 1, by omega, by go_num, by rw [HSt.out, ← HV.out], below_drewN (HBY.out.trans (HB3.out.mono HBY.out.size)) _⟩
                  case measure => simp [intOf]; omega
            · have hq0 : decide ((q : Int) < 64) = false := decide_eq_false (by omega)
              have hal : alikeOf x.1 y.1 = q := alike_is hq HN.out (fun h => absurd h hq64)
              have HV : Hid (L = nStep x L y) := Lib.hid (by rw [nStep, if_neg (by rw [hal]; omega)])
              clear hal
              go_upto_region 11 with (fail)
              go_quiet (fail)
              go_wp2
              go_roundw
              case rel => exact ⟨j + 1, by omega, by go_num, by rw [HSt.out, ← HV.out], below_drewN (HBY.out.trans (HB3.out.mono HBY.out.size)) _⟩
              case measure => simp [intOf]; omega
        · obtain rfl : j = ls.length := by omega
          rw [List.take_length]
          have hNl := HNl.out
          generalize needR x ls = NX at HNext hNl ⊢
          have HB := Lib.hid hB
          have HO2 := Lib.hid (own_below HOU.out hB)
          have HBw := Lib.hid (HBU.out.trans (hB.mono HBU.out.size))
          clear hB
          go_wp2_with (first
            | (at_builtin; refine wpList_append_own _ rfl _ _ 68 rfl w.heap.size 3 i0 _ 1 8 Tryd.underlying68 hi0 hz0 hz1 hz2 rfl (by decide) _ _ _ rfl (HO2.out.alloc _) ⟨wr.heap.size, 0, none⟩ 1 1 [.int .i64 (NX : Int)] rfl rfl (cell_row_new _ _ _) (fun u hu => by rw [List.mem_singleton.1 hu]; rfl) (by unfold maxLen; omega) (by omega) (by simp; have := HBw.out.size; omega) ?_; intro v' w3 hown3 hgrow3 _
               have HO3 := Lib.hid hown3
               have HB3 := Lib.hid ((HBw.out.alloc HBw.out.size (.cells #[.int .i64 (NX : Int)] 3)).grown hgrow3 (by simp; have := HBw.out.size; omega) (fun q hq => (HO2.out.lt q hq).1))
               clear hown3 hgrow3))
          go_roundw
          case rel => exact ⟨k + 1, _, rfl, by omega, by go_num, by rw [← HNext.out]; exact HO3.out, HB3.out⟩
          case measure => simp [intOf]; omega
    · obtain rfl : k = ls.length := by omega
      rw [List.take_length] at hO
      have HO := Lib.hid hO
      have HB := Lib.hid hB
      clear hO hB
      go_wp2
      go_ret
      exact ⟨_, rfl, HO.out, HB.out⟩
end Go.Proofs.YtcocljghoiacmaaDoor
end
section
namespace Go.Proofs.YtcocljghoiacmaaDoor
open Go.RowKit Go.Hoar
set_option maxHeartbeats 1000000 in
theorem find_nil (s : ByteArray) (h1 : 1 ≤ s.size) (h2 : s.size ≤ 64) (hd : AllDig s) (w : World) :
    Calls Tryd.prog 45 #[.string s, .slice none 0 0] w fun e w' => e = .returned (.tuple #[.int .i64 0, .int .i64 6]) ∧ Below w.heap.size w w' := by
  have hdig : ∀ V, Calls Tryd.prog 63 #[.string s] V fun e w' => ∃ gd, e = .returned (.tuple #[.slice (some ⟨gd, 0, none⟩) s.size s.size, .bool true]) ∧ Below V.heap.size V w' := fun V =>
    (digits_any s (by omega) V).mono (by
      rintro e w' ⟨⟨_, rfl, ho⟩ | ⟨k, _⟩, hb⟩
      · exact ⟨_, rfl, hb⟩
      · exact absurd hd k)
  have i1 : ¬ (s.size : Int) < 1 := by omega
  have i2 : ¬ (64 : Int) < s.size := by omega
  have HD := Lib.hid hdig
  clear hdig hd
  go_enter Tryd.func45, Tryd.ntmps45
  go_wp2_with (first
    | (go_at_call 63; refine (HD.out _).mono ?_; rintro e w1 ⟨gd, rfl, hbel⟩; have HB1 := Lib.hid hbel; clear hbel))
  go_loopw [8, 28] (fun f i wr => ∃ z : Int, z < 0 ∧ i = .int .i64 0 ∧ f = .int .i64 z ∧ Below w.heap.size w wr) (fun _ _ _ => 0)
  case atStart => exact ⟨-1, by omega, rfl, rfl, HB1.out⟩
  case round =>
    obtain ⟨z, hz, rfl, rfl, hB⟩ := hrel
    have HB := Lib.hid hB
    clear hB
    go_wp2
    go_ret2
    exact ⟨rfl, HB.out⟩
/-- Both find alike. -/
theorem find_both (ls : List (List Nat)) (s : ByteArray) (hs : s.size ≤ 1099511627776) (hn : ls.length ≤ 1000) : ∃ (i er : Int),
    (∀ (V : World) (a : Option Addr) (c : Nat), RowOk V a c ls → Calls Tryd.prog 45 #[.string s, .slice a ls.length c] V fun e w' => e = .returned (.tuple #[.int .i64 i, .int .i64 er]) ∧ Below V.heap.size V w') ∧
    (∀ (V : World) (a : Option Addr) (c : Nat), RowOk V a c ls → Calls Tryd.prog 46 #[.string s, .slice a ls.length c] V fun e w' => e = .returned (.tuple #[.int .i64 i, .int .i64 er]) ∧ Below V.heap.size V w') := by
  by_cases h : s.size < 1 ∨ 64 < s.size
  · exact ⟨0, 2, fun V a c _ => (find_many s h hs _ V).mono fun e w' h => ⟨h.1, by rw [h.2]; exact Below.refl _ _⟩, fun V a c _ => (refFind_many s h hs _ V).mono fun e w' h => ⟨h.1, by rw [← h.2]; exact Below.refl _ _⟩⟩
  · have h1 : 1 ≤ s.size := by omega
    have h2 : s.size ≤ 64 := by omega
    by_cases hd : AllDig s
    · refine ⟨(findGo (digsK s s.size) 0 none ls).1, (findGo (digsK s s.size) 0 none ls).2, fun V a c hr => ?_, fun V a c hr => refFind_any s h1 h2 hd ls a c V hr (by omega) _ (Lib.hid rfl)⟩
      rcases hr with ⟨rfl, rfl, rfl⟩ | ⟨g, off, rfl, hg, hss, hc, hm⟩
      · exact find_nil s h1 h2 hd V
      · exact find_any s h1 h2 hd ls g off c V hss hg hc hm (by omega) _ (Lib.hid rfl)
    · exact ⟨0, 4, fun V a c _ => find_form s h1 h2 hd _ V, fun V a c _ => (refFind_form s h1 h2 hd _ V).mono fun e w' h => ⟨h.1, by rw [← h.2]; exact Below.refl _ _⟩⟩
/-- What both say of a list. -/
def needs (ls : List Dig) : List Int := ls.map fun x => ((needR x ls : Nat) : Int)
theorem short_both (ls : List Dig) (hn : ls.length ≤ 60) :
    (∀ (V : World) (a : Option Addr) (c : Nat), RowOk V a c (ls.map (·.1)) → Calls Tryd.prog 44 #[.slice a ls.length c] V fun e w' => ∃ v, e = .returned v ∧ w'.ownsRow V.heap.size 3 1 v ls.length ((needs ls).map fun n => .int .i64 n) ∧ Below V.heap.size V w') ∧
    (∀ (V : World) (a : Option Addr) (c : Nat), RowOk V a c (ls.map (·.1)) → Calls Tryd.prog 48 #[.slice a ls.length c] V fun e w' => ∃ v, e = .returned v ∧ w'.ownsRow V.heap.size 3 1 v ls.length ((needs ls).map fun n => .int .i64 n) ∧ Below V.heap.size V w') := by
  constructor
  · intro V a c hr
    refine (short_row ls a c V hr (by omega)).mono ?_
    rintro e w' ⟨v, ys, rfl, hk, ho, hb⟩
    refine ⟨v, rfl, ?_, hb⟩
    have e1 : ((needs ls).map fun n => Value.int .i64 n) = ls.map fun x => .int .i64 (getN (raiseTo (rising ys) (needOf ls) (max 1 ys.length)) (sumLit x.1)) := by
      rw [needs, List.map_map]
      exact List.map_congr_left fun x hx => congrArg (Value.int .i64) (isNeed_unique (needR_need ls x) (short_need ls ys hk x hx))
    rw [e1]
    exact ho
  · intro V a c hr
    refine (refShort_any ls a c V hr hn).mono ?_
    rintro e w' ⟨v, rfl, ho, hb⟩
    refine ⟨v, rfl, ?_, hb⟩
    rw [needs, List.map_map]
    exact ho
theorem intsEqual_own (vals : List Int) (n : Nat) (hn : vals.length = n) (hbig : n ≤ 1000) (b1 b2 : Nat) (a b : Option Addr) (c d : Nat) (w : World) (h1 : w.ownsRow b1 3 1 (.slice a n c) n (vals.map fun n => .int .i64 n)) (h2 : w.ownsRow b2 3 1 (.slice b n d) n (vals.map fun n => .int .i64 n)) :
    Calls Tryd.prog 47 #[.slice a n c, .slice b n d] w fun e w' => e = .returned (.bool true) ∧ Below w.heap.size w w' := by
  rcases Nat.eq_zero_or_pos n with rfl | hp
  · refine (Tryd.slices_Equal_int_empty a b c 0 d w (by omega)).mono ?_
    rintro e w' ⟨rfl, rfl⟩
    exact ⟨rfl, Below.refl _ _⟩
  · obtain ⟨g1, rfl, _, _⟩ := own_addr h1 hp
    obtain ⟨g2, rfl, _, _⟩ := own_addr h2 hp
    have hc : ∀ (g : Nat) (base : Nat) (cc : Nat), w.ownsRow base 3 1 (.slice (some ⟨g, 0, none⟩) n cc) n (vals.map fun n => .int .i64 n) → ∀ j, j < vals.length → w.cell? ⟨g, 0 + j, none⟩ = some (.int .i64 (vals.getD j 0)) := fun g base cc ho j hj => by
      have h := ho.cells (g := g) rfl j (.int .i64 (vals.getD j 0)) (by
        rw [List.getElem?_map, List.getElem?_eq_getElem hj, List.getD_eq_getElem?_getD, List.getElem?_eq_getElem hj]; rfl)
      rwa [Addr.add_lit] at h
    refine (Tryd.slices_Equal_int g1 0 n c g2 0 n d vals vals w (by omega) (by omega) (by omega) (by omega) (hc g1 b1 c h1) (hc g2 b2 d h2)).mono ?_
    rintro e w' ⟨rfl, q, rfl⟩
    exact ⟨by rw [beq_self_eq_true], below_drewN (Below.refl _ _) _⟩
theorem shorts_big (m : Nat) (s : ByteArray) (hbig : 60 < m ∨ 100 < s.size) (a : Option Addr) (c : Nat) (w : World) (hc : ConstAt w) :
    Calls Tryd.prog 9 #[.slice a m c, .string s] w fun e w' => e = .returned (.bool true) ∧ Below w.heap.size w w' := by
  have HAw : Hid (∀ V : World, Below w.heap.size w V → Calls Tryd.prog 15 #[] V fun e w' => e = .returned (.bool true) ∧ Below V.heap.size V w') := Lib.hid fun V hV => awake_any V (hc.below hV rfl)
  clear hc
  by_cases h1 : 60 < m
  · have hb2 : (60 : Int) < m := by omega
    clear hbig
    go_enter Tryd.func9, Tryd.ntmps9
    go_wp2_with (go_at_call 15; (with_reducible refine (HAw.out _ (Below.refl _ _)).mono ?_); rintro e w1 ⟨rfl, hb1⟩; have HB1 := Lib.hid hb1; clear hb1)
    go_ret
    exact ⟨rfl, HB1.out⟩
  · have hb2 : ¬ (60 : Int) < m := by omega
    have hb3 : (100 : Int) < s.size := by omega
    clear hbig
    go_enter Tryd.func9, Tryd.ntmps9
    go_wp2_with (go_at_call 15; (with_reducible refine (HAw.out _ (Below.refl _ _)).mono ?_); rintro e w1 ⟨rfl, hb1⟩; have HB1 := Lib.hid hb1; clear hb1)
    go_ret
    exact ⟨rfl, HB1.out⟩
set_option maxRecDepth 100000 in
set_option maxHeartbeats 3000000 in
/-- THE LAW's WALK. -/
theorem shorts_law (ps : List (List Nat)) (hok : SumsOk ps) (s : ByteArray) (a : Option Addr) (c : Nat) (w : World) (hr : RowOk w a c ps) (hc : ConstAt w) :
    Calls Tryd.prog 9 #[.slice a ps.length c, .string s] w fun e w' => e = .returned (.bool true) ∧ Below w.heap.size w w' := by
  by_cases hbig : 60 < ps.length ∨ 100 < s.size
  · exact shorts_big ps.length s hbig a c w hc
  · have hb1 : ¬ (60 : Int) < (ps.length : Int) := by omega
    have hb2 : ¬ (100 : Int) < (s.size : Int) := by omega
    obtain ⟨xs, hxs⟩ := digs_of hok
    have hxl : xs.length = ps.length := by rw [← hxs, List.length_map]
    obtain ⟨p1, p2⟩ := short_both xs (by omega)
    rw [hxs, hxl] at p1 p2
    obtain ⟨i, er, f1, f2⟩ := find_both ps s (by omega) (by omega)
    have hnl : (needs xs).length = ps.length := by rw [needs, List.length_map, hxl]
    generalize needs xs = vals at p1 p2 hnl
    have HP1 := Lib.hid p1
    have HP2 := Lib.hid p2
    have HF1 := Lib.hid f1
    have HF2 := Lib.hid f2
    have HC := Lib.hid hc
    have HR := Lib.hid hr
    have HOk := Lib.hid hok
    have HNl := Lib.hid hnl
    have HCl : Hid (∀ V, Below w.heap.size w V → Calls Tryd.prog 32 #[.slice a ps.length c] V fun e w' => ∃ v, e = .returned v ∧ w'.ownsRow V.heap.size 26 32 v ps.length (ps.flatMap cellsOf) ∧ Below V.heap.size V w') := Lib.hid fun V hV => cloneSums_any ps hok (by omega) a c V (hr.below hV)
    have HAw : Hid (∀ V : World, ConstAt V → Calls Tryd.prog 15 #[] V fun e w' => e = .returned (.bool true) ∧ Below V.heap.size V w') := Lib.hid fun V hV => awake_any V hV
    have hpl : ps.length ≤ 60 := by omega
    clear hc hr hbig p1 p2 f1 f2 hok hnl hxs hxl
    go_enter Tryd.func9, Tryd.ntmps9
    go_wp2_with (first
      | (go_at_call 32; (with_reducible refine (HCl.out _ (Below.refl _ _)).mono ?_); rintro e w1 ⟨v1, rfl, ho1, hb⟩; obtain ⟨a1, c1, rfl, hr1, _, _, _⟩ := row_of_own ho1 HOk.out rfl; have HB1 := Lib.hid hb; have HR1 := Lib.hid hr1; clear ho1 hb hr1)
      | (go_at_call 44; (with_reducible refine (HP1.out _ _ _ HR1.out).mono ?_); rintro e w2 ⟨v2, rfl, ho2, hb⟩; obtain ⟨a2, c2, rfl, _, _⟩ := own_shape ho2; have HO2 := Lib.hid ho2; have HB2 := Lib.hid (HB1.out.trans (hb.mono HB1.out.size)); have HR2 := Lib.hid (HR1.out.below hb); clear hb ho2)
      | (go_at_call 45; (with_reducible refine (HF1.out _ _ _ HR2.out).mono ?_); rintro e w3 ⟨rfl, hb⟩; have HO3 := Lib.hid (own_below HO2.out hb); have HB3 := Lib.hid (HB2.out.trans (hb.mono HB2.out.size)); have HR3 := Lib.hid (HR2.out.below hb); clear hb)
      | (go_at_call 46; (with_reducible refine (HF2.out _ _ _ (HR.out.below HB3.out)).mono ?_); rintro e w4 ⟨rfl, hb⟩; have HO4 := Lib.hid (own_below HO3.out hb); have HB4 := Lib.hid (HB3.out.trans (hb.mono HB3.out.size)); have HR4 := Lib.hid (HR3.out.below hb); clear hb)
      | (go_at_call 48; (with_reducible refine (HP2.out _ _ _ (HR.out.below HB4.out)).mono ?_); rintro e w5 ⟨v5, rfl, ho5, hb⟩; obtain ⟨a5, c5, rfl, _, _⟩ := own_shape ho5; have HO5 := Lib.hid (own_below HO4.out hb); have HV5 := Lib.hid ho5; have HB5 := Lib.hid (HB4.out.trans (hb.mono HB4.out.size)); have HR5 := Lib.hid (HR4.out.below hb); clear hb ho5)
      | (go_at_call 47; (with_reducible refine (intsEqual_own vals _ HNl.out (by omega) _ _ _ _ _ _ _ HO5.out HV5.out).mono ?_); rintro e w6 ⟨rfl, hb⟩; have HB6 := Lib.hid (HB5.out.trans (hb.mono HB5.out.size)); have HR6 := Lib.hid (HR5.out.below hb); clear hb)
      | (go_at_call 37; (with_reducible refine (sumsEqual_same ps HOk.out (by omega) _ _ _ _ _ HR6.out (HR.out.below HB6.out)).mono ?_); rintro e w7 ⟨rfl, hb⟩; have HB7 := Lib.hid (HB6.out.trans (hb.mono HB6.out.size)); clear hb)
      | (go_at_call 15; (with_reducible refine (HAw.out _ (HC.out.below HB7.out rfl)).mono ?_); rintro e w8 ⟨rfl, hb⟩; have HB8 := Lib.hid (HB7.out.trans (hb.mono HB7.out.size)); clear hb))
    go_ret
    exact ⟨rfl, HB8.out⟩
end Go.Proofs.YtcocljghoiacmaaDoor
end
