/-
  THE REFERENCE's First and Of: the digest of bytes is the same as the program's.
  · The reference's block: the first words.
  · The reference's block: the whole.
  · THE REFERENCE's All: the words behind the whole blocks of bytes, and what is left.
  · THE REFERENCE's ended: the digest of words, of what is left, and of a length: its last part.
  · The reference's ended: the digest's array, and the blocks.
  · The reference's ended: the length's bytes.
  · The reference's ended: what fills up a block.
  · The reference's ended: its first part.
  · The reference's ended: the whole.
-/
import Derived.Test.YtffdkniahdekjaaDoorMBe
import Derived.Test.YtffdkniahdekjaaDoorMBb
import Derived.Test.YtffdkniahdekjaaDoorMBc
import Derived.StillTailTactics
import Derived.Test.YtffdkniahdekjaaDoorMBa
import Derived.Test.YtffdkniahdekjaaDoorMBd
section
namespace Go.Proofs.YtffdkniahdekjaaDoor
open Go.RowKit Go.Hoar
/-- A word of a block when k of its bytes have come. -/
def pw (b : List Nat) (i : Nat) : Nat → Nat
  | 0 => 0
  | k + 1 => pw b i k * 256 + b.getD (4 * i + k) 0
theorem pw_word (b : List Nat) (i : Nat) : pw b i 4 = Sha.word b i := by
  simp only [pw, Sha.word, Nat.add_zero]
  omega
theorem pw_lt (b : List Nat) (i k : Nat) (hb : Sha.Bytes b) (hk : k < 4) : pw b i k < 16777216 := by
  have h0 := Sha.getD_lt hb (by decide) (4 * i)
  have h1 := Sha.getD_lt hb (by decide) (4 * i + 1)
  have h2 := Sha.getD_lt hb (by decide) (4 * i + 2)
  match k, hk with
  | 0, _ => simp [pw]
  | 1, _ => simp only [pw, Nat.add_zero]; omega
  | 2, _ => simp only [pw, Nat.add_zero]; omega
  | 3, _ => simp only [pw, Nat.add_zero]; omega
theorem or_byte (x c : Nat) (hx : x < 16777216) (hc : c < 256) : bits BinOp.or IntKind.u32 (IntKind.u32.wrap ((x : Int) * 256)) (IntKind.u32.wrap (c : Int)) = ((x * 256 + c : Nat) : Int) := by
  have e0 : IntKind.u32.wrap ((x : Int) * 256) = ((x * 256 : Nat) : Int) := by
    show ((x : Int) * 256) % 4294967296 = _
    omega
  have e1 : IntKind.u32.wrap (c : Int) = ((c : Nat) : Int) := by
    show (c : Int) % 4294967296 = _
    omega
  have h := or_plus 8 x c hc
  rw [e0, e1, u32_or_nat _ _ (by omega) (by omega), show x * 256 = 2 ^ 8 * x by omega, h]
theorem arr64_zero (l : List Nat) (h : l.length < 64) : arr64 (l ++ [0]) = arr64 l := by
  rw [← arr64_set l 0 h]
  have e := arr64_end l h
  apply Array.ext (by simp)
  intro j h1 h2
  rw [Array.getElem_setIfInBounds]
  · split
    · rename_i hj
      subst hj
      rw [Array.getElem?_eq_getElem h2] at e
      exact (Option.some.inj e).symm
    · rfl
theorem arr64_put (l : List Nat) (x y : Nat) (h : l.length < 64) : (arr64 (l ++ [x])).setIfInBounds l.length (WV y) = arr64 (l ++ [y]) := by
  rw [← arr64_set l x h, ← arr64_set l y h, Array.setIfInBounds_setIfInBounds]
theorem ne_two (n : Nat) : n ≠ n + 2 := by omega
theorem ne_one (n : Nat) : n + 1 ≠ n + 2 := by omega
theorem put_word {wr : World} {B i : Nat} {l : List Nat} {x y : Nat} {v : Int} (hi : i < 16) (hl : l.length = i) (hW : Has wr B 151 (arr64 (l ++ [x]))) (hv : v = ((y : Nat) : Int)) :
    Has ((wr.setCell ⟨B, i, none⟩ (.int .u32 v)).drew) B 151 (arr64 (l ++ [y])) := by
  have h := arr64_put l x y (by omega)
  rw [hl] at h
  subst hv
  rw [← h]
  exact (hW.put i _).drew
noncomputable def takOps8 : Array Oper := (Tryd.f92.body.bind (opsIn 8)).getD #[]
set_option maxRecDepth 100000 in
set_option maxHeartbeats 3000000 in
theorem tk2 (g off cap n : Nat) (h b : List Nat) (w0 : World) (Q : Exit → Act → World → Prop) (hh : h.length = 8) (hhw : Sha.Words h) (hbl : Sha.Bytes b) (hb : BytesAt w0 g off 64 b) (hgn : g < n) (zs : Array Value) (hz : zs.size = 8) (hQ : TakEnds n w0 (w8 (Sha.take h b)) Q) (U : World) (hB : Below n w0 U) (hn : n ≤ w0.heap.size) (hs : U.heap.size = n + 3) (hH : Has U n 31 (w8 h)) (hR : Has U (n + 1) 31 zs) (hW : Has U (n + 2) 151 (arr64 []))
    (s3 s6 s7 s8 s9 s10 s11 s12 s13 s14 s15 s16 s17 s18 s19 s20 s21 s22 s23 s24 s25 s26 s27 s28 s29 s30 s31 s32 s33 s34 s35 s36 s37 s38 s39 s40 s41 s42 s43 s44 s45 s46 s47 s48 s49 s50 s51 s52 s53 s54 s55 s56 s57 s58 s59 s60 s61 s62 s63 s64 s65 s66 s67 s68 s69 s70 s71 s72 s73 s74 s75 s76 s77 s78 s79 s80 s81 s82 s83 s84 s85 s86 s87 s88 s89 s90 s91 s92 s93 s94 s95 s96 s97 s98 s99 s100 s101 s102 s103 s104 s105 s106 s107 s108 s109 s110 s111 s112 s113 s114 s115 s116 s117 s118 s119 s120 s121 s122 s123 s124 s125 s126 s127 s128 s129 s130 s131 s132 s133 s134 s135 s136 s137 s138 s139 s140 s141 s142 s143 s144 s145 s146 s147 s148 s149 s150 s151 s152 s153 s154 s155 s156 s157 s158 s159 s160 s161 s162 s163 s164 s165 s166 s167 s168 s169 s170 s171 s172 s173 s174 s175 s176 s177 s178 s179 s180 s181 s182 : Value) : Code.wp Tryd.prog (takTail 2) Q ⟨#[.agg (w8 h), .slice (some ⟨g, off, none⟩) 64 cap, .pointer (some ⟨n, 0, none⟩), s3, .pointer (some ⟨n + 1, 0, none⟩), .pointer (some ⟨n + 2, 0, none⟩), s6, s7, s8, s9, s10, s11, s12, s13, s14, s15, s16, s17, s18, s19, s20, s21, s22, s23, s24, s25, s26, s27, s28, s29, s30, s31, s32, s33, s34, s35, s36, s37, s38, s39, s40, s41, s42, s43, s44, s45, s46, s47, s48, s49, s50, s51, s52, s53, s54, s55, s56, s57, s58, s59, s60, s61, s62, s63, s64, s65, s66, s67, s68, s69, s70, s71, s72, s73, s74, s75, s76, s77, s78, s79, s80, s81, s82, s83, s84, s85, s86, s87, s88, s89, s90, s91, s92, s93, s94, s95, s96, s97, s98, s99, s100, s101, s102, s103, s104, s105, s106, s107, s108, s109, s110, s111, s112, s113, s114, s115, s116, s117, s118, s119, s120, s121, s122, s123, s124, s125, s126, s127, s128, s129, s130, s131, s132, s133, s134, s135, s136, s137, s138, s139, s140, s141, s142, s143, s144, s145, s146, s147, s148, s149, s150, s151, s152, s153, s154, s155, s156, s157, s158, s159, s160, s161, s162, s163, s164, s165, s166, s167, s168, s169, s170, s171, s172, s173, s174, s175, s176, s177, s178, s179, s180, s181, s182], []⟩ U := by
  conv => arg 2; whnf
  apply wp_seq_k
  intro K hK
  have hK2 : ∀ (s3 s6 s7 s8 s9 s10 s11 s12 s13 s14 s15 s16 s17 s18 s19 s20 s21 s22 s23 s24 s25 s26 s27 s28 s29 s30 s31 s32 s33 s34 s35 s36 s37 s38 s39 s40 s41 s42 s43 s44 s45 s46 s47 s48 s49 s50 s51 s52 s53 s54 s55 s56 s57 s58 s59 s60 s61 s62 s63 s64 s65 s66 s67 s68 s69 s70 s71 s72 s73 s74 s75 s76 s77 s78 s79 s80 s81 s82 s83 s84 s85 s86 s87 s88 s89 s90 s91 s92 s93 s94 s95 s96 s97 s98 s99 s100 s101 s102 s103 s104 s105 s106 s107 s108 s109 s110 s111 s112 s113 s114 s115 s116 s117 s118 s119 s120 s121 s122 s123 s124 s125 s126 s127 s128 s129 s130 s131 s132 s133 s134 s135 s136 s137 s138 s139 s140 s141 s142 s143 s144 s145 s146 s147 s148 s149 s150 s151 s152 s153 s154 s155 s156 s157 s158 s159 s160 s161 s162 s163 s164 s165 s166 s167 s168 s169 s170 s171 s172 s173 s174 s175 s176 s177 s178 s179 s180 s181 s182 : Value) (W : World) (hx : Below n w0 W ∧ W.heap.size = n + 3 ∧ Has W n 31 (w8 h) ∧ Has W (n + 1) 31 zs ∧ Has W (n + 2) 151 (arr64 (Sha.sched b 16))), K ⟨#[.agg (w8 h), .slice (some ⟨g, off, none⟩) 64 cap, .pointer (some ⟨n, 0, none⟩), s3, .pointer (some ⟨n + 1, 0, none⟩), .pointer (some ⟨n + 2, 0, none⟩), s6, s7, s8, s9, s10, s11, s12, s13, s14, s15, s16, s17, s18, s19, s20, s21, s22, s23, s24, s25, s26, s27, s28, s29, s30, s31, s32, s33, s34, s35, s36, s37, s38, s39, s40, s41, s42, s43, s44, s45, s46, s47, s48, s49, s50, s51, s52, s53, s54, s55, s56, s57, s58, s59, s60, s61, s62, s63, s64, s65, s66, s67, s68, s69, s70, s71, s72, s73, s74, s75, s76, s77, s78, s79, s80, s81, s82, s83, s84, s85, s86, s87, s88, s89, s90, s91, s92, s93, s94, s95, s96, s97, s98, s99, s100, s101, s102, s103, s104, s105, s106, s107, s108, s109, s110, s111, s112, s113, s114, s115, s116, s117, s118, s119, s120, s121, s122, s123, s124, s125, s126, s127, s128, s129, s130, s131, s132, s133, s134, s135, s136, s137, s138, s139, s140, s141, s142, s143, s144, s145, s146, s147, s148, s149, s150, s151, s152, s153, s154, s155, s156, s157, s158, s159, s160, s161, s162, s163, s164, s165, s166, s167, s168, s169, s170, s171, s172, s173, s174, s175, s176, s177, s178, s179, s180, s181, s182], []⟩ W := fun s3 s6 s7 s8 s9 s10 s11 s12 s13 s14 s15 s16 s17 s18 s19 s20 s21 s22 s23 s24 s25 s26 s27 s28 s29 s30 s31 s32 s33 s34 s35 s36 s37 s38 s39 s40 s41 s42 s43 s44 s45 s46 s47 s48 s49 s50 s51 s52 s53 s54 s55 s56 s57 s58 s59 s60 s61 s62 s63 s64 s65 s66 s67 s68 s69 s70 s71 s72 s73 s74 s75 s76 s77 s78 s79 s80 s81 s82 s83 s84 s85 s86 s87 s88 s89 s90 s91 s92 s93 s94 s95 s96 s97 s98 s99 s100 s101 s102 s103 s104 s105 s106 s107 s108 s109 s110 s111 s112 s113 s114 s115 s116 s117 s118 s119 s120 s121 s122 s123 s124 s125 s126 s127 s128 s129 s130 s131 s132 s133 s134 s135 s136 s137 s138 s139 s140 s141 s142 s143 s144 s145 s146 s147 s148 s149 s150 s151 s152 s153 s154 s155 s156 s157 s158 s159 s160 s161 s162 s163 s164 s165 s166 s167 s168 s169 s170 s171 s172 s173 s174 s175 s176 s177 s178 s179 s180 s181 s182 W hx => hK _ _ (tk3 g off cap n h b w0 Q hh hhw hbl hb hgn zs hz hQ W hx.1 hn hx.2.1 hx.2.2.1 hx.2.2.2.1 hx.2.2.2.2 s3 s6 s7 s8 s9 s10 s11 s12 s13 s14 s15 s16 s17 s18 s19 s20 s21 s22 s23 s24 s25 s26 s27 s28 s29 s30 s31 s32 s33 s34 s35 s36 s37 s38 s39 s40 s41 s42 s43 s44 s45 s46 s47 s48 s49 s50 s51 s52 s53 s54 s55 s56 s57 s58 s59 s60 s61 s62 s63 s64 s65 s66 s67 s68 s69 s70 s71 s72 s73 s74 s75 s76 s77 s78 s79 s80 s81 s82 s83 s84 s85 s86 s87 s88 s89 s90 s91 s92 s93 s94 s95 s96 s97 s98 s99 s100 s101 s102 s103 s104 s105 s106 s107 s108 s109 s110 s111 s112 s113 s114 s115 s116 s117 s118 s119 s120 s121 s122 s123 s124 s125 s126 s127 s128 s129 s130 s131 s132 s133 s134 s135 s136 s137 s138 s139 s140 s141 s142 s143 s144 s145 s146 s147 s148 s149 s150 s151 s152 s153 s154 s155 s156 s157 s158 s159 s160 s161 s162 s163 s164 s165 s166 s167 s168 s169 s170 s171 s172 s173 s174 s175 s176 s177 s178 s179 s180 s181 s182)
  clear hK
  go_wp2
  go_loopw [6] (fun i wr => ∃ k : Nat, k ≤ 16 ∧ i = .int .i64 k ∧ Below n w0 wr ∧ wr.heap.size = n + 3 ∧ Has wr n 31 (w8 h) ∧ Has wr (n + 1) 31 zs ∧ Has wr (n + 2) 151 (arr64 (Sha.sched b k))) (fun i _ => 16 - (intOf i).toNat)
  case atStart => exact ⟨0, by omega, rfl, hB, hs, hH, hR, hW⟩
  case round =>
    obtain ⟨i, hi, rfl, hB2, hs2, hH2, hR2, hW2⟩ := hrel
    have HK := Lib.hid hK2
    clear hK2 hB hH hR hW hs
    by_cases hlt : i < 16
    · have hlen := Lib.hid (Sha.sched_length b i)
      rw [← arr64_zero _ (by rw [hlen.out]; omega)] at hW2
      have HB := Lib.hid hB2
      have HH := Lib.hid hH2
      have HR := Lib.hid hR2
      have HW := Lib.hid hW2
      have HZ := Lib.hid hs2
      have Hb := Lib.hid hb
      clear hB2 hH2 hR2 hW2 hs2 hb
      go_wp2
      rw [show decide ((i : Int) < 16) = true from decide_eq_true (by omega)]
      go_loopw [7] (fun j wq => ∃ k : Nat, k ≤ 4 ∧ j = .int .i64 k ∧ Below n w0 wq ∧ wq.heap.size = n + 3 ∧ Has wq n 31 (w8 h) ∧ Has wq (n + 1) 31 zs ∧ Has wq (n + 2) 151 (arr64 (Sha.sched b i ++ [pw b i k]))) (fun j _ => 4 - (intOf j).toNat)
      case atStart => exact ⟨0, by omega, rfl, HB.out, HZ.out, HH.out, HR.out, HW.out⟩
      case round =>
        obtain ⟨k, hk, rfl, hB3, hs3, hH3, hR3, hW3⟩ := hrel
        by_cases hk4 : k < 4
        · have cw : wr.cell? ⟨n + 2, i, none⟩ = some (.int .u32 ((pw b i k : Nat) : Int)) := by
            rw [hW3.cell, arr64_get _ _ (by rw [List.length_append, hlen.out]; simp), List.getD_eq_getElem?_getD, List.getElem?_append_right (by rw [hlen.out]; exact Nat.le_refl _), hlen.out, Nat.sub_self]
            exact Eq.refl _
          have cb : wr.cell? ⟨g, off + (4 * i + k), none⟩ = some (.int .u8 ((b.getD (4 * i + k) 0 : Nat) : Int)) := (hB3.cell hgn).trans (Hb.out (4 * i + k) (by omega))
          have hf := hW3.free i
          have hpl := pw_lt b i k hbl hk4
          have hcl := Sha.getD_lt hbl (by decide) (4 * i + k)
          have hps : pw b i (k + 1) = pw b i k * 256 + b.getD (4 * i + k) 0 := rfl
          generalize pw b i k = x at *
          generalize b.getD (4 * i + k) 0 = c at *
          have HV := Lib.hid (or_byte x c hpl hcl)
          have HPS := Lib.hid hps
          have i4 : IntKind.i64.wrap (4 * (i : Int)) = 4 * (i : Int) := IntWalk.i64_in _ (by omega)
          have i5 : IntKind.i64.wrap (4 * (i : Int) + (k : Int)) = 4 * (i : Int) + (k : Int) := IntWalk.i64_in _ (by omega)
          have j5 : (0 : Int) ≤ 4 * (i : Int) + (k : Int) := by omega
          have v5 : 4 * (i : Int) + (k : Int) < 64 := by omega
          have n5 : (4 * (i : Int) + (k : Int)).toNat = 4 * i + k := by omega
          have ne5 : ¬ g = n + 2 := by omega
          have v64 : (i : Int) < 64 := by omega
          have HB3 := Lib.hid hB3
          have HH3 := Lib.hid hH3
          have HR3 := Lib.hid hR3
          have HW3 := Lib.hid hW3
          have HZ3 := Lib.hid hs3
          clear hB3 hH3 hR3 hW3 hs3 hps
          go_wp2
          have HS0 : Hid ((fun V : World => V.cell? ⟨g, off + (4 * i + k), none⟩ = some (.int .u8 (c : Int))) wr) := Lib.hid cb
          refine gen_world (P := fun V => Code.wp _ _ _ _ V) (I := fun V => V = wr) _ rfl ?_
          intro W hWw
          have HWw := Lib.hid hWw
          have cwW : W.cell? ⟨n + 2, i, none⟩ = some (.int .u32 (x : Int)) := by rw [hWw]; exact cw
          have hfW : W.frozen? ⟨n + 2, i, none⟩ = false := by rw [hWw]; exact hf
          rw [← hWw] at HS0
          clear hWw cw cb hf
          change Code.wp _ (Code.region 8 takOps8 true) _ _ _
          refine wp_region_held (S := fun V => V.cell? ⟨g, off + (4 * i + k), none⟩ = some (.int .u8 (c : Int))) (by kernel_rfl) ?_
          have hsz : takOps8.size = 16 := by kernel_rfl
          rw [hsz]
          clear hsz
          refine wpAnyH_take (i := 0) (oi := ⟨some 30, _, _, _, _, _⟩) (v := ?_) rfl (by kernel_rfl) (by kernel_rfl) (by kernel_rfl) (fun _ _ _ h => hQ.panic _ _ _ _ put_defers.symm h) (Or.inl ⟨by rfl, fun w' hw' => by have h1 : w'.cell? ⟨g, off + (4 * i + k), none⟩ = some (.int .u8 (c : Int)) := hw'; go_simp; with_reducible rfl⟩) HS0.out ?_
          try simp only [Act.put, List.setIfInBounds_toArray, List.set_cons_succ, List.set_cons_zero]
          refine wpAnyH_take (i := 1) (oi := ⟨some 31, _, _, _, _, _⟩) (v := ?_) rfl (by kernel_rfl) (by kernel_rfl) (by kernel_rfl) (fun _ _ _ h => hQ.panic _ _ _ _ put_defers.symm h) (Or.inl ⟨by rfl, fun w' hw' => by have h1 : w'.cell? ⟨g, off + (4 * i + k), none⟩ = some (.int .u8 (c : Int)) := hw'; go_simp; with_reducible rfl⟩) HS0.out ?_
          try simp only [Act.put, List.setIfInBounds_toArray, List.set_cons_succ, List.set_cons_zero]
          refine wpAnyH_take (i := 2) (oi := ⟨some 32, _, _, _, _, _⟩) (v := ?_) rfl (by kernel_rfl) (by kernel_rfl) (by kernel_rfl) (fun _ _ _ h => hQ.panic _ _ _ _ put_defers.symm h) (Or.inl ⟨by rfl, fun w' hw' => by have h1 : w'.cell? ⟨g, off + (4 * i + k), none⟩ = some (.int .u8 (c : Int)) := hw'; go_simp; with_reducible rfl⟩) HS0.out ?_
          try simp only [Act.put, List.setIfInBounds_toArray, List.set_cons_succ, List.set_cons_zero]
          refine wpAnyH_take (i := 5) (oi := ⟨some 35, _, _, _, _, _⟩) (v := ?_) rfl (by kernel_rfl) (by kernel_rfl) (by kernel_rfl) (fun _ _ _ h => hQ.panic _ _ _ _ put_defers.symm h) (Or.inl ⟨by rfl, fun w' hw' => by have h1 : w'.cell? ⟨g, off + (4 * i + k), none⟩ = some (.int .u8 (c : Int)) := hw'; go_simp; with_reducible rfl⟩) HS0.out ?_
          try simp only [Act.put, List.setIfInBounds_toArray, List.set_cons_succ, List.set_cons_zero]
          refine wpAnyH_take (i := 6) (oi := ⟨some 36, _, _, _, _, _⟩) (v := ?_) rfl (by kernel_rfl) (by kernel_rfl) (by kernel_rfl) (fun _ _ _ h => hQ.panic _ _ _ _ put_defers.symm h) (Or.inl ⟨by rfl, fun w' hw' => by have h1 : w'.cell? ⟨g, off + (4 * i + k), none⟩ = some (.int .u8 (c : Int)) := hw'; go_simp; with_reducible rfl⟩) HS0.out ?_
          try simp only [Act.put, List.setIfInBounds_toArray, List.set_cons_succ, List.set_cons_zero]
          refine wpAnyH_take (i := 7) (oi := ⟨some 37, _, _, _, _, _⟩) (v := ?_) rfl (by kernel_rfl) (by kernel_rfl) (by kernel_rfl) (fun _ _ _ h => hQ.panic _ _ _ _ put_defers.symm h) (Or.inl ⟨by rfl, fun w' hw' => by have h1 : w'.cell? ⟨g, off + (4 * i + k), none⟩ = some (.int .u8 (c : Int)) := hw'; go_simp; with_reducible rfl⟩) HS0.out ?_
          try simp only [Act.put, List.setIfInBounds_toArray, List.set_cons_succ, List.set_cons_zero]
          refine wpAnyH_take (i := 8) (oi := ⟨some 38, _, _, _, _, _⟩) (v := ?_) rfl (by kernel_rfl) (by kernel_rfl) (by kernel_rfl) (fun _ _ _ h => hQ.panic _ _ _ _ put_defers.symm h) (Or.inl ⟨by rfl, fun w' hw' => by have h1 : w'.cell? ⟨g, off + (4 * i + k), none⟩ = some (.int .u8 (c : Int)) := hw'; go_simp; with_reducible rfl⟩) HS0.out ?_
          try simp only [Act.put, List.setIfInBounds_toArray, List.set_cons_succ, List.set_cons_zero]
          refine wpAnyH_take (i := 9) (oi := ⟨some 39, _, _, _, _, _⟩) (v := ?_) rfl (by kernel_rfl) (by kernel_rfl) (by kernel_rfl) (fun _ _ _ h => hQ.panic _ _ _ _ put_defers.symm h) (Or.inl ⟨by rfl, fun w' hw' => by have h1 : w'.cell? ⟨g, off + (4 * i + k), none⟩ = some (.int .u8 (c : Int)) := hw'; go_simp; with_reducible rfl⟩) HS0.out ?_
          try simp only [Act.put, List.setIfInBounds_toArray, List.set_cons_succ, List.set_cons_zero]
          refine wpAnyH_take (i := 10) (oi := ⟨some 40, _, _, _, _, _⟩) (v := ?_) rfl (by kernel_rfl) (by kernel_rfl) (by kernel_rfl) (fun _ _ _ h => hQ.panic _ _ _ _ put_defers.symm h) (Or.inl ⟨by rfl, fun w' hw' => by have h1 : w'.cell? ⟨g, off + (4 * i + k), none⟩ = some (.int .u8 (c : Int)) := hw'; go_simp; with_reducible rfl⟩) HS0.out ?_
          try simp only [Act.put, List.setIfInBounds_toArray, List.set_cons_succ, List.set_cons_zero]
          refine wpAnyH_take (i := 11) (oi := ⟨some 41, _, _, _, _, _⟩) (v := ?_) rfl (by kernel_rfl) (by kernel_rfl) (by kernel_rfl) (fun _ _ _ h => hQ.panic _ _ _ _ put_defers.symm h) (Or.inl ⟨by rfl, fun w' hw' => by have h1 : w'.cell? ⟨g, off + (4 * i + k), none⟩ = some (.int .u8 (c : Int)) := hw'; go_simp; with_reducible rfl⟩) HS0.out ?_
          try simp only [Act.put, List.setIfInBounds_toArray, List.set_cons_succ, List.set_cons_zero]
          refine wpAnyH_take (i := 12) (oi := ⟨some 42, _, _, _, _, _⟩) (v := ?_) rfl (by kernel_rfl) (by kernel_rfl) (by kernel_rfl) (fun _ _ _ h => hQ.panic _ _ _ _ put_defers.symm h) (Or.inl ⟨by rfl, fun w' hw' => by have h1 : w'.cell? ⟨g, off + (4 * i + k), none⟩ = some (.int .u8 (c : Int)) := hw'; go_simp; with_reducible rfl⟩) HS0.out ?_
          try simp only [Act.put, List.setIfInBounds_toArray, List.set_cons_succ, List.set_cons_zero]
          refine wpAnyH_all (rs := [3]) (by kernel_rfl) (by simp) ?_
          intro i hi
          obtain rfl : i = 3 := by simpa using hi
          refine wpOp_step (o := ⟨some 33, _, _, _, _, _⟩) rfl (fun K' hK' => ?_)
          rw [if_pos (show Region.wanted _ _ = true from rfl)]
          go_simp
          refine hK' _ _ ⟨HS0.out, ?_⟩
          clear hK' K'
          try simp only [Act.put, List.setIfInBounds_toArray, List.set_cons_succ, List.set_cons_zero]
          refine wpAnyH_take (i := 4) (oi := ⟨some 34, _, _, _, _, _⟩) (v := ?_) rfl (by kernel_rfl) (by kernel_rfl) (by kernel_rfl) (fun _ _ _ h => hQ.panic _ _ _ _ put_defers.symm h) (Or.inl ⟨by rfl, fun w' hw' => by have h1 : w'.cell? ⟨g, off + (4 * i + k), none⟩ = some (.int .u8 (c : Int)) := hw'; go_simp; with_reducible rfl⟩) HS0.out ?_
          try simp only [Act.put, List.setIfInBounds_toArray, List.set_cons_succ, List.set_cons_zero]
          refine wpAnyH_take (i := 13) (oi := ⟨some 43, _, _, _, _, _⟩) (v := ?_) rfl (by kernel_rfl) (by kernel_rfl) (by kernel_rfl) (fun _ _ _ h => hQ.panic _ _ _ _ put_defers.symm h) (Or.inl ⟨by rfl, fun w' hw' => by have h1 : w'.cell? ⟨g, off + (4 * i + k), none⟩ = some (.int .u8 (c : Int)) := hw'; go_simp; with_reducible rfl⟩) HS0.out ?_
          try simp only [Act.put, List.setIfInBounds_toArray, List.set_cons_succ, List.set_cons_zero]
          refine wpAnyH_take (i := 14) (oi := ⟨some 44, _, _, _, _, _⟩) (v := ?_) rfl (by kernel_rfl) (by kernel_rfl) (by kernel_rfl) (fun _ _ _ h => hQ.panic _ _ _ _ put_defers.symm h) (Or.inl ⟨by rfl, fun w' hw' => by have h1 : w'.cell? ⟨g, off + (4 * i + k), none⟩ = some (.int .u8 (c : Int)) := hw'; go_simp; with_reducible rfl⟩) HS0.out ?_
          try simp only [Act.put, List.setIfInBounds_toArray, List.set_cons_succ, List.set_cons_zero]
          refine wpAnyH_all (rs := [15]) (by kernel_rfl) (by simp) ?_
          intro i hi
          obtain rfl : i = 15 := by simpa using hi
          refine wpOp_step (o := ⟨none, _, _, _, _, _⟩) rfl (fun K' hK' => ?_)
          rw [if_pos (show Region.wanted _ _ = true from rfl)]
          go_simp
          rw [HV.out]
          refine hK' _ _ ⟨(World.cell?_setCell_other _ _ _ _ (ne_block (by omega))).trans HS0.out, ?_⟩
          clear hK' K' cwW hfW hQ
          have hq := HWw.out
          clear HWw HS0 HV
          subst hq
          refine wpAnyH_done (by kernel_rfl) ?_ _
          go_wp2
          go_roundw
          case rel =>
            clear HK
            refine ⟨k + 1, by omega, by go_num, ?_, ?_, ?_, ?_, ?_⟩
            · exact (HB3.out.setCell (Nat.le_add_right n 2) _).drew
            · exact size_put (w := W) HZ3.out 0 _ _
            · exact (HH3.out.apart (ne_two n) _).drew
            · exact (HR3.out.apart (ne_one n) _).drew
            · rw [HPS.out]
              exact put_word hlt hlen.out HW3.out (by omega)
          case measure => simp [intOf]; omega
        · obtain rfl : k = 4 := by omega
          rw [pw_word] at hW3
          have hsc : Sha.sched b (i + 1) = Sha.sched b i ++ [Sha.word b i] := by rw [Sha.sched, if_pos hlt]
          rw [← hsc] at hW3
          clear hsc hQ
          go_wp2
          go_roundw
          case rel => exact ⟨i + 1, by omega, by go_num, hB3, hs3, hH3, hR3, hW3⟩
          case measure => simp [intOf]; omega
    · obtain rfl : i = 16 := by omega
      have hx := HK
      clear HK hQ
      go_wp2
      apply hx.out
      exact ⟨hB2, hs2, hH2, hR2, hW2⟩
end Go.Proofs.YtffdkniahdekjaaDoor
end
section
namespace Go.Proofs.YtffdkniahdekjaaDoor
open Go.RowKit Go.Hoar
set_option maxRecDepth 100000 in
set_option maxHeartbeats 3000000 in
theorem tk1 (g off cap n : Nat) (h b : List Nat) (w0 : World) (Q : Exit → Act → World → Prop) (hh : h.length = 8) (hhw : Sha.Words h) (hbl : Sha.Bytes b) (hb : BytesAt w0 g off 64 b) (hgn : g < n) (hQ : TakEnds n w0 (w8 (Sha.take h b)) Q) (U : World) (hB : Below n w0 U) (hn : n ≤ w0.heap.size) (hs : U.heap.size = n + 2) (hH : Has U n 31 (w8 h)) (hR : Has U (n + 1) 31 (w8 [0, 0, 0, 0, 0, 0, 0, 0]))
    (s3 s5 s6 s7 s8 s9 s10 s11 s12 s13 s14 s15 s16 s17 s18 s19 s20 s21 s22 s23 s24 s25 s26 s27 s28 s29 s30 s31 s32 s33 s34 s35 s36 s37 s38 s39 s40 s41 s42 s43 s44 s45 s46 s47 s48 s49 s50 s51 s52 s53 s54 s55 s56 s57 s58 s59 s60 s61 s62 s63 s64 s65 s66 s67 s68 s69 s70 s71 s72 s73 s74 s75 s76 s77 s78 s79 s80 s81 s82 s83 s84 s85 s86 s87 s88 s89 s90 s91 s92 s93 s94 s95 s96 s97 s98 s99 s100 s101 s102 s103 s104 s105 s106 s107 s108 s109 s110 s111 s112 s113 s114 s115 s116 s117 s118 s119 s120 s121 s122 s123 s124 s125 s126 s127 s128 s129 s130 s131 s132 s133 s134 s135 s136 s137 s138 s139 s140 s141 s142 s143 s144 s145 s146 s147 s148 s149 s150 s151 s152 s153 s154 s155 s156 s157 s158 s159 s160 s161 s162 s163 s164 s165 s166 s167 s168 s169 s170 s171 s172 s173 s174 s175 s176 s177 s178 s179 s180 s181 s182 : Value) : Code.wp Tryd.prog (takTail 1) Q ⟨#[.agg (w8 h), .slice (some ⟨g, off, none⟩) 64 cap, .pointer (some ⟨n, 0, none⟩), s3, .pointer (some ⟨n + 1, 0, none⟩), s5, s6, s7, s8, s9, s10, s11, s12, s13, s14, s15, s16, s17, s18, s19, s20, s21, s22, s23, s24, s25, s26, s27, s28, s29, s30, s31, s32, s33, s34, s35, s36, s37, s38, s39, s40, s41, s42, s43, s44, s45, s46, s47, s48, s49, s50, s51, s52, s53, s54, s55, s56, s57, s58, s59, s60, s61, s62, s63, s64, s65, s66, s67, s68, s69, s70, s71, s72, s73, s74, s75, s76, s77, s78, s79, s80, s81, s82, s83, s84, s85, s86, s87, s88, s89, s90, s91, s92, s93, s94, s95, s96, s97, s98, s99, s100, s101, s102, s103, s104, s105, s106, s107, s108, s109, s110, s111, s112, s113, s114, s115, s116, s117, s118, s119, s120, s121, s122, s123, s124, s125, s126, s127, s128, s129, s130, s131, s132, s133, s134, s135, s136, s137, s138, s139, s140, s141, s142, s143, s144, s145, s146, s147, s148, s149, s150, s151, s152, s153, s154, s155, s156, s157, s158, s159, s160, s161, s162, s163, s164, s165, s166, s167, s168, s169, s170, s171, s172, s173, s174, s175, s176, s177, s178, s179, s180, s181, s182], []⟩ U := by
  conv => arg 2; whnf
  apply wp_seq_k
  intro K hK
  have hK2 : ∀ (s3 s6 s7 s8 s9 s10 s11 s12 s13 s14 s15 s16 s17 s18 s19 s20 s21 s22 s23 s24 s25 s26 s27 s28 s29 s30 s31 s32 s33 s34 s35 s36 s37 s38 s39 s40 s41 s42 s43 s44 s45 s46 s47 s48 s49 s50 s51 s52 s53 s54 s55 s56 s57 s58 s59 s60 s61 s62 s63 s64 s65 s66 s67 s68 s69 s70 s71 s72 s73 s74 s75 s76 s77 s78 s79 s80 s81 s82 s83 s84 s85 s86 s87 s88 s89 s90 s91 s92 s93 s94 s95 s96 s97 s98 s99 s100 s101 s102 s103 s104 s105 s106 s107 s108 s109 s110 s111 s112 s113 s114 s115 s116 s117 s118 s119 s120 s121 s122 s123 s124 s125 s126 s127 s128 s129 s130 s131 s132 s133 s134 s135 s136 s137 s138 s139 s140 s141 s142 s143 s144 s145 s146 s147 s148 s149 s150 s151 s152 s153 s154 s155 s156 s157 s158 s159 s160 s161 s162 s163 s164 s165 s166 s167 s168 s169 s170 s171 s172 s173 s174 s175 s176 s177 s178 s179 s180 s181 s182 : Value) (W : World) (hx : Below n w0 W ∧ W.heap.size = n + 3 ∧ Has W n 31 (w8 h) ∧ Has W (n + 1) 31 (w8 [0, 0, 0, 0, 0, 0, 0, 0]) ∧ Has W (n + 2) 151 (arr64 [])), K ⟨#[.agg (w8 h), .slice (some ⟨g, off, none⟩) 64 cap, .pointer (some ⟨n, 0, none⟩), s3, .pointer (some ⟨n + 1, 0, none⟩), .pointer (some ⟨n + 2, 0, none⟩), s6, s7, s8, s9, s10, s11, s12, s13, s14, s15, s16, s17, s18, s19, s20, s21, s22, s23, s24, s25, s26, s27, s28, s29, s30, s31, s32, s33, s34, s35, s36, s37, s38, s39, s40, s41, s42, s43, s44, s45, s46, s47, s48, s49, s50, s51, s52, s53, s54, s55, s56, s57, s58, s59, s60, s61, s62, s63, s64, s65, s66, s67, s68, s69, s70, s71, s72, s73, s74, s75, s76, s77, s78, s79, s80, s81, s82, s83, s84, s85, s86, s87, s88, s89, s90, s91, s92, s93, s94, s95, s96, s97, s98, s99, s100, s101, s102, s103, s104, s105, s106, s107, s108, s109, s110, s111, s112, s113, s114, s115, s116, s117, s118, s119, s120, s121, s122, s123, s124, s125, s126, s127, s128, s129, s130, s131, s132, s133, s134, s135, s136, s137, s138, s139, s140, s141, s142, s143, s144, s145, s146, s147, s148, s149, s150, s151, s152, s153, s154, s155, s156, s157, s158, s159, s160, s161, s162, s163, s164, s165, s166, s167, s168, s169, s170, s171, s172, s173, s174, s175, s176, s177, s178, s179, s180, s181, s182], []⟩ W := fun s3 s6 s7 s8 s9 s10 s11 s12 s13 s14 s15 s16 s17 s18 s19 s20 s21 s22 s23 s24 s25 s26 s27 s28 s29 s30 s31 s32 s33 s34 s35 s36 s37 s38 s39 s40 s41 s42 s43 s44 s45 s46 s47 s48 s49 s50 s51 s52 s53 s54 s55 s56 s57 s58 s59 s60 s61 s62 s63 s64 s65 s66 s67 s68 s69 s70 s71 s72 s73 s74 s75 s76 s77 s78 s79 s80 s81 s82 s83 s84 s85 s86 s87 s88 s89 s90 s91 s92 s93 s94 s95 s96 s97 s98 s99 s100 s101 s102 s103 s104 s105 s106 s107 s108 s109 s110 s111 s112 s113 s114 s115 s116 s117 s118 s119 s120 s121 s122 s123 s124 s125 s126 s127 s128 s129 s130 s131 s132 s133 s134 s135 s136 s137 s138 s139 s140 s141 s142 s143 s144 s145 s146 s147 s148 s149 s150 s151 s152 s153 s154 s155 s156 s157 s158 s159 s160 s161 s162 s163 s164 s165 s166 s167 s168 s169 s170 s171 s172 s173 s174 s175 s176 s177 s178 s179 s180 s181 s182 W hx => hK _ _ (tk2 g off cap n h b w0 Q hh hhw hbl hb hgn _ rfl hQ W hx.1 hn hx.2.1 hx.2.2.1 hx.2.2.2.1 hx.2.2.2.2 s3 s6 s7 s8 s9 s10 s11 s12 s13 s14 s15 s16 s17 s18 s19 s20 s21 s22 s23 s24 s25 s26 s27 s28 s29 s30 s31 s32 s33 s34 s35 s36 s37 s38 s39 s40 s41 s42 s43 s44 s45 s46 s47 s48 s49 s50 s51 s52 s53 s54 s55 s56 s57 s58 s59 s60 s61 s62 s63 s64 s65 s66 s67 s68 s69 s70 s71 s72 s73 s74 s75 s76 s77 s78 s79 s80 s81 s82 s83 s84 s85 s86 s87 s88 s89 s90 s91 s92 s93 s94 s95 s96 s97 s98 s99 s100 s101 s102 s103 s104 s105 s106 s107 s108 s109 s110 s111 s112 s113 s114 s115 s116 s117 s118 s119 s120 s121 s122 s123 s124 s125 s126 s127 s128 s129 s130 s131 s132 s133 s134 s135 s136 s137 s138 s139 s140 s141 s142 s143 s144 s145 s146 s147 s148 s149 s150 s151 s152 s153 s154 s155 s156 s157 s158 s159 s160 s161 s162 s163 s164 s165 s166 s167 s168 s169 s170 s171 s172 s173 s174 s175 s176 s177 s178 s179 s180 s181 s182)
  have HB := Lib.hid hB
  have HH := Lib.hid hH
  have HR := Lib.hid hR
  clear hK hB hH hR hQ hb
  go_wp2
  exact ⟨HB.out.alloc (by omega) _, by simp [hs], HH.out.alloc _, HR.out.alloc _, Has.fresh_at _ _ _ _ hs.symm⟩
set_option maxRecDepth 100000 in
set_option maxHeartbeats 3000000 in
theorem tk0 (g off cap n : Nat) (h b : List Nat) (w0 : World) (Q : Exit → Act → World → Prop) (hh : h.length = 8) (hhw : Sha.Words h) (hbl : Sha.Bytes b) (hb : BytesAt w0 g off 64 b) (hgn : g < n) (hQ : TakEnds n w0 (w8 (Sha.take h b)) Q) (hn : n = w0.heap.size)
    (s2 s3 s4 s5 s6 s7 s8 s9 s10 s11 s12 s13 s14 s15 s16 s17 s18 s19 s20 s21 s22 s23 s24 s25 s26 s27 s28 s29 s30 s31 s32 s33 s34 s35 s36 s37 s38 s39 s40 s41 s42 s43 s44 s45 s46 s47 s48 s49 s50 s51 s52 s53 s54 s55 s56 s57 s58 s59 s60 s61 s62 s63 s64 s65 s66 s67 s68 s69 s70 s71 s72 s73 s74 s75 s76 s77 s78 s79 s80 s81 s82 s83 s84 s85 s86 s87 s88 s89 s90 s91 s92 s93 s94 s95 s96 s97 s98 s99 s100 s101 s102 s103 s104 s105 s106 s107 s108 s109 s110 s111 s112 s113 s114 s115 s116 s117 s118 s119 s120 s121 s122 s123 s124 s125 s126 s127 s128 s129 s130 s131 s132 s133 s134 s135 s136 s137 s138 s139 s140 s141 s142 s143 s144 s145 s146 s147 s148 s149 s150 s151 s152 s153 s154 s155 s156 s157 s158 s159 s160 s161 s162 s163 s164 s165 s166 s167 s168 s169 s170 s171 s172 s173 s174 s175 s176 s177 s178 s179 s180 s181 s182 : Value) : Code.wp Tryd.prog (takTail 0) Q ⟨#[.agg (w8 h), .slice (some ⟨g, off, none⟩) 64 cap, s2, s3, s4, s5, s6, s7, s8, s9, s10, s11, s12, s13, s14, s15, s16, s17, s18, s19, s20, s21, s22, s23, s24, s25, s26, s27, s28, s29, s30, s31, s32, s33, s34, s35, s36, s37, s38, s39, s40, s41, s42, s43, s44, s45, s46, s47, s48, s49, s50, s51, s52, s53, s54, s55, s56, s57, s58, s59, s60, s61, s62, s63, s64, s65, s66, s67, s68, s69, s70, s71, s72, s73, s74, s75, s76, s77, s78, s79, s80, s81, s82, s83, s84, s85, s86, s87, s88, s89, s90, s91, s92, s93, s94, s95, s96, s97, s98, s99, s100, s101, s102, s103, s104, s105, s106, s107, s108, s109, s110, s111, s112, s113, s114, s115, s116, s117, s118, s119, s120, s121, s122, s123, s124, s125, s126, s127, s128, s129, s130, s131, s132, s133, s134, s135, s136, s137, s138, s139, s140, s141, s142, s143, s144, s145, s146, s147, s148, s149, s150, s151, s152, s153, s154, s155, s156, s157, s158, s159, s160, s161, s162, s163, s164, s165, s166, s167, s168, s169, s170, s171, s172, s173, s174, s175, s176, s177, s178, s179, s180, s181, s182], []⟩ w0 := by
  conv => arg 2; whnf
  apply wp_seq_k
  intro K hK
  have hK2 : ∀ (s3 s5 s6 s7 s8 s9 s10 s11 s12 s13 s14 s15 s16 s17 s18 s19 s20 s21 s22 s23 s24 s25 s26 s27 s28 s29 s30 s31 s32 s33 s34 s35 s36 s37 s38 s39 s40 s41 s42 s43 s44 s45 s46 s47 s48 s49 s50 s51 s52 s53 s54 s55 s56 s57 s58 s59 s60 s61 s62 s63 s64 s65 s66 s67 s68 s69 s70 s71 s72 s73 s74 s75 s76 s77 s78 s79 s80 s81 s82 s83 s84 s85 s86 s87 s88 s89 s90 s91 s92 s93 s94 s95 s96 s97 s98 s99 s100 s101 s102 s103 s104 s105 s106 s107 s108 s109 s110 s111 s112 s113 s114 s115 s116 s117 s118 s119 s120 s121 s122 s123 s124 s125 s126 s127 s128 s129 s130 s131 s132 s133 s134 s135 s136 s137 s138 s139 s140 s141 s142 s143 s144 s145 s146 s147 s148 s149 s150 s151 s152 s153 s154 s155 s156 s157 s158 s159 s160 s161 s162 s163 s164 s165 s166 s167 s168 s169 s170 s171 s172 s173 s174 s175 s176 s177 s178 s179 s180 s181 s182 : Value) (W : World) (hx : Below n w0 W ∧ W.heap.size = n + 2 ∧ Has W n 31 (w8 h) ∧ Has W (n + 1) 31 (w8 [0, 0, 0, 0, 0, 0, 0, 0])), K ⟨#[.agg (w8 h), .slice (some ⟨g, off, none⟩) 64 cap, .pointer (some ⟨n, 0, none⟩), s3, .pointer (some ⟨n + 1, 0, none⟩), s5, s6, s7, s8, s9, s10, s11, s12, s13, s14, s15, s16, s17, s18, s19, s20, s21, s22, s23, s24, s25, s26, s27, s28, s29, s30, s31, s32, s33, s34, s35, s36, s37, s38, s39, s40, s41, s42, s43, s44, s45, s46, s47, s48, s49, s50, s51, s52, s53, s54, s55, s56, s57, s58, s59, s60, s61, s62, s63, s64, s65, s66, s67, s68, s69, s70, s71, s72, s73, s74, s75, s76, s77, s78, s79, s80, s81, s82, s83, s84, s85, s86, s87, s88, s89, s90, s91, s92, s93, s94, s95, s96, s97, s98, s99, s100, s101, s102, s103, s104, s105, s106, s107, s108, s109, s110, s111, s112, s113, s114, s115, s116, s117, s118, s119, s120, s121, s122, s123, s124, s125, s126, s127, s128, s129, s130, s131, s132, s133, s134, s135, s136, s137, s138, s139, s140, s141, s142, s143, s144, s145, s146, s147, s148, s149, s150, s151, s152, s153, s154, s155, s156, s157, s158, s159, s160, s161, s162, s163, s164, s165, s166, s167, s168, s169, s170, s171, s172, s173, s174, s175, s176, s177, s178, s179, s180, s181, s182], []⟩ W := fun s3 s5 s6 s7 s8 s9 s10 s11 s12 s13 s14 s15 s16 s17 s18 s19 s20 s21 s22 s23 s24 s25 s26 s27 s28 s29 s30 s31 s32 s33 s34 s35 s36 s37 s38 s39 s40 s41 s42 s43 s44 s45 s46 s47 s48 s49 s50 s51 s52 s53 s54 s55 s56 s57 s58 s59 s60 s61 s62 s63 s64 s65 s66 s67 s68 s69 s70 s71 s72 s73 s74 s75 s76 s77 s78 s79 s80 s81 s82 s83 s84 s85 s86 s87 s88 s89 s90 s91 s92 s93 s94 s95 s96 s97 s98 s99 s100 s101 s102 s103 s104 s105 s106 s107 s108 s109 s110 s111 s112 s113 s114 s115 s116 s117 s118 s119 s120 s121 s122 s123 s124 s125 s126 s127 s128 s129 s130 s131 s132 s133 s134 s135 s136 s137 s138 s139 s140 s141 s142 s143 s144 s145 s146 s147 s148 s149 s150 s151 s152 s153 s154 s155 s156 s157 s158 s159 s160 s161 s162 s163 s164 s165 s166 s167 s168 s169 s170 s171 s172 s173 s174 s175 s176 s177 s178 s179 s180 s181 s182 W hx => hK _ _ (tk1 g off cap n h b w0 Q hh hhw hbl hb hgn hQ W hx.1 (by omega) hx.2.1 hx.2.2.1 hx.2.2.2 s3 s5 s6 s7 s8 s9 s10 s11 s12 s13 s14 s15 s16 s17 s18 s19 s20 s21 s22 s23 s24 s25 s26 s27 s28 s29 s30 s31 s32 s33 s34 s35 s36 s37 s38 s39 s40 s41 s42 s43 s44 s45 s46 s47 s48 s49 s50 s51 s52 s53 s54 s55 s56 s57 s58 s59 s60 s61 s62 s63 s64 s65 s66 s67 s68 s69 s70 s71 s72 s73 s74 s75 s76 s77 s78 s79 s80 s81 s82 s83 s84 s85 s86 s87 s88 s89 s90 s91 s92 s93 s94 s95 s96 s97 s98 s99 s100 s101 s102 s103 s104 s105 s106 s107 s108 s109 s110 s111 s112 s113 s114 s115 s116 s117 s118 s119 s120 s121 s122 s123 s124 s125 s126 s127 s128 s129 s130 s131 s132 s133 s134 s135 s136 s137 s138 s139 s140 s141 s142 s143 s144 s145 s146 s147 s148 s149 s150 s151 s152 s153 s154 s155 s156 s157 s158 s159 s160 s161 s162 s163 s164 s165 s166 s167 s168 s169 s170 s171 s172 s173 s174 s175 s176 s177 s178 s179 s180 s181 s182)
  have hs : w0.heap.size = n := hn.symm
  clear hK hQ hb hn
  go_wp2
  exact ⟨((Below.refl _ w0).alloc (by omega) _).alloc (by simp [hs]) _, by simp [hs], (Has.fresh_at _ _ _ _ hs.symm).alloc _, Has.fresh_at _ _ _ _ (by simp [hs])⟩
set_option maxRecDepth 100000 in
set_option maxHeartbeats 3000000 in
/-- THE REFERENCE's BLOCK: the words that a block makes of eight words. -/
theorem refTake_any (g off cap : Nat) (h b : List Nat) (w : World) (hh : h.length = 8) (hhw : Sha.Words h) (hbl : Sha.Bytes b) (hb : BytesAt w g off 64 b) (hg : g < w.heap.size) :
    Calls Tryd.prog 92 #[.agg (w8 h), .slice (some ⟨g, off, none⟩) 64 cap] w fun e w' => e = .returned (.agg (w8 (Sha.take h b))) ∧ Below w.heap.size w w' := by
  have HI := w8_info (Sha.take h b) (by rw [Sha.take_length, hh])
  go_enter Tryd.func92, Tryd.ntmps92
  have hQ : TakEnds w.heap.size w (w8 (Sha.take h b)) (bodyPost Tryd.prog Tryd.f92 fun e w' => e = .returned (.agg (w8 (Sha.take h b))) ∧ Below w.heap.size w w') :=
    ⟨fun a w' hd h0 hR hb => bodyPost_ret (results_cell_row (P := Tryd.prog) rfl _ _ (w.heap.size + 1) 31 (w8 (Sha.take h b)) (0, 0) _ h0 hR Tryd.underlying31 rfl HI) hd ⟨rfl, hb⟩, fun c a a' w' hd h => ⟨hd.trans h.1, h.2⟩⟩
  exact tk0 g off cap w.heap.size h b w _ hh hhw hbl hb hg hQ rfl _ _ _ _ _ _ _ _ _ _ _ _ _ _ _ _ _ _ _ _ _ _ _ _ _ _ _ _ _ _ _ _ _ _ _ _ _ _ _ _ _ _ _ _ _ _ _ _ _ _ _ _ _ _ _ _ _ _ _ _ _ _ _ _ _ _ _ _ _ _ _ _ _ _ _ _ _ _ _ _ _ _ _ _ _ _ _ _ _ _ _ _ _ _ _ _ _ _ _ _ _ _ _ _ _ _ _ _ _ _ _ _ _ _ _ _ _ _ _ _ _ _ _ _ _ _ _ _ _ _ _ _ _ _ _ _ _ _ _ _ _ _ _ _ _ _ _ _ _ _ _ _ _ _ _ _ _ _ _ _ _ _ _ _ _ _ _ _ _ _ _ _ _ _ _ _ _ _ _ _ _
end Go.Proofs.YtffdkniahdekjaaDoor
end
section
namespace Go.Proofs.YtffdkniahdekjaaDoor
open Go.RowKit Go.Hoar
def lenOf : Value → Nat
  | .slice _ n _ => n
  | _ => 0
theorem takes_succ (h b : List Nat) (k : Nat) : Sha.takes h b (k + 1) = Sha.take (Sha.takes h b k) ((b.drop (64 * k)).take 64) := rfl
theorem bytes_first {W : World} {g off c : Nat} {bs : List Nat} (h : PartOk W (some ⟨g, off, none⟩) c bs) (hl : 64 ≤ bs.length) : BytesAt W g off 64 (bs.take 64) := by
  rcases h with ⟨h, _⟩ | ⟨g', off', e, _, hb⟩
  · cases h
  · cases e
    intro i hi
    rw [hb i (by omega), List.getD_eq_getElem?_getD, List.getD_eq_getElem?_getD, List.getElem?_take_of_lt hi]
theorem part_some {W : World} {a : Option Addr} {c : Nat} {bs : List Nat} (h : PartOk W a c bs) (hl : 0 < bs.length) : ∃ g off, a = some ⟨g, off, none⟩ ∧ g < W.heap.size := by
  rcases h with ⟨_, h, _⟩ | ⟨g, off, e, hg, _⟩
  · subst h
    cases hl
  · exact ⟨g, off, e, hg⟩
theorem part_row {W : World} {a : Option Addr} {c b0 : Nat} {bs : List Nat} (h : PartOk W a c bs) (hne : ∀ g, a = some g → g.block ≠ b0) (cs : Array Value) : PartOk (W.setRow b0 cs) a c bs := by
  rcases h with h | ⟨g, off, rfl, hg, hb⟩
  · exact .inl h
  · refine .inr ⟨g, off, rfl, by simpa using hg, fun i hi => ?_⟩
    rw [← hb i hi]
    exact World.cell?_of_block (setRow_heap_other _ _ _ _ (by have := hne _ rfl; simpa using this))
theorem part_lt2 {W : World} {x : Addr} {c : Nat} {bs : List Nat} (h : PartOk W (some x) c bs) : x.block < W.heap.size := by
  rcases h with ⟨h, _⟩ | ⟨g, off, e, hg, _⟩
  · cases h
  · cases e
    exact hg
theorem add_64 (g off : Nat) : (⟨g, off, none⟩ : Addr).add 64 = ⟨g, off + 64, none⟩ := by unfold Addr.add; split <;> simp_all
set_option maxRecDepth 100000 in
set_option maxHeartbeats 3000000 in
theorem refAll_any (h bs : List Nat) (a : Option Addr) (c : Nat) (w : World) (hh : h.length = 8) (hhw : Sha.Words h) (hbs : Sha.Bytes bs) (hp : PartOk w a c bs) (hc1 : bs.length ≤ c) (hc2 : c ≤ maxLen) (H : List Nat) (hH0 : Hid (H = Sha.all h bs)) (R : List Nat) (hR0 : Hid (R = bs.drop (64 * (bs.length / 64)))) :
    Calls Tryd.prog 59 #[.agg (w8 h), .slice a bs.length c] w fun e w' => ∃ a' c', e = .returned (.tuple #[.agg (w8 H), .slice a' R.length c']) ∧ PartOk w' a' c' R ∧ R.length ≤ c' ∧ c' ≤ maxLen ∧ Below w.heap.size w w' := by
  have hHl : H.length = 8 := by rw [hH0.out, Sha.all, Sha.takes_length, hh]
  have hHw : H = Sha.takes h bs (bs.length / 64) := by rw [hH0.out, Sha.all]
  unfold maxLen at hc2
  go_enter Tryd.func59, Tryd.ntmps59
  go_upto_region 1 with (fail)
  go_loopw [1] (fun v wr => ∃ (q : Nat) (a' : Option Addr) (c' : Nat) (r : List Nat), 64 * q ≤ bs.length ∧ Hid (r = bs.drop (64 * q)) ∧ v = .slice a' r.length c' ∧ PartOk wr a' c' r ∧ (∀ x, a' = some x → x.block < w.heap.size) ∧ r.length ≤ c' ∧ c' ≤ c ∧ Below w.heap.size w wr ∧ Has wr w.heap.size 31 (w8 (Sha.takes h bs q)) ∧ Has wr (w.heap.size + 1) 31 (w8 [0, 0, 0, 0, 0, 0, 0, 0])) (fun v _ => lenOf v)
  case atStart => exact ⟨0, a, c, bs, by omega, Lib.hid (by simp), rfl, (hp.alloc _).alloc _, fun x hx => by subst hx; exact part_lt2 hp, hc1, Nat.le_refl _, ((Below.refl _ w).alloc (Nat.le_refl _) _).alloc (by simp) _, (Has.fresh_at _ _ _ _ rfl).alloc _, Has.fresh_at _ _ _ _ (by simp)⟩
  case round =>
    obtain ⟨q, a', c', r, hq, hr, rfl, hP, hap, hrc, hcc, hB, hT, hZ⟩ := hrel
    have hlr : r.length = bs.length - 64 * q := by rw [hr.out, List.length_drop]
    have HP := Lib.hid hP
    have HB := Lib.hid hB
    have HT := Lib.hid hT
    have HZ := Lib.hid hZ
    by_cases hlt : 64 ≤ r.length
    · obtain ⟨g, off, rfl, hg⟩ := part_some hP (by omega)
      have hwl : (Sha.takes h bs q).length = 8 := by rw [Sha.takes_length, hh]
      have hww := Sha.takes_words hhw bs q
      have hrb : Sha.Bytes (r.take 64) := fun x hx => hbs x (by have := List.mem_of_mem_take hx; rw [hr.out] at this; exact List.mem_of_mem_drop this)
      have hby := bytes_first hP hlt
      have HC : Hid (∀ V : World, Below wr.heap.size wr V → Calls Tryd.prog 92 #[.agg (w8 (Sha.takes h bs q)), .slice (some ⟨g, off, none⟩) 64 c'] V fun e w' => e = .returned (.agg (w8 (Sha.takes h bs (q + 1)))) ∧ Below V.heap.size V w') := Lib.hid fun V hV => by
        rw [takes_succ, ← hr.out]
        exact refTake_any g off c' _ _ V hwl hww hrb (fun i hi => (hV.cell hg).trans (hby i hi)) (Nat.lt_of_lt_of_le hg hV.size)
      have hcut := part_cut hP hlt hrc
      have HCut := Lib.hid hcut
      have HI := Lib.hid (w8_info (Sha.takes h bs q) hwl)
      have HI1 := Lib.hid (w8_info (Sha.takes h bs (q + 1)) (by rw [Sha.takes_length, hh]))
      have HO1 := Lib.hid (w8_one (Sha.takes h bs (q + 1)))
      have HS1 : Hid ((w8 (Sha.takes h bs q)).size = (w8 (Sha.takes h bs (q + 1))).size) := Lib.hid (by rw [w8_size _ hwl, w8_size _ (by rw [Sha.takes_length, hh])])
      have hdl : (r.drop 64).length = r.length - 64 := List.length_drop ..
      have hd2 : r.drop 64 = bs.drop (64 * (q + 1)) := by rw [hr.out, List.drop_drop]; congr 1
      have hcl : (64 : Int) ≤ r.length := by omega
      have hcl2 : (64 : Int) ≤ c' := by omega
      have HQ1 := Lib.hid (show 64 * (q + 1) ≤ bs.length by omega)
      have HLR := Lib.hid hlr
      have HAP := Lib.hid hap
      clear hap
      have HDL := Lib.hid hdl
      have HD2 := Lib.hid hd2
      clear hP hB hT hZ hcut hby hH0 hHw hwl hww hp hlr hdl hd2
      go_wp2
      go_upto_region 2 with (fail)
      refine wp_region_still_tail 3 (by kernel_rfl) (by kernel_rfl) ?_
      simp only [List.take_succ_cons, List.take_zero, List.drop_succ_cons, List.drop_zero]
      refine still_load ⟨w.heap.size, 0, none⟩ (w8 (Sha.takes h bs q)) _ HT.out.row Tryd.underlying31 HI.out rfl rfl ?_
      simp only [Act.put, List.setIfInBounds_toArray, List.set_cons_succ, List.set_cons_zero]
      still_step
      still_step
      refine wpStill_nil ?_
      go_upto_region 3 with (first
        | (go_at_call 92; (with_reducible refine (HC.out _ (Below.refl _ wr).drew).mono ?_); rintro e w2 ⟨rfl, hb2⟩; have HB2 := Lib.hid (HB.out.drew.trans (hb2.mono HB.out.size)); have HT2 := Lib.hid (HT.out.drew.below hb2 HT.out.lt); have HZ2 := Lib.hid (HZ.out.drew.below hb2 HZ.out.lt); have HP2 := Lib.hid ((Below.refl wr.heap.size wr).drew.trans hb2); clear hb2)
        | ((with_reducible refine arm_store w.heap.size (w8 (Sha.takes h bs (q + 1))) _ _ HT2.out HS1.out HI1.out HO1.out ?h5 ?h6 ?_); (case h5 => rfl); (case h6 => rfl)))
      by_cases hcc2 : c' = 64
      · have hk1 := Lib.hid (HCut.out.1 hcc2)
        have hcz : c' - 64 = 0 := by omega
        rw [hcz] at hk1
        go_wp2
        go_roundw
        case rel => exact ⟨q + 1, some ⟨g, off, none⟩, 0, r.drop 64, HQ1.out, HD2, by rw [HDL.out], part_row (hk1.out.below HP2.out) (fun x hx => by have := HAP.out x hx; omega) _, HAP.out, by rw [HDL.out]; omega, by omega, below_setRow HB2.out (Nat.le_refl _) _, HT2.out.setRow, HZ2.out.setRow_apart (by omega)⟩
        case measure => simp [lenOf]; omega
      · have hk1 : Hid (PartOk wr (some ⟨g, off + 64, none⟩) (c' - 64) (r.drop 64)) := Lib.hid (by
          have := HCut.out.2 hcc2
          rwa [Option.map_some, add_64] at this)
        have hap2 : ∀ x, some (⟨g, off + 64, none⟩ : Addr) = some x → x.block < w.heap.size := fun x hx => by
          cases hx
          exact HAP.out ⟨g, off, none⟩ rfl
        have HAP2 := Lib.hid hap2
        clear hap2
        go_wp2
        go_roundw
        case rel => exact ⟨q + 1, some ⟨g, off + 64, none⟩, c' - 64, r.drop 64, HQ1.out, HD2, by rw [HDL.out], part_row (hk1.out.below HP2.out) (fun x hx => by have := HAP2.out x hx; omega) _, HAP2.out, by rw [HDL.out]; omega, by omega, below_setRow HB2.out (Nat.le_refl _) _, HT2.out.setRow, HZ2.out.setRow_apart (by omega)⟩
        case measure => simp [lenOf]; omega
    · have hq2 : q = bs.length / 64 := by omega
      have hrR : r = R := by rw [hr.out, hR0.out, hq2]
      rw [hq2, ← hHw] at hT
      subst hrR
      replace HT := Lib.hid hT
      have HI := Lib.hid (w8_info H hHl)
      have HO := Lib.hid (w8_one H)
      have HS : Hid ((w8 [0, 0, 0, 0, 0, 0, 0, 0]).size = (w8 H).size) := Lib.hid (by rw [w8_size _ hHl]; rfl)
      have hll : ¬ (64 : Int) ≤ r.length := by omega
      have HAQ := Lib.hid hap
      clear hP hB hT hZ hH0 hHw hp hlr hap
      go_wp2_with (first
        | ((with_reducible refine arm_load ⟨w.heap.size, 0, none⟩ (w8 H) _ HT.out.row Tryd.underlying31 HI.out ?h1 ?h2 ?_); (case h1 => rfl); (case h2 => rfl))
        | ((with_reducible refine arm_store (w.heap.size + 1) (w8 H) _ _ HZ.out HS.out HI.out HO.out ?h5 ?h6 ?_); (case h5 => rfl); (case h6 => rfl)))
      exact bodyPost_ret (results_row_tmp rfl _ _ (w.heap.size + 1) 31 (w8 H) (0, 0) _ rfl HZ.out.setRow rfl Tryd.underlying31 HI.out) rfl ⟨a', c', rfl, part_row HP.out (fun x hx => by have := HAQ.out x hx; omega) _, hrc, by unfold maxLen; omega, below_setRow HB.out (by omega) _⟩
end Go.Proofs.YtffdkniahdekjaaDoor
end
section
namespace Go.Proofs.YtffdkniahdekjaaDoor
open Go.RowKit Go.Hoar
noncomputable def endTail (k : Nat) : Code := Nat.rec ((Tryd.f60.body).getD .skip) (fun _ c => codeRest c) k
theorem four_at : ∀ (l : List Nat) (j r : Nat), j < l.length → r < 4 → (Sha.bytes l).getD (4 * j + r) 0 = [l.getD j 0 / 16777216, l.getD j 0 / 65536 % 256, l.getD j 0 / 256 % 256, l.getD j 0 % 256].getD r 0
  | [], j, _, hj, _ => by cases hj
  | x :: l, 0, r, _, hr => by
    have e : Sha.bytes (x :: l) = [x / 16777216, x / 65536 % 256, x / 256 % 256, x % 256] ++ Sha.bytes l := by unfold Sha.bytes; rw [List.flatMap_cons]
    rw [e, Nat.mul_zero, Nat.zero_add, List.getD_eq_getElem?_getD, List.getElem?_append_left (by simpa using hr), ← List.getD_eq_getElem?_getD]
    exact Eq.refl _
  | x :: l, j + 1, r, hj, hr => by
    have e : Sha.bytes (x :: l) = [x / 16777216, x / 65536 % 256, x / 256 % 256, x % 256] ++ Sha.bytes l := by unfold Sha.bytes; rw [List.flatMap_cons]
    have h := four_at l j r (by simpa using hj) hr
    rw [e, List.getD_eq_getElem?_getD, List.getElem?_append_right (by simp; omega), show 4 * (j + 1) + r - [x / 16777216, x / 65536 % 256, x / 256 % 256, x % 256].length = 4 * j + r by simp; omega, ← List.getD_eq_getElem?_getD, h]
    exact Eq.refl _
theorem byte_out (l : List Nat) (i : Nat) (hi : i < 4 * l.length) (hw : Sha.Words l) : (Sha.bytes l).getD i 0 = l.getD (i / 4) 0 / 2 ^ (24 - 8 * (i % 4)) % 256 := by
  have h := four_at l (i / 4) (i % 4) (by omega) (by omega)
  rw [show 4 * (i / 4) + i % 4 = i by omega] at h
  rw [h]
  have hx := Sha.getD_lt hw (by decide) (i / 4)
  generalize l.getD (i / 4) 0 = x at *
  have h4 : i % 4 < 4 := by omega
  generalize i % 4 = r at *
  match r, h4 with
  | 0, _ => simp; omega
  | 1, _ => simp
  | 2, _ => simp
  | 3, _ => simp
theorem out_put {wr : World} {B i : Nat} {l : List Nat} {y : Nat} {v : Int} (hl : l.length = 32) (hi : i < 32) (hO : Has wr B 26 (arr32 (l.take i))) (hy : l.getD i 0 = y) (hv : v = ((y : Nat) : Int)) : Has (wr.setCell ⟨B, i, none⟩ (.int .u8 v)) B 26 (arr32 (l.take (i + 1))) := by
  have hlen : (l.take i).length = i := by rw [List.length_take]; omega
  have h := arr32_set (l.take i) y (by omega)
  rw [hlen] at h
  subst hv
  have e : l.take (i + 1) = l.take i ++ [y] := by
    rw [List.take_succ_eq_append_getElem (by omega), ← hy, List.getD_eq_getElem?_getD, List.getElem?_eq_getElem (by omega)]
    rfl
  rw [e, ← h]
  exact hO.put i _
/-- What the walk must come to. -/
structure EndEnds (n : Nat) (w0 : World) (R : Array Value) (Q : Exit → Act → World → Prop) : Prop where
  ret : ∀ a w', a.defers = [] → a.tmps.getD 6 undef = .pointer (some ⟨n + 1, 0, none⟩) → Has w' (n + 1) 26 R → Below n w0 w' → Q .ret a w'
  panic : ∀ c a a' w', a'.defers = a.defers → Q (.panic c) a w' → Q (.panic c) a' w'
set_option maxRecDepth 100000 in
set_option maxHeartbeats 3000000 in
theorem te7 (n p9 : Nat) (H : List Nat) (w0 : World) (Q : Exit → Act → World → Prop) (hH : H.length = 8) (hHw : Sha.Words H) (hQ : EndEnds n w0 (arr32 (Sha.bytes H)) Q) (U : World) (hB : Below n w0 U) (_hn : n ≤ w0.heap.size) (hp9 : n + 1 < p9) (hT : Has U n 31 (w8 H)) (hR : Has U (n + 1) 26 (arr32 [])) (hO : Has U p9 26 (arr32 []))
    (s0 s1 s2 s4 s5 s7 s8 s10 s11 s12 s13 s14 s15 s16 s17 s18 s19 s20 s21 s22 s23 s24 s25 s26 s27 s28 s29 s30 s31 s32 s33 s34 s35 s36 s37 s38 s39 s40 s41 s42 s43 s44 s45 s46 s47 s48 s49 s50 s51 s52 s53 s54 s55 s56 s57 s58 s59 s60 : Value) : Code.wp Tryd.prog (endTail 7) Q ⟨#[s0, s1, s2, .pointer (some ⟨n, 0, none⟩), s4, s5, .pointer (some ⟨n + 1, 0, none⟩), s7, s8, .pointer (some ⟨p9, 0, none⟩), s10, s11, s12, s13, s14, s15, s16, s17, s18, s19, s20, s21, s22, s23, s24, s25, s26, s27, s28, s29, s30, s31, s32, s33, s34, s35, s36, s37, s38, s39, s40, s41, s42, s43, s44, s45, s46, s47, s48, s49, s50, s51, s52, s53, s54, s55, s56, s57, s58, s59, s60], []⟩ U := by
  have hbl : (Sha.bytes H).length = 32 := by rw [bytes_length, hH]
  have HI := Lib.hid (arr32_info (Sha.bytes H) (by omega))
  have HS := Lib.hid ((arr32_size [] (by simp)).trans (arr32_size (Sha.bytes H) (by omega)).symm)
  conv => arg 2; whnf
  go_wp2
  go_loopw [10] (fun v wr => ∃ i : Nat, i ≤ 32 ∧ v = .int .i64 i ∧ Below n w0 wr ∧ Has wr n 31 (w8 H) ∧ Has wr (n + 1) 26 (arr32 []) ∧ Has wr p9 26 (arr32 ((Sha.bytes H).take i))) (fun v _ => 32 - (intOf v).toNat)
  case atStart => exact ⟨0, by omega, rfl, hB, hT, hR, hO⟩
  case round =>
    obtain ⟨i, hi, rfl, hB2, hT2, hR2, hO2⟩ := hrel
    have HB := Lib.hid hB2
    have HT := Lib.hid hT2
    have HR := Lib.hid hR2
    have HO := Lib.hid hO2
    by_cases hlt : i < 32
    · have c1 : wr.cell? ⟨n, i / 4, none⟩ = some (.int .u32 ((H.getD (i / 4) 0 : Nat) : Int)) := by rw [hT2.cell, w8_get _ _ (by omega)]
      have hlen : ((Sha.bytes H).take i).length = i := by rw [List.length_take]; omega
      have c2 : wr.cell? ⟨p9, i, none⟩ = some (.int .u8 0) := by
        rw [hO2.cell]
        have := arr32_end ((Sha.bytes H).take i) (by omega)
        rwa [hlen] at this
      have hf := hO2.free i
      have hby := byte_out H i (by omega) hHw
      have hxl := Sha.getD_lt hHw (by decide) (i / 4)
      generalize H.getD (i / 4) 0 = x at *
      have HBY := Lib.hid hby
      clear hB2 hT2 hR2 hO2 hby hB hT hR hO hQ
      go_wp2
      go_roundw
      case rel => exact ⟨i + 1, by omega, by go_num, HB.out.setCell (by show n ≤ p9; omega) _, HT.out.apart (by show n ≠ p9; omega) _, HR.out.apart (by show n + 1 ≠ p9; omega) _, out_put hbl hlt HO.out HBY.out (by simp)⟩
      case measure => simp [intOf]; omega
    · obtain rfl : i = 32 := by omega
      rw [List.take_of_length_le (by omega)] at hO2
      replace HO := Lib.hid hO2
      clear hB2 hT2 hR2 hO2 hB hT hR hO
      go_wp2_with (first
        | ((with_reducible refine arm_load ⟨p9, 0, none⟩ (arr32 (Sha.bytes H)) _ HO.out.row Tryd.underlying26 HI.out ?h1 ?h2 ?_); (case h1 => rfl); (case h2 => rfl))
        | ((with_reducible refine arm_store (n + 1) (arr32 (Sha.bytes H)) _ _ HR.out HS.out HI.out (arr32_one _) ?h5 ?h6 ?_); (case h5 => rfl); (case h6 => rfl)))
      refine hQ.ret _ _ ?_ ?_ HR.out.setRow (below_setRow HB.out (by omega) _)
      · rfl
      · rfl
end Go.Proofs.YtffdkniahdekjaaDoor
end
section
namespace Go.Proofs.YtffdkniahdekjaaDoor
open Go.RowKit Go.Hoar
set_option maxRecDepth 100000 in
set_option maxHeartbeats 3000000 in
theorem te6 (n : Nat) (H : List Nat) (w0 : World) (Q : Exit → Act → World → Prop) (hH : H.length = 8) (hHw : Sha.Words H) (hQ : EndEnds n w0 (arr32 (Sha.bytes H)) Q) (U : World) (hB : Below n w0 U) (hn : n ≤ w0.heap.size) (hT : Has U n 31 (w8 H)) (hR : Has U (n + 1) 26 (arr32 []))
    (s0 s1 s2 s4 s5 s7 s8 s9 s10 s11 s12 s13 s14 s15 s16 s17 s18 s19 s20 s21 s22 s23 s24 s25 s26 s27 s28 s29 s30 s31 s32 s33 s34 s35 s36 s37 s38 s39 s40 s41 s42 s43 s44 s45 s46 s47 s48 s49 s50 s51 s52 s53 s54 s55 s56 s57 s58 s59 s60 : Value) : Code.wp Tryd.prog (endTail 6) Q ⟨#[s0, s1, s2, .pointer (some ⟨n, 0, none⟩), s4, s5, .pointer (some ⟨n + 1, 0, none⟩), s7, s8, s9, s10, s11, s12, s13, s14, s15, s16, s17, s18, s19, s20, s21, s22, s23, s24, s25, s26, s27, s28, s29, s30, s31, s32, s33, s34, s35, s36, s37, s38, s39, s40, s41, s42, s43, s44, s45, s46, s47, s48, s49, s50, s51, s52, s53, s54, s55, s56, s57, s58, s59, s60], []⟩ U := by
  conv => arg 2; whnf
  apply wp_seq_k
  intro K hK
  have hK2 : ∀ (s0 s1 s2 s4 s5 s7 s8 s10 s11 s12 s13 s14 s15 s16 s17 s18 s19 s20 s21 s22 s23 s24 s25 s26 s27 s28 s29 s30 s31 s32 s33 s34 s35 s36 s37 s38 s39 s40 s41 s42 s43 s44 s45 s46 s47 s48 s49 s50 s51 s52 s53 s54 s55 s56 s57 s58 s59 s60 : Value) (p9 : Nat) (W : World) (hx : Below n w0 W ∧ n + 1 < p9 ∧ Has W n 31 (w8 H) ∧ Has W (n + 1) 26 (arr32 []) ∧ Has W p9 26 (arr32 [])), K ⟨#[s0, s1, s2, .pointer (some ⟨n, 0, none⟩), s4, s5, .pointer (some ⟨n + 1, 0, none⟩), s7, s8, .pointer (some ⟨p9, 0, none⟩), s10, s11, s12, s13, s14, s15, s16, s17, s18, s19, s20, s21, s22, s23, s24, s25, s26, s27, s28, s29, s30, s31, s32, s33, s34, s35, s36, s37, s38, s39, s40, s41, s42, s43, s44, s45, s46, s47, s48, s49, s50, s51, s52, s53, s54, s55, s56, s57, s58, s59, s60], []⟩ W := fun s0 s1 s2 s4 s5 s7 s8 s10 s11 s12 s13 s14 s15 s16 s17 s18 s19 s20 s21 s22 s23 s24 s25 s26 s27 s28 s29 s30 s31 s32 s33 s34 s35 s36 s37 s38 s39 s40 s41 s42 s43 s44 s45 s46 s47 s48 s49 s50 s51 s52 s53 s54 s55 s56 s57 s58 s59 s60 p9 W hx => hK _ _ (te7 n p9 H w0 Q hH hHw hQ W hx.1 hn hx.2.1 hx.2.2.1 hx.2.2.2.1 hx.2.2.2.2 s0 s1 s2 s4 s5 s7 s8 s10 s11 s12 s13 s14 s15 s16 s17 s18 s19 s20 s21 s22 s23 s24 s25 s26 s27 s28 s29 s30 s31 s32 s33 s34 s35 s36 s37 s38 s39 s40 s41 s42 s43 s44 s45 s46 s47 s48 s49 s50 s51 s52 s53 s54 s55 s56 s57 s58 s59 s60)
  have hl := hR.lt
  have hs := hB.size
  have HB := Lib.hid hB
  have HT := Lib.hid hT
  have HR := Lib.hid hR
  clear hK hQ hB hT hR
  go_wp2
  exact ⟨HB.out.alloc (by omega) _, hl, HT.out.alloc _, HR.out.alloc _, Has.fresh_at _ _ _ _ rfl⟩
set_option maxRecDepth 100000 in
set_option maxHeartbeats 3000000 in
theorem te5 (n : Nat) (h bs : List Nat) (a : Option Addr) (c : Nat) (w0 : World) (Q : Exit → Act → World → Prop) (hh : h.length = 8) (hhw : Sha.Words h) (hbs : Sha.Bytes bs) (hQ : EndEnds n w0 (arr32 (Sha.bytes (Sha.all h bs))) Q) (U : World) (hB : Below n w0 U) (hn : n ≤ w0.heap.size) (hT : Has U n 31 (w8 h)) (hR : Has U (n + 1) 26 (arr32 [])) (hp : PartOk U a c bs) (hc1 : bs.length ≤ c) (hc2 : c ≤ maxLen)
    (s0 s1 s2 s4 s5 s8 s9 s10 s11 s12 s13 s14 s15 s16 s17 s18 s19 s20 s21 s22 s23 s24 s25 s26 s27 s28 s29 s30 s31 s32 s33 s34 s35 s36 s37 s38 s39 s40 s41 s42 s43 s44 s45 s46 s47 s48 s49 s50 s51 s52 s53 s54 s55 s56 s57 s58 s59 s60 : Value) : Code.wp Tryd.prog (endTail 5) Q ⟨#[s0, s1, s2, .pointer (some ⟨n, 0, none⟩), s4, s5, .pointer (some ⟨n + 1, 0, none⟩), .slice a bs.length c, s8, s9, s10, s11, s12, s13, s14, s15, s16, s17, s18, s19, s20, s21, s22, s23, s24, s25, s26, s27, s28, s29, s30, s31, s32, s33, s34, s35, s36, s37, s38, s39, s40, s41, s42, s43, s44, s45, s46, s47, s48, s49, s50, s51, s52, s53, s54, s55, s56, s57, s58, s59, s60], []⟩ U := by
  have hHl : (Sha.all h bs).length = 8 := by rw [Sha.all, Sha.takes_length, hh]
  have hHw : Sha.Words (Sha.all h bs) := by rw [Sha.all]; exact Sha.takes_words hhw _ _
  have HC : Hid (∀ V : World, V = U → Calls Tryd.prog 59 #[.agg (w8 h), .slice a bs.length c] V fun e w' => ∃ a' n' c', e = .returned (.tuple #[.agg (w8 (Sha.all h bs)), .slice a' n' c']) ∧ Below U.heap.size U w') := Lib.hid fun V hV => by
    subst hV
    exact (refAll_any h bs a c V hh hhw hbs hp hc1 hc2 _ (Lib.hid rfl) _ (Lib.hid rfl)).mono fun e w' ⟨a', c', he, _, _, _, hb⟩ => ⟨a', _, c', he, hb⟩
  conv => arg 2; whnf
  apply wp_seq_k
  intro K hK
  have hK2 : ∀ (s0 s1 s2 s4 s5 s7 s8 s9 s10 s11 s12 s13 s14 s15 s16 s17 s18 s19 s20 s21 s22 s23 s24 s25 s26 s27 s28 s29 s30 s31 s32 s33 s34 s35 s36 s37 s38 s39 s40 s41 s42 s43 s44 s45 s46 s47 s48 s49 s50 s51 s52 s53 s54 s55 s56 s57 s58 s59 s60 : Value) (W : World) (hx : Below n w0 W ∧ Has W n 31 (w8 (Sha.all h bs)) ∧ Has W (n + 1) 26 (arr32 [])), K ⟨#[s0, s1, s2, .pointer (some ⟨n, 0, none⟩), s4, s5, .pointer (some ⟨n + 1, 0, none⟩), s7, s8, s9, s10, s11, s12, s13, s14, s15, s16, s17, s18, s19, s20, s21, s22, s23, s24, s25, s26, s27, s28, s29, s30, s31, s32, s33, s34, s35, s36, s37, s38, s39, s40, s41, s42, s43, s44, s45, s46, s47, s48, s49, s50, s51, s52, s53, s54, s55, s56, s57, s58, s59, s60], []⟩ W := fun s0 s1 s2 s4 s5 s7 s8 s9 s10 s11 s12 s13 s14 s15 s16 s17 s18 s19 s20 s21 s22 s23 s24 s25 s26 s27 s28 s29 s30 s31 s32 s33 s34 s35 s36 s37 s38 s39 s40 s41 s42 s43 s44 s45 s46 s47 s48 s49 s50 s51 s52 s53 s54 s55 s56 s57 s58 s59 s60 W hx => hK _ _ (te6 n _ w0 Q hHl hHw hQ W hx.1 hn hx.2.1 hx.2.2 s0 s1 s2 s4 s5 s7 s8 s9 s10 s11 s12 s13 s14 s15 s16 s17 s18 s19 s20 s21 s22 s23 s24 s25 s26 s27 s28 s29 s30 s31 s32 s33 s34 s35 s36 s37 s38 s39 s40 s41 s42 s43 s44 s45 s46 s47 s48 s49 s50 s51 s52 s53 s54 s55 s56 s57 s58 s59 s60)
  have HI := Lib.hid (w8_info h hh)
  have HI2 := Lib.hid (w8_info (Sha.all h bs) hHl)
  have HO2 := Lib.hid (w8_one (Sha.all h bs))
  have HS2 : Hid ((w8 h).size = (w8 (Sha.all h bs)).size) := Lib.hid (by rw [w8_size _ hh, w8_size _ hHl])
  have HB := Lib.hid hB
  have HT := Lib.hid hT
  have HR := Lib.hid hR
  clear hK hQ hB hT hR hp
  go_wp2_with (first
    | ((with_reducible refine arm_load ⟨n, 0, none⟩ (w8 h) _ HT.out.row Tryd.underlying31 HI.out ?h1 ?h2 ?_); (case h1 => rfl); (case h2 => rfl))
    | (go_at_call 59; (with_reducible refine (HC.out _ rfl).mono ?_); rintro e w2 ⟨a2, n2, c2, rfl, hb2⟩; have HB2 := Lib.hid (HB.out.trans (hb2.mono (by have := HB.out.size; omega))); have HT2 := Lib.hid (HT.out.below hb2 HT.out.lt); have HR2 := Lib.hid (HR.out.below hb2 HR.out.lt); clear hb2)
    | ((with_reducible refine arm_store n (w8 (Sha.all h bs)) _ _ HT2.out HS2.out HI2.out HO2.out ?h5 ?h6 ?_); (case h5 => rfl); (case h6 => rfl)))
  exact ⟨below_setRow HB2.out (Nat.le_refl _) _, HT2.out.setRow, HR2.out.setRow_apart (by omega)⟩
end Go.Proofs.YtffdkniahdekjaaDoor
end
section
namespace Go.Proofs.YtffdkniahdekjaaDoor
open Go.RowKit Go.Hoar
/-- The byte of the length that is j-th from the front. -/
def longB (long j : Nat) : Nat := (long * 8 % 18446744073709551616) / 2 ^ (56 - 8 * j) % 256
theorem longB_lt (long j : Nat) : longB long j < 256 := Nat.mod_lt _ (by decide)
theorem longs_succ (long j : Nat) : (List.range (j + 1)).map (longB long) = (List.range j).map (longB long) ++ [longB long j] := by
  rw [List.range_succ, List.map_append]
  rfl
theorem longs_bytes (long j : Nat) : Sha.Bytes ((List.range j).map (longB long)) := fun x hx => by
  obtain ⟨k, _, rfl⟩ := List.mem_map.1 hx
  exact longB_lt long k
theorem long_val (long j : Nat) (hl : long ≤ 1152921504606846976) (hj : j < 8) : (long : Int) * 8 / 2 ^ (8 * (7 - j)) % 256 = ((longB long j : Nat) : Int) := by
  unfold longB
  rw [Nat.mod_eq_of_lt (show long * 8 < 18446744073709551616 by omega), show 56 - 8 * j = 8 * (7 - j) by omega]
  simp
theorem own_part {w : World} {base : Nat} {bs : List Nat} {v : Value} (h : w.ownsRow base 5 1 v bs.length (bs.map BV)) (hb : 0 < bs.length) : ∃ a c, v = .slice a bs.length c ∧ PartOk w a c bs ∧ bs.length ≤ c ∧ c ≤ maxLen := by
  obtain ⟨a, c, rfl⟩ := own_form (bs := bs) h
  have := part_own h
  rcases this.2.2 with h0 | h0
  · subst h0
    rcases this.1 with ⟨_, h1, _⟩ | ⟨g, off, h1, _⟩
    · subst h1
      cases hb
    · cases h1
  · exact ⟨a, c, rfl, this.1, h0⟩
set_option maxRecDepth 100000 in
set_option maxHeartbeats 3000000 in
theorem te4 (n : Nat) (h : List Nat) (long : Nat) (w0 V : World) (Q : Exit → Act → World → Prop) (hh : h.length = 8) (hhw : Sha.Words h) (hlong : long ≤ 1152921504606846976) (hV : Below n w0 V) (hn : n ≤ w0.heap.size) (hVs : V.heap.size = n + 2) (hT : Has V n 31 (w8 h)) (hR : Has V (n + 1) 26 (arr32 [])) (bs : List Nat) (hbs : Sha.Bytes bs) (hbl : bs.length ≤ 140737488355000) (hQ : EndEnds n w0 (arr32 (Sha.bytes (Sha.all h (bs ++ (List.range 8).map (longB long))))) Q) (U : World) (hU : Below (n + 2) V U) (v : Value) (hO : U.ownsRow (n + 2) 5 1 v bs.length (bs.map BV))
    (s0 s1 s4 s5 s8 s9 s10 s11 s12 s13 s14 s15 s16 s17 s18 s19 s20 s21 s22 s23 s24 s25 s26 s27 s28 s29 s30 s31 s32 s33 s34 s35 s36 s37 s38 s39 s40 s41 s42 s43 s44 s45 s46 s47 s48 s49 s50 s51 s52 s53 s54 s55 s56 s57 s58 s59 s60 : Value) : Code.wp Tryd.prog (endTail 4) Q ⟨#[s0, s1, .int .i64 (long : Int), .pointer (some ⟨n, 0, none⟩), s4, s5, .pointer (some ⟨n + 1, 0, none⟩), v, s8, s9, s10, s11, s12, s13, s14, s15, s16, s17, s18, s19, s20, s21, s22, s23, s24, s25, s26, s27, s28, s29, s30, s31, s32, s33, s34, s35, s36, s37, s38, s39, s40, s41, s42, s43, s44, s45, s46, s47, s48, s49, s50, s51, s52, s53, s54, s55, s56, s57, s58, s59, s60], []⟩ U := by
  obtain ⟨i0, hi, hz0, hz1, hz2⟩ := info_parts info8
  conv => arg 2; whnf
  apply wp_seq_k
  intro K hK
  have hK2 : ∀ (s0 s1 s2 s4 s5 s8 s9 s10 s11 s12 s13 s14 s15 s16 s17 s18 s19 s20 s21 s22 s23 s24 s25 s26 s27 s28 s29 s30 s31 s32 s33 s34 s35 s36 s37 s38 s39 s40 s41 s42 s43 s44 s45 s46 s47 s48 s49 s50 s51 s52 s53 s54 s55 s56 s57 s58 s59 s60 : Value) (a : Option Addr) (c : Nat) (W : World) (hx : Below (n + 2) V W ∧ PartOk W a c (bs ++ (List.range 8).map (longB long)) ∧ (bs ++ (List.range 8).map (longB long)).length ≤ c ∧ c ≤ maxLen), K ⟨#[s0, s1, s2, .pointer (some ⟨n, 0, none⟩), s4, s5, .pointer (some ⟨n + 1, 0, none⟩), .slice a (bs ++ (List.range 8).map (longB long)).length c, s8, s9, s10, s11, s12, s13, s14, s15, s16, s17, s18, s19, s20, s21, s22, s23, s24, s25, s26, s27, s28, s29, s30, s31, s32, s33, s34, s35, s36, s37, s38, s39, s40, s41, s42, s43, s44, s45, s46, s47, s48, s49, s50, s51, s52, s53, s54, s55, s56, s57, s58, s59, s60], []⟩ W := fun s0 s1 s2 s4 s5 s8 s9 s10 s11 s12 s13 s14 s15 s16 s17 s18 s19 s20 s21 s22 s23 s24 s25 s26 s27 s28 s29 s30 s31 s32 s33 s34 s35 s36 s37 s38 s39 s40 s41 s42 s43 s44 s45 s46 s47 s48 s49 s50 s51 s52 s53 s54 s55 s56 s57 s58 s59 s60 a c W hx => hK _ _ (te5 n h _ a c w0 Q hh hhw (fun x hx => (List.mem_append.1 hx).elim (hbs x) (longs_bytes long 8 x)) hQ W (hV.trans (hx.1.mono (by omega))) hn (hT.below hx.1 (by omega)) (hR.below hx.1 (by omega)) hx.2.1 hx.2.2.1 hx.2.2.2 s0 s1 s2 s4 s5 s8 s9 s10 s11 s12 s13 s14 s15 s16 s17 s18 s19 s20 s21 s22 s23 s24 s25 s26 s27 s28 s29 s30 s31 s32 s33 s34 s35 s36 s37 s38 s39 s40 s41 s42 s43 s44 s45 s46 s47 s48 s49 s50 s51 s52 s53 s54 s55 s56 s57 s58 s59 s60)
  have HK := Lib.hid hK2
  clear hK hQ hK2
  go_wp2
  go_loopw [7, 8] (fun v k wr => ∃ j : Nat, j ≤ 8 ∧ k = .int .i64 (7 - (j : Int)) ∧ Below (n + 2) V wr ∧ wr.ownsRow (n + 2) 5 1 v (bs ++ (List.range j).map (longB long)).length ((bs ++ (List.range j).map (longB long)).map BV)) (fun _ k _ => (intOf k + 1).toNat)
  case atStart => exact ⟨0, by omega, by simp, hU, by simpa using hO⟩
  case round =>
    obtain ⟨j, hj, rfl, hB, hO2⟩ := hrel
    have hl : (bs ++ (List.range j).map (longB long)).length = bs.length + j := by simp
    by_cases hlt : j < 8
    · have HB := Lib.hid hB
      have HO2 := Lib.hid hO2
      have hk0 : (0 : Int) ≤ 7 - (j : Int) := by omega
      have hy : (long : Int) * 8 / 2 ^ (8 * (7 - j)) % 256 = ((longB long j : Nat) : Int) := long_val long j hlong hlt
      have HS := Lib.hid (longs_succ long j)
      have HL := Lib.hid hl
      generalize longB long j = y at *
      generalize hbb : bs ++ (List.range j).map (longB long) = bb at *
      have HBB := Lib.hid hbb
      have HOA : Hid ((wr.alloc (.cells #[.int .u8 (y : Int)] 5)).ownsRow (n + 2) 5 1 u7 bb.length (bb.map BV)) := Lib.hid (HO2.out.alloc _)
      have HN : Hid (∀ k u, ([BV y] : List Value)[k]? = some u → (wr.alloc (.cells #[.int .u8 (y : Int)] 5)).cell? ((⟨wr.heap.size, 0, none⟩ : Addr).add k) = some u) := Lib.hid fun k u hk => (Has.fresh wr 5 #[.int .u8 (y : Int)]).row k u (by simpa [BV] using hk)
      have HZ : Hid (n + 2 ≤ (wr.alloc (.cells #[.int .u8 (y : Int)] 5)).heap.size) := Lib.hid (by have := HB.out.size; simp; omega)
      have HBA := Lib.hid (HB.out.alloc (by have := HB.out.size; omega) (.cells #[.int .u8 (y : Int)] 5))
      clear hB hO2 hU hO hT hR hV hl hbb
      go_wp2_with (at_builtin; refine wpList_append_own _ rfl _ _ 22 rfl (n + 2) 5 i0 (.int .u8 0) 1 1 Tryd.underlying22 hi hz0 hz1 hz2 rfl (by decide) _ _ _ rfl HOA.out ⟨wr.heap.size, 0, none⟩ 1 1 [BV y] rfl (by simp) HN.out (by simp [BV, Value.oneCell']) (by unfold maxLen; have := HL.out; omega) (by have := HL.out; omega) HZ.out ?_; intro v' w2 hown2 hgrow _)
      go_roundw
      case rel =>
        have e : bs ++ (List.range (j + 1)).map (longB long) = bb ++ [y] := by rw [HS.out, ← List.append_assoc, HBB.out]
        refine ⟨j + 1, by omega, congrArg (Value.int .i64) (by omega), HBA.out.grown hgrow HZ.out (fun r hr => (HOA.out.lt r hr).1), ?_⟩
        rw [e, List.length_append, List.map_append]
        exact hown2
      case measure => simp [intOf]; omega
    · obtain rfl : j = 8 := by omega
      obtain ⟨a, c, rfl, hp, hc1, hc2⟩ := own_part hO2 (by omega)
      have hx := Lib.hid HK
      have HB := Lib.hid hB
      have HP := Lib.hid hp
      have HLL := Lib.hid hc1
      clear HK hB hO2 hp hc1 hU hO hT hR hV hl
      generalize bs ++ (List.range 8).map (longB long) = bb at *
      go_wp2
      apply hx.out.out
      exact ⟨HB.out, HP.out, HLL.out, hc2⟩
end Go.Proofs.YtffdkniahdekjaaDoor
end
section
namespace Go.Proofs.YtffdkniahdekjaaDoor
open Go.RowKit Go.Hoar
theorem zeros_bytes (z : Nat) : Sha.Bytes (List.replicate z 0) := fun x hx => by
  rw [(List.mem_replicate.1 hx).2]
  decide
set_option maxRecDepth 100000 in
set_option maxHeartbeats 3000000 in
theorem te3 (n : Nat) (h : List Nat) (long : Nat) (w0 V : World) (Q : Exit → Act → World → Prop) (hh : h.length = 8) (hhw : Sha.Words h) (hlong : long ≤ 1152921504606846976) (hV : Below n w0 V) (hn : n ≤ w0.heap.size) (hVs : V.heap.size = n + 2) (hT : Has V n 31 (w8 h)) (hR : Has V (n + 1) 26 (arr32 [])) (pre : List Nat) (hpb : Sha.Bytes pre) (hpl : pre.length ≤ 140737488350000) (z : Nat) (hz : z < 64) (hpz : (pre.length + z) % 64 = 56) (hQ : EndEnds n w0 (arr32 (Sha.bytes (Sha.all h ((pre ++ List.replicate z 0) ++ (List.range 8).map (longB long))))) Q) (U : World) (hU : Below (n + 2) V U) (v : Value) (hO : U.ownsRow (n + 2) 5 1 v pre.length (pre.map BV))
    (s0 s1 s4 s5 s8 s9 s10 s11 s12 s13 s14 s15 s16 s17 s18 s19 s20 s21 s22 s23 s24 s25 s26 s27 s28 s29 s30 s31 s32 s33 s34 s35 s36 s37 s38 s39 s40 s41 s42 s43 s44 s45 s46 s47 s48 s49 s50 s51 s52 s53 s54 s55 s56 s57 s58 s59 s60 : Value) : Code.wp Tryd.prog (endTail 3) Q ⟨#[s0, s1, .int .i64 (long : Int), .pointer (some ⟨n, 0, none⟩), s4, s5, .pointer (some ⟨n + 1, 0, none⟩), v, s8, s9, s10, s11, s12, s13, s14, s15, s16, s17, s18, s19, s20, s21, s22, s23, s24, s25, s26, s27, s28, s29, s30, s31, s32, s33, s34, s35, s36, s37, s38, s39, s40, s41, s42, s43, s44, s45, s46, s47, s48, s49, s50, s51, s52, s53, s54, s55, s56, s57, s58, s59, s60], []⟩ U := by
  obtain ⟨i0, hi, hz0, hz1, hz2⟩ := info_parts info8
  conv => arg 2; whnf
  apply wp_seq_k
  intro K hK
  have hK2 : ∀ (s0 s1 s4 s5 s8 s9 s10 s11 s12 s13 s14 s15 s16 s17 s18 s19 s20 s21 s22 s23 s24 s25 s26 s27 s28 s29 s30 s31 s32 s33 s34 s35 s36 s37 s38 s39 s40 s41 s42 s43 s44 s45 s46 s47 s48 s49 s50 s51 s52 s53 s54 s55 s56 s57 s58 s59 s60 : Value) (v : Value) (W : World) (hx : Below (n + 2) V W ∧ W.ownsRow (n + 2) 5 1 v (pre ++ List.replicate z 0).length ((pre ++ List.replicate z 0).map BV)), K ⟨#[s0, s1, .int .i64 (long : Int), .pointer (some ⟨n, 0, none⟩), s4, s5, .pointer (some ⟨n + 1, 0, none⟩), v, s8, s9, s10, s11, s12, s13, s14, s15, s16, s17, s18, s19, s20, s21, s22, s23, s24, s25, s26, s27, s28, s29, s30, s31, s32, s33, s34, s35, s36, s37, s38, s39, s40, s41, s42, s43, s44, s45, s46, s47, s48, s49, s50, s51, s52, s53, s54, s55, s56, s57, s58, s59, s60], []⟩ W := fun s0 s1 s4 s5 s8 s9 s10 s11 s12 s13 s14 s15 s16 s17 s18 s19 s20 s21 s22 s23 s24 s25 s26 s27 s28 s29 s30 s31 s32 s33 s34 s35 s36 s37 s38 s39 s40 s41 s42 s43 s44 s45 s46 s47 s48 s49 s50 s51 s52 s53 s54 s55 s56 s57 s58 s59 s60 v W hx => hK _ _ (te4 n h long w0 V Q hh hhw hlong hV hn hVs hT hR _ (fun x hx => (List.mem_append.1 hx).elim (hpb x) (zeros_bytes z x)) (by simp; omega) hQ W hx.1 v hx.2 s0 s1 s4 s5 s8 s9 s10 s11 s12 s13 s14 s15 s16 s17 s18 s19 s20 s21 s22 s23 s24 s25 s26 s27 s28 s29 s30 s31 s32 s33 s34 s35 s36 s37 s38 s39 s40 s41 s42 s43 s44 s45 s46 s47 s48 s49 s50 s51 s52 s53 s54 s55 s56 s57 s58 s59 s60)
  have HK := Lib.hid hK2
  clear hK hQ hK2 hT hR hV
  go_wp2
  go_loopw [7] (fun v wr => ∃ j : Nat, j ≤ z ∧ Below (n + 2) V wr ∧ wr.ownsRow (n + 2) 5 1 v (pre ++ List.replicate j 0).length ((pre ++ List.replicate j 0).map BV)) (fun v _ => pre.length + z - lenOf v)
  case atStart => exact ⟨0, by omega, hU, by simpa using hO⟩
  case round =>
    obtain ⟨j, hj, hB, hO2⟩ := hrel
    have hl : (pre ++ List.replicate j 0).length = pre.length + j := by simp
    obtain ⟨a, c, rfl⟩ := own_form (bs := pre ++ List.replicate j 0) hO2
    have HB := Lib.hid hB
    have HO2 := Lib.hid hO2
    by_cases hlt : j < z
    · have hm : ¬ ((pre.length + j : Nat) : Int) % 64 = 56 := by omega
      have HL := Lib.hid hl
      have hsn : pre ++ List.replicate (j + 1) 0 = (pre ++ List.replicate j 0) ++ [0] := by rw [List.replicate_succ', List.append_assoc]
      have HS := Lib.hid hsn
      rw [← hl] at hm
      clear hl hsn
      generalize pre ++ List.replicate j 0 = bb at *
      have HOA : Hid ((wr.alloc (.cells #[.int .u8 0] 5)).ownsRow (n + 2) 5 1 (.slice a bb.length c) bb.length (bb.map BV)) := Lib.hid (HO2.out.alloc _)
      have HN : Hid (∀ k u, ([BV 0] : List Value)[k]? = some u → (wr.alloc (.cells #[.int .u8 0] 5)).cell? ((⟨wr.heap.size, 0, none⟩ : Addr).add k) = some u) := Lib.hid fun k u hk => (Has.fresh wr 5 #[.int .u8 0]).row k u (by simpa [BV] using hk)
      have HZ : Hid (n + 2 ≤ (wr.alloc (.cells #[.int .u8 0] 5)).heap.size) := Lib.hid (by have := HB.out.size; simp; omega)
      have HBA := Lib.hid (HB.out.alloc (by have := HB.out.size; omega) (.cells #[.int .u8 0] 5))
      clear hB hO2 hU hO
      go_wp2_with (at_builtin; refine wpList_append_own _ rfl _ _ 22 rfl (n + 2) 5 i0 (.int .u8 0) 1 1 Tryd.underlying22 hi hz0 hz1 hz2 rfl (by decide) _ _ _ rfl HOA.out ⟨wr.heap.size, 0, none⟩ 1 1 [BV 0] rfl (by simp) HN.out (by simp [BV, Value.oneCell']) (by unfold maxLen; have := HL.out; omega) (by have := HL.out; omega) HZ.out ?_; intro v' w2 hown2 hgrow _)
      have hown3 : w2.ownsRow (n + 2) 5 1 v' (bb ++ [0]).length ((bb ++ [0]).map BV) := by
        rw [List.length_append, List.map_append]
        exact hown2
      obtain ⟨a2, c2, rfl⟩ := own_form (bs := bb ++ [0]) hown3
      have hl2 : (bb ++ [0]).length = bb.length + 1 := by simp
      have hml := HL.out
      go_roundw
      case rel =>
        refine ⟨j + 1, by omega, HBA.out.grown hgrow HZ.out (fun r hr => (HOA.out.lt r hr).1), ?_⟩
        rw [HS.out]
        exact hown3
      case measure => simp only [lenOf, hl2]; omega
    · obtain rfl : j = z := by omega
      have hm : ((pre.length + j : Nat) : Int) % 64 = 56 := by omega
      rw [← hl] at hm
      have hx := Lib.hid HK
      clear HK hB hO2 hU hO hl
      generalize pre ++ List.replicate j 0 = bb at *
      go_wp2
      apply hx.out.out
      exact ⟨HB.out, HO2.out⟩
end Go.Proofs.YtffdkniahdekjaaDoor
end
section
namespace Go.Proofs.YtffdkniahdekjaaDoor
open Go.RowKit Go.Hoar
set_option maxRecDepth 100000 in
set_option maxHeartbeats 3000000 in
theorem te2 (n : Nat) (h : List Nat) (long : Nat) (w0 V : World) (Q : Exit → Act → World → Prop) (hh : h.length = 8) (hhw : Sha.Words h) (hlong : long ≤ 1152921504606846976) (hV : Below n w0 V) (hn : n ≤ w0.heap.size) (hVs : V.heap.size = n + 2) (hT : Has V n 31 (w8 h)) (hR : Has V (n + 1) 26 (arr32 [])) (rest : List Nat) (hpb : Sha.Bytes rest) (hpl : rest.length ≤ 140737488340000) (hm : rest.length % 64 = long % 64) (hQ : EndEnds n w0 (arr32 (Sha.ended h rest long)) Q) (U : World) (hU : Below (n + 2) V U) (v : Value) (hO : U.ownsRow (n + 2) 5 1 v rest.length (rest.map BV))
    (s0 s1 s4 s5 s8 s9 s10 s11 s12 s13 s14 s15 s16 s17 s18 s19 s20 s21 s22 s23 s24 s25 s26 s27 s28 s29 s30 s31 s32 s33 s34 s35 s36 s37 s38 s39 s40 s41 s42 s43 s44 s45 s46 s47 s48 s49 s50 s51 s52 s53 s54 s55 s56 s57 s58 s59 s60 : Value) : Code.wp Tryd.prog (endTail 2) Q ⟨#[s0, s1, .int .i64 (long : Int), .pointer (some ⟨n, 0, none⟩), s4, s5, .pointer (some ⟨n + 1, 0, none⟩), v, s8, s9, s10, s11, s12, s13, s14, s15, s16, s17, s18, s19, s20, s21, s22, s23, s24, s25, s26, s27, s28, s29, s30, s31, s32, s33, s34, s35, s36, s37, s38, s39, s40, s41, s42, s43, s44, s45, s46, s47, s48, s49, s50, s51, s52, s53, s54, s55, s56, s57, s58, s59, s60], []⟩ U := by
  obtain ⟨i0, hi, hz0, hz1, hz2⟩ := info_parts info8
  have hQ2 : EndEnds n w0 (arr32 (Sha.bytes (Sha.all h (((rest ++ [128]) ++ List.replicate ((119 - long % 64) % 64) 0) ++ (List.range 8).map (longB long))))) Q := by
    have e : Sha.ended h rest long = Sha.bytes (Sha.all h (((rest ++ [128]) ++ List.replicate ((119 - long % 64) % 64) 0) ++ (List.range 8).map (longB long))) := by
      rw [Sha.ended, Sha.pad, List.append_assoc, List.append_assoc]
      exact Eq.refl _
    rw [← e]
    exact hQ
  conv => arg 2; whnf
  apply wp_seq_k
  intro K hK
  have hK2 : ∀ (s0 s1 s4 s5 s8 s9 s10 s11 s12 s13 s14 s15 s16 s17 s18 s19 s20 s21 s22 s23 s24 s25 s26 s27 s28 s29 s30 s31 s32 s33 s34 s35 s36 s37 s38 s39 s40 s41 s42 s43 s44 s45 s46 s47 s48 s49 s50 s51 s52 s53 s54 s55 s56 s57 s58 s59 s60 : Value) (v : Value) (W : World) (hx : Below (n + 2) V W ∧ W.ownsRow (n + 2) 5 1 v (rest ++ [128]).length ((rest ++ [128]).map BV)), K ⟨#[s0, s1, .int .i64 (long : Int), .pointer (some ⟨n, 0, none⟩), s4, s5, .pointer (some ⟨n + 1, 0, none⟩), v, s8, s9, s10, s11, s12, s13, s14, s15, s16, s17, s18, s19, s20, s21, s22, s23, s24, s25, s26, s27, s28, s29, s30, s31, s32, s33, s34, s35, s36, s37, s38, s39, s40, s41, s42, s43, s44, s45, s46, s47, s48, s49, s50, s51, s52, s53, s54, s55, s56, s57, s58, s59, s60], []⟩ W := fun s0 s1 s4 s5 s8 s9 s10 s11 s12 s13 s14 s15 s16 s17 s18 s19 s20 s21 s22 s23 s24 s25 s26 s27 s28 s29 s30 s31 s32 s33 s34 s35 s36 s37 s38 s39 s40 s41 s42 s43 s44 s45 s46 s47 s48 s49 s50 s51 s52 s53 s54 s55 s56 s57 s58 s59 s60 v W hx => hK _ _ (te3 n h long w0 V Q hh hhw hlong hV hn hVs hT hR (rest ++ [128]) (fun x hx => (List.mem_append.1 hx).elim (hpb x) (fun h1 => by rw [List.mem_singleton.1 h1]; decide)) (by simp; omega) _ (Nat.mod_lt _ (by decide)) (by simp only [List.length_append, List.length_cons, List.length_nil]; omega) hQ2 W hx.1 v hx.2 s0 s1 s4 s5 s8 s9 s10 s11 s12 s13 s14 s15 s16 s17 s18 s19 s20 s21 s22 s23 s24 s25 s26 s27 s28 s29 s30 s31 s32 s33 s34 s35 s36 s37 s38 s39 s40 s41 s42 s43 s44 s45 s46 s47 s48 s49 s50 s51 s52 s53 s54 s55 s56 s57 s58 s59 s60)
  have HB := Lib.hid hU
  have HO2 := Lib.hid hO
  have HL := Lib.hid hpl
  have HOA : Hid ((U.alloc (.cells #[.int .u8 128] 5)).ownsRow (n + 2) 5 1 v rest.length (rest.map BV)) := Lib.hid (HO2.out.alloc _)
  have HN : Hid (∀ k u, ([BV 128] : List Value)[k]? = some u → (U.alloc (.cells #[.int .u8 128] 5)).cell? ((⟨U.heap.size, 0, none⟩ : Addr).add k) = some u) := Lib.hid fun k u hk => (Has.fresh U 5 #[.int .u8 128]).row k u (by simpa [BV] using hk)
  have HZ : Hid (n + 2 ≤ (U.alloc (.cells #[.int .u8 128] 5)).heap.size) := Lib.hid (by have := HB.out.size; simp; omega)
  have HBA := Lib.hid (HB.out.alloc (by have := HB.out.size; omega) (.cells #[.int .u8 128] 5))
  clear hK hQ hQ2 hT hR hV hU hO hpl
  go_wp2_with (at_builtin; refine wpList_append_own _ rfl _ _ 22 rfl (n + 2) 5 i0 (.int .u8 0) 1 1 Tryd.underlying22 hi hz0 hz1 hz2 rfl (by decide) _ _ _ rfl HOA.out ⟨U.heap.size, 0, none⟩ 1 1 [BV 128] rfl (by simp) HN.out (by simp [BV, Value.oneCell']) (by unfold maxLen; have := HL.out; omega) (by have := HL.out; omega) HZ.out ?_; intro v' w2 hown2 hgrow _)
  exact ⟨HBA.out.grown hgrow HZ.out (fun r hr => (HOA.out.lt r hr).1), by rw [List.length_append, List.map_append]; exact hown2⟩
set_option maxRecDepth 100000 in
set_option maxHeartbeats 3000000 in
theorem te1 (n : Nat) (h : List Nat) (long : Nat) (w0 V : World) (Q : Exit → Act → World → Prop) (hh : h.length = 8) (hhw : Sha.Words h) (hlong : long ≤ 1152921504606846976) (hV : Below n w0 V) (hn : n ≤ w0.heap.size) (hVs : V.heap.size = n + 2) (hT : Has V n 31 (w8 h)) (hR : Has V (n + 1) 26 (arr32 [])) (rest : List Nat) (a : Option Addr) (c : Nat) (hpb : Sha.Bytes rest) (hpl : rest.length ≤ 140737488340000) (hm : rest.length % 64 = long % 64) (hp : PartOk V a c rest) (hQ : EndEnds n w0 (arr32 (Sha.ended h rest long)) Q)
    (s0 s4 s5 s7 s8 s9 s10 s11 s12 s13 s14 s15 s16 s17 s18 s19 s20 s21 s22 s23 s24 s25 s26 s27 s28 s29 s30 s31 s32 s33 s34 s35 s36 s37 s38 s39 s40 s41 s42 s43 s44 s45 s46 s47 s48 s49 s50 s51 s52 s53 s54 s55 s56 s57 s58 s59 s60 : Value) : Code.wp Tryd.prog (endTail 1) Q ⟨#[s0, .slice a rest.length c, .int .i64 (long : Int), .pointer (some ⟨n, 0, none⟩), s4, s5, .pointer (some ⟨n + 1, 0, none⟩), s7, s8, s9, s10, s11, s12, s13, s14, s15, s16, s17, s18, s19, s20, s21, s22, s23, s24, s25, s26, s27, s28, s29, s30, s31, s32, s33, s34, s35, s36, s37, s38, s39, s40, s41, s42, s43, s44, s45, s46, s47, s48, s49, s50, s51, s52, s53, s54, s55, s56, s57, s58, s59, s60], []⟩ V := by
  obtain ⟨i0, hi, hz0, hz1, hz2⟩ := info_parts info8
  conv => arg 2; whnf
  apply wp_seq_k
  intro K hK
  have hK2 : ∀ (s0 s1 s4 s5 s8 s9 s10 s11 s12 s13 s14 s15 s16 s17 s18 s19 s20 s21 s22 s23 s24 s25 s26 s27 s28 s29 s30 s31 s32 s33 s34 s35 s36 s37 s38 s39 s40 s41 s42 s43 s44 s45 s46 s47 s48 s49 s50 s51 s52 s53 s54 s55 s56 s57 s58 s59 s60 : Value) (v : Value) (W : World) (hx : Below (n + 2) V W ∧ W.ownsRow (n + 2) 5 1 v rest.length (rest.map BV)), K ⟨#[s0, s1, .int .i64 (long : Int), .pointer (some ⟨n, 0, none⟩), s4, s5, .pointer (some ⟨n + 1, 0, none⟩), v, s8, s9, s10, s11, s12, s13, s14, s15, s16, s17, s18, s19, s20, s21, s22, s23, s24, s25, s26, s27, s28, s29, s30, s31, s32, s33, s34, s35, s36, s37, s38, s39, s40, s41, s42, s43, s44, s45, s46, s47, s48, s49, s50, s51, s52, s53, s54, s55, s56, s57, s58, s59, s60], []⟩ W := fun s0 s1 s4 s5 s8 s9 s10 s11 s12 s13 s14 s15 s16 s17 s18 s19 s20 s21 s22 s23 s24 s25 s26 s27 s28 s29 s30 s31 s32 s33 s34 s35 s36 s37 s38 s39 s40 s41 s42 s43 s44 s45 s46 s47 s48 s49 s50 s51 s52 s53 s54 s55 s56 s57 s58 s59 s60 v W hx => hK _ _ (te2 n h long w0 V Q hh hhw hlong hV hn hVs hT hR rest hpb hpl hm hQ W hx.1 v hx.2 s0 s1 s4 s5 s8 s9 s10 s11 s12 s13 s14 s15 s16 s17 s18 s19 s20 s21 s22 s23 s24 s25 s26 s27 s28 s29 s30 s31 s32 s33 s34 s35 s36 s37 s38 s39 s40 s41 s42 s43 s44 s45 s46 s47 s48 s49 s50 s51 s52 s53 s54 s55 s56 s57 s58 s59 s60)
  have HL := Lib.hid hpl
  have HBA : Hid (Below (n + 2) V (V.alloc (.cells #[] 5))) := Lib.hid ((Below.refl _ V).alloc (by omega) _)
  have HOA : Hid ((V.alloc (.cells #[] 5)).ownsRow (n + 2) 5 1 (.slice (some ⟨V.heap.size, 0, none⟩) 0 0) 0 []) := Lib.hid ⟨rfl, .inr ⟨V.heap.size, 0, #[], rfl, by omega, heap_alloc_new V _, Nat.le_refl _, Nat.zero_le _, rfl, rfl⟩⟩
  have HZ : Hid (n + 2 ≤ (V.alloc (.cells #[] 5)).heap.size) := Lib.hid (by simp; omega)
  clear hK hQ hT hR hV hpl
  have HVS := Lib.hid hVs
  clear hVs
  rcases hp with ⟨rfl, rfl, rfl⟩ | ⟨g, off, rfl, hgl, hbytes⟩
  · go_wp2_with (at_builtin; refine wpList_append_own_none rfl _ _ 22 rfl (n + 2) 5 i0 1 Tryd.underlying22 hi _ _ _ rfl HOA.out rfl ?_)
    exact ⟨HBA.out, HOA.out⟩
  · have hnews : ∀ j u, (rest.map BV)[j]? = some u → (V.alloc (.cells #[] 5)).cell? ((⟨g, off, none⟩ : Addr).add j) = some u := fun j u hj => by
      rw [List.getElem?_map] at hj
      obtain ⟨x, hx, rfl⟩ := Option.map_eq_some_iff.1 hj
      have hjl := (List.getElem?_eq_some_iff.1 hx).1
      have hadd : (⟨g, off, none⟩ : Addr).add j = ⟨g, off + j, none⟩ := by unfold Addr.add; split <;> simp_all
      rw [hadd, World.cell?_alloc_lt _ _ _ hgl, hbytes j hjl, List.getD_eq_getElem?_getD, hx]
      rfl
    have hone : ∀ u ∈ rest.map BV, u.oneCell' = true := by
      intro u hu
      obtain ⟨x, _, rfl⟩ := List.mem_map.1 hu
      rfl
    have HN := Lib.hid hnews
    have HON := Lib.hid hone
    clear hnews hbytes hone
    go_wp2_with (at_builtin; refine wpList_append_own _ rfl _ _ 22 rfl (n + 2) 5 i0 (.int .u8 0) 1 1 Tryd.underlying22 hi hz0 hz1 hz2 rfl (by decide) _ _ _ rfl HOA.out ⟨g, off, none⟩ rest.length c (rest.map BV) rfl (by simp) HN.out HON.out (by unfold maxLen; have := HL.out; omega) (by have := HL.out; omega) HZ.out ?_; intro v' w2 hown2 hgrow _)
    exact ⟨HBA.out.grown hgrow HZ.out (fun r hr => (HOA.out.lt r hr).1), by simpa using hown2⟩
end Go.Proofs.YtffdkniahdekjaaDoor
end
section
namespace Go.Proofs.YtffdkniahdekjaaDoor
open Go.RowKit Go.Hoar
set_option maxRecDepth 100000 in
set_option maxHeartbeats 3000000 in
theorem te0 (n : Nat) (h : List Nat) (long : Nat) (w0 : World) (Q : Exit → Act → World → Prop) (hh : h.length = 8) (hhw : Sha.Words h) (hlong : long ≤ 1152921504606846976) (hn : n = w0.heap.size) (rest : List Nat) (a : Option Addr) (c : Nat) (hpb : Sha.Bytes rest) (hpl : rest.length ≤ 140737488340000) (hm : rest.length % 64 = long % 64) (hp : PartOk w0 a c rest) (hQ : EndEnds n w0 (arr32 (Sha.ended h rest long)) Q)
    (s3 s4 s5 s6 s7 s8 s9 s10 s11 s12 s13 s14 s15 s16 s17 s18 s19 s20 s21 s22 s23 s24 s25 s26 s27 s28 s29 s30 s31 s32 s33 s34 s35 s36 s37 s38 s39 s40 s41 s42 s43 s44 s45 s46 s47 s48 s49 s50 s51 s52 s53 s54 s55 s56 s57 s58 s59 s60 : Value) : Code.wp Tryd.prog (endTail 0) Q ⟨#[.agg (w8 h), .slice a rest.length c, .int .i64 (long : Int), s3, s4, s5, s6, s7, s8, s9, s10, s11, s12, s13, s14, s15, s16, s17, s18, s19, s20, s21, s22, s23, s24, s25, s26, s27, s28, s29, s30, s31, s32, s33, s34, s35, s36, s37, s38, s39, s40, s41, s42, s43, s44, s45, s46, s47, s48, s49, s50, s51, s52, s53, s54, s55, s56, s57, s58, s59, s60], []⟩ w0 := by
  conv => arg 2; whnf
  apply wp_seq_k
  intro K hK
  have hK2 : ∀ (s0 s4 s5 s7 s8 s9 s10 s11 s12 s13 s14 s15 s16 s17 s18 s19 s20 s21 s22 s23 s24 s25 s26 s27 s28 s29 s30 s31 s32 s33 s34 s35 s36 s37 s38 s39 s40 s41 s42 s43 s44 s45 s46 s47 s48 s49 s50 s51 s52 s53 s54 s55 s56 s57 s58 s59 s60 : Value) (W : World) (hx : Below n w0 W ∧ W.heap.size = n + 2 ∧ Has W n 31 (w8 h) ∧ Has W (n + 1) 26 (arr32 []) ∧ PartOk W a c rest), K ⟨#[s0, .slice a rest.length c, .int .i64 (long : Int), .pointer (some ⟨n, 0, none⟩), s4, s5, .pointer (some ⟨n + 1, 0, none⟩), s7, s8, s9, s10, s11, s12, s13, s14, s15, s16, s17, s18, s19, s20, s21, s22, s23, s24, s25, s26, s27, s28, s29, s30, s31, s32, s33, s34, s35, s36, s37, s38, s39, s40, s41, s42, s43, s44, s45, s46, s47, s48, s49, s50, s51, s52, s53, s54, s55, s56, s57, s58, s59, s60], []⟩ W := fun s0 s4 s5 s7 s8 s9 s10 s11 s12 s13 s14 s15 s16 s17 s18 s19 s20 s21 s22 s23 s24 s25 s26 s27 s28 s29 s30 s31 s32 s33 s34 s35 s36 s37 s38 s39 s40 s41 s42 s43 s44 s45 s46 s47 s48 s49 s50 s51 s52 s53 s54 s55 s56 s57 s58 s59 s60 W hx => hK _ _ (te1 n h long w0 W Q hh hhw hlong hx.1 (by omega) hx.2.1 hx.2.2.1 hx.2.2.2.1 rest a c hpb hpl hm hx.2.2.2.2 hQ s0 s4 s5 s7 s8 s9 s10 s11 s12 s13 s14 s15 s16 s17 s18 s19 s20 s21 s22 s23 s24 s25 s26 s27 s28 s29 s30 s31 s32 s33 s34 s35 s36 s37 s38 s39 s40 s41 s42 s43 s44 s45 s46 s47 s48 s49 s50 s51 s52 s53 s54 s55 s56 s57 s58 s59 s60)
  have hs : w0.heap.size = n := hn.symm
  have HP := Lib.hid hp
  clear hK hQ hn hp
  go_wp2
  exact ⟨((Below.refl _ w0).alloc (by omega) _).alloc (by simp [hs]) _, by simp [hs], (Has.fresh_at _ _ _ _ hs.symm).alloc _, Has.fresh_at _ _ _ _ (by simp [hs]), (HP.out.alloc _).alloc _⟩
set_option maxRecDepth 100000 in
set_option maxHeartbeats 3000000 in
/-- THE REFERENCE's ended: the digest of words, of what is left, and of a length. -/
theorem refEnded_any (h rest : List Nat) (long : Nat) (a : Option Addr) (c : Nat) (w : World) (hh : h.length = 8) (hhw : Sha.Words h) (hlong : long ≤ 1152921504606846976) (hpb : Sha.Bytes rest) (hpl : rest.length ≤ 140737488340000) (hm : rest.length % 64 = long % 64) (hp : PartOk w a c rest) :
    Calls Tryd.prog 60 #[.agg (w8 h), .slice a rest.length c, .int .i64 (long : Int)] w fun e w' => e = .returned (.agg (arr32 (Sha.ended h rest long))) ∧ Below w.heap.size w w' := by
  have hl8 : (Sha.all h (rest ++ Sha.pad long)).length = 8 := by rw [Sha.all, Sha.takes_length, hh]
  have hel : (Sha.ended h rest long).length = 32 := by rw [Sha.ended, bytes_length, hl8]
  have HI := arr32_info (Sha.ended h rest long) (by omega)
  go_enter Tryd.func60, Tryd.ntmps60
  have hQ : EndEnds w.heap.size w (arr32 (Sha.ended h rest long)) (bodyPost Tryd.prog Tryd.f60 fun e w' => e = .returned (.agg (arr32 (Sha.ended h rest long))) ∧ Below w.heap.size w w') :=
    ⟨fun a w' hd h0 hR hb => bodyPost_ret (results_cell_row (P := Tryd.prog) rfl _ _ (w.heap.size + 1) 26 (arr32 (Sha.ended h rest long)) (0, 0) _ h0 hR Tryd.underlying26 rfl HI) hd ⟨rfl, hb⟩, fun c a a' w' hd h => ⟨hd.trans h.1, h.2⟩⟩
  exact te0 w.heap.size h long w _ hh hhw hlong rfl rest a c hpb hpl hm hp hQ _ _ _ _ _ _ _ _ _ _ _ _ _ _ _ _ _ _ _ _ _ _ _ _ _ _ _ _ _ _ _ _ _ _ _ _ _ _ _ _ _ _ _ _ _ _ _ _ _ _ _ _ _ _ _ _ _ _
end Go.Proofs.YtffdkniahdekjaaDoor
end
section
namespace Go.Proofs.YtffdkniahdekjaaDoor
open Go.RowKit Go.Hoar
set_option maxRecDepth 100000 in
set_option maxHeartbeats 1000000 in
theorem refFirst_any (w : World) : Calls Tryd.prog 25 #[] w fun e w' => e = .returned (.agg (w8 Sha.first)) ∧ Below w.heap.size w w' := by
  have HI := Lib.hid (w8_info Sha.first rfl)
  have HO := Lib.hid (w8_one Sha.first)
  have HS : Hid ((#[.int .u32 0, .int .u32 0, .int .u32 0, .int .u32 0, .int .u32 0, .int .u32 0, .int .u32 0, .int .u32 0] : Array Value).size = (w8 Sha.first).size) := Lib.hid rfl
  have HF : Hid (Has (w.alloc (.cells #[.int .u32 0, .int .u32 0, .int .u32 0, .int .u32 0, .int .u32 0, .int .u32 0, .int .u32 0, .int .u32 0] 31)) w.heap.size 31 #[.int .u32 0, .int .u32 0, .int .u32 0, .int .u32 0, .int .u32 0, .int .u32 0, .int .u32 0, .int .u32 0]) := Lib.hid (Has.fresh w 31 _)
  have HB : Hid (Below w.heap.size w (w.alloc (.cells #[.int .u32 0, .int .u32 0, .int .u32 0, .int .u32 0, .int .u32 0, .int .u32 0, .int .u32 0, .int .u32 0] 31))) := Lib.hid ((Below.refl _ w).alloc (Nat.le_refl _) _)
  go_enter Tryd.func25, Tryd.ntmps25
  go_wp2_with ((with_reducible refine arm_store w.heap.size (w8 Sha.first) _ _ HF.out HS.out HI.out HO.out ?h5 ?h6 ?_); (case h5 => rfl); (case h6 => rfl))
  exact bodyPost_ret (results_cell_row (P := Tryd.prog) rfl _ _ w.heap.size 31 (w8 Sha.first) (0, 0) _ rfl HF.out.setRow Tryd.underlying31 rfl HI.out) rfl ⟨rfl, below_setRow HB.out (Nat.le_refl _) _⟩
set_option maxRecDepth 100000 in
set_option maxHeartbeats 2000000 in
/-- THE REFERENCE's Of. -/
theorem refOf_any (bs : List Nat) (a : Option Addr) (c : Nat) (w : World) (hbs : Sha.Bytes bs) (hp : PartOk w a c bs) (hc1 : bs.length ≤ c) (hc2 : c ≤ maxLen) (hl : bs.length ≤ 1152921504606846976) (_hl2 : bs.length ≤ 140737488340000) (out : List Nat) (hout : Hid (out = Sha.sha bs)) :
    Calls Tryd.prog 18 #[.slice a bs.length c] w fun e w' => e = .returned (.agg (arr32 out)) ∧ Below w.heap.size w w' := by
  obtain ⟨H, hH⟩ : ∃ H, H = Sha.all Sha.first bs := ⟨_, rfl⟩
  obtain ⟨R, hR⟩ : ∃ R, R = bs.drop (64 * (bs.length / 64)) := ⟨_, rfl⟩
  have hHl : H.length = 8 := by rw [hH, Sha.all, Sha.takes_length]; rfl
  have hHw : Sha.Words H := by rw [hH, Sha.all]; exact Sha.takes_words Sha.first_words _ _
  have hRb : Sha.Bytes R := fun x hx => hbs x (by rw [hR] at hx; exact List.mem_of_mem_drop hx)
  have hRl : R.length = bs.length - 64 * (bs.length / 64) := by rw [hR, List.length_drop]
  have hso : out = Sha.ended H R bs.length := by rw [hout.out, hH, hR]; exact Eq.refl _
  have hol : out.length = 32 := by rw [hso, Sha.ended, bytes_length, Sha.all, Sha.takes_length, hHl]
  have HF := Lib.hid fun V : World => refFirst_any V
  have HA : Hid (∀ V : World, Below w.heap.size w V → Calls Tryd.prog 59 #[.agg (w8 Sha.first), .slice a bs.length c] V fun e w' => ∃ a' c', e = .returned (.tuple #[.agg (w8 H), .slice a' R.length c']) ∧ PartOk w' a' c' R ∧ Below V.heap.size V w') := Lib.hid fun V hV =>
    (refAll_any Sha.first bs a c V rfl Sha.first_words hbs (hp.below hV) hc1 hc2 H (Lib.hid hH) R (Lib.hid hR)).mono fun e w' ⟨a', c', he, h1, _, _, h2⟩ => ⟨a', c', he, h1, h2⟩
  have HE : Hid (∀ (V : World) (a' : Option Addr) (c' : Nat), PartOk V a' c' R → Calls Tryd.prog 60 #[.agg (w8 H), .slice a' R.length c', .int .i64 (bs.length : Int)] V fun e w' => e = .returned (.agg (arr32 out)) ∧ Below V.heap.size V w') := Lib.hid fun V a' c' h => by
    rw [hso]
    exact refEnded_any H R bs.length a' c' V hHl hHw hl hRb (by omega) (by omega) h
  have HIH := Lib.hid (w8_info H hHl)
  have HOH := Lib.hid (w8_one H)
  have HSH : Hid ((#[.int .u32 0, .int .u32 0, .int .u32 0, .int .u32 0, .int .u32 0, .int .u32 0, .int .u32 0, .int .u32 0] : Array Value).size = (w8 H).size) := Lib.hid (by rw [w8_size _ hHl]; rfl)
  have HIO := Lib.hid (arr32_info out (by omega))
  have HSO := Lib.hid ((arr32_size [] (by simp)).trans (arr32_size out (by omega)).symm)
  clear hp hso hR hH hRl hol hl _hl2 hc1
  go_enter Tryd.func18, Tryd.ntmps18
  go_upto_region 1 with (fail)
  refine gen_world (P := fun W => Code.wp _ _ _ _ W) (I := fun W => Below w.heap.size w W ∧ Has W w.heap.size 26 (arr32 [])) _ ⟨(Below.refl _ w).alloc (Nat.le_refl _) _, Has.fresh w 26 _⟩ ?_
  rintro W ⟨hB, hR⟩
  have HB := Lib.hid hB
  have HR := Lib.hid hR
  clear hB hR
  go_wp2_with (first
    | (go_at_call 25; (with_reducible refine (HF.out _).mono ?_); rintro e w1 ⟨rfl, hb1⟩; have HB1 := Lib.hid (HB.out.trans (hb1.mono HB.out.size)); have HR1 := Lib.hid (HR.out.below hb1 HR.out.lt); clear hb1)
    | (go_at_call 59; (with_reducible refine (HA.out _ HB1.out).mono ?_); rintro e w2 ⟨a2, c2, rfl, hp2, hb2⟩; have HB2 := Lib.hid (HB1.out.trans (hb2.mono HB1.out.size)); have HR2 := Lib.hid (HR1.out.below hb2 HR1.out.lt); have HZ2 : Hid (Has (w2.alloc (.cells #[.int .u32 0, .int .u32 0, .int .u32 0, .int .u32 0, .int .u32 0, .int .u32 0, .int .u32 0, .int .u32 0] 31)) w2.heap.size 31 #[.int .u32 0, .int .u32 0, .int .u32 0, .int .u32 0, .int .u32 0, .int .u32 0, .int .u32 0, .int .u32 0]) := Lib.hid (Has.fresh w2 31 _); have HP3 : Hid (PartOk ((w2.alloc (.cells #[.int .u32 0, .int .u32 0, .int .u32 0, .int .u32 0, .int .u32 0, .int .u32 0, .int .u32 0, .int .u32 0] 31)).setRow w2.heap.size (w8 H)) a2 c2 R) := Lib.hid (part_row (hp2.alloc _) (fun x hx => by subst hx; have := part_lt2 hp2; omega) _); have HB3 : Hid (Below w.heap.size w ((w2.alloc (.cells #[.int .u32 0, .int .u32 0, .int .u32 0, .int .u32 0, .int .u32 0, .int .u32 0, .int .u32 0, .int .u32 0] 31)).setRow w2.heap.size (w8 H))) := Lib.hid (below_setRow (HB2.out.alloc HB2.out.size _) HB2.out.size _); have HR3 : Hid (Has ((w2.alloc (.cells #[.int .u32 0, .int .u32 0, .int .u32 0, .int .u32 0, .int .u32 0, .int .u32 0, .int .u32 0, .int .u32 0] 31)).setRow w2.heap.size (w8 H)) w.heap.size 26 (arr32 [])) := Lib.hid ((HR2.out.alloc _).setRow_apart (Nat.ne_of_lt HR2.out.lt)); have HZ3 := Lib.hid (HZ2.out.setRow (cs' := w8 H)); clear hp2 hb2)
    | ((with_reducible refine arm_store w2.heap.size (w8 H) _ _ HZ2.out HSH.out HIH.out HOH.out ?h1 ?h2 ?_); (case h1 => rfl); (case h2 => rfl))
    | ((with_reducible refine arm_load ⟨w2.heap.size, 0, none⟩ (w8 H) _ HZ3.out.row Tryd.underlying31 HIH.out ?h3 ?h4 ?_); (case h3 => rfl); (case h4 => rfl))
    | (go_at_call 60; (with_reducible refine (HE.out _ _ _ HP3.out).mono ?_); rintro e w4 ⟨rfl, hb4⟩; have HB4 := Lib.hid (HB3.out.trans (hb4.mono HB3.out.size)); have HR4 := Lib.hid (HR3.out.below hb4 HR3.out.lt); clear hb4)
    | ((with_reducible refine arm_store w.heap.size (arr32 out) _ _ HR4.out HSO.out HIO.out (arr32_one _) ?h5 ?h6 ?_); (case h5 => rfl); (case h6 => rfl)))
  exact bodyPost_ret (results_cell_row (P := Tryd.prog) rfl _ _ w.heap.size 26 (arr32 out) (0, 0) _ rfl HR4.out.setRow Tryd.underlying26 rfl HIO.out) rfl ⟨rfl, below_setRow HB4.out (Nat.le_refl _) _⟩
end Go.Proofs.YtffdkniahdekjaaDoor
end
