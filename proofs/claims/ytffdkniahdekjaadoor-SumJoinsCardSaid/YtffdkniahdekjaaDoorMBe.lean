/-
  The reference's block: the later words.
  · The reference's block: the rounds.
  · THE SAME ARMS WHERE THE OPERATION IS GUARDED. No program is spoken of.
  · A REGION THAT DRAWS ITS ORDER, WHOSE OPERATIONS MAKE MEMORY: each operation by itself, from what those have left that it waits for. No program is spoken of.
-/
import Derived.Test.YtffdkniahdekjaaDoorMBd
import Derived.Deep.DeepCutAuto
import Derived.BigFrame
import Derived.StillTail
import Derived.Below
import Derived.BigCall
import Derived.WalkKit
section
namespace Go.Proofs.YtffdkniahdekjaaDoor
open Go.RowKit Go.Hoar
theorem p_val (e f g h k w : Nat) : ((h : Int) + (Sha.big e 6 11 25 : Nat) + (Sha.chosen e f g : Nat) + (k : Int) + (w : Int)) % 4294967296 = ((Sha.p e f g h k w : Nat) : Int) := by
  unfold Sha.p Sha.add
  generalize Sha.big e 6 11 25 = x
  generalize Sha.chosen e f g = y
  omega
theorem p_raw (e f g h k w : Nat) (he : e < 4294967296) (hf : f < 4294967296) (hg : g < 4294967296) : (((h : Int) + (Sha.big e 6 11 25 : Nat) + bits BinOp.or IntKind.u32 (bits BinOp.and IntKind.u32 (e : Int) (f : Int)) (bits BinOp.and IntKind.u32 (bits BinOp.xor IntKind.u32 (if IntKind.u32.signed = true then -1 else IntKind.u32.max) (e : Int)) (g : Int)) + (k : Int)) % 4294967296 + (w : Int)) % 4294967296 = ((Sha.p e f g h k w : Nat) : Int) := by
  rw [if_neg (by decide), chosen_bits e f g he hf hg, Int.emod_add_emod, p_val]
theorem q_val (a b c : Nat) : ((Sha.big a 2 13 22 : Nat) + (Sha.most a b c : Nat) : Int) % 4294967296 = ((Sha.q a b c : Nat) : Int) := by
  unfold Sha.q Sha.add
  generalize Sha.big a 2 13 22 = x
  generalize Sha.most a b c = y
  omega
theorem round_set (a0 a1 a2 a3 a4 a5 a6 a7 k x P R : Nat) (V1 : List Nat) (hV : Sha.round [a0, a1, a2, a3, a4, a5, a6, a7] k x = V1) (hP : P = Sha.p a4 a5 a6 a7 k x) (hR : R = Sha.q a0 a1 a2) :
    (((((((((w8 [a0, a1, a2, a3, a4, a5, a6, a7]).setIfInBounds 0 (.int .u32 (((P : Int) + (R : Int)) % 4294967296))).setIfInBounds 1 (.int .u32 (a0 : Int))).setIfInBounds 2 (.int .u32 (a1 : Int))).setIfInBounds 3 (.int .u32 (a2 : Int))).setIfInBounds 4 (.int .u32 (((a3 : Int) + (P : Int)) % 4294967296))).setIfInBounds 5 (.int .u32 (a4 : Int))).setIfInBounds 6 (.int .u32 (a5 : Int))).setIfInBounds 7 (.int .u32 (a6 : Int))) = w8 V1 := by
  have e : Sha.round [a0, a1, a2, a3, a4, a5, a6, a7] k x = [Sha.add P R, a0, a1, a2, Sha.add a3 P, a4, a5, a6] := by
    rw [hP, hR]
    unfold Sha.round
    exact Eq.refl _
  rw [← hV, e, add_cast, add_cast]
  generalize Sha.add P R = u
  generalize Sha.add a3 P = v
  simp [w8, WV]
theorem refConst (k : Nat) (hk : k < 64) : ∀ V : World, Calls Tryd.prog 108 #[.int .i64 (k : Int)] V fun e w' => e = .returned (.int .u32 ((Sha.consts.getD k 0 : Nat) : Int)) ∧ ∃ m, w' = V.drewN m := fun V => (constant_any k hk V).mono fun _ _ hx => ⟨hx.1, 0, hx.2⟩
set_option maxRecDepth 100000 in
set_option maxHeartbeats 3000000 in
theorem tk5 (g off cap n : Nat) (h ws : List Nat) (w0 : World) (Q : Exit → Act → World → Prop) (hh : h.length = 8) (hhw : Sha.Words h) (hws : ws.length = 64) (hwsw : Sha.Words ws) (zs : Array Value) (hz : zs.size = 8) (hQ : TakEnds n w0 (w8 (List.zipWith Sha.add h (Sha.rounds h ws 64))) Q) (U : World) (hB : Below n w0 U) (hn : n ≤ w0.heap.size) (hH : Has U n 31 (w8 h)) (hR : Has U (n + 1) 31 zs) (hW : Has U (n + 2) 151 (arr64 ws)) (hV : Has U (n + 3) 31 (w8 h))
    (s3 s6 s7 s8 s9 s10 s12 s13 s14 s15 s16 s17 s18 s19 s20 s21 s22 s23 s24 s25 s26 s27 s28 s29 s30 s31 s32 s33 s34 s35 s36 s37 s38 s39 s40 s41 s42 s43 s44 s45 s46 s47 s48 s49 s50 s51 s52 s53 s54 s55 s56 s57 s58 s59 s60 s61 s62 s63 s64 s65 s66 s67 s68 s69 s70 s71 s72 s73 s74 s75 s76 s77 s78 s79 s80 s81 s82 s83 s84 s85 s86 s87 s88 s89 s90 s91 s92 s93 s94 s95 s96 s97 s98 s99 s100 s101 s102 s103 s104 s105 s106 s107 s108 s109 s110 s111 s112 s113 s114 s115 s116 s117 s118 s119 s120 s121 s122 s123 s124 s125 s126 s127 s128 s129 s130 s131 s132 s133 s134 s135 s136 s137 s138 s139 s140 s141 s142 s143 s144 s145 s146 s147 s148 s149 s150 s151 s152 s153 s154 s155 s156 s157 s158 s159 s160 s161 s162 s163 s164 s165 s166 s167 s168 s169 s170 s171 s172 s173 s174 s175 s176 s177 s178 s179 s180 s181 s182 : Value) : Code.wp Tryd.prog (takTail 5) Q ⟨#[.agg (w8 h), .slice (some ⟨g, off, none⟩) 64 cap, .pointer (some ⟨n, 0, none⟩), s3, .pointer (some ⟨n + 1, 0, none⟩), .pointer (some ⟨n + 2, 0, none⟩), s6, s7, s8, s9, s10, .pointer (some ⟨n + 3, 0, none⟩), s12, s13, s14, s15, s16, s17, s18, s19, s20, s21, s22, s23, s24, s25, s26, s27, s28, s29, s30, s31, s32, s33, s34, s35, s36, s37, s38, s39, s40, s41, s42, s43, s44, s45, s46, s47, s48, s49, s50, s51, s52, s53, s54, s55, s56, s57, s58, s59, s60, s61, s62, s63, s64, s65, s66, s67, s68, s69, s70, s71, s72, s73, s74, s75, s76, s77, s78, s79, s80, s81, s82, s83, s84, s85, s86, s87, s88, s89, s90, s91, s92, s93, s94, s95, s96, s97, s98, s99, s100, s101, s102, s103, s104, s105, s106, s107, s108, s109, s110, s111, s112, s113, s114, s115, s116, s117, s118, s119, s120, s121, s122, s123, s124, s125, s126, s127, s128, s129, s130, s131, s132, s133, s134, s135, s136, s137, s138, s139, s140, s141, s142, s143, s144, s145, s146, s147, s148, s149, s150, s151, s152, s153, s154, s155, s156, s157, s158, s159, s160, s161, s162, s163, s164, s165, s166, s167, s168, s169, s170, s171, s172, s173, s174, s175, s176, s177, s178, s179, s180, s181, s182], []⟩ U := by
  conv => arg 2; whnf
  apply wp_seq_k
  intro K hK
  have hK2 : ∀ (s3 s6 s7 s8 s9 s10 s12 s13 s14 s15 s16 s17 s18 s19 s20 s21 s22 s23 s24 s25 s26 s27 s28 s29 s30 s31 s32 s33 s34 s35 s36 s37 s38 s39 s40 s41 s42 s43 s44 s45 s46 s47 s48 s49 s50 s51 s52 s53 s54 s55 s56 s57 s58 s59 s60 s61 s62 s63 s64 s65 s66 s67 s68 s69 s70 s71 s72 s73 s74 s75 s76 s77 s78 s79 s80 s81 s82 s83 s84 s85 s86 s87 s88 s89 s90 s91 s92 s93 s94 s95 s96 s97 s98 s99 s100 s101 s102 s103 s104 s105 s106 s107 s108 s109 s110 s111 s112 s113 s114 s115 s116 s117 s118 s119 s120 s121 s122 s123 s124 s125 s126 s127 s128 s129 s130 s131 s132 s133 s134 s135 s136 s137 s138 s139 s140 s141 s142 s143 s144 s145 s146 s147 s148 s149 s150 s151 s152 s153 s154 s155 s156 s157 s158 s159 s160 s161 s162 s163 s164 s165 s166 s167 s168 s169 s170 s171 s172 s173 s174 s175 s176 s177 s178 s179 s180 s181 s182 : Value) (W : World) (hx : Below n w0 W ∧ Has W n 31 (w8 h) ∧ Has W (n + 1) 31 zs ∧ Has W (n + 3) 31 (w8 (Sha.rounds h ws 64))), K ⟨#[.agg (w8 h), .slice (some ⟨g, off, none⟩) 64 cap, .pointer (some ⟨n, 0, none⟩), s3, .pointer (some ⟨n + 1, 0, none⟩), .pointer (some ⟨n + 2, 0, none⟩), s6, s7, s8, s9, s10, .pointer (some ⟨n + 3, 0, none⟩), s12, s13, s14, s15, s16, s17, s18, s19, s20, s21, s22, s23, s24, s25, s26, s27, s28, s29, s30, s31, s32, s33, s34, s35, s36, s37, s38, s39, s40, s41, s42, s43, s44, s45, s46, s47, s48, s49, s50, s51, s52, s53, s54, s55, s56, s57, s58, s59, s60, s61, s62, s63, s64, s65, s66, s67, s68, s69, s70, s71, s72, s73, s74, s75, s76, s77, s78, s79, s80, s81, s82, s83, s84, s85, s86, s87, s88, s89, s90, s91, s92, s93, s94, s95, s96, s97, s98, s99, s100, s101, s102, s103, s104, s105, s106, s107, s108, s109, s110, s111, s112, s113, s114, s115, s116, s117, s118, s119, s120, s121, s122, s123, s124, s125, s126, s127, s128, s129, s130, s131, s132, s133, s134, s135, s136, s137, s138, s139, s140, s141, s142, s143, s144, s145, s146, s147, s148, s149, s150, s151, s152, s153, s154, s155, s156, s157, s158, s159, s160, s161, s162, s163, s164, s165, s166, s167, s168, s169, s170, s171, s172, s173, s174, s175, s176, s177, s178, s179, s180, s181, s182], []⟩ W := fun s3 s6 s7 s8 s9 s10 s12 s13 s14 s15 s16 s17 s18 s19 s20 s21 s22 s23 s24 s25 s26 s27 s28 s29 s30 s31 s32 s33 s34 s35 s36 s37 s38 s39 s40 s41 s42 s43 s44 s45 s46 s47 s48 s49 s50 s51 s52 s53 s54 s55 s56 s57 s58 s59 s60 s61 s62 s63 s64 s65 s66 s67 s68 s69 s70 s71 s72 s73 s74 s75 s76 s77 s78 s79 s80 s81 s82 s83 s84 s85 s86 s87 s88 s89 s90 s91 s92 s93 s94 s95 s96 s97 s98 s99 s100 s101 s102 s103 s104 s105 s106 s107 s108 s109 s110 s111 s112 s113 s114 s115 s116 s117 s118 s119 s120 s121 s122 s123 s124 s125 s126 s127 s128 s129 s130 s131 s132 s133 s134 s135 s136 s137 s138 s139 s140 s141 s142 s143 s144 s145 s146 s147 s148 s149 s150 s151 s152 s153 s154 s155 s156 s157 s158 s159 s160 s161 s162 s163 s164 s165 s166 s167 s168 s169 s170 s171 s172 s173 s174 s175 s176 s177 s178 s179 s180 s181 s182 W hx => hK _ _ (tk10 g off cap n h _ w0 Q hh (by rw [Sha.rounds_length, hh]) zs hz hQ W hx.1 hn hx.2.1 hx.2.2.1 hx.2.2.2 s3 s6 s7 s8 s9 s10 s12 s13 s14 s15 s16 s17 s18 s19 s20 s21 s22 s23 s24 s25 s26 s27 s28 s29 s30 s31 s32 s33 s34 s35 s36 s37 s38 s39 s40 s41 s42 s43 s44 s45 s46 s47 s48 s49 s50 s51 s52 s53 s54 s55 s56 s57 s58 s59 s60 s61 s62 s63 s64 s65 s66 s67 s68 s69 s70 s71 s72 s73 s74 s75 s76 s77 s78 s79 s80 s81 s82 s83 s84 s85 s86 s87 s88 s89 s90 s91 s92 s93 s94 s95 s96 s97 s98 s99 s100 s101 s102 s103 s104 s105 s106 s107 s108 s109 s110 s111 s112 s113 s114 s115 s116 s117 s118 s119 s120 s121 s122 s123 s124 s125 s126 s127 s128 s129 s130 s131 s132 s133 s134 s135 s136 s137 s138 s139 s140 s141 s142 s143 s144 s145 s146 s147 s148 s149 s150 s151 s152 s153 s154 s155 s156 s157 s158 s159 s160 s161 s162 s163 s164 s165 s166 s167 s168 s169 s170 s171 s172 s173 s174 s175 s176 s177 s178 s179 s180 s181 s182)
  clear hK
  go_wp2
  go_loopw [12] (fun i wr => ∃ k : Nat, k ≤ 64 ∧ i = .int .i64 k ∧ Below n w0 wr ∧ Has wr n 31 (w8 h) ∧ Has wr (n + 1) 31 zs ∧ Has wr (n + 2) 151 (arr64 ws) ∧ Has wr (n + 3) 31 (w8 (Sha.rounds h ws k))) (fun i _ => 64 - (intOf i).toNat)
  case atStart => exact ⟨0, Nat.zero_le _, rfl, hB, hH, hR, hW, hV⟩
  case round =>
    obtain ⟨k, hk, rfl, hB2, hH2, hR2, hW2, hV2⟩ := hrel
    have HK := Lib.hid hK2
    clear hK2 hB hH hR hW hV
    by_cases hlt : k < 64
    · have hround : Sha.round (Sha.rounds h ws k) (Sha.consts.getD k 0) (ws.getD k 0) = Sha.rounds h ws (k + 1) := by rw [Sha.rounds]
      have hwl : (Sha.rounds h ws k).length = 8 := by rw [Sha.rounds_length, hh]
      have hww := Sha.rounds_words hhw ws k
      have hcon := refConst k hlt
      have cx : wr.cell? ⟨n + 2, k, none⟩ = some (.int .u32 ((ws.getD k 0 : Nat) : Int)) := by rw [hW2.cell, arr64_get _ _ (by omega)]
      have lx := Sha.getD_lt hwsw (by decide) k
      generalize Sha.rounds h ws k = V at *
      generalize Sha.consts.getD k 0 = kc at *
      generalize ws.getD k 0 = x at *
      obtain ⟨a0, a1, a2, a3, a4, a5, a6, a7, rfl⟩ := len8 hwl
      have h0 : a0 < 4294967296 := hww _ (by simp)
      have h1 : a1 < 4294967296 := hww _ (by simp)
      have h2 : a2 < 4294967296 := hww _ (by simp)
      have h3 : a3 < 4294967296 := hww _ (by simp)
      have h4 : a4 < 4294967296 := hww _ (by simp)
      have h5 : a5 < 4294967296 := hww _ (by simp)
      have h6 : a6 < 4294967296 := hww _ (by simp)
      have h7 : a7 < 4294967296 := hww _ (by simp)
      have c0 : wr.cell? ⟨n + 3, 0, none⟩ = some (.int .u32 (a0 : Int)) := (hV2.cell 0).trans rfl
      have c1 : wr.cell? ⟨n + 3, 1, none⟩ = some (.int .u32 (a1 : Int)) := (hV2.cell 1).trans rfl
      have c2 : wr.cell? ⟨n + 3, 2, none⟩ = some (.int .u32 (a2 : Int)) := (hV2.cell 2).trans rfl
      have c4 : wr.cell? ⟨n + 3, 4, none⟩ = some (.int .u32 (a4 : Int)) := (hV2.cell 4).trans rfl
      have c5 : wr.cell? ⟨n + 3, 5, none⟩ = some (.int .u32 (a5 : Int)) := (hV2.cell 5).trans rfl
      have c6 : wr.cell? ⟨n + 3, 6, none⟩ = some (.int .u32 (a6 : Int)) := (hV2.cell 6).trans rfl
      have HB := Lib.hid hB2
      have HH := Lib.hid hH2
      have HR := Lib.hid hR2
      have HW := Lib.hid hW2
      have HV := Lib.hid hV2
      have HO := Lib.hid hround
      have HC := Lib.hid hcon
      have HX := Lib.hid cx
      clear hB2 hH2 hR2 hW2 hV2 hround hcon cx hww hwl hQ
      go_wp2
      go_quiet (fail)
      go_wp2
      refine gen_world (P := fun W => Code.wp _ _ _ _ W) (I := fun W => Below n w0 W ∧ Has W n 31 (w8 h) ∧ Has W (n + 1) 31 zs ∧ Has W (n + 2) 151 (arr64 ws) ∧ Has W (n + 3) 31 (w8 [a0, a1, a2, a3, a4, a5, a6, a7]) ∧ W.cell? ⟨n + 2, k, none⟩ = some (.int .u32 (x : Int))) _ ⟨below_drewN HB.out _, HH.out.drewN _, HR.out.drewN _, HW.out.drewN _, HV.out.drewN _, HX.out⟩ ?_
      clear HB HH HR HW HV HX c0 c1 c2 c4 c5 c6
      rintro W ⟨hB, hH, hR, hW, hV, cx⟩
      have c0 : W.cell? ⟨n + 3, 0, none⟩ = some (.int .u32 (a0 : Int)) := (hV.cell 0).trans rfl
      have c1 : W.cell? ⟨n + 3, 1, none⟩ = some (.int .u32 (a1 : Int)) := (hV.cell 1).trans rfl
      have c2 : W.cell? ⟨n + 3, 2, none⟩ = some (.int .u32 (a2 : Int)) := (hV.cell 2).trans rfl
      have c3 : W.cell? ⟨n + 3, 3, none⟩ = some (.int .u32 (a3 : Int)) := (hV.cell 3).trans rfl
      have c4 : W.cell? ⟨n + 3, 4, none⟩ = some (.int .u32 (a4 : Int)) := (hV.cell 4).trans rfl
      have c5 : W.cell? ⟨n + 3, 5, none⟩ = some (.int .u32 (a5 : Int)) := (hV.cell 5).trans rfl
      have c6 : W.cell? ⟨n + 3, 6, none⟩ = some (.int .u32 (a6 : Int)) := (hV.cell 6).trans rfl
      have c7 : W.cell? ⟨n + 3, 7, none⟩ = some (.int .u32 (a7 : Int)) := (hV.cell 7).trans rfl
      have HB := Lib.hid hB
      have HH := Lib.hid hH
      have HR := Lib.hid hR
      have HW := Lib.hid hW
      have HV := Lib.hid hV
      clear hB hH hR hW
      have e1 := big_bits a4 6 11 25 h4
      have e2 := chosen_bits a4 a5 a6 h4 h5 h6
      have H1 : Hid (∀ V : World, Calls Tryd.prog 107 #[.int .u32 (a4 : Int), .int .i64 6] V fun e w' => e = .returned (.int .u32 ((Sha.rotr a4 6 : Nat) : Int)) ∧ ∃ m, w' = V.drewN m) := Lib.hid fun V => refTurn_any a4 6 h4 (by omega) (by omega) V
      have H2 : Hid (∀ V : World, Calls Tryd.prog 107 #[.int .u32 (a4 : Int), .int .i64 11] V fun e w' => e = .returned (.int .u32 ((Sha.rotr a4 11 : Nat) : Int)) ∧ ∃ m, w' = V.drewN m) := Lib.hid fun V => refTurn_any a4 11 h4 (by omega) (by omega) V
      have H3 : Hid (∀ V : World, Calls Tryd.prog 107 #[.int .u32 (a4 : Int), .int .i64 25] V fun e w' => e = .returned (.int .u32 ((Sha.rotr a4 25 : Nat) : Int)) ∧ ∃ m, w' = V.drewN m) := Lib.hid fun V => refTurn_any a4 25 h4 (by omega) (by omega) V
      go_quiet (first
        | (go_at_call 107; with_reducible refine Calls.quiet_of (H1.out _))
        | (go_at_call 107; with_reducible refine Calls.quiet_of (H2.out _))
        | (go_at_call 107; with_reducible refine Calls.quiet_of (H3.out _))
        | (go_at_call 108; with_reducible refine Calls.quiet_of (HC.out _)))
      have e3 := most_bits a0 a1 a2 h0 h1 h2
      have e4 := big_bits a0 2 13 22 h0
      have G1 : Hid (∀ V : World, Calls Tryd.prog 107 #[.int .u32 (a0 : Int), .int .i64 2] V fun e w' => e = .returned (.int .u32 ((Sha.rotr a0 2 : Nat) : Int)) ∧ ∃ m, w' = V.drewN m) := Lib.hid fun V => refTurn_any a0 2 h0 (by omega) (by omega) V
      have G2 : Hid (∀ V : World, Calls Tryd.prog 107 #[.int .u32 (a0 : Int), .int .i64 13] V fun e w' => e = .returned (.int .u32 ((Sha.rotr a0 13 : Nat) : Int)) ∧ ∃ m, w' = V.drewN m) := Lib.hid fun V => refTurn_any a0 13 h0 (by omega) (by omega) V
      have G3 : Hid (∀ V : World, Calls Tryd.prog 107 #[.int .u32 (a0 : Int), .int .i64 22] V fun e w' => e = .returned (.int .u32 ((Sha.rotr a0 22 : Nat) : Int)) ∧ ∃ m, w' = V.drewN m) := Lib.hid fun V => refTurn_any a0 22 h0 (by omega) (by omega) V
      have f0 := hV.free 0
      have f1 := hV.free 1
      have f2 := hV.free 2
      have f3 := hV.free 3
      have f4 := hV.free 4
      have f5 := hV.free 5
      have f6 := hV.free 6
      have f7 := hV.free 7
      clear hV
      have HP := Lib.hid (p_raw a4 a5 a6 a7 kc x h4 h5 h6)
      have HQ := Lib.hid (q_val a0 a1 a2)
      go_upto_region 20 with (fail)
      rw [HP.out]
      obtain ⟨P, hP⟩ : ∃ P, P = Sha.p a4 a5 a6 a7 kc x := ⟨_, rfl⟩
      rw [← hP]
      replace hP := Lib.hid hP
      clear e1 e2
      go_upto_region 21 with (first
        | (go_at_call 107; (with_reducible refine (G1.out _).mono ?_); rintro e u1 ⟨rfl, m1, rfl⟩)
        | (go_at_call 107; (with_reducible refine (G2.out _).mono ?_); rintro e u2 ⟨rfl, m2, rfl⟩)
        | (go_at_call 107; (with_reducible refine (G3.out _).mono ?_); rintro e u3 ⟨rfl, m3, rfl⟩))
      rw [HQ.out]
      obtain ⟨R, hR⟩ : ∃ R, R = Sha.q a0 a1 a2 := ⟨_, rfl⟩
      rw [← hR]
      replace hR := Lib.hid hR
      clear e3 e4
      go_wp2
      go_roundw
      case rel => exact ⟨k + 1, by omega, by go_num, ((((((((below_drewN HB.out _).setCell (by simp) _).setCell (by simp) _).setCell (by simp) _).setCell (by simp) _).setCell (by simp) _).setCell (by simp) _).setCell (by simp) _).setCell (by simp) _, (((((((((HH.out.drewN _).apart (by simp) _).apart (by simp) _).apart (by simp) _).apart (by simp) _).apart (by simp) _).apart (by simp) _).apart (by simp) _).apart (by simp) _), (((((((((HR.out.drewN _).apart (by simp) _).apart (by simp) _).apart (by simp) _).apart (by simp) _).apart (by simp) _).apart (by simp) _).apart (by simp) _).apart (by simp) _), (((((((((HW.out.drewN _).apart (by simp) _).apart (by simp) _).apart (by simp) _).apart (by simp) _).apart (by simp) _).apart (by simp) _).apart (by simp) _).apart (by simp) _), ((((((((((HV.out.drewN _).put _ _).put _ _).put _ _).put _ _).put _ _).put _ _).put _ _).put _ _).of_eq (round_set _ _ _ _ _ _ _ _ _ _ _ _ _ HO.out hP.out hR.out))⟩
      case measure => simp [intOf]; omega
    · obtain rfl : k = 64 := by omega
      have hx := HK
      clear HK hQ
      go_wp2
      apply hx.out
      exact ⟨hB2, hH2, hR2, hV2⟩
end Go.Proofs.YtffdkniahdekjaaDoor
end
section
namespace Go.Hoar
open Go Go.RowKit
section
variable {P : Program} {ops : Array Oper} {rest : List Oper} {a : Act} {w : World} {Q : Exit → Act → World → Prop} {dst : Option Tmp} {t T ty : TypeId} {x : Operand} {pos : String} {af : Array Edge} {gd : Nat × Bool}
theorem arm_load_g (ad : Addr) (cs : Array Value) (d : TypeDesc) (hc : ∀ j u, cs[j]? = some u → w.cell? (ad.add j) = some u) (hu : P.underlying ty = some d)
    (hi : (P.info? ty).map (·.size) = some cs.size) (hx : a.eval x = .pointer (some ad))
    (hd : (match d with | .struct _ | .array _ _ => true | _ => false) = true)
    (hw : Region.wanted ⟨dst, .load ty x, T, pos, af, some gd⟩ (yielded ops a.tmps) = true)
    (h : wpList P ops Q rest (a.put dst (.agg cs)) w) : wpList P ops Q (⟨dst, .load ty x, T, pos, af, some gd⟩ :: rest) a w :=
  BigFrame.wpList_want hw fun _ hK => by
    unfold Oper.wp execOp
    simp only [hx, Instr.loadAt, Instr.sureAddr, Sem.run_bind, Sem.run_pure, Result.andThen_ok, run_loadVar_at w ad ty cs d hc hu hd hi]
    exact hK _ _ h
theorem arm_slices_g {xs : Array (Nat × Operand)} {n : Nat}
    (e : TypeId) (ie : TypeInfo) (z : Value) (css : List (Array Value)) (hu : P.underlying t = some (.slice e)) (hie : P.info? e = some ie) (hz : ie.zero = some z) (hsz : ∀ c ∈ css, c.size = ie.size) (hn : n = css.length) (hsmall : n * ie.size ≤ 1000) (hpos : 0 < n * ie.size)
    (hx : (xs.map fun (i, x) => (i, a.eval x)).toList = (css.zipIdx 0).map fun x => (x.2, Value.agg x.1))
    (hw : Region.wanted ⟨dst, .buildSlice t n xs, T, pos, af, some gd⟩ (yielded ops a.tmps) = true)
    (h : wpList P ops Q rest (a.put dst (.slice (some ⟨w.heap.size, 0, none⟩) n n)) (w.alloc (.cells (css.flatMap Array.toList).toArray e))) :
    wpList P ops Q (⟨dst, .buildSlice t n xs, T, pos, af, some gd⟩ :: rest) a w := by
  refine BigFrame.wpList_want hw fun _ hK => ?_
  refine wp_buildSlice t e n _ rfl _ ie z hu hie hz (by omega) (by omega) ?_ (hK _ _ h)
  have ht : ∀ A : Array Value, A.toList.toArray = A := fun A => by simp
  have hf := fill_rows ie.size css 0 [] ((Array.range (n * ie.size)).map (z.cells[· % z.cells.size]!)).toList hsz (by simp [hn]) (by simp)
  rw [hx]
  rw [List.nil_append, ht] at hf
  rw [hf]
  simp
theorem arm_slice1_g {x0 : Operand}
    (e : TypeId) (ie : TypeInfo) (z : Value) (c0 : Array Value) (hu : P.underlying t = some (.slice e)) (hie : P.info? e = some ie) (hz : ie.zero = some z) (h0 : c0.size = ie.size) (hsmall : ie.size ≤ 300) (hpos : 0 < ie.size)
    (e0 : a.eval x0 = .agg c0) (hw : Region.wanted ⟨dst, .buildSlice t 1 #[(0, x0)], T, pos, af, some gd⟩ (yielded ops a.tmps) = true)
    (h : wpList P ops Q rest (a.put dst (.slice (some ⟨w.heap.size, 0, none⟩) 1 1)) (w.alloc (.cells ([c0].flatMap Array.toList).toArray e))) :
    wpList P ops Q (⟨dst, .buildSlice t 1 #[(0, x0)], T, pos, af, some gd⟩ :: rest) a w :=
  arm_slices_g e ie z [c0] hu hie hz (fun c hc => by rw [List.mem_singleton.1 hc]; exact h0) rfl (by omega) (by omega) (by simp [e0, List.zipIdx]) hw h
theorem arm_slice2_g {x0 x1 : Operand}
    (e : TypeId) (ie : TypeInfo) (z : Value) (c0 c1 : Array Value) (hu : P.underlying t = some (.slice e)) (hie : P.info? e = some ie) (hz : ie.zero = some z) (h0 : c0.size = ie.size) (h1 : c1.size = ie.size) (hsmall : ie.size ≤ 300) (hpos : 0 < ie.size)
    (e0 : a.eval x0 = .agg c0) (e1 : a.eval x1 = .agg c1) (hw : Region.wanted ⟨dst, .buildSlice t 2 #[(0, x0), (1, x1)], T, pos, af, some gd⟩ (yielded ops a.tmps) = true)
    (h : wpList P ops Q rest (a.put dst (.slice (some ⟨w.heap.size, 0, none⟩) 2 2)) (w.alloc (.cells ([c0, c1].flatMap Array.toList).toArray e))) :
    wpList P ops Q (⟨dst, .buildSlice t 2 #[(0, x0), (1, x1)], T, pos, af, some gd⟩ :: rest) a w :=
  arm_slices_g e ie z [c0, c1] hu hie hz (fun c hc => by
    simp only [List.mem_cons, List.not_mem_nil, or_false] at hc
    rcases hc with rfl | rfl
    · exact h0
    · exact h1) rfl (by omega) (by omega) (by simp [e0, e1, List.zipIdx]) hw h
end
end Go.Hoar
end
section
namespace Go.Hoar
open Go Go.RowKit
section
variable {P : Program} {ops : Array Oper} {Q : Exit → Act → World → Prop} {md : Region.Mode}
/-- How many have not come up yet. -/
def left (listed : Array Bool) : Nat := listed.toList.count false
theorem left_set {listed : Array Bool} {i : Nat} (h : listed.getD i true = false) : left (listed.setIfInBounds i true) + 1 = left listed := by
  have hi : i < listed.size := by
    rcases Nat.lt_or_ge i listed.size with h' | h'
    · exact h'
    · simp [Array.getElem?_eq_none h'] at h
  have hv : listed.toList[i]'(by simpa using hi) = false := by
    simp [hi] at h
    simpa using h
  unfold left
  rw [Array.toList_setIfInBounds, List.count_set (by simpa using hi), hv]
  have : 0 < listed.toList.count false := List.count_pos_iff.2 (hv ▸ List.getElem_mem _)
  rw [if_pos (by rfl), if_neg (by decide)]
  omega
theorem left_zero {listed : Array Bool} (h : left listed = 0) (i : Nat) (hi : i < listed.size) : listed.getD i true = true := by
  have := List.count_eq_zero.1 h
  rcases hb : listed.getD i true with _ | _
  · exfalso
    simp [hi] at hb
    exact this (hb ▸ Array.mem_toList_iff.2 (Array.getElem_mem hi))
  · rfl
theorem wpAny_until (D : Array Bool → Prop) (I : Array Bool → Act → World → Prop)
    (hstep : ∀ listed a w, I listed a w → ¬ D listed → ∀ i ∈ Region.ready md ops listed, wpOp P ops Q i (I (listed.setIfInBounds i true)) a w)
    (hstuck : ∀ listed a w, I listed a w → ¬ D listed → Region.ready md ops listed ≠ [])
    (hdone : ∀ listed a w, I listed a w → D listed → wpAny P md ops Q (left listed) listed a w) :
    ∀ fuel listed a w, left listed = fuel → I listed a w → wpAny P md ops Q fuel listed a w := by
  intro fuel
  induction fuel with
  | zero =>
    intro listed a w hl hI
    by_cases hD : D listed
    · have := hdone listed a w hI hD
      rwa [hl] at this
    · exfalso
      have hne := hstuck listed a w hI hD
      obtain ⟨i, hi⟩ := List.exists_mem_of_ne_nil _ hne
      have := left_set (mem_ready.1 hi).1
      omega
  | succ fuel ih =>
    intro listed a w hl hI
    by_cases hD : D listed
    · have := hdone listed a w hI hD
      rwa [hl] at this
    · refine ⟨fun h => absurd h (hstuck listed a w hI hD), fun i hi => wpOp_mono (fun a' w' h => ih _ a' w' ?_ h) (hstep listed a w hI hD i hi)⟩
      have := left_set (mem_ready.1 hi).1
      omega
/-- All edges lead back. -/
def backB (md : Region.Mode) (ops : Array Oper) : Bool := (List.range ops.size).all fun i => ((ops[i]?).map (·.after.all fun e => !Region.binds md e || decide (e.on < i))).getD false
theorem backB_spec (h : backB md ops = true) {i : Nat} {o : Oper} (ho : ops[i]? = some o) : ∀ e ∈ o.after, Region.binds md e = true → e.on < i := fun e he hb => by
  have hlt := (Array.getElem?_eq_some_iff.1 ho).1
  have := List.all_eq_true.1 h i (List.mem_range.2 hlt)
  rw [ho] at this
  simp only [Option.map_some, Option.getD_some, Array.all_eq_true_iff_forall_mem] at this
  have := this e he
  simpa [hb] using this
theorem ready_some (hb : backB md ops = true) {listed : Array Bool} (hs : listed.size = ops.size) : ∀ j, j < ops.size → listed.getD j true = false → Region.ready md ops listed ≠ [] := by
  intro j
  induction j using Nat.strongRecOn with
  | _ j ih =>
    intro hj hun h0
    have hnot : j ∉ Region.ready md ops listed := by rw [h0]; simp
    rw [mem_ready] at hnot
    apply hnot
    refine ⟨hun, ops[j], Array.getElem?_eq_getElem hj, fun e he hbi => ?_⟩
    have hlt := backB_spec hb (Array.getElem?_eq_getElem hj) e he hbi
    rcases hv : listed.getD e.on false with _ | _
    · exact absurd h0 (ih e.on hlt (by omega) (getD_in (by omega) hv))
    · rfl
/-- The slot that operation i writes. -/
def dstOf (ops : Array Oper) (i : Nat) : Option Tmp := (ops[i]?).bind (·.dst)
/-- What it has left there. -/
def opVal (ops : Array Oper) (i : Nat) (a : Act) : Value := match dstOf ops i with
  | some d => a.eval (.tmp d)
  | none => undef
/-- Is this slot written by one of the first n? -/
def headSlot (ops : Array Oper) (n : Nat) (t : Tmp) : Bool := (List.range n).any fun i => dstOf ops i == some t
/-- The slots that the first n write are each of its own. -/
def dstsB (ops : Array Oper) (n : Nat) : Bool := (List.range n).all fun i => (List.range n).all fun j => decide (i = j) || (dstOf ops i).isNone || dstOf ops i != dstOf ops j
theorem dstsB_spec {n : Nat} (h : dstsB ops n = true) {i j : Nat} (hi : i < n) (hj : j < n) (hij : i ≠ j) : dstOf ops i = none ∨ dstOf ops i ≠ dstOf ops j := by
  have := List.all_eq_true.1 (List.all_eq_true.1 h i (List.mem_range.2 hi)) j (List.mem_range.2 hj)
  simp only [hij, decide_false, Bool.false_or, Bool.or_eq_true, Option.isNone_iff_eq_none, bne_iff_ne] at this
  exact this
def slotsB (ops : Array Oper) (size : Nat) : Bool := (List.range ops.size).all fun i => match dstOf ops i with
  | some d => decide (d < size)
  | none => true
theorem slotsB_spec {size : Nat} (h : slotsB ops size = true) {i d : Nat} (hd : dstOf ops i = some d) : d < size := by
  have hi : i < ops.size := by
    unfold dstOf at hd
    obtain ⟨o, ho, _⟩ := Option.bind_eq_some_iff.1 hd
    exact (Array.getElem?_eq_some_iff.1 ho).1
  have := List.all_eq_true.1 h i (List.mem_range.2 hi)
  rw [hd] at this
  exact of_decide_eq_true this
/-- A frame that is a0 but for what the first n write. -/
structure Agree (ops : Array Oper) (n : Nat) (a0 a : Act) : Prop where
  size : a.tmps.size = a0.tmps.size
  defers : a.defers = a0.defers
  slots : ∀ t, headSlot ops n t = false → a.eval (.tmp t) = a0.eval (.tmp t)
theorem Agree.refl (n : Nat) (a : Act) : Agree ops n a a := ⟨rfl, rfl, fun _ _ => rfl⟩
theorem eval_put_self {a : Act} {d : Tmp} {v : Value} (h : d < a.tmps.size) : (a.put (some d) v).eval (.tmp d) = v := by
  simp [Act.put, Act.eval, h]
theorem eval_put_other {a : Act} {dst : Option Tmp} {v : Value} {t : Tmp} (h : dst ≠ some t) : (a.put dst v).eval (.tmp t) = a.eval (.tmp t) := by
  cases dst with
  | none => rfl
  | some d =>
    have : d ≠ t := fun e => h (e ▸ rfl)
    simp [Act.put, Act.eval, this]
theorem put_size {a : Act} {dst : Option Tmp} {v : Value} : (a.put dst v).tmps.size = a.tmps.size := by cases dst <;> simp [Act.put]
theorem put_defers {a : Act} {dst : Option Tmp} {v : Value} : (a.put dst v).defers = a.defers := by cases dst <;> rfl
theorem Agree.put {n i : Nat} {a0 a : Act} (h : Agree ops n a0 a) (hi : i < n) (v : Value) : Agree ops n a0 (a.put (dstOf ops i) v) :=
  ⟨put_size.trans h.size, put_defers.trans h.defers, fun t ht => by
    rw [eval_put_other (fun e => ?_), h.slots t ht]
    have : headSlot ops n t = true := List.any_eq_true.2 ⟨i, List.mem_range.2 hi, by simp [e]⟩
    rw [this] at ht
    cases ht⟩
variable (P ops Q) in
/-- One operation, from what those have left that it waits for. C: what holds all the time. N: what one operation does to the world. Φ i: what operation i leaves. -/
def OpOk (n : Nat) (a0 : Act) (C : World → Prop) (N : World → World → Prop) (Φ : Nat → Value → World → Prop) (fresh : Nat → Bool) (blk : Value → Option Nat) (i : Nat) (o : Oper) : Prop :=
  ∀ a w, C w → Agree ops n a0 a → (∀ j, Region.waitsFor .any ops i j = true → Φ j (opVal ops j a) w) →
    (Region.wanted o (yielded ops a.tmps) = true ∧ o.wp P a w (fun a' w' => ∃ v, a' = a.put o.dst v ∧ Φ i (if o.dst.isSome then v else undef) w' ∧ C w' ∧ N w w' ∧ (fresh i = true → ∀ g, blk v = some g → w.heap.size ≤ g)) Q) ∨
    (Region.wanted o (yielded ops a.tmps) = false ∧ Φ i undef w ∧ (fresh i = true → blk undef = none))
variable (P ops Q) in
def OpsOk (n : Nat) (a0 : Act) (C : World → Prop) (N : World → World → Prop) (Φ : Nat → Value → World → Prop) (fresh : Nat → Bool) (blk : Value → Option Nat) : Nat → List Oper → Prop
  | _, [] => True
  | k, o :: l => OpOk P ops Q n a0 C N Φ fresh blk k o ∧ OpsOk n a0 C N Φ fresh blk (k + 1) l
theorem OpsOk.get {n : Nat} {a0 : Act} {C : World → Prop} {N : World → World → Prop} {Φ : Nat → Value → World → Prop} {fresh : Nat → Bool} {blk : Value → Option Nat} : ∀ {l : List Oper} {k : Nat}, OpsOk P ops Q n a0 C N Φ fresh blk k l → ∀ i o, l[i]? = some o → OpOk P ops Q n a0 C N Φ fresh blk (k + i) o
  | [], _, _, _, _, h => by simp at h
  | x :: l, k, h, 0, o, ho => by
    simp only [List.getElem?_cons_zero, Option.some.injEq] at ho
    subst ho
    exact h.1
  | x :: l, k, h, i + 1, o, ho => by
    have := OpsOk.get h.2 i o (by simpa using ho)
    rwa [Nat.add_assoc, Nat.add_comm 1 i] at this
/-- What holds while the first n come up. -/
structure Mid (ops : Array Oper) (n : Nat) (a0 : Act) (C : World → Prop) (Φ : Nat → Value → World → Prop) (fresh : Nat → Bool) (blk : Value → Option Nat) (listed : Array Bool) (a : Act) (w : World) : Prop where
  head : HeadInv .any ops n listed
  agree : Agree ops n a0 a
  hold : C w
  facts : ∀ i, i < n → listed.getD i false = true → Φ i (opVal ops i a) w
  apart : ∀ i j, i < n → j < n → i ≠ j → listed.getD i false = true → listed.getD j false = true → fresh i = true → fresh j = true → ∀ g, blk (opVal ops i a) = some g → blk (opVal ops j a) ≠ some g
theorem getD_true_of {listed : Array Bool} {i j : Nat} (h : (listed.setIfInBounds i true).getD j false = true) : j = i ∨ listed.getD j false = true := by
  by_cases hij : i = j
  · exact .inl hij.symm
  · rw [getD_set_ne false hij] at h
    exact .inr h
theorem Mid.step {n : Nat} {a0 : Act} {C : World → Prop} {Φ : Nat → Value → World → Prop} {fresh : Nat → Bool} {blk : Value → Option Nat} {listed : Array Bool} {a : Act} {w w' : World} {i : Nat} {v : Value}
    (h : Mid ops n a0 C Φ fresh blk listed a w) (_hn : n ≤ ops.size) (hd : dstsB ops n = true) (hsl : ∀ d, dstOf ops i = some d → d < a0.tmps.size) (hi : i ∈ Region.ready .any ops listed) (hin : i < n)
    (hN : ∀ j, j < n → listed.getD j false = true → Φ j (opVal ops j a) w → Φ j (opVal ops j a) w')
    (hv : Φ i (if (dstOf ops i).isSome then v else undef) w') (hC : C w') (hfr : fresh i = true → (dstOf ops i).isSome = true → ∀ g, blk v = some g → w.heap.size ≤ g) (hnone : blk undef = none)
    (hold : ∀ j u W, j < n → Φ j u W → fresh j = true → ∀ g, blk u = some g → g < W.heap.size) :
    Mid ops n a0 C Φ fresh blk (listed.setIfInBounds i true) (a.put (dstOf ops i) v) w' := by
  have hself : opVal ops i (a.put (dstOf ops i) v) = if (dstOf ops i).isSome then v else undef := by
    unfold opVal
    cases hdi : dstOf ops i with
    | none => rfl
    | some d => simp only [Option.isSome_some, if_true]; exact eval_put_self (by rw [h.agree.size]; exact hsl d hdi)
  have hother : ∀ j, j < n → j ≠ i → opVal ops j (a.put (dstOf ops i) v) = opVal ops j a := fun j hj hji => by
    unfold opVal
    cases hdj : dstOf ops j with
    | none => rfl
    | some d =>
      refine eval_put_other fun e => ?_
      rcases dstsB_spec hd hin hj (Ne.symm hji) with k | k
      · rw [k] at e; cases e
      · exact k (e.trans hdj.symm)
  have hun : listed.getD i false = false := getD_both (mem_ready.1 hi).1
  refine ⟨h.head.set hi hin, h.agree.put hin v, hC, fun j hj hl => ?_, fun j k hj hk hjk hlj hlk hfj hfk g hg => ?_⟩
  · by_cases hji : j = i
    · subst hji
      rw [hself]
      exact hv
    · rw [hother j hj hji]
      have := (getD_true_of hl).resolve_left hji
      exact hN j hj this (h.facts j hj this)
  · have key : ∀ x, x < n → x ≠ i → (listed.setIfInBounds i true).getD x false = true → fresh x = true → fresh i = true → ∀ g, blk (opVal ops x a) = some g → blk (if (dstOf ops i).isSome then v else undef) ≠ some g := fun x hx hxi hlx hfx hfi g hg e => by
      have h1 := hold x _ w hx (h.facts x hx ((getD_true_of hlx).resolve_left hxi)) hfx g hg
      by_cases hs : (dstOf ops i).isSome = true
      · rw [if_pos hs] at e
        have := hfr hfi hs g e
        omega
      · rw [if_neg hs, hnone] at e
        cases e
    by_cases hji : j = i
    · subst hji
      rw [hself] at hg
      rw [hother k hk (Ne.symm hjk)]
      intro e
      exact key k hk (Ne.symm hjk) hlk hfk hfj g e hg
    · rw [hother j hj hji] at hg
      by_cases hki : k = i
      · subst hki
        rw [hself]
        exact key j hj hji hlj hfj hfk g hg
      · rw [hother k hk hki]
        exact h.apart j k hj hk hjk ((getD_true_of hlj).resolve_left hji) ((getD_true_of hlk).resolve_left hki) hfj hfk g hg
/-- A REGION THAT DRAWS ITS ORDER: its first n operations in any order, each by itself; the rest in the order of the text, from whatever those have left. -/
theorem wp_region_facts {id : Nat} {l : List Oper} {a0 : Act} {w : World} (n : Nat) (C : World → Prop) (N : World → World → Prop) (Φ : Nat → Value → World → Prop) (fresh : Nat → Bool) (blk : Value → Option Nat)
    (hm : P.follows .mixedOrders = true) (hn : n ≤ l.length) (hb : backB .any l.toArray = true) (hd : dstsB l.toArray n = true)
    (ht : n = l.length ∨ n < l.length ∧ Region.sinkB .any l.toArray n = true ∧ Region.chainB .any l.toArray n = true ∧ Region.seqB .any l.toArray (l.length - n) n ((Array.replicate n true) ++ (Array.replicate (l.length - n) false)) = true)
    (hslB : slotsB l.toArray a0.tmps.size = true) (hnone : blk undef = none)
    (hold : ∀ j u W, j < n → Φ j u W → fresh j = true → ∀ g, blk u = some g → g < W.heap.size)
    (hN : ∀ j u W W', j < n → C W → N W W' → Φ j u W → Φ j u W')
    (hC : C { w with drawn := w.drawn + 1 })
    (hops : OpsOk P l.toArray Q n a0 C N Φ fresh blk 0 (l.take n))
    (hrest : ∀ a W, Agree l.toArray n a0 a → C W → (∀ i, i < n → Φ i (opVal l.toArray i a) W) → (∀ i j, i < n → j < n → i ≠ j → fresh i = true → fresh j = true → ∀ g, blk (opVal l.toArray i a) = some g → blk (opVal l.toArray j a) ≠ some g) → wpList P l.toArray Q (l.drop n) a W) :
    (Code.region id l.toArray true).wp P Q a0 w := by
  have hsz : l.toArray.size = l.length := by simp
  have hsl : ∀ i d, dstOf l.toArray i = some d → d < a0.tmps.size := fun i d h => slotsB_spec hslB h
  refine wp_region_any hm (wpAny_until (D := fun listed => ∀ i, i < n → listed.getD i false = true) (I := Mid l.toArray n a0 C Φ fresh blk) ?_ ?_ ?_ _ _ _ _ ?_ ?_)
  · intro listed a W hI hD i hi
    obtain ⟨j, hj, hjf⟩ : ∃ j, j < n ∧ listed.getD j false = false := by
      apply Classical.byContradiction
      intro hcon
      exact hD fun i hi => by
        rcases hv : listed.getD i false with _ | _
        · exact absurd ⟨i, hi, hv⟩ hcon
        · rfl
    have hjt : listed.getD j true = false := getD_in (by rw [hI.head.size, hsz]; omega) hjf
    have hin : i < n := by
      apply Classical.byContradiction
      intro hge
      rcases ht with ht | ⟨hlt, hs, hc, _⟩
      · obtain ⟨_, o, ho, _⟩ := mem_ready.1 hi
        have := (Array.getElem?_eq_some_iff.1 ho).1
        rw [hsz] at this
        omega
      · exact tail_waits hs hc (by rw [hsz]; exact hlt) hI.head _ j rfl hj hjt i (by omega) hi
    obtain ⟨_, o, ho, hall⟩ := mem_ready.1 hi
    have hol : (l.take n)[i]? = some o := by
      rw [List.getElem?_take, if_pos hin]
      simpa using ho
    have hok := hops.get i o hol
    rw [Nat.zero_add] at hok
    have hdo : dstOf l.toArray i = o.dst := by unfold dstOf; rw [ho]; rfl
    have hdeps : ∀ j, Region.waitsFor .any l.toArray i j = true → Φ j (opVal l.toArray j a) W := fun j hw => by
      obtain ⟨o', ho', e, he, hbi, hej⟩ := Region.waitsFor_spec hw
      obtain rfl : o' = o := Option.some.inj (ho'.symm.trans ho)
      have hlj := hall e he hbi
      rw [hej] at hlj
      have := backB_spec hb ho e he hbi
      exact hI.facts j (by omega) hlj
    unfold wpOp
    rw [ho]
    rcases hok a W hI.hold hI.agree hdeps with ⟨hw, hwp⟩ | ⟨hw, hphi, hf⟩
    · show if Region.wanted o (yielded l.toArray a.tmps) = true then _ else _
      rw [if_pos hw]
      refine .inl (Oper.wp_mono ?_ hwp)
      rintro a' W' ⟨v, rfl, hphi, hCW, hNW, hfr⟩
      rw [← hdo]
      refine hI.step (by rw [hsz]; exact hn) hd (hsl i) hi hin (fun j hj _ h => hN j _ _ _ hj hI.hold hNW h) ?_ hCW (fun hf _ => hfr hf) hnone hold
      rw [hdo]
      exact hphi
    · show if Region.wanted o (yielded l.toArray a.tmps) = true then _ else _
      rw [if_neg (by rw [hw]; exact Bool.false_ne_true), ← hdo]
      refine hI.step (by rw [hsz]; exact hn) hd (hsl i) hi hin (fun j hj _ h => h) ?_ hI.hold (fun hf' _ g hg => by rw [hf hf'] at hg; cases hg) hnone hold
      split <;> exact hphi
  · intro listed a W hI hD
    obtain ⟨j, hj, hjf⟩ : ∃ j, j < n ∧ listed.getD j false = false := by
      apply Classical.byContradiction
      intro hcon
      exact hD fun i hi => by
        rcases hv : listed.getD i false with _ | _
        · exact absurd ⟨i, hi, hv⟩ hcon
        · rfl
    exact ready_some hb hI.head.size j (by rw [hsz]; omega) (getD_in (by rw [hI.head.size, hsz]; omega) hjf)
  · intro listed a W hI hD
    have hlist : listed = (Array.replicate n true) ++ (Array.replicate (l.length - n) false) := by
      apply Array.ext
      · rw [hI.head.size, hsz]; simp; omega
      · intro i h1 h2
        by_cases hin : i < n
        · have := hD i hin
          rw [Array.getD_eq_getD_getElem?, Array.getElem?_eq_getElem h1] at this
          simp only [Option.getD_some] at this
          rw [this, Array.getElem_append_left (by simpa using hin)]
          simp
        · have := hI.head.tail i (by omega) (by rw [← hI.head.size]; exact h1)
          rw [Array.getD_eq_getD_getElem?, Array.getElem?_eq_getElem h1] at this
          simp only [Option.getD_some] at this
          rw [this, Array.getElem_append_right (by simp; omega)]
          simp
    have hleft : left listed = (l.drop n).length := by
      rw [hlist]
      unfold left
      simp [List.count_replicate]
    rw [hleft]
    refine wpAny_of_seq (l.drop n) n listed a W (fun j => by simp [List.getElem?_drop]) ?_ (hrest a W hI.agree hI.hold (fun i hi => hI.facts i hi (hD i hi)) (fun i j hi hj hij => hI.apart i j hi hj hij (hD i hi) (hD j hj)))
    rw [hlist]
    rcases ht with ht | ⟨hlt, _, _, hq⟩
    · subst ht
      simp only [List.drop_length, List.length_nil, Region.seqB]
      rw [List.isEmpty_iff, ← hlist]
      apply List.eq_nil_iff_forall_not_mem.2
      intro i hi
      obtain ⟨h1, o, ho, _⟩ := mem_ready.1 hi
      have := (Array.getElem?_eq_some_iff.1 ho).1
      have h2 := hD i (by rw [hsz] at this; exact this)
      rw [getD_both h1] at h2
      cases h2
    · rw [List.length_drop]
      exact hq
  · unfold left
    simp
  · exact ⟨⟨by simp, fun j oj _ hl => (by rw [getD_replicate_false] at hl; cases hl), fun t _ ht => getD_in (by simpa using ht) (getD_replicate_false _ _)⟩, Agree.refl _ _, hC, fun i _ hl => (by rw [getD_replicate_false] at hl; cases hl), fun i j _ _ _ hl => (by rw [getD_replicate_false] at hl; cases hl)⟩
/-- A frame that agrees, written out. -/
theorem Agree.eq {n : Nat} {a0 a : Act} (h : Agree ops n a0 a) (ds : List Nat) (hds : (List.range a0.tmps.size).all (fun t => ds.contains t || !headSlot ops n t) = true) : a = ds.foldl (fun b d => b.put (some d) (a.eval (.tmp d))) a0 := by
  have key : ∀ (ds : List Nat) (b : Act), b.tmps.size = a.tmps.size → b.defers = a.defers → (∀ t, t < a.tmps.size → t ∉ ds → b.eval (.tmp t) = a.eval (.tmp t)) → a = ds.foldl (fun b d => b.put (some d) (a.eval (.tmp d))) b := by
    intro ds
    induction ds with
    | nil =>
      intro b hs hdf hb
      rcases a with ⟨at_, ad⟩
      rcases b with ⟨bt, bd⟩
      simp only at hs hdf hb
      subst hdf
      simp only [List.foldl_nil, Act.mk.injEq, and_true]
      refine Array.ext hs.symm fun i h1 h2 => ?_
      have := hb i h1 (by simp)
      simp only [Act.eval, Array.getD_eq_getD_getElem?, Array.getElem?_eq_getElem h1, Array.getElem?_eq_getElem h2, Option.getD_some] at this
      exact this.symm
    | cons d ds ih =>
      intro b hs hdf hb
      rw [List.foldl_cons]
      refine ih _ (put_size.trans hs) (put_defers.trans hdf) fun t ht hnt => ?_
      by_cases hdt : d = t
      · subst hdt
        exact eval_put_self (by rw [hs]; exact ht)
      · rw [eval_put_other (by simpa using hdt)]
        exact hb t ht (by simp [Ne.symm hdt, hnt])
  refine key ds a0 h.size.symm h.defers.symm fun t ht hnt => (h.slots t ?_).symm
  have := List.all_eq_true.1 hds t (List.mem_range.2 (by rw [← h.size]; exact ht))
  simpa [hnt] using this
theorem opw_value {o : Oper} {a : Act} {w w' : World} {K : Act → World → Prop} {v : Value} (h : (execOp a.eval o).run P w = .ok (.value v) w') (hk : K (a.put o.dst v) w') : o.wp P a w K Q := by
  unfold Oper.wp
  rw [h]
  exact hk
variable {n i : Nat} {a0 : Act} {C : World → Prop} {N : World → World → Prop} {Φ : Nat → Value → World → Prop} {fresh : Nat → Bool} {blk : Value → Option Nat}
/-- An operation that is no call. -/
theorem ok_run {o : Oper} (hg : o.guard = none) (h : ∀ a w, C w → Agree ops n a0 a → (∀ j, Region.waitsFor .any ops i j = true → Φ j (opVal ops j a) w) →
    ∃ v w', (execOp a.eval o).run P w = .ok (.value v) w' ∧ Φ i (if o.dst.isSome then v else undef) w' ∧ C w' ∧ N w w' ∧ (fresh i = true → ∀ g, blk v = some g → w.heap.size ≤ g)) : OpOk P ops Q n a0 C N Φ fresh blk i o := fun a w hC hA hd => by
  obtain ⟨v, w', hr, h1, h2, h3, h4⟩ := h a w hC hA hd
  refine .inl ⟨by simp [Region.wanted, hg], opw_value hr ⟨v, rfl, h1, h2, h3, h4⟩⟩
theorem run_callFunc_go {f : FuncId} (hf : ((P.funcs[f]?).map fun fn => fn.name != "runtime.NumGoroutine" && fn.body.isSome) = some true) (args : Array Value) (w : World) : (callFunc f args).run P w = .ok (.enter f args) w := by
  cases h : P.funcs[f]? with
  | none => rw [h] at hf; cases hf
  | some fn =>
    rw [h] at hf
    simp only [Option.map_some, Option.some.injEq, Bool.and_eq_true, bne_iff_ne, ne_eq] at hf
    have h2 : fn.body.isNone = false := by
      rcases hb : fn.body with _ | b
      · rw [hb] at hf; simp at hf
      · rfl
    simp [callFunc, Sem.run_bind, h, hf.1]
    intro hnone
    rw [hnone] at h2
    cases h2
/-- A call of a function that the text names. -/
theorem ok_call {d : Tmp} {f : FuncId} {xs : Array Operand} {ats : Array TypeId} {T : TypeId} {pos : String} {af : Array Edge} (hf : ((P.funcs[f]?).map fun fn => fn.name != "runtime.NumGoroutine" && fn.body.isSome) = some true) (h : ∀ a w, C w → Agree ops n a0 a → (∀ j, Region.waitsFor .any ops i j = true → Φ j (opVal ops j a) w) →
    ∃ args, xs.map a.eval = args ∧ Calls P f args w fun e w' => ∃ v, e = .returned v ∧ Φ i v w' ∧ C w' ∧ N w w' ∧ (fresh i = true → ∀ g, blk v = some g → w.heap.size ≤ g)) :
    OpOk P ops Q n a0 C N Φ fresh blk i ⟨some d, .call { callee := .value (.func f), args := xs, argTypes := ats }, T, pos, af, none⟩ := fun a w hC hA hd => by
  obtain ⟨args, hargs, hc⟩ := h a w hC hA hd
  refine .inl ⟨rfl, ?_⟩
  unfold Oper.wp
  rw [execOp_call_go, hargs]
  simp only [Array.empty_append, Array.append_empty]
  rw [run_callFunc_go hf]
  refine Calls.mono hc ?_
  rintro e w' ⟨v, rfl, h1, h2, h3, h4⟩
  exact ⟨v, rfl, h1, h2, h3, h4⟩
end
end Go.Hoar
end
section
namespace Go.Proofs.YtffdkniahdekjaaDoor
open Go.RowKit Go.Hoar
set_option maxRecDepth 100000 in
set_option maxHeartbeats 3000000 in
theorem tk4 (g off cap n : Nat) (h b : List Nat) (w0 : World) (Q : Exit → Act → World → Prop) (hh : h.length = 8) (hhw : Sha.Words h) (hbl : Sha.Bytes b) (_hb : BytesAt w0 g off 64 b) (_hgn : g < n) (zs : Array Value) (hz : zs.size = 8) (hQ : TakEnds n w0 (w8 (Sha.take h b)) Q) (U : World) (hB : Below n w0 U) (hn : n ≤ w0.heap.size) (hs : U.heap.size = n + 3) (hH : Has U n 31 (w8 h)) (hR : Has U (n + 1) 31 zs) (hW : Has U (n + 2) 151 (arr64 (Sha.sched b 64)))
    (s3 s6 s7 s8 s9 s10 s11 s12 s13 s14 s15 s16 s17 s18 s19 s20 s21 s22 s23 s24 s25 s26 s27 s28 s29 s30 s31 s32 s33 s34 s35 s36 s37 s38 s39 s40 s41 s42 s43 s44 s45 s46 s47 s48 s49 s50 s51 s52 s53 s54 s55 s56 s57 s58 s59 s60 s61 s62 s63 s64 s65 s66 s67 s68 s69 s70 s71 s72 s73 s74 s75 s76 s77 s78 s79 s80 s81 s82 s83 s84 s85 s86 s87 s88 s89 s90 s91 s92 s93 s94 s95 s96 s97 s98 s99 s100 s101 s102 s103 s104 s105 s106 s107 s108 s109 s110 s111 s112 s113 s114 s115 s116 s117 s118 s119 s120 s121 s122 s123 s124 s125 s126 s127 s128 s129 s130 s131 s132 s133 s134 s135 s136 s137 s138 s139 s140 s141 s142 s143 s144 s145 s146 s147 s148 s149 s150 s151 s152 s153 s154 s155 s156 s157 s158 s159 s160 s161 s162 s163 s164 s165 s166 s167 s168 s169 s170 s171 s172 s173 s174 s175 s176 s177 s178 s179 s180 s181 s182 : Value) : Code.wp Tryd.prog (takTail 4) Q ⟨#[.agg (w8 h), .slice (some ⟨g, off, none⟩) 64 cap, .pointer (some ⟨n, 0, none⟩), s3, .pointer (some ⟨n + 1, 0, none⟩), .pointer (some ⟨n + 2, 0, none⟩), s6, s7, s8, s9, s10, s11, s12, s13, s14, s15, s16, s17, s18, s19, s20, s21, s22, s23, s24, s25, s26, s27, s28, s29, s30, s31, s32, s33, s34, s35, s36, s37, s38, s39, s40, s41, s42, s43, s44, s45, s46, s47, s48, s49, s50, s51, s52, s53, s54, s55, s56, s57, s58, s59, s60, s61, s62, s63, s64, s65, s66, s67, s68, s69, s70, s71, s72, s73, s74, s75, s76, s77, s78, s79, s80, s81, s82, s83, s84, s85, s86, s87, s88, s89, s90, s91, s92, s93, s94, s95, s96, s97, s98, s99, s100, s101, s102, s103, s104, s105, s106, s107, s108, s109, s110, s111, s112, s113, s114, s115, s116, s117, s118, s119, s120, s121, s122, s123, s124, s125, s126, s127, s128, s129, s130, s131, s132, s133, s134, s135, s136, s137, s138, s139, s140, s141, s142, s143, s144, s145, s146, s147, s148, s149, s150, s151, s152, s153, s154, s155, s156, s157, s158, s159, s160, s161, s162, s163, s164, s165, s166, s167, s168, s169, s170, s171, s172, s173, s174, s175, s176, s177, s178, s179, s180, s181, s182], []⟩ U := by
  have HI := Lib.hid (w8_info h hh)
  have HO := Lib.hid (w8_one h)
  have HZ : Hid ((#[.int .u32 0, .int .u32 0, .int .u32 0, .int .u32 0, .int .u32 0, .int .u32 0, .int .u32 0, .int .u32 0] : Array Value).size = (w8 h).size) := Lib.hid (by rw [w8_size _ hh]; rfl)
  have HF : Hid (Has (U.alloc (.cells #[.int .u32 0, .int .u32 0, .int .u32 0, .int .u32 0, .int .u32 0, .int .u32 0, .int .u32 0, .int .u32 0] 31)) (n + 3) 31 #[.int .u32 0, .int .u32 0, .int .u32 0, .int .u32 0, .int .u32 0, .int .u32 0, .int .u32 0, .int .u32 0]) := Lib.hid (Has.fresh_at _ _ _ _ hs.symm)
  have HB := Lib.hid hB
  have HH := Lib.hid hH
  have HR := Lib.hid hR
  have HW := Lib.hid hW
  have HH2 := Lib.hid (hH.alloc (.cells #[.int .u32 0, .int .u32 0, .int .u32 0, .int .u32 0, .int .u32 0, .int .u32 0, .int .u32 0, .int .u32 0] 31))
  conv => arg 2; whnf
  apply wp_seq_k
  intro K hK
  have hK2 : ∀ (s3 s6 s7 s8 s9 s10 s12 s13 s14 s15 s16 s17 s18 s19 s20 s21 s22 s23 s24 s25 s26 s27 s28 s29 s30 s31 s32 s33 s34 s35 s36 s37 s38 s39 s40 s41 s42 s43 s44 s45 s46 s47 s48 s49 s50 s51 s52 s53 s54 s55 s56 s57 s58 s59 s60 s61 s62 s63 s64 s65 s66 s67 s68 s69 s70 s71 s72 s73 s74 s75 s76 s77 s78 s79 s80 s81 s82 s83 s84 s85 s86 s87 s88 s89 s90 s91 s92 s93 s94 s95 s96 s97 s98 s99 s100 s101 s102 s103 s104 s105 s106 s107 s108 s109 s110 s111 s112 s113 s114 s115 s116 s117 s118 s119 s120 s121 s122 s123 s124 s125 s126 s127 s128 s129 s130 s131 s132 s133 s134 s135 s136 s137 s138 s139 s140 s141 s142 s143 s144 s145 s146 s147 s148 s149 s150 s151 s152 s153 s154 s155 s156 s157 s158 s159 s160 s161 s162 s163 s164 s165 s166 s167 s168 s169 s170 s171 s172 s173 s174 s175 s176 s177 s178 s179 s180 s181 s182 : Value) (W : World) (hx : Below n w0 W ∧ Has W n 31 (w8 h) ∧ Has W (n + 1) 31 zs ∧ Has W (n + 2) 151 (arr64 (Sha.sched b 64)) ∧ Has W (n + 3) 31 (w8 h)), K ⟨#[.agg (w8 h), .slice (some ⟨g, off, none⟩) 64 cap, .pointer (some ⟨n, 0, none⟩), s3, .pointer (some ⟨n + 1, 0, none⟩), .pointer (some ⟨n + 2, 0, none⟩), s6, s7, s8, s9, s10, .pointer (some ⟨n + 3, 0, none⟩), s12, s13, s14, s15, s16, s17, s18, s19, s20, s21, s22, s23, s24, s25, s26, s27, s28, s29, s30, s31, s32, s33, s34, s35, s36, s37, s38, s39, s40, s41, s42, s43, s44, s45, s46, s47, s48, s49, s50, s51, s52, s53, s54, s55, s56, s57, s58, s59, s60, s61, s62, s63, s64, s65, s66, s67, s68, s69, s70, s71, s72, s73, s74, s75, s76, s77, s78, s79, s80, s81, s82, s83, s84, s85, s86, s87, s88, s89, s90, s91, s92, s93, s94, s95, s96, s97, s98, s99, s100, s101, s102, s103, s104, s105, s106, s107, s108, s109, s110, s111, s112, s113, s114, s115, s116, s117, s118, s119, s120, s121, s122, s123, s124, s125, s126, s127, s128, s129, s130, s131, s132, s133, s134, s135, s136, s137, s138, s139, s140, s141, s142, s143, s144, s145, s146, s147, s148, s149, s150, s151, s152, s153, s154, s155, s156, s157, s158, s159, s160, s161, s162, s163, s164, s165, s166, s167, s168, s169, s170, s171, s172, s173, s174, s175, s176, s177, s178, s179, s180, s181, s182], []⟩ W := fun s3 s6 s7 s8 s9 s10 s12 s13 s14 s15 s16 s17 s18 s19 s20 s21 s22 s23 s24 s25 s26 s27 s28 s29 s30 s31 s32 s33 s34 s35 s36 s37 s38 s39 s40 s41 s42 s43 s44 s45 s46 s47 s48 s49 s50 s51 s52 s53 s54 s55 s56 s57 s58 s59 s60 s61 s62 s63 s64 s65 s66 s67 s68 s69 s70 s71 s72 s73 s74 s75 s76 s77 s78 s79 s80 s81 s82 s83 s84 s85 s86 s87 s88 s89 s90 s91 s92 s93 s94 s95 s96 s97 s98 s99 s100 s101 s102 s103 s104 s105 s106 s107 s108 s109 s110 s111 s112 s113 s114 s115 s116 s117 s118 s119 s120 s121 s122 s123 s124 s125 s126 s127 s128 s129 s130 s131 s132 s133 s134 s135 s136 s137 s138 s139 s140 s141 s142 s143 s144 s145 s146 s147 s148 s149 s150 s151 s152 s153 s154 s155 s156 s157 s158 s159 s160 s161 s162 s163 s164 s165 s166 s167 s168 s169 s170 s171 s172 s173 s174 s175 s176 s177 s178 s179 s180 s181 s182 W hx => hK _ _ (tk5 g off cap n h _ w0 Q hh hhw (Sha.sched_length b 64) (Sha.sched_words hbl 64) zs hz (by rw [Sha.take] at hQ; exact hQ) W hx.1 hn hx.2.1 hx.2.2.1 hx.2.2.2.1 hx.2.2.2.2 s3 s6 s7 s8 s9 s10 s12 s13 s14 s15 s16 s17 s18 s19 s20 s21 s22 s23 s24 s25 s26 s27 s28 s29 s30 s31 s32 s33 s34 s35 s36 s37 s38 s39 s40 s41 s42 s43 s44 s45 s46 s47 s48 s49 s50 s51 s52 s53 s54 s55 s56 s57 s58 s59 s60 s61 s62 s63 s64 s65 s66 s67 s68 s69 s70 s71 s72 s73 s74 s75 s76 s77 s78 s79 s80 s81 s82 s83 s84 s85 s86 s87 s88 s89 s90 s91 s92 s93 s94 s95 s96 s97 s98 s99 s100 s101 s102 s103 s104 s105 s106 s107 s108 s109 s110 s111 s112 s113 s114 s115 s116 s117 s118 s119 s120 s121 s122 s123 s124 s125 s126 s127 s128 s129 s130 s131 s132 s133 s134 s135 s136 s137 s138 s139 s140 s141 s142 s143 s144 s145 s146 s147 s148 s149 s150 s151 s152 s153 s154 s155 s156 s157 s158 s159 s160 s161 s162 s163 s164 s165 s166 s167 s168 s169 s170 s171 s172 s173 s174 s175 s176 s177 s178 s179 s180 s181 s182)
  clear hK hB hH hR hW hQ
  go_wp2_with (first | ((with_reducible refine arm_load ⟨n, 0, none⟩ (w8 h) _ HH.out.row Tryd.underlying31 HI.out ?h1 ?h2 ?_); (case h1 => rfl); (case h2 => rfl)) | ((with_reducible refine arm_store (n + 3) (w8 h) _ _ HF.out HZ.out HI.out HO.out ?h5 ?h6 ?_); (case h5 => rfl); (case h6 => rfl)))
  exact ⟨below_setRow (HB.out.alloc (by omega) _) (by omega) _, (HH.out.alloc _).setRow_apart (by omega), (HR.out.alloc _).setRow_apart (by omega), (HW.out.alloc _).setRow_apart (by omega), HF.out.setRow⟩
def opsIn (n : Nat) : Code → Option (Array Oper)
  | .region m ops _ => if m = n then some ops else none
  | .seq a b => match opsIn n a with
    | some r => some r
    | none => opsIn n b
  | .cond _ a b => match opsIn n a with
    | some r => some r
    | none => opsIn n b
  | .block _ c => opsIn n c
  | .loop c => opsIn n c
  | .scope c => opsIn n c
  | _ => none
theorem size_put {w : World} {n : Nat} (h : w.heap.size = n) (q : Nat) (a : Addr) (v : Value) : ((w.drewN q).setCell a v).heap.size = n := by
  rw [← h]
  show ((w.drewN q).heap.modify _ _).size = _
  rw [Array.size_modify]
  rfl
theorem next_val (a b c d : Nat) : IntKind.u32.wrap (IntKind.u32.wrap (IntKind.u32.wrap ((a : Int) + (b : Int)) + (c : Int)) + (d : Int)) = ((Sha.add (Sha.add (Sha.add a b) c) d : Nat) : Int) := by
  have h : ∀ x y : Nat, IntKind.u32.wrap ((x : Int) + (y : Int)) = ((Sha.add x y : Nat) : Int) := fun x y => by
    rw [← add_cast]
    rfl
  rw [h, h, h]
noncomputable def takOps : Array Oper := (Tryd.f92.body.bind (opsIn 13)).getD #[]
set_option maxRecDepth 100000 in
set_option maxHeartbeats 3000000 in
theorem tk3 (g off cap n : Nat) (h b : List Nat) (w0 : World) (Q : Exit → Act → World → Prop) (hh : h.length = 8) (hhw : Sha.Words h) (hbl : Sha.Bytes b) (hb : BytesAt w0 g off 64 b) (hgn : g < n) (zs : Array Value) (hz : zs.size = 8) (hQ : TakEnds n w0 (w8 (Sha.take h b)) Q) (U : World) (hB : Below n w0 U) (hn : n ≤ w0.heap.size) (hs : U.heap.size = n + 3) (hH : Has U n 31 (w8 h)) (hR : Has U (n + 1) 31 zs) (hW : Has U (n + 2) 151 (arr64 (Sha.sched b 16)))
    (s3 s6 s7 s8 s9 s10 s11 s12 s13 s14 s15 s16 s17 s18 s19 s20 s21 s22 s23 s24 s25 s26 s27 s28 s29 s30 s31 s32 s33 s34 s35 s36 s37 s38 s39 s40 s41 s42 s43 s44 s45 s46 s47 s48 s49 s50 s51 s52 s53 s54 s55 s56 s57 s58 s59 s60 s61 s62 s63 s64 s65 s66 s67 s68 s69 s70 s71 s72 s73 s74 s75 s76 s77 s78 s79 s80 s81 s82 s83 s84 s85 s86 s87 s88 s89 s90 s91 s92 s93 s94 s95 s96 s97 s98 s99 s100 s101 s102 s103 s104 s105 s106 s107 s108 s109 s110 s111 s112 s113 s114 s115 s116 s117 s118 s119 s120 s121 s122 s123 s124 s125 s126 s127 s128 s129 s130 s131 s132 s133 s134 s135 s136 s137 s138 s139 s140 s141 s142 s143 s144 s145 s146 s147 s148 s149 s150 s151 s152 s153 s154 s155 s156 s157 s158 s159 s160 s161 s162 s163 s164 s165 s166 s167 s168 s169 s170 s171 s172 s173 s174 s175 s176 s177 s178 s179 s180 s181 s182 : Value) : Code.wp Tryd.prog (takTail 3) Q ⟨#[.agg (w8 h), .slice (some ⟨g, off, none⟩) 64 cap, .pointer (some ⟨n, 0, none⟩), s3, .pointer (some ⟨n + 1, 0, none⟩), .pointer (some ⟨n + 2, 0, none⟩), s6, s7, s8, s9, s10, s11, s12, s13, s14, s15, s16, s17, s18, s19, s20, s21, s22, s23, s24, s25, s26, s27, s28, s29, s30, s31, s32, s33, s34, s35, s36, s37, s38, s39, s40, s41, s42, s43, s44, s45, s46, s47, s48, s49, s50, s51, s52, s53, s54, s55, s56, s57, s58, s59, s60, s61, s62, s63, s64, s65, s66, s67, s68, s69, s70, s71, s72, s73, s74, s75, s76, s77, s78, s79, s80, s81, s82, s83, s84, s85, s86, s87, s88, s89, s90, s91, s92, s93, s94, s95, s96, s97, s98, s99, s100, s101, s102, s103, s104, s105, s106, s107, s108, s109, s110, s111, s112, s113, s114, s115, s116, s117, s118, s119, s120, s121, s122, s123, s124, s125, s126, s127, s128, s129, s130, s131, s132, s133, s134, s135, s136, s137, s138, s139, s140, s141, s142, s143, s144, s145, s146, s147, s148, s149, s150, s151, s152, s153, s154, s155, s156, s157, s158, s159, s160, s161, s162, s163, s164, s165, s166, s167, s168, s169, s170, s171, s172, s173, s174, s175, s176, s177, s178, s179, s180, s181, s182], []⟩ U := by
  conv => arg 2; whnf
  apply wp_seq_k
  intro K hK
  have hK2 : ∀ (s3 s6 s7 s8 s9 s10 s11 s12 s13 s14 s15 s16 s17 s18 s19 s20 s21 s22 s23 s24 s25 s26 s27 s28 s29 s30 s31 s32 s33 s34 s35 s36 s37 s38 s39 s40 s41 s42 s43 s44 s45 s46 s47 s48 s49 s50 s51 s52 s53 s54 s55 s56 s57 s58 s59 s60 s61 s62 s63 s64 s65 s66 s67 s68 s69 s70 s71 s72 s73 s74 s75 s76 s77 s78 s79 s80 s81 s82 s83 s84 s85 s86 s87 s88 s89 s90 s91 s92 s93 s94 s95 s96 s97 s98 s99 s100 s101 s102 s103 s104 s105 s106 s107 s108 s109 s110 s111 s112 s113 s114 s115 s116 s117 s118 s119 s120 s121 s122 s123 s124 s125 s126 s127 s128 s129 s130 s131 s132 s133 s134 s135 s136 s137 s138 s139 s140 s141 s142 s143 s144 s145 s146 s147 s148 s149 s150 s151 s152 s153 s154 s155 s156 s157 s158 s159 s160 s161 s162 s163 s164 s165 s166 s167 s168 s169 s170 s171 s172 s173 s174 s175 s176 s177 s178 s179 s180 s181 s182 : Value) (W : World) (hx : Below n w0 W ∧ W.heap.size = n + 3 ∧ Has W n 31 (w8 h) ∧ Has W (n + 1) 31 zs ∧ Has W (n + 2) 151 (arr64 (Sha.sched b 64))), K ⟨#[.agg (w8 h), .slice (some ⟨g, off, none⟩) 64 cap, .pointer (some ⟨n, 0, none⟩), s3, .pointer (some ⟨n + 1, 0, none⟩), .pointer (some ⟨n + 2, 0, none⟩), s6, s7, s8, s9, s10, s11, s12, s13, s14, s15, s16, s17, s18, s19, s20, s21, s22, s23, s24, s25, s26, s27, s28, s29, s30, s31, s32, s33, s34, s35, s36, s37, s38, s39, s40, s41, s42, s43, s44, s45, s46, s47, s48, s49, s50, s51, s52, s53, s54, s55, s56, s57, s58, s59, s60, s61, s62, s63, s64, s65, s66, s67, s68, s69, s70, s71, s72, s73, s74, s75, s76, s77, s78, s79, s80, s81, s82, s83, s84, s85, s86, s87, s88, s89, s90, s91, s92, s93, s94, s95, s96, s97, s98, s99, s100, s101, s102, s103, s104, s105, s106, s107, s108, s109, s110, s111, s112, s113, s114, s115, s116, s117, s118, s119, s120, s121, s122, s123, s124, s125, s126, s127, s128, s129, s130, s131, s132, s133, s134, s135, s136, s137, s138, s139, s140, s141, s142, s143, s144, s145, s146, s147, s148, s149, s150, s151, s152, s153, s154, s155, s156, s157, s158, s159, s160, s161, s162, s163, s164, s165, s166, s167, s168, s169, s170, s171, s172, s173, s174, s175, s176, s177, s178, s179, s180, s181, s182], []⟩ W := fun s3 s6 s7 s8 s9 s10 s11 s12 s13 s14 s15 s16 s17 s18 s19 s20 s21 s22 s23 s24 s25 s26 s27 s28 s29 s30 s31 s32 s33 s34 s35 s36 s37 s38 s39 s40 s41 s42 s43 s44 s45 s46 s47 s48 s49 s50 s51 s52 s53 s54 s55 s56 s57 s58 s59 s60 s61 s62 s63 s64 s65 s66 s67 s68 s69 s70 s71 s72 s73 s74 s75 s76 s77 s78 s79 s80 s81 s82 s83 s84 s85 s86 s87 s88 s89 s90 s91 s92 s93 s94 s95 s96 s97 s98 s99 s100 s101 s102 s103 s104 s105 s106 s107 s108 s109 s110 s111 s112 s113 s114 s115 s116 s117 s118 s119 s120 s121 s122 s123 s124 s125 s126 s127 s128 s129 s130 s131 s132 s133 s134 s135 s136 s137 s138 s139 s140 s141 s142 s143 s144 s145 s146 s147 s148 s149 s150 s151 s152 s153 s154 s155 s156 s157 s158 s159 s160 s161 s162 s163 s164 s165 s166 s167 s168 s169 s170 s171 s172 s173 s174 s175 s176 s177 s178 s179 s180 s181 s182 W hx => hK _ _ (tk4 g off cap n h b w0 Q hh hhw hbl hb hgn zs hz hQ W hx.1 hn hx.2.1 hx.2.2.1 hx.2.2.2.1 hx.2.2.2.2 s3 s6 s7 s8 s9 s10 s11 s12 s13 s14 s15 s16 s17 s18 s19 s20 s21 s22 s23 s24 s25 s26 s27 s28 s29 s30 s31 s32 s33 s34 s35 s36 s37 s38 s39 s40 s41 s42 s43 s44 s45 s46 s47 s48 s49 s50 s51 s52 s53 s54 s55 s56 s57 s58 s59 s60 s61 s62 s63 s64 s65 s66 s67 s68 s69 s70 s71 s72 s73 s74 s75 s76 s77 s78 s79 s80 s81 s82 s83 s84 s85 s86 s87 s88 s89 s90 s91 s92 s93 s94 s95 s96 s97 s98 s99 s100 s101 s102 s103 s104 s105 s106 s107 s108 s109 s110 s111 s112 s113 s114 s115 s116 s117 s118 s119 s120 s121 s122 s123 s124 s125 s126 s127 s128 s129 s130 s131 s132 s133 s134 s135 s136 s137 s138 s139 s140 s141 s142 s143 s144 s145 s146 s147 s148 s149 s150 s151 s152 s153 s154 s155 s156 s157 s158 s159 s160 s161 s162 s163 s164 s165 s166 s167 s168 s169 s170 s171 s172 s173 s174 s175 s176 s177 s178 s179 s180 s181 s182)
  clear hK
  go_wp2
  go_loopw [8] (fun i wr => ∃ k : Nat, 16 ≤ k ∧ k ≤ 64 ∧ i = .int .i64 k ∧ Below n w0 wr ∧ wr.heap.size = n + 3 ∧ Has wr n 31 (w8 h) ∧ Has wr (n + 1) 31 zs ∧ Has wr (n + 2) 151 (arr64 (Sha.sched b k))) (fun i _ => 64 - (intOf i).toNat)
  case atStart => exact ⟨16, by omega, by omega, rfl, hB, hs, hH, hR, hW⟩
  case round =>
    obtain ⟨k, hge, hk, rfl, hB2, hs2, hH2, hR2, hW2⟩ := hrel
    have HK := Lib.hid hK2
    clear hK2 hB hH hR hW hs
    by_cases hlt : k < 64
    · have hlen := Sha.sched_length b k
      have hwords := Sha.sched_words hbl k
      have c15 : wr.cell? ⟨n + 2, k - 15, none⟩ = some (.int .u32 (((Sha.sched b k).getD (k - 15) 0 : Nat) : Int)) := by rw [hW2.cell]; exact arr64_get _ _ (by omega)
      have c2 : wr.cell? ⟨n + 2, k - 2, none⟩ = some (.int .u32 (((Sha.sched b k).getD (k - 2) 0 : Nat) : Int)) := by rw [hW2.cell]; exact arr64_get _ _ (by omega)
      have c16 : wr.cell? ⟨n + 2, k - 16, none⟩ = some (.int .u32 (((Sha.sched b k).getD (k - 16) 0 : Nat) : Int)) := by rw [hW2.cell]; exact arr64_get _ _ (by omega)
      have c7 : wr.cell? ⟨n + 2, k - 7, none⟩ = some (.int .u32 (((Sha.sched b k).getD (k - 7) 0 : Nat) : Int)) := by rw [hW2.cell]; exact arr64_get _ _ (by omega)
      have hold : wr.cell? ⟨n + 2, k, none⟩ = some (.int .u32 0) := by
        rw [hW2.cell]
        have := arr64_end (Sha.sched b k) (by omega)
        rwa [hlen] at this
      have hfree := hW2.free k
      have l15 := Sha.getD_lt hwords (by decide) (k - 15)
      have l2 := Sha.getD_lt hwords (by decide) (k - 2)
      have hnext : Sha.next (Sha.sched b k) k = Sha.add (Sha.add (Sha.add ((Sha.sched b k).getD (k - 16) 0) ((Sha.sched b k).getD (k - 7) 0)) (Sha.late ((Sha.sched b k).getD (k - 15) 0))) (Sha.soon ((Sha.sched b k).getD (k - 2) 0)) := by unfold Sha.next; exact Eq.refl _
      generalize (Sha.sched b k).getD (k - 15) 0 = y15 at *
      generalize (Sha.sched b k).getD (k - 2) 0 = y2 at *
      generalize (Sha.sched b k).getD (k - 16) 0 = y16 at *
      generalize (Sha.sched b k).getD (k - 7) 0 = y7 at *
      have HN := Lib.hid hnext
      have i16 : IntKind.i64.wrap ((k : Int) - 16) = (k : Int) - 16 := IntWalk.i64_in _ (by omega)
      have i15 : IntKind.i64.wrap ((k : Int) - 15) = (k : Int) - 15 := IntWalk.i64_in _ (by omega)
      have i7 : IntKind.i64.wrap ((k : Int) - 7) = (k : Int) - 7 := IntWalk.i64_in _ (by omega)
      have i2 : IntKind.i64.wrap ((k : Int) - 2) = (k : Int) - 2 := IntWalk.i64_in _ (by omega)
      have j16 : (0 : Int) ≤ (k : Int) - 16 := by omega
      have j15 : (0 : Int) ≤ (k : Int) - 15 := by omega
      have j7 : (0 : Int) ≤ (k : Int) - 7 := by omega
      have j2 : (0 : Int) ≤ (k : Int) - 2 := by omega
      have b16 : (16 : Int) ≤ (k : Int) := by omega
      have b15 : (15 : Int) ≤ (k : Int) := by omega
      have b7 : (7 : Int) ≤ (k : Int) := by omega
      have b2 : (2 : Int) ≤ (k : Int) := by omega
      have v16 : (k : Int) - 16 < 64 := by omega
      have v15 : (k : Int) - 15 < 64 := by omega
      have v7 : (k : Int) - 7 < 64 := by omega
      have v2 : (k : Int) - 2 < 64 := by omega
      have n16 : ((k : Int) - 16).toNat = k - 16 := by omega
      have n15 : ((k : Int) - 15).toNat = k - 15 := by omega
      have n7 : ((k : Int) - 7).toNat = k - 7 := by omega
      have n2 : ((k : Int) - 2).toNat = k - 2 := by omega
      have HB := Lib.hid hB2
      have HH := Lib.hid hH2
      have HR := Lib.hid hR2
      have HW := Lib.hid hW2
      have HZ := Lib.hid hs2
      have H16 := Lib.hid c16
      have H7 := Lib.hid c7
      have HL := Lib.hid hold
      have HE := Lib.hid hfree
      clear hB2 hH2 hR2 hW2 hs2 c16 c7 hold hfree hlen hwords hnext hb
      go_wp2
      go_quiet (fail)
      go_upto_region 13 with (fail)
      refine gen_world (P := fun W => Code.wp _ _ _ _ W) (I := fun W => ∃ q, W = wr.drewN q) _ ⟨_, rfl⟩ ?_
      rintro W ⟨q, hq⟩
      have d16 : Hid (W.cell? ⟨n + 2, k - 16, none⟩ = some (.int .u32 (y16 : Int)) ∧ W.cell? ⟨n + 2, k - 7, none⟩ = some (.int .u32 (y7 : Int))) := Lib.hid (by rw [hq]; exact ⟨H16.out, H7.out⟩)
      have hold : W.cell? ⟨n + 2, k, none⟩ = some (.int .u32 0) := by rw [hq]; exact HL.out
      have hfree : W.frozen? ⟨n + 2, k, none⟩ = false := by rw [hq]; exact HE.out
      have HQ2 := Lib.hid hq
      have H1 : Hid (∀ V : World, Calls Tryd.prog 107 #[.int .u32 (y15 : Int), .int .i64 7] V fun e w' => e = .returned (.int .u32 ((Sha.rotr y15 7 : Nat) : Int)) ∧ ∃ m, w' = V.drewN m) := Lib.hid fun V => refTurn_any y15 7 l15 (by omega) (by omega) V
      have H2 : Hid (∀ V : World, Calls Tryd.prog 107 #[.int .u32 (y15 : Int), .int .i64 18] V fun e w' => e = .returned (.int .u32 ((Sha.rotr y15 18 : Nat) : Int)) ∧ ∃ m, w' = V.drewN m) := Lib.hid fun V => refTurn_any y15 18 l15 (by omega) (by omega) V
      have H3 : Hid (∀ V : World, Calls Tryd.prog 107 #[.int .u32 (y2 : Int), .int .i64 17] V fun e w' => e = .returned (.int .u32 ((Sha.rotr y2 17 : Nat) : Int)) ∧ ∃ m, w' = V.drewN m) := Lib.hid fun V => refTurn_any y2 17 l2 (by omega) (by omega) V
      have H4 : Hid (∀ V : World, Calls Tryd.prog 107 #[.int .u32 (y2 : Int), .int .i64 19] V fun e w' => e = .returned (.int .u32 ((Sha.rotr y2 19 : Nat) : Int)) ∧ ∃ m, w' = V.drewN m) := Lib.hid fun V => refTurn_any y2 19 l2 (by omega) (by omega) V
      have f1 := late_bits y15 l15
      have f2 := soon_bits y2 l2
      clear hq c15 c2 H16 H7 HL HE
      change Code.wp _ (Code.region 13 takOps true) _ _ _
      refine wp_region_held (S := fun W => W.cell? ⟨n + 2, k - 16, none⟩ = some (.int .u32 (y16 : Int)) ∧ W.cell? ⟨n + 2, k - 7, none⟩ = some (.int .u32 (y7 : Int))) (by kernel_rfl) ?_
      have hsz : takOps.size = 30 := by kernel_rfl
      rw [hsz]
      have HS0 : Hid ((fun W : World => W.cell? ⟨n + 2, k - 16, none⟩ = some (.int .u32 (y16 : Int)) ∧ W.cell? ⟨n + 2, k - 7, none⟩ = some (.int .u32 (y7 : Int))) W) := d16
      clear hsz d16
      refine wpAnyH_take (i := 0) (oi := ⟨some 57, _, _, _, _, _⟩) (v := ?_) rfl (by kernel_rfl) (by kernel_rfl) (by kernel_rfl) (fun _ _ _ h => hQ.panic _ _ _ _ put_defers.symm h) (Or.inl ⟨by rfl, fun w' hw' => by obtain ⟨h1, h2⟩ := hw'; go_simp; with_reducible rfl⟩) HS0.out ?_
      try simp only [Act.put, List.setIfInBounds_toArray, List.set_cons_succ, List.set_cons_zero]
      refine wpAnyH_take (i := 1) (oi := ⟨some 58, _, _, _, _, _⟩) (v := ?_) rfl (by kernel_rfl) (by kernel_rfl) (by kernel_rfl) (fun _ _ _ h => hQ.panic _ _ _ _ put_defers.symm h) (Or.inl ⟨by rfl, fun w' hw' => by obtain ⟨h1, h2⟩ := hw'; go_simp; with_reducible rfl⟩) HS0.out ?_
      try simp only [Act.put, List.setIfInBounds_toArray, List.set_cons_succ, List.set_cons_zero]
      refine wpAnyH_take (i := 2) (oi := ⟨some 59, _, _, _, _, _⟩) (v := ?_) rfl (by kernel_rfl) (by kernel_rfl) (by kernel_rfl) (fun _ _ _ h => hQ.panic _ _ _ _ put_defers.symm h) (Or.inl ⟨by rfl, fun w' hw' => by obtain ⟨h1, h2⟩ := hw'; go_simp; with_reducible rfl⟩) HS0.out ?_
      try simp only [Act.put, List.setIfInBounds_toArray, List.set_cons_succ, List.set_cons_zero]
      refine wpAnyH_take (i := 3) (oi := ⟨some 60, _, _, _, _, _⟩) (v := ?_) rfl (by kernel_rfl) (by kernel_rfl) (by kernel_rfl) (fun _ _ _ h => hQ.panic _ _ _ _ put_defers.symm h) (Or.inl ⟨by rfl, fun w' hw' => by obtain ⟨h1, h2⟩ := hw'; go_simp; with_reducible rfl⟩) HS0.out ?_
      try simp only [Act.put, List.setIfInBounds_toArray, List.set_cons_succ, List.set_cons_zero]
      refine wpAnyH_take (i := 4) (oi := ⟨some 61, _, _, _, _, _⟩) (v := ?_) rfl (by kernel_rfl) (by kernel_rfl) (by kernel_rfl) (fun _ _ _ h => hQ.panic _ _ _ _ put_defers.symm h) (Or.inl ⟨by rfl, fun w' hw' => by obtain ⟨h1, h2⟩ := hw'; go_simp; with_reducible rfl⟩) HS0.out ?_
      try simp only [Act.put, List.setIfInBounds_toArray, List.set_cons_succ, List.set_cons_zero]
      refine wpAnyH_take (i := 5) (oi := ⟨some 62, _, _, _, _, _⟩) (v := ?_) rfl (by kernel_rfl) (by kernel_rfl) (by kernel_rfl) (fun _ _ _ h => hQ.panic _ _ _ _ put_defers.symm h) (Or.inl ⟨by rfl, fun w' hw' => by obtain ⟨h1, h2⟩ := hw'; go_simp; with_reducible rfl⟩) HS0.out ?_
      try simp only [Act.put, List.setIfInBounds_toArray, List.set_cons_succ, List.set_cons_zero]
      refine wpAnyH_take (i := 6) (oi := ⟨some 63, _, _, _, _, _⟩) (v := ?_) rfl (by kernel_rfl) (by kernel_rfl) (by kernel_rfl) (fun _ _ _ h => hQ.panic _ _ _ _ put_defers.symm h) (Or.inl ⟨by rfl, fun w' hw' => by obtain ⟨h1, h2⟩ := hw'; go_simp; with_reducible rfl⟩) HS0.out ?_
      try simp only [Act.put, List.setIfInBounds_toArray, List.set_cons_succ, List.set_cons_zero]
      refine wpAnyH_take (i := 7) (oi := ⟨some 64, _, _, _, _, _⟩) (v := ?_) rfl (by kernel_rfl) (by kernel_rfl) (by kernel_rfl) (fun _ _ _ h => hQ.panic _ _ _ _ put_defers.symm h) (Or.inl ⟨by rfl, fun w' hw' => by obtain ⟨h1, h2⟩ := hw'; go_simp; with_reducible rfl⟩) HS0.out ?_
      try simp only [Act.put, List.setIfInBounds_toArray, List.set_cons_succ, List.set_cons_zero]
      refine wpAnyH_take (i := 8) (oi := ⟨some 65, _, _, _, _, _⟩) (v := ?_) rfl (by kernel_rfl) (by kernel_rfl) (by kernel_rfl) (fun _ _ _ h => hQ.panic _ _ _ _ put_defers.symm h) (Or.inl ⟨by rfl, fun w' hw' => by obtain ⟨h1, h2⟩ := hw'; go_simp; with_reducible rfl⟩) HS0.out ?_
      try simp only [Act.put, List.setIfInBounds_toArray, List.set_cons_succ, List.set_cons_zero]
      refine wpAnyH_take (i := 9) (oi := ⟨some 66, _, _, _, _, _⟩) (v := ?_) rfl (by kernel_rfl) (by kernel_rfl) (by kernel_rfl) (fun _ _ _ h => hQ.panic _ _ _ _ put_defers.symm h) (Or.inl ⟨by rfl, fun w' hw' => by obtain ⟨h1, h2⟩ := hw'; go_simp; with_reducible rfl⟩) HS0.out ?_
      try simp only [Act.put, List.setIfInBounds_toArray, List.set_cons_succ, List.set_cons_zero]
      refine wpAnyH_take (i := 10) (oi := ⟨some 67, _, _, _, _, _⟩) (v := ?_) rfl (by kernel_rfl) (by kernel_rfl) (by kernel_rfl) (fun _ _ _ h => hQ.panic _ _ _ _ put_defers.symm h) (Or.inl ⟨by rfl, fun w' hw' => by obtain ⟨h1, h2⟩ := hw'; go_simp; with_reducible rfl⟩) HS0.out ?_
      try simp only [Act.put, List.setIfInBounds_toArray, List.set_cons_succ, List.set_cons_zero]
      refine wpAnyH_take (i := 12) (oi := ⟨some 69, _, _, _, _, _⟩) (v := ?_) rfl (by kernel_rfl) (by kernel_rfl) (by kernel_rfl) (fun _ _ _ h => hQ.panic _ _ _ _ put_defers.symm h) (Or.inl ⟨by rfl, fun w' hw' => by obtain ⟨h1, h2⟩ := hw'; go_simp; with_reducible rfl⟩) HS0.out ?_
      try simp only [Act.put, List.setIfInBounds_toArray, List.set_cons_succ, List.set_cons_zero]
      refine wpAnyH_take (i := 15) (oi := ⟨some 72, _, _, _, _, _⟩) (v := ?_) rfl (by kernel_rfl) (by kernel_rfl) (by kernel_rfl) (fun _ _ _ h => hQ.panic _ _ _ _ put_defers.symm h) (Or.inl ⟨by rfl, fun w' hw' => by obtain ⟨h1, h2⟩ := hw'; go_simp; with_reducible rfl⟩) HS0.out ?_
      try simp only [Act.put, List.setIfInBounds_toArray, List.set_cons_succ, List.set_cons_zero]
      refine wpAnyH_take (i := 16) (oi := ⟨some 73, _, _, _, _, _⟩) (v := ?_) rfl (by kernel_rfl) (by kernel_rfl) (by kernel_rfl) (fun _ _ _ h => hQ.panic _ _ _ _ put_defers.symm h) (Or.inl ⟨by rfl, fun w' hw' => by obtain ⟨h1, h2⟩ := hw'; go_simp; with_reducible rfl⟩) HS0.out ?_
      try simp only [Act.put, List.setIfInBounds_toArray, List.set_cons_succ, List.set_cons_zero]
      refine wpAnyH_take (i := 19) (oi := ⟨some 76, _, _, _, _, _⟩) (v := ?_) rfl (by kernel_rfl) (by kernel_rfl) (by kernel_rfl) (fun _ _ _ h => hQ.panic _ _ _ _ put_defers.symm h) (Or.inl ⟨by rfl, fun w' hw' => by obtain ⟨h1, h2⟩ := hw'; go_simp; with_reducible rfl⟩) HS0.out ?_
      try simp only [Act.put, List.setIfInBounds_toArray, List.set_cons_succ, List.set_cons_zero]
      refine wpAnyH_take (i := 21) (oi := ⟨some 78, _, _, _, _, _⟩) (v := ?_) rfl (by kernel_rfl) (by kernel_rfl) (by kernel_rfl) (fun _ _ _ h => hQ.panic _ _ _ _ put_defers.symm h) (Or.inl ⟨by rfl, fun w' hw' => by obtain ⟨h1, h2⟩ := hw'; go_simp; with_reducible rfl⟩) HS0.out ?_
      try simp only [Act.put, List.setIfInBounds_toArray, List.set_cons_succ, List.set_cons_zero]
      refine wpAnyH_take (i := 24) (oi := ⟨some 81, _, _, _, _, _⟩) (v := ?_) rfl (by kernel_rfl) (by kernel_rfl) (by kernel_rfl) (fun _ _ _ h => hQ.panic _ _ _ _ put_defers.symm h) (Or.inl ⟨by rfl, fun w' hw' => by obtain ⟨h1, h2⟩ := hw'; go_simp; with_reducible rfl⟩) HS0.out ?_
      try simp only [Act.put, List.setIfInBounds_toArray, List.set_cons_succ, List.set_cons_zero]
      refine wpAnyH_take (i := 25) (oi := ⟨some 82, _, _, _, _, _⟩) (v := ?_) rfl (by kernel_rfl) (by kernel_rfl) (by kernel_rfl) (fun _ _ _ h => hQ.panic _ _ _ _ put_defers.symm h) (Or.inl ⟨by rfl, fun w' hw' => by obtain ⟨h1, h2⟩ := hw'; go_simp; with_reducible rfl⟩) HS0.out ?_
      try simp only [Act.put, List.setIfInBounds_toArray, List.set_cons_succ, List.set_cons_zero]
      refine wpAnyH_all (rs := [11]) (by kernel_rfl) (by simp) ?_
      intro i hi
      obtain rfl : i = 11 := by simpa using hi
      refine wpOp_step (o := ⟨some 68, _, _, _, _, _⟩) rfl (fun K' hK' => ?_)
      rw [if_pos (show Region.wanted _ _ = true from rfl)]
      go_simp
      (with_reducible refine (H1.out _).mono ?_)
      rintro e v11 ⟨rfl, m11, rfl⟩
      refine hK' _ _ ⟨HS0.out, ?_⟩
      clear hK' K'
      try simp only [Act.put, List.setIfInBounds_toArray, List.set_cons_succ, List.set_cons_zero]
      refine wpAnyH_all (rs := [13]) (by kernel_rfl) (by simp) ?_
      intro i hi
      obtain rfl : i = 13 := by simpa using hi
      refine wpOp_step (o := ⟨some 70, _, _, _, _, _⟩) rfl (fun K' hK' => ?_)
      rw [if_pos (show Region.wanted _ _ = true from rfl)]
      go_simp
      (with_reducible refine (H2.out _).mono ?_)
      rintro e v13 ⟨rfl, m13, rfl⟩
      refine hK' _ _ ⟨HS0.out, ?_⟩
      clear hK' K'
      try simp only [Act.put, List.setIfInBounds_toArray, List.set_cons_succ, List.set_cons_zero]
      refine wpAnyH_take (i := 14) (oi := ⟨some 71, _, _, _, _, _⟩) (v := ?_) rfl (by kernel_rfl) (by kernel_rfl) (by kernel_rfl) (fun _ _ _ h => hQ.panic _ _ _ _ put_defers.symm h) (Or.inl ⟨by rfl, fun w' hw' => by go_simp; with_reducible rfl⟩) HS0.out ?_
      try simp only [Act.put, List.setIfInBounds_toArray, List.set_cons_succ, List.set_cons_zero]
      refine wpAnyH_take (i := 17) (oi := ⟨some 74, _, _, _, _, _⟩) (v := ?_) rfl (by kernel_rfl) (by kernel_rfl) (by kernel_rfl) (fun _ _ _ h => hQ.panic _ _ _ _ put_defers.symm h) (Or.inl ⟨by rfl, fun w' hw' => by go_simp; with_reducible rfl⟩) HS0.out ?_
      try simp only [Act.put, List.setIfInBounds_toArray, List.set_cons_succ, List.set_cons_zero]
      refine wpAnyH_take (i := 18) (oi := ⟨some 75, _, _, _, _, _⟩) (v := ?_) rfl (by kernel_rfl) (by kernel_rfl) (by kernel_rfl) (fun _ _ _ h => hQ.panic _ _ _ _ put_defers.symm h) (Or.inl ⟨by rfl, fun w' hw' => by go_simp; with_reducible rfl⟩) HS0.out ?_
      try simp only [Act.put, List.setIfInBounds_toArray, List.set_cons_succ, List.set_cons_zero]
      refine wpAnyH_all (rs := [20]) (by kernel_rfl) (by simp) ?_
      intro i hi
      obtain rfl : i = 20 := by simpa using hi
      refine wpOp_step (o := ⟨some 77, _, _, _, _, _⟩) rfl (fun K' hK' => ?_)
      rw [if_pos (show Region.wanted _ _ = true from rfl)]
      go_simp
      (with_reducible refine (H3.out _).mono ?_)
      rintro e v20 ⟨rfl, m20, rfl⟩
      refine hK' _ _ ⟨HS0.out, ?_⟩
      clear hK' K'
      try simp only [Act.put, List.setIfInBounds_toArray, List.set_cons_succ, List.set_cons_zero]
      refine wpAnyH_all (rs := [22]) (by kernel_rfl) (by simp) ?_
      intro i hi
      obtain rfl : i = 22 := by simpa using hi
      refine wpOp_step (o := ⟨some 79, _, _, _, _, _⟩) rfl (fun K' hK' => ?_)
      rw [if_pos (show Region.wanted _ _ = true from rfl)]
      go_simp
      (with_reducible refine (H4.out _).mono ?_)
      rintro e v22 ⟨rfl, m22, rfl⟩
      refine hK' _ _ ⟨HS0.out, ?_⟩
      clear hK' K'
      try simp only [Act.put, List.setIfInBounds_toArray, List.set_cons_succ, List.set_cons_zero]
      refine wpAnyH_take (i := 23) (oi := ⟨some 80, _, _, _, _, _⟩) (v := ?_) rfl (by kernel_rfl) (by kernel_rfl) (by kernel_rfl) (fun _ _ _ h => hQ.panic _ _ _ _ put_defers.symm h) (Or.inl ⟨by rfl, fun w' hw' => by go_simp; with_reducible rfl⟩) HS0.out ?_
      try simp only [Act.put, List.setIfInBounds_toArray, List.set_cons_succ, List.set_cons_zero]
      refine wpAnyH_take (i := 26) (oi := ⟨some 83, _, _, _, _, _⟩) (v := ?_) rfl (by kernel_rfl) (by kernel_rfl) (by kernel_rfl) (fun _ _ _ h => hQ.panic _ _ _ _ put_defers.symm h) (Or.inl ⟨by rfl, fun w' hw' => by go_simp; with_reducible rfl⟩) HS0.out ?_
      try simp only [Act.put, List.setIfInBounds_toArray, List.set_cons_succ, List.set_cons_zero]
      refine wpAnyH_take (i := 27) (oi := ⟨some 84, _, _, _, _, _⟩) (v := ?_) rfl (by kernel_rfl) (by kernel_rfl) (by kernel_rfl) (fun _ _ _ h => hQ.panic _ _ _ _ put_defers.symm h) (Or.inl ⟨by rfl, fun w' hw' => by go_simp; with_reducible rfl⟩) HS0.out ?_
      try simp only [Act.put, List.setIfInBounds_toArray, List.set_cons_succ, List.set_cons_zero]
      refine wpAnyH_take (i := 28) (oi := ⟨some 85, _, _, _, _, _⟩) (v := ?_) rfl (by kernel_rfl) (by kernel_rfl) (by kernel_rfl) (fun _ _ _ h => hQ.panic _ _ _ _ put_defers.symm h) (Or.inl ⟨by rfl, fun w' hw' => by go_simp; with_reducible rfl⟩) HS0.out ?_
      try simp only [Act.put, List.setIfInBounds_toArray, List.set_cons_succ, List.set_cons_zero]
      refine wpAnyH_all (rs := [29]) (by kernel_rfl) (by simp) ?_
      intro i hi
      obtain rfl : i = 29 := by simpa using hi
      refine wpOp_step (o := ⟨none, _, _, _, _, _⟩) rfl (fun K' hK' => ?_)
      rw [if_pos (show Region.wanted _ _ = true from rfl)]
      go_simp
      have hv := next_val y16 y7 (Sha.late y15) (Sha.soon y2)
      rw [← HN.out] at hv
      rw [hv]
      have HP := Lib.hid hQ.panic
      clear hQ hv f1 f2
      obtain ⟨m, hm⟩ : ∃ m, m = 1 + m11 + m13 + m20 + m22 := ⟨_, rfl⟩
      rw [← hm]
      clear hm
      refine hK' _ _ ⟨⟨(World.cell?_setCell_other _ _ _ _ (ne_off (by omega))).trans HS0.out.1, (World.cell?_setCell_other _ _ _ _ (ne_off (by omega))).trans HS0.out.2⟩, ?_⟩
      clear hK' K' hold hfree
      have hq := HQ2.out
      clear HQ2 HS0
      subst hq
      refine wpAnyH_done (by kernel_rfl) ?_ _
      go_wp2
      go_roundw
      case rel => exact ⟨k + 1, by omega, by omega, by go_num, (below_drewN HB.out _).setCell (by simp) _, size_put HZ.out _ _ _, (HH.out.drewN _).apart (by simp) _, (HR.out.drewN _).apart (by simp) _, step_high hge hlt (HW.out.drewN _) rfl⟩
      case measure => simp [intOf]; omega
    · obtain rfl : k = 64 := by omega
      have hx := HK
      clear HK hQ
      go_wp2
      apply hx.out
      exact ⟨hB2, hs2, hH2, hR2, hW2⟩
end Go.Proofs.YtffdkniahdekjaaDoor
end
