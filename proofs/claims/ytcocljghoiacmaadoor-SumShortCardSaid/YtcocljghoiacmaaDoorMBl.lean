/-
  THE LAW SumDigests, WALKED: true, and nothing that was there is turned.
  · YtcocljghoiacmaaDoorAwC
  · YtcocljghoiacmaaDoorAwake
-/
import Derived.Test.YtcocljghoiacmaaDoorMBk
import Derived.Test.YtcocljghoiacmaaDoorMBf
section
namespace Go.Proofs.YtcocljghoiacmaaDoor
open Go.RowKit Go.Hoar Go.Maps Go.Shelf
set_option maxRecDepth 100000 in
set_option maxHeartbeats 3000000 in
theorem aw6 (xa xb xc : Dig) (ha : Hid (xa.1 = Sha.sha [97])) (hb : Hid (xb.1 = Sha.sha [98])) (hc : Hid (xc.1 = Sha.sha [99])) (w0 : World) (Q : Exit → Act → World → Prop) (hQ : Ends w0 Q) (p1 p2 p3 q : Nat) (U : World) (hF : Three xa xb xc p1 p2 p3 q w0 U)
    (s26 s27 s28 s29 s30 s31 s32 s33 s34 s35 s36 s37 s38 s39 s40 s41 s42 s43 s44 s45 s46 s47 s48 s49 s50 s51 s52 s53 s54 s55 s56 s57 s58 s59 s60 s61 s62 s63 s64 s65 s66 s67 s68 s69 s70 s71 s72 s73 s74 s75 s76 s77 s78 s79 s80 : Value) : Code.wp Tryd.prog (awTail 6) Q ⟨#[.bool false, .pointer (some ⟨p1, 0, none⟩), .pointer (some ⟨p2, 0, none⟩), .pointer (some ⟨p3, 0, none⟩), .slice (some ⟨q, 0, none⟩) 3 3, .int .i64 1, .int .i64 0, .int .i64 0, .int .i64 6, undef, undef, undef, undef, undef, undef, undef, undef, undef, undef, undef, undef, undef, undef, undef, undef, undef, s26, s27, s28, s29, s30, s31, s32, s33, s34, s35, s36, s37, s38, s39, s40, s41, s42, s43, s44, s45, s46, s47, s48, s49, s50, s51, s52, s53, s54, s55, s56, s57, s58, s59, s60, s61, s62, s63, s64, s65, s66, s67, s68, s69, s70, s71, s72, s73, s74, s75, s76, s77, s78, s79, s80, undef, undef, undef, undef, undef, undef, undef, undef, undef, undef, undef, undef, undef, undef, undef, undef, undef, undef, undef, undef, undef, undef, undef, undef, undef, undef, undef, undef, undef, undef, undef, undef, undef, undef, undef, undef, undef, undef, undef, undef, undef, undef, undef, undef, undef, undef, undef, undef, undef, undef, undef, undef, undef, undef, undef, undef, undef, undef, undef, undef, undef, undef, undef, undef, undef, undef, undef, undef, undef, undef, undef, undef, undef, undef, undef, undef, undef, undef, undef, undef, undef, undef, undef, undef, undef, undef, undef, undef, undef, undef, undef, undef, undef, undef, undef, undef, undef, undef, undef, undef, undef, undef, undef, undef, undef, undef, undef, undef, undef, undef, undef, undef, undef, undef, undef, undef, undef, undef, undef, undef, undef, undef, undef, undef, undef, undef, undef, undef, undef, undef, undef, undef, undef, undef, undef, undef, undef, undef, undef, undef, undef, undef, undef, undef, undef, undef, undef, undef, undef, undef, undef, undef, undef, undef, undef, undef, undef, undef, undef, undef, undef, undef], []⟩ U := by
  have HT := Lib.hid hF
  have HS := Lib.hid hF.sums
  have hlq := hF.list.lt
  clear hF
  conv => arg 2; whnf
  apply wp_seq_k
  intro K hK
  have hK2 : ∀ (s26 s27 s28 s29 s30 s31 s32 s33 s34 s35 s36 s37 s38 s39 s40 s41 s42 s43 s44 s45 s46 s47 s48 s49 s50 s51 s52 s53 s54 s55 s56 s57 s58 s59 s60 s61 s62 s63 s64 s65 s66 s67 s68 s69 s70 s71 s72 s73 s74 s75 s76 s77 s78 s79 s80 s81 s82 s83 s84 s85 : Value) (W : World) (hT : Three xa xb xc p1 p2 p3 q w0 W), K ⟨#[.bool false, .pointer (some ⟨p1, 0, none⟩), .pointer (some ⟨p2, 0, none⟩), .pointer (some ⟨p3, 0, none⟩), .slice (some ⟨q, 0, none⟩) 3 3, .int .i64 1, .int .i64 0, .int .i64 0, .int .i64 6, .int .i64 0, .int .i64 4, undef, undef, undef, undef, undef, undef, undef, undef, undef, undef, undef, undef, undef, undef, undef, s26, s27, s28, s29, s30, s31, s32, s33, s34, s35, s36, s37, s38, s39, s40, s41, s42, s43, s44, s45, s46, s47, s48, s49, s50, s51, s52, s53, s54, s55, s56, s57, s58, s59, s60, s61, s62, s63, s64, s65, s66, s67, s68, s69, s70, s71, s72, s73, s74, s75, s76, s77, s78, s79, s80, s81, s82, s83, s84, s85, undef, undef, undef, undef, undef, undef, undef, undef, undef, undef, undef, undef, undef, undef, undef, undef, undef, undef, undef, undef, undef, undef, undef, undef, undef, undef, undef, undef, undef, undef, undef, undef, undef, undef, undef, undef, undef, undef, undef, undef, undef, undef, undef, undef, undef, undef, undef, undef, undef, undef, undef, undef, undef, undef, undef, undef, undef, undef, undef, undef, undef, undef, undef, undef, undef, undef, undef, undef, undef, undef, undef, undef, undef, undef, undef, undef, undef, undef, undef, undef, undef, undef, undef, undef, undef, undef, undef, undef, undef, undef, undef, undef, undef, undef, undef, undef, undef, undef, undef, undef, undef, undef, undef, undef, undef, undef, undef, undef, undef, undef, undef, undef, undef, undef, undef, undef, undef, undef, undef, undef, undef, undef, undef, undef, undef, undef, undef, undef, undef, undef, undef, undef, undef, undef, undef, undef, undef, undef, undef, undef, undef, undef, undef, undef, undef, undef, undef, undef, undef, undef, undef, undef, undef, undef, undef, undef, undef], []⟩ W := fun s26 s27 s28 s29 s30 s31 s32 s33 s34 s35 s36 s37 s38 s39 s40 s41 s42 s43 s44 s45 s46 s47 s48 s49 s50 s51 s52 s53 s54 s55 s56 s57 s58 s59 s60 s61 s62 s63 s64 s65 s66 s67 s68 s69 s70 s71 s72 s73 s74 s75 s76 s77 s78 s79 s80 s81 s82 s83 s84 s85 W hT => hK _ _ (aw7 xa xb xc ha hb hc w0 Q hQ p1 p2 p3 q W hT s26 s27 s28 s29 s30 s31 s32 s33 s34 s35 s36 s37 s38 s39 s40 s41 s42 s43 s44 s45 s46 s47 s48 s49 s50 s51 s52 s53 s54 s55 s56 s57 s58 s59 s60 s61 s62 s63 s64 s65 s66 s67 s68 s69 s70 s71 s72 s73 s74 s75 s76 s77 s78 s79 s80 s81 s82 s83 s84 s85)
  clear hK
  go_wp2_with (go_at_call 45; (with_reducible refine (find_G _ U).mono ?_); rintro e u1 ⟨rfl, hb1⟩; have HB1 := Lib.hid hb1; clear hb1)
  exact HT.out.mono HB1.out
set_option maxRecDepth 100000 in
set_option maxHeartbeats 3000000 in
theorem aw5 (xa xb xc : Dig) (ha : Hid (xa.1 = Sha.sha [97])) (hb : Hid (xb.1 = Sha.sha [98])) (hc : Hid (xc.1 = Sha.sha [99])) (w0 : World) (Q : Exit → Act → World → Prop) (hQ : Ends w0 Q) (p1 p2 p3 q : Nat) (U : World) (hF : Three xa xb xc p1 p2 p3 q w0 U)
    (s26 s27 s28 s29 s30 s31 s32 s33 s34 s35 s36 s37 s38 s39 s40 s41 s42 s43 s44 s45 s46 s47 s48 s49 s50 s51 s52 s53 s54 s55 s56 s57 s58 s59 s60 s61 s62 s63 s64 s65 s66 s67 s68 s69 s70 s71 s72 s73 s74 s75 : Value) : Code.wp Tryd.prog (awTail 5) Q ⟨#[.bool false, .pointer (some ⟨p1, 0, none⟩), .pointer (some ⟨p2, 0, none⟩), .pointer (some ⟨p3, 0, none⟩), .slice (some ⟨q, 0, none⟩) 3 3, .int .i64 1, .int .i64 0, undef, undef, undef, undef, undef, undef, undef, undef, undef, undef, undef, undef, undef, undef, undef, undef, undef, undef, undef, s26, s27, s28, s29, s30, s31, s32, s33, s34, s35, s36, s37, s38, s39, s40, s41, s42, s43, s44, s45, s46, s47, s48, s49, s50, s51, s52, s53, s54, s55, s56, s57, s58, s59, s60, s61, s62, s63, s64, s65, s66, s67, s68, s69, s70, s71, s72, s73, s74, s75, undef, undef, undef, undef, undef, undef, undef, undef, undef, undef, undef, undef, undef, undef, undef, undef, undef, undef, undef, undef, undef, undef, undef, undef, undef, undef, undef, undef, undef, undef, undef, undef, undef, undef, undef, undef, undef, undef, undef, undef, undef, undef, undef, undef, undef, undef, undef, undef, undef, undef, undef, undef, undef, undef, undef, undef, undef, undef, undef, undef, undef, undef, undef, undef, undef, undef, undef, undef, undef, undef, undef, undef, undef, undef, undef, undef, undef, undef, undef, undef, undef, undef, undef, undef, undef, undef, undef, undef, undef, undef, undef, undef, undef, undef, undef, undef, undef, undef, undef, undef, undef, undef, undef, undef, undef, undef, undef, undef, undef, undef, undef, undef, undef, undef, undef, undef, undef, undef, undef, undef, undef, undef, undef, undef, undef, undef, undef, undef, undef, undef, undef, undef, undef, undef, undef, undef, undef, undef, undef, undef, undef, undef, undef, undef, undef, undef, undef, undef, undef, undef, undef, undef, undef, undef, undef, undef, undef, undef, undef, undef, undef, undef, undef, undef, undef, undef, undef], []⟩ U := by
  have HT := Lib.hid hF
  have HS := Lib.hid hF.sums
  have hlq := hF.list.lt
  clear hF
  conv => arg 2; whnf
  apply wp_seq_k
  intro K hK
  have hK2 : ∀ (s26 s27 s28 s29 s30 s31 s32 s33 s34 s35 s36 s37 s38 s39 s40 s41 s42 s43 s44 s45 s46 s47 s48 s49 s50 s51 s52 s53 s54 s55 s56 s57 s58 s59 s60 s61 s62 s63 s64 s65 s66 s67 s68 s69 s70 s71 s72 s73 s74 s75 s76 s77 s78 s79 s80 : Value) (W : World) (hT : Three xa xb xc p1 p2 p3 q w0 W), K ⟨#[.bool false, .pointer (some ⟨p1, 0, none⟩), .pointer (some ⟨p2, 0, none⟩), .pointer (some ⟨p3, 0, none⟩), .slice (some ⟨q, 0, none⟩) 3 3, .int .i64 1, .int .i64 0, .int .i64 0, .int .i64 6, undef, undef, undef, undef, undef, undef, undef, undef, undef, undef, undef, undef, undef, undef, undef, undef, undef, s26, s27, s28, s29, s30, s31, s32, s33, s34, s35, s36, s37, s38, s39, s40, s41, s42, s43, s44, s45, s46, s47, s48, s49, s50, s51, s52, s53, s54, s55, s56, s57, s58, s59, s60, s61, s62, s63, s64, s65, s66, s67, s68, s69, s70, s71, s72, s73, s74, s75, s76, s77, s78, s79, s80, undef, undef, undef, undef, undef, undef, undef, undef, undef, undef, undef, undef, undef, undef, undef, undef, undef, undef, undef, undef, undef, undef, undef, undef, undef, undef, undef, undef, undef, undef, undef, undef, undef, undef, undef, undef, undef, undef, undef, undef, undef, undef, undef, undef, undef, undef, undef, undef, undef, undef, undef, undef, undef, undef, undef, undef, undef, undef, undef, undef, undef, undef, undef, undef, undef, undef, undef, undef, undef, undef, undef, undef, undef, undef, undef, undef, undef, undef, undef, undef, undef, undef, undef, undef, undef, undef, undef, undef, undef, undef, undef, undef, undef, undef, undef, undef, undef, undef, undef, undef, undef, undef, undef, undef, undef, undef, undef, undef, undef, undef, undef, undef, undef, undef, undef, undef, undef, undef, undef, undef, undef, undef, undef, undef, undef, undef, undef, undef, undef, undef, undef, undef, undef, undef, undef, undef, undef, undef, undef, undef, undef, undef, undef, undef, undef, undef, undef, undef, undef, undef, undef, undef, undef, undef, undef, undef, undef, undef, undef, undef, undef, undef], []⟩ W := fun s26 s27 s28 s29 s30 s31 s32 s33 s34 s35 s36 s37 s38 s39 s40 s41 s42 s43 s44 s45 s46 s47 s48 s49 s50 s51 s52 s53 s54 s55 s56 s57 s58 s59 s60 s61 s62 s63 s64 s65 s66 s67 s68 s69 s70 s71 s72 s73 s74 s75 s76 s77 s78 s79 s80 W hT => hK _ _ (aw6 xa xb xc ha hb hc w0 Q hQ p1 p2 p3 q W hT s26 s27 s28 s29 s30 s31 s32 s33 s34 s35 s36 s37 s38 s39 s40 s41 s42 s43 s44 s45 s46 s47 s48 s49 s50 s51 s52 s53 s54 s55 s56 s57 s58 s59 s60 s61 s62 s63 s64 s65 s66 s67 s68 s69 s70 s71 s72 s73 s74 s75 s76 s77 s78 s79 s80)
  clear hK
  go_wp2_with (go_at_call 45; (with_reducible refine (find_f xa xb xc ha hb hc q U HS.out hlq).mono ?_); rintro e u1 ⟨rfl, hb1⟩; have HB1 := Lib.hid hb1; clear hb1)
  exact HT.out.mono HB1.out
set_option maxRecDepth 100000 in
set_option maxHeartbeats 3000000 in
theorem aw4 (xa xb xc : Dig) (ha : Hid (xa.1 = Sha.sha [97])) (hb : Hid (xb.1 = Sha.sha [98])) (hc : Hid (xc.1 = Sha.sha [99])) (w0 : World) (Q : Exit → Act → World → Prop) (hQ : Ends w0 Q) (p1 p2 p3 q : Nat) (U : World) (hF : Three xa xb xc p1 p2 p3 q w0 U)
    (s26 s27 s28 s29 s30 s31 s32 s33 s34 s35 s36 s37 s38 s39 s40 s41 s42 s43 s44 s45 s46 s47 s48 s49 s50 s51 s52 s53 s54 s55 s56 s57 s58 s59 s60 s61 s62 s63 s64 s65 s66 s67 s68 s69 s70 : Value) : Code.wp Tryd.prog (awTail 4) Q ⟨#[.bool false, .pointer (some ⟨p1, 0, none⟩), .pointer (some ⟨p2, 0, none⟩), .pointer (some ⟨p3, 0, none⟩), .slice (some ⟨q, 0, none⟩) 3 3, undef, undef, undef, undef, undef, undef, undef, undef, undef, undef, undef, undef, undef, undef, undef, undef, undef, undef, undef, undef, undef, s26, s27, s28, s29, s30, s31, s32, s33, s34, s35, s36, s37, s38, s39, s40, s41, s42, s43, s44, s45, s46, s47, s48, s49, s50, s51, s52, s53, s54, s55, s56, s57, s58, s59, s60, s61, s62, s63, s64, s65, s66, s67, s68, s69, s70, undef, undef, undef, undef, undef, undef, undef, undef, undef, undef, undef, undef, undef, undef, undef, undef, undef, undef, undef, undef, undef, undef, undef, undef, undef, undef, undef, undef, undef, undef, undef, undef, undef, undef, undef, undef, undef, undef, undef, undef, undef, undef, undef, undef, undef, undef, undef, undef, undef, undef, undef, undef, undef, undef, undef, undef, undef, undef, undef, undef, undef, undef, undef, undef, undef, undef, undef, undef, undef, undef, undef, undef, undef, undef, undef, undef, undef, undef, undef, undef, undef, undef, undef, undef, undef, undef, undef, undef, undef, undef, undef, undef, undef, undef, undef, undef, undef, undef, undef, undef, undef, undef, undef, undef, undef, undef, undef, undef, undef, undef, undef, undef, undef, undef, undef, undef, undef, undef, undef, undef, undef, undef, undef, undef, undef, undef, undef, undef, undef, undef, undef, undef, undef, undef, undef, undef, undef, undef, undef, undef, undef, undef, undef, undef, undef, undef, undef, undef, undef, undef, undef, undef, undef, undef, undef, undef, undef, undef, undef, undef, undef, undef, undef, undef, undef, undef, undef, undef, undef, undef, undef, undef], []⟩ U := by
  have HT := Lib.hid hF
  have HS := Lib.hid hF.sums
  have hlq := hF.list.lt
  clear hF
  conv => arg 2; whnf
  apply wp_seq_k
  intro K hK
  have hK2 : ∀ (s26 s27 s28 s29 s30 s31 s32 s33 s34 s35 s36 s37 s38 s39 s40 s41 s42 s43 s44 s45 s46 s47 s48 s49 s50 s51 s52 s53 s54 s55 s56 s57 s58 s59 s60 s61 s62 s63 s64 s65 s66 s67 s68 s69 s70 s71 s72 s73 s74 s75 : Value) (W : World) (hT : Three xa xb xc p1 p2 p3 q w0 W), K ⟨#[.bool false, .pointer (some ⟨p1, 0, none⟩), .pointer (some ⟨p2, 0, none⟩), .pointer (some ⟨p3, 0, none⟩), .slice (some ⟨q, 0, none⟩) 3 3, .int .i64 1, .int .i64 0, undef, undef, undef, undef, undef, undef, undef, undef, undef, undef, undef, undef, undef, undef, undef, undef, undef, undef, undef, s26, s27, s28, s29, s30, s31, s32, s33, s34, s35, s36, s37, s38, s39, s40, s41, s42, s43, s44, s45, s46, s47, s48, s49, s50, s51, s52, s53, s54, s55, s56, s57, s58, s59, s60, s61, s62, s63, s64, s65, s66, s67, s68, s69, s70, s71, s72, s73, s74, s75, undef, undef, undef, undef, undef, undef, undef, undef, undef, undef, undef, undef, undef, undef, undef, undef, undef, undef, undef, undef, undef, undef, undef, undef, undef, undef, undef, undef, undef, undef, undef, undef, undef, undef, undef, undef, undef, undef, undef, undef, undef, undef, undef, undef, undef, undef, undef, undef, undef, undef, undef, undef, undef, undef, undef, undef, undef, undef, undef, undef, undef, undef, undef, undef, undef, undef, undef, undef, undef, undef, undef, undef, undef, undef, undef, undef, undef, undef, undef, undef, undef, undef, undef, undef, undef, undef, undef, undef, undef, undef, undef, undef, undef, undef, undef, undef, undef, undef, undef, undef, undef, undef, undef, undef, undef, undef, undef, undef, undef, undef, undef, undef, undef, undef, undef, undef, undef, undef, undef, undef, undef, undef, undef, undef, undef, undef, undef, undef, undef, undef, undef, undef, undef, undef, undef, undef, undef, undef, undef, undef, undef, undef, undef, undef, undef, undef, undef, undef, undef, undef, undef, undef, undef, undef, undef, undef, undef, undef, undef, undef, undef, undef, undef, undef, undef, undef, undef], []⟩ W := fun s26 s27 s28 s29 s30 s31 s32 s33 s34 s35 s36 s37 s38 s39 s40 s41 s42 s43 s44 s45 s46 s47 s48 s49 s50 s51 s52 s53 s54 s55 s56 s57 s58 s59 s60 s61 s62 s63 s64 s65 s66 s67 s68 s69 s70 s71 s72 s73 s74 s75 W hT => hK _ _ (aw5 xa xb xc ha hb hc w0 Q hQ p1 p2 p3 q W hT s26 s27 s28 s29 s30 s31 s32 s33 s34 s35 s36 s37 s38 s39 s40 s41 s42 s43 s44 s45 s46 s47 s48 s49 s50 s51 s52 s53 s54 s55 s56 s57 s58 s59 s60 s61 s62 s63 s64 s65 s66 s67 s68 s69 s70 s71 s72 s73 s74 s75)
  clear hK
  go_wp2_with (go_at_call 45; (with_reducible refine (find_3 xa xb xc ha hb hc q U HS.out hlq).mono ?_); rintro e u1 ⟨rfl, hb1⟩; have HB1 := Lib.hid hb1; clear hb1)
  exact HT.out.mono HB1.out
set_option maxRecDepth 100000 in
set_option maxHeartbeats 3000000 in
theorem aw3 (xa xb xc : Dig) (ha : Hid (xa.1 = Sha.sha [97])) (hb : Hid (xb.1 = Sha.sha [98])) (hc : Hid (xc.1 = Sha.sha [99])) (w0 : World) (Q : Exit → Act → World → Prop) (hQ : Ends w0 Q) (p1 p2 p3 q : Nat) (U : World) (hF : Three xa xb xc p1 p2 p3 q w0 U)
    (s26 s27 s28 s29 s30 s31 s32 s33 s34 s35 s36 s37 s38 : Value) : Code.wp Tryd.prog (awTail 3) Q ⟨#[.bool false, .pointer (some ⟨p1, 0, none⟩), .pointer (some ⟨p2, 0, none⟩), .pointer (some ⟨p3, 0, none⟩), .slice (some ⟨q, 0, none⟩) 3 3, undef, undef, undef, undef, undef, undef, undef, undef, undef, undef, undef, undef, undef, undef, undef, undef, undef, undef, undef, undef, undef, s26, s27, s28, s29, s30, s31, s32, s33, s34, s35, s36, s37, s38, undef, undef, undef, undef, undef, undef, undef, undef, undef, undef, undef, undef, undef, undef, undef, undef, undef, undef, undef, undef, undef, undef, undef, undef, undef, undef, undef, undef, undef, undef, undef, undef, undef, undef, undef, undef, undef, undef, undef, undef, undef, undef, undef, undef, undef, undef, undef, undef, undef, undef, undef, undef, undef, undef, undef, undef, undef, undef, undef, undef, undef, undef, undef, undef, undef, undef, undef, undef, undef, undef, undef, undef, undef, undef, undef, undef, undef, undef, undef, undef, undef, undef, undef, undef, undef, undef, undef, undef, undef, undef, undef, undef, undef, undef, undef, undef, undef, undef, undef, undef, undef, undef, undef, undef, undef, undef, undef, undef, undef, undef, undef, undef, undef, undef, undef, undef, undef, undef, undef, undef, undef, undef, undef, undef, undef, undef, undef, undef, undef, undef, undef, undef, undef, undef, undef, undef, undef, undef, undef, undef, undef, undef, undef, undef, undef, undef, undef, undef, undef, undef, undef, undef, undef, undef, undef, undef, undef, undef, undef, undef, undef, undef, undef, undef, undef, undef, undef, undef, undef, undef, undef, undef, undef, undef, undef, undef, undef, undef, undef, undef, undef, undef, undef, undef, undef, undef, undef, undef, undef, undef, undef, undef, undef, undef, undef, undef, undef, undef, undef, undef, undef, undef, undef, undef], []⟩ U := by
  obtain ⟨d0, hd0⟩ : ∃ d, d = Sha.sha [] := ⟨_, rfl⟩
  obtain ⟨d1, hd1⟩ : ∃ d, d = Sha.sha [97, 98, 99] := ⟨_, rfl⟩
  have H0 := Lib.hid hd0
  have H1 := Lib.hid hd1
  have a0 : (arr32 xa.1)[0]? = some (.int .u8 202) := by
    have e : xa.1.getD 0 0 = 202 := by rw [ha.out]; decide +kernel
    rw [arr32_get xa.1 xa.2.1 0 (by omega), e]
    rfl
  have b0 : (arr32 xb.1)[0]? = some (.int .u8 62) := by
    have e : xb.1.getD 0 0 = 62 := by rw [hb.out]; decide +kernel
    rw [arr32_get xb.1 xb.2.1 0 (by omega), e]
    rfl
  have c0 : (arr32 xc.1)[0]? = some (.int .u8 46) := by
    have e : xc.1.getD 0 0 = 46 := by rw [hc.out]; decide +kernel
    rw [arr32_get xc.1 xc.2.1 0 (by omega), e]
    rfl
  have HA0 := Lib.hid (And.intro a0 (And.intro b0 c0))
  have HT := Lib.hid hF
  have HS := Lib.hid hF.sums
  have HCU := Lib.hid hF.const
  have HPa := Lib.hid hF.one
  have HPb := Lib.hid hF.two
  have HPc := Lib.hid hF.three
  have hlq := hF.list.lt
  have hcv := convert_bytes
  clear hd0 hd1 a0 b0 c0 hF
  conv => arg 2; whnf
  apply wp_seq_k
  intro K hK
  have hK2 : ∀ (s26 s27 s28 s29 s30 s31 s32 s33 s34 s35 s36 s37 s38 s39 s40 s41 s42 s43 s44 s45 s46 s47 s48 s49 s50 s51 s52 s53 s54 s55 s56 s57 s58 s59 s60 s61 s62 s63 s64 s65 s66 s67 s68 s69 s70 : Value) (W : World) (hT : Three xa xb xc p1 p2 p3 q w0 W), K ⟨#[.bool false, .pointer (some ⟨p1, 0, none⟩), .pointer (some ⟨p2, 0, none⟩), .pointer (some ⟨p3, 0, none⟩), .slice (some ⟨q, 0, none⟩) 3 3, undef, undef, undef, undef, undef, undef, undef, undef, undef, undef, undef, undef, undef, undef, undef, undef, undef, undef, undef, undef, undef, s26, s27, s28, s29, s30, s31, s32, s33, s34, s35, s36, s37, s38, s39, s40, s41, s42, s43, s44, s45, s46, s47, s48, s49, s50, s51, s52, s53, s54, s55, s56, s57, s58, s59, s60, s61, s62, s63, s64, s65, s66, s67, s68, s69, s70, undef, undef, undef, undef, undef, undef, undef, undef, undef, undef, undef, undef, undef, undef, undef, undef, undef, undef, undef, undef, undef, undef, undef, undef, undef, undef, undef, undef, undef, undef, undef, undef, undef, undef, undef, undef, undef, undef, undef, undef, undef, undef, undef, undef, undef, undef, undef, undef, undef, undef, undef, undef, undef, undef, undef, undef, undef, undef, undef, undef, undef, undef, undef, undef, undef, undef, undef, undef, undef, undef, undef, undef, undef, undef, undef, undef, undef, undef, undef, undef, undef, undef, undef, undef, undef, undef, undef, undef, undef, undef, undef, undef, undef, undef, undef, undef, undef, undef, undef, undef, undef, undef, undef, undef, undef, undef, undef, undef, undef, undef, undef, undef, undef, undef, undef, undef, undef, undef, undef, undef, undef, undef, undef, undef, undef, undef, undef, undef, undef, undef, undef, undef, undef, undef, undef, undef, undef, undef, undef, undef, undef, undef, undef, undef, undef, undef, undef, undef, undef, undef, undef, undef, undef, undef, undef, undef, undef, undef, undef, undef, undef, undef, undef, undef, undef, undef, undef, undef, undef, undef, undef, undef], []⟩ W := fun s26 s27 s28 s29 s30 s31 s32 s33 s34 s35 s36 s37 s38 s39 s40 s41 s42 s43 s44 s45 s46 s47 s48 s49 s50 s51 s52 s53 s54 s55 s56 s57 s58 s59 s60 s61 s62 s63 s64 s65 s66 s67 s68 s69 s70 W hT => hK _ _ (aw4 xa xb xc ha hb hc w0 Q hQ p1 p2 p3 q W hT s26 s27 s28 s29 s30 s31 s32 s33 s34 s35 s36 s37 s38 s39 s40 s41 s42 s43 s44 s45 s46 s47 s48 s49 s50 s51 s52 s53 s54 s55 s56 s57 s58 s59 s60 s61 s62 s63 s64 s65 s66 s67 s68 s69 s70)
  clear hK
  go_wp2_with (first
    | (go_at_call 17; (with_reducible refine (of_nil U HCU.out d0 H0).mono ?_); rintro e u1 ⟨rfl, _, hb1⟩; have hz1 := hb1.size; have HB1 := Lib.hid hb1; have HC1 := Lib.hid (HCU.out.below hb1 rfl); clear hb1)
    | (go_at_call 28; (with_reducible refine (hex_nil u1 d0 H0).mono ?_); rintro e u2 ⟨rfl, hb2⟩; have HB2 := Lib.hid (HB1.out.trans (hb2.mono HB1.out.size)); have HC2 := Lib.hid (HC1.out.below hb2 rfl); clear hb2)
    | (go_at_call 17; (with_reducible refine (of_abc u2 HC2.out d1 H1).mono ?_); rintro e u3 ⟨rfl, _, hb3⟩; have HB3 := Lib.hid (HB2.out.trans (hb3.mono HB2.out.size)); have HC3 := Lib.hid (HC2.out.below hb3 rfl); clear hb3)
    | (go_at_call 28; (with_reducible refine (hex_abc u3 d1 H1).mono ?_); rintro e u4 ⟨rfl, hb4⟩; have HB4 := Lib.hid (HB3.out.trans (hb4.mono HB3.out.size)); have HC4 := Lib.hid (HC3.out.below hb4 rfl); have x0 : u4.cell? ⟨p1, 0, none⟩ = some (.int .u8 202) := ((HPa.out.below HB4.out HPa.out.lt).cell 0).trans HA0.out.1; have x1 : u4.cell? ⟨p2, 0, none⟩ = some (.int .u8 62) := ((HPb.out.below HB4.out HPb.out.lt).cell 0).trans HA0.out.2.1; have x2 : u4.cell? ⟨p3, 0, none⟩ = some (.int .u8 46) := ((HPc.out.below HB4.out HPc.out.lt).cell 0).trans HA0.out.2.2; have hz4 := HB4.out.size; clear hb4)
    | (go_at_call 44; (with_reducible refine (short_three xa xb xc ha.out hb.out hc.out u4 q (HS.out.below hlq HB4.out) (by omega)).mono ?_); rintro e u5 ⟨v5, rfl, ho5, hb5⟩; obtain ⟨a5, c5, rfl, hc5, hm5⟩ := own_shape ho5; obtain ⟨g5, rfl, hg5b, hg5⟩ := own_addr ho5 (by omega); have HO5 := Lib.hid ho5; have HB5 := Lib.hid (HB4.out.trans (hb5.mono HB4.out.size)); have HC5 := Lib.hid (HC4.out.below hb5 rfl); have HQ5 := Lib.hid (ones_equal u5 _ g5 c5 ho5); clear ho5 hb5)
    | (go_at_call 47; (with_reducible refine HQ5.out.mono ?_); rintro e u6 ⟨rfl, hb6⟩; have HB6 := Lib.hid (HB5.out.trans (hb6.mono HB5.out.size)); have HC6 := Lib.hid (HC5.out.below hb6 rfl); clear hb6))
  exact HT.out.mono HB6.out
end Go.Proofs.YtcocljghoiacmaaDoor
end
section
namespace Go.Proofs.YtcocljghoiacmaaDoor
open Go.RowKit Go.Hoar Go.Maps Go.Shelf
set_option maxRecDepth 100000 in
set_option maxHeartbeats 3000000 in
theorem aw2 (xa xb xc : Dig) (ha : Hid (xa.1 = Sha.sha [97])) (hb : Hid (xb.1 = Sha.sha [98])) (hc : Hid (xc.1 = Sha.sha [99])) (w0 : World) (Q : Exit → Act → World → Prop) (hQ : Ends w0 Q) (p1 p2 p3 : Nat) (U : World) (hF : Three0 xa xb xc p1 p2 p3 w0 U)
    (s26 s27 s28 s29 s30 s31 s32 s33 s34 : Value) : Code.wp Tryd.prog (awTail 2) Q ⟨#[.bool false, .pointer (some ⟨p1, 0, none⟩), .pointer (some ⟨p2, 0, none⟩), .pointer (some ⟨p3, 0, none⟩), undef, undef, undef, undef, undef, undef, undef, undef, undef, undef, undef, undef, undef, undef, undef, undef, undef, undef, undef, undef, undef, undef, s26, s27, s28, s29, s30, s31, s32, s33, s34, undef, undef, undef, undef, undef, undef, undef, undef, undef, undef, undef, undef, undef, undef, undef, undef, undef, undef, undef, undef, undef, undef, undef, undef, undef, undef, undef, undef, undef, undef, undef, undef, undef, undef, undef, undef, undef, undef, undef, undef, undef, undef, undef, undef, undef, undef, undef, undef, undef, undef, undef, undef, undef, undef, undef, undef, undef, undef, undef, undef, undef, undef, undef, undef, undef, undef, undef, undef, undef, undef, undef, undef, undef, undef, undef, undef, undef, undef, undef, undef, undef, undef, undef, undef, undef, undef, undef, undef, undef, undef, undef, undef, undef, undef, undef, undef, undef, undef, undef, undef, undef, undef, undef, undef, undef, undef, undef, undef, undef, undef, undef, undef, undef, undef, undef, undef, undef, undef, undef, undef, undef, undef, undef, undef, undef, undef, undef, undef, undef, undef, undef, undef, undef, undef, undef, undef, undef, undef, undef, undef, undef, undef, undef, undef, undef, undef, undef, undef, undef, undef, undef, undef, undef, undef, undef, undef, undef, undef, undef, undef, undef, undef, undef, undef, undef, undef, undef, undef, undef, undef, undef, undef, undef, undef, undef, undef, undef, undef, undef, undef, undef, undef, undef, undef, undef, undef, undef, undef, undef, undef, undef, undef, undef, undef, undef, undef, undef, undef, undef, undef, undef, undef, undef, undef, undef, undef, undef, undef], []⟩ U := by
  obtain ⟨i0, hi0, hz0, hz1, hz2⟩ := info_parts sumInfo3
  have la := xa.2.1
  have lb := xb.2.1
  have lc := xc.2.1
  have HIa := Lib.hid (arr32_info xa.1 (by omega))
  have HIb := Lib.hid (arr32_info xb.1 (by omega))
  have HIc := Lib.hid (arr32_info xc.1 (by omega))
  have HRa := Lib.hid hF.one.row
  have HRb := Lib.hid hF.two.row
  have HRc := Lib.hid hF.three.row
  have HZa := Lib.hid (show (arr32 xa.1).size = i0.size by rw [hz1, arr32_size _ (by omega)])
  have HZb := Lib.hid (show (arr32 xb.1).size = i0.size by rw [hz1, arr32_size _ (by omega)])
  have HZc := Lib.hid (show (arr32 xc.1).size = i0.size by rw [hz1, arr32_size _ (by omega)])
  have HF := Lib.hid hF
  have hcells : ((arr32 xa.1).toList ++ ((arr32 xb.1).toList ++ (arr32 xc.1).toList)).toArray = (digCells [xa, xb, xc]).toArray := by simp [digCells, cellsOf]
  have HCells := Lib.hid hcells
  clear hF hcells
  conv => arg 2; whnf
  apply wp_seq_k
  intro K hK
  have hK2 : ∀ (s26 s27 s28 s29 s30 s31 s32 s33 s34 s35 s36 s37 s38 : Value) (W : World) (q : Nat) (hT : Three xa xb xc p1 p2 p3 q w0 W), K ⟨#[.bool false, .pointer (some ⟨p1, 0, none⟩), .pointer (some ⟨p2, 0, none⟩), .pointer (some ⟨p3, 0, none⟩), .slice (some ⟨q, 0, none⟩) 3 3, undef, undef, undef, undef, undef, undef, undef, undef, undef, undef, undef, undef, undef, undef, undef, undef, undef, undef, undef, undef, undef, s26, s27, s28, s29, s30, s31, s32, s33, s34, s35, s36, s37, s38, undef, undef, undef, undef, undef, undef, undef, undef, undef, undef, undef, undef, undef, undef, undef, undef, undef, undef, undef, undef, undef, undef, undef, undef, undef, undef, undef, undef, undef, undef, undef, undef, undef, undef, undef, undef, undef, undef, undef, undef, undef, undef, undef, undef, undef, undef, undef, undef, undef, undef, undef, undef, undef, undef, undef, undef, undef, undef, undef, undef, undef, undef, undef, undef, undef, undef, undef, undef, undef, undef, undef, undef, undef, undef, undef, undef, undef, undef, undef, undef, undef, undef, undef, undef, undef, undef, undef, undef, undef, undef, undef, undef, undef, undef, undef, undef, undef, undef, undef, undef, undef, undef, undef, undef, undef, undef, undef, undef, undef, undef, undef, undef, undef, undef, undef, undef, undef, undef, undef, undef, undef, undef, undef, undef, undef, undef, undef, undef, undef, undef, undef, undef, undef, undef, undef, undef, undef, undef, undef, undef, undef, undef, undef, undef, undef, undef, undef, undef, undef, undef, undef, undef, undef, undef, undef, undef, undef, undef, undef, undef, undef, undef, undef, undef, undef, undef, undef, undef, undef, undef, undef, undef, undef, undef, undef, undef, undef, undef, undef, undef, undef, undef, undef, undef, undef, undef, undef, undef, undef, undef, undef, undef, undef, undef, undef, undef, undef, undef, undef, undef, undef, undef, undef, undef], []⟩ W := fun s26 s27 s28 s29 s30 s31 s32 s33 s34 s35 s36 s37 s38 W q hT => hK _ _ (aw3 xa xb xc ha hb hc w0 Q hQ p1 p2 p3 q W hT s26 s27 s28 s29 s30 s31 s32 s33 s34 s35 s36 s37 s38)
  clear hK
  go_wp2_with (first
    | ((with_reducible refine arm_load (w := U) ⟨p1, 0, none⟩ _ _ HRa.out Tryd.underlying26 HIa.out ?h1 ?h2 ?_); (case h1 => rfl); (case h2 => rfl))
    | ((with_reducible refine arm_load (w := U) ⟨p2, 0, none⟩ _ _ HRb.out Tryd.underlying26 HIb.out ?h3 ?h4 ?_); (case h3 => rfl); (case h4 => rfl))
    | ((with_reducible refine arm_load (w := U) ⟨p3, 0, none⟩ _ _ HRc.out Tryd.underlying26 HIc.out ?h5 ?h6 ?_); (case h5 => rfl); (case h6 => rfl))
    | ((with_reducible refine arm_slice3 26 i0 _ (arr32 xa.1) (arr32 xb.1) (arr32 xc.1) Tryd.underlying49 hi0 hz0 HZa.out HZb.out HZc.out ?s1 ?s2 ?s3 ?s4 ?s5 ?_); (case s1 => omega); (case s2 => omega); (case s3 => rfl); (case s4 => rfl); (case s5 => rfl)))
  have hb0 := (Below.refl U.heap.size U).alloc (Nat.le_refl _) (.cells (digCells [xa, xb, xc]).toArray 26)
  have hres : Three xa xb xc p1 p2 p3 U.heap.size w0 (U.alloc (.cells (digCells [xa, xb, xc]).toArray 26)) :=
    ⟨HF.out.below.trans (hb0.mono HF.out.below.size), HF.out.const.below hb0 rfl, HF.out.one.alloc _, HF.out.two.alloc _, HF.out.three.alloc _, Has.fresh U _ _⟩
  rw [← HCells.out] at hres
  exact hres
set_option maxRecDepth 100000 in
set_option maxHeartbeats 3000000 in
theorem aw1 (xa xb xc : Dig) (ha : Hid (xa.1 = Sha.sha [97])) (hb : Hid (xb.1 = Sha.sha [98])) (hc : Hid (xc.1 = Sha.sha [99])) (w0 : World) (Q : Exit → Act → World → Prop) (hQ : Ends w0 Q) (hcon : ConstAt w0)
     : Code.wp Tryd.prog (awTail 1) Q ⟨#[.bool false, undef, undef, undef, undef, undef, undef, undef, undef, undef, undef, undef, undef, undef, undef, undef, undef, undef, undef, undef, undef, undef, undef, undef, undef, undef, undef, undef, undef, undef, undef, undef, undef, undef, undef, undef, undef, undef, undef, undef, undef, undef, undef, undef, undef, undef, undef, undef, undef, undef, undef, undef, undef, undef, undef, undef, undef, undef, undef, undef, undef, undef, undef, undef, undef, undef, undef, undef, undef, undef, undef, undef, undef, undef, undef, undef, undef, undef, undef, undef, undef, undef, undef, undef, undef, undef, undef, undef, undef, undef, undef, undef, undef, undef, undef, undef, undef, undef, undef, undef, undef, undef, undef, undef, undef, undef, undef, undef, undef, undef, undef, undef, undef, undef, undef, undef, undef, undef, undef, undef, undef, undef, undef, undef, undef, undef, undef, undef, undef, undef, undef, undef, undef, undef, undef, undef, undef, undef, undef, undef, undef, undef, undef, undef, undef, undef, undef, undef, undef, undef, undef, undef, undef, undef, undef, undef, undef, undef, undef, undef, undef, undef, undef, undef, undef, undef, undef, undef, undef, undef, undef, undef, undef, undef, undef, undef, undef, undef, undef, undef, undef, undef, undef, undef, undef, undef, undef, undef, undef, undef, undef, undef, undef, undef, undef, undef, undef, undef, undef, undef, undef, undef, undef, undef, undef, undef, undef, undef, undef, undef, undef, undef, undef, undef, undef, undef, undef, undef, undef, undef, undef, undef, undef, undef, undef, undef, undef, undef, undef, undef, undef, undef, undef, undef, undef, undef, undef, undef, undef, undef, undef, undef, undef], []⟩ w0 := by
  have la := xa.2.1
  have lb := xb.2.1
  have lc := xc.2.1
  have HIa := Lib.hid (arr32_info xa.1 (by omega))
  have HIb := Lib.hid (arr32_info xb.1 (by omega))
  have HIc := Lib.hid (arr32_info xc.1 (by omega))
  have HSa := Lib.hid (zero32_size xa.1 (by omega))
  have HSb := Lib.hid (zero32_size xb.1 (by omega))
  have HSc := Lib.hid (zero32_size xc.1 (by omega))
  have HC := Lib.hid hcon
  have hcv := convert_bytes
  have HOa : Hid (∀ V : World, ConstAt V → Calls Tryd.prog 17 #[.slice (some ⟨V.heap.size, 0, none⟩) 1 1] (V.alloc (.cells #[.int .u8 97] 5 (1, 2))) fun e w' => e = .returned (.agg (arr32 xa.1)) ∧ xa.1.length = 32 ∧ Below V.heap.size V w') := Lib.hid fun V hV => of_one 97 (by decide) V hV xa.1 ha
  have HOb : Hid (∀ V : World, ConstAt V → Calls Tryd.prog 17 #[.slice (some ⟨V.heap.size, 0, none⟩) 1 1] (V.alloc (.cells #[.int .u8 98] 5 (1, 2))) fun e w' => e = .returned (.agg (arr32 xb.1)) ∧ xb.1.length = 32 ∧ Below V.heap.size V w') := Lib.hid fun V hV => of_one 98 (by decide) V hV xb.1 hb
  have HOc : Hid (∀ V : World, ConstAt V → Calls Tryd.prog 17 #[.slice (some ⟨V.heap.size, 0, none⟩) 1 1] (V.alloc (.cells #[.int .u8 99] 5 (1, 2))) fun e w' => e = .returned (.agg (arr32 xc.1)) ∧ xc.1.length = 32 ∧ Below V.heap.size V w') := Lib.hid fun V hV => of_one 99 (by decide) V hV xc.1 hc
  clear hcon
  conv => arg 2; whnf
  apply wp_seq_k
  intro K hK
  have hK2 : ∀ (s26 s27 s28 s29 s30 s31 s32 s33 s34 : Value) (W : World) (p1 p2 p3 : Nat) (hT : Three0 xa xb xc p1 p2 p3 w0 W), K ⟨#[.bool false, .pointer (some ⟨p1, 0, none⟩), .pointer (some ⟨p2, 0, none⟩), .pointer (some ⟨p3, 0, none⟩), undef, undef, undef, undef, undef, undef, undef, undef, undef, undef, undef, undef, undef, undef, undef, undef, undef, undef, undef, undef, undef, undef, s26, s27, s28, s29, s30, s31, s32, s33, s34, undef, undef, undef, undef, undef, undef, undef, undef, undef, undef, undef, undef, undef, undef, undef, undef, undef, undef, undef, undef, undef, undef, undef, undef, undef, undef, undef, undef, undef, undef, undef, undef, undef, undef, undef, undef, undef, undef, undef, undef, undef, undef, undef, undef, undef, undef, undef, undef, undef, undef, undef, undef, undef, undef, undef, undef, undef, undef, undef, undef, undef, undef, undef, undef, undef, undef, undef, undef, undef, undef, undef, undef, undef, undef, undef, undef, undef, undef, undef, undef, undef, undef, undef, undef, undef, undef, undef, undef, undef, undef, undef, undef, undef, undef, undef, undef, undef, undef, undef, undef, undef, undef, undef, undef, undef, undef, undef, undef, undef, undef, undef, undef, undef, undef, undef, undef, undef, undef, undef, undef, undef, undef, undef, undef, undef, undef, undef, undef, undef, undef, undef, undef, undef, undef, undef, undef, undef, undef, undef, undef, undef, undef, undef, undef, undef, undef, undef, undef, undef, undef, undef, undef, undef, undef, undef, undef, undef, undef, undef, undef, undef, undef, undef, undef, undef, undef, undef, undef, undef, undef, undef, undef, undef, undef, undef, undef, undef, undef, undef, undef, undef, undef, undef, undef, undef, undef, undef, undef, undef, undef, undef, undef, undef, undef, undef, undef, undef, undef, undef, undef, undef, undef, undef, undef, undef, undef, undef, undef], []⟩ W := fun s26 s27 s28 s29 s30 s31 s32 s33 s34 W p1 p2 p3 hT => hK _ _ (aw2 xa xb xc ha hb hc w0 Q hQ p1 p2 p3 W hT s26 s27 s28 s29 s30 s31 s32 s33 s34)
  clear hK
  go_wp2_with (first
    | (go_at_call 17; (with_reducible refine (HOa.out w0 HC.out).mono ?_); rintro e w1 ⟨rfl, _, hb1⟩; have HB1 := Lib.hid hb1; have HC1 := Lib.hid (HC.out.below hb1 rfl); clear hb1)
    | (go_at_call 17; (with_reducible refine (HOb.out w1 HC1.out).mono ?_); rintro e w2 ⟨rfl, _, hb2⟩; have HB2 := Lib.hid (HB1.out.trans (hb2.mono HB1.out.size)); have HC2 := Lib.hid (HC1.out.below hb2 rfl); clear hb2)
    | (go_at_call 17; (with_reducible refine (HOc.out w2 HC2.out).mono ?_); rintro e w3 ⟨rfl, _, hb3⟩; have HB3 := Lib.hid (HB2.out.trans (hb3.mono HB2.out.size)); have HC3 := Lib.hid (HC2.out.below hb3 rfl); have HF1 : Hid (Has (((w3.alloc (.cells zero32 26)).alloc (.cells zero32 26)).alloc (.cells zero32 26)) w3.heap.size 26 zero32) := Lib.hid (((Has.fresh_at _ _ _ _ rfl).alloc _).alloc _); have HF2 : Hid (Has ((((w3.alloc (.cells zero32 26)).alloc (.cells zero32 26)).alloc (.cells zero32 26)).setRow w3.heap.size (arr32 xa.1)) (w3.heap.size + 1) 26 zero32) := Lib.hid (((Has.fresh_at _ _ _ _ (by simp)).alloc _).setRow_apart (by omega)); have HF3 : Hid (Has (((((w3.alloc (.cells zero32 26)).alloc (.cells zero32 26)).alloc (.cells zero32 26)).setRow w3.heap.size (arr32 xa.1)).setRow (w3.heap.size + 1) (arr32 xb.1)) (w3.heap.size + 1 + 1) 26 zero32) := Lib.hid (((Has.fresh_at _ _ _ _ (by simp)).setRow_apart (by omega)).setRow_apart (by omega)); clear hb3)
    | ((with_reducible refine arm_store w3.heap.size (arr32 xa.1) 26 zero32 HF1.out HSa.out HIa.out (arr32_one _) ?h1 ?h2 ?_); (case h1 => rfl); (case h2 => rfl))
    | ((with_reducible refine arm_store (w3.heap.size + 1) (arr32 xb.1) 26 zero32 HF2.out HSb.out HIb.out (arr32_one _) ?h3 ?h4 ?_); (case h3 => rfl); (case h4 => rfl))
    | ((with_reducible refine arm_store (w3.heap.size + 1 + 1) (arr32 xc.1) 26 zero32 HF3.out HSc.out HIc.out (arr32_one _) ?h5 ?h6 ?_); (case h5 => rfl); (case h6 => rfl)))
  have hbz : Below w0.heap.size w0 (((w3.alloc (.cells zero32 26)).alloc (.cells zero32 26)).alloc (.cells zero32 26)) := ((HB3.out.alloc HB3.out.size _).alloc (by have := HB3.out.size; simp; omega) _).alloc (by have := HB3.out.size; simp; omega) _
  have hcz : ConstAt (((w3.alloc (.cells zero32 26)).alloc (.cells zero32 26)).alloc (.cells zero32 26)) := HC3.out.below (B := w3.heap.size) ((((Below.refl _ w3).alloc (Nat.le_refl _) _).alloc (by simp) _).alloc (by simp; omega) _) rfl
  exact ⟨below_setRow (below_setRow (below_setRow hbz HB3.out.size _) (by have := HB3.out.size; omega) _) (by have := HB3.out.size; omega) _, const_setRow (const_setRow (const_setRow hcz HF1.out HC3.out (Nat.le_refl _) _) HF2.out HC3.out (by omega) _) HF3.out HC3.out (by omega) _, (HF1.out.setRow.setRow_apart (by omega)).setRow_apart (by omega), HF2.out.setRow.setRow_apart (by omega), HF3.out.setRow⟩
set_option maxRecDepth 100000 in
set_option maxHeartbeats 3000000 in
theorem aw0 (xa xb xc : Dig) (ha : Hid (xa.1 = Sha.sha [97])) (hb : Hid (xb.1 = Sha.sha [98])) (hc : Hid (xc.1 = Sha.sha [99])) (w0 : World) (Q : Exit → Act → World → Prop) (hQ : Ends w0 Q) (hcon : ConstAt w0) : Code.wp Tryd.prog (awTail 0) Q ⟨#[undef, undef, undef, undef, undef, undef, undef, undef, undef, undef, undef, undef, undef, undef, undef, undef, undef, undef, undef, undef, undef, undef, undef, undef, undef, undef, undef, undef, undef, undef, undef, undef, undef, undef, undef, undef, undef, undef, undef, undef, undef, undef, undef, undef, undef, undef, undef, undef, undef, undef, undef, undef, undef, undef, undef, undef, undef, undef, undef, undef, undef, undef, undef, undef, undef, undef, undef, undef, undef, undef, undef, undef, undef, undef, undef, undef, undef, undef, undef, undef, undef, undef, undef, undef, undef, undef, undef, undef, undef, undef, undef, undef, undef, undef, undef, undef, undef, undef, undef, undef, undef, undef, undef, undef, undef, undef, undef, undef, undef, undef, undef, undef, undef, undef, undef, undef, undef, undef, undef, undef, undef, undef, undef, undef, undef, undef, undef, undef, undef, undef, undef, undef, undef, undef, undef, undef, undef, undef, undef, undef, undef, undef, undef, undef, undef, undef, undef, undef, undef, undef, undef, undef, undef, undef, undef, undef, undef, undef, undef, undef, undef, undef, undef, undef, undef, undef, undef, undef, undef, undef, undef, undef, undef, undef, undef, undef, undef, undef, undef, undef, undef, undef, undef, undef, undef, undef, undef, undef, undef, undef, undef, undef, undef, undef, undef, undef, undef, undef, undef, undef, undef, undef, undef, undef, undef, undef, undef, undef, undef, undef, undef, undef, undef, undef, undef, undef, undef, undef, undef, undef, undef, undef, undef, undef, undef, undef, undef, undef, undef, undef, undef, undef, undef, undef, undef, undef, undef, undef, undef, undef, undef, undef, undef], []⟩ w0 := by
  conv => arg 2; whnf
  apply wp_seq_k
  intro K hK
  have hK2 : K ⟨#[.bool false, undef, undef, undef, undef, undef, undef, undef, undef, undef, undef, undef, undef, undef, undef, undef, undef, undef, undef, undef, undef, undef, undef, undef, undef, undef, undef, undef, undef, undef, undef, undef, undef, undef, undef, undef, undef, undef, undef, undef, undef, undef, undef, undef, undef, undef, undef, undef, undef, undef, undef, undef, undef, undef, undef, undef, undef, undef, undef, undef, undef, undef, undef, undef, undef, undef, undef, undef, undef, undef, undef, undef, undef, undef, undef, undef, undef, undef, undef, undef, undef, undef, undef, undef, undef, undef, undef, undef, undef, undef, undef, undef, undef, undef, undef, undef, undef, undef, undef, undef, undef, undef, undef, undef, undef, undef, undef, undef, undef, undef, undef, undef, undef, undef, undef, undef, undef, undef, undef, undef, undef, undef, undef, undef, undef, undef, undef, undef, undef, undef, undef, undef, undef, undef, undef, undef, undef, undef, undef, undef, undef, undef, undef, undef, undef, undef, undef, undef, undef, undef, undef, undef, undef, undef, undef, undef, undef, undef, undef, undef, undef, undef, undef, undef, undef, undef, undef, undef, undef, undef, undef, undef, undef, undef, undef, undef, undef, undef, undef, undef, undef, undef, undef, undef, undef, undef, undef, undef, undef, undef, undef, undef, undef, undef, undef, undef, undef, undef, undef, undef, undef, undef, undef, undef, undef, undef, undef, undef, undef, undef, undef, undef, undef, undef, undef, undef, undef, undef, undef, undef, undef, undef, undef, undef, undef, undef, undef, undef, undef, undef, undef, undef, undef, undef, undef, undef, undef, undef, undef, undef, undef, undef, undef], []⟩ w0 := hK _ _ (aw1 xa xb xc ha hb hc w0 Q hQ hcon)
  clear hK
  go_wp2
  exact hK2
set_option maxRecDepth 100000 in
set_option maxHeartbeats 3000000 in
/-- THE EXAMPLES OF THE CHAPTER: they are met. -/
theorem awake_any (w : World) (hc : ConstAt w) : Calls Tryd.prog 15 #[] w fun e w' => e = .returned (.bool true) ∧ Below w.heap.size w w' := by
  go_enter Tryd.func15, Tryd.ntmps15
  have hQ : Ends w (bodyPost Tryd.prog Tryd.f15 fun e w' => e = .returned (.bool true) ∧ Below w.heap.size w w') := ⟨fun a w' hd h0 hb => ⟨hd, _, results_tmp (t := 0) rfl _ _ _, by rw [h0], hb⟩, fun c a a' w' hd h => ⟨hd.trans h.1, h.2⟩⟩
  exact aw0 ⟨Sha.sha [97], sha_bytes _⟩ ⟨Sha.sha [98], sha_bytes _⟩ ⟨Sha.sha [99], sha_bytes _⟩ (Lib.hid rfl) (Lib.hid rfl) (Lib.hid rfl) w _ hQ hc
end Go.Proofs.YtcocljghoiacmaaDoor
end
section
namespace Go.Proofs.YtcocljghoiacmaaDoor
open Go.RowKit Go.Hoar
theorem digests_big (bs : List Nat) (hbig : 70000 < bs.length) (a : Option Addr) (c : Nat) (w : World) (hc : ConstAt w) :
    Calls Tryd.prog 3 #[.slice a bs.length c] w fun e w' => e = .returned (.bool true) ∧ Below w.heap.size w w' := by
  have hb2 : (70000 : Int) < bs.length := by omega
  have HAw : Hid (∀ V : World, Below w.heap.size w V → Calls Tryd.prog 15 #[] V fun e w' => e = .returned (.bool true) ∧ Below V.heap.size V w') := Lib.hid fun V hV => awake_any V (hc.below hV rfl)
  clear hc hbig
  go_enter Tryd.func3, Tryd.ntmps3
  go_wp2_with (go_at_call 15; (with_reducible refine (HAw.out _ (Below.refl _ _)).mono ?_); rintro e w1 ⟨rfl, hb1⟩; have HB1 := Lib.hid hb1; clear hb1)
  go_ret
  exact ⟨rfl, HB1.out⟩
set_option maxRecDepth 100000 in
set_option maxHeartbeats 2000000 in
/-- THE LAW's WALK. -/
theorem digests_law (bs : List Nat) (hbs : Sha.Bytes bs) (a : Option Addr) (c : Nat) (w : World) (hp : PartOk w a c bs) (hc1 : bs.length ≤ c) (hc2 : c ≤ maxLen) (hc : ConstAt w) :
    Calls Tryd.prog 3 #[.slice a bs.length c] w fun e w' => e = .returned (.bool true) ∧ Below w.heap.size w w' := by
  by_cases hbig : 70000 < bs.length
  · exact digests_big bs hbig a c w hc
  · have hsm : (bs.length : Int) ≤ 70000 := by omega
    obtain ⟨out, hout⟩ : ∃ out, out = Sha.sha bs := ⟨_, rfl⟩
    have hol : out.length = 32 := by rw [hout]; exact (sha_bytes _).1
    have HCl := Lib.hid (clone_part hp (by omega))
    have HC := Lib.hid hc
    have HP := Lib.hid hp
    have HOut := Lib.hid hout
    have HBs := Lib.hid hbs
    clear hc hp hout hbig hbs
    go_enter Tryd.func3, Tryd.ntmps3
    go_wp2_with (go_at_call 16; (with_reducible refine HCl.out.mono ?_); rintro e w1 ⟨a1, c1, rfl, ho1, hb1⟩; have HO1 := Lib.hid ho1; have HB1 := Lib.hid hb1; clear ho1 hb1)
    have hp1 := (part_own HO1.out).1
    have hcap : CapOk a1 bs.length c1 := fun g off e => by have := own_cap HO1.out g off e; exact ⟨this.1, this.2.1⟩
    have hp0 := HP.out.below HB1.out
    have hcw := HC.out.below HB1.out rfl
    have cOf : ∀ V, Below w1.heap.size w1 V → Calls Tryd.prog 17 #[.slice a1 bs.length c1] V fun e w' => e = .returned (.agg (arr32 out)) ∧ Below V.heap.size V w' := fun V hV => (of_any bs a1 c1 V (hp1.below hV) HBs.out (by omega) hcap (hcw.below hV rfl) out HOut).mono fun e w' ⟨he, _, hb⟩ => ⟨he, hb⟩
    have cRef : ∀ V, Below w1.heap.size w1 V → Calls Tryd.prog 18 #[.slice a bs.length c] V fun e w' => e = .returned (.agg (arr32 out)) ∧ Below V.heap.size V w' := fun V hV => refOf_any bs a c V HBs.out (hp0.below hV) hc1 hc2 (by omega) (by omega) out HOut
    have cEq : ∀ V, Below w1.heap.size w1 V → Calls Tryd.prog 19 #[.slice a1 bs.length c1, .slice a bs.length c] V fun e w' => e = .returned (.bool true) ∧ w' = V := fun V hV => by
      have := equal_any bs bs HBs.out HBs.out a1 a c1 c V (hp1.below hV) (hp0.below hV)
      rwa [decide_eq_true rfl] at this
    have cAw : ∀ V, Below w1.heap.size w1 V → Calls Tryd.prog 15 #[] V fun e w' => e = .returned (.bool true) ∧ Below V.heap.size V w' := fun V hV => awake_any V (hcw.below hV rfl)
    have heq : ∀ V : World, (binOp .eql 26 (.agg (arr32 out)) (.agg (arr32 out))).run Tryd.prog V = .ok (.bool true) V := fun V => by
      have := sum_eql out out hol hol V
      rwa [decide_eq_true rfl] at this
    have hguard := sum_guard
    have COf := Lib.hid cOf
    have CRef := Lib.hid cRef
    have CEq := Lib.hid cEq
    have CAw := Lib.hid cAw
    clear hp1 hcap hp0 hcw cOf cRef cEq cAw
    go_wp2_with (first
      | (go_at_call 17; (with_reducible refine (COf.out _ (Below.refl _ _)).mono ?_); rintro e w2 ⟨rfl, hb2⟩; have HB2 := Lib.hid hb2; clear hb2)
      | (go_at_call 18; (with_reducible refine (CRef.out _ HB2.out).mono ?_); rintro e w3 ⟨rfl, hb3⟩; have HB3 := Lib.hid (HB2.out.trans (hb3.mono HB2.out.size)); clear hb3)
      | (go_at_call 19; (with_reducible refine (CEq.out _ HB3.out).mono ?_); rintro e w4 ⟨rfl, rfl⟩)
      | (go_at_call 15; (with_reducible refine (CAw.out _ HB3.out).mono ?_); rintro e w5 ⟨rfl, hb5⟩; have HB5 := Lib.hid (HB3.out.trans (hb5.mono HB3.out.size)); clear hb5))
    go_ret
    exact ⟨rfl, HB1.out.trans (HB5.out.mono HB1.out.size)⟩
end Go.Proofs.YtcocljghoiacmaaDoor
end
