/-
  THE TABLE OF CONSTANTS as the rows list it, and a world that holds it.
  · YtillghidmfglpaaDoorAwC
  · YtillghidmfglpaaDoorAwake
  · YtillghidmfglpaaDoorRefDig
  · YtillghidmfglpaaDoorRefCmp
  · YtillghidmfglpaaDoorRefUnhex
  · YtillghidmfglpaaDoorRefHex
  · YtillghidmfglpaaDoorDigits
  · ARRAYS OF INTEGERS AS ARGUMENTS: opened and shut. No program is spoken of.
  · WHAT A ROW's POST ASKS, from 'nothing that was there has turned'; the program's table of constants as the row lists it; a world that holds it.
-/
import Derived.Test.YtillghidmfglpaaDoorMDgh
import Derived.Test.YtillghidmfglpaaDoorMDgc
import Derived.Test.YtillghidmfglpaaDoorMDgd
import Derived.BigQuiet
import Derived.OpenShut
import Derived.RowKit2
import Derived.ChangeShapes
import Derived.WideKeyArr2
import Derived.Test.YtillghidmfglpaaDoorCards
import Derived.Test.YtillghidmfglpaaDoorTie
import Derived.WalkKit
import Derived.ProofKit
import Derived.Deep.DeepHandedRow
import Derived.Lib.LaidTab
import Derived.Below
import Derived.Carry
import Derived.SizedLaws
import Derived.ChangeMaps5
import Derived.Test.YtillghidmfglpaaDoorMDgb
import Derived.Test.YtillghidmfglpaaDoorMDga
section
namespace Go.Proofs.YtillghidmfglpaaDoor
open Go.RowKit Go.Hoar Go.Maps Go.Shelf
set_option maxRecDepth 100000 in
set_option maxHeartbeats 3000000 in
theorem aw6 (xa xb xc : Dig) (ha : Hid (xa.1 = Sha.sha [97])) (hb : Hid (xb.1 = Sha.sha [98])) (hc : Hid (xc.1 = Sha.sha [99])) (w0 : World) (Q : Exit → Act → World → Prop) (hQ : Ends w0 Q) (p1 p2 p3 q : Nat) (U : World) (hF : Three xa xb xc p1 p2 p3 q w0 U)
    (s26 s27 s28 s29 s30 s31 s32 s33 s34 s35 s36 s37 s38 s39 s40 s41 s42 s43 s44 s45 s46 s47 s48 s49 s50 s51 s52 s53 s54 s55 s56 s57 s58 s59 s60 s61 s62 s63 s64 s65 s66 s67 s68 s69 s70 s71 s72 s73 s74 s75 s76 s77 s78 s79 s80 : Value) : Code.wp Tryd.prog (awTail 6) Q ⟨#[.bool false, .pointer (some ⟨p1, 0, none⟩), .pointer (some ⟨p2, 0, none⟩), .pointer (some ⟨p3, 0, none⟩), .slice (some ⟨q, 0, none⟩) 3 3, .int .i64 1, .int .i64 0, .int .i64 0, .int .i64 6, undef, undef, undef, undef, undef, undef, undef, undef, undef, undef, undef, undef, undef, undef, undef, undef, undef, s26, s27, s28, s29, s30, s31, s32, s33, s34, s35, s36, s37, s38, s39, s40, s41, s42, s43, s44, s45, s46, s47, s48, s49, s50, s51, s52, s53, s54, s55, s56, s57, s58, s59, s60, s61, s62, s63, s64, s65, s66, s67, s68, s69, s70, s71, s72, s73, s74, s75, s76, s77, s78, s79, s80, undef, undef, undef, undef, undef, undef, undef, undef, undef, undef, undef, undef, undef, undef, undef, undef, undef, undef, undef, undef, undef, undef, undef, undef, undef, undef, undef, undef, undef, undef, undef, undef, undef, undef, undef, undef, undef, undef, undef, undef, undef, undef, undef, undef, undef, undef, undef, undef, undef, undef, undef, undef, undef, undef, undef, undef, undef, undef, undef, undef, undef, undef, undef, undef, undef, undef, undef, undef, undef, undef, undef, undef, undef, undef, undef, undef, undef, undef, undef, undef, undef, undef, undef, undef, undef, undef, undef, undef, undef, undef, undef, undef, undef, undef, undef, undef, undef, undef, undef, undef, undef, undef, undef, undef, undef, undef, undef, undef, undef, undef, undef, undef, undef, undef, undef, undef, undef, undef, undef, undef, undef, undef, undef, undef, undef, undef, undef, undef, undef, undef, undef, undef, undef, undef, undef, undef, undef, undef, undef, undef, undef, undef, undef, undef, undef, undef, undef, undef, undef, undef, undef, undef, undef, undef, undef, undef, undef, undef, undef, undef, undef, undef], []⟩ U := by
  have HT := Lib.hid hF
  have HS := Lib.hid hF.sums
  have hlq := hF.list.lt
  clear hF
  conv => arg 2; whnf
  apply wp_seq_k
  intro K hK
  have hK2 : ∀ (s26 s27 s28 s29 s30 s31 s32 s33 s34 s35 s36 s37 s38 s39 s40 s41 s42 s43 s44 s45 s46 s47 s48 s49 s50 s51 s52 s53 s54 s55 s56 s57 s58 s59 s60 s61 s62 s63 s64 s65 s66 s67 s68 s69 s70 s71 s72 s73 s74 s75 s76 s77 s78 s79 s80 s81 s82 s83 s84 s85 : Value) (W : World) (hT : Three xa xb xc p1 p2 p3 q w0 W), K ⟨#[.bool false, .pointer (some ⟨p1, 0, none⟩), .pointer (some ⟨p2, 0, none⟩), .pointer (some ⟨p3, 0, none⟩), .slice (some ⟨q, 0, none⟩) 3 3, .int .i64 1, .int .i64 0, .int .i64 0, .int .i64 6, .int .i64 0, .int .i64 4, undef, undef, undef, undef, undef, undef, undef, undef, undef, undef, undef, undef, undef, undef, undef, s26, s27, s28, s29, s30, s31, s32, s33, s34, s35, s36, s37, s38, s39, s40, s41, s42, s43, s44, s45, s46, s47, s48, s49, s50, s51, s52, s53, s54, s55, s56, s57, s58, s59, s60, s61, s62, s63, s64, s65, s66, s67, s68, s69, s70, s71, s72, s73, s74, s75, s76, s77, s78, s79, s80, s81, s82, s83, s84, s85, undef, undef, undef, undef, undef, undef, undef, undef, undef, undef, undef, undef, undef, undef, undef, undef, undef, undef, undef, undef, undef, undef, undef, undef, undef, undef, undef, undef, undef, undef, undef, undef, undef, undef, undef, undef, undef, undef, undef, undef, undef, undef, undef, undef, undef, undef, undef, undef, undef, undef, undef, undef, undef, undef, undef, undef, undef, undef, undef, undef, undef, undef, undef, undef, undef, undef, undef, undef, undef, undef, undef, undef, undef, undef, undef, undef, undef, undef, undef, undef, undef, undef, undef, undef, undef, undef, undef, undef, undef, undef, undef, undef, undef, undef, undef, undef, undef, undef, undef, undef, undef, undef, undef, undef, undef, undef, undef, undef, undef, undef, undef, undef, undef, undef, undef, undef, undef, undef, undef, undef, undef, undef, undef, undef, undef, undef, undef, undef, undef, undef, undef, undef, undef, undef, undef, undef, undef, undef, undef, undef, undef, undef, undef, undef, undef, undef, undef, undef, undef, undef, undef, undef, undef, undef, undef, undef, undef], []⟩ W := fun s26 s27 s28 s29 s30 s31 s32 s33 s34 s35 s36 s37 s38 s39 s40 s41 s42 s43 s44 s45 s46 s47 s48 s49 s50 s51 s52 s53 s54 s55 s56 s57 s58 s59 s60 s61 s62 s63 s64 s65 s66 s67 s68 s69 s70 s71 s72 s73 s74 s75 s76 s77 s78 s79 s80 s81 s82 s83 s84 s85 W hT => hK _ _ (aw7 xa xb xc ha hb hc w0 Q hQ p1 p2 p3 q W hT s26 s27 s28 s29 s30 s31 s32 s33 s34 s35 s36 s37 s38 s39 s40 s41 s42 s43 s44 s45 s46 s47 s48 s49 s50 s51 s52 s53 s54 s55 s56 s57 s58 s59 s60 s61 s62 s63 s64 s65 s66 s67 s68 s69 s70 s71 s72 s73 s74 s75 s76 s77 s78 s79 s80 s81 s82 s83 s84 s85)
  clear hK
  go_wp2_with (go_at_call 45; (with_reducible refine (find_G _ U).mono ?_); rintro e u1 ⟨rfl, hb1⟩; have HB1 := Lib.hid hb1; clear hb1)
  exact HT.out.mono HB1.out
set_option maxRecDepth 100000 in
set_option maxHeartbeats 3000000 in
theorem aw5 (xa xb xc : Dig) (ha : Hid (xa.1 = Sha.sha [97])) (hb : Hid (xb.1 = Sha.sha [98])) (hc : Hid (xc.1 = Sha.sha [99])) (w0 : World) (Q : Exit → Act → World → Prop) (hQ : Ends w0 Q) (p1 p2 p3 q : Nat) (U : World) (hF : Three xa xb xc p1 p2 p3 q w0 U)
    (s26 s27 s28 s29 s30 s31 s32 s33 s34 s35 s36 s37 s38 s39 s40 s41 s42 s43 s44 s45 s46 s47 s48 s49 s50 s51 s52 s53 s54 s55 s56 s57 s58 s59 s60 s61 s62 s63 s64 s65 s66 s67 s68 s69 s70 s71 s72 s73 s74 s75 : Value) : Code.wp Tryd.prog (awTail 5) Q ⟨#[.bool false, .pointer (some ⟨p1, 0, none⟩), .pointer (some ⟨p2, 0, none⟩), .pointer (some ⟨p3, 0, none⟩), .slice (some ⟨q, 0, none⟩) 3 3, .int .i64 1, .int .i64 0, undef, undef, undef, undef, undef, undef, undef, undef, undef, undef, undef, undef, undef, undef, undef, undef, undef, undef, undef, s26, s27, s28, s29, s30, s31, s32, s33, s34, s35, s36, s37, s38, s39, s40, s41, s42, s43, s44, s45, s46, s47, s48, s49, s50, s51, s52, s53, s54, s55, s56, s57, s58, s59, s60, s61, s62, s63, s64, s65, s66, s67, s68, s69, s70, s71, s72, s73, s74, s75, undef, undef, undef, undef, undef, undef, undef, undef, undef, undef, undef, undef, undef, undef, undef, undef, undef, undef, undef, undef, undef, undef, undef, undef, undef, undef, undef, undef, undef, undef, undef, undef, undef, undef, undef, undef, undef, undef, undef, undef, undef, undef, undef, undef, undef, undef, undef, undef, undef, undef, undef, undef, undef, undef, undef, undef, undef, undef, undef, undef, undef, undef, undef, undef, undef, undef, undef, undef, undef, undef, undef, undef, undef, undef, undef, undef, undef, undef, undef, undef, undef, undef, undef, undef, undef, undef, undef, undef, undef, undef, undef, undef, undef, undef, undef, undef, undef, undef, undef, undef, undef, undef, undef, undef, undef, undef, undef, undef, undef, undef, undef, undef, undef, undef, undef, undef, undef, undef, undef, undef, undef, undef, undef, undef, undef, undef, undef, undef, undef, undef, undef, undef, undef, undef, undef, undef, undef, undef, undef, undef, undef, undef, undef, undef, undef, undef, undef, undef, undef, undef, undef, undef, undef, undef, undef, undef, undef, undef, undef, undef, undef, undef, undef, undef, undef, undef, undef], []⟩ U := by
  have HT := Lib.hid hF
  have HS := Lib.hid hF.sums
  have hlq := hF.list.lt
  clear hF
  conv => arg 2; whnf
  apply wp_seq_k
  intro K hK
  have hK2 : ∀ (s26 s27 s28 s29 s30 s31 s32 s33 s34 s35 s36 s37 s38 s39 s40 s41 s42 s43 s44 s45 s46 s47 s48 s49 s50 s51 s52 s53 s54 s55 s56 s57 s58 s59 s60 s61 s62 s63 s64 s65 s66 s67 s68 s69 s70 s71 s72 s73 s74 s75 s76 s77 s78 s79 s80 : Value) (W : World) (hT : Three xa xb xc p1 p2 p3 q w0 W), K ⟨#[.bool false, .pointer (some ⟨p1, 0, none⟩), .pointer (some ⟨p2, 0, none⟩), .pointer (some ⟨p3, 0, none⟩), .slice (some ⟨q, 0, none⟩) 3 3, .int .i64 1, .int .i64 0, .int .i64 0, .int .i64 6, undef, undef, undef, undef, undef, undef, undef, undef, undef, undef, undef, undef, undef, undef, undef, undef, undef, s26, s27, s28, s29, s30, s31, s32, s33, s34, s35, s36, s37, s38, s39, s40, s41, s42, s43, s44, s45, s46, s47, s48, s49, s50, s51, s52, s53, s54, s55, s56, s57, s58, s59, s60, s61, s62, s63, s64, s65, s66, s67, s68, s69, s70, s71, s72, s73, s74, s75, s76, s77, s78, s79, s80, undef, undef, undef, undef, undef, undef, undef, undef, undef, undef, undef, undef, undef, undef, undef, undef, undef, undef, undef, undef, undef, undef, undef, undef, undef, undef, undef, undef, undef, undef, undef, undef, undef, undef, undef, undef, undef, undef, undef, undef, undef, undef, undef, undef, undef, undef, undef, undef, undef, undef, undef, undef, undef, undef, undef, undef, undef, undef, undef, undef, undef, undef, undef, undef, undef, undef, undef, undef, undef, undef, undef, undef, undef, undef, undef, undef, undef, undef, undef, undef, undef, undef, undef, undef, undef, undef, undef, undef, undef, undef, undef, undef, undef, undef, undef, undef, undef, undef, undef, undef, undef, undef, undef, undef, undef, undef, undef, undef, undef, undef, undef, undef, undef, undef, undef, undef, undef, undef, undef, undef, undef, undef, undef, undef, undef, undef, undef, undef, undef, undef, undef, undef, undef, undef, undef, undef, undef, undef, undef, undef, undef, undef, undef, undef, undef, undef, undef, undef, undef, undef, undef, undef, undef, undef, undef, undef, undef, undef, undef, undef, undef, undef], []⟩ W := fun s26 s27 s28 s29 s30 s31 s32 s33 s34 s35 s36 s37 s38 s39 s40 s41 s42 s43 s44 s45 s46 s47 s48 s49 s50 s51 s52 s53 s54 s55 s56 s57 s58 s59 s60 s61 s62 s63 s64 s65 s66 s67 s68 s69 s70 s71 s72 s73 s74 s75 s76 s77 s78 s79 s80 W hT => hK _ _ (aw6 xa xb xc ha hb hc w0 Q hQ p1 p2 p3 q W hT s26 s27 s28 s29 s30 s31 s32 s33 s34 s35 s36 s37 s38 s39 s40 s41 s42 s43 s44 s45 s46 s47 s48 s49 s50 s51 s52 s53 s54 s55 s56 s57 s58 s59 s60 s61 s62 s63 s64 s65 s66 s67 s68 s69 s70 s71 s72 s73 s74 s75 s76 s77 s78 s79 s80)
  clear hK
  go_wp2_with (go_at_call 45; (with_reducible refine (find_f xa xb xc ha hb hc q U HS.out hlq).mono ?_); rintro e u1 ⟨rfl, hb1⟩; have HB1 := Lib.hid hb1; clear hb1)
  exact HT.out.mono HB1.out
set_option maxRecDepth 100000 in
set_option maxHeartbeats 3000000 in
theorem aw4 (xa xb xc : Dig) (ha : Hid (xa.1 = Sha.sha [97])) (hb : Hid (xb.1 = Sha.sha [98])) (hc : Hid (xc.1 = Sha.sha [99])) (w0 : World) (Q : Exit → Act → World → Prop) (hQ : Ends w0 Q) (p1 p2 p3 q : Nat) (U : World) (hF : Three xa xb xc p1 p2 p3 q w0 U)
    (s26 s27 s28 s29 s30 s31 s32 s33 s34 s35 s36 s37 s38 s39 s40 s41 s42 s43 s44 s45 s46 s47 s48 s49 s50 s51 s52 s53 s54 s55 s56 s57 s58 s59 s60 s61 s62 s63 s64 s65 s66 s67 s68 s69 s70 : Value) : Code.wp Tryd.prog (awTail 4) Q ⟨#[.bool false, .pointer (some ⟨p1, 0, none⟩), .pointer (some ⟨p2, 0, none⟩), .pointer (some ⟨p3, 0, none⟩), .slice (some ⟨q, 0, none⟩) 3 3, undef, undef, undef, undef, undef, undef, undef, undef, undef, undef, undef, undef, undef, undef, undef, undef, undef, undef, undef, undef, undef, s26, s27, s28, s29, s30, s31, s32, s33, s34, s35, s36, s37, s38, s39, s40, s41, s42, s43, s44, s45, s46, s47, s48, s49, s50, s51, s52, s53, s54, s55, s56, s57, s58, s59, s60, s61, s62, s63, s64, s65, s66, s67, s68, s69, s70, undef, undef, undef, undef, undef, undef, undef, undef, undef, undef, undef, undef, undef, undef, undef, undef, undef, undef, undef, undef, undef, undef, undef, undef, undef, undef, undef, undef, undef, undef, undef, undef, undef, undef, undef, undef, undef, undef, undef, undef, undef, undef, undef, undef, undef, undef, undef, undef, undef, undef, undef, undef, undef, undef, undef, undef, undef, undef, undef, undef, undef, undef, undef, undef, undef, undef, undef, undef, undef, undef, undef, undef, undef, undef, undef, undef, undef, undef, undef, undef, undef, undef, undef, undef, undef, undef, undef, undef, undef, undef, undef, undef, undef, undef, undef, undef, undef, undef, undef, undef, undef, undef, undef, undef, undef, undef, undef, undef, undef, undef, undef, undef, undef, undef, undef, undef, undef, undef, undef, undef, undef, undef, undef, undef, undef, undef, undef, undef, undef, undef, undef, undef, undef, undef, undef, undef, undef, undef, undef, undef, undef, undef, undef, undef, undef, undef, undef, undef, undef, undef, undef, undef, undef, undef, undef, undef, undef, undef, undef, undef, undef, undef, undef, undef, undef, undef, undef, undef, undef, undef, undef, undef], []⟩ U := by
  have HT := Lib.hid hF
  have HS := Lib.hid hF.sums
  have hlq := hF.list.lt
  clear hF
  conv => arg 2; whnf
  apply wp_seq_k
  intro K hK
  have hK2 : ∀ (s26 s27 s28 s29 s30 s31 s32 s33 s34 s35 s36 s37 s38 s39 s40 s41 s42 s43 s44 s45 s46 s47 s48 s49 s50 s51 s52 s53 s54 s55 s56 s57 s58 s59 s60 s61 s62 s63 s64 s65 s66 s67 s68 s69 s70 s71 s72 s73 s74 s75 : Value) (W : World) (hT : Three xa xb xc p1 p2 p3 q w0 W), K ⟨#[.bool false, .pointer (some ⟨p1, 0, none⟩), .pointer (some ⟨p2, 0, none⟩), .pointer (some ⟨p3, 0, none⟩), .slice (some ⟨q, 0, none⟩) 3 3, .int .i64 1, .int .i64 0, undef, undef, undef, undef, undef, undef, undef, undef, undef, undef, undef, undef, undef, undef, undef, undef, undef, undef, undef, s26, s27, s28, s29, s30, s31, s32, s33, s34, s35, s36, s37, s38, s39, s40, s41, s42, s43, s44, s45, s46, s47, s48, s49, s50, s51, s52, s53, s54, s55, s56, s57, s58, s59, s60, s61, s62, s63, s64, s65, s66, s67, s68, s69, s70, s71, s72, s73, s74, s75, undef, undef, undef, undef, undef, undef, undef, undef, undef, undef, undef, undef, undef, undef, undef, undef, undef, undef, undef, undef, undef, undef, undef, undef, undef, undef, undef, undef, undef, undef, undef, undef, undef, undef, undef, undef, undef, undef, undef, undef, undef, undef, undef, undef, undef, undef, undef, undef, undef, undef, undef, undef, undef, undef, undef, undef, undef, undef, undef, undef, undef, undef, undef, undef, undef, undef, undef, undef, undef, undef, undef, undef, undef, undef, undef, undef, undef, undef, undef, undef, undef, undef, undef, undef, undef, undef, undef, undef, undef, undef, undef, undef, undef, undef, undef, undef, undef, undef, undef, undef, undef, undef, undef, undef, undef, undef, undef, undef, undef, undef, undef, undef, undef, undef, undef, undef, undef, undef, undef, undef, undef, undef, undef, undef, undef, undef, undef, undef, undef, undef, undef, undef, undef, undef, undef, undef, undef, undef, undef, undef, undef, undef, undef, undef, undef, undef, undef, undef, undef, undef, undef, undef, undef, undef, undef, undef, undef, undef, undef, undef, undef, undef, undef, undef, undef, undef, undef], []⟩ W := fun s26 s27 s28 s29 s30 s31 s32 s33 s34 s35 s36 s37 s38 s39 s40 s41 s42 s43 s44 s45 s46 s47 s48 s49 s50 s51 s52 s53 s54 s55 s56 s57 s58 s59 s60 s61 s62 s63 s64 s65 s66 s67 s68 s69 s70 s71 s72 s73 s74 s75 W hT => hK _ _ (aw5 xa xb xc ha hb hc w0 Q hQ p1 p2 p3 q W hT s26 s27 s28 s29 s30 s31 s32 s33 s34 s35 s36 s37 s38 s39 s40 s41 s42 s43 s44 s45 s46 s47 s48 s49 s50 s51 s52 s53 s54 s55 s56 s57 s58 s59 s60 s61 s62 s63 s64 s65 s66 s67 s68 s69 s70 s71 s72 s73 s74 s75)
  clear hK
  go_wp2_with (go_at_call 45; (with_reducible refine (find_3 xa xb xc ha hb hc q U HS.out hlq).mono ?_); rintro e u1 ⟨rfl, hb1⟩; have HB1 := Lib.hid hb1; clear hb1)
  exact HT.out.mono HB1.out
set_option maxRecDepth 100000 in
set_option maxHeartbeats 3000000 in
theorem aw3 (xa xb xc : Dig) (ha : Hid (xa.1 = Sha.sha [97])) (hb : Hid (xb.1 = Sha.sha [98])) (hc : Hid (xc.1 = Sha.sha [99])) (w0 : World) (Q : Exit → Act → World → Prop) (hQ : Ends w0 Q) (p1 p2 p3 q : Nat) (U : World) (hF : Three xa xb xc p1 p2 p3 q w0 U)
    (s26 s27 s28 s29 s30 s31 s32 s33 s34 s35 s36 s37 s38 : Value) : Code.wp Tryd.prog (awTail 3) Q ⟨#[.bool false, .pointer (some ⟨p1, 0, none⟩), .pointer (some ⟨p2, 0, none⟩), .pointer (some ⟨p3, 0, none⟩), .slice (some ⟨q, 0, none⟩) 3 3, undef, undef, undef, undef, undef, undef, undef, undef, undef, undef, undef, undef, undef, undef, undef, undef, undef, undef, undef, undef, undef, s26, s27, s28, s29, s30, s31, s32, s33, s34, s35, s36, s37, s38, undef, undef, undef, undef, undef, undef, undef, undef, undef, undef, undef, undef, undef, undef, undef, undef, undef, undef, undef, undef, undef, undef, undef, undef, undef, undef, undef, undef, undef, undef, undef, undef, undef, undef, undef, undef, undef, undef, undef, undef, undef, undef, undef, undef, undef, undef, undef, undef, undef, undef, undef, undef, undef, undef, undef, undef, undef, undef, undef, undef, undef, undef, undef, undef, undef, undef, undef, undef, undef, undef, undef, undef, undef, undef, undef, undef, undef, undef, undef, undef, undef, undef, undef, undef, undef, undef, undef, undef, undef, undef, undef, undef, undef, undef, undef, undef, undef, undef, undef, undef, undef, undef, undef, undef, undef, undef, undef, undef, undef, undef, undef, undef, undef, undef, undef, undef, undef, undef, undef, undef, undef, undef, undef, undef, undef, undef, undef, undef, undef, undef, undef, undef, undef, undef, undef, undef, undef, undef, undef, undef, undef, undef, undef, undef, undef, undef, undef, undef, undef, undef, undef, undef, undef, undef, undef, undef, undef, undef, undef, undef, undef, undef, undef, undef, undef, undef, undef, undef, undef, undef, undef, undef, undef, undef, undef, undef, undef, undef, undef, undef, undef, undef, undef, undef, undef, undef, undef, undef, undef, undef, undef, undef, undef, undef, undef, undef, undef, undef, undef, undef, undef, undef, undef, undef], []⟩ U := by
  obtain ⟨d0, hd0⟩ : ∃ d, d = Sha.sha [] := ⟨_, rfl⟩
  obtain ⟨d1, hd1⟩ : ∃ d, d = Sha.sha [97, 98, 99] := ⟨_, rfl⟩
  have H0 := Lib.hid hd0
  have H1 := Lib.hid hd1
  have a0 : (arr32 xa.1)[0]? = some (.int .u8 202) := by
    have e : xa.1.getD 0 0 = 202 := by rw [ha.out]; decide +kernel
    rw [arr32_get xa.1 xa.2.1 0 (by omega), e]
    rfl
  have b0 : (arr32 xb.1)[0]? = some (.int .u8 62) := by
    have e : xb.1.getD 0 0 = 62 := by rw [hb.out]; decide +kernel
    rw [arr32_get xb.1 xb.2.1 0 (by omega), e]
    rfl
  have c0 : (arr32 xc.1)[0]? = some (.int .u8 46) := by
    have e : xc.1.getD 0 0 = 46 := by rw [hc.out]; decide +kernel
    rw [arr32_get xc.1 xc.2.1 0 (by omega), e]
    rfl
  have HA0 := Lib.hid (And.intro a0 (And.intro b0 c0))
  have HT := Lib.hid hF
  have HS := Lib.hid hF.sums
  have HCU := Lib.hid hF.const
  have HPa := Lib.hid hF.one
  have HPb := Lib.hid hF.two
  have HPc := Lib.hid hF.three
  have hlq := hF.list.lt
  have hcv := convert_bytes
  clear hd0 hd1 a0 b0 c0 hF
  conv => arg 2; whnf
  apply wp_seq_k
  intro K hK
  have hK2 : ∀ (s26 s27 s28 s29 s30 s31 s32 s33 s34 s35 s36 s37 s38 s39 s40 s41 s42 s43 s44 s45 s46 s47 s48 s49 s50 s51 s52 s53 s54 s55 s56 s57 s58 s59 s60 s61 s62 s63 s64 s65 s66 s67 s68 s69 s70 : Value) (W : World) (hT : Three xa xb xc p1 p2 p3 q w0 W), K ⟨#[.bool false, .pointer (some ⟨p1, 0, none⟩), .pointer (some ⟨p2, 0, none⟩), .pointer (some ⟨p3, 0, none⟩), .slice (some ⟨q, 0, none⟩) 3 3, undef, undef, undef, undef, undef, undef, undef, undef, undef, undef, undef, undef, undef, undef, undef, undef, undef, undef, undef, undef, undef, s26, s27, s28, s29, s30, s31, s32, s33, s34, s35, s36, s37, s38, s39, s40, s41, s42, s43, s44, s45, s46, s47, s48, s49, s50, s51, s52, s53, s54, s55, s56, s57, s58, s59, s60, s61, s62, s63, s64, s65, s66, s67, s68, s69, s70, undef, undef, undef, undef, undef, undef, undef, undef, undef, undef, undef, undef, undef, undef, undef, undef, undef, undef, undef, undef, undef, undef, undef, undef, undef, undef, undef, undef, undef, undef, undef, undef, undef, undef, undef, undef, undef, undef, undef, undef, undef, undef, undef, undef, undef, undef, undef, undef, undef, undef, undef, undef, undef, undef, undef, undef, undef, undef, undef, undef, undef, undef, undef, undef, undef, undef, undef, undef, undef, undef, undef, undef, undef, undef, undef, undef, undef, undef, undef, undef, undef, undef, undef, undef, undef, undef, undef, undef, undef, undef, undef, undef, undef, undef, undef, undef, undef, undef, undef, undef, undef, undef, undef, undef, undef, undef, undef, undef, undef, undef, undef, undef, undef, undef, undef, undef, undef, undef, undef, undef, undef, undef, undef, undef, undef, undef, undef, undef, undef, undef, undef, undef, undef, undef, undef, undef, undef, undef, undef, undef, undef, undef, undef, undef, undef, undef, undef, undef, undef, undef, undef, undef, undef, undef, undef, undef, undef, undef, undef, undef, undef, undef, undef, undef, undef, undef, undef, undef, undef, undef, undef, undef], []⟩ W := fun s26 s27 s28 s29 s30 s31 s32 s33 s34 s35 s36 s37 s38 s39 s40 s41 s42 s43 s44 s45 s46 s47 s48 s49 s50 s51 s52 s53 s54 s55 s56 s57 s58 s59 s60 s61 s62 s63 s64 s65 s66 s67 s68 s69 s70 W hT => hK _ _ (aw4 xa xb xc ha hb hc w0 Q hQ p1 p2 p3 q W hT s26 s27 s28 s29 s30 s31 s32 s33 s34 s35 s36 s37 s38 s39 s40 s41 s42 s43 s44 s45 s46 s47 s48 s49 s50 s51 s52 s53 s54 s55 s56 s57 s58 s59 s60 s61 s62 s63 s64 s65 s66 s67 s68 s69 s70)
  clear hK
  go_wp2_with (first
    | (go_at_call 17; (with_reducible refine (of_nil U HCU.out d0 H0).mono ?_); rintro e u1 ⟨rfl, _, hb1⟩; have hz1 := hb1.size; have HB1 := Lib.hid hb1; have HC1 := Lib.hid (HCU.out.below hb1 rfl); clear hb1)
    | (go_at_call 28; (with_reducible refine (hex_nil u1 d0 H0).mono ?_); rintro e u2 ⟨rfl, hb2⟩; have HB2 := Lib.hid (HB1.out.trans (hb2.mono HB1.out.size)); have HC2 := Lib.hid (HC1.out.below hb2 rfl); clear hb2)
    | (go_at_call 17; (with_reducible refine (of_abc u2 HC2.out d1 H1).mono ?_); rintro e u3 ⟨rfl, _, hb3⟩; have HB3 := Lib.hid (HB2.out.trans (hb3.mono HB2.out.size)); have HC3 := Lib.hid (HC2.out.below hb3 rfl); clear hb3)
    | (go_at_call 28; (with_reducible refine (hex_abc u3 d1 H1).mono ?_); rintro e u4 ⟨rfl, hb4⟩; have HB4 := Lib.hid (HB3.out.trans (hb4.mono HB3.out.size)); have HC4 := Lib.hid (HC3.out.below hb4 rfl); have x0 : u4.cell? ⟨p1, 0, none⟩ = some (.int .u8 202) := ((HPa.out.below HB4.out HPa.out.lt).cell 0).trans HA0.out.1; have x1 : u4.cell? ⟨p2, 0, none⟩ = some (.int .u8 62) := ((HPb.out.below HB4.out HPb.out.lt).cell 0).trans HA0.out.2.1; have x2 : u4.cell? ⟨p3, 0, none⟩ = some (.int .u8 46) := ((HPc.out.below HB4.out HPc.out.lt).cell 0).trans HA0.out.2.2; have hz4 := HB4.out.size; clear hb4)
    | (go_at_call 44; (with_reducible refine (short_three xa xb xc ha.out hb.out hc.out u4 q (HS.out.below hlq HB4.out) (by omega)).mono ?_); rintro e u5 ⟨v5, rfl, ho5, hb5⟩; obtain ⟨a5, c5, rfl, hc5, hm5⟩ := own_shape ho5; obtain ⟨g5, rfl, hg5b, hg5⟩ := own_addr ho5 (by omega); have HO5 := Lib.hid ho5; have HB5 := Lib.hid (HB4.out.trans (hb5.mono HB4.out.size)); have HC5 := Lib.hid (HC4.out.below hb5 rfl); have HQ5 := Lib.hid (ones_equal u5 _ g5 c5 ho5); clear ho5 hb5)
    | (go_at_call 47; (with_reducible refine HQ5.out.mono ?_); rintro e u6 ⟨rfl, hb6⟩; have HB6 := Lib.hid (HB5.out.trans (hb6.mono HB5.out.size)); have HC6 := Lib.hid (HC5.out.below hb6 rfl); clear hb6))
  exact HT.out.mono HB6.out
end Go.Proofs.YtillghidmfglpaaDoor
end
section
namespace Go.Proofs.YtillghidmfglpaaDoor
open Go.RowKit Go.Hoar Go.Maps Go.Shelf
set_option maxRecDepth 100000 in
set_option maxHeartbeats 3000000 in
theorem aw2 (xa xb xc : Dig) (ha : Hid (xa.1 = Sha.sha [97])) (hb : Hid (xb.1 = Sha.sha [98])) (hc : Hid (xc.1 = Sha.sha [99])) (w0 : World) (Q : Exit → Act → World → Prop) (hQ : Ends w0 Q) (p1 p2 p3 : Nat) (U : World) (hF : Three0 xa xb xc p1 p2 p3 w0 U)
    (s26 s27 s28 s29 s30 s31 s32 s33 s34 : Value) : Code.wp Tryd.prog (awTail 2) Q ⟨#[.bool false, .pointer (some ⟨p1, 0, none⟩), .pointer (some ⟨p2, 0, none⟩), .pointer (some ⟨p3, 0, none⟩), undef, undef, undef, undef, undef, undef, undef, undef, undef, undef, undef, undef, undef, undef, undef, undef, undef, undef, undef, undef, undef, undef, s26, s27, s28, s29, s30, s31, s32, s33, s34, undef, undef, undef, undef, undef, undef, undef, undef, undef, undef, undef, undef, undef, undef, undef, undef, undef, undef, undef, undef, undef, undef, undef, undef, undef, undef, undef, undef, undef, undef, undef, undef, undef, undef, undef, undef, undef, undef, undef, undef, undef, undef, undef, undef, undef, undef, undef, undef, undef, undef, undef, undef, undef, undef, undef, undef, undef, undef, undef, undef, undef, undef, undef, undef, undef, undef, undef, undef, undef, undef, undef, undef, undef, undef, undef, undef, undef, undef, undef, undef, undef, undef, undef, undef, undef, undef, undef, undef, undef, undef, undef, undef, undef, undef, undef, undef, undef, undef, undef, undef, undef, undef, undef, undef, undef, undef, undef, undef, undef, undef, undef, undef, undef, undef, undef, undef, undef, undef, undef, undef, undef, undef, undef, undef, undef, undef, undef, undef, undef, undef, undef, undef, undef, undef, undef, undef, undef, undef, undef, undef, undef, undef, undef, undef, undef, undef, undef, undef, undef, undef, undef, undef, undef, undef, undef, undef, undef, undef, undef, undef, undef, undef, undef, undef, undef, undef, undef, undef, undef, undef, undef, undef, undef, undef, undef, undef, undef, undef, undef, undef, undef, undef, undef, undef, undef, undef, undef, undef, undef, undef, undef, undef, undef, undef, undef, undef, undef, undef, undef, undef, undef, undef, undef, undef, undef, undef, undef, undef], []⟩ U := by
  obtain ⟨i0, hi0, hz0, hz1, hz2⟩ := info_parts sumInfo3
  have la := xa.2.1
  have lb := xb.2.1
  have lc := xc.2.1
  have HIa := Lib.hid (arr32_info xa.1 (by omega))
  have HIb := Lib.hid (arr32_info xb.1 (by omega))
  have HIc := Lib.hid (arr32_info xc.1 (by omega))
  have HRa := Lib.hid hF.one.row
  have HRb := Lib.hid hF.two.row
  have HRc := Lib.hid hF.three.row
  have HZa := Lib.hid (show (arr32 xa.1).size = i0.size by rw [hz1, arr32_size _ (by omega)])
  have HZb := Lib.hid (show (arr32 xb.1).size = i0.size by rw [hz1, arr32_size _ (by omega)])
  have HZc := Lib.hid (show (arr32 xc.1).size = i0.size by rw [hz1, arr32_size _ (by omega)])
  have HF := Lib.hid hF
  have hcells : ((arr32 xa.1).toList ++ ((arr32 xb.1).toList ++ (arr32 xc.1).toList)).toArray = (digCells [xa, xb, xc]).toArray := by simp [digCells, cellsOf]
  have HCells := Lib.hid hcells
  clear hF hcells
  conv => arg 2; whnf
  apply wp_seq_k
  intro K hK
  have hK2 : ∀ (s26 s27 s28 s29 s30 s31 s32 s33 s34 s35 s36 s37 s38 : Value) (W : World) (q : Nat) (hT : Three xa xb xc p1 p2 p3 q w0 W), K ⟨#[.bool false, .pointer (some ⟨p1, 0, none⟩), .pointer (some ⟨p2, 0, none⟩), .pointer (some ⟨p3, 0, none⟩), .slice (some ⟨q, 0, none⟩) 3 3, undef, undef, undef, undef, undef, undef, undef, undef, undef, undef, undef, undef, undef, undef, undef, undef, undef, undef, undef, undef, undef, s26, s27, s28, s29, s30, s31, s32, s33, s34, s35, s36, s37, s38, undef, undef, undef, undef, undef, undef, undef, undef, undef, undef, undef, undef, undef, undef, undef, undef, undef, undef, undef, undef, undef, undef, undef, undef, undef, undef, undef, undef, undef, undef, undef, undef, undef, undef, undef, undef, undef, undef, undef, undef, undef, undef, undef, undef, undef, undef, undef, undef, undef, undef, undef, undef, undef, undef, undef, undef, undef, undef, undef, undef, undef, undef, undef, undef, undef, undef, undef, undef, undef, undef, undef, undef, undef, undef, undef, undef, undef, undef, undef, undef, undef, undef, undef, undef, undef, undef, undef, undef, undef, undef, undef, undef, undef, undef, undef, undef, undef, undef, undef, undef, undef, undef, undef, undef, undef, undef, undef, undef, undef, undef, undef, undef, undef, undef, undef, undef, undef, undef, undef, undef, undef, undef, undef, undef, undef, undef, undef, undef, undef, undef, undef, undef, undef, undef, undef, undef, undef, undef, undef, undef, undef, undef, undef, undef, undef, undef, undef, undef, undef, undef, undef, undef, undef, undef, undef, undef, undef, undef, undef, undef, undef, undef, undef, undef, undef, undef, undef, undef, undef, undef, undef, undef, undef, undef, undef, undef, undef, undef, undef, undef, undef, undef, undef, undef, undef, undef, undef, undef, undef, undef, undef, undef, undef, undef, undef, undef, undef, undef, undef, undef, undef, undef, undef, undef], []⟩ W := fun s26 s27 s28 s29 s30 s31 s32 s33 s34 s35 s36 s37 s38 W q hT => hK _ _ (aw3 xa xb xc ha hb hc w0 Q hQ p1 p2 p3 q W hT s26 s27 s28 s29 s30 s31 s32 s33 s34 s35 s36 s37 s38)
  clear hK
  go_wp2_with (first
    | ((with_reducible refine arm_load (w := U) ⟨p1, 0, none⟩ _ _ HRa.out Tryd.underlying26 HIa.out ?h1 ?h2 ?_); (case h1 => rfl); (case h2 => rfl))
    | ((with_reducible refine arm_load (w := U) ⟨p2, 0, none⟩ _ _ HRb.out Tryd.underlying26 HIb.out ?h3 ?h4 ?_); (case h3 => rfl); (case h4 => rfl))
    | ((with_reducible refine arm_load (w := U) ⟨p3, 0, none⟩ _ _ HRc.out Tryd.underlying26 HIc.out ?h5 ?h6 ?_); (case h5 => rfl); (case h6 => rfl))
    | ((with_reducible refine arm_slice3 26 i0 _ (arr32 xa.1) (arr32 xb.1) (arr32 xc.1) Tryd.underlying49 hi0 hz0 HZa.out HZb.out HZc.out ?s1 ?s2 ?s3 ?s4 ?s5 ?_); (case s1 => omega); (case s2 => omega); (case s3 => rfl); (case s4 => rfl); (case s5 => rfl)))
  have hb0 := (Below.refl U.heap.size U).alloc (Nat.le_refl _) (.cells (digCells [xa, xb, xc]).toArray 26)
  have hres : Three xa xb xc p1 p2 p3 U.heap.size w0 (U.alloc (.cells (digCells [xa, xb, xc]).toArray 26)) :=
    ⟨HF.out.below.trans (hb0.mono HF.out.below.size), HF.out.const.below hb0 rfl, HF.out.one.alloc _, HF.out.two.alloc _, HF.out.three.alloc _, Has.fresh U _ _⟩
  rw [← HCells.out] at hres
  exact hres
set_option maxRecDepth 100000 in
set_option maxHeartbeats 3000000 in
theorem aw1 (xa xb xc : Dig) (ha : Hid (xa.1 = Sha.sha [97])) (hb : Hid (xb.1 = Sha.sha [98])) (hc : Hid (xc.1 = Sha.sha [99])) (w0 : World) (Q : Exit → Act → World → Prop) (hQ : Ends w0 Q) (hcon : ConstAt w0)
     : Code.wp Tryd.prog (awTail 1) Q ⟨#[.bool false, undef, undef, undef, undef, undef, undef, undef, undef, undef, undef, undef, undef, undef, undef, undef, undef, undef, undef, undef, undef, undef, undef, undef, undef, undef, undef, undef, undef, undef, undef, undef, undef, undef, undef, undef, undef, undef, undef, undef, undef, undef, undef, undef, undef, undef, undef, undef, undef, undef, undef, undef, undef, undef, undef, undef, undef, undef, undef, undef, undef, undef, undef, undef, undef, undef, undef, undef, undef, undef, undef, undef, undef, undef, undef, undef, undef, undef, undef, undef, undef, undef, undef, undef, undef, undef, undef, undef, undef, undef, undef, undef, undef, undef, undef, undef, undef, undef, undef, undef, undef, undef, undef, undef, undef, undef, undef, undef, undef, undef, undef, undef, undef, undef, undef, undef, undef, undef, undef, undef, undef, undef, undef, undef, undef, undef, undef, undef, undef, undef, undef, undef, undef, undef, undef, undef, undef, undef, undef, undef, undef, undef, undef, undef, undef, undef, undef, undef, undef, undef, undef, undef, undef, undef, undef, undef, undef, undef, undef, undef, undef, undef, undef, undef, undef, undef, undef, undef, undef, undef, undef, undef, undef, undef, undef, undef, undef, undef, undef, undef, undef, undef, undef, undef, undef, undef, undef, undef, undef, undef, undef, undef, undef, undef, undef, undef, undef, undef, undef, undef, undef, undef, undef, undef, undef, undef, undef, undef, undef, undef, undef, undef, undef, undef, undef, undef, undef, undef, undef, undef, undef, undef, undef, undef, undef, undef, undef, undef, undef, undef, undef, undef, undef, undef, undef, undef, undef, undef, undef, undef, undef, undef, undef], []⟩ w0 := by
  have la := xa.2.1
  have lb := xb.2.1
  have lc := xc.2.1
  have HIa := Lib.hid (arr32_info xa.1 (by omega))
  have HIb := Lib.hid (arr32_info xb.1 (by omega))
  have HIc := Lib.hid (arr32_info xc.1 (by omega))
  have HSa := Lib.hid (zero32_size xa.1 (by omega))
  have HSb := Lib.hid (zero32_size xb.1 (by omega))
  have HSc := Lib.hid (zero32_size xc.1 (by omega))
  have HC := Lib.hid hcon
  have hcv := convert_bytes
  have HOa : Hid (∀ V : World, ConstAt V → Calls Tryd.prog 17 #[.slice (some ⟨V.heap.size, 0, none⟩) 1 1] (V.alloc (.cells #[.int .u8 97] 5 (1, 2))) fun e w' => e = .returned (.agg (arr32 xa.1)) ∧ xa.1.length = 32 ∧ Below V.heap.size V w') := Lib.hid fun V hV => of_one 97 (by decide) V hV xa.1 ha
  have HOb : Hid (∀ V : World, ConstAt V → Calls Tryd.prog 17 #[.slice (some ⟨V.heap.size, 0, none⟩) 1 1] (V.alloc (.cells #[.int .u8 98] 5 (1, 2))) fun e w' => e = .returned (.agg (arr32 xb.1)) ∧ xb.1.length = 32 ∧ Below V.heap.size V w') := Lib.hid fun V hV => of_one 98 (by decide) V hV xb.1 hb
  have HOc : Hid (∀ V : World, ConstAt V → Calls Tryd.prog 17 #[.slice (some ⟨V.heap.size, 0, none⟩) 1 1] (V.alloc (.cells #[.int .u8 99] 5 (1, 2))) fun e w' => e = .returned (.agg (arr32 xc.1)) ∧ xc.1.length = 32 ∧ Below V.heap.size V w') := Lib.hid fun V hV => of_one 99 (by decide) V hV xc.1 hc
  clear hcon
  conv => arg 2; whnf
  apply wp_seq_k
  intro K hK
  have hK2 : ∀ (s26 s27 s28 s29 s30 s31 s32 s33 s34 : Value) (W : World) (p1 p2 p3 : Nat) (hT : Three0 xa xb xc p1 p2 p3 w0 W), K ⟨#[.bool false, .pointer (some ⟨p1, 0, none⟩), .pointer (some ⟨p2, 0, none⟩), .pointer (some ⟨p3, 0, none⟩), undef, undef, undef, undef, undef, undef, undef, undef, undef, undef, undef, undef, undef, undef, undef, undef, undef, undef, undef, undef, undef, undef, s26, s27, s28, s29, s30, s31, s32, s33, s34, undef, undef, undef, undef, undef, undef, undef, undef, undef, undef, undef, undef, undef, undef, undef, undef, undef, undef, undef, undef, undef, undef, undef, undef, undef, undef, undef, undef, undef, undef, undef, undef, undef, undef, undef, undef, undef, undef, undef, undef, undef, undef, undef, undef, undef, undef, undef, undef, undef, undef, undef, undef, undef, undef, undef, undef, undef, undef, undef, undef, undef, undef, undef, undef, undef, undef, undef, undef, undef, undef, undef, undef, undef, undef, undef, undef, undef, undef, undef, undef, undef, undef, undef, undef, undef, undef, undef, undef, undef, undef, undef, undef, undef, undef, undef, undef, undef, undef, undef, undef, undef, undef, undef, undef, undef, undef, undef, undef, undef, undef, undef, undef, undef, undef, undef, undef, undef, undef, undef, undef, undef, undef, undef, undef, undef, undef, undef, undef, undef, undef, undef, undef, undef, undef, undef, undef, undef, undef, undef, undef, undef, undef, undef, undef, undef, undef, undef, undef, undef, undef, undef, undef, undef, undef, undef, undef, undef, undef, undef, undef, undef, undef, undef, undef, undef, undef, undef, undef, undef, undef, undef, undef, undef, undef, undef, undef, undef, undef, undef, undef, undef, undef, undef, undef, undef, undef, undef, undef, undef, undef, undef, undef, undef, undef, undef, undef, undef, undef, undef, undef, undef, undef, undef, undef, undef, undef, undef, undef], []⟩ W := fun s26 s27 s28 s29 s30 s31 s32 s33 s34 W p1 p2 p3 hT => hK _ _ (aw2 xa xb xc ha hb hc w0 Q hQ p1 p2 p3 W hT s26 s27 s28 s29 s30 s31 s32 s33 s34)
  clear hK
  go_wp2_with (first
    | (go_at_call 17; (with_reducible refine (HOa.out w0 HC.out).mono ?_); rintro e w1 ⟨rfl, _, hb1⟩; have HB1 := Lib.hid hb1; have HC1 := Lib.hid (HC.out.below hb1 rfl); clear hb1)
    | (go_at_call 17; (with_reducible refine (HOb.out w1 HC1.out).mono ?_); rintro e w2 ⟨rfl, _, hb2⟩; have HB2 := Lib.hid (HB1.out.trans (hb2.mono HB1.out.size)); have HC2 := Lib.hid (HC1.out.below hb2 rfl); clear hb2)
    | (go_at_call 17; (with_reducible refine (HOc.out w2 HC2.out).mono ?_); rintro e w3 ⟨rfl, _, hb3⟩; have HB3 := Lib.hid (HB2.out.trans (hb3.mono HB2.out.size)); have HC3 := Lib.hid (HC2.out.below hb3 rfl); have HF1 : Hid (Has (((w3.alloc (.cells zero32 26)).alloc (.cells zero32 26)).alloc (.cells zero32 26)) w3.heap.size 26 zero32) := Lib.hid (((Has.fresh_at _ _ _ _ rfl).alloc _).alloc _); have HF2 : Hid (Has ((((w3.alloc (.cells zero32 26)).alloc (.cells zero32 26)).alloc (.cells zero32 26)).setRow w3.heap.size (arr32 xa.1)) (w3.heap.size + 1) 26 zero32) := Lib.hid (((Has.fresh_at _ _ _ _ (by simp)).alloc _).setRow_apart (by omega)); have HF3 : Hid (Has (((((w3.alloc (.cells zero32 26)).alloc (.cells zero32 26)).alloc (.cells zero32 26)).setRow w3.heap.size (arr32 xa.1)).setRow (w3.heap.size + 1) (arr32 xb.1)) (w3.heap.size + 1 + 1) 26 zero32) := Lib.hid (((Has.fresh_at _ _ _ _ (by simp)).setRow_apart (by omega)).setRow_apart (by omega)); clear hb3)
    | ((with_reducible refine arm_store w3.heap.size (arr32 xa.1) 26 zero32 HF1.out HSa.out HIa.out (arr32_one _) ?h1 ?h2 ?_); (case h1 => rfl); (case h2 => rfl))
    | ((with_reducible refine arm_store (w3.heap.size + 1) (arr32 xb.1) 26 zero32 HF2.out HSb.out HIb.out (arr32_one _) ?h3 ?h4 ?_); (case h3 => rfl); (case h4 => rfl))
    | ((with_reducible refine arm_store (w3.heap.size + 1 + 1) (arr32 xc.1) 26 zero32 HF3.out HSc.out HIc.out (arr32_one _) ?h5 ?h6 ?_); (case h5 => rfl); (case h6 => rfl)))
  have hbz : Below w0.heap.size w0 (((w3.alloc (.cells zero32 26)).alloc (.cells zero32 26)).alloc (.cells zero32 26)) := ((HB3.out.alloc HB3.out.size _).alloc (by have := HB3.out.size; simp; omega) _).alloc (by have := HB3.out.size; simp; omega) _
  have hcz : ConstAt (((w3.alloc (.cells zero32 26)).alloc (.cells zero32 26)).alloc (.cells zero32 26)) := HC3.out.below (B := w3.heap.size) ((((Below.refl _ w3).alloc (Nat.le_refl _) _).alloc (by simp) _).alloc (by simp; omega) _) rfl
  exact ⟨below_setRow (below_setRow (below_setRow hbz HB3.out.size _) (by have := HB3.out.size; omega) _) (by have := HB3.out.size; omega) _, const_setRow (const_setRow (const_setRow hcz HF1.out HC3.out (Nat.le_refl _) _) HF2.out HC3.out (by omega) _) HF3.out HC3.out (by omega) _, (HF1.out.setRow.setRow_apart (by omega)).setRow_apart (by omega), HF2.out.setRow.setRow_apart (by omega), HF3.out.setRow⟩
set_option maxRecDepth 100000 in
set_option maxHeartbeats 3000000 in
theorem aw0 (xa xb xc : Dig) (ha : Hid (xa.1 = Sha.sha [97])) (hb : Hid (xb.1 = Sha.sha [98])) (hc : Hid (xc.1 = Sha.sha [99])) (w0 : World) (Q : Exit → Act → World → Prop) (hQ : Ends w0 Q) (hcon : ConstAt w0) : Code.wp Tryd.prog (awTail 0) Q ⟨#[undef, undef, undef, undef, undef, undef, undef, undef, undef, undef, undef, undef, undef, undef, undef, undef, undef, undef, undef, undef, undef, undef, undef, undef, undef, undef, undef, undef, undef, undef, undef, undef, undef, undef, undef, undef, undef, undef, undef, undef, undef, undef, undef, undef, undef, undef, undef, undef, undef, undef, undef, undef, undef, undef, undef, undef, undef, undef, undef, undef, undef, undef, undef, undef, undef, undef, undef, undef, undef, undef, undef, undef, undef, undef, undef, undef, undef, undef, undef, undef, undef, undef, undef, undef, undef, undef, undef, undef, undef, undef, undef, undef, undef, undef, undef, undef, undef, undef, undef, undef, undef, undef, undef, undef, undef, undef, undef, undef, undef, undef, undef, undef, undef, undef, undef, undef, undef, undef, undef, undef, undef, undef, undef, undef, undef, undef, undef, undef, undef, undef, undef, undef, undef, undef, undef, undef, undef, undef, undef, undef, undef, undef, undef, undef, undef, undef, undef, undef, undef, undef, undef, undef, undef, undef, undef, undef, undef, undef, undef, undef, undef, undef, undef, undef, undef, undef, undef, undef, undef, undef, undef, undef, undef, undef, undef, undef, undef, undef, undef, undef, undef, undef, undef, undef, undef, undef, undef, undef, undef, undef, undef, undef, undef, undef, undef, undef, undef, undef, undef, undef, undef, undef, undef, undef, undef, undef, undef, undef, undef, undef, undef, undef, undef, undef, undef, undef, undef, undef, undef, undef, undef, undef, undef, undef, undef, undef, undef, undef, undef, undef, undef, undef, undef, undef, undef, undef, undef, undef, undef, undef, undef, undef, undef], []⟩ w0 := by
  conv => arg 2; whnf
  apply wp_seq_k
  intro K hK
  have hK2 : K ⟨#[.bool false, undef, undef, undef, undef, undef, undef, undef, undef, undef, undef, undef, undef, undef, undef, undef, undef, undef, undef, undef, undef, undef, undef, undef, undef, undef, undef, undef, undef, undef, undef, undef, undef, undef, undef, undef, undef, undef, undef, undef, undef, undef, undef, undef, undef, undef, undef, undef, undef, undef, undef, undef, undef, undef, undef, undef, undef, undef, undef, undef, undef, undef, undef, undef, undef, undef, undef, undef, undef, undef, undef, undef, undef, undef, undef, undef, undef, undef, undef, undef, undef, undef, undef, undef, undef, undef, undef, undef, undef, undef, undef, undef, undef, undef, undef, undef, undef, undef, undef, undef, undef, undef, undef, undef, undef, undef, undef, undef, undef, undef, undef, undef, undef, undef, undef, undef, undef, undef, undef, undef, undef, undef, undef, undef, undef, undef, undef, undef, undef, undef, undef, undef, undef, undef, undef, undef, undef, undef, undef, undef, undef, undef, undef, undef, undef, undef, undef, undef, undef, undef, undef, undef, undef, undef, undef, undef, undef, undef, undef, undef, undef, undef, undef, undef, undef, undef, undef, undef, undef, undef, undef, undef, undef, undef, undef, undef, undef, undef, undef, undef, undef, undef, undef, undef, undef, undef, undef, undef, undef, undef, undef, undef, undef, undef, undef, undef, undef, undef, undef, undef, undef, undef, undef, undef, undef, undef, undef, undef, undef, undef, undef, undef, undef, undef, undef, undef, undef, undef, undef, undef, undef, undef, undef, undef, undef, undef, undef, undef, undef, undef, undef, undef, undef, undef, undef, undef, undef, undef, undef, undef, undef, undef, undef], []⟩ w0 := hK _ _ (aw1 xa xb xc ha hb hc w0 Q hQ hcon)
  clear hK
  go_wp2
  exact hK2
set_option maxRecDepth 100000 in
set_option maxHeartbeats 3000000 in
/-- THE EXAMPLES OF THE CHAPTER: they are met. -/
theorem awake_any (w : World) (hc : ConstAt w) : Calls Tryd.prog 15 #[] w fun e w' => e = .returned (.bool true) ∧ Below w.heap.size w w' := by
  go_enter Tryd.func15, Tryd.ntmps15
  have hQ : Ends w (bodyPost Tryd.prog Tryd.f15 fun e w' => e = .returned (.bool true) ∧ Below w.heap.size w w') := ⟨fun a w' hd h0 hb => ⟨hd, _, results_tmp (t := 0) rfl _ _ _, by rw [h0], hb⟩, fun c a a' w' hd h => ⟨hd.trans h.1, h.2⟩⟩
  exact aw0 ⟨Sha.sha [97], sha_bytes _⟩ ⟨Sha.sha [98], sha_bytes _⟩ ⟨Sha.sha [99], sha_bytes _⟩ (Lib.hid rfl) (Lib.hid rfl) (Lib.hid rfl) w _ hQ hc
end Go.Proofs.YtillghidmfglpaaDoor
end
section
namespace Go.Proofs.YtillghidmfglpaaDoor
open Go.RowKit Go.Hoar
def digOf (c : Nat) : Int := if IsDig c then (valOf c : Nat) else -1
theorem digOf_letter (k : Nat) (hk : k < 16) : digOf (letter k) = k := by
  have : ∀ k, k < 16 → digOf (letter k) = k := by decide
  exact this k hk
theorem digOf_none (c : Nat) (h : ∀ j, j < 16 → letter j ≠ c) : digOf c = -1 := by
  have e : ∀ j, j < 16 → letter j ≠ c := h
  unfold digOf
  rw [if_neg]
  intro hd
  unfold IsDig at hd
  rcases hd with ⟨h1, h2⟩ | ⟨h1, h2⟩
  · exact e (c - 48) (by omega) (by unfold letter; rw [if_pos (by omega)]; omega)
  · exact e (c - 87) (by omega) (by unfold letter; rw [if_neg (by omega)]; omega)
theorem index_letter (k : Nat) (hk : k < 16) (w : World) : (Instr.index 9 (.string ⟨#[48, 49, 50, 51, 52, 53, 54, 55, 56, 57, 97, 98, 99, 100, 101, 102]⟩) (.int .i64 (k : Int))).run Tryd.prog w = .ok (.int .u8 ((letter k : Nat) : Int)) w := by
  obtain rfl | rfl | rfl | rfl | rfl | rfl | rfl | rfl | rfl | rfl | rfl | rfl | rfl | rfl | rfl | rfl : k = 0 ∨ k = 1 ∨ k = 2 ∨ k = 3 ∨ k = 4 ∨ k = 5 ∨ k = 6 ∨ k = 7 ∨ k = 8 ∨ k = 9 ∨ k = 10 ∨ k = 11 ∨ k = 12 ∨ k = 13 ∨ k = 14 ∨ k = 15 := by omega
  all_goals kernel_rfl
set_option maxRecDepth 100000 in
set_option maxHeartbeats 2000000 in
theorem refDigit_any (c : Nat) (hc : c < 256) (w : World) : Calls Tryd.prog 64 #[.int .u8 (c : Int)] w fun e w' => e = .returned (.int .i64 (digOf c)) ∧ w' = w := by
  go_enter Tryd.func64, Tryd.ntmps64
  go_wp2
  go_loop [3] (fun i => ∃ k : Nat, k ≤ 16 ∧ i = .int .i64 k ∧ Hid (∀ j, j < k → letter j ≠ c)) (fun i => 16 - (intOf i).toNat)
  case atStart => exact ⟨0, Nat.zero_le _, rfl, Lib.hid (fun j hj => absurd hj (Nat.not_lt_zero _))⟩
  case round =>
    obtain ⟨k, hk, rfl, HN⟩ := hrel
    by_cases hlt : k < 16
    · have hix := index_letter k hlt
      obtain ⟨d, hd⟩ : ∃ d, d = letter k := ⟨_, rfl⟩
      rw [← hd] at hix
      by_cases hq : d = c
      · have hr : digOf c = k := by rw [← hq, hd]; exact digOf_letter k hlt
        have HR := Lib.hid hr
        have HD := Lib.hid hd
        clear hr hd
        have hb : (((d : Nat) : Int) == (c : Int)) = true := by rw [hq]; exact beq_self_eq_true _
        clear hq
        go_wp2
        go_ret
        exact ⟨by rw [HR.out]; rfl, rfl⟩
      · have HN2 : Hid (∀ j, j < k + 1 → letter j ≠ c) := Lib.hid fun j hj => by
          rcases Nat.lt_or_ge j k with h | h
          · exact HN.out j h
          · obtain rfl : j = k := by omega
            rw [← hd]
            exact hq
        have HD := Lib.hid hd
        clear hd
        have hb : (((d : Nat) : Int) == (c : Int)) = false := by rw [beq_eq_false_iff_ne]; omega
        clear hq
        go_wp2
        go_round
        case rel => exact ⟨k + 1, by omega, by go_num, HN2⟩
        case measure => simp [intOf]; omega
    · have HR := Lib.hid (digOf_none c (fun j hj => HN.out j (by omega)))
      go_wp2
      go_ret
      exact ⟨by rw [HR.out]; rfl, rfl⟩
end Go.Proofs.YtillghidmfglpaaDoor
end
section
namespace Go.Proofs.YtillghidmfglpaaDoor
open Go.RowKit Go.Hoar
theorem comp_cons (x y : Nat) (l m : List Nat) (hx : x < 256) (hy : y < 256) : comp (x :: l) (y :: m) = if x < y then -1 else if y < x then 1 else comp l m := by
  have e : ∀ a b : Nat, a < 256 → b < 256 → (UInt8.ofNat a < UInt8.ofNat b ↔ a < b) := fun a b ha hb => by
    rw [UInt8.lt_iff_toNat_lt, UInt8.toNat_ofNat', UInt8.toNat_ofNat', Nat.mod_eq_of_lt ha, Nat.mod_eq_of_lt hb]
  unfold comp
  simp only [asInts, List.map_cons, Lib.bytesOf, Lib.compareBytes]
  change (if UInt8.ofNat x < UInt8.ofNat y then _ else if UInt8.ofNat y < UInt8.ofNat x then _ else _) = _
  simp only [e x y hx hy, e y x hy hx]
theorem comp_same (l : List Nat) (hl : Sha.Bytes l) : comp l l = 0 := by
  induction l with
  | nil => rfl
  | cons x l ih => rw [comp_cons x x l l (hl x (by simp)) (hl x (by simp)), if_neg (by omega), if_neg (by omega), ih (fun y hy => hl y (by simp [hy]))]
/-- The first place at which two lists differ. -/
theorem comp_at : ∀ (l m : List Nat) (k : Nat), Sha.Bytes l → Sha.Bytes m → k < l.length → k < m.length → (∀ j, j < k → l.getD j 0 = m.getD j 0) → comp l m = if l.getD k 0 < m.getD k 0 then -1 else if m.getD k 0 < l.getD k 0 then 1 else comp (l.drop (k + 1)) (m.drop (k + 1))
  | [], _, _, _, _, h, _, _ => by simp at h
  | _ :: _, [], _, _, _, _, h, _ => by simp at h
  | x :: l, y :: m, 0, hl, hm, _, _, _ => by
    rw [comp_cons x y l m (hl x (by simp)) (hm y (by simp))]
    rfl
  | x :: l, y :: m, k + 1, hl, hm, h1, h2, hj => by
    have h0 : x = y := hj 0 (by omega)
    rw [comp_cons x y l m (hl x (by simp)) (hm y (by simp)), if_neg (by omega), if_neg (by omega), comp_at l m k (fun z hz => hl z (by simp [hz])) (fun z hz => hm z (by simp [hz])) (by simpa using h1) (by simpa using h2) (fun j hj' => hj (j + 1) (by omega))]
    rfl
theorem comp_all (l m : List Nat) (hlen : l.length = m.length) (hl : Sha.Bytes l) (h : ∀ j, j < l.length → l.getD j 0 = m.getD j 0) : comp l m = 0 := by
  have : l = m := by
    apply List.ext_getElem hlen
    intro i h1 h2
    have := h i h1
    rwa [List.getD_eq_getElem?_getD, List.getD_eq_getElem?_getD, List.getElem?_eq_getElem h1, List.getElem?_eq_getElem h2] at this
  rw [← this]
  exact comp_same l hl
set_option maxRecDepth 100000 in
set_option maxHeartbeats 2000000 in
theorem refCompare_any (l m : List Nat) (hl : l.length = 32) (hm : m.length = 32) (hlb : Sha.Bytes l) (hmb : Sha.Bytes m) (w : World) :
    Calls Tryd.prog 31 #[.agg (arr32 l), .agg (arr32 m)] w fun e w' => e = .returned (.int .i64 (comp l m)) ∧ Below w.heap.size w w' := by
  go_enter Tryd.func31, Tryd.ntmps31
  go_upto_region 1 with (fail)
  refine gen_world (P := fun W => Code.wp _ _ _ _ W) (I := fun W => Below w.heap.size w W ∧ Has W w.heap.size 26 (arr32 l) ∧ Has W (w.heap.size + 1) 26 (arr32 m)) _ ⟨((Below.refl _ w).alloc (Nat.le_refl _) _).alloc (by simp) _, (Has.fresh_at _ _ _ _ rfl).alloc _, Has.fresh_at _ _ _ _ (by simp)⟩ ?_
  rintro W ⟨hB, hL, hM⟩
  have HB := Lib.hid hB
  generalize w.heap.size = p at hL hM ⊢
  have HL := Lib.hid hL
  have HM := Lib.hid hM
  have HLB := Lib.hid hlb
  have HMB := Lib.hid hmb
  clear hB hL hM
  go_wp2
  go_loopw [5] (fun i wr => ∃ k q : Nat, k ≤ 32 ∧ i = .int .i64 k ∧ Hid (∀ j, j < k → l.getD j 0 = m.getD j 0) ∧ wr = W.drewN q) (fun i _ => 32 - (intOf i).toNat)
  case atStart => exact ⟨0, 0, Nat.zero_le _, rfl, Lib.hid (fun j hj => absurd hj (Nat.not_lt_zero _)), rfl⟩
  case round =>
    obtain ⟨k, q, hk, rfl, HN, rfl⟩ := hrel
    by_cases hlt : k < 32
    · obtain ⟨x, hx⟩ : ∃ x, x = l.getD k 0 := ⟨_, rfl⟩
      obtain ⟨y, hy⟩ : ∃ y, y = m.getD k 0 := ⟨_, rfl⟩
      have hx2 : x < 256 := by rw [hx]; exact Sha.getD_lt hlb (by decide) k
      have hy2 : y < 256 := by rw [hy]; exact Sha.getD_lt hmb (by decide) k
      have c1 : ∀ n, (W.drewN n).cell? ⟨p, k, none⟩ = some (.int .u8 (x : Int)) := fun n => by rw [(HL.out.drewN n).cell, arr32_get l hl k hlt, hx]
      have c2 : ∀ n, (W.drewN n).cell? ⟨p + 1, k, none⟩ = some (.int .u8 (y : Int)) := fun n => by rw [(HM.out.drewN n).cell, arr32_get m hm k hlt, hy]
      have hcm := comp_at l m k hlb hmb (by omega) (by omega) HN.out
      rw [← hx, ← hy] at hcm
      have HX := Lib.hid hx
      have HY := Lib.hid hy
      clear hx hy
      by_cases h1 : x < y
      · have hr : comp l m = -1 := by rw [hcm, if_pos h1]
        have HR := Lib.hid hr
        clear hr hcm
        go_wp2
        go_quiet (fail)
        go_wp2
        go_ret
        exact ⟨by rw [HR.out]; rfl, below_drewN (below_drewN HB.out _) _⟩
      · by_cases h2 : y < x
        · have hr : comp l m = 1 := by rw [hcm, if_neg h1, if_pos h2]
          have HR := Lib.hid hr
          clear hr hcm
          go_wp2
          go_quiet (fail)
          go_wp2
          go_quiet (fail)
          go_wp2
          go_ret
          exact ⟨by rw [HR.out]; rfl, below_drewN (below_drewN (below_drewN HB.out _) _) _⟩
        · obtain rfl : x = y := by omega
          have HN2 : Hid (∀ j, j < k + 1 → l.getD j 0 = m.getD j 0) := Lib.hid fun j hj => by
            rcases Nat.lt_or_ge j k with h | h
            · exact HN.out j h
            · obtain rfl : j = k := by omega
              rw [← HX.out, ← HY.out]
          clear hcm
          go_wp2
          go_quiet (fail)
          go_wp2
          go_quiet (fail)
          go_wp2
          exact ⟨⟨k + 1, _, by omega, by go_num, HN2, rfl⟩, by simp [intOf]; omega⟩
    · have hc : comp l m = 0 := comp_all l m (by omega) hlb (fun j hj => HN.out j (by omega))
      have HC := Lib.hid hc
      clear hc
      go_wp2
      go_ret
      exact ⟨by rw [HC.out]; rfl, below_drewN HB.out q⟩
end Go.Proofs.YtillghidmfglpaaDoor
end
section
namespace Go.Proofs.YtillghidmfglpaaDoor
open Go.RowKit Go.Hoar
/-- The array behind so many letters. -/
def outAt (s : ByteArray) (k : Nat) : List Nat := packK s (k / 2) ++ if k % 2 = 1 then [valOf (byteAt s (k - 1))] else []
def prevAt (s : ByteArray) (k : Nat) : Nat := if k % 2 = 1 then valOf (byteAt s (k - 1)) else 0
theorem outAt_cell (s : ByteArray) (k : Nat) (hk : k < 64) : (arr32 (outAt s k))[k / 2]? = some (.int .u8 ((prevAt s k : Nat) : Int)) := by
  unfold outAt prevAt
  have hl := packK_length s (k / 2)
  split
  · rw [arr32, List.getElem?_toArray, List.map_append, List.append_assoc, List.getElem?_append_right (by simp [hl]), List.length_map, hl, Nat.sub_self]
    rfl
  · rw [List.append_nil]
    have := arr32_end (packK s (k / 2)) (by omega)
    rwa [hl] at this
theorem outAt_step (s : ByteArray) (k : Nat) (hk : k < 64) : (arr32 (outAt s k)).setIfInBounds (k / 2) (BV (prevAt s k * 16 + valOf (byteAt s k))) = arr32 (outAt s (k + 1)) := by
  have hl := packK_length s (k / 2)
  unfold outAt prevAt
  by_cases h : k % 2 = 1
  · have h' : ¬ (k + 1) % 2 = 1 := by omega
    simp only [if_pos h, if_neg h', List.append_nil]
    rw [show (k + 1) / 2 = k / 2 + 1 by omega, packK_succ]
    have e1 := arr32_set (packK s (k / 2)) (valOf (byteAt s (k - 1))) (by omega)
    have e2 := arr32_set (packK s (k / 2)) (valOf (byteAt s (k - 1)) * 16 + valOf (byteAt s k)) (by omega)
    rw [hl] at e1 e2
    rw [← e1, Array.setIfInBounds_setIfInBounds, e2, show 2 * (k / 2) = k - 1 by omega, show k - 1 + 1 = k by omega]
  · have h' : (k + 1) % 2 = 1 := by omega
    simp only [if_neg h, if_pos h', List.append_nil]
    rw [show (k + 1) / 2 = k / 2 by omega, show k + 1 - 1 = k by omega]
    have e1 := arr32_set (packK s (k / 2)) (0 * 16 + valOf (byteAt s k)) (by omega)
    rw [hl] at e1
    rw [e1, Nat.zero_mul, Nat.zero_add]
theorem index_str (s : ByteArray) (k : Nat) (hk : k < s.size) (w : World) : (Instr.index 9 (.string s) (.int .i64 (k : Int))).run Tryd.prog w = .ok (.int .u8 ((byteAt s k : Nat) : Int)) w := by
  rw [run_index_string w 9 s .i64 (k : Int) Tryd.underlying9]
  have := byteAt_eq s k hk
  simp [hk, this]
set_option maxRecDepth 100000 in
set_option maxHeartbeats 1000000 in
theorem refUnhex_many (s : ByteArray) (h : s.size ≠ 64) (hsz : s.size ≤ 1099511627776) (w : World) :
    Calls Tryd.prog 27 #[.string s] w fun e w' => e = .returned (.tuple #[.agg (arr32 []), .int .i64 2]) ∧ Below w.heap.size w w' := by
  have hne : ¬ (s.size : Int) = 64 := by omega
  have HI32 := Lib.hid (arr32_info [] (by simp))
  go_enter Tryd.func27, Tryd.ntmps27
  go_upto_region 2 with (fail)
  refine gen_world (P := fun W => Code.wp _ _ _ _ W) (I := fun W => Below w.heap.size w W ∧ Has W w.heap.size 26 (arr32 []) ∧ Has W (w.heap.size + 1) 26 (arr32 [])) _ ⟨((Below.refl _ w).alloc (Nat.le_refl _) _).alloc (by simp) _, (Has.fresh_at _ _ _ _ rfl).alloc _, Has.fresh_at _ _ _ _ (by simp)⟩ ?_
  rintro W ⟨hB, hR, hO⟩
  have HB := Lib.hid hB
  have HR := Lib.hid hR
  have HO := Lib.hid hO.row
  clear hB hR hO
  go_wp2_with (first
    | ((with_reducible refine arm_load (w := W) ⟨w.heap.size + 1, 0, none⟩ _ _ HO.out Tryd.underlying26 HI32.out ?h3 ?h4 ?_); (case h3 => rfl); (case h4 => rfl))
    | ((with_reducible refine arm_store w.heap.size (arr32 []) 26 (arr32 []) HR.out rfl HI32.out (arr32_one _) ?h5 ?h6 ?_); (case h5 => rfl); (case h6 => rfl)))
  exact bodyPost_ret (results_row_tmp rfl _ _ w.heap.size 26 (arr32 []) (0, 0) _ rfl HR.out.setRow rfl Tryd.underlying26 HI32.out) rfl ⟨rfl, below_setRow HB.out (Nat.le_refl _) _⟩
set_option maxRecDepth 100000 in
set_option maxHeartbeats 2000000 in
theorem refUnhex_any (s : ByteArray) (h : s.size = 64) (w : World) :
    Calls Tryd.prog 27 #[.string s] w fun e w' => e = .returned (.tuple (if AllDig s then #[.agg (arr32 (packK s 32)), .int .i64 0] else #[.agg (arr32 []), .int .i64 4])) ∧ Below w.heap.size w w' := by
  have hne : (s.size : Int) = 64 := by omega
  have HI32 := Lib.hid (arr32_info [] (by simp))
  have hlen := packK_length s 32
  have HI33 := Lib.hid (arr32_info (packK s 32) (by rw [hlen]; omega))
  have HS32 := Lib.hid ((arr32_size [] (by simp)).trans (arr32_size (packK s 32) (by rw [hlen]; omega)).symm)
  clear hlen
  go_enter Tryd.func27, Tryd.ntmps27
  go_upto_region 2 with (fail)
  refine gen_world (P := fun W => Code.wp _ _ _ _ W) (I := fun W => Below w.heap.size w W ∧ Has W w.heap.size 26 (arr32 []) ∧ Has W (w.heap.size + 1) 26 (arr32 [])) _ ⟨((Below.refl _ w).alloc (Nat.le_refl _) _).alloc (by simp) _, (Has.fresh_at _ _ _ _ rfl).alloc _, Has.fresh_at _ _ _ _ (by simp)⟩ ?_
  rintro W ⟨hB, hR, hO⟩
  have HB := Lib.hid hB
  have HR := Lib.hid hR
  have HO := Lib.hid hO
  clear hB hR hO
  go_wp2
  go_loopw [5] (fun i wr => ∃ k : Nat, k ≤ 64 ∧ i = .int .i64 k ∧ Hid (∀ j, j < k → IsDig (byteAt s j)) ∧ Has wr (w.heap.size + 1) 26 (arr32 (outAt s k)) ∧ Has wr w.heap.size 26 (arr32 []) ∧ Below w.heap.size w wr) (fun i _ => 64 - (intOf i).toNat)
  case atStart => exact ⟨0, Nat.zero_le _, rfl, Lib.hid (fun j hj => absurd hj (Nat.not_lt_zero _)), HO.out, HR.out, HB.out⟩
  case round =>
    obtain ⟨k, hk, rfl, HN, hO, hR, hB⟩ := hrel
    by_cases hlt : k < 64
    · have hix := index_str s k (by omega)
      have hb256 : byteAt s k < 256 := by unfold byteAt; exact UInt8.toNat_lt _
      have hdg := refDigit_any (byteAt s k) hb256
      have HDg := Lib.hid hdg
      have HR := Lib.hid hR
      have HB := Lib.hid hB
      by_cases hd : IsDig (byteAt s k)
      · have hdv : digOf (byteAt s k) = ((valOf (byteAt s k) : Nat) : Int) := if_pos hd
        have hv := valOf_lt hd
        have hst := outAt_step s k hlt
        have hcell := (hO.cell (k / 2)).trans (outAt_cell s k hlt)
        have hfree := hO.free (k / 2)
        have hpv : prevAt s k < 16 := by
          unfold prevAt
          split
          · exact valOf_lt (HN.out (k - 1) (by omega))
          · omega
        have HN2 : Hid (∀ j, j < k + 1 → IsDig (byteAt s j)) := Lib.hid fun j hj => by
          rcases Nat.lt_or_ge j k with h | h
          · exact HN.out j h
          · obtain rfl : j = k := by omega
            exact hd
        have HDv := Lib.hid hdv
        have hput := (hO.put (k / 2) (BV (prevAt s k * 16 + valOf (byteAt s k)))).of_eq hst
        generalize byteAt s k = c at *
        generalize prevAt s k = x at *
        obtain ⟨v, hvv⟩ : ∃ v, v = valOf c := ⟨_, rfl⟩
        rw [← hvv] at HDv hv hput
        have HP := Lib.hid hput
        clear hO hR hB hdg hdv hst hput hvv hd
        go_wp2_with (first
          | (go_at_call 64; (with_reducible refine (HDg.out _).mono ?_); rintro e w' ⟨rfl, rfl⟩; rw [HDv.out]))
        have hbv : BV (x * 16 + v) = Value.int .u8 ((x : Int) * 16 + (v : Int)) := congrArg (Value.int .u8) (by omega)
        have hp := HP.out
        rw [hbv] at hp
        exact ⟨⟨k + 1, by omega, by go_num, HN2, hp, HR.out.apart (by simp) _, HB.out.setCell (by simp) _⟩, by simp [intOf]; omega⟩
      · have hdv : digOf (byteAt s k) = -1 := if_neg hd
        have hall : ¬ AllDig s := fun ha => hd (ha k (by omega))
        have HA := Lib.hid hall
        have HDv := Lib.hid hdv
        clear hO hR hB hdg hdv hd hall
        generalize byteAt s k = c at *
        go_wp2_with (first
          | (go_at_call 64; (with_reducible refine (HDg.out _).mono ?_); rintro e w' ⟨rfl, rfl⟩; rw [HDv.out])
          | ((with_reducible refine arm_store w.heap.size (arr32 []) 26 (arr32 []) HR.out rfl HI32.out (arr32_one _) ?h5 ?h6 ?_); (case h5 => rfl); (case h6 => rfl)))
        try rw [if_neg HA.out]
        exact bodyPost_ret (results_row_tmp rfl _ _ w.heap.size 26 (arr32 []) (0, 0) _ rfl HR.out.setRow rfl Tryd.underlying26 HI32.out) rfl ⟨rfl, below_setRow HB.out (Nat.le_refl _) _⟩
    · obtain rfl : k = 64 := by omega
      have hall : AllDig s := fun i hi => HN.out i (by omega)
      have ho : outAt s 64 = packK s 32 := by simp [outAt]
      rw [ho] at hO
      have HO3 := Lib.hid hO.row
      have HR3 := Lib.hid hR
      have HB3 := Lib.hid hB
      have HA := Lib.hid hall
      clear hO hR hB hall
      go_wp2_with (first
        | ((with_reducible refine arm_load (w := wr) ⟨w.heap.size + 1, 0, none⟩ _ _ HO3.out Tryd.underlying26 HI33.out ?h3 ?h4 ?_); (case h3 => rfl); (case h4 => rfl))
        | ((with_reducible refine arm_store w.heap.size _ _ _ HR3.out HS32.out HI33.out (arr32_one _) ?h5 ?h6 ?_); (case h5 => rfl); (case h6 => rfl)))
      try rw [if_pos HA.out]
      exact bodyPost_ret (results_row_tmp rfl _ _ w.heap.size 26 (arr32 (packK s 32)) (0, 0) _ rfl HR3.out.setRow rfl Tryd.underlying26 HI33.out) rfl ⟨rfl, below_setRow HB3.out (Nat.le_refl _) _⟩
end Go.Proofs.YtillghidmfglpaaDoor
end
section
namespace Go.Proofs.YtillghidmfglpaaDoor
open Go.RowKit Go.Hoar
def str (l : List Nat) : ByteArray := ⟨(l.map UInt8.ofNat).toArray⟩
theorem str_append (a b : List Nat) : str a ++ str b = str (a ++ b) := by
  unfold str
  rw [List.map_append]
  apply ByteArray.ext
  simp
theorem slice_letter (d : Nat) (hd : d < 16) (w : World) : (Instr.sliceAt 9 (.string ⟨#[48, 49, 50, 51, 52, 53, 54, 55, 56, 57, 97, 98, 99, 100, 101, 102]⟩) (some (.int .u8 (d : Int))) (some (.int .u8 ((d : Int) + 1))) none).run Tryd.prog w = .ok (.string (str [letter d])) w := by
  obtain rfl | rfl | rfl | rfl | rfl | rfl | rfl | rfl | rfl | rfl | rfl | rfl | rfl | rfl | rfl | rfl : d = 0 ∨ d = 1 ∨ d = 2 ∨ d = 3 ∨ d = 4 ∨ d = 5 ∨ d = 6 ∨ d = 7 ∨ d = 8 ∨ d = 9 ∨ d = 10 ∨ d = 11 ∨ d = 12 ∨ d = 13 ∨ d = 14 ∨ d = 15 := by omega
  all_goals kernel_rfl
def hexP (l : List Nat) (k : Nat) : List Nat := (List.range k).map fun i => letter (nib l i)
theorem hexP_two (l : List Nat) (k : Nat) : hexP l (2 * (k + 1)) = hexP l (2 * k) ++ [letter (l.getD k 0 / 16), letter (l.getD k 0 % 16)] := by
  unfold hexP
  rw [show 2 * (k + 1) = 2 * k + 1 + 1 by omega, List.range_succ, List.range_succ]
  simp only [List.map_append, List.map_cons, List.map_nil, List.append_assoc, List.cons_append, List.nil_append]
  have e1 : nib l (2 * k) = l.getD k 0 / 16 := by unfold nib; rw [if_pos (by omega), show 2 * k / 2 = k by omega]
  have e2 : nib l (2 * k + 1) = l.getD k 0 % 16 := by unfold nib; rw [if_neg (by omega), show (2 * k + 1) / 2 = k by omega]
  rw [e1, e2]
set_option maxRecDepth 100000 in
set_option maxHeartbeats 2000000 in
theorem refHex_any (l : List Nat) (hl : l.length = 32) (hlb : Sha.Bytes l) (w : World) :
    Calls Tryd.prog 29 #[.agg (arr32 l)] w fun e w' => e = .returned (.string (str (hexOf l))) ∧ Below w.heap.size w w' := by
  go_enter Tryd.func29, Tryd.ntmps29
  go_upto_region 1 with (fail)
  refine gen_world (P := fun W => Code.wp _ _ _ _ W) (I := fun W => Below w.heap.size w W ∧ Has W w.heap.size 26 (arr32 l)) _ ⟨(Below.refl _ w).alloc (Nat.le_refl _) _, Has.fresh_at _ _ _ _ rfl⟩ ?_
  rintro W ⟨hB, hL⟩
  have HB := Lib.hid hB
  generalize w.heap.size = p at hL ⊢
  have HL := Lib.hid hL
  have HLB := Lib.hid hlb
  clear hB hL
  go_wp2
  go_loopw [3, 4] (fun o i wr => ∃ k q : Nat, k ≤ 32 ∧ i = .int .i64 k ∧ o = .string (str (hexP l (2 * k))) ∧ wr = W.drewN q) (fun _ i _ => 32 - (intOf i).toNat)
  case atStart => exact ⟨0, 0, Nat.zero_le _, rfl, by rw [Nat.mul_zero]; rfl, rfl⟩
  case round =>
    obtain ⟨k, q, hk, rfl, rfl, rfl⟩ := hrel
    by_cases hlt : k < 32
    · obtain ⟨x, hx⟩ : ∃ x, x = l.getD k 0 := ⟨_, rfl⟩
      have hx2 : x < 256 := by rw [hx]; exact Sha.getD_lt hlb (by decide) k
      have c1 : ∀ n, (W.drewN n).cell? ⟨p, k, none⟩ = some (.int .u8 (x : Int)) := fun n => by rw [(HL.out.drewN n).cell, arr32_get l hl k hlt, hx]
      have h2 := hexP_two l k
      rw [← hx] at h2
      obtain ⟨h, hh⟩ : ∃ h, h = x / 16 := ⟨_, rfl⟩
      obtain ⟨r, hr⟩ : ∃ r, r = x % 16 := ⟨_, rfl⟩
      rw [← hh, ← hr] at h2
      have hh16 : h < 16 := by omega
      have hr16 : r < 16 := by omega
      have e1 : (x : Int) / 16 = (h : Int) := by omega
      have e2 : (x : Int) % 16 = (r : Int) := by omega
      have e3 : (x : Int).tmod 16 = (r : Int) := by rw [Int.tmod_eq_emod_of_nonneg (by omega)]; exact e2
      have e4 : (x : Int).tdiv 16 = (h : Int) := by rw [Int.tdiv_eq_ediv_of_nonneg (by omega)]; exact e1
      have s1 := slice_letter h hh16
      have s2 := slice_letter r hr16
      have w1 : IntKind.u8.wrap ((h : Int) + 1) = (h : Int) + 1 := by
        unfold IntKind.wrap
        simp [IntKind.bits, IntKind.signed]
        omega
      have w2 : IntKind.u8.wrap ((r : Int) + 1) = (r : Int) + 1 := by
        unfold IntKind.wrap
        simp [IntKind.bits, IntKind.signed]
        omega
      have w3 : IntKind.u8.wrap (h : Int) = (h : Int) := by
        unfold IntKind.wrap
        simp [IntKind.bits, IntKind.signed]
        omega
      have w4 : IntKind.u8.wrap (r : Int) = (r : Int) := by
        unfold IntKind.wrap
        simp [IntKind.bits, IntKind.signed]
        omega
      have z1 : (str [letter h]).size = 1 := rfl
      have z2 : (str [letter r]).size = 1 := rfl
      have z3 : (str [letter h, letter r]).size = 2 := rfl
      have z4 : (str (hexP l (2 * k))).size = 2 * k := by simp [str, ByteArray.size, hexP]
      have a1 : str [letter h] ++ str [letter r] = str [letter h, letter r] := str_append _ _
      have a2 : str (hexP l (2 * k)) ++ str [letter h, letter r] = str (hexP l (2 * (k + 1))) := by rw [str_append, h2]
      have H2 := Lib.hid h2
      have HX := Lib.hid (And.intro hx (And.intro hh hr))
      clear hx hh hr h2
      go_wp2
      go_quiet (fail)
      go_wp2
      exact ⟨⟨k + 1, _, by omega, by go_num, rfl, rfl⟩, by simp [intOf]; omega⟩
    · obtain rfl : k = 32 := by omega
      go_wp2
      go_ret
      exact ⟨rfl, below_drewN HB.out q⟩
end Go.Proofs.YtillghidmfglpaaDoor
end
section
namespace Go.Proofs.YtillghidmfglpaaDoor
open Go.RowKit Go.Hoar Go.Maps Go.Shelf
/-- The operations of a region. -/
def regOps (n : Nat) : Code → Option (Array Oper)
  | .region m ops _ => if m = n then some ops else none
  | .seq a b => match regOps n a with
    | some r => some r
    | none => regOps n b
  | .cond _ a b => match regOps n a with
    | some r => some r
    | none => regOps n b
  | .block _ c => regOps n c
  | .loop c => regOps n c
  | .scope c => regOps n c
  | _ => none
noncomputable def digOps : Array Oper := (Tryd.f5.body.bind (regOps 5)).getD #[]
theorem zero_list : arr32 [] = arr32 (List.replicate 32 0) := rfl
/-- Both read a text as the same digest, or tell the same error. -/
theorem unhex_both (s : ByteArray) (hs : s.size ≤ 1099511627776) : ∃ xs : List Nat, ∃ e : Int, xs.length = 32 ∧
    (∀ V : World, Calls Tryd.prog 26 #[.string s] V fun r w' => r = .returned (.tuple #[.agg (arr32 xs), .int .i64 e]) ∧ Below V.heap.size V w') ∧
    (∀ V : World, Calls Tryd.prog 27 #[.string s] V fun r w' => r = .returned (.tuple #[.agg (arr32 xs), .int .i64 e]) ∧ Below V.heap.size V w') := by
  by_cases h : s.size = 64
  · by_cases hd : AllDig s
    · exact ⟨packK s 32, 0, packK_length s 32, fun V => unhex_any s h hd V, fun V => by have := refUnhex_any s h V; rwa [if_pos hd] at this⟩
    · exact ⟨List.replicate 32 0, 4, rfl, fun V => unhex_form s h hd V, fun V => by have := refUnhex_any s h V; rwa [if_neg hd] at this⟩
  · exact ⟨List.replicate 32 0, 2, rfl, fun V => unhex_many s h hs V, fun V => refUnhex_many s h hs V⟩
set_option maxRecDepth 100000 in
set_option maxHeartbeats 3000000 in
/-- THE LAW's WALK. -/
theorem digits_law (l m : List Nat) (hl : l.length = 32) (hm : m.length = 32) (hlb : Sha.Bytes l) (hmb : Sha.Bytes m) (s : ByteArray) (hs : s.size ≤ 140737488355328) (w : World) (hc : ConstAt w) :
    Calls Tryd.prog 5 #[.agg (arr32 l), .agg (arr32 m), .string s] w fun e w' => e = .returned (.bool true) ∧ Below w.heap.size w w' := by
  by_cases hbig : 100 < s.size
  · have hb : decide (s.size > 100) = true := decide_eq_true hbig
    have hb2 : (100 : Int) < s.size := by omega
    have HAw : Hid (∀ V : World, Below w.heap.size w V → Calls Tryd.prog 15 #[] V fun e w' => e = .returned (.bool true) ∧ Below V.heap.size V w') := Lib.hid fun V hV => awake_any V (hc.below hV rfl)
    clear hc hb hbig
    go_enter Tryd.func5, Tryd.ntmps5
    go_upto_region 1 with (fail)
    refine gen_world (P := fun W => Code.wp _ _ _ _ W) (I := fun W => Below w.heap.size w W) _ (((Below.refl _ w).alloc (Nat.le_refl _) _).alloc (by simp) _) ?_
    intro W hB
    have HB := Lib.hid hB
    clear hB
    go_wp2_with (go_at_call 15; (with_reducible refine (HAw.out W HB.out).mono ?_); rintro e w1 ⟨rfl, hb1⟩; have HB1 := Lib.hid (HB.out.trans (hb1.mono HB.out.size)); clear hb1)
    go_ret
    exact ⟨rfl, HB1.out⟩
  · have hsm : (s.size : Int) ≤ 100 := by omega
    obtain ⟨xs, er, hxs, hu1, hu2⟩ := unhex_both s (by omega)
    have HAw : Hid (∀ V : World, Below w.heap.size w V → Calls Tryd.prog 15 #[] V fun e w' => e = .returned (.bool true) ∧ Below V.heap.size V w') := Lib.hid fun V hV => awake_any V (hc.below hV rfl)
    have HU1 := Lib.hid hu1
    have HU2 := Lib.hid hu2
    have HX1 : Hid (∀ V : World, Calls Tryd.prog 28 #[.agg (arr32 l)] V fun e w' => e = .returned (.string (str (hexOf l))) ∧ Below V.heap.size V w') := Lib.hid fun V => hex_any l hl hlb V
    have HX2 : Hid (∀ V : World, Calls Tryd.prog 29 #[.agg (arr32 l)] V fun e w' => e = .returned (.string (str (hexOf l))) ∧ Below V.heap.size V w') := Lib.hid fun V => refHex_any l hl hlb V
    have HC1 : Hid (∀ V : World, Calls Tryd.prog 30 #[.agg (arr32 l), .agg (arr32 m)] V fun e w' => e = .returned (.int .i64 (comp l m)) ∧ Below V.heap.size V w') := Lib.hid fun V => compare_any l m hl hm V
    have HC2 : Hid (∀ V : World, Calls Tryd.prog 31 #[.agg (arr32 l), .agg (arr32 m)] V fun e w' => e = .returned (.int .i64 (comp l m)) ∧ Below V.heap.size V w') := Lib.hid fun V => refCompare_any l m hl hm hlb hmb V
    have HC3 : Hid (∀ V : World, Calls Tryd.prog 30 #[.agg (arr32 l), .agg (arr32 l)] V fun e w' => e = .returned (.int .i64 0) ∧ Below V.heap.size V w') := Lib.hid fun V => by
      have := compare_any l l hl hl V
      rwa [comp_same l hlb] at this
    have HIl := Lib.hid (arr32_info l (by omega))
    have HIm := Lib.hid (arr32_info m (by omega))
    have HIx := Lib.hid (arr32_info xs (by omega))
    have HZx := Lib.hid (zero32_size xs (by omega))
    have heq : ∀ V : World, (binOp .eql 26 (.agg (arr32 xs)) (.agg (arr32 xs))).run Tryd.prog V = .ok (.bool true) V := fun V => by
      have := sum_eql xs xs hxs hxs V
      rwa [decide_eq_true rfl] at this
    have hguard := sum_guard
    clear hc hu1 hu2 hbig
    go_enter Tryd.func5, Tryd.ntmps5
    go_upto_region 1 with (fail)
    refine gen_world (P := fun W => Code.wp _ _ _ _ W) (I := fun W => Below w.heap.size w W ∧ Has W w.heap.size 26 (arr32 l) ∧ Has W (w.heap.size + 1) 26 (arr32 m)) _ ⟨((Below.refl _ w).alloc (Nat.le_refl _) _).alloc (by simp) _, (Has.fresh_at _ _ _ _ rfl).alloc _, Has.fresh_at _ _ _ _ (by simp)⟩ ?_
    rintro W ⟨hB, hL, hM⟩
    have HB := Lib.hid hB
    have HL := Lib.hid hL
    have HM := Lib.hid hM
    clear hB hL hM
    go_upto_region 4 with (first
      | (go_at_call 26; (with_reducible refine (HU1.out _).mono ?_); rintro e w1 ⟨rfl, hb1⟩; have HB1 := Lib.hid (HB.out.trans (hb1.mono HB.out.size)); have HL1 := Lib.hid (HL.out.below hb1 HL.out.lt); have HM1 := Lib.hid (HM.out.below hb1 HM.out.lt); have HF1 := Lib.hid (fresh_sum w1); clear hb1)
      | ((with_reducible refine arm_store w1.heap.size (arr32 xs) 26 zero32 HF1.out HZx.out HIx.out (arr32_one _) ?h5 ?h6 ?_); (case h5 => rfl); (case h6 => rfl)))
    refine gen_world (P := fun W => Code.wp _ _ _ _ W) (I := fun V => Below w.heap.size w V ∧ Has V w.heap.size 26 (arr32 l) ∧ Has V (w.heap.size + 1) 26 (arr32 m) ∧ Has V w1.heap.size 26 (arr32 xs)) _ ⟨below_setRow (HB1.out.alloc HB1.out.size _) HB1.out.size _, (HL1.out.alloc _).setRow_apart (Nat.ne_of_lt HL1.out.lt), (HM1.out.alloc _).setRow_apart (Nat.ne_of_lt HM1.out.lt), HF1.out.setRow⟩ ?_
    rintro V ⟨hB, hL, hM, hX⟩
    generalize w1.heap.size = p1 at hX ⊢
    have HB2 := Lib.hid hB
    have HL2 := Lib.hid hL
    have HM2 := Lib.hid hM
    have HX2' := Lib.hid hX
    clear hB hL hM hX HB1 HL1 HM1 HF1
    go_upto_region 5 with (first
      | (go_at_call 27; (with_reducible refine (HU2.out _).mono ?_); rintro e w2 ⟨rfl, hb1⟩; have HB1 := Lib.hid (HB2.out.trans (hb1.mono HB2.out.size)); have HL1 := Lib.hid (HL2.out.below hb1 HL2.out.lt); have HM1 := Lib.hid (HM2.out.below hb1 HM2.out.lt); have HXX := Lib.hid (HX2'.out.below hb1 HX2'.out.lt); have HF1 := Lib.hid (fresh_sum w2); clear hb1)
      | ((with_reducible refine arm_store w2.heap.size (arr32 xs) 26 zero32 HF1.out HZx.out HIx.out (arr32_one _) ?h7 ?h8 ?_); (case h7 => rfl); (case h8 => rfl)))
    refine gen_world (P := fun W => Code.wp _ _ _ _ W) (I := fun V => Below w.heap.size w V ∧ Has V w.heap.size 26 (arr32 l) ∧ Has V (w.heap.size + 1) 26 (arr32 m) ∧ Has V p1 26 (arr32 xs) ∧ Has V w2.heap.size 26 (arr32 xs)) _ ⟨below_setRow (HB1.out.alloc HB1.out.size _) HB1.out.size _, (HL1.out.alloc _).setRow_apart (Nat.ne_of_lt HL1.out.lt), (HM1.out.alloc _).setRow_apart (Nat.ne_of_lt HM1.out.lt), (HXX.out.alloc _).setRow_apart (Nat.ne_of_lt HXX.out.lt), HF1.out.setRow⟩ ?_
    rintro U ⟨hB, hL, hM, hX, hY⟩
    generalize w2.heap.size = p2 at hY ⊢
    have HBU := Lib.hid hB
    have HLU := Lib.hid hL
    have HMU := Lib.hid hM
    have HXU := Lib.hid hX
    have HYU := Lib.hid hY
    clear hB hL hM hX hY HB1 HL1 HM1 HXX HF1 HB2 HL2 HM2 HX2'
    change Code.wp _ (Code.region 5 digOps true) _ _ _
    refine wp_region_held (S := fun W => Below U.heap.size U W) (by kernel_rfl) ?_
    have hsz : digOps.size = 34 := by kernel_rfl
    rw [hsz]
    refine gen_world (P := fun W => wpAnyH _ _ _ _ _ _ _ _ W) (I := fun W => Below U.heap.size U W) _ (Below.refl _ U).drew ?_
    intro Ud hUd
    have HS0 := Lib.hid hUd
    clear hUd hsz
    refine wpAnyH_take (i := 0) (oi := ⟨some 25, _, _, _, _, none⟩) (v := .agg (arr32 l)) rfl (by kernel_rfl) (by kernel_rfl) (by kernel_rfl) (fun _ _ _ h => h) (yieldsIf_load ⟨w.heap.size, 0, none⟩ _ _ (fun w hw => (HLU.out.below hw HLU.out.lt).row) Tryd.underlying26 HIl.out rfl rfl) HS0.out ?_
    try simp only [Act.put, List.setIfInBounds_toArray, List.set_cons_succ, List.set_cons_zero]
    refine wpAnyH_take (i := 2) (oi := ⟨some 27, _, _, _, _, none⟩) (v := .agg (arr32 l)) rfl (by kernel_rfl) (by kernel_rfl) (by kernel_rfl) (fun _ _ _ h => h) (yieldsIf_load ⟨w.heap.size, 0, none⟩ _ _ (fun w hw => (HLU.out.below hw HLU.out.lt).row) Tryd.underlying26 HIl.out rfl rfl) HS0.out ?_
    try simp only [Act.put, List.setIfInBounds_toArray, List.set_cons_succ, List.set_cons_zero]
    refine wpAnyH_all (rs := [1]) (by kernel_rfl) (by simp) ?_
    intro i hi
    obtain rfl : i = 1 := by simpa using hi
    refine wpOp_step (o := ⟨some 26, _, _, _, _, _⟩) rfl (fun K' hK' => ?_)
    rw [if_pos (show Region.wanted _ _ = true from rfl)]
    go_simp
    (with_reducible refine (HX1.out _).mono ?_)
    rintro e v1 ⟨rfl, hbx⟩
    have HS1 := Lib.hid (HS0.out.trans (hbx.mono HS0.out.size))
    clear hbx
    refine hK' _ _ ⟨HS1.out, ?_⟩
    clear hK' K'
    try simp only [Act.put, List.setIfInBounds_toArray, List.set_cons_succ, List.set_cons_zero]
    refine wpAnyH_all (rs := [3]) (by kernel_rfl) (by simp) ?_
    intro i hi
    obtain rfl : i = 3 := by simpa using hi
    refine wpOp_step (o := ⟨some 28, _, _, _, _, _⟩) rfl (fun K' hK' => ?_)
    rw [if_pos (show Region.wanted _ _ = true from rfl)]
    go_simp
    (with_reducible refine (HX2.out _).mono ?_)
    rintro e v2 ⟨rfl, hbx⟩
    have HS2 := Lib.hid (HS1.out.trans (hbx.mono HS1.out.size))
    clear hbx
    refine hK' _ _ ⟨HS2.out, ?_⟩
    clear hK' K'
    try simp only [Act.put, List.setIfInBounds_toArray, List.set_cons_succ, List.set_cons_zero]
    refine wpAnyH_take (i := 4) (oi := ⟨some 29, _, _, _, _, _⟩) (v := ?_) rfl (by kernel_rfl) (by kernel_rfl) (by kernel_rfl) (fun _ _ _ h => h) (Or.inl ⟨by rfl, fun w' hw' => by go_simp; with_reducible rfl⟩) HS2.out ?_
    try simp only [Act.put, List.setIfInBounds_toArray, List.set_cons_succ, List.set_cons_zero]
    refine wpAnyH_take (i := 5) (oi := ⟨some 30, _, _, _, _, _⟩) (v := ?_) rfl (by kernel_rfl) (by kernel_rfl) (by kernel_rfl) (fun _ _ _ h => h) (Or.inl ⟨by rfl, fun w' hw' => by go_simp; with_reducible rfl⟩) HS2.out ?_
    try simp only [Act.put, List.setIfInBounds_toArray, List.set_cons_succ, List.set_cons_zero]
    refine wpAnyH_take (i := 6) (oi := ⟨some 31, _, _, _, _, some _⟩) (v := .agg (arr32 xs)) rfl (by kernel_rfl) (by kernel_rfl) (by kernel_rfl) (fun _ _ _ h => h) (yieldsIf_load_g ⟨p1, 0, none⟩ _ _ (fun w hw => (HXU.out.below hw HXU.out.lt).row) Tryd.underlying26 HIx.out rfl rfl rfl) HS2.out ?_
    try simp only [Act.put, List.setIfInBounds_toArray, List.set_cons_succ, List.set_cons_zero]
    refine wpAnyH_take (i := 7) (oi := ⟨some 32, _, _, _, _, some _⟩) (v := .agg (arr32 xs)) rfl (by kernel_rfl) (by kernel_rfl) (by kernel_rfl) (fun _ _ _ h => h) (yieldsIf_load_g ⟨p2, 0, none⟩ _ _ (fun w hw => (HYU.out.below hw HYU.out.lt).row) Tryd.underlying26 HIx.out rfl rfl rfl) HS2.out ?_
    try simp only [Act.put, List.setIfInBounds_toArray, List.set_cons_succ, List.set_cons_zero]
    refine wpAnyH_take (i := 8) (oi := ⟨some 33, _, _, _, _, _⟩) (v := ?_) rfl (by kernel_rfl) (by kernel_rfl) (by kernel_rfl) (fun _ _ _ h => h) (Or.inl ⟨by rfl, fun w' hw' => by go_simp; with_reducible rfl⟩) HS2.out ?_
    try simp only [Act.put, List.setIfInBounds_toArray, List.set_cons_succ, List.set_cons_zero]
    refine wpAnyH_take (i := 9) (oi := ⟨some 34, _, _, _, _, _⟩) (v := ?_) rfl (by kernel_rfl) (by kernel_rfl) (by kernel_rfl) (fun _ _ _ h => h) (Or.inl ⟨by rfl, fun w' hw' => by go_simp; with_reducible rfl⟩) HS2.out ?_
    try simp only [Act.put, List.setIfInBounds_toArray, List.set_cons_succ, List.set_cons_zero]
    refine wpAnyH_take (i := 10) (oi := ⟨some 35, _, _, _, _, _⟩) (v := ?_) rfl (by kernel_rfl) (by kernel_rfl) (by kernel_rfl) (fun _ _ _ h => h) (Or.inl ⟨by rfl, fun w' hw' => by go_simp; with_reducible rfl⟩) HS2.out ?_
    try simp only [Act.put, List.setIfInBounds_toArray, List.set_cons_succ, List.set_cons_zero]
    refine wpAnyH_take (i := 11) (oi := ⟨some 36, _, _, _, _, _⟩) (v := ?_) rfl (by kernel_rfl) (by kernel_rfl) (by kernel_rfl) (fun _ _ _ h => h) (Or.inl ⟨by rfl, fun w' hw' => by go_simp; with_reducible rfl⟩) HS2.out ?_
    try simp only [Act.put, List.setIfInBounds_toArray, List.set_cons_succ, List.set_cons_zero]
    refine wpAnyH_take (i := 12) (oi := ⟨some 37, _, _, _, _, _⟩) (v := ?_) rfl (by kernel_rfl) (by kernel_rfl) (by kernel_rfl) (fun _ _ _ h => h) (Or.inl ⟨by rfl, fun w' hw' => by go_simp; with_reducible rfl⟩) HS2.out ?_
    try simp only [Act.put, List.setIfInBounds_toArray, List.set_cons_succ, List.set_cons_zero]
    refine wpAnyH_take (i := 13) (oi := ⟨some 38, _, _, _, _, _⟩) (v := ?_) rfl (by kernel_rfl) (by kernel_rfl) (by kernel_rfl) (fun _ _ _ h => h) (Or.inl ⟨by rfl, fun w' hw' => by go_simp; with_reducible rfl⟩) HS2.out ?_
    try simp only [Act.put, List.setIfInBounds_toArray, List.set_cons_succ, List.set_cons_zero]
    refine wpAnyH_take (i := 14) (oi := ⟨some 39, _, _, _, _, _⟩) (v := ?_) rfl (by kernel_rfl) (by kernel_rfl) (by kernel_rfl) (fun _ _ _ h => h) (Or.inl ⟨by rfl, fun w' hw' => by go_simp; with_reducible rfl⟩) HS2.out ?_
    try simp only [Act.put, List.setIfInBounds_toArray, List.set_cons_succ, List.set_cons_zero]
    refine wpAnyH_take (i := 15) (oi := ⟨some 40, _, _, _, _, _⟩) (v := ?_) rfl (by kernel_rfl) (by kernel_rfl) (by kernel_rfl) (fun _ _ _ h => h) (Or.inl ⟨by rfl, fun w' hw' => by go_simp; with_reducible rfl⟩) HS2.out ?_
    try simp only [Act.put, List.setIfInBounds_toArray, List.set_cons_succ, List.set_cons_zero]
    refine wpAnyH_take (i := 16) (oi := ⟨some 41, _, _, _, _, some _⟩) (v := .agg (arr32 l)) rfl (by kernel_rfl) (by kernel_rfl) (by kernel_rfl) (fun _ _ _ h => h) (yieldsIf_load_g ⟨w.heap.size, 0, none⟩ _ _ (fun w hw => (HLU.out.below hw HLU.out.lt).row) Tryd.underlying26 HIl.out rfl rfl rfl) HS2.out ?_
    try simp only [Act.put, List.setIfInBounds_toArray, List.set_cons_succ, List.set_cons_zero]
    refine wpAnyH_take (i := 17) (oi := ⟨some 42, _, _, _, _, some _⟩) (v := .agg (arr32 m)) rfl (by kernel_rfl) (by kernel_rfl) (by kernel_rfl) (fun _ _ _ h => h) (yieldsIf_load_g ⟨w.heap.size + 1, 0, none⟩ _ _ (fun w hw => (HMU.out.below hw HMU.out.lt).row) Tryd.underlying26 HIm.out rfl rfl rfl) HS2.out ?_
    try simp only [Act.put, List.setIfInBounds_toArray, List.set_cons_succ, List.set_cons_zero]
    refine wpAnyH_take (i := 19) (oi := ⟨some 44, _, _, _, _, some _⟩) (v := .agg (arr32 l)) rfl (by kernel_rfl) (by kernel_rfl) (by kernel_rfl) (fun _ _ _ h => h) (yieldsIf_load_g ⟨w.heap.size, 0, none⟩ _ _ (fun w hw => (HLU.out.below hw HLU.out.lt).row) Tryd.underlying26 HIl.out rfl rfl rfl) HS2.out ?_
    try simp only [Act.put, List.setIfInBounds_toArray, List.set_cons_succ, List.set_cons_zero]
    refine wpAnyH_take (i := 20) (oi := ⟨some 45, _, _, _, _, some _⟩) (v := .agg (arr32 m)) rfl (by kernel_rfl) (by kernel_rfl) (by kernel_rfl) (fun _ _ _ h => h) (yieldsIf_load_g ⟨w.heap.size + 1, 0, none⟩ _ _ (fun w hw => (HMU.out.below hw HMU.out.lt).row) Tryd.underlying26 HIm.out rfl rfl rfl) HS2.out ?_
    try simp only [Act.put, List.setIfInBounds_toArray, List.set_cons_succ, List.set_cons_zero]
    refine wpAnyH_all (rs := [18]) (by kernel_rfl) (by simp) ?_
    intro i hi
    obtain rfl : i = 18 := by simpa using hi
    refine wpOp_step (o := ⟨some 43, _, _, _, _, _⟩) rfl (fun K' hK' => ?_)
    rw [if_pos (show Region.wanted _ _ = true from rfl)]
    go_simp
    (with_reducible refine (HC1.out _).mono ?_)
    rintro e v3 ⟨rfl, hbx⟩
    have HS3 := Lib.hid (HS2.out.trans (hbx.mono HS2.out.size))
    clear hbx
    refine hK' _ _ ⟨HS3.out, ?_⟩
    clear hK' K'
    try simp only [Act.put, List.setIfInBounds_toArray, List.set_cons_succ, List.set_cons_zero]
    refine wpAnyH_all (rs := [21]) (by kernel_rfl) (by simp) ?_
    intro i hi
    obtain rfl : i = 21 := by simpa using hi
    refine wpOp_step (o := ⟨some 46, _, _, _, _, _⟩) rfl (fun K' hK' => ?_)
    rw [if_pos (show Region.wanted _ _ = true from rfl)]
    go_simp
    (with_reducible refine (HC2.out _).mono ?_)
    rintro e v4 ⟨rfl, hbx⟩
    have HS4 := Lib.hid (HS3.out.trans (hbx.mono HS3.out.size))
    clear hbx
    refine hK' _ _ ⟨HS4.out, ?_⟩
    clear hK' K'
    try simp only [Act.put, List.setIfInBounds_toArray, List.set_cons_succ, List.set_cons_zero]
    refine wpAnyH_take (i := 22) (oi := ⟨some 47, _, _, _, _, _⟩) (v := ?_) rfl (by kernel_rfl) (by kernel_rfl) (by kernel_rfl) (fun _ _ _ h => h) (Or.inl ⟨by rfl, fun w' hw' => by go_simp; with_reducible rfl⟩) HS4.out ?_
    try simp only [Act.put, List.setIfInBounds_toArray, List.set_cons_succ, List.set_cons_zero]
    refine wpAnyH_take (i := 23) (oi := ⟨some 48, _, _, _, _, _⟩) (v := ?_) rfl (by kernel_rfl) (by kernel_rfl) (by kernel_rfl) (fun _ _ _ h => h) (Or.inl ⟨by rfl, fun w' hw' => by go_simp; with_reducible rfl⟩) HS4.out ?_
    try simp only [Act.put, List.setIfInBounds_toArray, List.set_cons_succ, List.set_cons_zero]
    refine wpAnyH_take (i := 24) (oi := ⟨some 49, _, _, _, _, _⟩) (v := ?_) rfl (by kernel_rfl) (by kernel_rfl) (by kernel_rfl) (fun _ _ _ h => h) (Or.inl ⟨by rfl, fun w' hw' => by go_simp; with_reducible rfl⟩) HS4.out ?_
    try simp only [Act.put, List.setIfInBounds_toArray, List.set_cons_succ, List.set_cons_zero]
    refine wpAnyH_take (i := 25) (oi := ⟨some 50, _, _, _, _, some _⟩) (v := .agg (arr32 l)) rfl (by kernel_rfl) (by kernel_rfl) (by kernel_rfl) (fun _ _ _ h => h) (yieldsIf_load_g ⟨w.heap.size, 0, none⟩ _ _ (fun w hw => (HLU.out.below hw HLU.out.lt).row) Tryd.underlying26 HIl.out rfl rfl rfl) HS4.out ?_
    try simp only [Act.put, List.setIfInBounds_toArray, List.set_cons_succ, List.set_cons_zero]
    refine wpAnyH_take (i := 26) (oi := ⟨some 51, _, _, _, _, some _⟩) (v := .agg (arr32 l)) rfl (by kernel_rfl) (by kernel_rfl) (by kernel_rfl) (fun _ _ _ h => h) (yieldsIf_load_g ⟨w.heap.size, 0, none⟩ _ _ (fun w hw => (HLU.out.below hw HLU.out.lt).row) Tryd.underlying26 HIl.out rfl rfl rfl) HS4.out ?_
    try simp only [Act.put, List.setIfInBounds_toArray, List.set_cons_succ, List.set_cons_zero]
    refine wpAnyH_all (rs := [27]) (by kernel_rfl) (by simp) ?_
    intro i hi
    obtain rfl : i = 27 := by simpa using hi
    refine wpOp_step (o := ⟨some 52, _, _, _, _, _⟩) rfl (fun K' hK' => ?_)
    rw [if_pos (show Region.wanted _ _ = true from rfl)]
    go_simp
    (with_reducible refine (HC3.out _).mono ?_)
    rintro e v5 ⟨rfl, hbx⟩
    have HS5 := Lib.hid (HS4.out.trans (hbx.mono HS4.out.size))
    clear hbx
    refine hK' _ _ ⟨HS5.out, ?_⟩
    clear hK' K'
    try simp only [Act.put, List.setIfInBounds_toArray, List.set_cons_succ, List.set_cons_zero]
    refine wpAnyH_take (i := 28) (oi := ⟨some 53, _, _, _, _, _⟩) (v := ?_) rfl (by kernel_rfl) (by kernel_rfl) (by kernel_rfl) (fun _ _ _ h => h) (Or.inl ⟨by rfl, fun w' hw' => by go_simp; with_reducible rfl⟩) HS5.out ?_
    try simp only [Act.put, List.setIfInBounds_toArray, List.set_cons_succ, List.set_cons_zero]
    refine wpAnyH_take (i := 29) (oi := ⟨some 54, _, _, _, _, _⟩) (v := ?_) rfl (by kernel_rfl) (by kernel_rfl) (by kernel_rfl) (fun _ _ _ h => h) (Or.inl ⟨by rfl, fun w' hw' => by go_simp; with_reducible rfl⟩) HS5.out ?_
    try simp only [Act.put, List.setIfInBounds_toArray, List.set_cons_succ, List.set_cons_zero]
    refine wpAnyH_take (i := 30) (oi := ⟨some 55, _, _, _, _, _⟩) (v := ?_) rfl (by kernel_rfl) (by kernel_rfl) (by kernel_rfl) (fun _ _ _ h => h) (Or.inl ⟨by rfl, fun w' hw' => by go_simp; with_reducible rfl⟩) HS5.out ?_
    try simp only [Act.put, List.setIfInBounds_toArray, List.set_cons_succ, List.set_cons_zero]
    refine wpAnyH_all (rs := [31]) (by kernel_rfl) (by simp) ?_
    intro i hi
    obtain rfl : i = 31 := by simpa using hi
    refine wpOp_step (o := ⟨some 56, _, _, _, _, _⟩) rfl (fun K' hK' => ?_)
    rw [if_pos (show Region.wanted _ _ = true from rfl)]
    go_simp
    (with_reducible refine (HAw.out _ (HBU.out.trans (HS5.out.mono HBU.out.size))).mono ?_)
    rintro e v6 ⟨rfl, hbx⟩
    have HS6 := Lib.hid (HS5.out.trans (hbx.mono HS5.out.size))
    clear hbx
    refine hK' _ _ ⟨HS6.out, ?_⟩
    clear hK' K'
    try simp only [Act.put, List.setIfInBounds_toArray, List.set_cons_succ, List.set_cons_zero]
    refine wpAnyH_take (i := 32) (oi := ⟨some 57, _, _, _, _, _⟩) (v := ?_) rfl (by kernel_rfl) (by kernel_rfl) (by kernel_rfl) (fun _ _ _ h => h) (Or.inl ⟨by rfl, fun w' hw' => by go_simp; with_reducible rfl⟩) HS6.out ?_
    try simp only [Act.put, List.setIfInBounds_toArray, List.set_cons_succ, List.set_cons_zero]
    refine wpAnyH_take (i := 33) (oi := ⟨some 6, _, _, _, _, _⟩) (v := ?_) rfl (by kernel_rfl) (by kernel_rfl) (by kernel_rfl) (fun _ _ _ h => h) (Or.inl ⟨by rfl, fun w' hw' => by go_simp; with_reducible rfl⟩) HS6.out ?_
    try simp only [Act.put, List.setIfInBounds_toArray, List.set_cons_succ, List.set_cons_zero]
    refine wpAnyH_done (by kernel_rfl) ?_ _
    go_wp2
    go_ret
    exact ⟨rfl, HBU.out.trans (HS6.out.mono HBU.out.size)⟩
end Go.Proofs.YtillghidmfglpaaDoor
end
section
namespace Go.Hoar
open Go Go.RowKit Go.ChangeShapes Go.WideShapes
section
variable {H : Type} {enc : TypeId × Value → H} {P : Program} {w : World} {base : Nat} {sp : Nat → Bool} {held : Bool} {e t : TypeId} {k : IntKind} {n m : Nat}
theorem cells_ints (he : P.underlying e = some (.int k)) : ∀ (cs : List Value) (xs : List (DataW H × List MemPlace)), cs.length = xs.length →
    (∀ i, i < xs.length → DataW.trod enc P w base sp held m e ((cs.drop i).take 1) = xs[i]?) → ∃ zs : List Int, cs = zs.map (Value.int k) ∧ xs = zs.map (fun z => (.lit (.int k z), [])) ∧ ∀ z ∈ zs, (Lit.int k z).wf = true
  | [], [], _, _ => ⟨[], rfl, rfl, fun _ h => by cases h⟩
  | [], _ :: _, h, _ => by simp at h
  | _ :: _, [], h, _ => by simp at h
  | c :: cs, x :: xs, h, hr => by
    have h0 := hr 0 (by simp)
    simp only [List.drop_zero, List.take_succ_cons, List.take_zero, List.getElem?_cons_zero] at h0
    obtain ⟨a, ea, rfl, wa⟩ := DataW.trod_int he h0
    simp only [List.cons.injEq, and_true] at ea
    obtain ⟨zs, rfl, rfl, hz⟩ := cells_ints he cs xs (by simpa using h) (fun i hi => by
      have := hr (i + 1) (by simpa using hi)
      simpa using this)
    refine ⟨a :: zs, by rw [ea]; rfl, rfl, fun z hz' => ?_⟩
    rcases List.mem_cons.1 hz' with rfl | hz'
    · exact wa
    · exact hz z hz'
/-- An array of integers, opened. -/
theorem open_row (ht : P.underlying t = some (.array n e)) (he : P.underlying e = some (.int k)) (hce : P.cellsOf e = 1) (hct : P.cellsOf t = n) {v : Value} {d : DataW H} {ps : List MemPlace} (hv : ∃ xs : Array Value, v = .agg xs) (hd : DataW.Trod enc P w base sp held t v d ps) :
    ∃ zs : List Int, zs.length = n ∧ v = .agg (zs.map (Value.int k)).toArray ∧ d = .agg (zs.map fun z => .lit (.int k z)) ∧ ps = [] ∧ ∀ z ∈ zs, (Lit.int k z).wf = true := by
  obtain ⟨fuel, hf⟩ := hd
  obtain ⟨cs, rfl⟩ := hv
  obtain ⟨xs, m, rfl, hx, hl, hn, hel⟩ := DataW.trod_array ht hf
  have hcl : cs.toList.length = xs.length := by rw [hn, ← hct]; exact hl
  rw [hce] at hel
  obtain ⟨zs, hz1, hz2, hz3⟩ := cells_ints (m := m) he cs.toList xs hcl (fun i hi => by
    have := hel i (by omega)
    rw [Nat.mul_one] at this
    exact this)
  simp only [Prod.mk.injEq] at hx
  refine ⟨zs, by have := congrArg List.length hz2; rw [List.length_map] at this; omega, ?_, ?_, ?_, hz3⟩
  · rw [← hz1]
  · rw [hx.1, hz2, List.map_map]
    rfl
  · rw [hx.2, hz2]
    simp [List.flatMap_map]
theorem mapM_cells {α β : Type} (f : α → β) (g : α → Option β) : ∀ l : List α, (∀ x ∈ l, g x = some (f x)) → l.mapM g = some (l.map f)
  | [], _ => rfl
  | x :: l, h => by
    rw [List.mapM_cons, h x (by simp), mapM_cells f g l (fun y hy => h y (by simp [hy]))]
    rfl
/-- What an array's cells read as. -/
theorem row_reads (ht : P.underlying t = some (.array n e)) (he : P.underlying e = some (.int k)) (hce : P.cellsOf e = 1) (hct : P.cellsOf t = n) (zs : List Int) (hl : zs.length = n) (hz : ∀ z ∈ zs, (Lit.int k z).wf = true) :
    DataW.trod enc P w base sp held 2 t (zs.map (Value.int k)) = some (.agg (zs.map fun z => .lit (.int k z)), []) := by
  rw [DataW.trod_step]
  unfold DataW.trodStep
  rw [ht]
  simp only [hct, List.length_map, hl, if_true, hce]
  have hm := mapM_cells (fun i => ((DataW.lit (.int k (zs.getD i 0)) : DataW H), ([] : List MemPlace))) (fun i => DataW.trod enc P w base sp held 1 e ((List.drop (i * 1) (zs.map (Value.int k))).take 1)) (List.range n) (fun i hi => by
    have hi' : i < zs.length := by rw [hl]; exact List.mem_range.1 hi
    have e1 : (List.drop (i * 1) (zs.map (Value.int k))).take 1 = [Value.int k (zs.getD i 0)] := by
      rw [Nat.mul_one, List.getD_eq_getElem?_getD, List.getElem?_eq_getElem hi', ← List.map_drop, List.drop_eq_getElem_cons hi']
      rfl
    rw [e1]
    have hw := hz (zs.getD i 0) (by rw [List.getD_eq_getElem?_getD, List.getElem?_eq_getElem hi']; exact List.getElem_mem hi')
    generalize zs.getD i 0 = z at hw ⊢
    simp [DataW.trod, he, hw])
  rw [hm]
  simp only [Option.map_some, Option.some.injEq, Prod.mk.injEq, DataW.agg.injEq]
  refine ⟨?_, by simp [List.flatMap_map]⟩
  rw [List.map_map]
  apply List.ext_getElem (by simp [hl])
  intro i h1 h2
  have hi : i < zs.length := by simpa using h2
  simp [List.getElem?_eq_getElem hi]
theorem shut_row (ht : P.underlying t = some (.array n e)) (he : P.underlying e = some (.int k)) (hce : P.cellsOf e = 1) (hct : P.cellsOf t = n) (zs : List Int) (hl : zs.length = n) (hz : ∀ z ∈ zs, (Lit.int k z).wf = true) :
    DataW.Trod enc P w base sp held t (.agg (zs.map (Value.int k)).toArray) (.agg (zs.map fun z => .lit (.int k z))) [] :=
  ⟨2, row_reads ht he hce hct zs hl hz⟩
end
end Go.Hoar
end
section
namespace Go.Hoar
open Go.ChangeShapes Go.WideShapes Go.ChangeAt Go.RowKit
/-- The post of a call that turns nothing which was there. -/
theorem post_of_below {H : Type} {enc : TypeId × Value → H} {P : Program} {f : Func} {s : ChangeSpec} {apart fresh handsOn again : Bool} {W W' : World} {args : Array Value} {v : Value} {ds gs : List (DataW H)} {before pa pv : List MemPlace}
    (hW : DataW.Whole enc P f.params.toList s.vars apart W args.toList ds gs before)
    (hres : ∀ (b : Nat) (sp : Nat → Bool) (hd : Bool), DataW.TrodAll enc P W' b sp hd f.resultTypes.toList (v.resultList f.resultTypes.size) (s.fn H (ds ++ gs)).results [])
    (hargs : ∀ sp : Nat → Bool, (∀ p ∈ before, sp p.block = true) → DataW.TrodAll enc P W' 0 sp true f.params.toList args.toList (s.fn H (ds ++ gs)).args pa)
    (hvars : ∀ sp : Nat → Bool, (∀ p ∈ before, sp p.block = true) → DataW.TrodVars enc P W' sp s.vars (s.fn H (ds ++ gs)).vars pv)
    (hps : before = pa ++ pv) (hb : Below W.heap.size W W')
    (hok : ∀ (j : Nat) (t : TypeId) (r : Value), f.resultTypes[j]? = some t → (v.resultList f.resultTypes.size)[j]? = some r → Value.okWide P W' .any 0 t r) :
    s.post enc P f apart fresh handsOn again W args v W' := by
  have hold : ∀ p ∈ before, (fun b => decide (b < W.heap.size)) p.block = true := fun p hp => by simpa using hW.lt p hp
  refine ⟨ds, gs, before, [], pa, pv, hW, hres _ _ _, hargs _ hold, hvars _ hold, World.keptBut_mono (fun p hp => ⟨hp, ?_⟩) (hb.frame (· ∈ before)), fun _ => ?_⟩
  · rw [hps, List.mem_append] at hp
    exact Or.inr hp
  · have hlt := fun p hp => hW.lt p hp
    obtain ⟨_, _, _, _, _, hz, hn⟩ := hW
    refine ⟨hok, _, _, ([] ++ pa) ++ pv, ⟨[] ++ pa, pv, trodAll_append (hargs _ (fun _ _ => rfl)) (hres _ _ _), hvars _ (fun _ _ => rfl), rfl, ?_, ?_⟩, ?_⟩
    · intro b off hp
      have hp' : MemPlace.cell b off ∈ before := by rw [hps]; simpa using hp
      rw [hb.frozen (p := ⟨b, off, none⟩) (hlt _ hp')]
      exact hz b off hp'
    · intro ha
      have := hn ha
      rw [hps] at this
      simpa using this
    · intro p hp _
      rw [hps]
      simpa using hp
/-- A value of an array's type, if it may be passed, holds cells. -/
theorem okWide_agg {P : Program} {w : World} {r : Reach} {b : Nat} {t e : TypeId} {n : Nat} {v : Value} (ht : P.underlying t = some (.array n e)) (h : Value.okWide P w r b t v) : ∃ cs : Array Value, v = .agg cs := by
  unfold Value.okWide at h
  rw [ht] at h
  obtain ⟨cs, hc, _⟩ := h
  exact ⟨cs, hc⟩
/-- Integers of a byte's kind are bytes. -/
theorem bytes_of_ints : ∀ zs : List Int, (∀ z ∈ zs, (Lit.int .u8 z).wf = true) → ∃ l : List Nat, zs = l.map (fun n : Nat => (n : Int)) ∧ ∀ x ∈ l, x < 256
  | [], _ => ⟨[], rfl, fun _ h => by cases h⟩
  | z :: zs, h => by
    obtain ⟨l, rfl, hl⟩ := bytes_of_ints zs (fun x hx => h x (by simp [hx]))
    have hz := h z (by simp)
    simp only [Lit.wf, Bool.and_eq_true, decide_eq_true_eq] at hz
    have h0 : 0 ≤ z := hz.1
    have h1 : z ≤ 255 := hz.2
    refine ⟨z.toNat :: l, by simp [Int.toNat_of_nonneg h0], fun x hx => ?_⟩
    rcases List.mem_cons.1 hx with rfl | hx
    · omega
    · exact hl x hx
end Go.Hoar
end
section
namespace Go.Proofs.YtillghidmfglpaaDoor
open Go.ChangeShapes Go.WideShapes Go.ChangeAt Go.RowKit Go.Hoar
theorem ownK : ownKnob Tryd.prog.godebug = none := by kernel_rfl
theorem gConst : Tryd.prog.globalNamed "hoarstone/sum.constants" = some 0 := by kernel_rfl
theorem gConstType : (Tryd.prog.globals[0]?).map (·.type) = some 151 := by kernel_rfl
theorem cellsConst : Tryd.prog.cellsOf 151 = 64 := by kernel_rfl
theorem cellsU8 : Tryd.prog.cellsOf 5 = 1 := by kernel_rfl
theorem cellsSum : Tryd.prog.cellsOf 26 = 32 := by kernel_rfl
theorem cellsU32 : Tryd.prog.cellsOf 30 = 1 := by kernel_rfl
def laidHere : List (String × DataW Unit) := [("hoarstone/sum.constants", Rows.laid_hoarstone_sum_constants)]
theorem constAt_of_laid {W : World} (h : laidMet Tryd.prog laidHere W) : ConstAt W := by
  have ht : Lib.TabIs Tryd.prog W "hoarstone/sum.constants" .u32 (Sha.consts.map fun n : Nat => (n : Int)) :=
    Lib.tabIs_of_head (rest := []) gConst gConstType Tryd.underlying151 Tryd.underlying30 cellsU32 cellsConst h
  intro i hi
  have := ht.cell gConst i (by rw [List.length_map]; exact hi)
  rw [this]
  simp only [List.getD, List.getElem?_map]
  cases Sha.consts[i]? <;> rfl
/-- A world for a witness: the table's block holds what its initialiser lays. -/
noncomputable def laidWorld (os : Os) : World :=
  { World.holding Tryd.prog os ⟨#[], #[], []⟩ with heap := (World.holding Tryd.prog os ⟨#[], #[], []⟩).heap.modify 0 fun
      | .cells _ t frozen => .cells (Sha.consts.map fun n : Nat => Value.int .u32 (n : Int)).toArray t frozen
      | o => o }
theorem laid_met (os : Os) (vs : Array Value) : laidMet Tryd.prog laidHere ((laidWorld os).forCall (fun _ _ => 0) ⟨#[], vs, []⟩).memory :=
  laidMet_of_run' 8 (by kernel_rfl) (by kernel_rfl)
end Go.Proofs.YtillghidmfglpaaDoor
end
