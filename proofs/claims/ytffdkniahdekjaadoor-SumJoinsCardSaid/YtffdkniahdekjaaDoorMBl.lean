/-
  THE REFERENCE's below: the greatest power of 2 below a number, by doubling.
  · YtffdkniahdekjaaDoorAwC
  · YtffdkniahdekjaaDoorAwake
  · A REGION THAT DRAWS ITS ORDER, operation by operation: what the single ones want. No program is spoken of.
  · THE KIT's NUMBERS: each is one of those that may come, and only the store is turned.
  · THE REFERENCE's Leaf: the digest of the list of one digest.
  · THE REFERENCE's Inner: the digest of two lists.
-/
import Derived.Test.YtffdkniahdekjaaDoorMBk
import Derived.Test.YtffdkniahdekjaaDoorMBa
import Derived.OrdersHeld
import Derived.RegionTactic
import Derived.Laws.AppendOwn
import Derived.Test.YtffdkniahdekjaaDoorMBd
import Derived.Test.YtffdkniahdekjaaDoorMBf
import Derived.Test.YtffdkniahdekjaaDoorMBc
section
namespace Go.Proofs.YtffdkniahdekjaaDoor
open Go.RowKit Go.Hoar Go.Maps Go.Shelf
set_option maxRecDepth 100000 in
set_option maxHeartbeats 3000000 in
theorem aw6 (xa xb xc : Dig) (ha : Hid (xa.1 = Sha.sha [97])) (hb : Hid (xb.1 = Sha.sha [98])) (hc : Hid (xc.1 = Sha.sha [99])) (w0 : World) (Q : Exit → Act → World → Prop) (hQ : Ends w0 Q) (p1 p2 p3 q : Nat) (U : World) (hF : Three xa xb xc p1 p2 p3 q w0 U)
    (s26 s27 s28 s29 s30 s31 s32 s33 s34 s35 s36 s37 s38 s39 s40 s41 s42 s43 s44 s45 s46 s47 s48 s49 s50 s51 s52 s53 s54 s55 s56 s57 s58 s59 s60 s61 s62 s63 s64 s65 s66 s67 s68 s69 s70 s71 s72 s73 s74 s75 s76 s77 s78 s79 s80 : Value) : Code.wp Tryd.prog (awTail 6) Q ⟨#[.bool false, .pointer (some ⟨p1, 0, none⟩), .pointer (some ⟨p2, 0, none⟩), .pointer (some ⟨p3, 0, none⟩), .slice (some ⟨q, 0, none⟩) 3 3, .int .i64 1, .int .i64 0, .int .i64 0, .int .i64 6, undef, undef, undef, undef, undef, undef, undef, undef, undef, undef, undef, undef, undef, undef, undef, undef, undef, s26, s27, s28, s29, s30, s31, s32, s33, s34, s35, s36, s37, s38, s39, s40, s41, s42, s43, s44, s45, s46, s47, s48, s49, s50, s51, s52, s53, s54, s55, s56, s57, s58, s59, s60, s61, s62, s63, s64, s65, s66, s67, s68, s69, s70, s71, s72, s73, s74, s75, s76, s77, s78, s79, s80, undef, undef, undef, undef, undef, undef, undef, undef, undef, undef, undef, undef, undef, undef, undef, undef, undef, undef, undef, undef, undef, undef, undef, undef, undef, undef, undef, undef, undef, undef, undef, undef, undef, undef, undef, undef, undef, undef, undef, undef, undef, undef, undef, undef, undef, undef, undef, undef, undef, undef, undef, undef, undef, undef, undef, undef, undef, undef, undef, undef, undef, undef, undef, undef, undef, undef, undef, undef, undef, undef, undef, undef, undef, undef, undef, undef, undef, undef, undef, undef, undef, undef, undef, undef, undef, undef, undef, undef, undef, undef, undef, undef, undef, undef, undef, undef, undef, undef, undef, undef, undef, undef, undef, undef, undef, undef, undef, undef, undef, undef, undef, undef, undef, undef, undef, undef, undef, undef, undef, undef, undef, undef, undef, undef, undef, undef, undef, undef, undef, undef, undef, undef, undef, undef, undef, undef, undef, undef, undef, undef, undef, undef, undef, undef, undef, undef, undef, undef, undef, undef, undef, undef, undef, undef, undef, undef, undef, undef, undef, undef, undef, undef], []⟩ U := by
  have HT := Lib.hid hF
  have HS := Lib.hid hF.sums
  have hlq := hF.list.lt
  clear hF
  conv => arg 2; whnf
  apply wp_seq_k
  intro K hK
  have hK2 : ∀ (s26 s27 s28 s29 s30 s31 s32 s33 s34 s35 s36 s37 s38 s39 s40 s41 s42 s43 s44 s45 s46 s47 s48 s49 s50 s51 s52 s53 s54 s55 s56 s57 s58 s59 s60 s61 s62 s63 s64 s65 s66 s67 s68 s69 s70 s71 s72 s73 s74 s75 s76 s77 s78 s79 s80 s81 s82 s83 s84 s85 : Value) (W : World) (hT : Three xa xb xc p1 p2 p3 q w0 W), K ⟨#[.bool false, .pointer (some ⟨p1, 0, none⟩), .pointer (some ⟨p2, 0, none⟩), .pointer (some ⟨p3, 0, none⟩), .slice (some ⟨q, 0, none⟩) 3 3, .int .i64 1, .int .i64 0, .int .i64 0, .int .i64 6, .int .i64 0, .int .i64 4, undef, undef, undef, undef, undef, undef, undef, undef, undef, undef, undef, undef, undef, undef, undef, s26, s27, s28, s29, s30, s31, s32, s33, s34, s35, s36, s37, s38, s39, s40, s41, s42, s43, s44, s45, s46, s47, s48, s49, s50, s51, s52, s53, s54, s55, s56, s57, s58, s59, s60, s61, s62, s63, s64, s65, s66, s67, s68, s69, s70, s71, s72, s73, s74, s75, s76, s77, s78, s79, s80, s81, s82, s83, s84, s85, undef, undef, undef, undef, undef, undef, undef, undef, undef, undef, undef, undef, undef, undef, undef, undef, undef, undef, undef, undef, undef, undef, undef, undef, undef, undef, undef, undef, undef, undef, undef, undef, undef, undef, undef, undef, undef, undef, undef, undef, undef, undef, undef, undef, undef, undef, undef, undef, undef, undef, undef, undef, undef, undef, undef, undef, undef, undef, undef, undef, undef, undef, undef, undef, undef, undef, undef, undef, undef, undef, undef, undef, undef, undef, undef, undef, undef, undef, undef, undef, undef, undef, undef, undef, undef, undef, undef, undef, undef, undef, undef, undef, undef, undef, undef, undef, undef, undef, undef, undef, undef, undef, undef, undef, undef, undef, undef, undef, undef, undef, undef, undef, undef, undef, undef, undef, undef, undef, undef, undef, undef, undef, undef, undef, undef, undef, undef, undef, undef, undef, undef, undef, undef, undef, undef, undef, undef, undef, undef, undef, undef, undef, undef, undef, undef, undef, undef, undef, undef, undef, undef, undef, undef, undef, undef, undef, undef], []⟩ W := fun s26 s27 s28 s29 s30 s31 s32 s33 s34 s35 s36 s37 s38 s39 s40 s41 s42 s43 s44 s45 s46 s47 s48 s49 s50 s51 s52 s53 s54 s55 s56 s57 s58 s59 s60 s61 s62 s63 s64 s65 s66 s67 s68 s69 s70 s71 s72 s73 s74 s75 s76 s77 s78 s79 s80 s81 s82 s83 s84 s85 W hT => hK _ _ (aw7 xa xb xc ha hb hc w0 Q hQ p1 p2 p3 q W hT s26 s27 s28 s29 s30 s31 s32 s33 s34 s35 s36 s37 s38 s39 s40 s41 s42 s43 s44 s45 s46 s47 s48 s49 s50 s51 s52 s53 s54 s55 s56 s57 s58 s59 s60 s61 s62 s63 s64 s65 s66 s67 s68 s69 s70 s71 s72 s73 s74 s75 s76 s77 s78 s79 s80 s81 s82 s83 s84 s85)
  clear hK
  go_wp2_with (go_at_call 45; (with_reducible refine (find_G _ U).mono ?_); rintro e u1 ⟨rfl, hb1⟩; have HB1 := Lib.hid hb1; clear hb1)
  exact HT.out.mono HB1.out
set_option maxRecDepth 100000 in
set_option maxHeartbeats 3000000 in
theorem aw5 (xa xb xc : Dig) (ha : Hid (xa.1 = Sha.sha [97])) (hb : Hid (xb.1 = Sha.sha [98])) (hc : Hid (xc.1 = Sha.sha [99])) (w0 : World) (Q : Exit → Act → World → Prop) (hQ : Ends w0 Q) (p1 p2 p3 q : Nat) (U : World) (hF : Three xa xb xc p1 p2 p3 q w0 U)
    (s26 s27 s28 s29 s30 s31 s32 s33 s34 s35 s36 s37 s38 s39 s40 s41 s42 s43 s44 s45 s46 s47 s48 s49 s50 s51 s52 s53 s54 s55 s56 s57 s58 s59 s60 s61 s62 s63 s64 s65 s66 s67 s68 s69 s70 s71 s72 s73 s74 s75 : Value) : Code.wp Tryd.prog (awTail 5) Q ⟨#[.bool false, .pointer (some ⟨p1, 0, none⟩), .pointer (some ⟨p2, 0, none⟩), .pointer (some ⟨p3, 0, none⟩), .slice (some ⟨q, 0, none⟩) 3 3, .int .i64 1, .int .i64 0, undef, undef, undef, undef, undef, undef, undef, undef, undef, undef, undef, undef, undef, undef, undef, undef, undef, undef, undef, s26, s27, s28, s29, s30, s31, s32, s33, s34, s35, s36, s37, s38, s39, s40, s41, s42, s43, s44, s45, s46, s47, s48, s49, s50, s51, s52, s53, s54, s55, s56, s57, s58, s59, s60, s61, s62, s63, s64, s65, s66, s67, s68, s69, s70, s71, s72, s73, s74, s75, undef, undef, undef, undef, undef, undef, undef, undef, undef, undef, undef, undef, undef, undef, undef, undef, undef, undef, undef, undef, undef, undef, undef, undef, undef, undef, undef, undef, undef, undef, undef, undef, undef, undef, undef, undef, undef, undef, undef, undef, undef, undef, undef, undef, undef, undef, undef, undef, undef, undef, undef, undef, undef, undef, undef, undef, undef, undef, undef, undef, undef, undef, undef, undef, undef, undef, undef, undef, undef, undef, undef, undef, undef, undef, undef, undef, undef, undef, undef, undef, undef, undef, undef, undef, undef, undef, undef, undef, undef, undef, undef, undef, undef, undef, undef, undef, undef, undef, undef, undef, undef, undef, undef, undef, undef, undef, undef, undef, undef, undef, undef, undef, undef, undef, undef, undef, undef, undef, undef, undef, undef, undef, undef, undef, undef, undef, undef, undef, undef, undef, undef, undef, undef, undef, undef, undef, undef, undef, undef, undef, undef, undef, undef, undef, undef, undef, undef, undef, undef, undef, undef, undef, undef, undef, undef, undef, undef, undef, undef, undef, undef, undef, undef, undef, undef, undef, undef], []⟩ U := by
  have HT := Lib.hid hF
  have HS := Lib.hid hF.sums
  have hlq := hF.list.lt
  clear hF
  conv => arg 2; whnf
  apply wp_seq_k
  intro K hK
  have hK2 : ∀ (s26 s27 s28 s29 s30 s31 s32 s33 s34 s35 s36 s37 s38 s39 s40 s41 s42 s43 s44 s45 s46 s47 s48 s49 s50 s51 s52 s53 s54 s55 s56 s57 s58 s59 s60 s61 s62 s63 s64 s65 s66 s67 s68 s69 s70 s71 s72 s73 s74 s75 s76 s77 s78 s79 s80 : Value) (W : World) (hT : Three xa xb xc p1 p2 p3 q w0 W), K ⟨#[.bool false, .pointer (some ⟨p1, 0, none⟩), .pointer (some ⟨p2, 0, none⟩), .pointer (some ⟨p3, 0, none⟩), .slice (some ⟨q, 0, none⟩) 3 3, .int .i64 1, .int .i64 0, .int .i64 0, .int .i64 6, undef, undef, undef, undef, undef, undef, undef, undef, undef, undef, undef, undef, undef, undef, undef, undef, undef, s26, s27, s28, s29, s30, s31, s32, s33, s34, s35, s36, s37, s38, s39, s40, s41, s42, s43, s44, s45, s46, s47, s48, s49, s50, s51, s52, s53, s54, s55, s56, s57, s58, s59, s60, s61, s62, s63, s64, s65, s66, s67, s68, s69, s70, s71, s72, s73, s74, s75, s76, s77, s78, s79, s80, undef, undef, undef, undef, undef, undef, undef, undef, undef, undef, undef, undef, undef, undef, undef, undef, undef, undef, undef, undef, undef, undef, undef, undef, undef, undef, undef, undef, undef, undef, undef, undef, undef, undef, undef, undef, undef, undef, undef, undef, undef, undef, undef, undef, undef, undef, undef, undef, undef, undef, undef, undef, undef, undef, undef, undef, undef, undef, undef, undef, undef, undef, undef, undef, undef, undef, undef, undef, undef, undef, undef, undef, undef, undef, undef, undef, undef, undef, undef, undef, undef, undef, undef, undef, undef, undef, undef, undef, undef, undef, undef, undef, undef, undef, undef, undef, undef, undef, undef, undef, undef, undef, undef, undef, undef, undef, undef, undef, undef, undef, undef, undef, undef, undef, undef, undef, undef, undef, undef, undef, undef, undef, undef, undef, undef, undef, undef, undef, undef, undef, undef, undef, undef, undef, undef, undef, undef, undef, undef, undef, undef, undef, undef, undef, undef, undef, undef, undef, undef, undef, undef, undef, undef, undef, undef, undef, undef, undef, undef, undef, undef, undef], []⟩ W := fun s26 s27 s28 s29 s30 s31 s32 s33 s34 s35 s36 s37 s38 s39 s40 s41 s42 s43 s44 s45 s46 s47 s48 s49 s50 s51 s52 s53 s54 s55 s56 s57 s58 s59 s60 s61 s62 s63 s64 s65 s66 s67 s68 s69 s70 s71 s72 s73 s74 s75 s76 s77 s78 s79 s80 W hT => hK _ _ (aw6 xa xb xc ha hb hc w0 Q hQ p1 p2 p3 q W hT s26 s27 s28 s29 s30 s31 s32 s33 s34 s35 s36 s37 s38 s39 s40 s41 s42 s43 s44 s45 s46 s47 s48 s49 s50 s51 s52 s53 s54 s55 s56 s57 s58 s59 s60 s61 s62 s63 s64 s65 s66 s67 s68 s69 s70 s71 s72 s73 s74 s75 s76 s77 s78 s79 s80)
  clear hK
  go_wp2_with (go_at_call 45; (with_reducible refine (find_f xa xb xc ha hb hc q U HS.out hlq).mono ?_); rintro e u1 ⟨rfl, hb1⟩; have HB1 := Lib.hid hb1; clear hb1)
  exact HT.out.mono HB1.out
set_option maxRecDepth 100000 in
set_option maxHeartbeats 3000000 in
theorem aw4 (xa xb xc : Dig) (ha : Hid (xa.1 = Sha.sha [97])) (hb : Hid (xb.1 = Sha.sha [98])) (hc : Hid (xc.1 = Sha.sha [99])) (w0 : World) (Q : Exit → Act → World → Prop) (hQ : Ends w0 Q) (p1 p2 p3 q : Nat) (U : World) (hF : Three xa xb xc p1 p2 p3 q w0 U)
    (s26 s27 s28 s29 s30 s31 s32 s33 s34 s35 s36 s37 s38 s39 s40 s41 s42 s43 s44 s45 s46 s47 s48 s49 s50 s51 s52 s53 s54 s55 s56 s57 s58 s59 s60 s61 s62 s63 s64 s65 s66 s67 s68 s69 s70 : Value) : Code.wp Tryd.prog (awTail 4) Q ⟨#[.bool false, .pointer (some ⟨p1, 0, none⟩), .pointer (some ⟨p2, 0, none⟩), .pointer (some ⟨p3, 0, none⟩), .slice (some ⟨q, 0, none⟩) 3 3, undef, undef, undef, undef, undef, undef, undef, undef, undef, undef, undef, undef, undef, undef, undef, undef, undef, undef, undef, undef, undef, s26, s27, s28, s29, s30, s31, s32, s33, s34, s35, s36, s37, s38, s39, s40, s41, s42, s43, s44, s45, s46, s47, s48, s49, s50, s51, s52, s53, s54, s55, s56, s57, s58, s59, s60, s61, s62, s63, s64, s65, s66, s67, s68, s69, s70, undef, undef, undef, undef, undef, undef, undef, undef, undef, undef, undef, undef, undef, undef, undef, undef, undef, undef, undef, undef, undef, undef, undef, undef, undef, undef, undef, undef, undef, undef, undef, undef, undef, undef, undef, undef, undef, undef, undef, undef, undef, undef, undef, undef, undef, undef, undef, undef, undef, undef, undef, undef, undef, undef, undef, undef, undef, undef, undef, undef, undef, undef, undef, undef, undef, undef, undef, undef, undef, undef, undef, undef, undef, undef, undef, undef, undef, undef, undef, undef, undef, undef, undef, undef, undef, undef, undef, undef, undef, undef, undef, undef, undef, undef, undef, undef, undef, undef, undef, undef, undef, undef, undef, undef, undef, undef, undef, undef, undef, undef, undef, undef, undef, undef, undef, undef, undef, undef, undef, undef, undef, undef, undef, undef, undef, undef, undef, undef, undef, undef, undef, undef, undef, undef, undef, undef, undef, undef, undef, undef, undef, undef, undef, undef, undef, undef, undef, undef, undef, undef, undef, undef, undef, undef, undef, undef, undef, undef, undef, undef, undef, undef, undef, undef, undef, undef, undef, undef, undef, undef, undef, undef], []⟩ U := by
  have HT := Lib.hid hF
  have HS := Lib.hid hF.sums
  have hlq := hF.list.lt
  clear hF
  conv => arg 2; whnf
  apply wp_seq_k
  intro K hK
  have hK2 : ∀ (s26 s27 s28 s29 s30 s31 s32 s33 s34 s35 s36 s37 s38 s39 s40 s41 s42 s43 s44 s45 s46 s47 s48 s49 s50 s51 s52 s53 s54 s55 s56 s57 s58 s59 s60 s61 s62 s63 s64 s65 s66 s67 s68 s69 s70 s71 s72 s73 s74 s75 : Value) (W : World) (hT : Three xa xb xc p1 p2 p3 q w0 W), K ⟨#[.bool false, .pointer (some ⟨p1, 0, none⟩), .pointer (some ⟨p2, 0, none⟩), .pointer (some ⟨p3, 0, none⟩), .slice (some ⟨q, 0, none⟩) 3 3, .int .i64 1, .int .i64 0, undef, undef, undef, undef, undef, undef, undef, undef, undef, undef, undef, undef, undef, undef, undef, undef, undef, undef, undef, s26, s27, s28, s29, s30, s31, s32, s33, s34, s35, s36, s37, s38, s39, s40, s41, s42, s43, s44, s45, s46, s47, s48, s49, s50, s51, s52, s53, s54, s55, s56, s57, s58, s59, s60, s61, s62, s63, s64, s65, s66, s67, s68, s69, s70, s71, s72, s73, s74, s75, undef, undef, undef, undef, undef, undef, undef, undef, undef, undef, undef, undef, undef, undef, undef, undef, undef, undef, undef, undef, undef, undef, undef, undef, undef, undef, undef, undef, undef, undef, undef, undef, undef, undef, undef, undef, undef, undef, undef, undef, undef, undef, undef, undef, undef, undef, undef, undef, undef, undef, undef, undef, undef, undef, undef, undef, undef, undef, undef, undef, undef, undef, undef, undef, undef, undef, undef, undef, undef, undef, undef, undef, undef, undef, undef, undef, undef, undef, undef, undef, undef, undef, undef, undef, undef, undef, undef, undef, undef, undef, undef, undef, undef, undef, undef, undef, undef, undef, undef, undef, undef, undef, undef, undef, undef, undef, undef, undef, undef, undef, undef, undef, undef, undef, undef, undef, undef, undef, undef, undef, undef, undef, undef, undef, undef, undef, undef, undef, undef, undef, undef, undef, undef, undef, undef, undef, undef, undef, undef, undef, undef, undef, undef, undef, undef, undef, undef, undef, undef, undef, undef, undef, undef, undef, undef, undef, undef, undef, undef, undef, undef, undef, undef, undef, undef, undef, undef], []⟩ W := fun s26 s27 s28 s29 s30 s31 s32 s33 s34 s35 s36 s37 s38 s39 s40 s41 s42 s43 s44 s45 s46 s47 s48 s49 s50 s51 s52 s53 s54 s55 s56 s57 s58 s59 s60 s61 s62 s63 s64 s65 s66 s67 s68 s69 s70 s71 s72 s73 s74 s75 W hT => hK _ _ (aw5 xa xb xc ha hb hc w0 Q hQ p1 p2 p3 q W hT s26 s27 s28 s29 s30 s31 s32 s33 s34 s35 s36 s37 s38 s39 s40 s41 s42 s43 s44 s45 s46 s47 s48 s49 s50 s51 s52 s53 s54 s55 s56 s57 s58 s59 s60 s61 s62 s63 s64 s65 s66 s67 s68 s69 s70 s71 s72 s73 s74 s75)
  clear hK
  go_wp2_with (go_at_call 45; (with_reducible refine (find_3 xa xb xc ha hb hc q U HS.out hlq).mono ?_); rintro e u1 ⟨rfl, hb1⟩; have HB1 := Lib.hid hb1; clear hb1)
  exact HT.out.mono HB1.out
set_option maxRecDepth 100000 in
set_option maxHeartbeats 3000000 in
theorem aw3 (xa xb xc : Dig) (ha : Hid (xa.1 = Sha.sha [97])) (hb : Hid (xb.1 = Sha.sha [98])) (hc : Hid (xc.1 = Sha.sha [99])) (w0 : World) (Q : Exit → Act → World → Prop) (hQ : Ends w0 Q) (p1 p2 p3 q : Nat) (U : World) (hF : Three xa xb xc p1 p2 p3 q w0 U)
    (s26 s27 s28 s29 s30 s31 s32 s33 s34 s35 s36 s37 s38 : Value) : Code.wp Tryd.prog (awTail 3) Q ⟨#[.bool false, .pointer (some ⟨p1, 0, none⟩), .pointer (some ⟨p2, 0, none⟩), .pointer (some ⟨p3, 0, none⟩), .slice (some ⟨q, 0, none⟩) 3 3, undef, undef, undef, undef, undef, undef, undef, undef, undef, undef, undef, undef, undef, undef, undef, undef, undef, undef, undef, undef, undef, s26, s27, s28, s29, s30, s31, s32, s33, s34, s35, s36, s37, s38, undef, undef, undef, undef, undef, undef, undef, undef, undef, undef, undef, undef, undef, undef, undef, undef, undef, undef, undef, undef, undef, undef, undef, undef, undef, undef, undef, undef, undef, undef, undef, undef, undef, undef, undef, undef, undef, undef, undef, undef, undef, undef, undef, undef, undef, undef, undef, undef, undef, undef, undef, undef, undef, undef, undef, undef, undef, undef, undef, undef, undef, undef, undef, undef, undef, undef, undef, undef, undef, undef, undef, undef, undef, undef, undef, undef, undef, undef, undef, undef, undef, undef, undef, undef, undef, undef, undef, undef, undef, undef, undef, undef, undef, undef, undef, undef, undef, undef, undef, undef, undef, undef, undef, undef, undef, undef, undef, undef, undef, undef, undef, undef, undef, undef, undef, undef, undef, undef, undef, undef, undef, undef, undef, undef, undef, undef, undef, undef, undef, undef, undef, undef, undef, undef, undef, undef, undef, undef, undef, undef, undef, undef, undef, undef, undef, undef, undef, undef, undef, undef, undef, undef, undef, undef, undef, undef, undef, undef, undef, undef, undef, undef, undef, undef, undef, undef, undef, undef, undef, undef, undef, undef, undef, undef, undef, undef, undef, undef, undef, undef, undef, undef, undef, undef, undef, undef, undef, undef, undef, undef, undef, undef, undef, undef, undef, undef, undef, undef, undef, undef, undef, undef, undef, undef], []⟩ U := by
  obtain ⟨d0, hd0⟩ : ∃ d, d = Sha.sha [] := ⟨_, rfl⟩
  obtain ⟨d1, hd1⟩ : ∃ d, d = Sha.sha [97, 98, 99] := ⟨_, rfl⟩
  have H0 := Lib.hid hd0
  have H1 := Lib.hid hd1
  have a0 : (arr32 xa.1)[0]? = some (.int .u8 202) := by
    have e : xa.1.getD 0 0 = 202 := by rw [ha.out]; decide +kernel
    rw [arr32_get xa.1 xa.2.1 0 (by omega), e]
    rfl
  have b0 : (arr32 xb.1)[0]? = some (.int .u8 62) := by
    have e : xb.1.getD 0 0 = 62 := by rw [hb.out]; decide +kernel
    rw [arr32_get xb.1 xb.2.1 0 (by omega), e]
    rfl
  have c0 : (arr32 xc.1)[0]? = some (.int .u8 46) := by
    have e : xc.1.getD 0 0 = 46 := by rw [hc.out]; decide +kernel
    rw [arr32_get xc.1 xc.2.1 0 (by omega), e]
    rfl
  have HA0 := Lib.hid (And.intro a0 (And.intro b0 c0))
  have HT := Lib.hid hF
  have HS := Lib.hid hF.sums
  have HCU := Lib.hid hF.const
  have HPa := Lib.hid hF.one
  have HPb := Lib.hid hF.two
  have HPc := Lib.hid hF.three
  have hlq := hF.list.lt
  have hcv := convert_bytes
  clear hd0 hd1 a0 b0 c0 hF
  conv => arg 2; whnf
  apply wp_seq_k
  intro K hK
  have hK2 : ∀ (s26 s27 s28 s29 s30 s31 s32 s33 s34 s35 s36 s37 s38 s39 s40 s41 s42 s43 s44 s45 s46 s47 s48 s49 s50 s51 s52 s53 s54 s55 s56 s57 s58 s59 s60 s61 s62 s63 s64 s65 s66 s67 s68 s69 s70 : Value) (W : World) (hT : Three xa xb xc p1 p2 p3 q w0 W), K ⟨#[.bool false, .pointer (some ⟨p1, 0, none⟩), .pointer (some ⟨p2, 0, none⟩), .pointer (some ⟨p3, 0, none⟩), .slice (some ⟨q, 0, none⟩) 3 3, undef, undef, undef, undef, undef, undef, undef, undef, undef, undef, undef, undef, undef, undef, undef, undef, undef, undef, undef, undef, undef, s26, s27, s28, s29, s30, s31, s32, s33, s34, s35, s36, s37, s38, s39, s40, s41, s42, s43, s44, s45, s46, s47, s48, s49, s50, s51, s52, s53, s54, s55, s56, s57, s58, s59, s60, s61, s62, s63, s64, s65, s66, s67, s68, s69, s70, undef, undef, undef, undef, undef, undef, undef, undef, undef, undef, undef, undef, undef, undef, undef, undef, undef, undef, undef, undef, undef, undef, undef, undef, undef, undef, undef, undef, undef, undef, undef, undef, undef, undef, undef, undef, undef, undef, undef, undef, undef, undef, undef, undef, undef, undef, undef, undef, undef, undef, undef, undef, undef, undef, undef, undef, undef, undef, undef, undef, undef, undef, undef, undef, undef, undef, undef, undef, undef, undef, undef, undef, undef, undef, undef, undef, undef, undef, undef, undef, undef, undef, undef, undef, undef, undef, undef, undef, undef, undef, undef, undef, undef, undef, undef, undef, undef, undef, undef, undef, undef, undef, undef, undef, undef, undef, undef, undef, undef, undef, undef, undef, undef, undef, undef, undef, undef, undef, undef, undef, undef, undef, undef, undef, undef, undef, undef, undef, undef, undef, undef, undef, undef, undef, undef, undef, undef, undef, undef, undef, undef, undef, undef, undef, undef, undef, undef, undef, undef, undef, undef, undef, undef, undef, undef, undef, undef, undef, undef, undef, undef, undef, undef, undef, undef, undef, undef, undef, undef, undef, undef, undef], []⟩ W := fun s26 s27 s28 s29 s30 s31 s32 s33 s34 s35 s36 s37 s38 s39 s40 s41 s42 s43 s44 s45 s46 s47 s48 s49 s50 s51 s52 s53 s54 s55 s56 s57 s58 s59 s60 s61 s62 s63 s64 s65 s66 s67 s68 s69 s70 W hT => hK _ _ (aw4 xa xb xc ha hb hc w0 Q hQ p1 p2 p3 q W hT s26 s27 s28 s29 s30 s31 s32 s33 s34 s35 s36 s37 s38 s39 s40 s41 s42 s43 s44 s45 s46 s47 s48 s49 s50 s51 s52 s53 s54 s55 s56 s57 s58 s59 s60 s61 s62 s63 s64 s65 s66 s67 s68 s69 s70)
  clear hK
  go_wp2_with (first
    | (go_at_call 17; (with_reducible refine (of_nil U HCU.out d0 H0).mono ?_); rintro e u1 ⟨rfl, _, hb1⟩; have hz1 := hb1.size; have HB1 := Lib.hid hb1; have HC1 := Lib.hid (HCU.out.below hb1 rfl); clear hb1)
    | (go_at_call 28; (with_reducible refine (hex_nil u1 d0 H0).mono ?_); rintro e u2 ⟨rfl, hb2⟩; have HB2 := Lib.hid (HB1.out.trans (hb2.mono HB1.out.size)); have HC2 := Lib.hid (HC1.out.below hb2 rfl); clear hb2)
    | (go_at_call 17; (with_reducible refine (of_abc u2 HC2.out d1 H1).mono ?_); rintro e u3 ⟨rfl, _, hb3⟩; have HB3 := Lib.hid (HB2.out.trans (hb3.mono HB2.out.size)); have HC3 := Lib.hid (HC2.out.below hb3 rfl); clear hb3)
    | (go_at_call 28; (with_reducible refine (hex_abc u3 d1 H1).mono ?_); rintro e u4 ⟨rfl, hb4⟩; have HB4 := Lib.hid (HB3.out.trans (hb4.mono HB3.out.size)); have HC4 := Lib.hid (HC3.out.below hb4 rfl); have x0 : u4.cell? ⟨p1, 0, none⟩ = some (.int .u8 202) := ((HPa.out.below HB4.out HPa.out.lt).cell 0).trans HA0.out.1; have x1 : u4.cell? ⟨p2, 0, none⟩ = some (.int .u8 62) := ((HPb.out.below HB4.out HPb.out.lt).cell 0).trans HA0.out.2.1; have x2 : u4.cell? ⟨p3, 0, none⟩ = some (.int .u8 46) := ((HPc.out.below HB4.out HPc.out.lt).cell 0).trans HA0.out.2.2; have hz4 := HB4.out.size; clear hb4)
    | (go_at_call 44; (with_reducible refine (short_three xa xb xc ha.out hb.out hc.out u4 q (HS.out.below hlq HB4.out) (by omega)).mono ?_); rintro e u5 ⟨v5, rfl, ho5, hb5⟩; obtain ⟨a5, c5, rfl, hc5, hm5⟩ := own_shape ho5; obtain ⟨g5, rfl, hg5b, hg5⟩ := own_addr ho5 (by omega); have HO5 := Lib.hid ho5; have HB5 := Lib.hid (HB4.out.trans (hb5.mono HB4.out.size)); have HC5 := Lib.hid (HC4.out.below hb5 rfl); have HQ5 := Lib.hid (ones_equal u5 _ g5 c5 ho5); clear ho5 hb5)
    | (go_at_call 47; (with_reducible refine HQ5.out.mono ?_); rintro e u6 ⟨rfl, hb6⟩; have HB6 := Lib.hid (HB5.out.trans (hb6.mono HB5.out.size)); have HC6 := Lib.hid (HC5.out.below hb6 rfl); clear hb6))
  exact HT.out.mono HB6.out
end Go.Proofs.YtffdkniahdekjaaDoor
end
section
namespace Go.Proofs.YtffdkniahdekjaaDoor
open Go.RowKit Go.Hoar Go.Maps Go.Shelf
set_option maxRecDepth 100000 in
set_option maxHeartbeats 3000000 in
theorem aw2 (xa xb xc : Dig) (ha : Hid (xa.1 = Sha.sha [97])) (hb : Hid (xb.1 = Sha.sha [98])) (hc : Hid (xc.1 = Sha.sha [99])) (w0 : World) (Q : Exit → Act → World → Prop) (hQ : Ends w0 Q) (p1 p2 p3 : Nat) (U : World) (hF : Three0 xa xb xc p1 p2 p3 w0 U)
    (s26 s27 s28 s29 s30 s31 s32 s33 s34 : Value) : Code.wp Tryd.prog (awTail 2) Q ⟨#[.bool false, .pointer (some ⟨p1, 0, none⟩), .pointer (some ⟨p2, 0, none⟩), .pointer (some ⟨p3, 0, none⟩), undef, undef, undef, undef, undef, undef, undef, undef, undef, undef, undef, undef, undef, undef, undef, undef, undef, undef, undef, undef, undef, undef, s26, s27, s28, s29, s30, s31, s32, s33, s34, undef, undef, undef, undef, undef, undef, undef, undef, undef, undef, undef, undef, undef, undef, undef, undef, undef, undef, undef, undef, undef, undef, undef, undef, undef, undef, undef, undef, undef, undef, undef, undef, undef, undef, undef, undef, undef, undef, undef, undef, undef, undef, undef, undef, undef, undef, undef, undef, undef, undef, undef, undef, undef, undef, undef, undef, undef, undef, undef, undef, undef, undef, undef, undef, undef, undef, undef, undef, undef, undef, undef, undef, undef, undef, undef, undef, undef, undef, undef, undef, undef, undef, undef, undef, undef, undef, undef, undef, undef, undef, undef, undef, undef, undef, undef, undef, undef, undef, undef, undef, undef, undef, undef, undef, undef, undef, undef, undef, undef, undef, undef, undef, undef, undef, undef, undef, undef, undef, undef, undef, undef, undef, undef, undef, undef, undef, undef, undef, undef, undef, undef, undef, undef, undef, undef, undef, undef, undef, undef, undef, undef, undef, undef, undef, undef, undef, undef, undef, undef, undef, undef, undef, undef, undef, undef, undef, undef, undef, undef, undef, undef, undef, undef, undef, undef, undef, undef, undef, undef, undef, undef, undef, undef, undef, undef, undef, undef, undef, undef, undef, undef, undef, undef, undef, undef, undef, undef, undef, undef, undef, undef, undef, undef, undef, undef, undef, undef, undef, undef, undef, undef, undef, undef, undef, undef, undef, undef, undef], []⟩ U := by
  obtain ⟨i0, hi0, hz0, hz1, hz2⟩ := info_parts sumInfo3
  have la := xa.2.1
  have lb := xb.2.1
  have lc := xc.2.1
  have HIa := Lib.hid (arr32_info xa.1 (by omega))
  have HIb := Lib.hid (arr32_info xb.1 (by omega))
  have HIc := Lib.hid (arr32_info xc.1 (by omega))
  have HRa := Lib.hid hF.one.row
  have HRb := Lib.hid hF.two.row
  have HRc := Lib.hid hF.three.row
  have HZa := Lib.hid (show (arr32 xa.1).size = i0.size by rw [hz1, arr32_size _ (by omega)])
  have HZb := Lib.hid (show (arr32 xb.1).size = i0.size by rw [hz1, arr32_size _ (by omega)])
  have HZc := Lib.hid (show (arr32 xc.1).size = i0.size by rw [hz1, arr32_size _ (by omega)])
  have HF := Lib.hid hF
  have hcells : ((arr32 xa.1).toList ++ ((arr32 xb.1).toList ++ (arr32 xc.1).toList)).toArray = (digCells [xa, xb, xc]).toArray := by simp [digCells, cellsOf]
  have HCells := Lib.hid hcells
  clear hF hcells
  conv => arg 2; whnf
  apply wp_seq_k
  intro K hK
  have hK2 : ∀ (s26 s27 s28 s29 s30 s31 s32 s33 s34 s35 s36 s37 s38 : Value) (W : World) (q : Nat) (hT : Three xa xb xc p1 p2 p3 q w0 W), K ⟨#[.bool false, .pointer (some ⟨p1, 0, none⟩), .pointer (some ⟨p2, 0, none⟩), .pointer (some ⟨p3, 0, none⟩), .slice (some ⟨q, 0, none⟩) 3 3, undef, undef, undef, undef, undef, undef, undef, undef, undef, undef, undef, undef, undef, undef, undef, undef, undef, undef, undef, undef, undef, s26, s27, s28, s29, s30, s31, s32, s33, s34, s35, s36, s37, s38, undef, undef, undef, undef, undef, undef, undef, undef, undef, undef, undef, undef, undef, undef, undef, undef, undef, undef, undef, undef, undef, undef, undef, undef, undef, undef, undef, undef, undef, undef, undef, undef, undef, undef, undef, undef, undef, undef, undef, undef, undef, undef, undef, undef, undef, undef, undef, undef, undef, undef, undef, undef, undef, undef, undef, undef, undef, undef, undef, undef, undef, undef, undef, undef, undef, undef, undef, undef, undef, undef, undef, undef, undef, undef, undef, undef, undef, undef, undef, undef, undef, undef, undef, undef, undef, undef, undef, undef, undef, undef, undef, undef, undef, undef, undef, undef, undef, undef, undef, undef, undef, undef, undef, undef, undef, undef, undef, undef, undef, undef, undef, undef, undef, undef, undef, undef, undef, undef, undef, undef, undef, undef, undef, undef, undef, undef, undef, undef, undef, undef, undef, undef, undef, undef, undef, undef, undef, undef, undef, undef, undef, undef, undef, undef, undef, undef, undef, undef, undef, undef, undef, undef, undef, undef, undef, undef, undef, undef, undef, undef, undef, undef, undef, undef, undef, undef, undef, undef, undef, undef, undef, undef, undef, undef, undef, undef, undef, undef, undef, undef, undef, undef, undef, undef, undef, undef, undef, undef, undef, undef, undef, undef, undef, undef, undef, undef, undef, undef, undef, undef, undef, undef, undef, undef], []⟩ W := fun s26 s27 s28 s29 s30 s31 s32 s33 s34 s35 s36 s37 s38 W q hT => hK _ _ (aw3 xa xb xc ha hb hc w0 Q hQ p1 p2 p3 q W hT s26 s27 s28 s29 s30 s31 s32 s33 s34 s35 s36 s37 s38)
  clear hK
  go_wp2_with (first
    | ((with_reducible refine arm_load (w := U) ⟨p1, 0, none⟩ _ _ HRa.out Tryd.underlying26 HIa.out ?h1 ?h2 ?_); (case h1 => rfl); (case h2 => rfl))
    | ((with_reducible refine arm_load (w := U) ⟨p2, 0, none⟩ _ _ HRb.out Tryd.underlying26 HIb.out ?h3 ?h4 ?_); (case h3 => rfl); (case h4 => rfl))
    | ((with_reducible refine arm_load (w := U) ⟨p3, 0, none⟩ _ _ HRc.out Tryd.underlying26 HIc.out ?h5 ?h6 ?_); (case h5 => rfl); (case h6 => rfl))
    | ((with_reducible refine arm_slice3 26 i0 _ (arr32 xa.1) (arr32 xb.1) (arr32 xc.1) Tryd.underlying49 hi0 hz0 HZa.out HZb.out HZc.out ?s1 ?s2 ?s3 ?s4 ?s5 ?_); (case s1 => omega); (case s2 => omega); (case s3 => rfl); (case s4 => rfl); (case s5 => rfl)))
  have hb0 := (Below.refl U.heap.size U).alloc (Nat.le_refl _) (.cells (digCells [xa, xb, xc]).toArray 26)
  have hres : Three xa xb xc p1 p2 p3 U.heap.size w0 (U.alloc (.cells (digCells [xa, xb, xc]).toArray 26)) :=
    ⟨HF.out.below.trans (hb0.mono HF.out.below.size), HF.out.const.below hb0 rfl, HF.out.one.alloc _, HF.out.two.alloc _, HF.out.three.alloc _, Has.fresh U _ _⟩
  rw [← HCells.out] at hres
  exact hres
set_option maxRecDepth 100000 in
set_option maxHeartbeats 3000000 in
theorem aw1 (xa xb xc : Dig) (ha : Hid (xa.1 = Sha.sha [97])) (hb : Hid (xb.1 = Sha.sha [98])) (hc : Hid (xc.1 = Sha.sha [99])) (w0 : World) (Q : Exit → Act → World → Prop) (hQ : Ends w0 Q) (hcon : ConstAt w0)
     : Code.wp Tryd.prog (awTail 1) Q ⟨#[.bool false, undef, undef, undef, undef, undef, undef, undef, undef, undef, undef, undef, undef, undef, undef, undef, undef, undef, undef, undef, undef, undef, undef, undef, undef, undef, undef, undef, undef, undef, undef, undef, undef, undef, undef, undef, undef, undef, undef, undef, undef, undef, undef, undef, undef, undef, undef, undef, undef, undef, undef, undef, undef, undef, undef, undef, undef, undef, undef, undef, undef, undef, undef, undef, undef, undef, undef, undef, undef, undef, undef, undef, undef, undef, undef, undef, undef, undef, undef, undef, undef, undef, undef, undef, undef, undef, undef, undef, undef, undef, undef, undef, undef, undef, undef, undef, undef, undef, undef, undef, undef, undef, undef, undef, undef, undef, undef, undef, undef, undef, undef, undef, undef, undef, undef, undef, undef, undef, undef, undef, undef, undef, undef, undef, undef, undef, undef, undef, undef, undef, undef, undef, undef, undef, undef, undef, undef, undef, undef, undef, undef, undef, undef, undef, undef, undef, undef, undef, undef, undef, undef, undef, undef, undef, undef, undef, undef, undef, undef, undef, undef, undef, undef, undef, undef, undef, undef, undef, undef, undef, undef, undef, undef, undef, undef, undef, undef, undef, undef, undef, undef, undef, undef, undef, undef, undef, undef, undef, undef, undef, undef, undef, undef, undef, undef, undef, undef, undef, undef, undef, undef, undef, undef, undef, undef, undef, undef, undef, undef, undef, undef, undef, undef, undef, undef, undef, undef, undef, undef, undef, undef, undef, undef, undef, undef, undef, undef, undef, undef, undef, undef, undef, undef, undef, undef, undef, undef, undef, undef, undef, undef, undef, undef], []⟩ w0 := by
  have la := xa.2.1
  have lb := xb.2.1
  have lc := xc.2.1
  have HIa := Lib.hid (arr32_info xa.1 (by omega))
  have HIb := Lib.hid (arr32_info xb.1 (by omega))
  have HIc := Lib.hid (arr32_info xc.1 (by omega))
  have HSa := Lib.hid (zero32_size xa.1 (by omega))
  have HSb := Lib.hid (zero32_size xb.1 (by omega))
  have HSc := Lib.hid (zero32_size xc.1 (by omega))
  have HC := Lib.hid hcon
  have hcv := convert_bytes
  have HOa : Hid (∀ V : World, ConstAt V → Calls Tryd.prog 17 #[.slice (some ⟨V.heap.size, 0, none⟩) 1 1] (V.alloc (.cells #[.int .u8 97] 5 (1, 2))) fun e w' => e = .returned (.agg (arr32 xa.1)) ∧ xa.1.length = 32 ∧ Below V.heap.size V w') := Lib.hid fun V hV => of_one 97 (by decide) V hV xa.1 ha
  have HOb : Hid (∀ V : World, ConstAt V → Calls Tryd.prog 17 #[.slice (some ⟨V.heap.size, 0, none⟩) 1 1] (V.alloc (.cells #[.int .u8 98] 5 (1, 2))) fun e w' => e = .returned (.agg (arr32 xb.1)) ∧ xb.1.length = 32 ∧ Below V.heap.size V w') := Lib.hid fun V hV => of_one 98 (by decide) V hV xb.1 hb
  have HOc : Hid (∀ V : World, ConstAt V → Calls Tryd.prog 17 #[.slice (some ⟨V.heap.size, 0, none⟩) 1 1] (V.alloc (.cells #[.int .u8 99] 5 (1, 2))) fun e w' => e = .returned (.agg (arr32 xc.1)) ∧ xc.1.length = 32 ∧ Below V.heap.size V w') := Lib.hid fun V hV => of_one 99 (by decide) V hV xc.1 hc
  clear hcon
  conv => arg 2; whnf
  apply wp_seq_k
  intro K hK
  have hK2 : ∀ (s26 s27 s28 s29 s30 s31 s32 s33 s34 : Value) (W : World) (p1 p2 p3 : Nat) (hT : Three0 xa xb xc p1 p2 p3 w0 W), K ⟨#[.bool false, .pointer (some ⟨p1, 0, none⟩), .pointer (some ⟨p2, 0, none⟩), .pointer (some ⟨p3, 0, none⟩), undef, undef, undef, undef, undef, undef, undef, undef, undef, undef, undef, undef, undef, undef, undef, undef, undef, undef, undef, undef, undef, undef, s26, s27, s28, s29, s30, s31, s32, s33, s34, undef, undef, undef, undef, undef, undef, undef, undef, undef, undef, undef, undef, undef, undef, undef, undef, undef, undef, undef, undef, undef, undef, undef, undef, undef, undef, undef, undef, undef, undef, undef, undef, undef, undef, undef, undef, undef, undef, undef, undef, undef, undef, undef, undef, undef, undef, undef, undef, undef, undef, undef, undef, undef, undef, undef, undef, undef, undef, undef, undef, undef, undef, undef, undef, undef, undef, undef, undef, undef, undef, undef, undef, undef, undef, undef, undef, undef, undef, undef, undef, undef, undef, undef, undef, undef, undef, undef, undef, undef, undef, undef, undef, undef, undef, undef, undef, undef, undef, undef, undef, undef, undef, undef, undef, undef, undef, undef, undef, undef, undef, undef, undef, undef, undef, undef, undef, undef, undef, undef, undef, undef, undef, undef, undef, undef, undef, undef, undef, undef, undef, undef, undef, undef, undef, undef, undef, undef, undef, undef, undef, undef, undef, undef, undef, undef, undef, undef, undef, undef, undef, undef, undef, undef, undef, undef, undef, undef, undef, undef, undef, undef, undef, undef, undef, undef, undef, undef, undef, undef, undef, undef, undef, undef, undef, undef, undef, undef, undef, undef, undef, undef, undef, undef, undef, undef, undef, undef, undef, undef, undef, undef, undef, undef, undef, undef, undef, undef, undef, undef, undef, undef, undef, undef, undef, undef, undef, undef, undef], []⟩ W := fun s26 s27 s28 s29 s30 s31 s32 s33 s34 W p1 p2 p3 hT => hK _ _ (aw2 xa xb xc ha hb hc w0 Q hQ p1 p2 p3 W hT s26 s27 s28 s29 s30 s31 s32 s33 s34)
  clear hK
  go_wp2_with (first
    | (go_at_call 17; (with_reducible refine (HOa.out w0 HC.out).mono ?_); rintro e w1 ⟨rfl, _, hb1⟩; have HB1 := Lib.hid hb1; have HC1 := Lib.hid (HC.out.below hb1 rfl); clear hb1)
    | (go_at_call 17; (with_reducible refine (HOb.out w1 HC1.out).mono ?_); rintro e w2 ⟨rfl, _, hb2⟩; have HB2 := Lib.hid (HB1.out.trans (hb2.mono HB1.out.size)); have HC2 := Lib.hid (HC1.out.below hb2 rfl); clear hb2)
    | (go_at_call 17; (with_reducible refine (HOc.out w2 HC2.out).mono ?_); rintro e w3 ⟨rfl, _, hb3⟩; have HB3 := Lib.hid (HB2.out.trans (hb3.mono HB2.out.size)); have HC3 := Lib.hid (HC2.out.below hb3 rfl); have HF1 : Hid (Has (((w3.alloc (.cells zero32 26)).alloc (.cells zero32 26)).alloc (.cells zero32 26)) w3.heap.size 26 zero32) := Lib.hid (((Has.fresh_at _ _ _ _ rfl).alloc _).alloc _); have HF2 : Hid (Has ((((w3.alloc (.cells zero32 26)).alloc (.cells zero32 26)).alloc (.cells zero32 26)).setRow w3.heap.size (arr32 xa.1)) (w3.heap.size + 1) 26 zero32) := Lib.hid (((Has.fresh_at _ _ _ _ (by simp)).alloc _).setRow_apart (by omega)); have HF3 : Hid (Has (((((w3.alloc (.cells zero32 26)).alloc (.cells zero32 26)).alloc (.cells zero32 26)).setRow w3.heap.size (arr32 xa.1)).setRow (w3.heap.size + 1) (arr32 xb.1)) (w3.heap.size + 1 + 1) 26 zero32) := Lib.hid (((Has.fresh_at _ _ _ _ (by simp)).setRow_apart (by omega)).setRow_apart (by omega)); clear hb3)
    | ((with_reducible refine arm_store w3.heap.size (arr32 xa.1) 26 zero32 HF1.out HSa.out HIa.out (arr32_one _) ?h1 ?h2 ?_); (case h1 => rfl); (case h2 => rfl))
    | ((with_reducible refine arm_store (w3.heap.size + 1) (arr32 xb.1) 26 zero32 HF2.out HSb.out HIb.out (arr32_one _) ?h3 ?h4 ?_); (case h3 => rfl); (case h4 => rfl))
    | ((with_reducible refine arm_store (w3.heap.size + 1 + 1) (arr32 xc.1) 26 zero32 HF3.out HSc.out HIc.out (arr32_one _) ?h5 ?h6 ?_); (case h5 => rfl); (case h6 => rfl)))
  have hbz : Below w0.heap.size w0 (((w3.alloc (.cells zero32 26)).alloc (.cells zero32 26)).alloc (.cells zero32 26)) := ((HB3.out.alloc HB3.out.size _).alloc (by have := HB3.out.size; simp; omega) _).alloc (by have := HB3.out.size; simp; omega) _
  have hcz : ConstAt (((w3.alloc (.cells zero32 26)).alloc (.cells zero32 26)).alloc (.cells zero32 26)) := HC3.out.below (B := w3.heap.size) ((((Below.refl _ w3).alloc (Nat.le_refl _) _).alloc (by simp) _).alloc (by simp; omega) _) rfl
  exact ⟨below_setRow (below_setRow (below_setRow hbz HB3.out.size _) (by have := HB3.out.size; omega) _) (by have := HB3.out.size; omega) _, const_setRow (const_setRow (const_setRow hcz HF1.out HC3.out (Nat.le_refl _) _) HF2.out HC3.out (by omega) _) HF3.out HC3.out (by omega) _, (HF1.out.setRow.setRow_apart (by omega)).setRow_apart (by omega), HF2.out.setRow.setRow_apart (by omega), HF3.out.setRow⟩
set_option maxRecDepth 100000 in
set_option maxHeartbeats 3000000 in
theorem aw0 (xa xb xc : Dig) (ha : Hid (xa.1 = Sha.sha [97])) (hb : Hid (xb.1 = Sha.sha [98])) (hc : Hid (xc.1 = Sha.sha [99])) (w0 : World) (Q : Exit → Act → World → Prop) (hQ : Ends w0 Q) (hcon : ConstAt w0) : Code.wp Tryd.prog (awTail 0) Q ⟨#[undef, undef, undef, undef, undef, undef, undef, undef, undef, undef, undef, undef, undef, undef, undef, undef, undef, undef, undef, undef, undef, undef, undef, undef, undef, undef, undef, undef, undef, undef, undef, undef, undef, undef, undef, undef, undef, undef, undef, undef, undef, undef, undef, undef, undef, undef, undef, undef, undef, undef, undef, undef, undef, undef, undef, undef, undef, undef, undef, undef, undef, undef, undef, undef, undef, undef, undef, undef, undef, undef, undef, undef, undef, undef, undef, undef, undef, undef, undef, undef, undef, undef, undef, undef, undef, undef, undef, undef, undef, undef, undef, undef, undef, undef, undef, undef, undef, undef, undef, undef, undef, undef, undef, undef, undef, undef, undef, undef, undef, undef, undef, undef, undef, undef, undef, undef, undef, undef, undef, undef, undef, undef, undef, undef, undef, undef, undef, undef, undef, undef, undef, undef, undef, undef, undef, undef, undef, undef, undef, undef, undef, undef, undef, undef, undef, undef, undef, undef, undef, undef, undef, undef, undef, undef, undef, undef, undef, undef, undef, undef, undef, undef, undef, undef, undef, undef, undef, undef, undef, undef, undef, undef, undef, undef, undef, undef, undef, undef, undef, undef, undef, undef, undef, undef, undef, undef, undef, undef, undef, undef, undef, undef, undef, undef, undef, undef, undef, undef, undef, undef, undef, undef, undef, undef, undef, undef, undef, undef, undef, undef, undef, undef, undef, undef, undef, undef, undef, undef, undef, undef, undef, undef, undef, undef, undef, undef, undef, undef, undef, undef, undef, undef, undef, undef, undef, undef, undef, undef, undef, undef, undef, undef, undef], []⟩ w0 := by
  conv => arg 2; whnf
  apply wp_seq_k
  intro K hK
  have hK2 : K ⟨#[.bool false, undef, undef, undef, undef, undef, undef, undef, undef, undef, undef, undef, undef, undef, undef, undef, undef, undef, undef, undef, undef, undef, undef, undef, undef, undef, undef, undef, undef, undef, undef, undef, undef, undef, undef, undef, undef, undef, undef, undef, undef, undef, undef, undef, undef, undef, undef, undef, undef, undef, undef, undef, undef, undef, undef, undef, undef, undef, undef, undef, undef, undef, undef, undef, undef, undef, undef, undef, undef, undef, undef, undef, undef, undef, undef, undef, undef, undef, undef, undef, undef, undef, undef, undef, undef, undef, undef, undef, undef, undef, undef, undef, undef, undef, undef, undef, undef, undef, undef, undef, undef, undef, undef, undef, undef, undef, undef, undef, undef, undef, undef, undef, undef, undef, undef, undef, undef, undef, undef, undef, undef, undef, undef, undef, undef, undef, undef, undef, undef, undef, undef, undef, undef, undef, undef, undef, undef, undef, undef, undef, undef, undef, undef, undef, undef, undef, undef, undef, undef, undef, undef, undef, undef, undef, undef, undef, undef, undef, undef, undef, undef, undef, undef, undef, undef, undef, undef, undef, undef, undef, undef, undef, undef, undef, undef, undef, undef, undef, undef, undef, undef, undef, undef, undef, undef, undef, undef, undef, undef, undef, undef, undef, undef, undef, undef, undef, undef, undef, undef, undef, undef, undef, undef, undef, undef, undef, undef, undef, undef, undef, undef, undef, undef, undef, undef, undef, undef, undef, undef, undef, undef, undef, undef, undef, undef, undef, undef, undef, undef, undef, undef, undef, undef, undef, undef, undef, undef, undef, undef, undef, undef, undef, undef], []⟩ w0 := hK _ _ (aw1 xa xb xc ha hb hc w0 Q hQ hcon)
  clear hK
  go_wp2
  exact hK2
set_option maxRecDepth 100000 in
set_option maxHeartbeats 3000000 in
/-- THE EXAMPLES OF THE CHAPTER: they are met. -/
theorem awake_any (w : World) (hc : ConstAt w) : Calls Tryd.prog 15 #[] w fun e w' => e = .returned (.bool true) ∧ Below w.heap.size w w' := by
  go_enter Tryd.func15, Tryd.ntmps15
  have hQ : Ends w (bodyPost Tryd.prog Tryd.f15 fun e w' => e = .returned (.bool true) ∧ Below w.heap.size w w') := ⟨fun a w' hd h0 hb => ⟨hd, _, results_tmp (t := 0) rfl _ _ _, by rw [h0], hb⟩, fun c a a' w' hd h => ⟨hd.trans h.1, h.2⟩⟩
  exact aw0 ⟨Sha.sha [97], sha_bytes _⟩ ⟨Sha.sha [98], sha_bytes _⟩ ⟨Sha.sha [99], sha_bytes _⟩ (Lib.hid rfl) (Lib.hid rfl) (Lib.hid rfl) w _ hQ hc
end Go.Proofs.YtffdkniahdekjaaDoor
end
section
namespace Go.Hoar
open Go Go.RowKit
/-- The operations of a region. -/
def opsAt (n : Nat) : Code → Option (Array Oper)
  | .region m ops _ => if m = n then some ops else none
  | .seq a b => match opsAt n a with
    | some r => some r
    | none => opsAt n b
  | .cond _ a b => match opsAt n a with
    | some r => some r
    | none => opsAt n b
  | .block _ c => opsAt n c
  | .loop c => opsAt n c
  | .scope c => opsAt n c
  | _ => none
section
variable {P : Program}
/-- An array or a struct is stored whole into a block of its own. -/
theorem opw_store {a : Act} {w : World} {K : Act → World → Prop} {Q : Exit → Act → World → Prop} {ty T : TypeId} {x y : Operand} {pos : String} {af : Array Edge} {gd : Option (Nat × Bool)}
    (g : Nat) (cs : Array Value) (t : TypeId) (old : Array Value) (hg : Has w g t old) (ho : old.size = cs.size) (hi : (P.info? ty).map (·.size) = some cs.size) (h1 : cs.all (·.oneCell') = true)
    (hx : a.eval x = .pointer (some ⟨g, 0, none⟩)) (hy : a.eval y = .agg cs) (h : K a (w.setRow g cs)) : Oper.wp P ⟨none, .store ty x y, T, pos, af, gd⟩ a w K Q := by
  unfold Oper.wp execOp
  simp only [hx, hy, Instr.storeAt, Instr.sureAddr, Sem.run_bind, Sem.run_pure, Result.andThen_ok, run_storeVar_row w g t ty old cs hg hi ho h1]
  exact h
/-- .. and read whole. -/
theorem opw_load {a : Act} {w : World} {K : Act → World → Prop} {Q : Exit → Act → World → Prop} {dst : Option Tmp} {ty T : TypeId} {x : Operand} {pos : String} {af : Array Edge} {gd : Option (Nat × Bool)}
    (ad : Addr) (cs : Array Value) (d : TypeDesc) (hc : ∀ j u, cs[j]? = some u → w.cell? (ad.add j) = some u) (hu : P.underlying ty = some d)
    (hi : (P.info? ty).map (·.size) = some cs.size) (hx : a.eval x = .pointer (some ad))
    (hd : (match d with | .struct _ | .array _ _ => true | _ => false) = true) (h : K (a.put dst (.agg cs)) w) : Oper.wp P ⟨dst, .load ty x, T, pos, af, gd⟩ a w K Q := by
  unfold Oper.wp execOp
  simp only [hx, Instr.loadAt, Instr.sureAddr, Sem.run_bind, Sem.run_pure, Result.andThen_ok, run_loadVar_at w ad ty cs d hc hu hd hi]
  exact h
end
end Go.Hoar
end
section
namespace Go.Proofs.YtffdkniahdekjaaDoor
open Go.RowKit Go.Hoar
noncomputable def drOps (k : Nat) : Array Oper := (Tryd.f83.body.bind (opsAt k)).getD #[]
/-- A store of numbers: its bytes, how many were taken, and a seed. -/
def KitAt (w : World) (g : Nat) (a : Option Addr) (c : Nat) (bs : List Nat) (k : Nat) (s : Int) : Prop := Has w g 122 #[.slice a bs.length c, .int .i64 (k : Int), .int .u64 s] ∧ PartOk w a c bs ∧ (∀ x off, a = some ⟨x, off, none⟩ → x ≠ g)
theorem wrapU_small (n : Int) : 0 ≤ IntKind.u64.wrap n ∧ IntKind.u64.wrap n < 18446744073709551616 := by
  simp [IntKind.wrap, IntKind.bits, IntKind.signed]
  omega
set_option maxRecDepth 100000 in
set_option maxHeartbeats 3000000 in
theorem draw_some (g gb ob c : Nat) (bs : List Nat) (k : Nat) (s : Int) (w : World) (hpos : 0 < bs.length) (hbl : bs.length ≤ 300) (hk : k < 4611686018427387904) (hK : KitAt w g (some ⟨gb, ob, none⟩) c bs k s) (hbb : Sha.Bytes bs) :
    Calls Tryd.prog 83 #[.pointer (some ⟨g, 0, none⟩)] w fun e w' => ∃ (d : Nat) (s' : Int), e = .returned (.int .i64 (d : Int)) ∧ d < 16777216 ∧ 0 ≤ s' ∧ s' < 18446744073709551616 ∧ KitAt w' g (some ⟨gb, ob, none⟩) c bs (k + 1) s' ∧ But g w w' := by
  obtain ⟨hH, hP, hne⟩ := hK
  have t0 : w.cell? ⟨g, 0, none⟩ = some (.slice (some ⟨gb, ob, none⟩) bs.length c) := hH.cell 0
  have t1 : w.cell? ⟨g, 1, none⟩ = some (.int .i64 (k : Int)) := hH.cell 1
  have t2 : w.cell? ⟨g, 2, none⟩ = some (.int .u64 s) := hH.cell 2
  have hpos2 : (0 : Int) < (bs.length : Int) := by omega
  obtain ⟨x, hx⟩ : ∃ x, x = bs.getD (k % bs.length) 0 := ⟨_, rfl⟩
  have hmod : k % bs.length < bs.length := Nat.mod_lt _ hpos
  have hx256 : x < 256 := by rw [hx]; exact Sha.getD_lt hbb (by decide) _
  have hbyte : ∀ Z, But g w Z → Z.cell? ⟨gb, ob + k % bs.length, none⟩ = some (.int .u8 ((x : Nat) : Int)) := fun Z hZ => by
    rcases hP with ⟨h, _⟩ | ⟨g', o', h, hg', hb⟩
    · cases h
    · cases h
      rw [hZ.cell hg' (hne _ _ rfl), hb _ hmod, hx]
  have HByte := Lib.hid hbyte
  have HH := Lib.hid hH
  have HP := Lib.hid hP
  clear hH hP hx hbyte
  obtain ⟨n, hn⟩ : ∃ n, n = bs.length := ⟨_, rfl⟩
  obtain ⟨r, hr⟩ : ∃ r, r = k % n := ⟨_, rfl⟩
  rw [← hn] at HByte HH t0 hpos hpos2 hbl hmod
  rw [← hr] at HByte hmod
  have htm : ((k : Int)).tmod (n : Int) = (r : Int) := by rw [hr]; exact (Int.ofNat_tmod k n).symm
  have hn0 : ¬ n = 0 := by omega
  have hr2 : (r : Int) < (n : Int) := by omega
  have hwx : IntKind.u64.wrap (x : Int) = (x : Int) := wrapU x (by omega)
  have HN := Lib.hid hn
  clear hn hr
  go_enter Tryd.func83, Tryd.ntmps83
  go_upto_region 2 with (fail)
  change Code.wp _ (Code.region 2 (drOps 2) true) _ _ _
  refine wp_region_held (S := fun V => But g w V ∧ V.cell? ⟨g, 0, none⟩ = some (.slice (some ⟨gb, ob, none⟩) n c) ∧ V.cell? ⟨g, 1, none⟩ = some (.int .i64 (k : Int))) (by kernel_rfl) ?_
  have hsz : (drOps 2).size = 25 := by kernel_rfl
  rw [hsz]
  clear hsz
  refine gen_world (P := fun W' => wpAnyH _ _ _ _ _ _ _ _ W') (I := fun V => Below w.heap.size w V) _ (Below.refl _ w).drew ?_
  rintro V hBV
  have HHV := Lib.hid (HH.out.below hBV HH.out.lt)
  have HS0 : Hid (But g w V ∧ V.cell? ⟨g, 0, none⟩ = some (.slice (some ⟨gb, ob, none⟩) n c) ∧ V.cell? ⟨g, 1, none⟩ = some (.int .i64 (k : Int))) := Lib.hid ⟨But.of_below hBV, HHV.out.cell 0, HHV.out.cell 1⟩
  have hc0 := HByte.out
  have t2V : V.cell? ⟨g, 2, none⟩ = some (.int .u64 s) := HHV.out.cell 2
  have f2V := HHV.out.free 2
  clear hBV
  refine wpAnyH_take (i := 0) (oi := ⟨some 9, _, _, _, _, _⟩) (v := ?_) rfl (by kernel_rfl) (by kernel_rfl) (by kernel_rfl) (fun _ _ _ h => h) (Or.inl ⟨by rfl, fun w' hw' => by go_simp; with_reducible rfl⟩) HS0.out ?_
  try simp only [Act.put, List.setIfInBounds_toArray, List.set_cons_succ, List.set_cons_zero]
  refine wpAnyH_take (i := 1) (oi := ⟨some 10, _, _, _, _, _⟩) (v := ?_) rfl (by kernel_rfl) (by kernel_rfl) (by kernel_rfl) (fun _ _ _ h => h) (Or.inl ⟨by rfl, fun w' hw' => by go_simp; with_reducible rfl⟩) HS0.out ?_
  try simp only [Act.put, List.setIfInBounds_toArray, List.set_cons_succ, List.set_cons_zero]
  refine wpAnyH_take (i := 2) (oi := ⟨some 11, _, _, _, _, _⟩) (v := .pointer (some ⟨g, 2, none⟩)) rfl (by kernel_rfl) (by kernel_rfl) (by kernel_rfl) (fun _ _ _ h => h) (Or.inl ⟨by rfl, fun w' hw' => by go_simp⟩) HS0.out ?_
  try simp only [Act.put, List.setIfInBounds_toArray, List.set_cons_succ, List.set_cons_zero]
  refine wpAnyH_take (i := 4) (oi := ⟨some 13, _, _, _, _, _⟩) (v := ?_) rfl (by kernel_rfl) (by kernel_rfl) (by kernel_rfl) (fun _ _ _ h => h) (Or.inl ⟨by rfl, fun w' hw' => by go_simp; with_reducible rfl⟩) HS0.out ?_
  try simp only [Act.put, List.setIfInBounds_toArray, List.set_cons_succ, List.set_cons_zero]
  refine wpAnyH_take (i := 5) (oi := ⟨some 14, _, _, _, _, _⟩) (v := ?_) rfl (by kernel_rfl) (by kernel_rfl) (by kernel_rfl) (fun _ _ _ h => h) (Or.inl ⟨by rfl, fun w' hw' => by go_simp; with_reducible rfl⟩) HS0.out ?_
  try simp only [Act.put, List.setIfInBounds_toArray, List.set_cons_succ, List.set_cons_zero]
  refine wpAnyH_take (i := 6) (oi := ⟨some 15, _, _, _, _, _⟩) (v := .pointer (some ⟨g, 0, none⟩)) rfl (by kernel_rfl) (by kernel_rfl) (by kernel_rfl) (fun _ _ _ h => h) (Or.inl ⟨by rfl, fun w' hw' => by go_simp⟩) HS0.out ?_
  try simp only [Act.put, List.setIfInBounds_toArray, List.set_cons_succ, List.set_cons_zero]
  refine wpAnyH_take (i := 8) (oi := ⟨some 17, _, _, _, _, _⟩) (v := ?_) rfl (by kernel_rfl) (by kernel_rfl) (by kernel_rfl) (fun _ _ _ h => h) (Or.inl ⟨by rfl, fun w' hw' => by go_simp; with_reducible rfl⟩) HS0.out ?_
  try simp only [Act.put, List.setIfInBounds_toArray, List.set_cons_succ, List.set_cons_zero]
  refine wpAnyH_take (i := 9) (oi := ⟨some 18, _, _, _, _, _⟩) (v := ?_) rfl (by kernel_rfl) (by kernel_rfl) (by kernel_rfl) (fun _ _ _ h => h) (Or.inl ⟨by rfl, fun w' hw' => by go_simp; with_reducible rfl⟩) HS0.out ?_
  try simp only [Act.put, List.setIfInBounds_toArray, List.set_cons_succ, List.set_cons_zero]
  refine wpAnyH_take (i := 10) (oi := ⟨some 19, _, _, _, _, _⟩) (v := .pointer (some ⟨g, 1, none⟩)) rfl (by kernel_rfl) (by kernel_rfl) (by kernel_rfl) (fun _ _ _ h => h) (Or.inl ⟨by rfl, fun w' hw' => by go_simp⟩) HS0.out ?_
  try simp only [Act.put, List.setIfInBounds_toArray, List.set_cons_succ, List.set_cons_zero]
  refine wpAnyH_take (i := 12) (oi := ⟨some 21, _, _, _, _, _⟩) (v := ?_) rfl (by kernel_rfl) (by kernel_rfl) (by kernel_rfl) (fun _ _ _ h => h) (Or.inl ⟨by rfl, fun w' hw' => by go_simp; with_reducible rfl⟩) HS0.out ?_
  try simp only [Act.put, List.setIfInBounds_toArray, List.set_cons_succ, List.set_cons_zero]
  refine wpAnyH_take (i := 13) (oi := ⟨some 22, _, _, _, _, _⟩) (v := ?_) rfl (by kernel_rfl) (by kernel_rfl) (by kernel_rfl) (fun _ _ _ h => h) (Or.inl ⟨by rfl, fun w' hw' => by go_simp; with_reducible rfl⟩) HS0.out ?_
  try simp only [Act.put, List.setIfInBounds_toArray, List.set_cons_succ, List.set_cons_zero]
  refine wpAnyH_take (i := 14) (oi := ⟨some 23, _, _, _, _, _⟩) (v := .pointer (some ⟨g, 0, none⟩)) rfl (by kernel_rfl) (by kernel_rfl) (by kernel_rfl) (fun _ _ _ h => h) (Or.inl ⟨by rfl, fun w' hw' => by go_simp⟩) HS0.out ?_
  try simp only [Act.put, List.setIfInBounds_toArray, List.set_cons_succ, List.set_cons_zero]
  refine wpAnyH_take (i := 7) (oi := ⟨some 16, _, _, _, _, _⟩) (v := .slice (some ⟨gb, ob, none⟩) n c) rfl (by kernel_rfl) (by kernel_rfl) (by kernel_rfl) (fun _ _ _ h => h) (Or.inl ⟨by rfl, fun w' hw' => by have hq := hw'.2.1; go_simp⟩) HS0.out ?_
  try simp only [Act.put, List.setIfInBounds_toArray, List.set_cons_succ, List.set_cons_zero]
  refine wpAnyH_take (i := 11) (oi := ⟨some 20, _, _, _, _, _⟩) (v := .int .i64 (k : Int)) rfl (by kernel_rfl) (by kernel_rfl) (by kernel_rfl) (fun _ _ _ h => h) (Or.inl ⟨by rfl, fun w' hw' => by have hq := hw'.2.2; go_simp⟩) HS0.out ?_
  try simp only [Act.put, List.setIfInBounds_toArray, List.set_cons_succ, List.set_cons_zero]
  refine wpAnyH_take (i := 15) (oi := ⟨some 24, _, _, _, _, _⟩) (v := .slice (some ⟨gb, ob, none⟩) n c) rfl (by kernel_rfl) (by kernel_rfl) (by kernel_rfl) (fun _ _ _ h => h) (Or.inl ⟨by rfl, fun w' hw' => by have hq := hw'.2.1; go_simp⟩) HS0.out ?_
  try simp only [Act.put, List.setIfInBounds_toArray, List.set_cons_succ, List.set_cons_zero]
  refine wpAnyH_take (i := 16) (oi := ⟨some 25, _, _, _, _, _⟩) (v := .int .i64 (n : Int)) rfl (by kernel_rfl) (by kernel_rfl) (by kernel_rfl) (fun _ _ _ h => h) (Or.inl ⟨by rfl, fun w' hw' => by go_simp⟩) HS0.out ?_
  try simp only [Act.put, List.setIfInBounds_toArray, List.set_cons_succ, List.set_cons_zero]
  refine wpAnyH_take (i := 17) (oi := ⟨some 26, _, _, _, _, _⟩) (v := .int .i64 (r : Int)) rfl (by kernel_rfl) (by kernel_rfl) (by kernel_rfl) (fun _ _ _ h => h) (Or.inl ⟨by rfl, fun w' hw' => by go_simp⟩) HS0.out ?_
  try simp only [Act.put, List.setIfInBounds_toArray, List.set_cons_succ, List.set_cons_zero]
  refine wpAnyH_take (i := 18) (oi := ⟨some 27, _, _, _, _, _⟩) (v := .pointer (some ⟨gb, ob + r, none⟩)) rfl (by kernel_rfl) (by kernel_rfl) (by kernel_rfl) (fun _ _ _ h => h) (Or.inl ⟨by rfl, fun w' hw' => by go_simp⟩) HS0.out ?_
  try simp only [Act.put, List.setIfInBounds_toArray, List.set_cons_succ, List.set_cons_zero]
  refine wpAnyH_take (i := 19) (oi := ⟨some 28, _, _, _, _, _⟩) (v := .int .u8 (x : Int)) rfl (by kernel_rfl) (by kernel_rfl) (by kernel_rfl) (fun _ _ _ h => h) (Or.inl ⟨by rfl, fun w' hw' => by have hq := hc0 w' hw'.1; go_simp⟩) HS0.out ?_
  try simp only [Act.put, List.setIfInBounds_toArray, List.set_cons_succ, List.set_cons_zero]
  refine wpAnyH_take (i := 20) (oi := ⟨some 29, _, _, _, _, _⟩) (v := .int .u64 (x : Int)) rfl (by kernel_rfl) (by kernel_rfl) (by kernel_rfl) (fun _ _ _ h => h) (Or.inl ⟨by rfl, fun w' hw' => by go_simp⟩) HS0.out ?_
  try simp only [Act.put, List.setIfInBounds_toArray, List.set_cons_succ, List.set_cons_zero]
  refine wpAnyH_all (rs := [3]) (by kernel_rfl) (by simp) ?_
  intro i hi
  obtain rfl : i = 3 := by simpa using hi
  clear hi
  refine wpOp_step (o := ⟨some 12, _, _, _, _, _⟩) rfl (fun K' hK' => ?_)
  rw [if_pos (show Region.wanted _ _ = true from rfl)]
  go_simp
  refine hK' _ _ ⟨HS0.out, ?_⟩
  clear hK' K'
  try simp only [Act.put, List.setIfInBounds_toArray, List.set_cons_succ, List.set_cons_zero]
  refine wpAnyH_take (i := 21) (oi := ⟨some 30, _, _, _, _, _⟩) (v := ?_) rfl (by kernel_rfl) (by kernel_rfl) (by kernel_rfl) (fun _ _ _ h => h) (Or.inl ⟨by rfl, fun w' hw' => by go_simp; with_reducible rfl⟩) HS0.out ?_
  try simp only [Act.put, List.setIfInBounds_toArray, List.set_cons_succ, List.set_cons_zero]
  refine wpAnyH_take (i := 22) (oi := ⟨some 31, _, _, _, _, _⟩) (v := ?_) rfl (by kernel_rfl) (by kernel_rfl) (by kernel_rfl) (fun _ _ _ h => h) (Or.inl ⟨by rfl, fun w' hw' => by go_simp; with_reducible rfl⟩) HS0.out ?_
  try simp only [Act.put, List.setIfInBounds_toArray, List.set_cons_succ, List.set_cons_zero]
  refine wpAnyH_take (i := 23) (oi := ⟨some 32, _, _, _, _, _⟩) (v := .pointer (some ⟨g, 2, none⟩)) rfl (by kernel_rfl) (by kernel_rfl) (by kernel_rfl) (fun _ _ _ h => h) (Or.inl ⟨by rfl, fun w' hw' => by go_simp⟩) HS0.out ?_
  try simp only [Act.put, List.setIfInBounds_toArray, List.set_cons_succ, List.set_cons_zero]
  refine wpAnyH_all (rs := [24]) (by kernel_rfl) (by simp) ?_
  intro i hi
  obtain rfl : i = 24 := by simpa using hi
  clear hi
  refine wpOp_step (o := ⟨none, _, _, _, _, _⟩) rfl (fun K' hK' => ?_)
  rw [if_pos (show Region.wanted _ _ = true from rfl)]
  go_simp
  refine hK' _ _ ⟨⟨HS0.out.1.put 2 _, (World.cell?_setCell_other _ _ _ _ (by simp)).trans HS0.out.2.1, (World.cell?_setCell_other _ _ _ _ (by simp)).trans HS0.out.2.2⟩, ?_⟩
  clear hK' K'
  try simp only [Act.put, List.setIfInBounds_toArray, List.set_cons_succ, List.set_cons_zero]
  refine wpAnyH_done (by kernel_rfl) ?_ _
  refine gen_world (P := fun W => _) (I := fun Z => But g w Z ∧ ∃ s1 : Int, Has Z g 122 #[.slice (some ⟨gb, ob, none⟩) n c, .int .i64 (k : Int), .int .u64 s1]) _ ⟨HS0.out.1.put 2 _, _, (HHV.out.put 2 _).of_eq rfl⟩ ?_
  rintro Z ⟨hBZ, s1, hZ⟩
  have z0 : Z.cell? ⟨g, 0, none⟩ = some (.slice (some ⟨gb, ob, none⟩) n c) := hZ.cell 0
  have z1 : Z.cell? ⟨g, 1, none⟩ = some (.int .i64 (k : Int)) := hZ.cell 1
  have z2 : Z.cell? ⟨g, 2, none⟩ = some (.int .u64 s1) := hZ.cell 2
  have e1 := hZ.free 1
  have e2 := hZ.free 2
  have HBZ := Lib.hid hBZ
  have HZ := Lib.hid hZ
  clear hBZ hZ t0 t1 t2 t2V f2V HS0 HHV HH
  go_wp2
  go_ret
  obtain ⟨v, hv⟩ : ∃ v, v = IntKind.u64.wrap (IntKind.u64.wrap (s1 * 6364136223846793005) + 1442695040888963407) := ⟨_, rfl⟩
  have hw := wrapU_small (IntKind.u64.wrap (s1 * 6364136223846793005) + 1442695040888963407)
  rw [← hv] at hw ⊢
  have hq : wrap64 (v / 1099511627776) = v / 1099511627776 := by unfold wrap64; omega
  have hbut : But g w ((Z.setCell ⟨g, 1, none⟩ (.int .i64 ((k : Int) + 1))).setCell ⟨g, 2, none⟩ (.int .u64 v)) := (HBZ.out.put 1 _).put 2 _
  refine ⟨(v / 1099511627776).toNat, v, ?_, by omega, by omega, by omega, ⟨((HZ.out.put 1 (.int .i64 ((k : Int) + 1))).put 2 (.int .u64 v)).of_eq (by rw [HN.out]; rfl), HP.out.but hbut (fun x off h => hne x off h), hne⟩, hbut⟩
  rw [Int.toNat_of_nonneg (by omega)]
  show Ending.returned (.int .i64 (wrap64 (v / 1099511627776))) = _
  rw [hq]
set_option maxRecDepth 100000 in
set_option maxHeartbeats 3000000 in
theorem draw_none (g : Nat) (a : Option Addr) (c : Nat) (k : Nat) (s : Int) (w : World) (hK : KitAt w g a c [] k s) :
    Calls Tryd.prog 83 #[.pointer (some ⟨g, 0, none⟩)] w fun e w' => ∃ (d : Nat) (s' : Int), e = .returned (.int .i64 (d : Int)) ∧ d < 16777216 ∧ KitAt w' g a c [] k s' ∧ But g w w' := by
  obtain ⟨hH, hP, hne⟩ := hK
  have t0 : w.cell? ⟨g, 0, none⟩ = some (.slice a 0 c) := hH.cell 0
  have t2 : w.cell? ⟨g, 2, none⟩ = some (.int .u64 s) := hH.cell 2
  have f2 := hH.free 2
  have HH := Lib.hid hH
  have HP := Lib.hid hP
  have HNe := Lib.hid hne
  clear hH hP hne
  go_enter Tryd.func83, Tryd.ntmps83
  go_wp2
  go_ret
  obtain ⟨v, hv⟩ : ∃ v, v = IntKind.u64.wrap (IntKind.u64.wrap (s * 6364136223846793005) + 1442695040888963407) := ⟨_, rfl⟩
  have hw := wrapU_small (IntKind.u64.wrap (s * 6364136223846793005) + 1442695040888963407)
  rw [← hv] at hw ⊢
  have hq : wrap64 (v / 1099511627776) = v / 1099511627776 := by unfold wrap64; omega
  have hbut : But g w (w.setCell ⟨g, 2, none⟩ (.int .u64 v)) := (But.refl _ _).put 2 _
  refine ⟨(v / 1099511627776).toNat, v, ?_, by omega, ⟨(HH.out.put 2 (.int .u64 v)).of_eq rfl, HP.out.but hbut HNe.out, HNe.out⟩, hbut⟩
  rw [Int.toNat_of_nonneg (by omega)]
  show Ending.returned (.int .i64 (wrap64 (v / 1099511627776))) = _
  rw [hq]
/-- A store of numbers at g, of which at most so many were taken; it and its bytes lie below B. -/
def Kit (w : World) (g B k : Nat) : Prop := g < B ∧ ∃ (a : Option Addr) (c : Nat) (bs : List Nat) (j : Nat) (s : Int), j ≤ k ∧ bs.length ≤ 300 ∧ Sha.Bytes bs ∧ KitAt w g a c bs j s ∧ ∀ x off, a = some ⟨x, off, none⟩ → x < B
theorem Kit.lt {w : World} {g B k : Nat} (h : Kit w g B k) : g < w.heap.size := by
  obtain ⟨_, a, c, bs, j, s, _, _, _, ⟨h, _⟩, _⟩ := h
  exact h.lt
theorem Kit.mono {w : World} {g B k k' : Nat} (h : Kit w g B k) (hk : k ≤ k') : Kit w g B k' := by
  obtain ⟨hB, a, c, bs, j, s, h1, h2⟩ := h
  exact ⟨hB, a, c, bs, j, s, Nat.le_trans h1 hk, h2⟩
theorem PartOk.belowB {w w' : World} {a : Option Addr} {B c : Nat} {bs : List Nat} (h : PartOk w a c bs) (hb : Below B w w') (ha : ∀ x off, a = some ⟨x, off, none⟩ → x < B) : PartOk w' a c bs := by
  rcases h with h | ⟨g, off, rfl, hg, hc⟩
  · exact .inl h
  · exact .inr ⟨g, off, rfl, Nat.lt_of_lt_of_le hg hb.size, fun i hi => (hb.cell (ha g off rfl)).trans (hc i hi)⟩
theorem Kit.below {w w' : World} {g B k : Nat} (h : Kit w g B k) (hb : Below B w w') : Kit w' g B k := by
  obtain ⟨hB, a, c, bs, j, s, h1, h2, h3, ⟨h4, h5, h6⟩, h7⟩ := h
  exact ⟨hB, a, c, bs, j, s, h1, h2, h3, ⟨h4.below hb hB, h5.belowB hb h7, h6⟩, h7⟩
theorem draw_any (g B k : Nat) (hk : k < 4611686018427387904) (w : World) (hK : Kit w g B k) :
    Calls Tryd.prog 83 #[.pointer (some ⟨g, 0, none⟩)] w fun e w' => ∃ d : Nat, e = .returned (.int .i64 (d : Int)) ∧ d < 16777216 ∧ Kit w' g B (k + 1) ∧ But g w w' := by
  obtain ⟨hB, a, c, bs, j, s, hj, hbl, hbb, hK, hA⟩ := hK
  rcases Nat.eq_zero_or_pos bs.length with h0 | hp
  · obtain rfl := List.length_eq_zero_iff.1 h0
    refine (draw_none g a c j s w hK).mono ?_
    rintro e w' ⟨d, s', rfl, hd, hK', hb⟩
    exact ⟨d, rfl, hd, ⟨hB, a, c, [], j, s', by omega, hbl, hbb, hK', hA⟩, hb⟩
  · rcases hK.2.1 with ⟨_, h, _⟩ | ⟨gb, ob, rfl, _, _⟩
    · rw [h] at hp; exact absurd hp (Nat.lt_irrefl _)
    · refine (draw_some g gb ob c bs j s w hp hbl (by omega) hK hbb).mono ?_
      rintro e w' ⟨d, s', rfl, hd, _, _, hK', hb⟩
      exact ⟨d, rfl, hd, ⟨hB, _, c, bs, j + 1, s', by omega, hbl, hbb, hK', hA⟩, hb⟩
set_option maxHeartbeats 1000000 in
theorem less_any (g B k : Nat) (hk : k < 4611686018427387904) (n : Int) (hn : n < 9223372036854775808) (w : World) (hK : Kit w g B k) :
    Calls Tryd.prog 50 #[.pointer (some ⟨g, 0, none⟩), .int .i64 n] w fun e w' => ∃ v : Int, e = .returned (.int .i64 v) ∧ 0 ≤ v ∧ (0 < n → v < n) ∧ v < 16777216 ∧ Kit w' g B (k + 1) ∧ But g w w' := by
  by_cases h0 : n ≤ 0
  · have HK := Lib.hid hK
    clear hK
    go_enter Tryd.func50, Tryd.ntmps50
    go_wp2
    go_ret
    exact ⟨0, rfl, by omega, by omega, by omega, HK.out.mono (Nat.le_succ _), But.refl _ _⟩
  · have HD := Lib.hid (draw_any g B k hk w hK)
    have h1 : ¬ n = 0 := by omega
    clear hK
    go_enter Tryd.func50, Tryd.ntmps50
    go_wp2_with (go_at_call 83; (with_reducible refine HD.out.mono ?_); rintro e w1 ⟨d, rfl, hd, hK1, hb1⟩; have HK1 := Lib.hid hK1; have HB1 := Lib.hid hb1; clear hK1 hb1)
    go_ret
    have e1 : ((d : Int)).tmod n = (d : Int) % n := Int.tmod_eq_emod_of_nonneg (by omega)
    have e2 := Int.emod_lt_of_pos (d : Int) (show 0 < n by omega)
    have e3 := Int.emod_nonneg (d : Int) h1
    have e4 : (d : Int) % n ≤ d := by
      obtain ⟨m, rfl⟩ := Int.eq_ofNat_of_zero_le (show 0 ≤ n by omega)
      exact_mod_cast Nat.mod_le d m
    refine ⟨(d : Int) % n, ?_, e3, fun _ => e2, by omega, HK1.out, HB1.out⟩
    rw [← e1]
    first | rfl | simp
set_option maxHeartbeats 1000000 in
theorem seldom_any (g B k : Nat) (hk : k < 4611686018427387904) (n : Int) (hn : n < 9223372036854775808) (w : World) (hK : Kit w g B k) :
    Calls Tryd.prog 51 #[.pointer (some ⟨g, 0, none⟩), .int .i64 n] w fun e w' => ∃ b : Bool, e = .returned (.bool b) ∧ Kit w' g B (k + 1) ∧ But g w w' := by
  have HD := Lib.hid (less_any g B k hk n hn w hK)
  clear hK
  go_enter Tryd.func51, Tryd.ntmps51
  go_wp2_with (go_at_call 50; (with_reducible refine HD.out.mono ?_); rintro e w1 ⟨d, rfl, _, _, _, hK1, hb1⟩; have HK1 := Lib.hid hK1; have HB1 := Lib.hid hb1; clear hK1 hb1)
  go_ret
  exact ⟨_, rfl, HK1.out, HB1.out⟩
set_option maxHeartbeats 1000000 in
theorem from_any (g B k : Nat) (hk : k < 4611686018427387904) (lo hi : Nat) (hl : lo ≤ hi) (hh : hi < 1000000) (w : World) (hK : Kit w g B k) :
    Calls Tryd.prog 85 #[.pointer (some ⟨g, 0, none⟩), .int .i64 (lo : Int), .int .i64 (hi : Int)] w fun e w' => ∃ v : Nat, e = .returned (.int .i64 (v : Int)) ∧ lo ≤ v ∧ v ≤ hi ∧ Kit w' g B (k + 1) ∧ But g w w' := by
  have HD := Lib.hid (less_any g B k hk ((hi : Int) - (lo : Int) + 1) (by omega) w hK)
  clear hK
  go_enter Tryd.func85, Tryd.ntmps85
  go_wp2_with (go_at_call 50; (with_reducible refine HD.out.mono ?_); rintro e w1 ⟨d, rfl, hd0, hd1, hd2, hK1, hb1⟩; have HK1 := Lib.hid hK1; have HB1 := Lib.hid hb1; clear hK1 hb1)
  go_ret
  have h9 := hd1 (by omega)
  refine ⟨lo + d.toNat, ?_, by omega, by omega, HK1.out, HB1.out⟩
  have e1 : ((lo + d.toNat : Nat) : Int) = (lo : Int) + d := by omega
  rw [e1]
  first | rfl | simp
/-- The first bytes of an array that is filled. -/
theorem arr32_put (l : List Nat) (h : l.length < 32) (v : Nat) : (arr32 l).setIfInBounds l.length (.int .u8 (v : Int)) = arr32 (l ++ [v]) := arr32_set l v (by omega)
set_option maxRecDepth 100000 in
set_option maxHeartbeats 3000000 in
theorem sum_some (g B k : Nat) (hk : k < 2305843009213693952) (w : World) (hK : Kit w g B k) (hBw : B ≤ w.heap.size) :
    Calls Tryd.prog 84 #[.pointer (some ⟨g, 0, none⟩)] w fun e w' => ∃ l : List Nat, e = .returned (.agg (arr32 l)) ∧ l.length = 32 ∧ Sha.Bytes l ∧ Kit w' g B (k + 32) ∧ But g w w' := by
  have hgw := hK.lt
  have HSO : Hid (∀ l : List Nat, l.length = 32 → zero32.size = (arr32 l).size) := Lib.hid fun l h => zero32_size l (by omega)
  go_enter Tryd.func84, Tryd.ntmps84
  go_upto_region 2 with (fail)
  refine gen_world (P := fun W => Code.wp _ _ _ _ W) (I := fun W => Below w.heap.size w W ∧ Has W w.heap.size 26 zero32 ∧ Has W (w.heap.size + 1) 26 (arr32 [])) _ ⟨((Below.refl _ w).alloc (Nat.le_refl _) _).alloc (by simp) _, (fresh_sum w).alloc _, Has.fresh_at _ _ _ _ (by simp)⟩ ?_
  rintro W ⟨hB, hR, hO⟩
  have HKW := Lib.hid (hK.below (hB.mono hBw))
  have HBW := Lib.hid (But.of_below (b := g) hB)
  have HRW := Lib.hid hR
  have HOW := Lib.hid hO
  clear hB hR hO hK
  go_wp2
  go_loopw [5] (fun i wr => ∃ (j : Nat) (l : List Nat), j ≤ 32 ∧ l.length = j ∧ i = .int .i64 (j : Int) ∧ Hid (Sha.Bytes l) ∧ Kit wr g B (k + j) ∧ Has wr (w.heap.size + 1) 26 (arr32 l) ∧ Has wr w.heap.size 26 zero32 ∧ But g w wr) (fun i _ => 32 - (intOf i).toNat)
  case atStart => exact ⟨0, [], Nat.zero_le _, rfl, rfl, Lib.hid (fun x hx => absurd hx List.not_mem_nil), HKW.out, HOW.out, HRW.out, HBW.out⟩
  case round =>
    obtain ⟨j, l, hj, hl, rfl, HY, hKr, hO, hR, hB⟩ := hrel
    by_cases hlt : j < 32
    · have hj32 : (j : Int) < 32 := by omega
      have HL := Lib.hid (less_any g B (k + j) (by omega) 256 (by omega) wr hKr)
      have HO := Lib.hid hO
      have HR := Lib.hid hR
      have HB := Lib.hid hB
      clear hO hR hB hKr
      go_upto_region 5 with (fail)
      go_wp2_with (go_at_call 50; (with_reducible refine HL.out.mono ?_); rintro e w1 ⟨v, rfl, hv0, hv1, _, hK1, hb1⟩; obtain ⟨v, rfl⟩ := Int.eq_ofNat_of_zero_le hv0; have hv2 : v < 256 := (by have := hv1 (by omega); omega); have hO1 := hb1.has HO.out (by omega); have c1 : w1.cell? ⟨w.heap.size + 1, j, none⟩ = some (.int .u8 0) := (by rw [hO1.cell, ← hl]; exact arr32_end l (by omega)); have f1 := hO1.free j; have HO1 := Lib.hid hO1; have HR1 := Lib.hid (hb1.has HR.out (by omega)); have HK1 := Lib.hid hK1; have HB1 := Lib.hid (HB.out.trans hb1); have hw8 : IntKind.u8.wrap (v : Int) = (v : Int) := (by simp [IntKind.wrap, IntKind.bits, IntKind.signed]; omega); clear hK1 hb1 hO1)
      go_roundw
      case rel => exact ⟨j + 1, l ++ [v], by omega, by simp [hl], by go_num, Lib.hid (fun x hx => by rcases List.mem_append.1 hx with h | h; exact HY.out x h; rw [List.mem_singleton.1 h]; exact hv2), (HK1.out.below ((Below.refl B w1).setCell (by simp; omega) _)).mono (by omega), (HO1.out.put j (.int .u8 (v : Int))).of_eq (by rw [← hl]; exact arr32_put l (by omega) v), HR1.out.apart (by simp) _, HB1.out.new (by simp) _⟩
      case measure => simp [intOf]; omega
    · obtain rfl : j = 32 := by omega
      have HIo := Lib.hid (arr32_info l (by omega))
      have HSo := Lib.hid (HSO.out l hl)
      have HO := Lib.hid hO
      have HR := Lib.hid hR
      have HB := Lib.hid hB
      have HKr := Lib.hid hKr
      clear hO hR hB hKr
      go_wp2_with (first
        | ((with_reducible refine arm_load ⟨w.heap.size + 1, 0, none⟩ (arr32 l) _ HO.out.row Tryd.underlying26 HIo.out ?h1 ?h2 ?_); (case h1 => rfl); (case h2 => rfl))
        | ((with_reducible refine arm_store w.heap.size (arr32 l) 26 zero32 HR.out HSo.out HIo.out (arr32_one _) ?h5 ?h6 ?_); (case h5 => rfl); (case h6 => rfl)))
      refine bodyPost_ret (results_cell_row (P := Tryd.prog) rfl _ _ w.heap.size 26 (arr32 l) (0, 0) _ rfl HR.out.setRow Tryd.underlying26 rfl HIo.out) rfl ⟨l, rfl, hl, HY.out, ?_, HB.out.newRow (Nat.le_refl _) _⟩
      exact HKr.out.below (below_setRow (Below.refl B wr) hBw _)
set_option maxHeartbeats 1000000 in
theorem cloneBytes_any (bs : List Nat) (a : Option Addr) (c : Nat) (w : World) (hp : PartOk w a c bs) (hl : bs.length ≤ 1000000) :
    Calls Tryd.prog 82 #[.slice a bs.length c] w fun e w' => ∃ a' c', e = .returned (.slice a' bs.length c') ∧ w'.ownsRow w.heap.size 5 1 (.slice a' bs.length c') bs.length (bs.map BV) ∧ Below w.heap.size w w' := by
  obtain ⟨i0, hi0, hz0, hz1, hz2⟩ := info_parts info8
  rcases hp with ⟨rfl, rfl, rfl⟩ | ⟨g, off, rfl, hg, hb⟩
  · refine (Tryd.slices_Clone_nil 0 0 w).mono ?_
    rintro e w' ⟨rfl, rfl⟩
    exact ⟨none, 0, rfl, World.ownsRow_nil _ _ _ _, Below.refl _ _⟩
  · refine (Tryd.slices_Clone i0 _ 1 1 hi0 hz0 hz1 hz2 rfl (by decide) Tryd.sizeOf5 g off bs.length c (bs.map BV) w (by simp) (by unfold maxLen; omega) (by omega) (fun j u hj => ?_) (fun u hu => ?_)).mono ?_
    · rw [List.getElem?_map] at hj
      obtain ⟨y, hy, rfl⟩ := Option.map_eq_some_iff.1 hj
      have hj2 : j < bs.length := (List.getElem?_eq_some_iff.1 hy).1
      rw [hb j hj2, List.getD_eq_getElem?_getD, hy]
      rfl
    · obtain ⟨y, _, rfl⟩ := List.mem_map.1 hu
      rfl
    · rintro e w' ⟨v, rfl, ho, _, hb2⟩
      obtain ⟨a', c', rfl⟩ := own_form ho
      exact ⟨a', c', rfl, ho, hb2⟩
set_option maxRecDepth 100000 in
set_option maxHeartbeats 1000000 in
theorem kitOf_any (bs : List Nat) (hbb : Sha.Bytes bs) (a : Option Addr) (c : Nat) (w : World) (hp : PartOk w a c bs) (hcap : bs.length ≤ c ∧ c ≤ maxLen) :
    Calls Tryd.prog 49 #[.slice a bs.length c] w fun e w' => ∃ g, e = .returned (.pointer (some ⟨g, 0, none⟩)) ∧ Kit w' g (g + 1) 0 ∧ w.heap.size ≤ g ∧ Below w.heap.size w w' := by
  obtain ⟨m, hm⟩ : ∃ m, m = min bs.length 300 := ⟨_, rfl⟩
  have hpm : PartOk w a c (bs.take m) := by
    rcases hp with ⟨rfl, rfl, rfl⟩ | ⟨g, off, rfl, hg, hb⟩
    · exact .inl ⟨rfl, by simp, rfl⟩
    · refine .inr ⟨g, off, rfl, hg, fun i hi => ?_⟩
      rw [List.length_take] at hi
      rw [hb i (by omega), List.getD_eq_getElem?_getD, List.getD_eq_getElem?_getD, List.getElem?_take_of_lt (by omega)]
  have hlm : (bs.take m).length = m := by rw [List.length_take]; omega
  have hcl := cloneBytes_any (bs.take m) a c w hpm (by omega)
  rw [hlm] at hcl
  have HCl := Lib.hid hcl
  have HBb := Lib.hid (bytes_take hbb m)
  have HLm := Lib.hid hlm
  obtain ⟨hc1, hc2⟩ := hcap
  unfold maxLen at hc2
  have hm300 : m ≤ 300 := by omega
  have hmn : m ≤ bs.length := by omega
  have hmt : (min (bs.length : Int) 300).toNat = m := by omega
  clear hp hpm hcl hlm hbb hm
  go_enter Tryd.func49, Tryd.ntmps49
  go_wp2_with (go_at_call 82; (with_reducible refine HCl.out.mono ?_); rintro e w1 ⟨a1, c1, rfl, ho1, hb1⟩; have HO1 := Lib.hid ho1; have HB1 := Lib.hid hb1; clear ho1 hb1)
  go_ret
  have hb := HB1.out
  have hpt := (part_own HO1.out).1
  have hlt : ∀ x off, a1 = some ⟨x, off, none⟩ → x < w1.heap.size := fun x off h => by
    subst h
    exact (HO1.out.lt x rfl).2
  refine ⟨w1.heap.size, rfl, ⟨Nat.lt_succ_self _, a1, c1, bs.take m, 0, 88172645463325252, Nat.le_refl _, by rw [HLm.out]; exact hm300, HBb.out, ⟨by rw [HLm.out]; exact Has.fresh _ _ _, hpt.below ((Below.refl _ w1).alloc (Nat.le_refl _) _), fun x off h => Nat.ne_of_lt (hlt x off h)⟩, fun x off h => Nat.lt_succ_of_lt (hlt x off h)⟩, hb.size, hb.alloc hb.size _⟩
end Go.Proofs.YtffdkniahdekjaaDoor
end
section
namespace Go.Proofs.YtffdkniahdekjaaDoor
open Go.RowKit Go.Hoar
theorem refOf_own (bs : List Nat) (n : Nat) (hn : n = bs.length) (hbs : Sha.Bytes bs) (hlen : n ≤ 140737488340000) (hpos : 0 < n) {V : World} {base : Nat} {a : Option Addr} {c : Nat} (ho : V.ownsRow base 5 1 (.slice a n c) n (bs.map BV)) (out : List Nat) (hout : Hid (out = Sha.sha bs)) :
    Calls Tryd.prog 18 #[.slice a n c] V fun e w' => e = .returned (.agg (arr32 out)) ∧ out.length = 32 ∧ Below V.heap.size V w' := by
  subst hn
  obtain ⟨a', c', hv, h1, h2⟩ := own_shape ho
  simp only [Value.slice.injEq, true_and] at hv
  obtain ⟨rfl, rfl⟩ := hv
  exact (refOf_any bs a c V hbs (part_own ho).1 h1 h2 (by omega) (by omega) out hout).mono fun e w' ⟨he, hb⟩ => ⟨he, by rw [hout.out]; exact (sha_bytes _).1, hb⟩
set_option maxRecDepth 100000 in
set_option maxHeartbeats 1000000 in
theorem refLeaf_any (l : List Nat) (hl : l.length = 32) (hlb : Sha.Bytes l) (w : World) (out : List Nat) (hout : Hid (out = Sha.sha (1 :: l))) :
    Calls Tryd.prog 72 #[.agg (arr32 l)] w fun e w' => e = .returned (.agg (arr32 out)) ∧ out.length = 32 ∧ Below w.heap.size w w' := by
  obtain ⟨i0, hi, hz0, hz1, hz2⟩ := info_parts info8
  go_enter Tryd.func72, Tryd.ntmps72
  go_upto_region 1 with (fail)
  refine gen_world (P := fun W => Code.wp _ _ _ _ W) (I := fun W => Below w.heap.size w W ∧ Has W w.heap.size 26 (arr32 l) ∧ Has W (w.heap.size + 1) 26 (arr32 []) ∧ W.heap.size = w.heap.size + 2) _ ⟨((Below.refl _ w).alloc (Nat.le_refl _) _).alloc (by simp) _, (Has.fresh_at _ _ _ _ rfl).alloc _, Has.fresh_at _ _ _ _ (by simp), by simp⟩ ?_
  rintro W ⟨hB, hS, hR, hsz⟩
  have HB := Lib.hid hB
  have HS := Lib.hid hS
  have HR := Lib.hid hR
  have hone : ∀ u ∈ l.map BV, u.oneCell' = true := by
    intro u hu
    obtain ⟨x, _, rfl⟩ := List.mem_map.1 hu
    rfl
  have h33 : (1 :: l).length = 33 := by simp [hl]
  have hby : Sha.Bytes (1 :: l) := fun x hx => (List.mem_cons.1 hx).elim (fun e => by omega) (hlb x)
  have hof : ∀ (a : Option Addr) (c : Nat) (V : World), V.ownsRow w.heap.size 5 1 (.slice a 33 c) 33 ((1 :: l).map BV) → Calls Tryd.prog 18 #[.slice a 33 c] V fun e w' => e = .returned (.agg (arr32 out)) ∧ out.length = 32 ∧ Below V.heap.size V w' := fun a c V ho =>
    refOf_own (1 :: l) 33 h33.symm hby (by omega) (by omega) ho out hout
  have HOf := Lib.hid hof
  have HO : Hid ((W.alloc (.cells #[.int .u8 1] 5)).ownsRow w.heap.size 5 1 (.slice (some ⟨w.heap.size + 2, 0, none⟩) 1 1) 1 [.int .u8 1]) := Lib.hid (own_row (bs := [1]) (Has.fresh_at W 5 _ (w.heap.size + 2) hsz.symm) (by omega) (by decide))
  have HN : Hid (∀ j u, (l.map BV)[j]? = some u → (W.alloc (.cells #[.int .u8 1] 5)).cell? ((⟨w.heap.size, 0, none⟩ : Addr).add j) = some u) := Lib.hid fun j u hj => (hS.alloc _).row j u (by rw [arr32_whole l hl, List.getElem?_toArray]; exact hj)
  have HRa := Lib.hid (hR.alloc (.cells #[.int .u8 1] 5))
  have HBa := Lib.hid (hB.alloc hB.size (.cells #[.int .u8 1] 5))
  have hbase : w.heap.size ≤ (W.alloc (.cells #[.int .u8 1] 5)).heap.size := HBa.out.size
  have hl32 : (l.map BV).length = 32 * 1 := by simp [hl]
  clear hB hS hR hof
  go_wp2_with (at_builtin; refine wpList_append_own _ rfl _ _ 22 rfl w.heap.size 5 i0 (.int .u8 0) 1 1 Tryd.underlying22 hi hz0 hz1 hz2 rfl (by decide) _ _ _ rfl HO.out ⟨w.heap.size, 0, none⟩ 32 32 (l.map BV) rfl hl32 HN.out hone (by decide) (by decide) hbase ?_; intro v' w2 hown2 hgrow _)
  have hown3 : w2.ownsRow w.heap.size 5 1 v' 33 ((1 :: l).map BV) := hown2
  obtain ⟨a', c', rfl⟩ := own_form hown3
  have hB2 : Below w.heap.size w w2 := HBa.out.grown hgrow hbase (fun r hr => by cases hr; exact Nat.le_add_right _ _)
  have HB2 := Lib.hid hB2
  have hne : some (w.heap.size + 1) ≠ Value.ownBlock (.slice (some ⟨w.heap.size + 2, 0, none⟩) 1 1) := fun e => by
    have e2 : w.heap.size + 1 = w.heap.size + 2 := Option.some.inj e
    omega
  have HR2 := Lib.hid (has_grown HRa.out hgrow hne)
  have hw2 : w.heap.size ≤ w2.heap.size := hB2.size
  have HO3 := Lib.hid hown3
  clear hown2 hown3 hgrow hB2
  refine (HOf.out a' c' w2 HO3.out).mono ?_
  rintro e w3 ⟨rfl, hol, hbel⟩
  have HB3 := Lib.hid hbel
  have HR3 := Lib.hid (HR2.out.below hbel HR2.out.lt)
  have HI32 := Lib.hid (arr32_info out (by omega))
  have HS32 := Lib.hid ((arr32_size [] (by simp)).trans (arr32_size out (by omega)).symm)
  clear hbel
  go_wp2_with ((with_reducible refine arm_store (w.heap.size + 1) _ _ _ HR3.out HS32.out HI32.out (arr32_one _) ?h5 ?h6 ?_); (case h5 => rfl); (case h6 => rfl))
  exact bodyPost_ret (results_cell_row (P := Tryd.prog) rfl _ _ (w.heap.size + 1) 26 (arr32 out) (0, 0) _ rfl HR3.out.setRow Tryd.underlying26 rfl HI32.out) rfl ⟨rfl, hol, below_setRow (HB2.out.trans (HB3.out.mono hw2)) (by omega) _⟩
end Go.Proofs.YtffdkniahdekjaaDoor
end
section
namespace Go.Proofs.YtffdkniahdekjaaDoor
open Go.RowKit Go.Hoar
noncomputable def innerOps : Array Oper := (Tryd.f73.body.bind (opsAt 1)).getD #[]
set_option maxRecDepth 100000 in
set_option maxHeartbeats 2000000 in
theorem refInner_any (l m : List Nat) (hl : l.length = 32) (hm : m.length = 32) (hlb : Sha.Bytes l) (hmb : Sha.Bytes m) (w : World) (out : List Nat) (hout : Hid (out = Sha.sha (2 :: (l ++ m)))) :
    Calls Tryd.prog 73 #[.agg (arr32 l), .agg (arr32 m)] w fun e w' => e = .returned (.agg (arr32 out)) ∧ out.length = 32 ∧ Below w.heap.size w w' := by
  obtain ⟨i0, hi, hz0, hz1, hz2⟩ := info_parts info8
  go_enter Tryd.func73, Tryd.ntmps73
  go_upto_region 1 with (fail)
  refine gen_world (P := fun W => Code.wp _ _ _ _ W) (I := fun W => Below w.heap.size w W ∧ Has W w.heap.size 26 (arr32 l) ∧ Has W (w.heap.size + 1) 26 (arr32 m) ∧ Has W (w.heap.size + 2) 26 (arr32 []) ∧ W.heap.size = w.heap.size + 3) _ ⟨(((Below.refl _ w).alloc (Nat.le_refl _) _).alloc (by simp) _).alloc (by simp; omega) _, ((Has.fresh_at _ _ _ _ rfl).alloc _).alloc _, (Has.fresh_at _ _ _ _ (by simp)).alloc _, Has.fresh_at _ _ _ _ (by simp), by simp⟩ ?_
  rintro W ⟨hB, hS, hM, hR, hsz⟩
  change Code.wp _ (Code.region 1 innerOps true) _ _ _
  refine wp_region_held (S := fun _ => True) (by kernel_rfl) ?_
  have hsz : innerOps.size = 7 := by kernel_rfl
  rw [hsz]
  clear hsz
  refine gen_world (P := fun W' => wpAnyH _ _ _ _ _ _ _ _ W') (I := fun W' => Below w.heap.size w W' ∧ Has W' w.heap.size 26 (arr32 l) ∧ Has W' (w.heap.size + 1) 26 (arr32 m) ∧ Has W' (w.heap.size + 2) 26 (arr32 []) ∧ W'.heap.size = w.heap.size + 3) _ ⟨hB.drew, hS.drew, hM.drew, hR.drew, hsz⟩ ?_
  clear hB hS hM hR hsz W
  rintro W ⟨hB, hS, hM, hR, hsz⟩
  have HB := Lib.hid hB
  have HS := Lib.hid hS
  have HM := Lib.hid hM
  have HR := Lib.hid hR
  have hone : ∀ (l : List Nat), ∀ u ∈ l.map BV, u.oneCell' = true := by
    intro l u hu
    obtain ⟨x, _, rfl⟩ := List.mem_map.1 hu
    rfl
  have HOne := Lib.hid hone
  have h65 : (2 :: (l ++ m)).length = 65 := by simp [hl, hm]
  have hby : Sha.Bytes (2 :: (l ++ m)) := fun x hx => (List.mem_cons.1 hx).elim (fun e => by omega) (bytes_append hlb hmb x)
  have hof : ∀ (a : Option Addr) (c : Nat) (V : World), V.ownsRow (w.heap.size + 3) 5 1 (.slice a 65 c) 65 ((2 :: (l ++ m)).map BV) → Calls Tryd.prog 18 #[.slice a 65 c] V fun e w' => e = .returned (.agg (arr32 out)) ∧ out.length = 32 ∧ Below V.heap.size V w' := fun a c V ho =>
    refOf_own (2 :: (l ++ m)) 65 h65.symm hby (by omega) (by omega) ho out hout
  have HOf := Lib.hid hof
  have HO : Hid ((W.alloc (.cells #[.int .u8 2] 5)).ownsRow (w.heap.size + 3) 5 1 (.slice (some ⟨w.heap.size + 3, 0, none⟩) 1 1) 1 [.int .u8 2]) := Lib.hid (own_row (bs := [2]) (Has.fresh_at W 5 _ (w.heap.size + 3) hsz.symm) (by omega) (by decide))
  have HN : Hid (∀ j u, (l.map BV)[j]? = some u → (W.alloc (.cells #[.int .u8 2] 5)).cell? ((⟨w.heap.size, 0, none⟩ : Addr).add j) = some u) := Lib.hid fun j u hj => (hS.alloc _).row j u (by rw [arr32_whole l hl, List.getElem?_toArray]; exact hj)
  have HRa := Lib.hid (hR.alloc (.cells #[.int .u8 2] 5))
  have HMa := Lib.hid (hM.alloc (.cells #[.int .u8 2] 5))
  have HBa := Lib.hid (hB.alloc hB.size (.cells #[.int .u8 2] 5))
  have hbase : w.heap.size + 3 ≤ (W.alloc (.cells #[.int .u8 2] 5)).heap.size := by simp [hsz]
  have hl32 : (l.map BV).length = 32 * 1 := by simp [hl]
  have hm32 : (m.map BV).length = 32 * 1 := by simp [hm]
  have hne : ∀ k, k = 1 ∨ k = 2 → some (w.heap.size + k) ≠ Value.ownBlock (.slice (some ⟨w.heap.size + 3, 0, none⟩) 1 1) := fun k hk e => by
    have e2 : w.heap.size + k = w.heap.size + 3 := Option.some.inj e
    omega
  have HNe := Lib.hid hne
  clear hB hS hM hR hof hone hne
  refine wpAnyH_take (i := 1) (oi := ⟨some 6, _, _, _, _, _⟩) (v := .slice (some ⟨w.heap.size, 0, none⟩) 32 32) rfl (by kernel_rfl) (by kernel_rfl) (by kernel_rfl) (fun _ _ _ h => h) (Or.inl ⟨by rfl, fun w' hw' => by go_simp⟩) trivial ?_
  try simp only [Act.put, List.setIfInBounds_toArray, List.set_cons_succ, List.set_cons_zero]
  refine wpAnyH_take (i := 3) (oi := ⟨some 8, _, _, _, _, _⟩) (v := .slice (some ⟨w.heap.size + 1, 0, none⟩) 32 32) rfl (by kernel_rfl) (by kernel_rfl) (by kernel_rfl) (fun _ _ _ h => h) (Or.inl ⟨by rfl, fun w' hw' => by go_simp⟩) trivial ?_
  try simp only [Act.put, List.setIfInBounds_toArray, List.set_cons_succ, List.set_cons_zero]
  refine wpAnyH_all (rs := [0]) (by kernel_rfl) (by simp) ?_
  intro i hi
  obtain rfl : i = 0 := by simpa using hi
  clear hi
  refine wpOp_step (o := ⟨some 5, _, _, _, _, _⟩) rfl (fun K' hK' => ?_)
  rw [if_pos (show Region.wanted _ _ = true from rfl)]
  go_simp
  refine hK' _ _ ⟨trivial, ?_⟩
  clear hK' K'
  try simp only [Act.put, List.setIfInBounds_toArray, List.set_cons_succ, List.set_cons_zero]
  refine wpAnyH_all (rs := [2]) (by kernel_rfl) (by simp) ?_
  intro i hi
  obtain rfl : i = 2 := by simpa using hi
  clear hi
  refine wpOp_step (o := ⟨some 7, _, _, _, _, _⟩) rfl (fun K' hK' => ?_)
  rw [if_pos (show Region.wanted _ _ = true from rfl)]
  refine wp_append_own _ _ _ 22 rfl (w.heap.size + 3) 5 i0 (.int .u8 0) 1 1 Tryd.underlying22 hi hz0 hz1 hz2 rfl (by decide) _ _ _ rfl HO.out ⟨w.heap.size, 0, none⟩ 32 32 (l.map BV) rfl hl32 HN.out (HOne.out l) (by decide) (by decide) hbase (fun v' w2 hown2 hgrow _ => ?_)
  have hown3 : w2.ownsRow (w.heap.size + 3) 5 1 v' 33 ((2 :: l).map BV) := hown2
  obtain ⟨a', c', rfl⟩ := own_form hown3
  refine hK' _ _ ⟨trivial, ?_⟩
  clear hK' K'
  try simp only [Act.put, List.setIfInBounds_toArray, List.set_cons_succ, List.set_cons_zero]
  have hB2 : Below w.heap.size w w2 := HBa.out.grown hgrow (by omega) (fun r hr => by cases hr; exact Nat.le_add_right _ _)
  have HB2 := Lib.hid hB2
  have HR2 := Lib.hid (has_grown HRa.out hgrow (HNe.out 2 (Or.inr rfl)))
  have HM2 := Lib.hid (has_grown HMa.out hgrow (HNe.out 1 (Or.inl rfl)))
  have HN2 : Hid (∀ j u, (m.map BV)[j]? = some u → w2.cell? ((⟨w.heap.size + 1, 0, none⟩ : Addr).add j) = some u) := Lib.hid fun j u hj => HM2.out.row j u (by rw [arr32_whole m hm, List.getElem?_toArray]; exact hj)
  have hw2 : w.heap.size + 3 ≤ w2.heap.size := Nat.le_trans hbase hgrow.size
  have hlt2 : ∀ r, Value.ownBlock (.slice a' 33 c') = some r → w.heap.size + 3 ≤ r := fun r hr => (hown3.lt r hr).1
  have HO3 := Lib.hid hown3
  have HLt2 := Lib.hid hlt2
  clear hown2 hown3 hgrow hB2 hlt2
  refine wpAnyH_all (rs := [4]) (by kernel_rfl) (by simp) ?_
  intro i hi
  obtain rfl : i = 4 := by simpa using hi
  clear hi
  refine wpOp_step (o := ⟨some 9, _, _, _, _, _⟩) rfl (fun K' hK' => ?_)
  rw [if_pos (show Region.wanted _ _ = true from rfl)]
  refine wp_append_own _ _ _ 22 rfl (w.heap.size + 3) 5 i0 (.int .u8 0) 1 1 Tryd.underlying22 hi hz0 hz1 hz2 rfl (by decide) _ _ _ rfl HO3.out ⟨w.heap.size + 1, 0, none⟩ 32 32 (m.map BV) rfl hm32 HN2.out (HOne.out m) (by decide) (by decide) hw2 (fun v' w3 hown2 hgrow _ => ?_)
  have hown4 : w3.ownsRow (w.heap.size + 3) 5 1 v' 65 ((2 :: (l ++ m)).map BV) := by
    rw [← List.cons_append, List.map_append]
    exact hown2
  obtain ⟨a3, c3, rfl⟩ := own_form hown4
  refine hK' _ _ ⟨trivial, ?_⟩
  clear hK' K'
  try simp only [Act.put, List.setIfInBounds_toArray, List.set_cons_succ, List.set_cons_zero]
  have hB3 : Below w.heap.size w w3 := HB2.out.grown hgrow (by omega) (fun r hr => by have := HLt2.out r hr; omega)
  have HB3 := Lib.hid hB3
  have HR3 := Lib.hid (has_grown HR2.out hgrow (fun e => by have := HLt2.out _ e.symm; omega))
  have HO4 := Lib.hid hown4
  have hw3 : w.heap.size ≤ w3.heap.size := hB3.size
  clear hown2 hown4 hgrow hB3
  refine wpAnyH_all (rs := [5]) (by kernel_rfl) (by simp) ?_
  intro i hi
  obtain rfl : i = 5 := by simpa using hi
  clear hi
  refine wpOp_step (o := ⟨some 10, _, _, _, _, _⟩) rfl (fun K' hK' => ?_)
  rw [if_pos (show Region.wanted _ _ = true from rfl)]
  go_simp
  (with_reducible refine (HOf.out a3 c3 w3 HO4.out).mono ?_)
  rintro e w4 ⟨rfl, hol, hbel⟩
  refine hK' _ _ ⟨trivial, ?_⟩
  clear hK' K'
  try simp only [Act.put, List.setIfInBounds_toArray, List.set_cons_succ, List.set_cons_zero]
  have HB4 := Lib.hid hbel
  have HR4 := Lib.hid (HR3.out.below hbel HR3.out.lt)
  have HI32 := Lib.hid (arr32_info out (by omega))
  have HS32 := Lib.hid ((arr32_size [] (by simp)).trans (arr32_size out (by omega)).symm)
  clear hbel
  refine wpAnyH_all (rs := [6]) (by kernel_rfl) (by simp) ?_
  intro i hi
  obtain rfl : i = 6 := by simpa using hi
  clear hi
  refine wpOp_step (o := ⟨none, _, _, _, _, _⟩) rfl (fun K' hK' => ?_)
  rw [if_pos (show Region.wanted _ _ = true from rfl)]
  refine opw_store (w.heap.size + 2) (arr32 out) _ _ HR4.out HS32.out HI32.out (arr32_one _) rfl rfl ?_
  refine hK' _ _ ⟨trivial, ?_⟩
  clear hK' K'
  try simp only [Act.put, List.setIfInBounds_toArray, List.set_cons_succ, List.set_cons_zero]
  refine wpAnyH_done (by kernel_rfl) ?_ _
  go_wp2
  exact bodyPost_ret (results_cell_row (P := Tryd.prog) rfl _ _ (w.heap.size + 2) 26 (arr32 out) (0, 0) _ rfl HR4.out.setRow Tryd.underlying26 rfl HI32.out) rfl ⟨rfl, hol, below_setRow (HB3.out.trans (HB4.out.mono hw3)) (by omega) _⟩
end Go.Proofs.YtffdkniahdekjaaDoor
end
section
namespace Go.Proofs.YtffdkniahdekjaaDoor
open Go.RowKit Go.Hoar
theorem pow_half {n d : Nat} (h2 : 2 ≤ n) (hn : n ≤ 140737488355328) (h1 : 2 ^ d ≤ n - 1) (h3 : n - 1 < 2 * 2 ^ d) : 2 ^ d = halfOf n := by
  obtain ⟨_, b2, b3⟩ := halfOf_bounds h2 hn
  unfold halfOf at *
  generalize Lib.bitLen (n - 1) - 1 = k at *
  rcases Nat.lt_trichotomy d k with h | h | h
  · have : 2 ^ (d + 1) ≤ 2 ^ k := Nat.pow_le_pow_right (by decide) h
    rw [Nat.pow_succ] at this
    omega
  · rw [h]
  · have : 2 ^ (k + 1) ≤ 2 ^ d := Nat.pow_le_pow_right (by decide) h
    rw [Nat.pow_succ] at this
    omega
set_option maxHeartbeats 1000000 in
theorem refBelow_any (n : Nat) (h2 : 2 ≤ n) (hn : n ≤ 140737488355328) (w : World) :
    Calls Tryd.prog 71 #[.int .i64 (n : Int)] w fun e w' => e = .returned (.int .i64 ((halfOf n : Nat) : Int)) ∧ w' = w := by
  go_enter Tryd.func71, Tryd.ntmps71
  go_wp2
  go_loop [3] (fun v => ∃ m d : Nat, v = .int .i64 m ∧ Hid (m = 2 ^ d) ∧ 0 < m ∧ m < n) (fun v => n - (intOf v).toNat)
  case atStart => exact ⟨1, 0, rfl, Lib.hid rfl, by omega, by omega⟩
  case round =>
    obtain ⟨m, d, rfl, hm, h0, h1⟩ := hrel
    by_cases hlt : 2 * m < n
    · have hlt2 : (2 : Int) * m < n := by omega
      go_wp2
      go_round
      case rel => exact ⟨m * 2, d + 1, by go_num, Lib.hid (by rw [hm.out, Nat.pow_succ]), by omega, by omega⟩
      case measure => simp [intOf]; omega
    · have hlt2 : (n : Int) ≤ 2 * m := by omega
      have HE : Hid (halfOf n = m) := Lib.hid (by rw [hm.out]; exact (pow_half (d := d) h2 hn (by rw [← hm.out]; omega) (by rw [← hm.out]; omega)).symm)
      go_wp2
      go_ret
      exact ⟨by rw [HE.out]; exact Eq.refl _, rfl⟩
end Go.Proofs.YtffdkniahdekjaaDoor
end
