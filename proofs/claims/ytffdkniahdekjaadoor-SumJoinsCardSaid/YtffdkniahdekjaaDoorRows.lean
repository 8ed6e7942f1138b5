/-
  NARROWER THAN 'FOR EVERY INPUT', by the rows' own cells (each row's printed sentence says how): SumDigests: laid · SumPieces: laid · SumDigits: laid · SumLists: laid · SumTrees: laid · SumVerifies: laid · SumShort: laid · SumJoins: laid · SumReads: laid · SumGrows: laid · SumBinds: laid · SumNames: laid.
  DERIVED. THE GIVEN ROWS OF THIS SEAT. 12 by the template 'for every input the law returns true; each argument reads behind the call as it read before'; 0 by the template 'total and deterministic' (their statements: YtffdkniahdekjaaDoorTotals.lean).
  GIVEN WITH THE SEED: the statements are not yours to turn. If you find one false, say at which input.
  Laid BY PROGRAM, IN A SANDBOX (cutbox-rows.mjs): the forced cells as the released guide's own fill.sh prints them over the translation 89ce1568146d1073… (all of the seat's roots in one cut). By AI agents, Wed Nov 11 2026. No macro, syntax, notation, axiom, sorry.
-/
import Derived.Test.YtffdkniahdekjaaDoorChecked
import GoSem.Claim
import GoSem.ClaimJoined
import GoSem.ClaimMapViews
import Derived.JoinedTies
import Derived.KernelRfl
namespace Go.Proofs.YtffdkniahdekjaaDoor
/- THE CELL 'sum', in the pinned program and in every row, IS THE sha256 OF THE DUMP (.gsa) THAT YtffdkniahdekjaaDoorProg.lean LOADS. Nothing in Lean hashes anything: it is a label: what it is worth is what the hold of that sum in a sandbox is worth. -/
noncomputable def Tryd.pinned : Pinned := { name := "ytffdkniahdekjaadoor", sum := "89ce1568146d1073a019c2351d6a19928e98e9f2189b114a7f54c552610759e3", checked := Tryd.checked }
namespace Rows
def none {H : Type} : Left H := { results := [], args := [] }

/- WHAT THE LISTED PACKAGE-LEVEL VARIABLES READ AS WHEN THE CALL BEGINS. Each datum BY PROGRAM (the guide's laid-datum.mjs) off the statement by which the dump's own 'gosem.cut.vars' lays the variable. In a bare row this is a premise. The card (YtffdkniahdekjaaDoorCards.lean) ties it to the program's text. -/
def laid_hoarstone_sum_constants {H : Type} : DataW H := .agg [.lit (.int .u32 1116352408), .lit (.int .u32 1899447441), .lit (.int .u32 3049323471), .lit (.int .u32 3921009573), .lit (.int .u32 961987163), .lit (.int .u32 1508970993), .lit (.int .u32 2453635748), .lit (.int .u32 2870763221), .lit (.int .u32 3624381080), .lit (.int .u32 310598401), .lit (.int .u32 607225278), .lit (.int .u32 1426881987), .lit (.int .u32 1925078388), .lit (.int .u32 2162078206), .lit (.int .u32 2614888103), .lit (.int .u32 3248222580), .lit (.int .u32 3835390401), .lit (.int .u32 4022224774), .lit (.int .u32 264347078), .lit (.int .u32 604807628), .lit (.int .u32 770255983), .lit (.int .u32 1249150122), .lit (.int .u32 1555081692), .lit (.int .u32 1996064986), .lit (.int .u32 2554220882), .lit (.int .u32 2821834349), .lit (.int .u32 2952996808), .lit (.int .u32 3210313671), .lit (.int .u32 3336571891), .lit (.int .u32 3584528711), .lit (.int .u32 113926993), .lit (.int .u32 338241895), .lit (.int .u32 666307205), .lit (.int .u32 773529912), .lit (.int .u32 1294757372), .lit (.int .u32 1396182291), .lit (.int .u32 1695183700), .lit (.int .u32 1986661051), .lit (.int .u32 2177026350), .lit (.int .u32 2456956037), .lit (.int .u32 2730485921), .lit (.int .u32 2820302411), .lit (.int .u32 3259730800), .lit (.int .u32 3345764771), .lit (.int .u32 3516065817), .lit (.int .u32 3600352804), .lit (.int .u32 4094571909), .lit (.int .u32 275423344), .lit (.int .u32 430227734), .lit (.int .u32 506948616), .lit (.int .u32 659060556), .lit (.int .u32 883997877), .lit (.int .u32 958139571), .lit (.int .u32 1322822218), .lit (.int .u32 1537002063), .lit (.int .u32 1747873779), .lit (.int .u32 1955562222), .lit (.int .u32 2024104815), .lit (.int .u32 2227730452), .lit (.int .u32 2361852424), .lit (.int .u32 2428436474), .lit (.int .u32 2756734187), .lit (.int .u32 3204031479), .lit (.int .u32 3329325298)]

/-- 'hoarstonelaw01.SumDigests': WHATEVER THE INPUT: true; the input reads as it did. -/
def sumDigestsSpec : ChangeSpec := { name := "sumDigests", fn := fun _ => fun
  | [d] => { results := [.lit (.bool true)], args := [d] }
  | _ => none }
def sumDigestsRow : OpenClaim := { program := "ytffdkniahdekjaadoor", sum := "89ce1568146d1073a019c2351d6a19928e98e9f2189b114a7f54c552610759e3", func := "hoarstone/hoarstonelaw01.SumDigests", spec := "sumDigests", inPlace := ["internal/bytealg.Compare"], unfollowed := true, recurses := true, named := ["hoarstone/sum.constants"], plainKeys := false, apart := false, laid := [("hoarstone/sum.constants", laid_hoarstone_sum_constants)] }
def SumDigestsSaid : Prop := sumDigestsRow.holds Tryd.pinned (OpenSpec.ofChange sumDigestsSpec)

/-- ITS FALSE NEIGHBOUR: 'it returns false'. Refute it at one input. -/
def sumDigestsWrong : ChangeSpec := { name := "sumDigests", fn := fun _ => fun
  | [d] => { results := [.lit (.bool false)], args := [d] }
  | _ => none }
def SumDigestsWrongFalsely : Prop := sumDigestsRow.holds Tryd.pinned (OpenSpec.ofChange sumDigestsWrong)

/-- 'hoarstonelaw01.SumPieces': WHATEVER THE INPUT: true; the input reads as it did. -/
def sumPiecesSpec : ChangeSpec := { name := "sumPieces", fn := fun _ => fun
  | [d1, d2, d3, d4] => { results := [.lit (.bool true)], args := [d1, d2, d3, d4] }
  | _ => none }
def sumPiecesRow : OpenClaim := { program := "ytffdkniahdekjaadoor", sum := "89ce1568146d1073a019c2351d6a19928e98e9f2189b114a7f54c552610759e3", func := "hoarstone/hoarstonelaw01.SumPieces", spec := "sumPieces", inPlace := ["internal/bytealg.Compare"], unfollowed := true, recurses := true, named := ["hoarstone/sum.constants"], plainKeys := false, apart := false, laid := [("hoarstone/sum.constants", laid_hoarstone_sum_constants)] }
def SumPiecesSaid : Prop := sumPiecesRow.holds Tryd.pinned (OpenSpec.ofChange sumPiecesSpec)

/-- ITS FALSE NEIGHBOUR: 'it returns false'. Refute it at one input. -/
def sumPiecesWrong : ChangeSpec := { name := "sumPieces", fn := fun _ => fun
  | [d1, d2, d3, d4] => { results := [.lit (.bool false)], args := [d1, d2, d3, d4] }
  | _ => none }
def SumPiecesWrongFalsely : Prop := sumPiecesRow.holds Tryd.pinned (OpenSpec.ofChange sumPiecesWrong)

/-- 'hoarstonelaw01.SumDigits': WHATEVER THE INPUT: true; the input reads as it did. -/
def sumDigitsSpec : ChangeSpec := { name := "sumDigits", fn := fun _ => fun
  | [d1, d2, d3] => { results := [.lit (.bool true)], args := [d1, d2, d3] }
  | _ => none }
def sumDigitsRow : OpenClaim := { program := "ytffdkniahdekjaadoor", sum := "89ce1568146d1073a019c2351d6a19928e98e9f2189b114a7f54c552610759e3", func := "hoarstone/hoarstonelaw01.SumDigits", spec := "sumDigits", inPlace := ["internal/bytealg.Compare"], unfollowed := true, recurses := true, named := ["hoarstone/sum.constants"], plainKeys := false, apart := false, laid := [("hoarstone/sum.constants", laid_hoarstone_sum_constants)] }
def SumDigitsSaid : Prop := sumDigitsRow.holds Tryd.pinned (OpenSpec.ofChange sumDigitsSpec)

/-- ITS FALSE NEIGHBOUR: 'it returns false'. Refute it at one input. -/
def sumDigitsWrong : ChangeSpec := { name := "sumDigits", fn := fun _ => fun
  | [d1, d2, d3] => { results := [.lit (.bool false)], args := [d1, d2, d3] }
  | _ => none }
def SumDigitsWrongFalsely : Prop := sumDigitsRow.holds Tryd.pinned (OpenSpec.ofChange sumDigitsWrong)

/-- 'hoarstonelaw01.SumLists': WHATEVER THE INPUT: true; the input reads as it did. -/
def sumListsSpec : ChangeSpec := { name := "sumLists", fn := fun _ => fun
  | [d1, d2] => { results := [.lit (.bool true)], args := [d1, d2] }
  | _ => none }
def sumListsRow : OpenClaim := { program := "ytffdkniahdekjaadoor", sum := "89ce1568146d1073a019c2351d6a19928e98e9f2189b114a7f54c552610759e3", func := "hoarstone/hoarstonelaw01.SumLists", spec := "sumLists", inPlace := ["internal/bytealg.Compare"], unfollowed := true, recurses := true, named := ["hoarstone/sum.constants"], plainKeys := false, apart := false, laid := [("hoarstone/sum.constants", laid_hoarstone_sum_constants)] }
def SumListsSaid : Prop := sumListsRow.holds Tryd.pinned (OpenSpec.ofChange sumListsSpec)

/-- ITS FALSE NEIGHBOUR: 'it returns false'. Refute it at one input. -/
def sumListsWrong : ChangeSpec := { name := "sumLists", fn := fun _ => fun
  | [d1, d2] => { results := [.lit (.bool false)], args := [d1, d2] }
  | _ => none }
def SumListsWrongFalsely : Prop := sumListsRow.holds Tryd.pinned (OpenSpec.ofChange sumListsWrong)

/-- 'hoarstonelaw01.SumTrees': WHATEVER THE INPUT: true; the input reads as it did. -/
def sumTreesSpec : ChangeSpec := { name := "sumTrees", fn := fun _ => fun
  | [d1, d2, d3] => { results := [.lit (.bool true)], args := [d1, d2, d3] }
  | _ => none }
def sumTreesRow : OpenClaim := { program := "ytffdkniahdekjaadoor", sum := "89ce1568146d1073a019c2351d6a19928e98e9f2189b114a7f54c552610759e3", func := "hoarstone/hoarstonelaw01.SumTrees", spec := "sumTrees", inPlace := ["internal/bytealg.Compare"], unfollowed := true, recurses := true, named := ["hoarstone/sum.constants"], plainKeys := false, apart := false, laid := [("hoarstone/sum.constants", laid_hoarstone_sum_constants)] }
def SumTreesSaid : Prop := sumTreesRow.holds Tryd.pinned (OpenSpec.ofChange sumTreesSpec)

/-- ITS FALSE NEIGHBOUR: 'it returns false'. Refute it at one input. -/
def sumTreesWrong : ChangeSpec := { name := "sumTrees", fn := fun _ => fun
  | [d1, d2, d3] => { results := [.lit (.bool false)], args := [d1, d2, d3] }
  | _ => none }
def SumTreesWrongFalsely : Prop := sumTreesRow.holds Tryd.pinned (OpenSpec.ofChange sumTreesWrong)

/-- 'hoarstonelaw01.SumVerifies': WHATEVER THE INPUT: true; the input reads as it did. -/
def sumVerifiesSpec : ChangeSpec := { name := "sumVerifies", fn := fun _ => fun
  | [d1, d2, d3, d4, d5] => { results := [.lit (.bool true)], args := [d1, d2, d3, d4, d5] }
  | _ => none }
def sumVerifiesRow : OpenClaim := { program := "ytffdkniahdekjaadoor", sum := "89ce1568146d1073a019c2351d6a19928e98e9f2189b114a7f54c552610759e3", func := "hoarstone/hoarstonelaw01.SumVerifies", spec := "sumVerifies", inPlace := ["internal/bytealg.Compare"], unfollowed := true, recurses := true, named := ["hoarstone/sum.constants"], plainKeys := false, apart := false, laid := [("hoarstone/sum.constants", laid_hoarstone_sum_constants)] }
def SumVerifiesSaid : Prop := sumVerifiesRow.holds Tryd.pinned (OpenSpec.ofChange sumVerifiesSpec)

/-- ITS FALSE NEIGHBOUR: 'it returns false'. Refute it at one input. -/
def sumVerifiesWrong : ChangeSpec := { name := "sumVerifies", fn := fun _ => fun
  | [d1, d2, d3, d4, d5] => { results := [.lit (.bool false)], args := [d1, d2, d3, d4, d5] }
  | _ => none }
def SumVerifiesWrongFalsely : Prop := sumVerifiesRow.holds Tryd.pinned (OpenSpec.ofChange sumVerifiesWrong)

/-- 'hoarstonelaw01.SumShort': WHATEVER THE INPUT: true; the input reads as it did. -/
def sumShortSpec : ChangeSpec := { name := "sumShort", fn := fun _ => fun
  | [d1, d2] => { results := [.lit (.bool true)], args := [d1, d2] }
  | _ => none }
def sumShortRow : OpenClaim := { program := "ytffdkniahdekjaadoor", sum := "89ce1568146d1073a019c2351d6a19928e98e9f2189b114a7f54c552610759e3", func := "hoarstone/hoarstonelaw01.SumShort", spec := "sumShort", inPlace := ["internal/bytealg.Compare"], unfollowed := true, recurses := true, named := ["hoarstone/sum.constants"], plainKeys := false, apart := false, laid := [("hoarstone/sum.constants", laid_hoarstone_sum_constants)] }
def SumShortSaid : Prop := sumShortRow.holds Tryd.pinned (OpenSpec.ofChange sumShortSpec)

/-- ITS FALSE NEIGHBOUR: 'it returns false'. Refute it at one input. -/
def sumShortWrong : ChangeSpec := { name := "sumShort", fn := fun _ => fun
  | [d1, d2] => { results := [.lit (.bool false)], args := [d1, d2] }
  | _ => none }
def SumShortWrongFalsely : Prop := sumShortRow.holds Tryd.pinned (OpenSpec.ofChange sumShortWrong)

/-- 'hoarstonelaw01.SumJoins': WHATEVER THE INPUT: true; the input reads as it did. -/
def sumJoinsSpec : ChangeSpec := { name := "sumJoins", fn := fun _ => fun
  | [d1, d2, d3] => { results := [.lit (.bool true)], args := [d1, d2, d3] }
  | _ => none }
def sumJoinsRow : OpenClaim := { program := "ytffdkniahdekjaadoor", sum := "89ce1568146d1073a019c2351d6a19928e98e9f2189b114a7f54c552610759e3", func := "hoarstone/hoarstonelaw01.SumJoins", spec := "sumJoins", inPlace := ["internal/bytealg.Compare"], unfollowed := true, recurses := true, named := ["hoarstone/sum.constants"], plainKeys := false, apart := false, laid := [("hoarstone/sum.constants", laid_hoarstone_sum_constants)] }
def SumJoinsSaid : Prop := sumJoinsRow.holds Tryd.pinned (OpenSpec.ofChange sumJoinsSpec)

/-- ITS FALSE NEIGHBOUR: 'it returns false'. Refute it at one input. -/
def sumJoinsWrong : ChangeSpec := { name := "sumJoins", fn := fun _ => fun
  | [d1, d2, d3] => { results := [.lit (.bool false)], args := [d1, d2, d3] }
  | _ => none }
def SumJoinsWrongFalsely : Prop := sumJoinsRow.holds Tryd.pinned (OpenSpec.ofChange sumJoinsWrong)

/-- 'hoarstonelaw01.SumReads': WHATEVER THE INPUT: true; the input reads as it did. -/
def sumReadsSpec : ChangeSpec := { name := "sumReads", fn := fun _ => fun
  | [d1, d2, d3] => { results := [.lit (.bool true)], args := [d1, d2, d3] }
  | _ => none }
def sumReadsRow : OpenClaim := { program := "ytffdkniahdekjaadoor", sum := "89ce1568146d1073a019c2351d6a19928e98e9f2189b114a7f54c552610759e3", func := "hoarstone/hoarstonelaw01.SumReads", spec := "sumReads", inPlace := ["internal/bytealg.Compare"], unfollowed := true, recurses := true, named := ["hoarstone/sum.constants"], plainKeys := false, apart := false, laid := [("hoarstone/sum.constants", laid_hoarstone_sum_constants)] }
def SumReadsSaid : Prop := sumReadsRow.holds Tryd.pinned (OpenSpec.ofChange sumReadsSpec)

/-- ITS FALSE NEIGHBOUR: 'it returns false'. Refute it at one input. -/
def sumReadsWrong : ChangeSpec := { name := "sumReads", fn := fun _ => fun
  | [d1, d2, d3] => { results := [.lit (.bool false)], args := [d1, d2, d3] }
  | _ => none }
def SumReadsWrongFalsely : Prop := sumReadsRow.holds Tryd.pinned (OpenSpec.ofChange sumReadsWrong)

/-- 'hoarstonelaw01.SumGrows': WHATEVER THE INPUT: true; the input reads as it did. -/
def sumGrowsSpec : ChangeSpec := { name := "sumGrows", fn := fun _ => fun
  | [d1, d2, d3] => { results := [.lit (.bool true)], args := [d1, d2, d3] }
  | _ => none }
def sumGrowsRow : OpenClaim := { program := "ytffdkniahdekjaadoor", sum := "89ce1568146d1073a019c2351d6a19928e98e9f2189b114a7f54c552610759e3", func := "hoarstone/hoarstonelaw01.SumGrows", spec := "sumGrows", inPlace := ["internal/bytealg.Compare"], unfollowed := true, recurses := true, named := ["hoarstone/sum.constants"], plainKeys := false, apart := false, laid := [("hoarstone/sum.constants", laid_hoarstone_sum_constants)] }
def SumGrowsSaid : Prop := sumGrowsRow.holds Tryd.pinned (OpenSpec.ofChange sumGrowsSpec)

/-- ITS FALSE NEIGHBOUR: 'it returns false'. Refute it at one input. -/
def sumGrowsWrong : ChangeSpec := { name := "sumGrows", fn := fun _ => fun
  | [d1, d2, d3] => { results := [.lit (.bool false)], args := [d1, d2, d3] }
  | _ => none }
def SumGrowsWrongFalsely : Prop := sumGrowsRow.holds Tryd.pinned (OpenSpec.ofChange sumGrowsWrong)

/-- 'hoarstonelaw01.SumBinds': WHATEVER THE INPUT: true; the input reads as it did. -/
def sumBindsSpec : ChangeSpec := { name := "sumBinds", fn := fun _ => fun
  | [d1, d2, d3, d4, d5] => { results := [.lit (.bool true)], args := [d1, d2, d3, d4, d5] }
  | _ => none }
def sumBindsRow : OpenClaim := { program := "ytffdkniahdekjaadoor", sum := "89ce1568146d1073a019c2351d6a19928e98e9f2189b114a7f54c552610759e3", func := "hoarstone/hoarstonelaw01.SumBinds", spec := "sumBinds", inPlace := ["internal/bytealg.Compare"], unfollowed := true, recurses := true, named := ["hoarstone/sum.constants"], plainKeys := false, apart := false, laid := [("hoarstone/sum.constants", laid_hoarstone_sum_constants)] }
def SumBindsSaid : Prop := sumBindsRow.holds Tryd.pinned (OpenSpec.ofChange sumBindsSpec)

/-- ITS FALSE NEIGHBOUR: 'it returns false'. Refute it at one input. -/
def sumBindsWrong : ChangeSpec := { name := "sumBinds", fn := fun _ => fun
  | [d1, d2, d3, d4, d5] => { results := [.lit (.bool false)], args := [d1, d2, d3, d4, d5] }
  | _ => none }
def SumBindsWrongFalsely : Prop := sumBindsRow.holds Tryd.pinned (OpenSpec.ofChange sumBindsWrong)

/-- 'hoarstonelaw01.SumNames': WHATEVER THE INPUT: true; the input reads as it did. -/
def sumNamesSpec : ChangeSpec := { name := "sumNames", fn := fun _ => fun
  | [d1, d2, d3] => { results := [.lit (.bool true)], args := [d1, d2, d3] }
  | _ => none }
def sumNamesRow : OpenClaim := { program := "ytffdkniahdekjaadoor", sum := "89ce1568146d1073a019c2351d6a19928e98e9f2189b114a7f54c552610759e3", func := "hoarstone/hoarstonelaw01.SumNames", spec := "sumNames", inPlace := ["internal/bytealg.Compare"], unfollowed := true, recurses := true, named := ["hoarstone/sum.constants"], plainKeys := false, apart := false, laid := [("hoarstone/sum.constants", laid_hoarstone_sum_constants)] }
def SumNamesSaid : Prop := sumNamesRow.holds Tryd.pinned (OpenSpec.ofChange sumNamesSpec)

/-- ITS FALSE NEIGHBOUR: 'it returns false'. Refute it at one input. -/
def sumNamesWrong : ChangeSpec := { name := "sumNames", fn := fun _ => fun
  | [d1, d2, d3] => { results := [.lit (.bool false)], args := [d1, d2, d3] }
  | _ => none }
def SumNamesWrongFalsely : Prop := sumNamesRow.holds Tryd.pinned (OpenSpec.ofChange sumNamesWrong)

/- THE SECOND FORM. 'bulk': how many values and letters a reading holds, each counted each time it is reached (what is shared counts as often as it is met; a slice's spare places count too). A statement '..UptoSaid' is the law's where the arguments, and the package variables that the reading takes, are together of bulk at most 1048576: NARROWER than '..Said'. Prove '..Said' where nothing that the law and all that it calls make is longer than what came in: it says more and counts as full. Else prove '..UptoSaid'. A law counts once. -/
mutual
def uptoBulk {H : Type} : DataW H → Nat
  | .lit (.string bytes) => bytes.length + 1
  | .lit _ => 1
  | .nil => 1
  | .ptr d => uptoBulk d + 1
  | .slice elems spare => uptoBulkAll elems + uptoBulkAll spare + 1
  | .agg parts => uptoBulkAll parts + 1
  | .iface _ d => uptoBulk d + 1
  | .map entries => uptoBulkEntries entries + 1
  | .held _ => 1
def uptoBulkAll {H : Type} : List (DataW H) → Nat
  | [] => 0
  | d :: r => uptoBulk d + uptoBulkAll r
def uptoBulkEntries {H : Type} : List (Lit × DataW H) → Nat
  | [] => 0
  | x :: r => uptoBulkEntry x + uptoBulkEntries r
def uptoBulkEntry {H : Type} : Lit × DataW H → Nat
  | (.string bytes, d) => bytes.length + uptoBulk d + 1
  | (_, d) => uptoBulk d + 1
 end
def uptoSmall : (H : Type) → List (DataW H) → Bool := fun _ ds => decide (uptoBulkAll ds ≤ 1048576)
def OpenSpec.upto (s : _root_.Go.ChangeSpec) : _root_.Go.OpenSpec := { _root_.Go.OpenSpec.ofChange s with cond := some uptoSmall }

/-- 'hoarstonelaw01.SumDigests', WHERE WHAT IT READS IS OF BULK AT MOST 1048576: true; the input reads as it did. -/
def sumDigestsUptoRow : OpenClaim := { program := "ytffdkniahdekjaadoor", sum := "89ce1568146d1073a019c2351d6a19928e98e9f2189b114a7f54c552610759e3", func := "hoarstone/hoarstonelaw01.SumDigests", spec := "sumDigests", inPlace := ["internal/bytealg.Compare"], unfollowed := true, recurses := true, named := ["hoarstone/sum.constants"], plainKeys := false, apart := false, laid := [("hoarstone/sum.constants", laid_hoarstone_sum_constants)], narrowed := true }
def SumDigestsUptoSaid : Prop := sumDigestsUptoRow.holds Tryd.pinned (OpenSpec.upto sumDigestsSpec)

/-- 'hoarstonelaw01.SumPieces', WHERE WHAT IT READS IS OF BULK AT MOST 1048576: true; the input reads as it did. -/
def sumPiecesUptoRow : OpenClaim := { program := "ytffdkniahdekjaadoor", sum := "89ce1568146d1073a019c2351d6a19928e98e9f2189b114a7f54c552610759e3", func := "hoarstone/hoarstonelaw01.SumPieces", spec := "sumPieces", inPlace := ["internal/bytealg.Compare"], unfollowed := true, recurses := true, named := ["hoarstone/sum.constants"], plainKeys := false, apart := false, laid := [("hoarstone/sum.constants", laid_hoarstone_sum_constants)], narrowed := true }
def SumPiecesUptoSaid : Prop := sumPiecesUptoRow.holds Tryd.pinned (OpenSpec.upto sumPiecesSpec)

/-- 'hoarstonelaw01.SumDigits', WHERE WHAT IT READS IS OF BULK AT MOST 1048576: true; the input reads as it did. -/
def sumDigitsUptoRow : OpenClaim := { program := "ytffdkniahdekjaadoor", sum := "89ce1568146d1073a019c2351d6a19928e98e9f2189b114a7f54c552610759e3", func := "hoarstone/hoarstonelaw01.SumDigits", spec := "sumDigits", inPlace := ["internal/bytealg.Compare"], unfollowed := true, recurses := true, named := ["hoarstone/sum.constants"], plainKeys := false, apart := false, laid := [("hoarstone/sum.constants", laid_hoarstone_sum_constants)], narrowed := true }
def SumDigitsUptoSaid : Prop := sumDigitsUptoRow.holds Tryd.pinned (OpenSpec.upto sumDigitsSpec)

/-- 'hoarstonelaw01.SumLists', WHERE WHAT IT READS IS OF BULK AT MOST 1048576: true; the input reads as it did. -/
def sumListsUptoRow : OpenClaim := { program := "ytffdkniahdekjaadoor", sum := "89ce1568146d1073a019c2351d6a19928e98e9f2189b114a7f54c552610759e3", func := "hoarstone/hoarstonelaw01.SumLists", spec := "sumLists", inPlace := ["internal/bytealg.Compare"], unfollowed := true, recurses := true, named := ["hoarstone/sum.constants"], plainKeys := false, apart := false, laid := [("hoarstone/sum.constants", laid_hoarstone_sum_constants)], narrowed := true }
def SumListsUptoSaid : Prop := sumListsUptoRow.holds Tryd.pinned (OpenSpec.upto sumListsSpec)

/-- 'hoarstonelaw01.SumTrees', WHERE WHAT IT READS IS OF BULK AT MOST 1048576: true; the input reads as it did. -/
def sumTreesUptoRow : OpenClaim := { program := "ytffdkniahdekjaadoor", sum := "89ce1568146d1073a019c2351d6a19928e98e9f2189b114a7f54c552610759e3", func := "hoarstone/hoarstonelaw01.SumTrees", spec := "sumTrees", inPlace := ["internal/bytealg.Compare"], unfollowed := true, recurses := true, named := ["hoarstone/sum.constants"], plainKeys := false, apart := false, laid := [("hoarstone/sum.constants", laid_hoarstone_sum_constants)], narrowed := true }
def SumTreesUptoSaid : Prop := sumTreesUptoRow.holds Tryd.pinned (OpenSpec.upto sumTreesSpec)

/-- 'hoarstonelaw01.SumVerifies', WHERE WHAT IT READS IS OF BULK AT MOST 1048576: true; the input reads as it did. -/
def sumVerifiesUptoRow : OpenClaim := { program := "ytffdkniahdekjaadoor", sum := "89ce1568146d1073a019c2351d6a19928e98e9f2189b114a7f54c552610759e3", func := "hoarstone/hoarstonelaw01.SumVerifies", spec := "sumVerifies", inPlace := ["internal/bytealg.Compare"], unfollowed := true, recurses := true, named := ["hoarstone/sum.constants"], plainKeys := false, apart := false, laid := [("hoarstone/sum.constants", laid_hoarstone_sum_constants)], narrowed := true }
def SumVerifiesUptoSaid : Prop := sumVerifiesUptoRow.holds Tryd.pinned (OpenSpec.upto sumVerifiesSpec)

/-- 'hoarstonelaw01.SumShort', WHERE WHAT IT READS IS OF BULK AT MOST 1048576: true; the input reads as it did. -/
def sumShortUptoRow : OpenClaim := { program := "ytffdkniahdekjaadoor", sum := "89ce1568146d1073a019c2351d6a19928e98e9f2189b114a7f54c552610759e3", func := "hoarstone/hoarstonelaw01.SumShort", spec := "sumShort", inPlace := ["internal/bytealg.Compare"], unfollowed := true, recurses := true, named := ["hoarstone/sum.constants"], plainKeys := false, apart := false, laid := [("hoarstone/sum.constants", laid_hoarstone_sum_constants)], narrowed := true }
def SumShortUptoSaid : Prop := sumShortUptoRow.holds Tryd.pinned (OpenSpec.upto sumShortSpec)

/-- 'hoarstonelaw01.SumJoins', WHERE WHAT IT READS IS OF BULK AT MOST 1048576: true; the input reads as it did. -/
def sumJoinsUptoRow : OpenClaim := { program := "ytffdkniahdekjaadoor", sum := "89ce1568146d1073a019c2351d6a19928e98e9f2189b114a7f54c552610759e3", func := "hoarstone/hoarstonelaw01.SumJoins", spec := "sumJoins", inPlace := ["internal/bytealg.Compare"], unfollowed := true, recurses := true, named := ["hoarstone/sum.constants"], plainKeys := false, apart := false, laid := [("hoarstone/sum.constants", laid_hoarstone_sum_constants)], narrowed := true }
def SumJoinsUptoSaid : Prop := sumJoinsUptoRow.holds Tryd.pinned (OpenSpec.upto sumJoinsSpec)

/-- 'hoarstonelaw01.SumReads', WHERE WHAT IT READS IS OF BULK AT MOST 1048576: true; the input reads as it did. -/
def sumReadsUptoRow : OpenClaim := { program := "ytffdkniahdekjaadoor", sum := "89ce1568146d1073a019c2351d6a19928e98e9f2189b114a7f54c552610759e3", func := "hoarstone/hoarstonelaw01.SumReads", spec := "sumReads", inPlace := ["internal/bytealg.Compare"], unfollowed := true, recurses := true, named := ["hoarstone/sum.constants"], plainKeys := false, apart := false, laid := [("hoarstone/sum.constants", laid_hoarstone_sum_constants)], narrowed := true }
def SumReadsUptoSaid : Prop := sumReadsUptoRow.holds Tryd.pinned (OpenSpec.upto sumReadsSpec)

/-- 'hoarstonelaw01.SumGrows', WHERE WHAT IT READS IS OF BULK AT MOST 1048576: true; the input reads as it did. -/
def sumGrowsUptoRow : OpenClaim := { program := "ytffdkniahdekjaadoor", sum := "89ce1568146d1073a019c2351d6a19928e98e9f2189b114a7f54c552610759e3", func := "hoarstone/hoarstonelaw01.SumGrows", spec := "sumGrows", inPlace := ["internal/bytealg.Compare"], unfollowed := true, recurses := true, named := ["hoarstone/sum.constants"], plainKeys := false, apart := false, laid := [("hoarstone/sum.constants", laid_hoarstone_sum_constants)], narrowed := true }
def SumGrowsUptoSaid : Prop := sumGrowsUptoRow.holds Tryd.pinned (OpenSpec.upto sumGrowsSpec)

/-- 'hoarstonelaw01.SumBinds', WHERE WHAT IT READS IS OF BULK AT MOST 1048576: true; the input reads as it did. -/
def sumBindsUptoRow : OpenClaim := { program := "ytffdkniahdekjaadoor", sum := "89ce1568146d1073a019c2351d6a19928e98e9f2189b114a7f54c552610759e3", func := "hoarstone/hoarstonelaw01.SumBinds", spec := "sumBinds", inPlace := ["internal/bytealg.Compare"], unfollowed := true, recurses := true, named := ["hoarstone/sum.constants"], plainKeys := false, apart := false, laid := [("hoarstone/sum.constants", laid_hoarstone_sum_constants)], narrowed := true }
def SumBindsUptoSaid : Prop := sumBindsUptoRow.holds Tryd.pinned (OpenSpec.upto sumBindsSpec)

/-- 'hoarstonelaw01.SumNames', WHERE WHAT IT READS IS OF BULK AT MOST 1048576: true; the input reads as it did. -/
def sumNamesUptoRow : OpenClaim := { program := "ytffdkniahdekjaadoor", sum := "89ce1568146d1073a019c2351d6a19928e98e9f2189b114a7f54c552610759e3", func := "hoarstone/hoarstonelaw01.SumNames", spec := "sumNames", inPlace := ["internal/bytealg.Compare"], unfollowed := true, recurses := true, named := ["hoarstone/sum.constants"], plainKeys := false, apart := false, laid := [("hoarstone/sum.constants", laid_hoarstone_sum_constants)], narrowed := true }
def SumNamesUptoSaid : Prop := sumNamesUptoRow.holds Tryd.pinned (OpenSpec.upto sumNamesSpec)

end Rows
end Go.Proofs.YtffdkniahdekjaaDoor
