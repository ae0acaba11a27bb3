/-
  No cell of these rows narrows 'for every input' (looked for: loops, veiled, ifaces, maps, wideKeys, modest, calm, conditions, laid).
  DERIVED. THE GIVEN ROWS OF THIS SEAT. 12 by the template 'for every input the law returns true; each argument reads behind the call as it read before'; 0 by the template 'total and deterministic' (their statements: YteenppbpjdldgaaTotals.lean).
  GIVEN WITH THE SEED: the statements are not yours to turn. If you find one false, say at which input.
  Laid BY PROGRAM, IN A SANDBOX (cutbox-rows.mjs): the forced cells as the released guide's own fill.sh prints them over the translation 9531c4822fa86430… (all of the seat's roots in one cut). By AI agents, Wed Nov 11 2026. No macro, syntax, notation, axiom, sorry.
-/
import Derived.Test.YteenppbpjdldgaaChecked
import GoSem.Claim
import GoSem.ClaimJoined
import GoSem.ClaimMapViews
import Derived.JoinedTies
import Derived.KernelRfl
namespace Go.Proofs.Yteenppbpjdldgaa
/- THE CELL 'sum', in the pinned program and in every row, IS THE sha256 OF THE DUMP (.gsa) THAT YteenppbpjdldgaaProg.lean LOADS. Nothing in Lean hashes anything: it is a label: what it is worth is what the hold of that sum in a sandbox is worth. -/
noncomputable def Try.pinned : Pinned := { name := "yteenppbpjdldgaa", sum := "9531c4822fa86430f8d370b4524525be42dad91b961d385b868f38e9e17fd6fc", checked := Try.checked }
namespace Rows
def none {H : Type} : Left H := { results := [], args := [] }

/-- 'fenestralaw.ParseFeeds': WHATEVER THE INPUT: true; the input reads as it did. -/
def parseFeedsSpec : ChangeSpec := { name := "parseFeeds", fn := fun _ => fun
  | [d1, d2] => { results := [.lit (.bool true)], args := [d1, d2] }
  | _ => none }
def parseFeedsRow : OpenClaim := { program := "yteenppbpjdldgaa", sum := "9531c4822fa86430f8d370b4524525be42dad91b961d385b868f38e9e17fd6fc", func := "fenestra/fenestralaw.ParseFeeds", spec := "parseFeeds", unfollowed := true, recurses := true, apart := false }
def ParseFeedsSaid : Prop := parseFeedsRow.holds Try.pinned (OpenSpec.ofChange parseFeedsSpec)

/-- ITS FALSE NEIGHBOUR: 'it returns false'. Refute it at one input. -/
def parseFeedsWrong : ChangeSpec := { name := "parseFeeds", fn := fun _ => fun
  | [d1, d2] => { results := [.lit (.bool false)], args := [d1, d2] }
  | _ => none }
def ParseFeedsWrongFalsely : Prop := parseFeedsRow.holds Try.pinned (OpenSpec.ofChange parseFeedsWrong)

/-- 'fenestrakeep.ParseParts': WHATEVER THE INPUT: true; the input reads as it did. -/
def parsePartsSpec : ChangeSpec := { name := "parseParts", fn := fun _ => fun
  | [d1, d2, d3] => { results := [.lit (.bool true)], args := [d1, d2, d3] }
  | _ => none }
def parsePartsRow : OpenClaim := { program := "yteenppbpjdldgaa", sum := "9531c4822fa86430f8d370b4524525be42dad91b961d385b868f38e9e17fd6fc", func := "fenestra/fenestrakeep.ParseParts", spec := "parseParts", apart := false }
def ParsePartsSaid : Prop := parsePartsRow.holds Try.pinned (OpenSpec.ofChange parsePartsSpec)

/-- ITS FALSE NEIGHBOUR: 'it returns false'. Refute it at one input. -/
def parsePartsWrong : ChangeSpec := { name := "parseParts", fn := fun _ => fun
  | [d1, d2, d3] => { results := [.lit (.bool false)], args := [d1, d2, d3] }
  | _ => none }
def ParsePartsWrongFalsely : Prop := parsePartsRow.holds Try.pinned (OpenSpec.ofChange parsePartsWrong)

/-- 'fenestrakeep.ParsePlain': WHATEVER THE INPUT: true; the input reads as it did. -/
def parsePlainSpec : ChangeSpec := { name := "parsePlain", fn := fun _ => fun
  | [d] => { results := [.lit (.bool true)], args := [d] }
  | _ => none }
def parsePlainRow : OpenClaim := { program := "yteenppbpjdldgaa", sum := "9531c4822fa86430f8d370b4524525be42dad91b961d385b868f38e9e17fd6fc", func := "fenestra/fenestrakeep.ParsePlain", spec := "parsePlain", apart := false }
def ParsePlainSaid : Prop := parsePlainRow.holds Try.pinned (OpenSpec.ofChange parsePlainSpec)

/-- ITS FALSE NEIGHBOUR: 'it returns false'. Refute it at one input. -/
def parsePlainWrong : ChangeSpec := { name := "parsePlain", fn := fun _ => fun
  | [d] => { results := [.lit (.bool false)], args := [d] }
  | _ => none }
def ParsePlainWrongFalsely : Prop := parsePlainRow.holds Try.pinned (OpenSpec.ofChange parsePlainWrong)

/-- 'fenestrakeep.ParseStops': WHATEVER THE INPUT: true; the input reads as it did. -/
def parseStopsSpec : ChangeSpec := { name := "parseStops", fn := fun _ => fun
  | [d1, d2] => { results := [.lit (.bool true)], args := [d1, d2] }
  | _ => none }
def parseStopsRow : OpenClaim := { program := "yteenppbpjdldgaa", sum := "9531c4822fa86430f8d370b4524525be42dad91b961d385b868f38e9e17fd6fc", func := "fenestra/fenestrakeep.ParseStops", spec := "parseStops", apart := false }
def ParseStopsSaid : Prop := parseStopsRow.holds Try.pinned (OpenSpec.ofChange parseStopsSpec)

/-- ITS FALSE NEIGHBOUR: 'it returns false'. Refute it at one input. -/
def parseStopsWrong : ChangeSpec := { name := "parseStops", fn := fun _ => fun
  | [d1, d2] => { results := [.lit (.bool false)], args := [d1, d2] }
  | _ => none }
def ParseStopsWrongFalsely : Prop := parseStopsRow.holds Try.pinned (OpenSpec.ofChange parseStopsWrong)

/-- 'fenestralaw.GridDoes': WHATEVER THE INPUT: true; the input reads as it did. -/
def gridDoesSpec : ChangeSpec := { name := "gridDoes", fn := fun _ => fun
  | [d1, d2] => { results := [.lit (.bool true)], args := [d1, d2] }
  | _ => none }
def gridDoesRow : OpenClaim := { program := "yteenppbpjdldgaa", sum := "9531c4822fa86430f8d370b4524525be42dad91b961d385b868f38e9e17fd6fc", func := "fenestra/fenestralaw.GridDoes", spec := "gridDoes", unfollowed := true, recurses := true, apart := false }
def GridDoesSaid : Prop := gridDoesRow.holds Try.pinned (OpenSpec.ofChange gridDoesSpec)

/-- ITS FALSE NEIGHBOUR: 'it returns false'. Refute it at one input. -/
def gridDoesWrong : ChangeSpec := { name := "gridDoes", fn := fun _ => fun
  | [d1, d2] => { results := [.lit (.bool false)], args := [d1, d2] }
  | _ => none }
def GridDoesWrongFalsely : Prop := gridDoesRow.holds Try.pinned (OpenSpec.ofChange gridDoesWrong)

/-- 'fenestralaw.GridSizes': WHATEVER THE INPUT: true; the input reads as it did. -/
def gridSizesSpec : ChangeSpec := { name := "gridSizes", fn := fun _ => fun
  | [d1, d2, d3, d4, d5, d6] => { results := [.lit (.bool true)], args := [d1, d2, d3, d4, d5, d6] }
  | _ => none }
def gridSizesRow : OpenClaim := { program := "yteenppbpjdldgaa", sum := "9531c4822fa86430f8d370b4524525be42dad91b961d385b868f38e9e17fd6fc", func := "fenestra/fenestralaw.GridSizes", spec := "gridSizes", unfollowed := true, recurses := true, apart := false }
def GridSizesSaid : Prop := gridSizesRow.holds Try.pinned (OpenSpec.ofChange gridSizesSpec)

/-- ITS FALSE NEIGHBOUR: 'it returns false'. Refute it at one input. -/
def gridSizesWrong : ChangeSpec := { name := "gridSizes", fn := fun _ => fun
  | [d1, d2, d3, d4, d5, d6] => { results := [.lit (.bool false)], args := [d1, d2, d3, d4, d5, d6] }
  | _ => none }
def GridSizesWrongFalsely : Prop := gridSizesRow.holds Try.pinned (OpenSpec.ofChange gridSizesWrong)

/-- 'fenestralaw.GridAll': WHATEVER THE INPUT: true; the input reads as it did. -/
def gridAllSpec : ChangeSpec := { name := "gridAll", fn := fun _ => fun
  | [d1, d2] => { results := [.lit (.bool true)], args := [d1, d2] }
  | _ => none }
def gridAllRow : OpenClaim := { program := "yteenppbpjdldgaa", sum := "9531c4822fa86430f8d370b4524525be42dad91b961d385b868f38e9e17fd6fc", func := "fenestra/fenestralaw.GridAll", spec := "gridAll", unfollowed := true, recurses := true, apart := false }
def GridAllSaid : Prop := gridAllRow.holds Try.pinned (OpenSpec.ofChange gridAllSpec)

/-- ITS FALSE NEIGHBOUR: 'it returns false'. Refute it at one input. -/
def gridAllWrong : ChangeSpec := { name := "gridAll", fn := fun _ => fun
  | [d1, d2] => { results := [.lit (.bool false)], args := [d1, d2] }
  | _ => none }
def GridAllWrongFalsely : Prop := gridAllRow.holds Try.pinned (OpenSpec.ofChange gridAllWrong)

/-- 'fenestrakeep.GridGood': WHATEVER THE INPUT: true; the input reads as it did. -/
def gridGoodSpec : ChangeSpec := { name := "gridGood", fn := fun _ => fun
  | [d1, d2] => { results := [.lit (.bool true)], args := [d1, d2] }
  | _ => none }
def gridGoodRow : OpenClaim := { program := "yteenppbpjdldgaa", sum := "9531c4822fa86430f8d370b4524525be42dad91b961d385b868f38e9e17fd6fc", func := "fenestra/fenestrakeep.GridGood", spec := "gridGood", unfollowed := true, recurses := true, apart := false }
def GridGoodSaid : Prop := gridGoodRow.holds Try.pinned (OpenSpec.ofChange gridGoodSpec)

/-- ITS FALSE NEIGHBOUR: 'it returns false'. Refute it at one input. -/
def gridGoodWrong : ChangeSpec := { name := "gridGood", fn := fun _ => fun
  | [d1, d2] => { results := [.lit (.bool false)], args := [d1, d2] }
  | _ => none }
def GridGoodWrongFalsely : Prop := gridGoodRow.holds Try.pinned (OpenSpec.ofChange gridGoodWrong)

/-- 'fenestrakeep.GridPrints': WHATEVER THE INPUT: true; the input reads as it did. -/
def gridPrintsSpec : ChangeSpec := { name := "gridPrints", fn := fun _ => fun
  | [d1, d2] => { results := [.lit (.bool true)], args := [d1, d2] }
  | _ => none }
def gridPrintsRow : OpenClaim := { program := "yteenppbpjdldgaa", sum := "9531c4822fa86430f8d370b4524525be42dad91b961d385b868f38e9e17fd6fc", func := "fenestra/fenestrakeep.GridPrints", spec := "gridPrints", unfollowed := true, recurses := true, apart := false }
def GridPrintsSaid : Prop := gridPrintsRow.holds Try.pinned (OpenSpec.ofChange gridPrintsSpec)

/-- ITS FALSE NEIGHBOUR: 'it returns false'. Refute it at one input. -/
def gridPrintsWrong : ChangeSpec := { name := "gridPrints", fn := fun _ => fun
  | [d1, d2] => { results := [.lit (.bool false)], args := [d1, d2] }
  | _ => none }
def GridPrintsWrongFalsely : Prop := gridPrintsRow.holds Try.pinned (OpenSpec.ofChange gridPrintsWrong)

/-- 'fenestrakeep.GridScrolls': WHATEVER THE INPUT: true; the input reads as it did. -/
def gridScrollsSpec : ChangeSpec := { name := "gridScrolls", fn := fun _ => fun
  | [d] => { results := [.lit (.bool true)], args := [d] }
  | _ => none }
def gridScrollsRow : OpenClaim := { program := "yteenppbpjdldgaa", sum := "9531c4822fa86430f8d370b4524525be42dad91b961d385b868f38e9e17fd6fc", func := "fenestra/fenestrakeep.GridScrolls", spec := "gridScrolls", unfollowed := true, recurses := true, apart := false }
def GridScrollsSaid : Prop := gridScrollsRow.holds Try.pinned (OpenSpec.ofChange gridScrollsSpec)

/-- ITS FALSE NEIGHBOUR: 'it returns false'. Refute it at one input. -/
def gridScrollsWrong : ChangeSpec := { name := "gridScrolls", fn := fun _ => fun
  | [d] => { results := [.lit (.bool false)], args := [d] }
  | _ => none }
def GridScrollsWrongFalsely : Prop := gridScrollsRow.holds Try.pinned (OpenSpec.ofChange gridScrollsWrong)

/-- 'fenestrakeep.GridRegion': WHATEVER THE INPUT: true; the input reads as it did. -/
def gridRegionSpec : ChangeSpec := { name := "gridRegion", fn := fun _ => fun
  | [d1, d2] => { results := [.lit (.bool true)], args := [d1, d2] }
  | _ => none }
def gridRegionRow : OpenClaim := { program := "yteenppbpjdldgaa", sum := "9531c4822fa86430f8d370b4524525be42dad91b961d385b868f38e9e17fd6fc", func := "fenestra/fenestrakeep.GridRegion", spec := "gridRegion", unfollowed := true, recurses := true, apart := false }
def GridRegionSaid : Prop := gridRegionRow.holds Try.pinned (OpenSpec.ofChange gridRegionSpec)

/-- ITS FALSE NEIGHBOUR: 'it returns false'. Refute it at one input. -/
def gridRegionWrong : ChangeSpec := { name := "gridRegion", fn := fun _ => fun
  | [d1, d2] => { results := [.lit (.bool false)], args := [d1, d2] }
  | _ => none }
def GridRegionWrongFalsely : Prop := gridRegionRow.holds Try.pinned (OpenSpec.ofChange gridRegionWrong)

/-- 'fenestrakeep.GridErases': WHATEVER THE INPUT: true; the input reads as it did. -/
def gridErasesSpec : ChangeSpec := { name := "gridErases", fn := fun _ => fun
  | [d1, d2] => { results := [.lit (.bool true)], args := [d1, d2] }
  | _ => none }
def gridErasesRow : OpenClaim := { program := "yteenppbpjdldgaa", sum := "9531c4822fa86430f8d370b4524525be42dad91b961d385b868f38e9e17fd6fc", func := "fenestra/fenestrakeep.GridErases", spec := "gridErases", unfollowed := true, recurses := true, apart := false }
def GridErasesSaid : Prop := gridErasesRow.holds Try.pinned (OpenSpec.ofChange gridErasesSpec)

/-- ITS FALSE NEIGHBOUR: 'it returns false'. Refute it at one input. -/
def gridErasesWrong : ChangeSpec := { name := "gridErases", fn := fun _ => fun
  | [d1, d2] => { results := [.lit (.bool false)], args := [d1, d2] }
  | _ => none }
def GridErasesWrongFalsely : Prop := gridErasesRow.holds Try.pinned (OpenSpec.ofChange gridErasesWrong)

/- THE SECOND FORM. 'bulk': how many values and letters a reading holds, each counted each time it is reached (what is shared counts as often as it is met; a slice's spare places count too). A statement '..UptoSaid' is the law's where the arguments, and the package variables that the reading takes, are together of bulk at most 1048576: NARROWER than '..Said'. Prove '..Said' where nothing that the law and all that it calls make is longer than what came in: it says more and counts as full. Else prove '..UptoSaid'. A law counts once. -/
mutual
def uptoBulk {H : Type} : DataW H → Nat
  | .lit (.string bytes) => bytes.length + 1
  | .lit _ => 1
  | .nil => 1
  | .ptr d => uptoBulk d + 1
  | .slice elems spare => uptoBulkAll elems + uptoBulkAll spare + 1
  | .agg parts => uptoBulkAll parts + 1
  | .iface _ d => uptoBulk d + 1
  | .map entries => uptoBulkEntries entries + 1
  | .held _ => 1
def uptoBulkAll {H : Type} : List (DataW H) → Nat
  | [] => 0
  | d :: r => uptoBulk d + uptoBulkAll r
def uptoBulkEntries {H : Type} : List (Lit × DataW H) → Nat
  | [] => 0
  | x :: r => uptoBulkEntry x + uptoBulkEntries r
def uptoBulkEntry {H : Type} : Lit × DataW H → Nat
  | (.string bytes, d) => bytes.length + uptoBulk d + 1
  | (_, d) => uptoBulk d + 1
 end
def uptoSmall : (H : Type) → List (DataW H) → Bool := fun _ ds => decide (uptoBulkAll ds ≤ 1048576)
def OpenSpec.upto (s : _root_.Go.ChangeSpec) : _root_.Go.OpenSpec := { _root_.Go.OpenSpec.ofChange s with cond := some uptoSmall }

/-- 'fenestralaw.ParseFeeds', WHERE WHAT IT READS IS OF BULK AT MOST 1048576: true; the input reads as it did. -/
def parseFeedsUptoRow : OpenClaim := { program := "yteenppbpjdldgaa", sum := "9531c4822fa86430f8d370b4524525be42dad91b961d385b868f38e9e17fd6fc", func := "fenestra/fenestralaw.ParseFeeds", spec := "parseFeeds", unfollowed := true, recurses := true, apart := false, narrowed := true }
def ParseFeedsUptoSaid : Prop := parseFeedsUptoRow.holds Try.pinned (OpenSpec.upto parseFeedsSpec)

/-- 'fenestrakeep.ParseParts', WHERE WHAT IT READS IS OF BULK AT MOST 1048576: true; the input reads as it did. -/
def parsePartsUptoRow : OpenClaim := { program := "yteenppbpjdldgaa", sum := "9531c4822fa86430f8d370b4524525be42dad91b961d385b868f38e9e17fd6fc", func := "fenestra/fenestrakeep.ParseParts", spec := "parseParts", apart := false, narrowed := true }
def ParsePartsUptoSaid : Prop := parsePartsUptoRow.holds Try.pinned (OpenSpec.upto parsePartsSpec)

/-- 'fenestrakeep.ParsePlain', WHERE WHAT IT READS IS OF BULK AT MOST 1048576: true; the input reads as it did. -/
def parsePlainUptoRow : OpenClaim := { program := "yteenppbpjdldgaa", sum := "9531c4822fa86430f8d370b4524525be42dad91b961d385b868f38e9e17fd6fc", func := "fenestra/fenestrakeep.ParsePlain", spec := "parsePlain", apart := false, narrowed := true }
def ParsePlainUptoSaid : Prop := parsePlainUptoRow.holds Try.pinned (OpenSpec.upto parsePlainSpec)

/-- 'fenestrakeep.ParseStops', WHERE WHAT IT READS IS OF BULK AT MOST 1048576: true; the input reads as it did. -/
def parseStopsUptoRow : OpenClaim := { program := "yteenppbpjdldgaa", sum := "9531c4822fa86430f8d370b4524525be42dad91b961d385b868f38e9e17fd6fc", func := "fenestra/fenestrakeep.ParseStops", spec := "parseStops", apart := false, narrowed := true }
def ParseStopsUptoSaid : Prop := parseStopsUptoRow.holds Try.pinned (OpenSpec.upto parseStopsSpec)

/-- 'fenestralaw.GridDoes', WHERE WHAT IT READS IS OF BULK AT MOST 1048576: true; the input reads as it did. -/
def gridDoesUptoRow : OpenClaim := { program := "yteenppbpjdldgaa", sum := "9531c4822fa86430f8d370b4524525be42dad91b961d385b868f38e9e17fd6fc", func := "fenestra/fenestralaw.GridDoes", spec := "gridDoes", unfollowed := true, recurses := true, apart := false, narrowed := true }
def GridDoesUptoSaid : Prop := gridDoesUptoRow.holds Try.pinned (OpenSpec.upto gridDoesSpec)

/-- 'fenestralaw.GridSizes', WHERE WHAT IT READS IS OF BULK AT MOST 1048576: true; the input reads as it did. -/
def gridSizesUptoRow : OpenClaim := { program := "yteenppbpjdldgaa", sum := "9531c4822fa86430f8d370b4524525be42dad91b961d385b868f38e9e17fd6fc", func := "fenestra/fenestralaw.GridSizes", spec := "gridSizes", unfollowed := true, recurses := true, apart := false, narrowed := true }
def GridSizesUptoSaid : Prop := gridSizesUptoRow.holds Try.pinned (OpenSpec.upto gridSizesSpec)

/-- 'fenestralaw.GridAll', WHERE WHAT IT READS IS OF BULK AT MOST 1048576: true; the input reads as it did. -/
def gridAllUptoRow : OpenClaim := { program := "yteenppbpjdldgaa", sum := "9531c4822fa86430f8d370b4524525be42dad91b961d385b868f38e9e17fd6fc", func := "fenestra/fenestralaw.GridAll", spec := "gridAll", unfollowed := true, recurses := true, apart := false, narrowed := true }
def GridAllUptoSaid : Prop := gridAllUptoRow.holds Try.pinned (OpenSpec.upto gridAllSpec)

/-- 'fenestrakeep.GridGood', WHERE WHAT IT READS IS OF BULK AT MOST 1048576: true; the input reads as it did. -/
def gridGoodUptoRow : OpenClaim := { program := "yteenppbpjdldgaa", sum := "9531c4822fa86430f8d370b4524525be42dad91b961d385b868f38e9e17fd6fc", func := "fenestra/fenestrakeep.GridGood", spec := "gridGood", unfollowed := true, recurses := true, apart := false, narrowed := true }
def GridGoodUptoSaid : Prop := gridGoodUptoRow.holds Try.pinned (OpenSpec.upto gridGoodSpec)

/-- 'fenestrakeep.GridPrints', WHERE WHAT IT READS IS OF BULK AT MOST 1048576: true; the input reads as it did. -/
def gridPrintsUptoRow : OpenClaim := { program := "yteenppbpjdldgaa", sum := "9531c4822fa86430f8d370b4524525be42dad91b961d385b868f38e9e17fd6fc", func := "fenestra/fenestrakeep.GridPrints", spec := "gridPrints", unfollowed := true, recurses := true, apart := false, narrowed := true }
def GridPrintsUptoSaid : Prop := gridPrintsUptoRow.holds Try.pinned (OpenSpec.upto gridPrintsSpec)

/-- 'fenestrakeep.GridScrolls', WHERE WHAT IT READS IS OF BULK AT MOST 1048576: true; the input reads as it did. -/
def gridScrollsUptoRow : OpenClaim := { program := "yteenppbpjdldgaa", sum := "9531c4822fa86430f8d370b4524525be42dad91b961d385b868f38e9e17fd6fc", func := "fenestra/fenestrakeep.GridScrolls", spec := "gridScrolls", unfollowed := true, recurses := true, apart := false, narrowed := true }
def GridScrollsUptoSaid : Prop := gridScrollsUptoRow.holds Try.pinned (OpenSpec.upto gridScrollsSpec)

/-- 'fenestrakeep.GridRegion', WHERE WHAT IT READS IS OF BULK AT MOST 1048576: true; the input reads as it did. -/
def gridRegionUptoRow : OpenClaim := { program := "yteenppbpjdldgaa", sum := "9531c4822fa86430f8d370b4524525be42dad91b961d385b868f38e9e17fd6fc", func := "fenestra/fenestrakeep.GridRegion", spec := "gridRegion", unfollowed := true, recurses := true, apart := false, narrowed := true }
def GridRegionUptoSaid : Prop := gridRegionUptoRow.holds Try.pinned (OpenSpec.upto gridRegionSpec)

/-- 'fenestrakeep.GridErases', WHERE WHAT IT READS IS OF BULK AT MOST 1048576: true; the input reads as it did. -/
def gridErasesUptoRow : OpenClaim := { program := "yteenppbpjdldgaa", sum := "9531c4822fa86430f8d370b4524525be42dad91b961d385b868f38e9e17fd6fc", func := "fenestra/fenestrakeep.GridErases", spec := "gridErases", unfollowed := true, recurses := true, apart := false, narrowed := true }
def GridErasesUptoSaid : Prop := gridErasesUptoRow.holds Try.pinned (OpenSpec.upto gridErasesSpec)

end Rows
end Go.Proofs.Yteenppbpjdldgaa
