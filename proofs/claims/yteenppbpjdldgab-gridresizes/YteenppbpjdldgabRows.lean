/-
  No cell of these rows narrows 'for every input' (looked for: loops, veiled, ifaces, maps, wideKeys, modest, calm, conditions, laid).
  DERIVED. THE GIVEN ROWS OF THIS SEAT. 9 by the template 'for every input the law returns true; each argument reads behind the call as it read before'; 0 by the template 'total and deterministic' (their statements: YteenppbpjdldgabTotals.lean).
  GIVEN WITH THE SEED: the statements are not yours to turn. If you find one false, say at which input.
  Laid BY PROGRAM, IN A SANDBOX (cutbox-rows.mjs): the forced cells as the released guide's own fill.sh prints them over the translation 5eba36e379c5b419… (all of the seat's roots in one cut). By AI agents, Wed Nov 11 2026. No macro, syntax, notation, axiom, sorry.
-/
import Derived.Test.YteenppbpjdldgabChecked
import GoSem.Claim
import GoSem.ClaimJoined
import GoSem.ClaimMapViews
import Derived.JoinedTies
import Derived.KernelRfl
namespace Go.Proofs.Yteenppbpjdldgab
/- THE CELL 'sum', in the pinned program and in every row, IS THE sha256 OF THE DUMP (.gsa) THAT YteenppbpjdldgabProg.lean LOADS. Nothing in Lean hashes anything: it is a label: what it is worth is what the hold of that sum in a sandbox is worth. -/
noncomputable def Try.pinned : Pinned := { name := "yteenppbpjdldgab", sum := "5eba36e379c5b41959aa868ccbd5af609bfab048a959543034ef2cfb5d87f2d1", checked := Try.checked }
namespace Rows
def none {H : Type} : Left H := { results := [], args := [] }

/-- 'fenestrakeep.GridPictures': WHATEVER THE INPUT: true; the input reads as it did. -/
def gridPicturesSpec : ChangeSpec := { name := "gridPictures", fn := fun _ => fun
  | [d1, d2] => { results := [.lit (.bool true)], args := [d1, d2] }
  | _ => none }
def gridPicturesRow : OpenClaim := { program := "yteenppbpjdldgab", sum := "5eba36e379c5b41959aa868ccbd5af609bfab048a959543034ef2cfb5d87f2d1", func := "fenestra/fenestrakeep.GridPictures", spec := "gridPictures", unfollowed := true, recurses := true, apart := false }
def GridPicturesSaid : Prop := gridPicturesRow.holds Try.pinned (OpenSpec.ofChange gridPicturesSpec)

/-- ITS FALSE NEIGHBOUR: 'it returns false'. Refute it at one input. -/
def gridPicturesWrong : ChangeSpec := { name := "gridPictures", fn := fun _ => fun
  | [d1, d2] => { results := [.lit (.bool false)], args := [d1, d2] }
  | _ => none }
def GridPicturesWrongFalsely : Prop := gridPicturesRow.holds Try.pinned (OpenSpec.ofChange gridPicturesWrong)

/-- 'fenestrakeep.GridResizes': WHATEVER THE INPUT: true; the input reads as it did. -/
def gridResizesSpec : ChangeSpec := { name := "gridResizes", fn := fun _ => fun
  | [d1, d2, d3] => { results := [.lit (.bool true)], args := [d1, d2, d3] }
  | _ => none }
def gridResizesRow : OpenClaim := { program := "yteenppbpjdldgab", sum := "5eba36e379c5b41959aa868ccbd5af609bfab048a959543034ef2cfb5d87f2d1", func := "fenestra/fenestrakeep.GridResizes", spec := "gridResizes", unfollowed := true, recurses := true, apart := false }
def GridResizesSaid : Prop := gridResizesRow.holds Try.pinned (OpenSpec.ofChange gridResizesSpec)

/-- ITS FALSE NEIGHBOUR: 'it returns false'. Refute it at one input. -/
def gridResizesWrong : ChangeSpec := { name := "gridResizes", fn := fun _ => fun
  | [d1, d2, d3] => { results := [.lit (.bool false)], args := [d1, d2, d3] }
  | _ => none }
def GridResizesWrongFalsely : Prop := gridResizesRow.holds Try.pinned (OpenSpec.ofChange gridResizesWrong)

/-- 'fenestralaw.TilesSplits': WHATEVER THE INPUT: true; the input reads as it did. -/
def tilesSplitsSpec : ChangeSpec := { name := "tilesSplits", fn := fun _ => fun
  | [d1, d2, d3, d4] => { results := [.lit (.bool true)], args := [d1, d2, d3, d4] }
  | _ => none }
def tilesSplitsRow : OpenClaim := { program := "yteenppbpjdldgab", sum := "5eba36e379c5b41959aa868ccbd5af609bfab048a959543034ef2cfb5d87f2d1", func := "fenestra/fenestralaw.TilesSplits", spec := "tilesSplits", inPlace := ["slices.overlaps[[]int]", "slices.overlaps[int]"], apart := false }
def TilesSplitsSaid : Prop := tilesSplitsRow.holds Try.pinned (OpenSpec.ofChange tilesSplitsSpec)

/-- ITS FALSE NEIGHBOUR: 'it returns false'. Refute it at one input. -/
def tilesSplitsWrong : ChangeSpec := { name := "tilesSplits", fn := fun _ => fun
  | [d1, d2, d3, d4] => { results := [.lit (.bool false)], args := [d1, d2, d3, d4] }
  | _ => none }
def TilesSplitsWrongFalsely : Prop := tilesSplitsRow.holds Try.pinned (OpenSpec.ofChange tilesSplitsWrong)

/-- 'fenestralaw.TilesPlaces': WHATEVER THE INPUT: true; the input reads as it did. -/
def tilesPlacesSpec : ChangeSpec := { name := "tilesPlaces", fn := fun _ => fun
  | [d1, d2, d3, d4, d5] => { results := [.lit (.bool true)], args := [d1, d2, d3, d4, d5] }
  | _ => none }
def tilesPlacesRow : OpenClaim := { program := "yteenppbpjdldgab", sum := "5eba36e379c5b41959aa868ccbd5af609bfab048a959543034ef2cfb5d87f2d1", func := "fenestra/fenestralaw.TilesPlaces", spec := "tilesPlaces", inPlace := ["slices.overlaps[[]int]", "slices.overlaps[int]"], apart := false }
def TilesPlacesSaid : Prop := tilesPlacesRow.holds Try.pinned (OpenSpec.ofChange tilesPlacesSpec)

/-- ITS FALSE NEIGHBOUR: 'it returns false'. Refute it at one input. -/
def tilesPlacesWrong : ChangeSpec := { name := "tilesPlaces", fn := fun _ => fun
  | [d1, d2, d3, d4, d5] => { results := [.lit (.bool false)], args := [d1, d2, d3, d4, d5] }
  | _ => none }
def TilesPlacesWrongFalsely : Prop := tilesPlacesRow.holds Try.pinned (OpenSpec.ofChange tilesPlacesWrong)

/-- 'fenestrakeep.TilesApart': WHATEVER THE INPUT: true; the input reads as it did. -/
def tilesApartSpec : ChangeSpec := { name := "tilesApart", fn := fun _ => fun
  | [d1, d2, d3, d4, d5] => { results := [.lit (.bool true)], args := [d1, d2, d3, d4, d5] }
  | _ => none }
def tilesApartRow : OpenClaim := { program := "yteenppbpjdldgab", sum := "5eba36e379c5b41959aa868ccbd5af609bfab048a959543034ef2cfb5d87f2d1", func := "fenestra/fenestrakeep.TilesApart", spec := "tilesApart", inPlace := ["slices.overlaps[[]int]", "slices.overlaps[int]"], apart := false }
def TilesApartSaid : Prop := tilesApartRow.holds Try.pinned (OpenSpec.ofChange tilesApartSpec)

/-- ITS FALSE NEIGHBOUR: 'it returns false'. Refute it at one input. -/
def tilesApartWrong : ChangeSpec := { name := "tilesApart", fn := fun _ => fun
  | [d1, d2, d3, d4, d5] => { results := [.lit (.bool false)], args := [d1, d2, d3, d4, d5] }
  | _ => none }
def TilesApartWrongFalsely : Prop := tilesApartRow.holds Try.pinned (OpenSpec.ofChange tilesApartWrong)

/-- 'fenestrakeep.TilesShares': WHATEVER THE INPUT: true; the input reads as it did. -/
def tilesSharesSpec : ChangeSpec := { name := "tilesShares", fn := fun _ => fun
  | [d1, d2] => { results := [.lit (.bool true)], args := [d1, d2] }
  | _ => none }
def tilesSharesRow : OpenClaim := { program := "yteenppbpjdldgab", sum := "5eba36e379c5b41959aa868ccbd5af609bfab048a959543034ef2cfb5d87f2d1", func := "fenestra/fenestrakeep.TilesShares", spec := "tilesShares", inPlace := ["slices.overlaps[[]int]", "slices.overlaps[int]"], apart := false }
def TilesSharesSaid : Prop := tilesSharesRow.holds Try.pinned (OpenSpec.ofChange tilesSharesSpec)

/-- ITS FALSE NEIGHBOUR: 'it returns false'. Refute it at one input. -/
def tilesSharesWrong : ChangeSpec := { name := "tilesShares", fn := fun _ => fun
  | [d1, d2] => { results := [.lit (.bool false)], args := [d1, d2] }
  | _ => none }
def TilesSharesWrongFalsely : Prop := tilesSharesRow.holds Try.pinned (OpenSpec.ofChange tilesSharesWrong)

/-- 'fenestrakeep.TilesBack': WHATEVER THE INPUT: true; the input reads as it did. -/
def tilesBackSpec : ChangeSpec := { name := "tilesBack", fn := fun _ => fun
  | [d1, d2, d3, d4] => { results := [.lit (.bool true)], args := [d1, d2, d3, d4] }
  | _ => none }
def tilesBackRow : OpenClaim := { program := "yteenppbpjdldgab", sum := "5eba36e379c5b41959aa868ccbd5af609bfab048a959543034ef2cfb5d87f2d1", func := "fenestra/fenestrakeep.TilesBack", spec := "tilesBack", inPlace := ["slices.overlaps[[]int]", "slices.overlaps[int]"], apart := false }
def TilesBackSaid : Prop := tilesBackRow.holds Try.pinned (OpenSpec.ofChange tilesBackSpec)

/-- ITS FALSE NEIGHBOUR: 'it returns false'. Refute it at one input. -/
def tilesBackWrong : ChangeSpec := { name := "tilesBack", fn := fun _ => fun
  | [d1, d2, d3, d4] => { results := [.lit (.bool false)], args := [d1, d2, d3, d4] }
  | _ => none }
def TilesBackWrongFalsely : Prop := tilesBackRow.holds Try.pinned (OpenSpec.ofChange tilesBackWrong)

/-- 'fenestralaw.PaintSees': WHATEVER THE INPUT: true; the input reads as it did. -/
def paintSeesSpec : ChangeSpec := { name := "paintSees", fn := fun _ => fun
  | [d1, d2, d3] => { results := [.lit (.bool true)], args := [d1, d2, d3] }
  | _ => none }
def paintSeesRow : OpenClaim := { program := "yteenppbpjdldgab", sum := "5eba36e379c5b41959aa868ccbd5af609bfab048a959543034ef2cfb5d87f2d1", func := "fenestra/fenestralaw.PaintSees", spec := "paintSees", apart := false }
def PaintSeesSaid : Prop := paintSeesRow.holds Try.pinned (OpenSpec.ofChange paintSeesSpec)

/-- ITS FALSE NEIGHBOUR: 'it returns false'. Refute it at one input. -/
def paintSeesWrong : ChangeSpec := { name := "paintSees", fn := fun _ => fun
  | [d1, d2, d3] => { results := [.lit (.bool false)], args := [d1, d2, d3] }
  | _ => none }
def PaintSeesWrongFalsely : Prop := paintSeesRow.holds Try.pinned (OpenSpec.ofChange paintSeesWrong)

/-- 'fenestralaw.PaintScreens': WHATEVER THE INPUT: true; the input reads as it did. -/
def paintScreensSpec : ChangeSpec := { name := "paintScreens", fn := fun _ => fun
  | [d1, d2, d3] => { results := [.lit (.bool true)], args := [d1, d2, d3] }
  | _ => none }
def paintScreensRow : OpenClaim := { program := "yteenppbpjdldgab", sum := "5eba36e379c5b41959aa868ccbd5af609bfab048a959543034ef2cfb5d87f2d1", func := "fenestra/fenestralaw.PaintScreens", spec := "paintScreens", apart := false }
def PaintScreensSaid : Prop := paintScreensRow.holds Try.pinned (OpenSpec.ofChange paintScreensSpec)

/-- ITS FALSE NEIGHBOUR: 'it returns false'. Refute it at one input. -/
def paintScreensWrong : ChangeSpec := { name := "paintScreens", fn := fun _ => fun
  | [d1, d2, d3] => { results := [.lit (.bool false)], args := [d1, d2, d3] }
  | _ => none }
def PaintScreensWrongFalsely : Prop := paintScreensRow.holds Try.pinned (OpenSpec.ofChange paintScreensWrong)

/- THE SECOND FORM. 'bulk': how many values and letters a reading holds, each counted each time it is reached (what is shared counts as often as it is met; a slice's spare places count too). A statement '..UptoSaid' is the law's where the arguments, and the package variables that the reading takes, are together of bulk at most 1048576: NARROWER than '..Said'. Prove '..Said' where nothing that the law and all that it calls make is longer than what came in: it says more and counts as full. Else prove '..UptoSaid'. A law counts once. -/
mutual
def uptoBulk {H : Type} : DataW H → Nat
  | .lit (.string bytes) => bytes.length + 1
  | .lit _ => 1
  | .nil => 1
  | .ptr d => uptoBulk d + 1
  | .slice elems spare => uptoBulkAll elems + uptoBulkAll spare + 1
  | .agg parts => uptoBulkAll parts + 1
  | .iface _ d => uptoBulk d + 1
  | .map entries => uptoBulkEntries entries + 1
  | .held _ => 1
def uptoBulkAll {H : Type} : List (DataW H) → Nat
  | [] => 0
  | d :: r => uptoBulk d + uptoBulkAll r
def uptoBulkEntries {H : Type} : List (Lit × DataW H) → Nat
  | [] => 0
  | x :: r => uptoBulkEntry x + uptoBulkEntries r
def uptoBulkEntry {H : Type} : Lit × DataW H → Nat
  | (.string bytes, d) => bytes.length + uptoBulk d + 1
  | (_, d) => uptoBulk d + 1
 end
def uptoSmall : (H : Type) → List (DataW H) → Bool := fun _ ds => decide (uptoBulkAll ds ≤ 1048576)
def OpenSpec.upto (s : _root_.Go.ChangeSpec) : _root_.Go.OpenSpec := { _root_.Go.OpenSpec.ofChange s with cond := some uptoSmall }

/-- 'fenestrakeep.GridPictures', WHERE WHAT IT READS IS OF BULK AT MOST 1048576: true; the input reads as it did. -/
def gridPicturesUptoRow : OpenClaim := { program := "yteenppbpjdldgab", sum := "5eba36e379c5b41959aa868ccbd5af609bfab048a959543034ef2cfb5d87f2d1", func := "fenestra/fenestrakeep.GridPictures", spec := "gridPictures", unfollowed := true, recurses := true, apart := false, narrowed := true }
def GridPicturesUptoSaid : Prop := gridPicturesUptoRow.holds Try.pinned (OpenSpec.upto gridPicturesSpec)

/-- 'fenestrakeep.GridResizes', WHERE WHAT IT READS IS OF BULK AT MOST 1048576: true; the input reads as it did. -/
def gridResizesUptoRow : OpenClaim := { program := "yteenppbpjdldgab", sum := "5eba36e379c5b41959aa868ccbd5af609bfab048a959543034ef2cfb5d87f2d1", func := "fenestra/fenestrakeep.GridResizes", spec := "gridResizes", unfollowed := true, recurses := true, apart := false, narrowed := true }
def GridResizesUptoSaid : Prop := gridResizesUptoRow.holds Try.pinned (OpenSpec.upto gridResizesSpec)

/-- 'fenestralaw.TilesSplits', WHERE WHAT IT READS IS OF BULK AT MOST 1048576: true; the input reads as it did. -/
def tilesSplitsUptoRow : OpenClaim := { program := "yteenppbpjdldgab", sum := "5eba36e379c5b41959aa868ccbd5af609bfab048a959543034ef2cfb5d87f2d1", func := "fenestra/fenestralaw.TilesSplits", spec := "tilesSplits", inPlace := ["slices.overlaps[[]int]", "slices.overlaps[int]"], apart := false, narrowed := true }
def TilesSplitsUptoSaid : Prop := tilesSplitsUptoRow.holds Try.pinned (OpenSpec.upto tilesSplitsSpec)

/-- 'fenestralaw.TilesPlaces', WHERE WHAT IT READS IS OF BULK AT MOST 1048576: true; the input reads as it did. -/
def tilesPlacesUptoRow : OpenClaim := { program := "yteenppbpjdldgab", sum := "5eba36e379c5b41959aa868ccbd5af609bfab048a959543034ef2cfb5d87f2d1", func := "fenestra/fenestralaw.TilesPlaces", spec := "tilesPlaces", inPlace := ["slices.overlaps[[]int]", "slices.overlaps[int]"], apart := false, narrowed := true }
def TilesPlacesUptoSaid : Prop := tilesPlacesUptoRow.holds Try.pinned (OpenSpec.upto tilesPlacesSpec)

/-- 'fenestrakeep.TilesApart', WHERE WHAT IT READS IS OF BULK AT MOST 1048576: true; the input reads as it did. -/
def tilesApartUptoRow : OpenClaim := { program := "yteenppbpjdldgab", sum := "5eba36e379c5b41959aa868ccbd5af609bfab048a959543034ef2cfb5d87f2d1", func := "fenestra/fenestrakeep.TilesApart", spec := "tilesApart", inPlace := ["slices.overlaps[[]int]", "slices.overlaps[int]"], apart := false, narrowed := true }
def TilesApartUptoSaid : Prop := tilesApartUptoRow.holds Try.pinned (OpenSpec.upto tilesApartSpec)

/-- 'fenestrakeep.TilesShares', WHERE WHAT IT READS IS OF BULK AT MOST 1048576: true; the input reads as it did. -/
def tilesSharesUptoRow : OpenClaim := { program := "yteenppbpjdldgab", sum := "5eba36e379c5b41959aa868ccbd5af609bfab048a959543034ef2cfb5d87f2d1", func := "fenestra/fenestrakeep.TilesShares", spec := "tilesShares", inPlace := ["slices.overlaps[[]int]", "slices.overlaps[int]"], apart := false, narrowed := true }
def TilesSharesUptoSaid : Prop := tilesSharesUptoRow.holds Try.pinned (OpenSpec.upto tilesSharesSpec)

/-- 'fenestrakeep.TilesBack', WHERE WHAT IT READS IS OF BULK AT MOST 1048576: true; the input reads as it did. -/
def tilesBackUptoRow : OpenClaim := { program := "yteenppbpjdldgab", sum := "5eba36e379c5b41959aa868ccbd5af609bfab048a959543034ef2cfb5d87f2d1", func := "fenestra/fenestrakeep.TilesBack", spec := "tilesBack", inPlace := ["slices.overlaps[[]int]", "slices.overlaps[int]"], apart := false, narrowed := true }
def TilesBackUptoSaid : Prop := tilesBackUptoRow.holds Try.pinned (OpenSpec.upto tilesBackSpec)

/-- 'fenestralaw.PaintSees', WHERE WHAT IT READS IS OF BULK AT MOST 1048576: true; the input reads as it did. -/
def paintSeesUptoRow : OpenClaim := { program := "yteenppbpjdldgab", sum := "5eba36e379c5b41959aa868ccbd5af609bfab048a959543034ef2cfb5d87f2d1", func := "fenestra/fenestralaw.PaintSees", spec := "paintSees", apart := false, narrowed := true }
def PaintSeesUptoSaid : Prop := paintSeesUptoRow.holds Try.pinned (OpenSpec.upto paintSeesSpec)

/-- 'fenestralaw.PaintScreens', WHERE WHAT IT READS IS OF BULK AT MOST 1048576: true; the input reads as it did. -/
def paintScreensUptoRow : OpenClaim := { program := "yteenppbpjdldgab", sum := "5eba36e379c5b41959aa868ccbd5af609bfab048a959543034ef2cfb5d87f2d1", func := "fenestra/fenestralaw.PaintScreens", spec := "paintScreens", apart := false, narrowed := true }
def PaintScreensUptoSaid : Prop := paintScreensUptoRow.holds Try.pinned (OpenSpec.upto paintScreensSpec)

end Rows
end Go.Proofs.Yteenppbpjdldgab
