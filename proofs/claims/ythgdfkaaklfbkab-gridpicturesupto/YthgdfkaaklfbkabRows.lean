/-
  No cell of these rows narrows 'for every input' (looked for: loops, veiled, ifaces, maps, wideKeys, modest, calm, conditions, laid).
  DERIVED. THE GIVEN ROWS OF THIS SEAT. 2 by the template 'for every input the law returns true; each argument reads behind the call as it read before'; 0 by the template 'total and deterministic' (their statements: YthgdfkaaklfbkabTotals.lean).
  GIVEN WITH THE SEED: the statements are not yours to turn. If you find one false, say at which input.
  Laid BY PROGRAM, IN A SANDBOX (cutbox-rows.mjs): the forced cells as the released guide's own fill.sh prints them over the translation 5f40ea00edfecd37… (all of the seat's roots in one cut). By AI agents, Wed Nov 11 2026. No macro, syntax, notation, axiom, sorry.
-/
import Derived.Test.YthgdfkaaklfbkabChecked
import GoSem.Claim
import GoSem.ClaimJoined
import GoSem.ClaimMapViews
import Derived.JoinedTies
import Derived.KernelRfl
namespace Go.Proofs.Ythgdfkaaklfbkab
/- THE CELL 'sum', in the pinned program and in every row, IS THE sha256 OF THE DUMP (.gsa) THAT YthgdfkaaklfbkabProg.lean LOADS. Nothing in Lean hashes anything: it is a label: what it is worth is what the hold of that sum in a sandbox is worth. -/
noncomputable def Try.pinned : Pinned := { name := "ythgdfkaaklfbkab", sum := "5f40ea00edfecd377e1aeff496b4c4e3081717850cbfd0b77d1245e6f0699030", checked := Try.checked }
namespace Rows
def none {H : Type} : Left H := { results := [], args := [] }

/-- 'fenestrakeep.GridPictures': WHATEVER THE INPUT: true; the input reads as it did. -/
def gridPicturesSpec : ChangeSpec := { name := "gridPictures", fn := fun _ => fun
  | [d1, d2] => { results := [.lit (.bool true)], args := [d1, d2] }
  | _ => none }
def gridPicturesRow : OpenClaim := { program := "ythgdfkaaklfbkab", sum := "5f40ea00edfecd377e1aeff496b4c4e3081717850cbfd0b77d1245e6f0699030", func := "fenestra/fenestrakeep.GridPictures", spec := "gridPictures", unfollowed := true, recurses := true, apart := false }
def GridPicturesSaid : Prop := gridPicturesRow.holds Try.pinned (OpenSpec.ofChange gridPicturesSpec)

/-- ITS FALSE NEIGHBOUR: 'it returns false'. Refute it at one input. -/
def gridPicturesWrong : ChangeSpec := { name := "gridPictures", fn := fun _ => fun
  | [d1, d2] => { results := [.lit (.bool false)], args := [d1, d2] }
  | _ => none }
def GridPicturesWrongFalsely : Prop := gridPicturesRow.holds Try.pinned (OpenSpec.ofChange gridPicturesWrong)

/-- 'fenestrakeep.GridResizes': WHATEVER THE INPUT: true; the input reads as it did. -/
def gridResizesSpec : ChangeSpec := { name := "gridResizes", fn := fun _ => fun
  | [d1, d2, d3] => { results := [.lit (.bool true)], args := [d1, d2, d3] }
  | _ => none }
def gridResizesRow : OpenClaim := { program := "ythgdfkaaklfbkab", sum := "5f40ea00edfecd377e1aeff496b4c4e3081717850cbfd0b77d1245e6f0699030", func := "fenestra/fenestrakeep.GridResizes", spec := "gridResizes", unfollowed := true, recurses := true, apart := false }
def GridResizesSaid : Prop := gridResizesRow.holds Try.pinned (OpenSpec.ofChange gridResizesSpec)

/-- ITS FALSE NEIGHBOUR: 'it returns false'. Refute it at one input. -/
def gridResizesWrong : ChangeSpec := { name := "gridResizes", fn := fun _ => fun
  | [d1, d2, d3] => { results := [.lit (.bool false)], args := [d1, d2, d3] }
  | _ => none }
def GridResizesWrongFalsely : Prop := gridResizesRow.holds Try.pinned (OpenSpec.ofChange gridResizesWrong)

/- THE SECOND FORM. 'bulk': how many values and letters a reading holds, each counted each time it is reached (what is shared counts as often as it is met; a slice's spare places count too). A statement '..UptoSaid' is the law's where the arguments, and the package variables that the reading takes, are together of bulk at most 1048576: NARROWER than '..Said'. Prove '..Said' where nothing that the law and all that it calls make is longer than what came in: it says more and counts as full. Else prove '..UptoSaid'. A law counts once. -/
mutual
def uptoBulk {H : Type} : DataW H → Nat
  | .lit (.string bytes) => bytes.length + 1
  | .lit _ => 1
  | .nil => 1
  | .ptr d => uptoBulk d + 1
  | .slice elems spare => uptoBulkAll elems + uptoBulkAll spare + 1
  | .agg parts => uptoBulkAll parts + 1
  | .iface _ d => uptoBulk d + 1
  | .map entries => uptoBulkEntries entries + 1
  | .held _ => 1
def uptoBulkAll {H : Type} : List (DataW H) → Nat
  | [] => 0
  | d :: r => uptoBulk d + uptoBulkAll r
def uptoBulkEntries {H : Type} : List (Lit × DataW H) → Nat
  | [] => 0
  | x :: r => uptoBulkEntry x + uptoBulkEntries r
def uptoBulkEntry {H : Type} : Lit × DataW H → Nat
  | (.string bytes, d) => bytes.length + uptoBulk d + 1
  | (_, d) => uptoBulk d + 1
 end
def uptoSmall : (H : Type) → List (DataW H) → Bool := fun _ ds => decide (uptoBulkAll ds ≤ 1048576)
def OpenSpec.upto (s : _root_.Go.ChangeSpec) : _root_.Go.OpenSpec := { _root_.Go.OpenSpec.ofChange s with cond := some uptoSmall }

/-- 'fenestrakeep.GridPictures', WHERE WHAT IT READS IS OF BULK AT MOST 1048576: true; the input reads as it did. -/
def gridPicturesUptoRow : OpenClaim := { program := "ythgdfkaaklfbkab", sum := "5f40ea00edfecd377e1aeff496b4c4e3081717850cbfd0b77d1245e6f0699030", func := "fenestra/fenestrakeep.GridPictures", spec := "gridPictures", unfollowed := true, recurses := true, apart := false, narrowed := true }
def GridPicturesUptoSaid : Prop := gridPicturesUptoRow.holds Try.pinned (OpenSpec.upto gridPicturesSpec)

/-- 'fenestrakeep.GridResizes', WHERE WHAT IT READS IS OF BULK AT MOST 1048576: true; the input reads as it did. -/
def gridResizesUptoRow : OpenClaim := { program := "ythgdfkaaklfbkab", sum := "5f40ea00edfecd377e1aeff496b4c4e3081717850cbfd0b77d1245e6f0699030", func := "fenestra/fenestrakeep.GridResizes", spec := "gridResizes", unfollowed := true, recurses := true, apart := false, narrowed := true }
def GridResizesUptoSaid : Prop := gridResizesUptoRow.holds Try.pinned (OpenSpec.upto gridResizesSpec)

end Rows
end Go.Proofs.Ythgdfkaaklfbkab
