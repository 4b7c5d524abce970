/-
  No cell of these rows narrows 'for every input' (looked for: loops, veiled, ifaces, maps, wideKeys, modest, calm, conditions, laid).
  DERIVED. THE GIVEN ROWS OF THIS SEAT. 3 by the template 'for every input the law returns true; each argument reads behind the call as it read before'; 0 by the template 'total and deterministic' (their statements: YtidijoncngfppaaTotals.lean).
  GIVEN WITH THE SEED: the statements are not yours to turn. If you find one false, say at which input.
  Laid BY PROGRAM, IN A SANDBOX (cutbox-rows.mjs): the forced cells as the released guide's own fill.sh prints them over the translation cbf60f741296ff0d… (all of the seat's roots in one cut). By AI agents, Wed Nov 11 2026. No macro, syntax, notation, axiom, sorry.
-/
import Derived.Test.YtidijoncngfppaaChecked
import GoSem.Claim
import GoSem.ClaimJoined
import GoSem.ClaimMapViews
import Derived.JoinedTies
import Derived.KernelRfl
namespace Go.Proofs.Ytidijoncngfppaa
/- THE CELL 'sum', in the pinned program and in every row, IS THE sha256 OF THE DUMP (.gsa) THAT YtidijoncngfppaaProg.lean LOADS. Nothing in Lean hashes anything: it is a label: what it is worth is what the hold of that sum in a sandbox is worth. -/
noncomputable def Try.pinned : Pinned := { name := "ytidijoncngfppaa", sum := "cbf60f741296ff0d388972e4b51c7119bc974b4bc71c52fc1a601d203df565cb", checked := Try.checked }
namespace Rows
def none {H : Type} : Left H := { results := [], args := [] }

/-- 'fairwaylaw08.OpenForms': WHATEVER THE INPUT: true; the input reads as it did. -/
def openFormsSpec : ChangeSpec := { name := "openForms", fn := fun _ => fun
  | [d1, d2, d3] => { results := [.lit (.bool true)], args := [d1, d2, d3] }
  | _ => none }
def openFormsRow : OpenClaim := { program := "ytidijoncngfppaa", sum := "cbf60f741296ff0d388972e4b51c7119bc974b4bc71c52fc1a601d203df565cb", func := "fairway/fairwaylaw08.OpenForms", spec := "openForms", unfollowed := true, recurses := true, apart := false }
def OpenFormsSaid : Prop := openFormsRow.holds Try.pinned (OpenSpec.ofChange openFormsSpec)

/-- ITS FALSE NEIGHBOUR: 'it returns false'. Refute it at one input. -/
def openFormsWrong : ChangeSpec := { name := "openForms", fn := fun _ => fun
  | [d1, d2, d3] => { results := [.lit (.bool false)], args := [d1, d2, d3] }
  | _ => none }
def OpenFormsWrongFalsely : Prop := openFormsRow.holds Try.pinned (OpenSpec.ofChange openFormsWrong)

/-- 'fairwaylaw08.OpenReads': WHATEVER THE INPUT: true; the input reads as it did. -/
def openReadsSpec : ChangeSpec := { name := "openReads", fn := fun _ => fun
  | [d1, d2] => { results := [.lit (.bool true)], args := [d1, d2] }
  | _ => none }
def openReadsRow : OpenClaim := { program := "ytidijoncngfppaa", sum := "cbf60f741296ff0d388972e4b51c7119bc974b4bc71c52fc1a601d203df565cb", func := "fairway/fairwaylaw08.OpenReads", spec := "openReads", unfollowed := true, recurses := true, apart := false }
def OpenReadsSaid : Prop := openReadsRow.holds Try.pinned (OpenSpec.ofChange openReadsSpec)

/-- ITS FALSE NEIGHBOUR: 'it returns false'. Refute it at one input. -/
def openReadsWrong : ChangeSpec := { name := "openReads", fn := fun _ => fun
  | [d1, d2] => { results := [.lit (.bool false)], args := [d1, d2] }
  | _ => none }
def OpenReadsWrongFalsely : Prop := openReadsRow.holds Try.pinned (OpenSpec.ofChange openReadsWrong)

/-- 'fairwaylaw08.OpenBack': WHATEVER THE INPUT: true; the input reads as it did. -/
def openBackSpec : ChangeSpec := { name := "openBack", fn := fun _ => fun
  | [d1, d2, d3] => { results := [.lit (.bool true)], args := [d1, d2, d3] }
  | _ => none }
def openBackRow : OpenClaim := { program := "ytidijoncngfppaa", sum := "cbf60f741296ff0d388972e4b51c7119bc974b4bc71c52fc1a601d203df565cb", func := "fairway/fairwaylaw08.OpenBack", spec := "openBack", unfollowed := true, recurses := true, apart := false }
def OpenBackSaid : Prop := openBackRow.holds Try.pinned (OpenSpec.ofChange openBackSpec)

/-- ITS FALSE NEIGHBOUR: 'it returns false'. Refute it at one input. -/
def openBackWrong : ChangeSpec := { name := "openBack", fn := fun _ => fun
  | [d1, d2, d3] => { results := [.lit (.bool false)], args := [d1, d2, d3] }
  | _ => none }
def OpenBackWrongFalsely : Prop := openBackRow.holds Try.pinned (OpenSpec.ofChange openBackWrong)

/- THE SECOND FORM. 'bulk': how many values and letters a reading holds, each counted each time it is reached (what is shared counts as often as it is met; a slice's spare places count too). A statement '..UptoSaid' is the law's where the arguments, and the package variables that the reading takes, are together of bulk at most 1048576: NARROWER than '..Said'. Prove '..Said' where nothing that the law and all that it calls make is longer than what came in: it says more and counts as full. Else prove '..UptoSaid'. A law counts once. -/
mutual
def uptoBulk {H : Type} : DataW H → Nat
  | .lit (.string bytes) => bytes.length + 1
  | .lit _ => 1
  | .nil => 1
  | .ptr d => uptoBulk d + 1
  | .slice elems spare => uptoBulkAll elems + uptoBulkAll spare + 1
  | .agg parts => uptoBulkAll parts + 1
  | .iface _ d => uptoBulk d + 1
  | .map entries => uptoBulkEntries entries + 1
  | .held _ => 1
def uptoBulkAll {H : Type} : List (DataW H) → Nat
  | [] => 0
  | d :: r => uptoBulk d + uptoBulkAll r
def uptoBulkEntries {H : Type} : List (Lit × DataW H) → Nat
  | [] => 0
  | x :: r => uptoBulkEntry x + uptoBulkEntries r
def uptoBulkEntry {H : Type} : Lit × DataW H → Nat
  | (.string bytes, d) => bytes.length + uptoBulk d + 1
  | (_, d) => uptoBulk d + 1
 end
def uptoSmall : (H : Type) → List (DataW H) → Bool := fun _ ds => decide (uptoBulkAll ds ≤ 1048576)
def OpenSpec.upto (s : _root_.Go.ChangeSpec) : _root_.Go.OpenSpec := { _root_.Go.OpenSpec.ofChange s with cond := some uptoSmall }

/-- 'fairwaylaw08.OpenForms', WHERE WHAT IT READS IS OF BULK AT MOST 1048576: true; the input reads as it did. -/
def openFormsUptoRow : OpenClaim := { program := "ytidijoncngfppaa", sum := "cbf60f741296ff0d388972e4b51c7119bc974b4bc71c52fc1a601d203df565cb", func := "fairway/fairwaylaw08.OpenForms", spec := "openForms", unfollowed := true, recurses := true, apart := false, narrowed := true }
def OpenFormsUptoSaid : Prop := openFormsUptoRow.holds Try.pinned (OpenSpec.upto openFormsSpec)

/-- 'fairwaylaw08.OpenReads', WHERE WHAT IT READS IS OF BULK AT MOST 1048576: true; the input reads as it did. -/
def openReadsUptoRow : OpenClaim := { program := "ytidijoncngfppaa", sum := "cbf60f741296ff0d388972e4b51c7119bc974b4bc71c52fc1a601d203df565cb", func := "fairway/fairwaylaw08.OpenReads", spec := "openReads", unfollowed := true, recurses := true, apart := false, narrowed := true }
def OpenReadsUptoSaid : Prop := openReadsUptoRow.holds Try.pinned (OpenSpec.upto openReadsSpec)

/-- 'fairwaylaw08.OpenBack', WHERE WHAT IT READS IS OF BULK AT MOST 1048576: true; the input reads as it did. -/
def openBackUptoRow : OpenClaim := { program := "ytidijoncngfppaa", sum := "cbf60f741296ff0d388972e4b51c7119bc974b4bc71c52fc1a601d203df565cb", func := "fairway/fairwaylaw08.OpenBack", spec := "openBack", unfollowed := true, recurses := true, apart := false, narrowed := true }
def OpenBackUptoSaid : Prop := openBackUptoRow.holds Try.pinned (OpenSpec.upto openBackSpec)

end Rows
end Go.Proofs.Ytidijoncngfppaa
