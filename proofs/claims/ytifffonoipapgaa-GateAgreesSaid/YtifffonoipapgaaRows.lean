/-
  No cell of these rows narrows 'for every input' (looked for: loops, veiled, ifaces, maps, wideKeys, modest, calm, conditions, laid).
  DERIVED. THE GIVEN ROWS OF THIS SEAT. 12 by the template 'for every input the law returns true; each argument reads behind the call as it read before'; 0 by the template 'total and deterministic' (their statements: YtifffonoipapgaaTotals.lean).
  GIVEN WITH THE SEED: the statements are not yours to turn. If you find one false, say at which input.
  Laid BY PROGRAM, IN A SANDBOX (cutbox-rows.mjs): the forced cells as the released guide's own fill.sh prints them over the translation a96dfacd0f8c1d2d… (all of the seat's roots in one cut). By AI agents, Wed Nov 11 2026. No macro, syntax, notation, axiom, sorry.
-/
import Derived.Test.YtifffonoipapgaaChecked
import GoSem.Claim
import GoSem.ClaimJoined
import GoSem.ClaimMapViews
import Derived.JoinedTies
import Derived.KernelRfl
namespace Go.Proofs.Ytifffonoipapgaa
/- THE CELL 'sum', in the pinned program and in every row, IS THE sha256 OF THE DUMP (.gsa) THAT YtifffonoipapgaaProg.lean LOADS. Nothing in Lean hashes anything: it is a label: what it is worth is what the hold of that sum in a sandbox is worth. -/
noncomputable def Try.pinned : Pinned := { name := "ytifffonoipapgaa", sum := "a96dfacd0f8c1d2d98b386fc776abab549e149295ad2661bc702fae10814a447", checked := Try.checked }
namespace Rows
def none {H : Type} : Left H := { results := [], args := [] }

/-- 'staddlelaw01.GateChecks': WHATEVER THE INPUT: true; the input reads as it did. -/
def gateChecksSpec : ChangeSpec := { name := "gateChecks", fn := fun _ => fun
  | [d1, d2, d3] => { results := [.lit (.bool true)], args := [d1, d2, d3] }
  | _ => none }
def gateChecksRow : OpenClaim := { program := "ytifffonoipapgaa", sum := "a96dfacd0f8c1d2d98b386fc776abab549e149295ad2661bc702fae10814a447", func := "staddle/staddlelaw01.GateChecks", spec := "gateChecks", unfollowed := true, recurses := true, apart := false }
def GateChecksSaid : Prop := gateChecksRow.holds Try.pinned (OpenSpec.ofChange gateChecksSpec)

/-- ITS FALSE NEIGHBOUR: 'it returns false'. Refute it at one input. -/
def gateChecksWrong : ChangeSpec := { name := "gateChecks", fn := fun _ => fun
  | [d1, d2, d3] => { results := [.lit (.bool false)], args := [d1, d2, d3] }
  | _ => none }
def GateChecksWrongFalsely : Prop := gateChecksRow.holds Try.pinned (OpenSpec.ofChange gateChecksWrong)

/-- 'staddlelaw01.GateLets': WHATEVER THE INPUT: true; the input reads as it did. -/
def gateLetsSpec : ChangeSpec := { name := "gateLets", fn := fun _ => fun
  | [d1, d2, d3, d4, d5] => { results := [.lit (.bool true)], args := [d1, d2, d3, d4, d5] }
  | _ => none }
def gateLetsRow : OpenClaim := { program := "ytifffonoipapgaa", sum := "a96dfacd0f8c1d2d98b386fc776abab549e149295ad2661bc702fae10814a447", func := "staddle/staddlelaw01.GateLets", spec := "gateLets", unfollowed := true, recurses := true, apart := false }
def GateLetsSaid : Prop := gateLetsRow.holds Try.pinned (OpenSpec.ofChange gateLetsSpec)

/-- ITS FALSE NEIGHBOUR: 'it returns false'. Refute it at one input. -/
def gateLetsWrong : ChangeSpec := { name := "gateLets", fn := fun _ => fun
  | [d1, d2, d3, d4, d5] => { results := [.lit (.bool false)], args := [d1, d2, d3, d4, d5] }
  | _ => none }
def GateLetsWrongFalsely : Prop := gateLetsRow.holds Try.pinned (OpenSpec.ofChange gateLetsWrong)

/-- 'staddlelaw01.GateBounds': WHATEVER THE INPUT: true; the input reads as it did. -/
def gateBoundsSpec : ChangeSpec := { name := "gateBounds", fn := fun _ => fun
  | [d1, d2, d3] => { results := [.lit (.bool true)], args := [d1, d2, d3] }
  | _ => none }
def gateBoundsRow : OpenClaim := { program := "ytifffonoipapgaa", sum := "a96dfacd0f8c1d2d98b386fc776abab549e149295ad2661bc702fae10814a447", func := "staddle/staddlelaw01.GateBounds", spec := "gateBounds", unfollowed := true, recurses := true, apart := false }
def GateBoundsSaid : Prop := gateBoundsRow.holds Try.pinned (OpenSpec.ofChange gateBoundsSpec)

/-- ITS FALSE NEIGHBOUR: 'it returns false'. Refute it at one input. -/
def gateBoundsWrong : ChangeSpec := { name := "gateBounds", fn := fun _ => fun
  | [d1, d2, d3] => { results := [.lit (.bool false)], args := [d1, d2, d3] }
  | _ => none }
def GateBoundsWrongFalsely : Prop := gateBoundsRow.holds Try.pinned (OpenSpec.ofChange gateBoundsWrong)

/-- 'staddlelaw01.GateAgrees': WHATEVER THE INPUT: true; the input reads as it did. -/
def gateAgreesSpec : ChangeSpec := { name := "gateAgrees", fn := fun _ => fun
  | [d1, d2, d3] => { results := [.lit (.bool true)], args := [d1, d2, d3] }
  | _ => none }
def gateAgreesRow : OpenClaim := { program := "ytifffonoipapgaa", sum := "a96dfacd0f8c1d2d98b386fc776abab549e149295ad2661bc702fae10814a447", func := "staddle/staddlelaw01.GateAgrees", spec := "gateAgrees", unfollowed := true, recurses := true, apart := false }
def GateAgreesSaid : Prop := gateAgreesRow.holds Try.pinned (OpenSpec.ofChange gateAgreesSpec)

/-- ITS FALSE NEIGHBOUR: 'it returns false'. Refute it at one input. -/
def gateAgreesWrong : ChangeSpec := { name := "gateAgrees", fn := fun _ => fun
  | [d1, d2, d3] => { results := [.lit (.bool false)], args := [d1, d2, d3] }
  | _ => none }
def GateAgreesWrongFalsely : Prop := gateAgreesRow.holds Try.pinned (OpenSpec.ofChange gateAgreesWrong)

/-- 'staddlelaw01.GateGrades': WHATEVER THE INPUT: true; the input reads as it did. -/
def gateGradesSpec : ChangeSpec := { name := "gateGrades", fn := fun _ => fun
  | [d1, d2, d3] => { results := [.lit (.bool true)], args := [d1, d2, d3] }
  | _ => none }
def gateGradesRow : OpenClaim := { program := "ytifffonoipapgaa", sum := "a96dfacd0f8c1d2d98b386fc776abab549e149295ad2661bc702fae10814a447", func := "staddle/staddlelaw01.GateGrades", spec := "gateGrades", unfollowed := true, recurses := true, apart := false }
def GateGradesSaid : Prop := gateGradesRow.holds Try.pinned (OpenSpec.ofChange gateGradesSpec)

/-- ITS FALSE NEIGHBOUR: 'it returns false'. Refute it at one input. -/
def gateGradesWrong : ChangeSpec := { name := "gateGrades", fn := fun _ => fun
  | [d1, d2, d3] => { results := [.lit (.bool false)], args := [d1, d2, d3] }
  | _ => none }
def GateGradesWrongFalsely : Prop := gateGradesRow.holds Try.pinned (OpenSpec.ofChange gateGradesWrong)

/-- 'staddlelaw01.GateTold': WHATEVER THE INPUT: true; the input reads as it did. -/
def gateToldSpec : ChangeSpec := { name := "gateTold", fn := fun _ => fun
  | [d1, d2, d3] => { results := [.lit (.bool true)], args := [d1, d2, d3] }
  | _ => none }
def gateToldRow : OpenClaim := { program := "ytifffonoipapgaa", sum := "a96dfacd0f8c1d2d98b386fc776abab549e149295ad2661bc702fae10814a447", func := "staddle/staddlelaw01.GateTold", spec := "gateTold", unfollowed := true, recurses := true, apart := false }
def GateToldSaid : Prop := gateToldRow.holds Try.pinned (OpenSpec.ofChange gateToldSpec)

/-- ITS FALSE NEIGHBOUR: 'it returns false'. Refute it at one input. -/
def gateToldWrong : ChangeSpec := { name := "gateTold", fn := fun _ => fun
  | [d1, d2, d3] => { results := [.lit (.bool false)], args := [d1, d2, d3] }
  | _ => none }
def GateToldWrongFalsely : Prop := gateToldRow.holds Try.pinned (OpenSpec.ofChange gateToldWrong)

/-- 'staddlelaw01.GateMore': WHATEVER THE INPUT: true; the input reads as it did. -/
def gateMoreSpec : ChangeSpec := { name := "gateMore", fn := fun _ => fun
  | [d1, d2] => { results := [.lit (.bool true)], args := [d1, d2] }
  | _ => none }
def gateMoreRow : OpenClaim := { program := "ytifffonoipapgaa", sum := "a96dfacd0f8c1d2d98b386fc776abab549e149295ad2661bc702fae10814a447", func := "staddle/staddlelaw01.GateMore", spec := "gateMore", unfollowed := true, recurses := true, apart := false }
def GateMoreSaid : Prop := gateMoreRow.holds Try.pinned (OpenSpec.ofChange gateMoreSpec)

/-- ITS FALSE NEIGHBOUR: 'it returns false'. Refute it at one input. -/
def gateMoreWrong : ChangeSpec := { name := "gateMore", fn := fun _ => fun
  | [d1, d2] => { results := [.lit (.bool false)], args := [d1, d2] }
  | _ => none }
def GateMoreWrongFalsely : Prop := gateMoreRow.holds Try.pinned (OpenSpec.ofChange gateMoreWrong)

/-- 'staddlelaw01.GateClashed': WHATEVER THE INPUT: true; the input reads as it did. -/
def gateClashedSpec : ChangeSpec := { name := "gateClashed", fn := fun _ => fun
  | [d1, d2, d3] => { results := [.lit (.bool true)], args := [d1, d2, d3] }
  | _ => none }
def gateClashedRow : OpenClaim := { program := "ytifffonoipapgaa", sum := "a96dfacd0f8c1d2d98b386fc776abab549e149295ad2661bc702fae10814a447", func := "staddle/staddlelaw01.GateClashed", spec := "gateClashed", inPlace := ["slices.overlaps[int]"], unfollowed := true, recurses := true, apart := false }
def GateClashedSaid : Prop := gateClashedRow.holds Try.pinned (OpenSpec.ofChange gateClashedSpec)

/-- ITS FALSE NEIGHBOUR: 'it returns false'. Refute it at one input. -/
def gateClashedWrong : ChangeSpec := { name := "gateClashed", fn := fun _ => fun
  | [d1, d2, d3] => { results := [.lit (.bool false)], args := [d1, d2, d3] }
  | _ => none }
def GateClashedWrongFalsely : Prop := gateClashedRow.holds Try.pinned (OpenSpec.ofChange gateClashedWrong)

/-- 'staddlelaw01.GateSure': WHATEVER THE INPUT: true; the input reads as it did. -/
def gateSureSpec : ChangeSpec := { name := "gateSure", fn := fun _ => fun
  | [d1, d2] => { results := [.lit (.bool true)], args := [d1, d2] }
  | _ => none }
def gateSureRow : OpenClaim := { program := "ytifffonoipapgaa", sum := "a96dfacd0f8c1d2d98b386fc776abab549e149295ad2661bc702fae10814a447", func := "staddle/staddlelaw01.GateSure", spec := "gateSure", unfollowed := true, recurses := true, apart := false }
def GateSureSaid : Prop := gateSureRow.holds Try.pinned (OpenSpec.ofChange gateSureSpec)

/-- ITS FALSE NEIGHBOUR: 'it returns false'. Refute it at one input. -/
def gateSureWrong : ChangeSpec := { name := "gateSure", fn := fun _ => fun
  | [d1, d2] => { results := [.lit (.bool false)], args := [d1, d2] }
  | _ => none }
def GateSureWrongFalsely : Prop := gateSureRow.holds Try.pinned (OpenSpec.ofChange gateSureWrong)

/-- 'staddlelaw01.GateWider': WHATEVER THE INPUT: true; the input reads as it did. -/
def gateWiderSpec : ChangeSpec := { name := "gateWider", fn := fun _ => fun
  | [d1, d2, d3] => { results := [.lit (.bool true)], args := [d1, d2, d3] }
  | _ => none }
def gateWiderRow : OpenClaim := { program := "ytifffonoipapgaa", sum := "a96dfacd0f8c1d2d98b386fc776abab549e149295ad2661bc702fae10814a447", func := "staddle/staddlelaw01.GateWider", spec := "gateWider", unfollowed := true, recurses := true, apart := false }
def GateWiderSaid : Prop := gateWiderRow.holds Try.pinned (OpenSpec.ofChange gateWiderSpec)

/-- ITS FALSE NEIGHBOUR: 'it returns false'. Refute it at one input. -/
def gateWiderWrong : ChangeSpec := { name := "gateWider", fn := fun _ => fun
  | [d1, d2, d3] => { results := [.lit (.bool false)], args := [d1, d2, d3] }
  | _ => none }
def GateWiderWrongFalsely : Prop := gateWiderRow.holds Try.pinned (OpenSpec.ofChange gateWiderWrong)

/-- 'staddlelaw01.GateTwice': WHATEVER THE INPUT: true; the input reads as it did. -/
def gateTwiceSpec : ChangeSpec := { name := "gateTwice", fn := fun _ => fun
  | [d1, d2, d3, d4] => { results := [.lit (.bool true)], args := [d1, d2, d3, d4] }
  | _ => none }
def gateTwiceRow : OpenClaim := { program := "ytifffonoipapgaa", sum := "a96dfacd0f8c1d2d98b386fc776abab549e149295ad2661bc702fae10814a447", func := "staddle/staddlelaw01.GateTwice", spec := "gateTwice", inPlace := ["slices.overlaps[int]"], unfollowed := true, recurses := true, apart := false }
def GateTwiceSaid : Prop := gateTwiceRow.holds Try.pinned (OpenSpec.ofChange gateTwiceSpec)

/-- ITS FALSE NEIGHBOUR: 'it returns false'. Refute it at one input. -/
def gateTwiceWrong : ChangeSpec := { name := "gateTwice", fn := fun _ => fun
  | [d1, d2, d3, d4] => { results := [.lit (.bool false)], args := [d1, d2, d3, d4] }
  | _ => none }
def GateTwiceWrongFalsely : Prop := gateTwiceRow.holds Try.pinned (OpenSpec.ofChange gateTwiceWrong)

/-- 'staddlelaw01.GateWeighs': WHATEVER THE INPUT: true; the input reads as it did. -/
def gateWeighsSpec : ChangeSpec := { name := "gateWeighs", fn := fun _ => fun
  | [d1, d2, d3] => { results := [.lit (.bool true)], args := [d1, d2, d3] }
  | _ => none }
def gateWeighsRow : OpenClaim := { program := "ytifffonoipapgaa", sum := "a96dfacd0f8c1d2d98b386fc776abab549e149295ad2661bc702fae10814a447", func := "staddle/staddlelaw01.GateWeighs", spec := "gateWeighs", unfollowed := true, recurses := true, apart := false }
def GateWeighsSaid : Prop := gateWeighsRow.holds Try.pinned (OpenSpec.ofChange gateWeighsSpec)

/-- ITS FALSE NEIGHBOUR: 'it returns false'. Refute it at one input. -/
def gateWeighsWrong : ChangeSpec := { name := "gateWeighs", fn := fun _ => fun
  | [d1, d2, d3] => { results := [.lit (.bool false)], args := [d1, d2, d3] }
  | _ => none }
def GateWeighsWrongFalsely : Prop := gateWeighsRow.holds Try.pinned (OpenSpec.ofChange gateWeighsWrong)

/- THE SECOND FORM. 'bulk': how many values and letters a reading holds, each counted each time it is reached (what is shared counts as often as it is met; a slice's spare places count too). A statement '..UptoSaid' is the law's where the arguments, and the package variables that the reading takes, are together of bulk at most 1048576: NARROWER than '..Said'. Prove '..Said' where nothing that the law and all that it calls make is longer than what came in: it says more and counts as full. Else prove '..UptoSaid'. A law counts once. -/
mutual
def uptoBulk {H : Type} : DataW H → Nat
  | .lit (.string bytes) => bytes.length + 1
  | .lit _ => 1
  | .nil => 1
  | .ptr d => uptoBulk d + 1
  | .slice elems spare => uptoBulkAll elems + uptoBulkAll spare + 1
  | .agg parts => uptoBulkAll parts + 1
  | .iface _ d => uptoBulk d + 1
  | .map entries => uptoBulkEntries entries + 1
  | .held _ => 1
def uptoBulkAll {H : Type} : List (DataW H) → Nat
  | [] => 0
  | d :: r => uptoBulk d + uptoBulkAll r
def uptoBulkEntries {H : Type} : List (Lit × DataW H) → Nat
  | [] => 0
  | x :: r => uptoBulkEntry x + uptoBulkEntries r
def uptoBulkEntry {H : Type} : Lit × DataW H → Nat
  | (.string bytes, d) => bytes.length + uptoBulk d + 1
  | (_, d) => uptoBulk d + 1
 end
def uptoSmall : (H : Type) → List (DataW H) → Bool := fun _ ds => decide (uptoBulkAll ds ≤ 1048576)
def OpenSpec.upto (s : _root_.Go.ChangeSpec) : _root_.Go.OpenSpec := { _root_.Go.OpenSpec.ofChange s with cond := some uptoSmall }

/-- 'staddlelaw01.GateChecks', WHERE WHAT IT READS IS OF BULK AT MOST 1048576: true; the input reads as it did. -/
def gateChecksUptoRow : OpenClaim := { program := "ytifffonoipapgaa", sum := "a96dfacd0f8c1d2d98b386fc776abab549e149295ad2661bc702fae10814a447", func := "staddle/staddlelaw01.GateChecks", spec := "gateChecks", unfollowed := true, recurses := true, apart := false, narrowed := true }
def GateChecksUptoSaid : Prop := gateChecksUptoRow.holds Try.pinned (OpenSpec.upto gateChecksSpec)

/-- 'staddlelaw01.GateLets', WHERE WHAT IT READS IS OF BULK AT MOST 1048576: true; the input reads as it did. -/
def gateLetsUptoRow : OpenClaim := { program := "ytifffonoipapgaa", sum := "a96dfacd0f8c1d2d98b386fc776abab549e149295ad2661bc702fae10814a447", func := "staddle/staddlelaw01.GateLets", spec := "gateLets", unfollowed := true, recurses := true, apart := false, narrowed := true }
def GateLetsUptoSaid : Prop := gateLetsUptoRow.holds Try.pinned (OpenSpec.upto gateLetsSpec)

/-- 'staddlelaw01.GateBounds', WHERE WHAT IT READS IS OF BULK AT MOST 1048576: true; the input reads as it did. -/
def gateBoundsUptoRow : OpenClaim := { program := "ytifffonoipapgaa", sum := "a96dfacd0f8c1d2d98b386fc776abab549e149295ad2661bc702fae10814a447", func := "staddle/staddlelaw01.GateBounds", spec := "gateBounds", unfollowed := true, recurses := true, apart := false, narrowed := true }
def GateBoundsUptoSaid : Prop := gateBoundsUptoRow.holds Try.pinned (OpenSpec.upto gateBoundsSpec)

/-- 'staddlelaw01.GateAgrees', WHERE WHAT IT READS IS OF BULK AT MOST 1048576: true; the input reads as it did. -/
def gateAgreesUptoRow : OpenClaim := { program := "ytifffonoipapgaa", sum := "a96dfacd0f8c1d2d98b386fc776abab549e149295ad2661bc702fae10814a447", func := "staddle/staddlelaw01.GateAgrees", spec := "gateAgrees", unfollowed := true, recurses := true, apart := false, narrowed := true }
def GateAgreesUptoSaid : Prop := gateAgreesUptoRow.holds Try.pinned (OpenSpec.upto gateAgreesSpec)

/-- 'staddlelaw01.GateGrades', WHERE WHAT IT READS IS OF BULK AT MOST 1048576: true; the input reads as it did. -/
def gateGradesUptoRow : OpenClaim := { program := "ytifffonoipapgaa", sum := "a96dfacd0f8c1d2d98b386fc776abab549e149295ad2661bc702fae10814a447", func := "staddle/staddlelaw01.GateGrades", spec := "gateGrades", unfollowed := true, recurses := true, apart := false, narrowed := true }
def GateGradesUptoSaid : Prop := gateGradesUptoRow.holds Try.pinned (OpenSpec.upto gateGradesSpec)

/-- 'staddlelaw01.GateTold', WHERE WHAT IT READS IS OF BULK AT MOST 1048576: true; the input reads as it did. -/
def gateToldUptoRow : OpenClaim := { program := "ytifffonoipapgaa", sum := "a96dfacd0f8c1d2d98b386fc776abab549e149295ad2661bc702fae10814a447", func := "staddle/staddlelaw01.GateTold", spec := "gateTold", unfollowed := true, recurses := true, apart := false, narrowed := true }
def GateToldUptoSaid : Prop := gateToldUptoRow.holds Try.pinned (OpenSpec.upto gateToldSpec)

/-- 'staddlelaw01.GateMore', WHERE WHAT IT READS IS OF BULK AT MOST 1048576: true; the input reads as it did. -/
def gateMoreUptoRow : OpenClaim := { program := "ytifffonoipapgaa", sum := "a96dfacd0f8c1d2d98b386fc776abab549e149295ad2661bc702fae10814a447", func := "staddle/staddlelaw01.GateMore", spec := "gateMore", unfollowed := true, recurses := true, apart := false, narrowed := true }
def GateMoreUptoSaid : Prop := gateMoreUptoRow.holds Try.pinned (OpenSpec.upto gateMoreSpec)

/-- 'staddlelaw01.GateClashed', WHERE WHAT IT READS IS OF BULK AT MOST 1048576: true; the input reads as it did. -/
def gateClashedUptoRow : OpenClaim := { program := "ytifffonoipapgaa", sum := "a96dfacd0f8c1d2d98b386fc776abab549e149295ad2661bc702fae10814a447", func := "staddle/staddlelaw01.GateClashed", spec := "gateClashed", inPlace := ["slices.overlaps[int]"], unfollowed := true, recurses := true, apart := false, narrowed := true }
def GateClashedUptoSaid : Prop := gateClashedUptoRow.holds Try.pinned (OpenSpec.upto gateClashedSpec)

/-- 'staddlelaw01.GateSure', WHERE WHAT IT READS IS OF BULK AT MOST 1048576: true; the input reads as it did. -/
def gateSureUptoRow : OpenClaim := { program := "ytifffonoipapgaa", sum := "a96dfacd0f8c1d2d98b386fc776abab549e149295ad2661bc702fae10814a447", func := "staddle/staddlelaw01.GateSure", spec := "gateSure", unfollowed := true, recurses := true, apart := false, narrowed := true }
def GateSureUptoSaid : Prop := gateSureUptoRow.holds Try.pinned (OpenSpec.upto gateSureSpec)

/-- 'staddlelaw01.GateWider', WHERE WHAT IT READS IS OF BULK AT MOST 1048576: true; the input reads as it did. -/
def gateWiderUptoRow : OpenClaim := { program := "ytifffonoipapgaa", sum := "a96dfacd0f8c1d2d98b386fc776abab549e149295ad2661bc702fae10814a447", func := "staddle/staddlelaw01.GateWider", spec := "gateWider", unfollowed := true, recurses := true, apart := false, narrowed := true }
def GateWiderUptoSaid : Prop := gateWiderUptoRow.holds Try.pinned (OpenSpec.upto gateWiderSpec)

/-- 'staddlelaw01.GateTwice', WHERE WHAT IT READS IS OF BULK AT MOST 1048576: true; the input reads as it did. -/
def gateTwiceUptoRow : OpenClaim := { program := "ytifffonoipapgaa", sum := "a96dfacd0f8c1d2d98b386fc776abab549e149295ad2661bc702fae10814a447", func := "staddle/staddlelaw01.GateTwice", spec := "gateTwice", inPlace := ["slices.overlaps[int]"], unfollowed := true, recurses := true, apart := false, narrowed := true }
def GateTwiceUptoSaid : Prop := gateTwiceUptoRow.holds Try.pinned (OpenSpec.upto gateTwiceSpec)

/-- 'staddlelaw01.GateWeighs', WHERE WHAT IT READS IS OF BULK AT MOST 1048576: true; the input reads as it did. -/
def gateWeighsUptoRow : OpenClaim := { program := "ytifffonoipapgaa", sum := "a96dfacd0f8c1d2d98b386fc776abab549e149295ad2661bc702fae10814a447", func := "staddle/staddlelaw01.GateWeighs", spec := "gateWeighs", unfollowed := true, recurses := true, apart := false, narrowed := true }
def GateWeighsUptoSaid : Prop := gateWeighsUptoRow.holds Try.pinned (OpenSpec.upto gateWeighsSpec)

end Rows
end Go.Proofs.Ytifffonoipapgaa
