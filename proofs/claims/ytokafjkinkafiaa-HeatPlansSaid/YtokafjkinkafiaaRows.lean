/-
  No cell of these rows narrows 'for every input' (looked for: loops, veiled, ifaces, maps, wideKeys, modest, calm, conditions, laid).
  DERIVED. THE GIVEN ROWS OF THIS SEAT. 6 by the template 'for every input the law returns true; each argument reads behind the call as it read before'; 0 by the template 'total and deterministic' (their statements: YtokafjkinkafiaaTotals.lean).
  GIVEN WITH THE SEED: the statements are not yours to turn. If you find one false, say at which input.
  Laid BY PROGRAM, IN A SANDBOX (cutbox-rows.mjs): the forced cells as the released guide's own fill.sh prints them over the translation 64d68ad807ae24f3… (all of the seat's roots in one cut). By AI agents, Wed Nov 11 2026. No macro, syntax, notation, axiom, sorry.
-/
import Derived.Test.YtokafjkinkafiaaChecked
import GoSem.Claim
import GoSem.ClaimJoined
import GoSem.ClaimMapViews
import Derived.JoinedTies
import Derived.KernelRfl
namespace Go.Proofs.Ytokafjkinkafiaa
/- THE CELL 'sum', in the pinned program and in every row, IS THE sha256 OF THE DUMP (.gsa) THAT YtokafjkinkafiaaProg.lean LOADS. Nothing in Lean hashes anything: it is a label: what it is worth is what the hold of that sum in a sandbox is worth. -/
noncomputable def Try.pinned : Pinned := { name := "ytokafjkinkafiaa", sum := "64d68ad807ae24f36cd9627cac76f412d466238b9a86cbded0476932e1244678", checked := Try.checked }
namespace Rows
def none {H : Type} : Left H := { results := [], args := [] }

/-- 'staddlelaw04.HeatChecks': WHATEVER THE INPUT: true; the input reads as it did. -/
def heatChecksSpec : ChangeSpec := { name := "heatChecks", fn := fun _ => fun
  | [d1, d2, d3] => { results := [.lit (.bool true)], args := [d1, d2, d3] }
  | _ => none }
def heatChecksRow : OpenClaim := { program := "ytokafjkinkafiaa", sum := "64d68ad807ae24f36cd9627cac76f412d466238b9a86cbded0476932e1244678", func := "staddle/staddlelaw04.HeatChecks", spec := "heatChecks", unfollowed := true, recurses := true, plainKeys := false, apart := false }
def HeatChecksSaid : Prop := heatChecksRow.holds Try.pinned (OpenSpec.ofChange heatChecksSpec)

/-- ITS FALSE NEIGHBOUR: 'it returns false'. Refute it at one input. -/
def heatChecksWrong : ChangeSpec := { name := "heatChecks", fn := fun _ => fun
  | [d1, d2, d3] => { results := [.lit (.bool false)], args := [d1, d2, d3] }
  | _ => none }
def HeatChecksWrongFalsely : Prop := heatChecksRow.holds Try.pinned (OpenSpec.ofChange heatChecksWrong)

/-- 'staddlelaw04.HeatPlans': WHATEVER THE INPUT: true; the input reads as it did. -/
def heatPlansSpec : ChangeSpec := { name := "heatPlans", fn := fun _ => fun
  | [d1, d2, d3] => { results := [.lit (.bool true)], args := [d1, d2, d3] }
  | _ => none }
def heatPlansRow : OpenClaim := { program := "ytokafjkinkafiaa", sum := "64d68ad807ae24f36cd9627cac76f412d466238b9a86cbded0476932e1244678", func := "staddle/staddlelaw04.HeatPlans", spec := "heatPlans", unfollowed := true, recurses := true, plainKeys := false, apart := false }
def HeatPlansSaid : Prop := heatPlansRow.holds Try.pinned (OpenSpec.ofChange heatPlansSpec)

/-- ITS FALSE NEIGHBOUR: 'it returns false'. Refute it at one input. -/
def heatPlansWrong : ChangeSpec := { name := "heatPlans", fn := fun _ => fun
  | [d1, d2, d3] => { results := [.lit (.bool false)], args := [d1, d2, d3] }
  | _ => none }
def HeatPlansWrongFalsely : Prop := heatPlansRow.holds Try.pinned (OpenSpec.ofChange heatPlansWrong)

/-- 'staddlelaw04.HeatLongest': WHATEVER THE INPUT: true; the input reads as it did. -/
def heatLongestSpec : ChangeSpec := { name := "heatLongest", fn := fun _ => fun
  | [d] => { results := [.lit (.bool true)], args := [d] }
  | _ => none }
def heatLongestRow : OpenClaim := { program := "ytokafjkinkafiaa", sum := "64d68ad807ae24f36cd9627cac76f412d466238b9a86cbded0476932e1244678", func := "staddle/staddlelaw04.HeatLongest", spec := "heatLongest", unfollowed := true, recurses := true, plainKeys := false, apart := false }
def HeatLongestSaid : Prop := heatLongestRow.holds Try.pinned (OpenSpec.ofChange heatLongestSpec)

/-- ITS FALSE NEIGHBOUR: 'it returns false'. Refute it at one input. -/
def heatLongestWrong : ChangeSpec := { name := "heatLongest", fn := fun _ => fun
  | [d] => { results := [.lit (.bool false)], args := [d] }
  | _ => none }
def HeatLongestWrongFalsely : Prop := heatLongestRow.holds Try.pinned (OpenSpec.ofChange heatLongestWrong)

/-- 'staddlelaw04.HeatMore': WHATEVER THE INPUT: true; the input reads as it did. -/
def heatMoreSpec : ChangeSpec := { name := "heatMore", fn := fun _ => fun
  | [d1, d2, d3, d4] => { results := [.lit (.bool true)], args := [d1, d2, d3, d4] }
  | _ => none }
def heatMoreRow : OpenClaim := { program := "ytokafjkinkafiaa", sum := "64d68ad807ae24f36cd9627cac76f412d466238b9a86cbded0476932e1244678", func := "staddle/staddlelaw04.HeatMore", spec := "heatMore", unfollowed := true, recurses := true, plainKeys := false, apart := false }
def HeatMoreSaid : Prop := heatMoreRow.holds Try.pinned (OpenSpec.ofChange heatMoreSpec)

/-- ITS FALSE NEIGHBOUR: 'it returns false'. Refute it at one input. -/
def heatMoreWrong : ChangeSpec := { name := "heatMore", fn := fun _ => fun
  | [d1, d2, d3, d4] => { results := [.lit (.bool false)], args := [d1, d2, d3, d4] }
  | _ => none }
def HeatMoreWrongFalsely : Prop := heatMoreRow.holds Try.pinned (OpenSpec.ofChange heatMoreWrong)

/-- 'staddlelaw04.HeatSpare': WHATEVER THE INPUT: true; the input reads as it did. -/
def heatSpareSpec : ChangeSpec := { name := "heatSpare", fn := fun _ => fun
  | [d] => { results := [.lit (.bool true)], args := [d] }
  | _ => none }
def heatSpareRow : OpenClaim := { program := "ytokafjkinkafiaa", sum := "64d68ad807ae24f36cd9627cac76f412d466238b9a86cbded0476932e1244678", func := "staddle/staddlelaw04.HeatSpare", spec := "heatSpare", unfollowed := true, recurses := true, plainKeys := false, apart := false }
def HeatSpareSaid : Prop := heatSpareRow.holds Try.pinned (OpenSpec.ofChange heatSpareSpec)

/-- ITS FALSE NEIGHBOUR: 'it returns false'. Refute it at one input. -/
def heatSpareWrong : ChangeSpec := { name := "heatSpare", fn := fun _ => fun
  | [d] => { results := [.lit (.bool false)], args := [d] }
  | _ => none }
def HeatSpareWrongFalsely : Prop := heatSpareRow.holds Try.pinned (OpenSpec.ofChange heatSpareWrong)

/-- 'staddlelaw04.HeatNamed': WHATEVER THE INPUT: true; the input reads as it did. -/
def heatNamedSpec : ChangeSpec := { name := "heatNamed", fn := fun _ => fun
  | [d1, d2, d3] => { results := [.lit (.bool true)], args := [d1, d2, d3] }
  | _ => none }
def heatNamedRow : OpenClaim := { program := "ytokafjkinkafiaa", sum := "64d68ad807ae24f36cd9627cac76f412d466238b9a86cbded0476932e1244678", func := "staddle/staddlelaw04.HeatNamed", spec := "heatNamed", inPlace := ["slices.overlaps[int]"], unfollowed := true, recurses := true, plainKeys := false, apart := false }
def HeatNamedSaid : Prop := heatNamedRow.holds Try.pinned (OpenSpec.ofChange heatNamedSpec)

/-- ITS FALSE NEIGHBOUR: 'it returns false'. Refute it at one input. -/
def heatNamedWrong : ChangeSpec := { name := "heatNamed", fn := fun _ => fun
  | [d1, d2, d3] => { results := [.lit (.bool false)], args := [d1, d2, d3] }
  | _ => none }
def HeatNamedWrongFalsely : Prop := heatNamedRow.holds Try.pinned (OpenSpec.ofChange heatNamedWrong)

/- THE SECOND FORM. 'bulk': how many values and letters a reading holds, each counted each time it is reached (what is shared counts as often as it is met; a slice's spare places count too). A statement '..UptoSaid' is the law's where the arguments, and the package variables that the reading takes, are together of bulk at most 1048576: NARROWER than '..Said'. Prove '..Said' where nothing that the law and all that it calls make is longer than what came in: it says more and counts as full. Else prove '..UptoSaid'. A law counts once. -/
mutual
def uptoBulk {H : Type} : DataW H → Nat
  | .lit (.string bytes) => bytes.length + 1
  | .lit _ => 1
  | .nil => 1
  | .ptr d => uptoBulk d + 1
  | .slice elems spare => uptoBulkAll elems + uptoBulkAll spare + 1
  | .agg parts => uptoBulkAll parts + 1
  | .iface _ d => uptoBulk d + 1
  | .map entries => uptoBulkEntries entries + 1
  | .held _ => 1
def uptoBulkAll {H : Type} : List (DataW H) → Nat
  | [] => 0
  | d :: r => uptoBulk d + uptoBulkAll r
def uptoBulkEntries {H : Type} : List (Lit × DataW H) → Nat
  | [] => 0
  | x :: r => uptoBulkEntry x + uptoBulkEntries r
def uptoBulkEntry {H : Type} : Lit × DataW H → Nat
  | (.string bytes, d) => bytes.length + uptoBulk d + 1
  | (_, d) => uptoBulk d + 1
 end
def uptoSmall : (H : Type) → List (DataW H) → Bool := fun _ ds => decide (uptoBulkAll ds ≤ 1048576)
def OpenSpec.upto (s : _root_.Go.ChangeSpec) : _root_.Go.OpenSpec := { _root_.Go.OpenSpec.ofChange s with cond := some uptoSmall }

/-- 'staddlelaw04.HeatChecks', WHERE WHAT IT READS IS OF BULK AT MOST 1048576: true; the input reads as it did. -/
def heatChecksUptoRow : OpenClaim := { program := "ytokafjkinkafiaa", sum := "64d68ad807ae24f36cd9627cac76f412d466238b9a86cbded0476932e1244678", func := "staddle/staddlelaw04.HeatChecks", spec := "heatChecks", unfollowed := true, recurses := true, plainKeys := false, apart := false, narrowed := true }
def HeatChecksUptoSaid : Prop := heatChecksUptoRow.holds Try.pinned (OpenSpec.upto heatChecksSpec)

/-- 'staddlelaw04.HeatPlans', WHERE WHAT IT READS IS OF BULK AT MOST 1048576: true; the input reads as it did. -/
def heatPlansUptoRow : OpenClaim := { program := "ytokafjkinkafiaa", sum := "64d68ad807ae24f36cd9627cac76f412d466238b9a86cbded0476932e1244678", func := "staddle/staddlelaw04.HeatPlans", spec := "heatPlans", unfollowed := true, recurses := true, plainKeys := false, apart := false, narrowed := true }
def HeatPlansUptoSaid : Prop := heatPlansUptoRow.holds Try.pinned (OpenSpec.upto heatPlansSpec)

/-- 'staddlelaw04.HeatLongest', WHERE WHAT IT READS IS OF BULK AT MOST 1048576: true; the input reads as it did. -/
def heatLongestUptoRow : OpenClaim := { program := "ytokafjkinkafiaa", sum := "64d68ad807ae24f36cd9627cac76f412d466238b9a86cbded0476932e1244678", func := "staddle/staddlelaw04.HeatLongest", spec := "heatLongest", unfollowed := true, recurses := true, plainKeys := false, apart := false, narrowed := true }
def HeatLongestUptoSaid : Prop := heatLongestUptoRow.holds Try.pinned (OpenSpec.upto heatLongestSpec)

/-- 'staddlelaw04.HeatMore', WHERE WHAT IT READS IS OF BULK AT MOST 1048576: true; the input reads as it did. -/
def heatMoreUptoRow : OpenClaim := { program := "ytokafjkinkafiaa", sum := "64d68ad807ae24f36cd9627cac76f412d466238b9a86cbded0476932e1244678", func := "staddle/staddlelaw04.HeatMore", spec := "heatMore", unfollowed := true, recurses := true, plainKeys := false, apart := false, narrowed := true }
def HeatMoreUptoSaid : Prop := heatMoreUptoRow.holds Try.pinned (OpenSpec.upto heatMoreSpec)

/-- 'staddlelaw04.HeatSpare', WHERE WHAT IT READS IS OF BULK AT MOST 1048576: true; the input reads as it did. -/
def heatSpareUptoRow : OpenClaim := { program := "ytokafjkinkafiaa", sum := "64d68ad807ae24f36cd9627cac76f412d466238b9a86cbded0476932e1244678", func := "staddle/staddlelaw04.HeatSpare", spec := "heatSpare", unfollowed := true, recurses := true, plainKeys := false, apart := false, narrowed := true }
def HeatSpareUptoSaid : Prop := heatSpareUptoRow.holds Try.pinned (OpenSpec.upto heatSpareSpec)

/-- 'staddlelaw04.HeatNamed', WHERE WHAT IT READS IS OF BULK AT MOST 1048576: true; the input reads as it did. -/
def heatNamedUptoRow : OpenClaim := { program := "ytokafjkinkafiaa", sum := "64d68ad807ae24f36cd9627cac76f412d466238b9a86cbded0476932e1244678", func := "staddle/staddlelaw04.HeatNamed", spec := "heatNamed", inPlace := ["slices.overlaps[int]"], unfollowed := true, recurses := true, plainKeys := false, apart := false, narrowed := true }
def HeatNamedUptoSaid : Prop := heatNamedUptoRow.holds Try.pinned (OpenSpec.upto heatNamedSpec)

end Rows
end Go.Proofs.Ytokafjkinkafiaa
