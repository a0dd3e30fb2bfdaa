/-
  No cell of these rows narrows 'for every input' (looked for: loops, veiled, ifaces, maps, wideKeys, modest, calm, conditions, laid).
  DERIVED. THE GIVEN ROWS OF THIS SEAT. 6 by the template 'for every input the law returns true; each argument reads behind the call as it read before'; 0 by the template 'total and deterministic' (their statements: YtigkfmdhmonjlaaTotals.lean).
  GIVEN WITH THE SEED: the statements are not yours to turn. If you find one false, say at which input.
  Laid BY PROGRAM, IN A SANDBOX (cutbox-rows.mjs): the forced cells as the released guide's own fill.sh prints them over the translation 4a77e3ec46d53820… (all of the seat's roots in one cut). By AI agents, Wed Nov 11 2026. No macro, syntax, notation, axiom, sorry.
-/
import Derived.Test.YtigkfmdhmonjlaaChecked
import GoSem.Claim
import GoSem.ClaimJoined
import GoSem.ClaimMapViews
import Derived.JoinedTies
import Derived.KernelRfl
namespace Go.Proofs.Ytigkfmdhmonjlaa
/- THE CELL 'sum', in the pinned program and in every row, IS THE sha256 OF THE DUMP (.gsa) THAT YtigkfmdhmonjlaaProg.lean LOADS. Nothing in Lean hashes anything: it is a label: what it is worth is what the hold of that sum in a sandbox is worth. -/
noncomputable def Try.pinned : Pinned := { name := "ytigkfmdhmonjlaa", sum := "4a77e3ec46d5382096dbb2af3ac8ce6bd9bf05f98fd1362628f502455d06ee34", checked := Try.checked }
namespace Rows
def none {H : Type} : Left H := { results := [], args := [] }

/-- 'slipwaylaw04.PoolMakes': WHATEVER THE INPUT: true; the input reads as it did. -/
def poolMakesSpec : ChangeSpec := { name := "poolMakes", fn := fun _ => fun
  | [d1, d2, d3, d4, d5, d6, d7] => { results := [.lit (.bool true)], args := [d1, d2, d3, d4, d5, d6, d7] }
  | _ => none }
def poolMakesRow : OpenClaim := { program := "ytigkfmdhmonjlaa", sum := "4a77e3ec46d5382096dbb2af3ac8ce6bd9bf05f98fd1362628f502455d06ee34", func := "slipway/slipwaylaw04.PoolMakes", spec := "poolMakes", unfollowed := true, recurses := true, apart := false }
def PoolMakesSaid : Prop := poolMakesRow.holds Try.pinned (OpenSpec.ofChange poolMakesSpec)

/-- ITS FALSE NEIGHBOUR: 'it returns false'. Refute it at one input. -/
def poolMakesWrong : ChangeSpec := { name := "poolMakes", fn := fun _ => fun
  | [d1, d2, d3, d4, d5, d6, d7] => { results := [.lit (.bool false)], args := [d1, d2, d3, d4, d5, d6, d7] }
  | _ => none }
def PoolMakesWrongFalsely : Prop := poolMakesRow.holds Try.pinned (OpenSpec.ofChange poolMakesWrong)

/-- 'slipwaylaw04.PoolChanges': WHATEVER THE INPUT: true; the input reads as it did. -/
def poolChangesSpec : ChangeSpec := { name := "poolChanges", fn := fun _ => fun
  | [d1, d2, d3, d4] => { results := [.lit (.bool true)], args := [d1, d2, d3, d4] }
  | _ => none }
def poolChangesRow : OpenClaim := { program := "ytigkfmdhmonjlaa", sum := "4a77e3ec46d5382096dbb2af3ac8ce6bd9bf05f98fd1362628f502455d06ee34", func := "slipway/slipwaylaw04.PoolChanges", spec := "poolChanges", unfollowed := true, recurses := true, apart := false }
def PoolChangesSaid : Prop := poolChangesRow.holds Try.pinned (OpenSpec.ofChange poolChangesSpec)

/-- ITS FALSE NEIGHBOUR: 'it returns false'. Refute it at one input. -/
def poolChangesWrong : ChangeSpec := { name := "poolChanges", fn := fun _ => fun
  | [d1, d2, d3, d4] => { results := [.lit (.bool false)], args := [d1, d2, d3, d4] }
  | _ => none }
def PoolChangesWrongFalsely : Prop := poolChangesRow.holds Try.pinned (OpenSpec.ofChange poolChangesWrong)

/-- 'slipwaylaw04.PoolTells': WHATEVER THE INPUT: true; the input reads as it did. -/
def poolTellsSpec : ChangeSpec := { name := "poolTells", fn := fun _ => fun
  | [d1, d2, d3, d4] => { results := [.lit (.bool true)], args := [d1, d2, d3, d4] }
  | _ => none }
def poolTellsRow : OpenClaim := { program := "ytigkfmdhmonjlaa", sum := "4a77e3ec46d5382096dbb2af3ac8ce6bd9bf05f98fd1362628f502455d06ee34", func := "slipway/slipwaylaw04.PoolTells", spec := "poolTells", unfollowed := true, recurses := true, apart := false }
def PoolTellsSaid : Prop := poolTellsRow.holds Try.pinned (OpenSpec.ofChange poolTellsSpec)

/-- ITS FALSE NEIGHBOUR: 'it returns false'. Refute it at one input. -/
def poolTellsWrong : ChangeSpec := { name := "poolTells", fn := fun _ => fun
  | [d1, d2, d3, d4] => { results := [.lit (.bool false)], args := [d1, d2, d3, d4] }
  | _ => none }
def PoolTellsWrongFalsely : Prop := poolTellsRow.holds Try.pinned (OpenSpec.ofChange poolTellsWrong)

/-- 'slipwaylaw04.PoolStays': WHATEVER THE INPUT: true; the input reads as it did. -/
def poolStaysSpec : ChangeSpec := { name := "poolStays", fn := fun _ => fun
  | [d1, d2, d3, d4] => { results := [.lit (.bool true)], args := [d1, d2, d3, d4] }
  | _ => none }
def poolStaysRow : OpenClaim := { program := "ytigkfmdhmonjlaa", sum := "4a77e3ec46d5382096dbb2af3ac8ce6bd9bf05f98fd1362628f502455d06ee34", func := "slipway/slipwaylaw04.PoolStays", spec := "poolStays", unfollowed := true, recurses := true, apart := false }
def PoolStaysSaid : Prop := poolStaysRow.holds Try.pinned (OpenSpec.ofChange poolStaysSpec)

/-- ITS FALSE NEIGHBOUR: 'it returns false'. Refute it at one input. -/
def poolStaysWrong : ChangeSpec := { name := "poolStays", fn := fun _ => fun
  | [d1, d2, d3, d4] => { results := [.lit (.bool false)], args := [d1, d2, d3, d4] }
  | _ => none }
def PoolStaysWrongFalsely : Prop := poolStaysRow.holds Try.pinned (OpenSpec.ofChange poolStaysWrong)

/-- 'slipwaylaw04.PoolFair': WHATEVER THE INPUT: true; the input reads as it did. -/
def poolFairSpec : ChangeSpec := { name := "poolFair", fn := fun _ => fun
  | [d1, d2, d3] => { results := [.lit (.bool true)], args := [d1, d2, d3] }
  | _ => none }
def poolFairRow : OpenClaim := { program := "ytigkfmdhmonjlaa", sum := "4a77e3ec46d5382096dbb2af3ac8ce6bd9bf05f98fd1362628f502455d06ee34", func := "slipway/slipwaylaw04.PoolFair", spec := "poolFair", unfollowed := true, recurses := true, apart := false }
def PoolFairSaid : Prop := poolFairRow.holds Try.pinned (OpenSpec.ofChange poolFairSpec)

/-- ITS FALSE NEIGHBOUR: 'it returns false'. Refute it at one input. -/
def poolFairWrong : ChangeSpec := { name := "poolFair", fn := fun _ => fun
  | [d1, d2, d3] => { results := [.lit (.bool false)], args := [d1, d2, d3] }
  | _ => none }
def PoolFairWrongFalsely : Prop := poolFairRow.holds Try.pinned (OpenSpec.ofChange poolFairWrong)

/-- 'slipwaylaw04.PoolRoles': WHATEVER THE INPUT: true; the input reads as it did. -/
def poolRolesSpec : ChangeSpec := { name := "poolRoles", fn := fun _ => fun
  | [d1, d2] => { results := [.lit (.bool true)], args := [d1, d2] }
  | _ => none }
def poolRolesRow : OpenClaim := { program := "ytigkfmdhmonjlaa", sum := "4a77e3ec46d5382096dbb2af3ac8ce6bd9bf05f98fd1362628f502455d06ee34", func := "slipway/slipwaylaw04.PoolRoles", spec := "poolRoles", unfollowed := true, recurses := true, apart := false }
def PoolRolesSaid : Prop := poolRolesRow.holds Try.pinned (OpenSpec.ofChange poolRolesSpec)

/-- ITS FALSE NEIGHBOUR: 'it returns false'. Refute it at one input. -/
def poolRolesWrong : ChangeSpec := { name := "poolRoles", fn := fun _ => fun
  | [d1, d2] => { results := [.lit (.bool false)], args := [d1, d2] }
  | _ => none }
def PoolRolesWrongFalsely : Prop := poolRolesRow.holds Try.pinned (OpenSpec.ofChange poolRolesWrong)

/- THE SECOND FORM. 'bulk': how many values and letters a reading holds, each counted each time it is reached (what is shared counts as often as it is met; a slice's spare places count too). A statement '..UptoSaid' is the law's where the arguments, and the package variables that the reading takes, are together of bulk at most 1048576: NARROWER than '..Said'. Prove '..Said' where nothing that the law and all that it calls make is longer than what came in: it says more and counts as full. Else prove '..UptoSaid'. A law counts once. -/
mutual
def uptoBulk {H : Type} : DataW H → Nat
  | .lit (.string bytes) => bytes.length + 1
  | .lit _ => 1
  | .nil => 1
  | .ptr d => uptoBulk d + 1
  | .slice elems spare => uptoBulkAll elems + uptoBulkAll spare + 1
  | .agg parts => uptoBulkAll parts + 1
  | .iface _ d => uptoBulk d + 1
  | .map entries => uptoBulkEntries entries + 1
  | .held _ => 1
def uptoBulkAll {H : Type} : List (DataW H) → Nat
  | [] => 0
  | d :: r => uptoBulk d + uptoBulkAll r
def uptoBulkEntries {H : Type} : List (Lit × DataW H) → Nat
  | [] => 0
  | x :: r => uptoBulkEntry x + uptoBulkEntries r
def uptoBulkEntry {H : Type} : Lit × DataW H → Nat
  | (.string bytes, d) => bytes.length + uptoBulk d + 1
  | (_, d) => uptoBulk d + 1
 end
def uptoSmall : (H : Type) → List (DataW H) → Bool := fun _ ds => decide (uptoBulkAll ds ≤ 1048576)
def OpenSpec.upto (s : _root_.Go.ChangeSpec) : _root_.Go.OpenSpec := { _root_.Go.OpenSpec.ofChange s with cond := some uptoSmall }

/-- 'slipwaylaw04.PoolMakes', WHERE WHAT IT READS IS OF BULK AT MOST 1048576: true; the input reads as it did. -/
def poolMakesUptoRow : OpenClaim := { program := "ytigkfmdhmonjlaa", sum := "4a77e3ec46d5382096dbb2af3ac8ce6bd9bf05f98fd1362628f502455d06ee34", func := "slipway/slipwaylaw04.PoolMakes", spec := "poolMakes", unfollowed := true, recurses := true, apart := false, narrowed := true }
def PoolMakesUptoSaid : Prop := poolMakesUptoRow.holds Try.pinned (OpenSpec.upto poolMakesSpec)

/-- 'slipwaylaw04.PoolChanges', WHERE WHAT IT READS IS OF BULK AT MOST 1048576: true; the input reads as it did. -/
def poolChangesUptoRow : OpenClaim := { program := "ytigkfmdhmonjlaa", sum := "4a77e3ec46d5382096dbb2af3ac8ce6bd9bf05f98fd1362628f502455d06ee34", func := "slipway/slipwaylaw04.PoolChanges", spec := "poolChanges", unfollowed := true, recurses := true, apart := false, narrowed := true }
def PoolChangesUptoSaid : Prop := poolChangesUptoRow.holds Try.pinned (OpenSpec.upto poolChangesSpec)

/-- 'slipwaylaw04.PoolTells', WHERE WHAT IT READS IS OF BULK AT MOST 1048576: true; the input reads as it did. -/
def poolTellsUptoRow : OpenClaim := { program := "ytigkfmdhmonjlaa", sum := "4a77e3ec46d5382096dbb2af3ac8ce6bd9bf05f98fd1362628f502455d06ee34", func := "slipway/slipwaylaw04.PoolTells", spec := "poolTells", unfollowed := true, recurses := true, apart := false, narrowed := true }
def PoolTellsUptoSaid : Prop := poolTellsUptoRow.holds Try.pinned (OpenSpec.upto poolTellsSpec)

/-- 'slipwaylaw04.PoolStays', WHERE WHAT IT READS IS OF BULK AT MOST 1048576: true; the input reads as it did. -/
def poolStaysUptoRow : OpenClaim := { program := "ytigkfmdhmonjlaa", sum := "4a77e3ec46d5382096dbb2af3ac8ce6bd9bf05f98fd1362628f502455d06ee34", func := "slipway/slipwaylaw04.PoolStays", spec := "poolStays", unfollowed := true, recurses := true, apart := false, narrowed := true }
def PoolStaysUptoSaid : Prop := poolStaysUptoRow.holds Try.pinned (OpenSpec.upto poolStaysSpec)

/-- 'slipwaylaw04.PoolFair', WHERE WHAT IT READS IS OF BULK AT MOST 1048576: true; the input reads as it did. -/
def poolFairUptoRow : OpenClaim := { program := "ytigkfmdhmonjlaa", sum := "4a77e3ec46d5382096dbb2af3ac8ce6bd9bf05f98fd1362628f502455d06ee34", func := "slipway/slipwaylaw04.PoolFair", spec := "poolFair", unfollowed := true, recurses := true, apart := false, narrowed := true }
def PoolFairUptoSaid : Prop := poolFairUptoRow.holds Try.pinned (OpenSpec.upto poolFairSpec)

/-- 'slipwaylaw04.PoolRoles', WHERE WHAT IT READS IS OF BULK AT MOST 1048576: true; the input reads as it did. -/
def poolRolesUptoRow : OpenClaim := { program := "ytigkfmdhmonjlaa", sum := "4a77e3ec46d5382096dbb2af3ac8ce6bd9bf05f98fd1362628f502455d06ee34", func := "slipway/slipwaylaw04.PoolRoles", spec := "poolRoles", unfollowed := true, recurses := true, apart := false, narrowed := true }
def PoolRolesUptoSaid : Prop := poolRolesUptoRow.holds Try.pinned (OpenSpec.upto poolRolesSpec)

end Rows
end Go.Proofs.Ytigkfmdhmonjlaa
