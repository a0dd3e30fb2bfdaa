/-
  No cell of these rows narrows 'for every input' (looked for: loops, veiled, ifaces, maps, wideKeys, modest, calm, conditions, laid).
  DERIVED. THE GIVEN ROWS OF THIS SEAT. 6 by the template 'for every input the law returns true; each argument reads behind the call as it read before'; 0 by the template 'total and deterministic' (their statements: YtfgelncfmopibaaTotals.lean).
  GIVEN WITH THE SEED: the statements are not yours to turn. If you find one false, say at which input.
  Laid BY PROGRAM, IN A SANDBOX (cutbox-rows.mjs): the forced cells as the released guide's own fill.sh prints them over the translation bd087ebf463b0b1e… (all of the seat's roots in one cut). By AI agents, Wed Nov 11 2026. No macro, syntax, notation, axiom, sorry.
-/
import Derived.Test.YtfgelncfmopibaaChecked
import GoSem.Claim
import GoSem.ClaimJoined
import GoSem.ClaimMapViews
import Derived.JoinedTies
import Derived.KernelRfl
namespace Go.Proofs.Ytfgelncfmopibaa
/- THE CELL 'sum', in the pinned program and in every row, IS THE sha256 OF THE DUMP (.gsa) THAT YtfgelncfmopibaaProg.lean LOADS. Nothing in Lean hashes anything: it is a label: what it is worth is what the hold of that sum in a sandbox is worth. -/
noncomputable def Try.pinned : Pinned := { name := "ytfgelncfmopibaa", sum := "bd087ebf463b0b1e4e9182947da6ae58e53efdaf3561b73a77e5ae2914468f7b", checked := Try.checked }
namespace Rows
def none {H : Type} : Left H := { results := [], args := [] }

/-- 'slipwaylaw07.ScanFinds': WHATEVER THE INPUT: true; the input reads as it did. -/
def scanFindsSpec : ChangeSpec := { name := "scanFinds", fn := fun _ => fun
  | [d1, d2] => { results := [.lit (.bool true)], args := [d1, d2] }
  | _ => none }
def scanFindsRow : OpenClaim := { program := "ytfgelncfmopibaa", sum := "bd087ebf463b0b1e4e9182947da6ae58e53efdaf3561b73a77e5ae2914468f7b", func := "slipway/slipwaylaw07.ScanFinds", spec := "scanFinds", unfollowed := true, recurses := true, apart := false }
def ScanFindsSaid : Prop := scanFindsRow.holds Try.pinned (OpenSpec.ofChange scanFindsSpec)

/-- ITS FALSE NEIGHBOUR: 'it returns false'. Refute it at one input. -/
def scanFindsWrong : ChangeSpec := { name := "scanFinds", fn := fun _ => fun
  | [d1, d2] => { results := [.lit (.bool false)], args := [d1, d2] }
  | _ => none }
def ScanFindsWrongFalsely : Prop := scanFindsRow.holds Try.pinned (OpenSpec.ofChange scanFindsWrong)

/-- 'slipwaylaw07.ScanNewest': WHATEVER THE INPUT: true; the input reads as it did. -/
def scanNewestSpec : ChangeSpec := { name := "scanNewest", fn := fun _ => fun
  | [d] => { results := [.lit (.bool true)], args := [d] }
  | _ => none }
def scanNewestRow : OpenClaim := { program := "ytfgelncfmopibaa", sum := "bd087ebf463b0b1e4e9182947da6ae58e53efdaf3561b73a77e5ae2914468f7b", func := "slipway/slipwaylaw07.ScanNewest", spec := "scanNewest", unfollowed := true, recurses := true, apart := false }
def ScanNewestSaid : Prop := scanNewestRow.holds Try.pinned (OpenSpec.ofChange scanNewestSpec)

/-- ITS FALSE NEIGHBOUR: 'it returns false'. Refute it at one input. -/
def scanNewestWrong : ChangeSpec := { name := "scanNewest", fn := fun _ => fun
  | [d] => { results := [.lit (.bool false)], args := [d] }
  | _ => none }
def ScanNewestWrongFalsely : Prop := scanNewestRow.holds Try.pinned (OpenSpec.ofChange scanNewestWrong)

/-- 'slipwaylaw07.ScanBest': WHATEVER THE INPUT: true; the input reads as it did. -/
def scanBestSpec : ChangeSpec := { name := "scanBest", fn := fun _ => fun
  | [d] => { results := [.lit (.bool true)], args := [d] }
  | _ => none }
def scanBestRow : OpenClaim := { program := "ytfgelncfmopibaa", sum := "bd087ebf463b0b1e4e9182947da6ae58e53efdaf3561b73a77e5ae2914468f7b", func := "slipway/slipwaylaw07.ScanBest", spec := "scanBest", unfollowed := true, recurses := true, apart := false }
def ScanBestSaid : Prop := scanBestRow.holds Try.pinned (OpenSpec.ofChange scanBestSpec)

/-- ITS FALSE NEIGHBOUR: 'it returns false'. Refute it at one input. -/
def scanBestWrong : ChangeSpec := { name := "scanBest", fn := fun _ => fun
  | [d] => { results := [.lit (.bool false)], args := [d] }
  | _ => none }
def ScanBestWrongFalsely : Prop := scanBestRow.holds Try.pinned (OpenSpec.ofChange scanBestWrong)

/-- 'slipwaylaw07.ScanTables': WHATEVER THE INPUT: true; the input reads as it did. -/
def scanTablesSpec : ChangeSpec := { name := "scanTables", fn := fun _ => fun
  | [d1, d2] => { results := [.lit (.bool true)], args := [d1, d2] }
  | _ => none }
def scanTablesRow : OpenClaim := { program := "ytfgelncfmopibaa", sum := "bd087ebf463b0b1e4e9182947da6ae58e53efdaf3561b73a77e5ae2914468f7b", func := "slipway/slipwaylaw07.ScanTables", spec := "scanTables", unfollowed := true, recurses := true, apart := false }
def ScanTablesSaid : Prop := scanTablesRow.holds Try.pinned (OpenSpec.ofChange scanTablesSpec)

/-- ITS FALSE NEIGHBOUR: 'it returns false'. Refute it at one input. -/
def scanTablesWrong : ChangeSpec := { name := "scanTables", fn := fun _ => fun
  | [d1, d2] => { results := [.lit (.bool false)], args := [d1, d2] }
  | _ => none }
def ScanTablesWrongFalsely : Prop := scanTablesRow.holds Try.pinned (OpenSpec.ofChange scanTablesWrong)

/-- 'slipwaylaw07.ScanOrder': WHATEVER THE INPUT: true; the input reads as it did. -/
def scanOrderSpec : ChangeSpec := { name := "scanOrder", fn := fun _ => fun
  | [d1, d2] => { results := [.lit (.bool true)], args := [d1, d2] }
  | _ => none }
def scanOrderRow : OpenClaim := { program := "ytfgelncfmopibaa", sum := "bd087ebf463b0b1e4e9182947da6ae58e53efdaf3561b73a77e5ae2914468f7b", func := "slipway/slipwaylaw07.ScanOrder", spec := "scanOrder", unfollowed := true, recurses := true, apart := false }
def ScanOrderSaid : Prop := scanOrderRow.holds Try.pinned (OpenSpec.ofChange scanOrderSpec)

/-- ITS FALSE NEIGHBOUR: 'it returns false'. Refute it at one input. -/
def scanOrderWrong : ChangeSpec := { name := "scanOrder", fn := fun _ => fun
  | [d1, d2] => { results := [.lit (.bool false)], args := [d1, d2] }
  | _ => none }
def ScanOrderWrongFalsely : Prop := scanOrderRow.holds Try.pinned (OpenSpec.ofChange scanOrderWrong)

/-- 'slipwaylaw07.ScanOld': WHATEVER THE INPUT: true; the input reads as it did. -/
def scanOldSpec : ChangeSpec := { name := "scanOld", fn := fun _ => fun
  | [d1, d2] => { results := [.lit (.bool true)], args := [d1, d2] }
  | _ => none }
def scanOldRow : OpenClaim := { program := "ytfgelncfmopibaa", sum := "bd087ebf463b0b1e4e9182947da6ae58e53efdaf3561b73a77e5ae2914468f7b", func := "slipway/slipwaylaw07.ScanOld", spec := "scanOld", unfollowed := true, recurses := true, apart := false }
def ScanOldSaid : Prop := scanOldRow.holds Try.pinned (OpenSpec.ofChange scanOldSpec)

/-- ITS FALSE NEIGHBOUR: 'it returns false'. Refute it at one input. -/
def scanOldWrong : ChangeSpec := { name := "scanOld", fn := fun _ => fun
  | [d1, d2] => { results := [.lit (.bool false)], args := [d1, d2] }
  | _ => none }
def ScanOldWrongFalsely : Prop := scanOldRow.holds Try.pinned (OpenSpec.ofChange scanOldWrong)

/- THE SECOND FORM. 'bulk': how many values and letters a reading holds, each counted each time it is reached (what is shared counts as often as it is met; a slice's spare places count too). A statement '..UptoSaid' is the law's where the arguments, and the package variables that the reading takes, are together of bulk at most 1048576: NARROWER than '..Said'. Prove '..Said' where nothing that the law and all that it calls make is longer than what came in: it says more and counts as full. Else prove '..UptoSaid'. A law counts once. -/
mutual
def uptoBulk {H : Type} : DataW H → Nat
  | .lit (.string bytes) => bytes.length + 1
  | .lit _ => 1
  | .nil => 1
  | .ptr d => uptoBulk d + 1
  | .slice elems spare => uptoBulkAll elems + uptoBulkAll spare + 1
  | .agg parts => uptoBulkAll parts + 1
  | .iface _ d => uptoBulk d + 1
  | .map entries => uptoBulkEntries entries + 1
  | .held _ => 1
def uptoBulkAll {H : Type} : List (DataW H) → Nat
  | [] => 0
  | d :: r => uptoBulk d + uptoBulkAll r
def uptoBulkEntries {H : Type} : List (Lit × DataW H) → Nat
  | [] => 0
  | x :: r => uptoBulkEntry x + uptoBulkEntries r
def uptoBulkEntry {H : Type} : Lit × DataW H → Nat
  | (.string bytes, d) => bytes.length + uptoBulk d + 1
  | (_, d) => uptoBulk d + 1
 end
def uptoSmall : (H : Type) → List (DataW H) → Bool := fun _ ds => decide (uptoBulkAll ds ≤ 1048576)
def OpenSpec.upto (s : _root_.Go.ChangeSpec) : _root_.Go.OpenSpec := { _root_.Go.OpenSpec.ofChange s with cond := some uptoSmall }

/-- 'slipwaylaw07.ScanFinds', WHERE WHAT IT READS IS OF BULK AT MOST 1048576: true; the input reads as it did. -/
def scanFindsUptoRow : OpenClaim := { program := "ytfgelncfmopibaa", sum := "bd087ebf463b0b1e4e9182947da6ae58e53efdaf3561b73a77e5ae2914468f7b", func := "slipway/slipwaylaw07.ScanFinds", spec := "scanFinds", unfollowed := true, recurses := true, apart := false, narrowed := true }
def ScanFindsUptoSaid : Prop := scanFindsUptoRow.holds Try.pinned (OpenSpec.upto scanFindsSpec)

/-- 'slipwaylaw07.ScanNewest', WHERE WHAT IT READS IS OF BULK AT MOST 1048576: true; the input reads as it did. -/
def scanNewestUptoRow : OpenClaim := { program := "ytfgelncfmopibaa", sum := "bd087ebf463b0b1e4e9182947da6ae58e53efdaf3561b73a77e5ae2914468f7b", func := "slipway/slipwaylaw07.ScanNewest", spec := "scanNewest", unfollowed := true, recurses := true, apart := false, narrowed := true }
def ScanNewestUptoSaid : Prop := scanNewestUptoRow.holds Try.pinned (OpenSpec.upto scanNewestSpec)

/-- 'slipwaylaw07.ScanBest', WHERE WHAT IT READS IS OF BULK AT MOST 1048576: true; the input reads as it did. -/
def scanBestUptoRow : OpenClaim := { program := "ytfgelncfmopibaa", sum := "bd087ebf463b0b1e4e9182947da6ae58e53efdaf3561b73a77e5ae2914468f7b", func := "slipway/slipwaylaw07.ScanBest", spec := "scanBest", unfollowed := true, recurses := true, apart := false, narrowed := true }
def ScanBestUptoSaid : Prop := scanBestUptoRow.holds Try.pinned (OpenSpec.upto scanBestSpec)

/-- 'slipwaylaw07.ScanTables', WHERE WHAT IT READS IS OF BULK AT MOST 1048576: true; the input reads as it did. -/
def scanTablesUptoRow : OpenClaim := { program := "ytfgelncfmopibaa", sum := "bd087ebf463b0b1e4e9182947da6ae58e53efdaf3561b73a77e5ae2914468f7b", func := "slipway/slipwaylaw07.ScanTables", spec := "scanTables", unfollowed := true, recurses := true, apart := false, narrowed := true }
def ScanTablesUptoSaid : Prop := scanTablesUptoRow.holds Try.pinned (OpenSpec.upto scanTablesSpec)

/-- 'slipwaylaw07.ScanOrder', WHERE WHAT IT READS IS OF BULK AT MOST 1048576: true; the input reads as it did. -/
def scanOrderUptoRow : OpenClaim := { program := "ytfgelncfmopibaa", sum := "bd087ebf463b0b1e4e9182947da6ae58e53efdaf3561b73a77e5ae2914468f7b", func := "slipway/slipwaylaw07.ScanOrder", spec := "scanOrder", unfollowed := true, recurses := true, apart := false, narrowed := true }
def ScanOrderUptoSaid : Prop := scanOrderUptoRow.holds Try.pinned (OpenSpec.upto scanOrderSpec)

/-- 'slipwaylaw07.ScanOld', WHERE WHAT IT READS IS OF BULK AT MOST 1048576: true; the input reads as it did. -/
def scanOldUptoRow : OpenClaim := { program := "ytfgelncfmopibaa", sum := "bd087ebf463b0b1e4e9182947da6ae58e53efdaf3561b73a77e5ae2914468f7b", func := "slipway/slipwaylaw07.ScanOld", spec := "scanOld", unfollowed := true, recurses := true, apart := false, narrowed := true }
def ScanOldUptoSaid : Prop := scanOldUptoRow.holds Try.pinned (OpenSpec.upto scanOldSpec)

end Rows
end Go.Proofs.Ytfgelncfmopibaa
