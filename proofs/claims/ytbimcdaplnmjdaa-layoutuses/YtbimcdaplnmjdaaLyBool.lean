/-
  A bool as the result that lies in a cell.
-/
import Derived.Test.YtbimcdaplnmjdaaLyC
namespace Go.Proofs.Ytbimcdaplnmjdaa
open Go.RowKit
theorem results_bool {fn : Func} {p : Tmp} (h : fn.results = #[.cell p 4]) {tmps : Array Value} {w : World} {g : Nat} {t : TypeId} {x : Bool} (hp : tmps.getD p undef = .pointer (some ⟨g, 0, none⟩)) (hb : Blk w g t [.bool x]) :
    (results fn tmps).run Try.prog w = .ok (.bool x) w := by
  have hp' : tmps[p]?.getD undef = .pointer (some ⟨g, 0, none⟩) := by simpa using hp
  have hc := hb.cell' (i := 0) rfl
  have hl : (loadVar 4 ⟨g, 0, none⟩).run Try.prog w = .ok (.bool x) w := by
    go_simp
  simp [results, h, hp', asAddr, hl]
end Go.Proofs.Ytbimcdaplnmjdaa
