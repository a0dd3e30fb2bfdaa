/-
  The parts of a page, one behind the other: what the iterator of parts gives.
-/
import Derived.Test.YtfgelncfmopibaaXPgTells
import Derived.RangeFuncNested
import Derived.RangeFuncBound
import Derived.RangeFuncCalls
import Derived.RangeFuncLeaves
import Derived.Shelf.Abstract
import Derived.Shelf.RegionOpen
import Derived.OwnWalkIn
import Derived.TacticsInMore
import Derived.LoopNIn
import Derived.LoopIn
import Derived.RegionIn
namespace Go.Proofs.Ytfgelncfmopibaa.Pg
open Go.RowKit Go.Shelf
attribute [local go_sem] Oper.semAt_some
/-- What yield is handed: the page's data, then what is beside them. -/
def encV (G : Nat) : Bool → Value
  | false => .slice (some ⟨G, 0, none⟩) 256 256
  | true => .slice (some ⟨G, 256, none⟩) 32 32
def encQ (G : Nat) (b : Bool) : Array Value := #[encV G b]
theorem parts_any (pa : Option Addr) (w : World) :
    Calls Try.prog 86 #[.pointer pa] w fun e w' => e = .returned (.func (.func 111) #[] #[.pointer (some ⟨w.heap.size, 0, none⟩)]) ∧ w' = w.alloc (.cells #[.pointer pa] 141) := by
  go_enter Try.func86, Try.ntmps86
  go_wp2
  go_ret
  exact ⟨rfl, rfl⟩
set_option maxRecDepth 100000 in
set_option maxHeartbeats 2000000 in
theorem parts1_stops (F : Fence) (n : Nat) (h8 : F.fn 111) (hro : F.round = none) (hn : 1 ≤ n) (Bs G : Nat) (w : World) (hBs : Boxed w Bs 141 (.pointer (some ⟨G, 0, none⟩))) :
    SeqStopsK F n Try.prog 111 #[.pointer (some ⟨Bs, 0, none⟩)] (encQ G) (fun A B => B.heap[Bs]? = A.heap[Bs]?) (fun ys => ys = [false, true]) (fun _ => True) 2 w := fun l J Jx W hW hJ hJx hY h0 => by
  have hb : Boxed W Bs 141 (.pointer (some ⟨G, 0, none⟩)) := (hW.block Bs hBs.lt).trans hBs
  have hc := hb.cell
  obtain ⟨fn, tmps, assign, body, hy, hR⟩ := hY [] false W h0 (by simp)
  dsimp only [encQ, encV] at hy
  refine callsIn_of_wp Try.func111 rfl h8 ?_ hro
  simp only [Try.ntmps111, List.size_toArray, List.length_cons, List.length_nil, Nat.reduceAdd, Nat.reduceSub, Array.replicate_succ, Array.replicate_zero, List.push_toArray, List.append_toArray, List.nil_append, List.cons_append]
  gi_wp2
  refine hR.mono ?_
  rintro e W1 (⟨rfl, hJ1, hk1⟩ | ⟨rfl, hJx1⟩)
  · have hb1 : Boxed W1 Bs 141 (.pointer (some ⟨G, 0, none⟩)) := hk1.trans hb
    have hc1 := hb1.cell
    clear hy hR hc
    obtain ⟨fn2, tmps2, assign2, body2, hy2, hR2⟩ := hY [false] true W1 hJ1 (by simp)
    dsimp only [encQ, encV] at hy2
    gi_wp2
    refine hR2.mono ?_
    rintro e W2 (⟨rfl, hJ2, _⟩ | ⟨rfl, hJx2⟩)
    · gi_wp2
      go_end0
      exact ⟨⟨_, rfl⟩, .inl ⟨_, rfl, hJ2⟩⟩
    · gi_wp2
      go_end0
      exact ⟨⟨_, rfl⟩, .inr ⟨_, trivial, hJx2⟩⟩
  · gi_wp2
    go_end0
    exact ⟨⟨_, rfl⟩, .inr ⟨_, trivial, hJx1⟩⟩
end Go.Proofs.Ytfgelncfmopibaa.Pg
