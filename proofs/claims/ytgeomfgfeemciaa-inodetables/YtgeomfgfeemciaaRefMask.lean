/-
  What slipwayref01's Mask and Covers, and bytes.Clone, answer.
-/
import Derived.Test.YtgeomfgfeemciaaOwn
namespace Go.Proofs.Ytgeomfgfeemciaa
open Go.RowKit
theorem vals_snoc (L : List Nat) (k : Nat) (h : k < L.length) : vals (L.take k) ++ [.int .u8 (el L k)] = vals (L.take (k + 1)) := by
  rw [take_succ_getD L k h, vals_append]; rfl
theorem one_cell_at (w : World) (X : Value) : ∀ j u, [X][j]? = some u → (w.alloc (.cells #[X] 5)).cell? ((⟨w.heap.size, 0, none⟩ : Addr).add j) = some u := by
  intro j u hj
  match j, hj with
  | 0, hj => simp at hj; subst hj; simp [Addr.add]
theorem below_app {B : Nat} {w0 wr w1 : World} {o : Obj} {v : Value} {n : Nat} {e : TypeId} {xs : List Value} (hbel : Below B w0 wr) (hB : B ≤ w0.heap.size) (hown : wr.ownsRow B e 1 v n xs) (hg : (wr.alloc o).grownBy w1 v.ownBlock) : Below B w0 w1 := by
  have hs := hbel.size
  refine (hbel.alloc (by omega) o).grown hg (by simp; omega) fun k hk => ?_
  rcases hown.2 with ⟨rfl, _⟩ | ⟨g, cap, cur, rfl, hg, _⟩
  · simp [Value.ownBlock] at hk
  · simp only [Value.ownBlock, Option.some.injEq] at hk
    omega
end Go.Proofs.Ytgeomfgfeemciaa
