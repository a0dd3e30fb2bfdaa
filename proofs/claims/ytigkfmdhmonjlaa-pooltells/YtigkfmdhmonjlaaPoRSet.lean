/-
  A pool of the call's own, in the box of an argument.
-/
import Derived.Test.YtigkfmdhmonjlaaPoRClone
namespace Go.Proofs.Ytigkfmdhmonjlaa
open Go.RowKit
theorem PS.boxed {w W W' : World} {a b a' b' : Value} (h : PS w a b W) (ht : Turned W W' w.heap.size) (hb : Blk W' w.heap.size 25 [a', b']) : PS w a' b' W' := by
  obtain ⟨x, y, hr⟩ := h.res
  exact ⟨ht.below h.bel (Nat.le_refl _), hb, x, y, hr.turned ht (by omega)⟩
theorem NewP.g1 {B : Nat} {w : World} {q : Option Addr} {g n c m d : Nat} {R W : List Int} (h : NewP B w (some ⟨g, 0, none⟩) n c q m d R W) : B ≤ g ∧ g < w.heap.size := h.r.lt g rfl
theorem NewP.g2 {B : Nat} {w : World} {p : Option Addr} {g n c m d : Nat} {R W : List Int} (h : NewP B w p n c (some ⟨g, 0, none⟩) m d R W) : B ≤ g ∧ g < w.heap.size := h.v.lt g rfl
theorem NewP.far {B g : Nat} {w : World} {p q : Option Addr} {n c m d : Nat} {R W : List Int} (h : NewP B w p n c q m d R W) (hg : g < B) : FarP g p q := far_of h.r h.v hg hg
/-- One number of the first row laid anew. -/
theorem set_factsR {w W : World} {a b : Value} {n c m d g1 k : Nat} {q : Option Addr} {R V : List Int} (hS : PS w a b W) (hnp : NewP (w.heap.size + 2) W (some ⟨g1, 0, none⟩) n c q m d R V) (hk : k < n) (z : Int) :
    PS w a b (W.setCell ⟨g1, k, none⟩ (.int .i64 z)) ∧ NewP (w.heap.size + 2) (W.setCell ⟨g1, k, none⟩ (.int .i64 z)) (some ⟨g1, 0, none⟩) n c q m d (R.set k z) V ∧ W.cell? ⟨g1, k, none⟩ = some (.int .i64 (eI R k)) ∧ W.frozen? ⟨g1, k, none⟩ = false := by
  have hg := hnp.g1
  have hl := hnp.inR.len
  have t2 := Turned.setCell W ⟨g1, k, none⟩ (.int .i64 z)
  have r2 := (hnp.r.stored k (.int .i64 z)).1
  rw [valsI_set] at r2
  have f1 := hnp.r.cellAt k (by omega)
  rw [valsI_get R k (by omega)] at f1
  exact ⟨hS.far t2 (show w.heap.size ≠ g1 by omega) (show w.heap.size + 1 ≠ g1 by omega) (show w.heap.size ≤ g1 by omega), ⟨r2, owns_turned hnp.v t2 (fun a e h => hnp.ne _ a rfl e h.symm), hnp.hn, hnp.hm, hnp.ne⟩, f1, hnp.r.frozenAt k⟩
/-- One number of the second row laid anew, in a world that is turned in that block. -/
theorem NewP.setW {B : Nat} {W W' : World} {n c m d g2 : Nat} {p : Option Addr} {R V V' : List Int} (hnp : NewP B W p n c (some ⟨g2, 0, none⟩) m d R V) (ht : Turned W W' g2) (ho : W'.ownsRow B 2 1 (.slice (some ⟨g2, 0, none⟩) m d) m (valsI V')) : NewP B W' p n c (some ⟨g2, 0, none⟩) m d R V' :=
  ⟨owns_turned hnp.r ht (fun a e => hnp.ne a _ e rfl), ho, hnp.hn, hnp.hm, hnp.ne⟩
theorem blockS_ok {R W : List Int} {b : Int} (h : reachE R W b = 0) : blockS R W b = (R, W, 0) := by unfold blockS; rw [if_pos h]
theorem blockS_no {R W : List Int} {b : Int} (h : ¬ reachE R W b = 0) : blockS R W b = ([], [], reachE R W b) := by unfold blockS; rw [if_neg h]
end Go.Proofs.Ytigkfmdhmonjlaa
