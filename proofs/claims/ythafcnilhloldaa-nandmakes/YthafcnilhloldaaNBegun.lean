/-
  The first look at a chip, that every law of layer 2 takes.
-/
import Derived.Test.YthafcnilhloldaaNBegunS
namespace Go.Proofs.Ythafcnilhloldaa
open Go.RowKit
def fE (N : Nat) : Nat → Option Addr × Nat × Nat := fun _ => (some ⟨N, 0, none⟩, 1, 1)
theorem src0 (w : World) : EvSrc ((w.alloc (.cells #[.int .u8 255] 5)).alloc (.cells #[.int .i64 2, .int .i64 2, .slice (some ⟨w.heap.size, 0, none⟩) 1 1] 72)) (some ⟨w.heap.size + 1, 0, none⟩) 1 1 [ev0] (fE w.heap.size) := by
  have hE := Blk.new' (w.alloc (.cells #[.int .u8 255] 5)) 72 #[.int .i64 2, .int .i64 2, .slice (some ⟨w.heap.size, 0, none⟩) 1 1]
  have hM : In (w.alloc (.cells #[.int .u8 255] 5)) (some ⟨w.heap.size, 0, none⟩) 1 1 [255] := in_lit w (by rfl) rfl (by simp) (by omega)
  rw [World.size_alloc] at hE
  refine ⟨rfl, Nat.le_refl _, by unfold maxLen; omega, by omega, (fun h => by cases h), fun _ => ⟨w.heap.size + 1, 0, rfl, hE.lt, fun j u hu => ?_⟩, fun i e he => ?_⟩
  · rw [Nat.zero_add]
    exact hE.cell' hu
  · cases i with
    | zero => cases he; exact hM.below (below_alloc _ _)
    | succ i => simp at he
theorem ChipIn.restart {w : World} {c : Nat} {s : St} {bb : Nat} {PV : Nat → Value} (h : ChipIn w c s bb PV) : ChipIn (w.setCell ⟨c, 5, none⟩ (.bool true)) c { s with on := true } bb PV := by
  obtain ⟨ep, el, ec, hc, he⟩ := h.chip
  obtain ⟨BC, hB, hl, hcell⟩ := h.blks
  have hk := (Keep.refl (fun k => k = c) w).setCell ⟨c, 5, none⟩ (.bool true) rfl
  exact ⟨⟨ep, el, ec, hc.set 5 (.bool true), he.keep hk (fun k _ e => .inl e)⟩, ⟨BC, hB.setOther _ _ (fun e => h.ne e.symm), hl, hcell⟩, h.bll,
    fun i b hb => (h.pg i b hb).same (fun k hk' => heap_setCell_other _ _ _ _ (h.nec i (by rw [← h.bll]; exact (List.getElem?_eq_some_iff.1 hb).1) k hk').1), h.ne, h.nec, h.dis, h.nbl, h.npl, h.lim⟩
end Go.Proofs.Ythafcnilhloldaa
