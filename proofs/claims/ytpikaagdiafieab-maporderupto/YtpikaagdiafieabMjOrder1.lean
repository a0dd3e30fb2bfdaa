/-
  MapOrder, the walk.
-/
import Derived.Test.YtpikaagdiafieabMjCatP
import Derived.Test.YtpikaagdiafieabMjOrdP
import Derived.Test.YtpikaagdiafieabMjRefS
namespace Go.Proofs.Ytpikaagdiafieab
open Go.RowKit
theorem replayR_yes {n : Nat} (h : 16 ≤ n ∧ n ≤ 256) (l : List MP) : replayR (n : Int) l = ((replayP n l).1, (replayP n l).2, 0) := by
  unfold replayR; rw [if_pos (by omega), Int.toNat_natCast]
theorem replayR_no {i : Int} (h : ¬ (16 ≤ i ∧ i ≤ 256)) (l : List MP) : replayR i l = (MS.zero, 0, 20) := by
  unfold replayR; rw [if_neg h]
theorem eQ_rev {l : List QP} {i : Nat} (h : i < l.length) : eQ l.reverse i = eQ l (l.length - 1 - i) := by
  simp [eQ, List.getElem?_reverse h]
theorem eQ_app {l m : List QP} {i : Nat} : eQ (l ++ m) i = if i < l.length then eQ l i else eQ m (i - l.length) := by
  simp only [eQ, List.getD_eq_getElem?_getD, List.getElem?_append]
  split <;> rfl
theorem InPs.take {w : World} {p : Option Addr} {n c : Nat} {f : Nat → PV} {l : List MP} (h : InPs w p n c f l) {k : Nat} (hk : k ≤ n) : InPs w p k c f (l.take k) := by
  have hl := h.len
  have e : ∀ i, i < k → eP (l.take k) i = eP l i := fun i hi => by simp [eP, List.getElem?_take_of_lt hi]
  refine ⟨by rw [List.length_take]; omega, Nat.le_trans hk h.cap, h.max, Nat.le_trans hk h.room, fun h0 => ?_, fun i hi => ?_, h.nil⟩
  · obtain ⟨b, o, hp, hlt, hc⟩ := h.at' (by omega)
    refine ⟨b, o, hp, hlt, fun i hi j u hu => ?_⟩
    rw [e i hi] at hu
    exact hc i (by omega) j u hu
  · rw [e i hi]
    exact h.each i (by omega)
theorem sliceP_to {p : Option Addr} {n c k : Nat} (hk : k ≤ n) (hn : n ≤ c) (hp : p = none → c = 0) (W : World) : (Instr.slice 22 (.slice p n c) none (some (.int .i64 (k : Int))) none).run Try.prog W = .ok (.slice p k c) W := by
  obtain ⟨i0, hi, _, _, _⟩ := info_parts infoQ
  cases p with
  | none =>
    have hc := hp rfl
    have hk0 : k = 0 := by omega
    subst hc; subst hk0
    simp [Instr.slice, Instr.sliceBounds, Instr.sliceBound, run_underlying Try.underlying22, asIntOf, sizeOf, typeInfo, hi]
  | some a =>
    have h1 : k ≤ c := by omega
    simp [Instr.slice, Instr.sliceBounds, Instr.sliceBound, run_underlying Try.underlying22, asIntOf, sizeOf, typeInfo, hi, h1, Addr.add]
end Go.Proofs.Ytpikaagdiafieab
