/-
  What seal.State answers.
-/
import Derived.Test.YtgeomfgfeemciaaInC
namespace Go.Proofs.Ytgeomfgfeemciaa
open Go.RowKit
theorem In.front {w : World} {p : Option Addr} {n c : Nat} {xs : List Nat} (h : In w p n c xs) (k : Nat) (hk : k ≤ n) : In w p k c (xs.take k) := by
  have hl := h.len
  refine ⟨by rw [List.length_take]; omega, Nat.le_trans hk h.cap, h.max, Nat.le_trans hk h.room, fun x hx => h.byte x (List.mem_of_mem_take hx), fun h0 => ?_, h.nil⟩
  obtain ⟨b, o, hp, hlt, hc⟩ := h.at' (by omega)
  refine ⟨b, o, hp, hlt, fun i hi => ?_⟩
  rw [hc i (by omega)]
  simp [el, List.getElem?_take_of_lt hi]
theorem In.back {w : World} {b o n c : Nat} {xs : List Nat} (h : In w (some ⟨b, o, none⟩) n c xs) (k : Nat) (hk : k ≤ n) : In w (some ⟨b, o + k, none⟩) (n - k) (c - k) (xs.drop k) := by
  have hl := h.len
  have hcap := h.cap
  have hmax := h.max
  have hroom := h.room
  refine ⟨by rw [List.length_drop]; omega, by omega, by omega, by omega, fun x hx => h.byte x (List.mem_of_mem_drop hx), fun h0 => ?_, fun h => by simp at h⟩
  obtain ⟨b', o', hp, hlt, hc⟩ := h.at' (by omega)
  cases hp
  refine ⟨b, o + k, rfl, hlt, fun i hi => ?_⟩
  rw [Nat.add_assoc, hc (k + i) (by omega)]
  simp [el, List.getElem?_drop]
theorem slice_back (b o n c k : Nat) (h : k < n) (hc : n ≤ c) (W : World) :
    (Instr.slice 25 (.slice (some ⟨b, o, none⟩) n c) (some (.int .i64 (k : Int))) none none).run Try.prog W = .ok (.slice (some ⟨b, o + k, none⟩) (n - k) (c - k)) W := by
  have h1 : ¬ c = k := by omega
  simp [Instr.slice, Instr.sliceBounds, Instr.sliceBound, run_underlying Try.underlying25, asIntOf, h1, addr_add]
  intro h3; omega
theorem slice_front (p : Option Addr) (n c k : Nat) (h : k ≤ n) (hc : n ≤ c) (W : World) :
    (Instr.slice 25 (.slice p n c) none (some (.int .i64 (k : Int))) none).run Try.prog W = .ok (.slice p k c) W := by
  simp [Instr.slice, Instr.sliceBounds, Instr.sliceBound, run_underlying Try.underlying25, asIntOf]
  rw [if_pos (by omega)]
  have : (Option.map (fun x : Addr => x.add 0) p) = p := by
    cases p with
    | none => rfl
    | some a => obtain ⟨b, o, s⟩ := a; cases s <;> simp [Addr.add]
  rw [this, ite_self]
end Go.Proofs.Ytgeomfgfeemciaa
