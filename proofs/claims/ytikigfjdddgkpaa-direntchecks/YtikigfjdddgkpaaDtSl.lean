/-
  Slices of slices of bytes; bytes as a name.
-/
import Derived.Test.YtikigfjdddgkpaaDtB
import Derived.Test.YtikigfjdddgkpaaEqual
import Derived.Laws.ResultCell
namespace Go.Proofs.Ytikigfjdddgkpaa
open Go.RowKit
theorem In.front {w : World} {p : Option Addr} {n c : Nat} {xs : List Nat} (h : In w p n c xs) (k : Nat) (hk : k ≤ n) : In w p k c (xs.take k) := by
  have hl := h.len
  refine ⟨by rw [List.length_take]; omega, Nat.le_trans hk h.cap, h.max, Nat.le_trans hk h.room, fun x hx => h.byte x (List.mem_of_mem_take hx), fun h0 => ?_, h.nil⟩
  obtain ⟨b, o, hp, hlt, hc⟩ := h.at' (by omega)
  refine ⟨b, o, hp, hlt, fun i hi => ?_⟩
  rw [hc i (by omega)]
  simp [el, List.getElem?_take_of_lt hi]
theorem In.back {w : World} {b o n c : Nat} {xs : List Nat} (h : In w (some ⟨b, o, none⟩) n c xs) (k : Nat) (hk : k ≤ n) : In w (some ⟨b, o + k, none⟩) (n - k) (c - k) (xs.drop k) := by
  have hl := h.len
  have hcap := h.cap
  have hmax := h.max
  have hroom := h.room
  refine ⟨by rw [List.length_drop]; omega, by omega, by omega, by omega, fun x hx => h.byte x (List.mem_of_mem_drop hx), fun h0 => ?_, fun h => by simp at h⟩
  obtain ⟨b', o', hp, hlt, hc⟩ := h.at' (by omega)
  cases hp
  refine ⟨b, o + k, rfl, hlt, fun i hi => ?_⟩
  rw [Nat.add_assoc, hc (k + i) (by omega)]
  simp [el, List.getElem?_drop]
theorem slice_back (b o n c k : Nat) (h : k < n) (hc : n ≤ c) (W : World) :
    (Instr.slice 22 (.slice (some ⟨b, o, none⟩) n c) (some (.int .i64 (k : Int))) none none).run Try.prog W = .ok (.slice (some ⟨b, o + k, none⟩) (n - k) (c - k)) W := by
  have h1 : ¬ c = k := by omega
  simp [Instr.slice, Instr.sliceBounds, Instr.sliceBound, run_underlying Try.underlying22, asIntOf, h1, addr_add]
  intro h3; omega
theorem slice_front (p : Option Addr) (n c k : Nat) (h : k ≤ n) (hc : n ≤ c) (W : World) :
    (Instr.slice 22 (.slice p n c) none (some (.int .i64 (k : Int))) none).run Try.prog W = .ok (.slice p k c) W := by
  simp [Instr.slice, Instr.sliceBounds, Instr.sliceBound, run_underlying Try.underlying22, asIntOf]
  rw [if_pos (by omega)]
  have : (Option.map (fun x : Addr => x.add 0) p) = p := by
    cases p with
    | none => rfl
    | some a => obtain ⟨b, o, s⟩ := a; cases s <;> simp [Addr.add]
  rw [this, ite_self]
theorem slice_mid (b o n c k m : Nat) (hk : k < m) (h : m ≤ n) (hc : n ≤ c) (W : World) :
    (Instr.slice 22 (.slice (some ⟨b, o, none⟩) n c) (some (.int .i64 (k : Int))) (some (.int .i64 (m : Int))) none).run Try.prog W = .ok (.slice (some ⟨b, o + k, none⟩) (m - k) (c - k)) W := by
  have h1 : ¬ c = k := by omega
  simp [Instr.slice, Instr.sliceBounds, Instr.sliceBound, run_underlying Try.underlying22, asIntOf, h1, addr_add]
  rw [if_pos (by omega), if_pos (by omega)]
/-- A slice from a place on, which may be its end. -/
theorem slice_rest {w : World} {b o n c k : Nat} {xs : List Nat} (hx : In w (some ⟨b, o, none⟩) n c xs) (h : k ≤ n) :
    ∃ o', (∀ W, (Instr.slice 22 (.slice (some ⟨b, o, none⟩) n c) (some (.int .i64 (k : Int))) none none).run Try.prog W = .ok (.slice (some ⟨b, o', none⟩) (n - k) (c - k)) W) ∧ In w (some ⟨b, o', none⟩) (n - k) (c - k) (xs.drop k) ∧ (k < n → o' = o + k) := by
  have hc := hx.cap
  by_cases hk : k < n
  · exact ⟨o + k, fun W => slice_back b o n c k hk hc W, hx.back k h, fun _ => rfl⟩
  · obtain rfl : k = n := by omega
    by_cases h1 : c = k
    · subst h1
      refine ⟨o, fun W => ?_, ?_, fun h2 => absurd h2 hk⟩
      · simp [Instr.slice, Instr.sliceBounds, Instr.sliceBound, run_underlying Try.underlying22, asIntOf]
      · have hb := hx.back c (Nat.le_refl _)
        rw [Nat.sub_self] at hb ⊢
        exact ⟨hb.len, hb.cap, hb.max, hb.room, hb.byte, fun h => by omega, fun h => by cases h⟩
    · refine ⟨o + k, fun W => ?_, hx.back k (Nat.le_refl _), fun h2 => absurd h2 hk⟩
      simp [Instr.slice, Instr.sliceBounds, Instr.sliceBound, run_underlying Try.underlying22, asIntOf, h1, addr_add]
theorem In.turned {w w' : World} {p : Option Addr} {n c g : Nat} {xs : List Nat} (h : In w p n c xs) (ht : Turned w w' g) (hne : ∀ a, p = some a → a.block ≠ g) : In w' p n c xs :=
  ⟨h.len, h.cap, h.max, h.room, h.byte, fun h0 => by
    obtain ⟨b, o, hp, hlt, hc⟩ := h.at' h0
    exact ⟨b, o, hp, by rw [ht.size]; exact hlt, fun i hi => (ht.cell (a := ⟨b, o + i, none⟩) (show b ≠ g from hne _ hp)).trans (hc i hi)⟩, h.nil⟩
theorem In.cellAt {w : World} {b o n c : Nat} {xs : List Nat} (h : In w (some ⟨b, o, none⟩) n c xs) {i : Nat} (hi : i < n) : w.cell? ⟨b, o + i, none⟩ = some (.int .u8 ((xs.getD i 0 : Nat) : Int)) := by
  obtain ⟨b', o', hp, -, hc⟩ := h.at' (by omega)
  cases hp
  exact hc i hi
theorem strNm (xs : List Nat) : strOfNums (xs.map fun x : Nat => (x : Int)) = ⟨(nmOf xs).toArray⟩ := by
  have h := str_list xs
  rw [ByteArray.toList_eq] at h
  apply ByteArray.ext
  apply Array.ext'
  rw [h]
  rfl
/-- Bytes as a name. -/
theorem conv_nm {w : World} {p : Option Addr} {n c : Nat} {xs : List Nat} (h : In w p n c xs) : (convert 22 9 (.slice p n c)).run Try.prog w = .ok (.string ⟨(nmOf xs).toArray⟩) w := by
  rw [conv_in h, strNm]
theorem ret_recV {fn : Func} {p u : Tmp} (h : fn.results = #[.cell p 69, .tmp u]) {R : Ending → World → Prop} {a : Act} {w : World} {g : Nat} {t : TypeId} {x0 x1 x2 x3 x4 v : Value} (hp : a.tmps.getD p undef = .pointer (some ⟨g, 0, none⟩))
    (hb : Blk w g t [x0, x1, x2, x3, x4]) (hd : a.defers = []) (hu : a.tmps.getD u undef = v) (hR : R (.returned (.tuple #[.agg #[x0, x1, x2, x3, x4], v])) w) : bodyPost Try.prog fn R .ret a w := by
  refine bodyPost_ret (v := .tuple #[.agg #[x0, x1, x2, x3, x4], v]) ?_ hd hR
  rw [results_cell_tmp h, hp, hu]
  have := run_loadVar_mid w g 0 69 [x0, x1, x2, x3, x4] _ (hb.range 0 5 _ rfl) Try.underlying69 rfl (by kernel_rfl)
  simp only [asAddr, Sem.run_pure, Result.andThen_ok, this]
end Go.Proofs.Ytikigfjdddgkpaa
