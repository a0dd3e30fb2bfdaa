/-
  What Checkpoint answers.
-/
import Derived.Test.YtpikaagdiafieabMjQ
namespace Go.Proofs.Ytpikaagdiafieab
open Go.RowKit
/-- A part of a checkpoint. -/
def partP (s : MS) (gen : Int) (i : Nat) : MP := ⟨1, gen, (i : Int), s.seq, (s.bad.drop (i * 64)).take 64, (s.wear.drop (i * 64)).take 64, []⟩
def cpL (s : MS) (gen : Int) (m : Nat) : List MP := (List.range m).map (partP s gen)
/-- What Checkpoint answers. -/
def cpR (s : MS) (gen : Int) : List MP × Int := if okMS s then (if okGen gen then (cpL s gen ((s.bad.length + 63) / 64), 0) else ([], 1)) else ([], 60)
theorem eP_cpL {s : MS} {gen : Int} {m i : Nat} (h : i < m) : eP (cpL s gen m) i = partP s gen i := by simp [eP, cpL, h]
theorem cpL_length (s : MS) (gen : Int) (m : Nat) : (cpL s gen m).length = m := by simp [cpL]
theorem InB.sub {w : World} {b o n c : Nat} {xs : List Bool} (h : InB w (some ⟨b, o, none⟩) n c xs) (a e : Nat) (ha : a < e) (he : e ≤ n) : InB w (some ⟨b, o + a, none⟩) (e - a) (c - a) ((xs.drop a).take (e - a)) := by
  have hl := h.len
  have hc := h.cap
  have hm := h.max
  have hr := h.room
  refine ⟨by rw [List.length_take, List.length_drop]; omega, by omega, by omega, by omega, fun _ => ?_, fun h => by cases h⟩
  obtain ⟨b', o', hp, hlt, hcl⟩ := h.at' (by omega)
  cases hp
  refine ⟨b, o + a, rfl, hlt, fun i hi => ?_⟩
  rw [Nat.add_assoc, hcl (a + i) (by omega)]
  simp [eB, List.getElem?_take_of_lt hi, List.getElem?_drop]
theorem InI.sub {w : World} {b o n c : Nat} {xs : List Int} (h : InI w (some ⟨b, o, none⟩) n c xs) (a e : Nat) (ha : a < e) (he : e ≤ n) : InI w (some ⟨b, o + a, none⟩) (e - a) (c - a) ((xs.drop a).take (e - a)) := by
  have hl := h.len
  have hc := h.cap
  have hm := h.max
  have hr := h.room
  refine ⟨by rw [List.length_take, List.length_drop]; omega, by omega, by omega, by omega, fun _ => ?_, fun h => by cases h⟩
  obtain ⟨b', o', hp, hlt, hcl⟩ := h.at' (by omega)
  cases hp
  refine ⟨b, o + a, rfl, hlt, fun i hi => ?_⟩
  rw [Nat.add_assoc, hcl (a + i) (by omega)]
  simp [eI, List.getElem?_take_of_lt hi, List.getElem?_drop]
theorem slice_lhB (b o n c a e : Nat) (ha : a < e) (he : e ≤ n) (hc : n ≤ c) (W : World) : (Instr.slice 23 (.slice (some ⟨b, o, none⟩) n c) (some (.int .i64 (a : Int))) (some (.int .i64 (e : Int))) none).run Try.prog W = .ok (.slice (some ⟨b, o + a, none⟩) (e - a) (c - a)) W := by
  have h1 : ¬ c = a := by omega
  have h2 : a ≤ e := by omega
  have h3 : e ≤ c := by omega
  simp [Instr.slice, Instr.sliceBounds, Instr.sliceBound, run_underlying Try.underlying23, asIntOf, h1, h2, h3, addr_add]
theorem slice_lhL (b o n c a e : Nat) (ha : a < e) (he : e ≤ n) (hc : n ≤ c) (W : World) : (Instr.slice 24 (.slice (some ⟨b, o, none⟩) n c) (some (.int .i64 (a : Int))) (some (.int .i64 (e : Int))) none).run Try.prog W = .ok (.slice (some ⟨b, o + a, none⟩) (e - a) (c - a)) W := by
  have h1 : ¬ c = a := by omega
  have h2 : a ≤ e := by omega
  have h3 : e ≤ c := by omega
  simp [Instr.slice, Instr.sliceBounds, Instr.sliceBound, run_underlying Try.underlying24, asIntOf, h1, h2, h3, addr_add]
theorem infoP : (Try.prog.info? 34).map (fun i => (i.zero, i.size, i.bytes)) = some (some (.agg #[.int .i64 0, .int .i64 0, .int .i64 0, .int .i64 0, .slice none 0 0, .slice none 0 0, .slice none 0 0]), 7, 104) := by kernel_rfl
theorem cells_ltP {V : PV} {P : MP} {j : Nat} {u : Value} (h : (PV.cells V P)[j]? = some u) : j < 7 := by
  rcases Nat.lt_or_ge j 7 with h' | h'
  · exact h'
  · rw [List.getElem?_eq_none (by exact h')] at h; cases h
theorem row_new {cs xs : List Value} {m i j : Nat} {u : Value} (hl : cs.length = m * 7) (hi : i < m) (hx : xs.length = 7) (hu : xs[j]? = some u) : (cs.take (i * 7) ++ xs ++ cs.drop (i * 7 + xs.length))[i * 7 + j]? = some u := by
  have hj : j < 7 := by
    rcases Nat.lt_or_ge j 7 with h' | h'
    · exact h'
    · rw [List.getElem?_eq_none (by omega)] at hu; cases hu
  rw [List.append_assoc, List.getElem?_append_right (by rw [List.length_take]; omega), List.length_take, show i * 7 + j - min (i * 7) cs.length = j by omega, List.getElem?_append_left (by omega)]
  exact hu
theorem row_old {cs xs : List Value} {m k i j : Nat} {u : Value} (hl : cs.length = m * 7) (hk : k < m) (hi : i < k) (_hx : xs.length = 7) (hu : cs[i * 7 + j]? = some u) (hj : j < 7) : (cs.take (k * 7) ++ xs ++ cs.drop (k * 7 + xs.length))[i * 7 + j]? = some u := by
  rw [List.append_assoc, List.getElem?_append_left (by rw [List.length_take]; omega), List.getElem?_take_of_lt (by omega)]
  exact hu
/-- Pages and an error, in new memory. -/
def ResPs (w : World) (r : List MP × Int) (e : Ending) (w' : World) : Prop := ∃ p c f, e = .returned (.tuple #[.slice p r.1.length c, .int .i64 r.2]) ∧ InPs w' p r.1.length c f r.1 ∧ Below w.heap.size w w'
theorem InPs.empty (w : World) (f : Nat → PV) : InPs w none 0 0 f [] := ⟨rfl, Nat.le_refl _, Nat.zero_le _, Nat.zero_le _, fun h => by omega, fun i hi => by omega, fun _ => rfl⟩
theorem make_pages (m : Nat) (hm : m ≤ 1000) : ∃ cs : List Value, cs.length = m * 7 ∧ ∀ W : World, (Instr.makeSlice 22 (.int .i64 (m : Int)) (.int .i64 (m : Int))).run Try.prog W = .ok (.slice (some ⟨W.heap.size, 0, none⟩) m m) (W.alloc (.cells cs.toArray 34)) := by
  obtain ⟨i0, hi, hz0, hz1, hz2⟩ := info_parts infoP
  have := fun W => run_make (P := Try.prog) W 22 34 i0 (.agg #[.int .i64 0, .int .i64 0, .int .i64 0, .int .i64 0, .slice none 0 0, .slice none 0 0, .slice none 0 0]) Try.underlying22 hi hz0 .i64 .i64 (m : Int) (m : Int) (by omega) (by omega) (by rw [hz2]; omega) (by omega)
  simp only [hz1] at this
  refine ⟨(madeCells (.agg #[.int .i64 0, .int .i64 0, .int .i64 0, .int .i64 0, .slice none 0 0, .slice none 0 0, .slice none 0 0] : Value).cells ((m : Int).toNat * 7)).toList, ?_, ?_⟩
  · rw [Array.length_toList, size_madeCells]; simp
  · intro W; rw [this]; simp
/-- Pages and an error, in new memory. -/
def ResPo (w : World) (r : List MP × Int) (e : Ending) (w' : World) : Prop := ∃ p c L, e = .returned (.tuple #[.slice p r.1.length c, .int .i64 r.2]) ∧ w'.ownsRow w.heap.size 34 7 (.slice p r.1.length c) r.1.length (flatQ L) ∧ L.map (·.2) = r.1 ∧ (∀ i, i < r.1.length → OwnP w.heap.size w' (eQ L i).1 (eQ L i).2) ∧ Below w.heap.size w w'
theorem row_flat {cs : List Value} {m : Nat} {L : List QP} (hc : cs.length = m * 7) (hL : L.length = m) (h : ∀ i, i < m → ∀ j u, (QP.cells (eQ L i))[j]? = some u → cs[i * 7 + j]? = some u) : cs = flatQ L := by
  apply List.ext_getElem (by rw [flatQ_length, hc, hL])
  intro t h1 h2
  obtain ⟨i, r, hir, hr⟩ : ∃ i r, t = i * 7 + r ∧ r < 7 := ⟨t / 7, t % 7, by omega, by omega⟩
  have hi : i < m := by omega
  have hu : ∃ u, (QP.cells (eQ L i))[r]? = some u := ⟨(QP.cells (eQ L i))[r]'(by show r < 7; exact hr), List.getElem?_eq_getElem (by show r < 7; exact hr)⟩
  obtain ⟨u, hu⟩ := hu
  have e1 := h i hi r u hu
  have e2 := cells_at (eQ L i) hu (l := L) (k := i) (by omega) rfl
  rw [← hir] at e1 e2
  rw [List.getElem?_eq_getElem h1] at e1
  rw [List.getElem?_eq_getElem h2] at e2
  cases e1
  exact (Option.some.inj e2).symm
theorem owns_of_blkQ {w : World} {B g n : Nat} {L : List QP} (hB : B ≤ g) (hn : L.length = n) (hm : n ≤ maxLen) (h : Blk w g 34 (flatQ L)) : w.ownsRow B 34 7 (.slice (some ⟨g, 0, none⟩) n n) n (flatQ L) :=
  ⟨by rw [flatQ_length, hn], .inr ⟨g, n, (flatQ L).toArray, rfl, hB, h, Nat.le_refl _, hm, by simp [flatQ_length, hn], by rw [List.take_of_length_le (by simp [flatQ_length]; omega)]⟩⟩
end Go.Proofs.Ytpikaagdiafieab
