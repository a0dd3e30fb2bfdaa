/-
  Rows of ints that a call owns.
-/
import Derived.Test.YtmagcohdhljaeaaPgOrd1
import Derived.Test.YtmagcohdhljaeaaOwn
import Derived.Test.YtmagcohdhljaeaaWidth
import Derived.Test.YtmagcohdhljaeaaNCells
namespace Go.Proofs.Ytmagcohdhljaeaa
open Go.RowKit
theorem info3 : (Try.prog.info? 3).map (fun i => (i.zero, i.size, i.bytes)) = some (some (.int .i64 0), 1, 8) := by kernel_rfl
theorem size3 : (Try.prog.info? 3).map (·.size) = some 1 := by kernel_rfl
/-- Numbers as cells. -/
def valsI (xs : List Int) : List Value := xs.map fun x : Int => Value.int .i64 x
theorem valsI_length (xs : List Int) : (valsI xs).length = xs.length := by simp [valsI]
theorem valsI_append (a b : List Int) : valsI (a ++ b) = valsI a ++ valsI b := by simp [valsI]
theorem valsI_get (xs : List Int) (j : Nat) (h : j < xs.length) : (valsI xs)[j]? = some (.int .i64 (eI xs j)) := by
  simp [valsI, eI, h]
theorem valsI_set (xs : List Int) (i : Nat) (x : Int) : (valsI xs).set i (.int .i64 x) = valsI (xs.set i x) := by simp [valsI, List.map_set]
theorem in_of_ownsI {w : World} {B : Nat} {e : TypeId} {v : Value} {n : Nat} {xs : List Int} (h : w.ownsRow B e 1 v n (valsI xs)) (hr : n ≤ 140737488355328) :
    ∃ p c, v = .slice p n c ∧ InI w p n c xs := by
  have hl : xs.length = n := by have := h.1; simpa [valsI] using this
  rcases h.2 with ⟨rfl, rfl⟩ | ⟨g, cap, cur, rfl, hg, hh, hnc, hcm, hsz, htk⟩
  · have : xs = [] := List.eq_nil_of_length_eq_zero hl
    subst this
    exact ⟨none, 0, rfl, rfl, Nat.le_refl _, Nat.zero_le _, Nat.zero_le _, fun h => by omega⟩
  · refine ⟨some ⟨g, 0, none⟩, cap, rfl, hl, hnc, hcm, hr, fun h0 => ⟨g, 0, rfl, ?_, fun i hi => ?_⟩⟩
    · rcases Nat.lt_or_ge g w.heap.size with h' | h'
      · exact h'
      · rw [Array.getElem?_eq_none h'] at hh; simp at hh
    · have := World.ownsRow.cellAt h i (by omega)
      rw [Nat.zero_add, this, valsI_get xs i (by omega)]
/-- A number laid into a row of the call's own. -/
theorem run_store_own {w : World} {B e g k n c : Nat} {xs : List Int} (h : w.ownsRow B e 1 (.slice (some ⟨g, 0, none⟩) n c) n (valsI xs)) (hk : k < n) (ty : TypeId) (hi : (Try.prog.info? ty).map (·.size) = some 1) (z : Int) :
    ∃ w', (storeVar ty ⟨g, k, none⟩ (.int .i64 z)).run Try.prog w = .ok () w' ∧ w'.ownsRow B e 1 (.slice (some ⟨g, 0, none⟩) n c) n (valsI (xs.set k z)) ∧ Turned w w' g := by
  have hl : xs.length = n := by have := h.1; simpa [valsI] using this
  have hc := h.cellAt k (by omega)
  rw [valsI_get xs k (by omega)] at hc
  have hf := h.frozenAt k
  have hst := run_storeCells_cells (P := Try.prog) g k [.int .i64 z] 0 w (fun j hj => by simp at hj; subst hj; simp [hc]) (fun j hj => by simp at hj; subst hj; simpa using hf) (by simp [Value.oneCell'])
  refine ⟨w.setCell ⟨g, k, none⟩ (.int .i64 z), ?_, ?_, Turned.setCell _ _ _⟩
  · cases hq : Try.prog.info? ty with
    | none => simp [hq] at hi
    | some i =>
      have hs : 1 = i.size := by simp [hq] at hi; omega
      simp only [storeVar, sizeOf, typeInfo, Sem.run_bind, Value.cells]
      simp [← hs, hq, hst, World.setCells]
  · have := (h.stored k (.int .i64 z)).1
    rwa [valsI_set] at this
theorem wp_store_own {op : Oper} {a : Act} {w : World} {K : Act → World → Prop} {Q : Exit → Act → World → Prop} (ty : TypeId) (x y : Operand) (ho : op.op = .store ty x y)
    (g k : Nat) (z : Int) (hx : a.eval x = .pointer (some ⟨g, k, none⟩)) (hy : a.eval y = .int .i64 z) {B e n c : Nat} {xs : List Int} (h : w.ownsRow B e 1 (.slice (some ⟨g, 0, none⟩) n c) n (valsI xs)) (hk : k < n)
    (hi : (Try.prog.info? ty).map (·.size) = some 1)
    (hK : ∀ w', w'.ownsRow B e 1 (.slice (some ⟨g, 0, none⟩) n c) n (valsI (xs.set k z)) → Turned w w' g → K (a.put op.dst undef) w') : op.wp Try.prog a w K Q := by
  obtain ⟨w', hrun, hown, ht⟩ := run_store_own h hk ty hi z
  unfold Oper.wp execOp
  simp only [ho, hx, hy, Instr.storeAt, Instr.sureAddr, Sem.run_bind, Sem.run_pure, Result.andThen_ok, hrun]
  exact hK _ hown ht
/-- Where a row that is not empty lies. -/
theorem owns_at {w : World} {B e n c : Nat} {p : Option Addr} {xs : List Value} (h : w.ownsRow B e 1 (.slice p n c) n xs) (hn : 0 < n) : ∃ g, p = some ⟨g, 0, none⟩ ∧ B ≤ g ∧ g < w.heap.size := by
  rcases h.2 with ⟨_, h0⟩ | ⟨g, cap, cur, hv, hb, hg, _⟩
  · omega
  · simp only [Value.slice.injEq] at hv
    refine ⟨g, hv.1, hb, ?_⟩
    rcases Nat.lt_or_ge g w.heap.size with h' | h'
    · exact h'
    · rw [Array.getElem?_eq_none h'] at hg; simp at hg
def natsI (l : List Nat) : List Int := l.map fun i : Nat => (i : Int)
theorem natsI_length (l : List Nat) : (natsI l).length = l.length := by simp [natsI]
theorem natsI_snoc' (l : List Nat) (k : Nat) : valsI (natsI (l ++ [k])) = valsI (natsI l) ++ [.int .i64 (k : Int)] := by simp [natsI, valsI]
theorem natsI_set (l : List Nat) (i k : Nat) : (natsI l).set i (k : Int) = natsI (l.set i k) := by simp [natsI, List.map_set]
theorem natsI_get {l : List Nat} {i k : Nat} (h : l[i]? = some k) : eI (natsI l) i = (k : Int) := by simp [natsI, eI, h]
theorem new_one (W : World) (z : Int) : ∀ j u, [Value.int .i64 z][j]? = some u → (W.alloc (.cells #[.int .i64 z] 3)).cell? ((⟨W.heap.size, 0, none⟩ : Addr).add j) = some u := by
  intro j u h
  match j, h with
  | 0, h =>
    simp at h
    subst h
    rw [addr_add]
    exact (Blk.new' W 3 #[.int .i64 z]).cell' rfl
theorem snoc_form {w : World} {B e n : Nat} {v : Value} {R : List Int} {z : Int} (h : w.ownsRow B e 1 v (n + 1) (valsI R ++ [.int .i64 z])) (hn : n + 1 ≤ 1000000) : ∃ p c, v = .slice p (n + 1) c := by
  have e1 : valsI R ++ [Value.int .i64 z] = valsI (R ++ [z]) := by rw [valsI_append]; rfl
  rw [e1] at h
  obtain ⟨p, c, h', _⟩ := in_of_ownsI h (by omega)
  exact ⟨p, c, h'⟩
theorem owns_cell {w : World} {B g n c : Nat} {l : List Nat} (h : w.ownsRow B 3 1 (.slice (some ⟨g, 0, none⟩) n c) n (valsI (natsI l))) {i k : Nat} (hi : l[i]? = some k) : w.cell? ⟨g, i, none⟩ = some (.int .i64 (k : Int)) := by
  have hl : l.length = n := by have := h.1; simpa [valsI, natsI] using this
  have hlt : i < l.length := (List.getElem?_eq_some_iff.1 hi).1
  have := h.cellAt i (by omega)
  rw [this, valsI_get _ _ (by rw [natsI_length]; exact hlt), natsI_get hi]
end Go.Proofs.Ytmagcohdhljaeaa
