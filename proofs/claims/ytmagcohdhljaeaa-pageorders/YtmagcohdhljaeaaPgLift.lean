/-
  How headers and pages that came in are read: as what the walks ask for.
-/
import Derived.Test.YtmagcohdhljaeaaPgLive2
import Derived.Test.YtmagcohdhljaeaaLift
namespace Go.Proofs.Ytmagcohdhljaeaa
open Go.ChangeShapes Go.WideShapes Go.ChangeAt Go.RowKit
theorem cellTypesH : Try.prog.cellTypes Try.prog.depth 23 = some [3, 3, 2, 2] := by kernel_rfl
theorem cellTypesP : Try.prog.cellTypes Try.prog.depth 29 = some (List.replicate 288 5) := by kernel_rfl
theorem cellsH : Try.prog.cellsOf 23 = 4 := by kernel_rfl
theorem cellsP : Try.prog.cellsOf 29 = 288 := by kernel_rfl
set_option maxRecDepth 100000 in
theorem cell_i {W : World} {r : Reach} {b : Nat} {t : TypeId} {k : IntKind} {v : Value} (ht : Try.prog.underlying t = some (.int k)) (h : Cell.okWide Try.prog W r b t v) : ∃ n, v = .int k n ∧ k.has n := by
  simp only [Cell.okWide, ht, Cell.ok] at h
  cases v <;> simp_all
set_option maxRecDepth 100000 in
theorem okHdr {W : World} {r : Reach} {b : Nat} {v : Value} (h : Value.okWide Try.prog W r b 23 v) : ∃ k g s t, v = .agg #[.int .i64 k, .int .i64 g, .int .i64 s, .int .i64 t] := by
  simp only [Value.okWide, Try.underlying23] at h
  obtain ⟨cs, rfl, hsz, ts, hts, _, hc⟩ := h
  rw [cellTypesH] at hts
  cases hts
  rw [cellsH] at hsz
  obtain ⟨l⟩ := cs
  match l, hsz with
  | [a0, a1, a2, a3], _ =>
    obtain ⟨u0, e0, h0⟩ := hc 0 a0 rfl
    obtain ⟨u1, e1, h1⟩ := hc 1 a1 rfl
    obtain ⟨u2, e2, h2⟩ := hc 2 a2 rfl
    obtain ⟨u3, e3, h3⟩ := hc 3 a3 rfl
    cases e0; cases e1; cases e2; cases e3
    obtain ⟨k, rfl, _⟩ := cell_i Try.underlying3 h0
    obtain ⟨g, rfl, _⟩ := cell_i Try.underlying3 h1
    obtain ⟨s, rfl, _⟩ := cell_i Try.underlying2 h2
    obtain ⟨t, rfl, _⟩ := cell_i Try.underlying2 h3
    exact ⟨k, g, s, t, rfl⟩
set_option maxRecDepth 100000 in
theorem okPage {W : World} {r : Reach} {b : Nat} {v : Value} (h : Value.okWide Try.prog W r b 29 v) : ∃ P, IsP P ∧ v = .agg (vals P).toArray := by
  simp only [Value.okWide, Try.underlying29] at h
  obtain ⟨cs, rfl, hsz, ts, hts, _, hc⟩ := h
  rw [cellTypesP] at hts
  cases hts
  rw [cellsP] at hsz
  have hb : ∀ (i : Nat) (v : Value), cs[i]? = some v → ∃ n : Nat, v = Value.int .u8 (n : Int) ∧ n < 256 := by
    intro i v hv
    obtain ⟨u, hu, hok⟩ := hc i v hv
    have e : u = 5 := by
      have := List.mem_of_getElem? hu
      exact List.eq_of_mem_replicate this
    subst e
    obtain ⟨n, rfl, hn⟩ := cell_i Try.underlying5 hok
    simp [IntKind.has, IntKind.min, IntKind.max, IntKind.signed, IntKind.bits] at hn
    exact ⟨n.toNat, by congr 1; omega, by omega⟩
  have key : ∀ l : List Value, (∀ v ∈ l, ∃ n : Nat, v = Value.int .u8 (n : Int) ∧ n < 256) → ∃ P : List Nat, l = vals P ∧ ∀ x ∈ P, x < 256 := by
    intro l
    induction l with
    | nil => intro _; exact ⟨[], rfl, fun _ h => by simp at h⟩
    | cons v r ih =>
      intro hl
      obtain ⟨n, rfl, hn⟩ := hl v (by simp)
      obtain ⟨P, rfl, hP⟩ := ih (fun v hv => hl v (by simp [hv]))
      exact ⟨n :: P, rfl, fun x hx => by rcases List.mem_cons.1 hx with h | h; omega; exact hP x h⟩
  obtain ⟨l⟩ := cs
  obtain ⟨P, hP, hb'⟩ := key l (fun v hv => by
    obtain ⟨i, hi⟩ := List.getElem?_of_mem hv
    exact hb i v (by simpa using hi))
  subst hP
  exact ⟨P, ⟨by simpa [vals] using hsz, hb'⟩, rfl⟩
end Go.Proofs.Ytmagcohdhljaeaa
