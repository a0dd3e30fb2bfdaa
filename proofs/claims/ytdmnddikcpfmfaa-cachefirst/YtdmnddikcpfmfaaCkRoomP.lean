/-
  How room is made, plain.
-/
import Derived.Test.YtdmnddikcpfmfaaCkHome2
namespace Go.Proofs.Ytdmnddikcpfmfaa
/-- The first that is so, with what stands ahead of it and behind it. -/
def cutAt {α : Type} (f : α → Bool) : List α → Option (List α × α × List α)
  | [] => none
  | x :: r => if f x = true then some ([], x, r) else (cutAt f r).map fun t => (x :: t.1, t.2.1, t.2.2)
theorem cutAt_some {α : Type} {f : α → Bool} {x : α} {q : List α} (hx : f x = true) : ∀ {p : List α}, (∀ y ∈ p, f y = false) → cutAt f (p ++ x :: q) = some (p, x, q)
  | [], _ => by simp [cutAt, hx]
  | y :: p, h => by
    have hy := h y (List.mem_cons_self ..)
    have ih := cutAt_some (q := q) hx (p := p) (fun z hz => h z (List.mem_cons_of_mem _ hz))
    simp [cutAt, hy, ih]
theorem cutAt_none {α : Type} {f : α → Bool} : ∀ {l : List α}, (∀ y ∈ l, f y = false) → cutAt f l = none
  | [], _ => rfl
  | y :: p, h => by
    have hy := h y (List.mem_cons_self ..)
    have ih := cutAt_none (l := p) (fun z hz => h z (List.mem_cons_of_mem _ hz))
    simp [cutAt, hy, ih]
theorem cutAt_spec {α : Type} {f : α → Bool} : ∀ {l p q : List α} {x : α}, cutAt f l = some (p, x, q) → l = p ++ x :: q ∧ f x = true ∧ ∀ y ∈ p, f y = false
  | [], p, q, x, h => by simp [cutAt] at h
  | y :: r, p, q, x, h => by
    rw [cutAt] at h
    split at h
    · next hy =>
      simp at h
      obtain ⟨rfl, rfl, rfl⟩ := h
      exact ⟨rfl, hy, by simp⟩
    · next hy =>
      cases hc : cutAt f r with
      | none => rw [hc] at h; simp at h
      | some t =>
        obtain ⟨a, b, c⟩ := t
        rw [hc] at h
        simp at h
        obtain ⟨rfl, rfl, rfl⟩ := h
        obtain ⟨h1, h2, h3⟩ := cutAt_spec hc
        refine ⟨by rw [h1]; rfl, h2, fun z hz => ?_⟩
        rcases List.mem_cons.1 hz with rfl | hz
        · simpa using hy
        · exact h3 z hz
/-- Room is made: the error, the buffers, the disk. -/
def roomR (r : Nat) (l : List BP) (ds : DS) : Int × List BP × DS :=
  if l.length < r then (0, l, ds) else
  match cutAt goesB l with
  | none => (100, l, ds)
  | some (p, x, q) => if x.cl = 0 then (0, p ++ q, ds) else
    (writeE ds (x.k : Int) x.D.length, if writeE ds (x.k : Int) x.D.length = 0 then p ++ q else l, writeS ds (x.k : Int) x.D)
theorem roomR_room {r : Nat} {l : List BP} {ds : DS} (h : l.length < r) : roomR r l ds = (0, l, ds) := if_pos h
theorem roomR_pins {r : Nat} {l : List BP} {ds : DS} (h : ¬ l.length < r) (hn : ∀ y ∈ l, goesB y = false) : roomR r l ds = (100, l, ds) := by
  rw [roomR, if_neg h, cutAt_none hn]
theorem roomR_clean {r : Nat} {p q : List BP} {x : BP} {ds : DS} (h : ¬ (p ++ x :: q).length < r) (hn : ∀ y ∈ p, goesB y = false) (hx : goesB x = true) (hc : x.cl = 0) : roomR r (p ++ x :: q) ds = (0, p ++ q, ds) := by
  rw [roomR, if_neg h, cutAt_some hx hn]
  simp [hc]
theorem roomR_dirty {r : Nat} {p q : List BP} {x : BP} {ds : DS} (h : ¬ (p ++ x :: q).length < r) (hn : ∀ y ∈ p, goesB y = false) (hx : goesB x = true) (hc : ¬ x.cl = 0) : roomR r (p ++ x :: q) ds = (writeE ds (x.k : Int) x.D.length, if writeE ds (x.k : Int) x.D.length = 0 then p ++ q else p ++ x :: q, writeS ds (x.k : Int) x.D) := by
  rw [roomR, if_neg h, cutAt_some hx hn]
  simp [hc]
/-- What room leaves was there. -/
theorem roomR_cases (r : Nat) (l : List BP) (ds : DS) : (roomR r l ds = (0, l, ds) ∧ l.length < r) ∨ (roomR r l ds = (100, l, ds) ∧ ¬ l.length < r ∧ ∀ y ∈ l, goesB y = false) ∨ ∃ p x q, l = p ++ x :: q ∧ ¬ l.length < r ∧ goesB x = true ∧ (∀ y ∈ p, goesB y = false) ∧
    ((x.cl = 0 ∧ roomR r l ds = (0, p ++ q, ds)) ∨ (x.cl ≠ 0 ∧ writeE ds (x.k : Int) x.D.length = 0 ∧ roomR r l ds = (0, p ++ q, writeS ds (x.k : Int) x.D)) ∨ (x.cl ≠ 0 ∧ writeE ds (x.k : Int) x.D.length ≠ 0 ∧ roomR r l ds = (writeE ds (x.k : Int) x.D.length, l, writeS ds (x.k : Int) x.D))) := by
  by_cases h : l.length < r
  · exact .inl ⟨roomR_room h, h⟩
  · refine .inr ?_
    cases hc : cutAt goesB l with
    | none =>
      refine .inl ⟨by rw [roomR, if_neg h, hc], h, fun y hy => ?_⟩
      cases hg : goesB y with
      | false => rfl
      | true =>
        exfalso
        have : ∀ l : List BP, cutAt goesB l = none → ∀ y ∈ l, goesB y = false := by
          intro l
          induction l with
          | nil => intro _ y hy; simp at hy
          | cons a l ih =>
            intro hn y hy
            rw [cutAt] at hn
            split at hn
            · simp at hn
            · next ha =>
              rcases List.mem_cons.1 hy with rfl | hy
              · simpa using ha
              · exact ih (by simpa using hn) y hy
        rw [this l hc y hy] at hg
        cases hg
    | some t =>
      obtain ⟨p, x, q⟩ := t
      obtain ⟨e1, e2, e3⟩ := cutAt_spec hc
      refine .inr ⟨p, x, q, e1, h, e2, e3, ?_⟩
      by_cases h0 : x.cl = 0
      · exact .inl ⟨h0, by rw [roomR, if_neg h, hc]; simp [h0]⟩
      · refine .inr ?_
        by_cases hE : writeE ds (x.k : Int) x.D.length = 0
        · exact .inl ⟨h0, hE, by rw [roomR, if_neg h, hc]; simp [h0, hE]⟩
        · exact .inr ⟨h0, hE, by rw [roomR, if_neg h, hc]; simp [h0, hE]⟩
end Go.Proofs.Ytdmnddikcpfmfaa
