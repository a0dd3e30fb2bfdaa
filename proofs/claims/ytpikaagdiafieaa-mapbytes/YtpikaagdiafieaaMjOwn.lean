/-
  A state in new memory, and in a box of its own.
-/
import Derived.Test.YtpikaagdiafieaaMjCheck
namespace Go.Proofs.Ytpikaagdiafieaa
open Go.RowKit
theorem info2 : (Try.prog.info? 2).map (fun i => (i.zero, i.size, i.bytes)) = some (some (.int .i64 0), 1, 8) := by kernel_rfl
theorem size2 : (Try.prog.info? 2).map (·.size) = some 1 := by kernel_rfl
theorem size4 : (Try.prog.info? 4).map (·.size) = some 1 := by kernel_rfl
theorem owns_ne {w : World} {B B' e e' s s' n m c d : Nat} {p q : Option Addr} {xs ys : List Value} (he : e ≠ e') (h : w.ownsRow B e s (.slice p n c) n xs) (h' : w.ownsRow B' e' s' (.slice q m d) m ys) : ∀ a b, p = some a → q = some b → a.block ≠ b.block := by
  intro a b ha hb hab
  subst ha hb
  rcases h.2 with ⟨h0, _⟩ | ⟨g, cap, cur, hv, _, hh, _⟩
  · simp at h0
  · rcases h'.2 with ⟨h0, _⟩ | ⟨g', cap', cur', hv', _, hh', _⟩
    · simp at h0
    · simp only [Value.slice.injEq, Option.some.injEq] at hv hv'
      rw [hv.1, hv'.1] at hab
      have hab : g = g' := hab
      rw [hab, hh'] at hh
      simp only [Option.some.injEq, Obj.cells.injEq] at hh
      exact he hh.2.1.symm
theorem owns_blk_ne {w : World} {B e s n c g : Nat} {t : TypeId} {p : Option Addr} {xs cs : List Value} (he : e ≠ t) (h : w.ownsRow B e s (.slice p n c) n xs) (hb : Blk w g t cs) : ∀ a, p = some a → a.block ≠ g := by
  intro a ha hab
  subst ha
  rcases h.2 with ⟨h0, _⟩ | ⟨k, cap, cur, hv, _, hh, _⟩
  · simp at h0
  · simp only [Value.slice.injEq, Option.some.injEq] at hv
    rw [hv.1] at hab
    have hab : k = g := hab
    rw [hab, show w.heap[g]? = _ from hb] at hh
    simp only [Option.some.injEq, Obj.cells.injEq] at hh
    exact he hh.2.1.symm
/-- A state whose rows lie in new memory. -/
structure OwnS (B : Nat) (w : World) (V : SV) (s : MS) : Prop where
  b : w.ownsRow B 4 1 (.slice V.p V.n V.c) V.n (valsB s.bad)
  v : w.ownsRow B 2 1 (.slice V.q V.m V.d) V.m (valsI s.wear)
  hn : V.n ≤ 1125899906842624
  hm : V.m ≤ 140737488355328
theorem OwnS.next {B : Nat} {w w' : World} {V : SV} {s : MS} (h : OwnS B w V s) (hb : Below w.heap.size w w') : OwnS B w' V s := ⟨owns_below h.b hb, owns_below h.v hb, h.hn, h.hm⟩
theorem OwnS.low {A B : Nat} {w : World} {V : SV} {s : MS} (h : OwnS B w V s) (hb : A ≤ B) : OwnS A w V s := ⟨owns_mono h.b hb, owns_mono h.v hb, h.hn, h.hm⟩
theorem OwnS.inS {B : Nat} {w : World} {V : SV} {s : MS} (h : OwnS B w V s) : InS w V s := by
  refine ⟨?_, ?_⟩
  · obtain ⟨p', c', hv, hin⟩ := in_of_ownsB h.b h.hn
    cases hv; exact hin
  · obtain ⟨p', c', hv, hin⟩ := in_of_ownsI h.v h.hm
    cases hv; exact hin
theorem OwnS.turned {B g : Nat} {w w' : World} {V : SV} {s : MS} (h : OwnS B w V s) (ht : Turned w w' g) (h1 : ∀ a, V.p = some a → a.block ≠ g) (h2 : ∀ a, V.q = some a → a.block ≠ g) : OwnS B w' V s := ⟨owns_turned h.b ht h1, owns_turned h.v ht h2, h.hn, h.hm⟩
/-- A state whose fields are another's Seq. -/
theorem OwnS.seq {B : Nat} {w : World} {V : SV} {s : MS} (h : OwnS B w V s) (x : Int) : OwnS B w V { s with seq := x } := ⟨h.b, h.v, h.hn, h.hm⟩
/-- A state in a box. -/
structure BoxS (B : Nat) (w : World) (g : Nat) (V : SV) (s : MS) : Prop where
  box : Blk w g 25 (V.cells s)
  own : OwnS B w V s
  hg : B ≤ g
theorem BoxS.ne1 {B g : Nat} {w : World} {V : SV} {s : MS} (h : BoxS B w g V s) : ∀ a, V.p = some a → a.block ≠ g := owns_blk_ne (by decide) h.own.b h.box
theorem BoxS.ne2 {B g : Nat} {w : World} {V : SV} {s : MS} (h : BoxS B w g V s) : ∀ a, V.q = some a → a.block ≠ g := owns_blk_ne (by decide) h.own.v h.box
theorem BoxS.next {B g : Nat} {w w' : World} {V : SV} {s : MS} (h : BoxS B w g V s) (hb : Below w.heap.size w w') : BoxS B w' g V s := ⟨h.box.kept hb, h.own.next hb, h.hg⟩
theorem BoxS.drew {B g : Nat} {w : World} {V : SV} {s : MS} (h : BoxS B w g V s) : BoxS B w.drew g V s := ⟨h.box.drew, h.own.next (Below.refl _ _).drew, h.hg⟩
/-- All blocks are the same but for what lies in new memory, from B on. -/
theorem BoxS.setSeq {B g : Nat} {w w' : World} {V : SV} {s : MS} (h : BoxS B w g V s) (ht : Turned w w' g) (x : Int) (hb : Blk w' g 25 (V.cells { s with seq := x })) : BoxS B w' g V { s with seq := x } :=
  ⟨hb, (h.own.turned ht h.ne1 h.ne2).seq x, h.hg⟩
theorem BoxS.setWear {B g k : Nat} {w w' : World} {V : SV} {s : MS} {W : List Int} (h : BoxS B w g V s) (hq : V.q = some ⟨k, 0, none⟩) (ht : Turned w w' k) (hb : w'.ownsRow B 2 1 (.slice V.q V.m V.d) V.m (valsI W)) : BoxS B w' g V { s with wear := W } := by
  have h2 := h.ne2 _ hq
  exact ⟨h.box.turned ht (fun e => h2 e.symm), ⟨owns_turned h.own.b ht (fun a ha => owns_ne (by decide) h.own.b h.own.v a _ ha hq), hb, h.own.hn, h.own.hm⟩, h.hg⟩
theorem BoxS.setBad {B g k : Nat} {w w' : World} {V : SV} {s : MS} {W : List Bool} (h : BoxS B w g V s) (hq : V.p = some ⟨k, 0, none⟩) (ht : Turned w w' k) (hb : w'.ownsRow B 4 1 (.slice V.p V.n V.c) V.n (valsB W)) : BoxS B w' g V { s with bad := W } := by
  have h2 := h.ne1 _ hq
  exact ⟨h.box.turned ht (fun e => h2 e.symm), ⟨hb, owns_turned h.own.v ht (fun a ha => owns_ne (by decide) h.own.v h.own.b a _ ha hq), h.own.hn, h.own.hm⟩, h.hg⟩
end Go.Proofs.Ytpikaagdiafieaa
