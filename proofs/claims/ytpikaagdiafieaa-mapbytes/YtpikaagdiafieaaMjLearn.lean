/-
  What a state learns: learnSeq, learnWear.
-/
import Derived.Test.YtpikaagdiafieaaMjOwn
namespace Go.Proofs.Ytpikaagdiafieaa
open Go.RowKit
theorem learnSeq_any (B g : Nat) (V : SV) (s : MS) (x : Int) (w : World) (h : BoxS B w g V s) :
    Calls Try.prog 48 #[.pointer (some ⟨g, 0, none⟩), .int .i64 x] w fun e w' => e = .returned (.tuple #[]) ∧ BoxS B w' g V { s with seq := max s.seq x } ∧ Below B w w' := by
  obtain ⟨p, n, c, q, m, d⟩ := V
  have hb := h.box
  have c0 := hb.cell' (i := 2) rfl
  have hf := hb.frozen 2
  have key : ∀ z : Int, BoxS B (w.setCell ⟨g, 2, none⟩ (.int .i64 z)) g ⟨p, n, c, q, m, d⟩ { s with seq := z } ∧ Below B w (w.setCell ⟨g, 2, none⟩ (.int .i64 z)) := fun z =>
    ⟨h.setSeq (Turned.setCell _ _ _) z (hb.set 2 (.int .i64 z)), (Turned.setCell _ _ _).below (Below.refl _ _) h.hg⟩
  by_cases hx : x > s.seq
  · have E : Hid (max s.seq x = x) := Int.max_eq_right (by omega)
    clear hb h
    go_enter Try.func48, Try.ntmps48
    go_wp2
    go_end0
    rw [E.out]
    exact ⟨rfl, key x⟩
  · have E : Hid (max s.seq x = s.seq) := Int.max_eq_left (by omega)
    clear hb h
    go_enter Try.func48, Try.ntmps48
    go_wp2
    go_end0
    rw [E.out]
    exact ⟨rfl, key s.seq⟩
theorem learnWear_any (B g : Nat) (V : SV) (s : MS) (k : Nat) (x : Int) (w : World) (h : BoxS B w g V s) (hk : k < V.m) :
    Calls Try.prog 74 #[.pointer (some ⟨g, 0, none⟩), .int .i64 (k : Int), .int .i64 x] w fun e w' => e = .returned (.tuple #[]) ∧ BoxS B w' g V { s with wear := s.wear.set k (max (eI s.wear k) x) } ∧ Below B w w' := by
  obtain ⟨p, n, c, q, m, d⟩ := V
  dsimp only at hk
  have hb := h.box
  have hl : s.wear.length = m := h.own.inS.v.len
  obtain ⟨gq, rfl, hgq, hlt⟩ := owns_at h.own.v (by dsimp only; omega)
  have c0 := hb.cell' (i := 1) rfl
  have hf := h.own.v.frozenAt k
  have c1 := h.own.v.cellAt k (by dsimp only; omega)
  rw [valsI_get _ _ (by omega)] at c1
  have hk1 : (k : Int) < (m : Int) := by omega
  have key : ∀ z : Int, BoxS B (w.setCell ⟨gq, k, none⟩ (.int .i64 z)) g ⟨p, n, c, some ⟨gq, 0, none⟩, m, d⟩ { s with wear := s.wear.set k z } ∧ Below B w (w.setCell ⟨gq, k, none⟩ (.int .i64 z)) := fun z => by
    have hs := (h.own.v.stored k (.int .i64 z)).1
    rw [valsI_set] at hs
    exact ⟨h.setWear rfl (Turned.setCell _ _ _) hs, (Turned.setCell _ _ _).below (Below.refl _ _) hgq⟩
  have hm : m ≤ 140737488355328 := h.own.hm
  clear hb h hl
  by_cases hx : x > eI s.wear k
  · have E : Hid (max (eI s.wear k) x = x) := Int.max_eq_right (by omega)
    go_enter Try.func74, Try.ntmps74
    go_wp2
    go_region
    all_goals (try go_wp2)
    all_goals
      go_end0
      rw [E.out]
      exact ⟨rfl, (key x).1.drew, (key x).2.drew⟩
  · have E : Hid (max (eI s.wear k) x = eI s.wear k) := Int.max_eq_left (by omega)
    go_enter Try.func74, Try.ntmps74
    go_wp2
    go_region
    all_goals (try go_wp2)
    all_goals
      go_end0
      rw [E.out]
      exact ⟨rfl, (key _).1.drew, (key _).2.drew⟩
end Go.Proofs.Ytpikaagdiafieaa
