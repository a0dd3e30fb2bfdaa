/-
  What a state learns, and what else stays as it is.
-/
import Derived.Test.YtpikaagdiafieaaMjRec
namespace Go.Proofs.Ytpikaagdiafieaa
open Go.RowKit
/-- Nothing changes below B, nor any block but the box and the state's rows. -/
structure Fr (B g : Nat) (V : SV) (w w' : World) : Prop where
  bel : Below B w w'
  keep : ∀ k, k < w.heap.size → k ≠ g → (∀ a, V.p = some a → a.block ≠ k) → (∀ a, V.q = some a → a.block ≠ k) → w'.heap[k]? = w.heap[k]?
theorem Fr.refl (B g : Nat) (V : SV) (w : World) : Fr B g V w w := ⟨Below.refl _ _, fun _ _ _ _ _ => rfl⟩
theorem Fr.trans {B g : Nat} {V : SV} {a b c : World} (h : Fr B g V a b) (k : Fr B g V b c) : Fr B g V a c := ⟨h.bel.trans k.bel, fun j hj h1 h2 h3 => (k.keep j (Nat.lt_of_lt_of_le hj h.bel.size) h1 h2 h3).trans (h.keep j hj h1 h2 h3)⟩
theorem Fr.drew {B g : Nat} {V : SV} {a b : World} (h : Fr B g V a b) : Fr B g V a b.drew := ⟨h.bel.drew, h.keep⟩
theorem Fr.of_below {B g : Nat} {V : SV} {a b : World} (h : Below a.heap.size a b) (hB : B ≤ a.heap.size) : Fr B g V a b := ⟨h.mono hB, fun k hk _ _ _ => h.block k hk⟩
theorem Fr.of {B g k : Nat} {V : SV} {a w w' : World} (h : Fr B g V a w) (ht : Turned w w' k) (hk : B ≤ k) (hs : k = g ∨ (∃ x, V.p = some x ∧ x.block = k) ∨ (∃ x, V.q = some x ∧ x.block = k)) : Fr B g V a w' :=
  ⟨ht.below h.bel hk, fun j hj h1 h2 h3 => (ht.block j (fun e => by
    subst e
    rcases hs with rfl | ⟨x, hx, hb⟩ | ⟨x, hx, hb⟩
    · exact h1 rfl
    · exact h2 x hx hb
    · exact h3 x hx hb)).trans (h.keep j hj h1 h2 h3)⟩
theorem Blk.fr {B g k : Nat} {V : SV} {s : MS} {t : TypeId} {cs : List Value} {w w' : World} (h : Blk w k t cs) (hf : Fr B g V w w') (hx : BoxS B w g V s) (hne : k ≠ g) (h4 : t ≠ 4) (h2 : t ≠ 2) : Blk w' k t cs :=
  (hf.keep k h.lt hne (owns_blk_ne (fun e => h4 e.symm) hx.own.b h) (owns_blk_ne (fun e => h2 e.symm) hx.own.v h)).trans h
theorem learnSeqK (B g : Nat) (V : SV) (s : MS) (x : Int) (w : World) (h : BoxS B w g V s) :
    Calls Try.prog 48 #[.pointer (some ⟨g, 0, none⟩), .int .i64 x] w fun e w' => e = .returned (.tuple #[]) ∧ BoxS B w' g V { s with seq := max s.seq x } ∧ Fr B g V w w' := by
  obtain ⟨p, n, c, q, m, d⟩ := V
  have hb := h.box
  have c0 := hb.cell' (i := 2) rfl
  have hf := hb.frozen 2
  have key : ∀ z : Int, BoxS B (w.setCell ⟨g, 2, none⟩ (.int .i64 z)) g ⟨p, n, c, q, m, d⟩ { s with seq := z } ∧ Fr B g ⟨p, n, c, q, m, d⟩ w (w.setCell ⟨g, 2, none⟩ (.int .i64 z)) := fun z =>
    ⟨h.setSeq (Turned.setCell _ _ _) z (hb.set 2 (.int .i64 z)), (Fr.refl _ _ _ _).of (Turned.setCell _ _ _) h.hg (.inl rfl)⟩
  by_cases hx : x > s.seq
  · have E : Hid (max s.seq x = x) := Int.max_eq_right (by omega)
    clear hb h
    go_enter Try.func48, Try.ntmps48
    go_wp2
    go_end0
    rw [E.out]
    exact ⟨rfl, key x⟩
  · have E : Hid (max s.seq x = s.seq) := Int.max_eq_left (by omega)
    clear hb h
    go_enter Try.func48, Try.ntmps48
    go_wp2
    go_end0
    rw [E.out]
    exact ⟨rfl, key s.seq⟩
theorem learnWearK (B g : Nat) (V : SV) (s : MS) (k : Nat) (x : Int) (w : World) (h : BoxS B w g V s) (hk : k < V.m) :
    Calls Try.prog 74 #[.pointer (some ⟨g, 0, none⟩), .int .i64 (k : Int), .int .i64 x] w fun e w' => e = .returned (.tuple #[]) ∧ BoxS B w' g V { s with wear := s.wear.set k (max (eI s.wear k) x) } ∧ Fr B g V w w' := by
  obtain ⟨p, n, c, q, m, d⟩ := V
  dsimp only at hk
  have hb := h.box
  have hl : s.wear.length = m := h.own.inS.v.len
  obtain ⟨gq, rfl, hgq, hlt⟩ := owns_at h.own.v (by dsimp only; omega)
  have c0 := hb.cell' (i := 1) rfl
  have hf := h.own.v.frozenAt k
  have c1 := h.own.v.cellAt k (by dsimp only; omega)
  rw [valsI_get _ _ (by omega)] at c1
  have hk1 : (k : Int) < (m : Int) := by omega
  have key : ∀ z : Int, BoxS B (w.setCell ⟨gq, k, none⟩ (.int .i64 z)) g ⟨p, n, c, some ⟨gq, 0, none⟩, m, d⟩ { s with wear := s.wear.set k z } ∧ Fr B g ⟨p, n, c, some ⟨gq, 0, none⟩, m, d⟩ w (w.setCell ⟨gq, k, none⟩ (.int .i64 z)) := fun z => by
    have hs := (h.own.v.stored k (.int .i64 z)).1
    rw [valsI_set] at hs
    exact ⟨h.setWear rfl (Turned.setCell _ _ _) hs, (Fr.refl _ _ _ _).of (Turned.setCell _ _ _) hgq (.inr (.inr ⟨_, rfl, rfl⟩))⟩
  have hm : m ≤ 140737488355328 := h.own.hm
  clear hb h hl
  by_cases hx : x > eI s.wear k
  · have E : Hid (max (eI s.wear k) x = x) := Int.max_eq_right (by omega)
    go_enter Try.func74, Try.ntmps74
    go_wp2
    go_region
    all_goals (try go_wp2)
    all_goals
      go_end0
      rw [E.out]
      exact ⟨rfl, (key x).1.drew, (key x).2.drew⟩
  · have E : Hid (max (eI s.wear k) x = eI s.wear k) := Int.max_eq_left (by omega)
    go_enter Try.func74, Try.ntmps74
    go_wp2
    go_region
    all_goals (try go_wp2)
    all_goals
      go_end0
      rw [E.out]
      exact ⟨rfl, (key _).1.drew, (key _).2.drew⟩
set_option maxHeartbeats 1000000 in
theorem learnRecordK (B g : Nat) (V : SV) (s : MS) (r : MR) (w : World) (h : BoxS B w g V s) (hV : V.m = V.n) (hB : B ≤ w.heap.size) (h0 : 0 ≤ r.block) (hr : r.block < (V.n : Int)) :
    Calls Try.prog 58 #[.pointer (some ⟨g, 0, none⟩), r.val] w fun e w' => e = .returned (.tuple #[]) ∧ BoxS B w' g V (learnR s r) ∧ Fr B g V w w' := by
  obtain ⟨k, bI, v⟩ := r
  dsimp only [MR.val] at *
  obtain ⟨b, rfl⟩ : ∃ b : Nat, bI = (b : Int) := ⟨bI.toNat, by omega⟩
  have hbl := below_alloc w (.cells #[.int .i64 k, .int .i64 (b : Int), .int .i64 v] 65)
  have bx := Blk.new' w 65 #[.int .i64 k, .int .i64 (b : Int), .int .i64 v]
  have x0 := bx.cell' (i := 0) rfl
  have x1 := bx.cell' (i := 1) rfl
  have x2 := bx.cell' (i := 2) rfl
  have hx := h.next hbl
  have hbl' : Fr B g V w _ := Fr.of_below hbl hB
  obtain ⟨p, n0, c, q, n, d⟩ := V
  dsimp only at hV hr
  subst hV
  clear bx h
  have HL : Hid (s.bad.length = n) := hx.own.inS.b.len
  have hn : n ≤ 1125899906842624 := hx.own.hn
  by_cases h1 : k = 1
  · subst h1
    have E : Hid (learnR s ⟨1, (b : Int), v⟩ = { s with bad := s.bad.set b true }) := by show _ = _; unfold learnR; simp
    obtain ⟨gp, rfl, hgp, hgpl⟩ := owns_at hx.own.b (by dsimp only; omega)
    have c0 := hx.box.cell' (i := 0) rfl
    have c1 := hx.own.b.cellAt b (by dsimp only; omega)
    rw [valsB_get _ _ (by have := HL.out; omega)] at c1
    have cf := hx.own.b.frozenAt b
    have hst := (hx.own.b.stored b (.bool true)).1
    rw [show (valsB s.bad).set b (.bool true) = valsB (s.bad.set b true) by simp [valsB, List.map_set]] at hst
    have hbx := hx.setBad rfl (Turned.setCell _ ⟨gp, b, none⟩ (.bool true)) hst
    have hb2 := hbl'.of (Turned.setCell _ ⟨gp, b, none⟩ (.bool true)) hgp (.inr (.inl ⟨_, rfl, rfl⟩))
    clear hst
    go_enter Try.func58, Try.ntmps58
    go_wp2
    go_region
    all_goals (try go_wp2)
    all_goals
      go_end0
      rw [E.out]
      exact ⟨rfl, hbx.drew, hb2.drew⟩
  · have n1 : (k == 1) = false := by simpa using h1
    by_cases h2 : k = 2
    · subst h2
      have E : Hid (learnR s ⟨2, (b : Int), v⟩ = { s with wear := s.wear.set b (max (eI s.wear b) v) }) := by show _ = _; unfold learnR; simp
      clear h1
      go_enter Try.func58, Try.ntmps58
      go_wp2_with (go_at_call 74; refine (learnWearK B g _ s b v _ hx (by dsimp only; omega)).mono ?_; rintro e w2 ⟨rfl, hx2, hb2⟩)
      go_end0
      rw [E.out]
      exact ⟨rfl, hx2, hbl'.trans hb2⟩
    · have n2 : (k == 2) = false := by simpa using h2
      by_cases h3 : k = 3
      · subst h3
        have E : Hid (learnR s ⟨3, (b : Int), v⟩ = { s with seq := max s.seq v }) := by show _ = _; unfold learnR; simp
        clear h1 h2
        go_enter Try.func58, Try.ntmps58
        go_wp2_with (go_at_call 48; refine (learnSeqK B g _ s v _ hx).mono ?_; rintro e w2 ⟨rfl, hx2, hb2⟩)
        go_end0
        rw [E.out]
        exact ⟨rfl, hx2, hbl'.trans hb2⟩
      · have n3 : (k == 3) = false := by simpa using h3
        have E : Hid (learnR s ⟨k, (b : Int), v⟩ = s) := by show _ = _; unfold learnR; simp [h1, h2, h3]
        clear h1 h2 h3
        go_enter Try.func58, Try.ntmps58
        go_wp2
        go_end0
        rw [E.out]
        exact ⟨rfl, hx, hbl'⟩
end Go.Proofs.Ytpikaagdiafieaa
