/-
  What a table that may not be counts as.
-/
import Derived.Test.YthibaefoioeghaaPlRepP
namespace Go.Proofs.Ythibaefoioeghaa
open Go.RowKit
theorem OwnT.turnedAt {B g : Nat} {w w' : World} {V : TabV} {T : Tab} {R : List LR} (h : OwnT B w V T R) (ht : Turned w w' g) (hg : g < B) : OwnT B w' V T R := by
  have key : ∀ {e s n c : Nat} {p : Option Addr} {xs : List Value}, w.ownsRow B e s (.slice p n c) n xs → ∀ a, p = some a → a.block ≠ g := by
    intro e s n c p xs hh a ha
    subst ha
    have := (hh.lt a.block rfl).1
    omega
  exact ⟨h.logs, owns_turned h.d ht (key h.d), owns_turned h.h ht (key h.h), owns_turned h.l ht (key h.l), fun i r hr => owns_turned (h.r i r hr) ht (key (h.r i r hr)), h.ap, h.ad, h.sm⟩
def fitT (T : Tab) : Tab := if okT T then T else newT 4 1 1 4
set_option linter.unusedSimpArgs false in
set_option maxRecDepth 100000 in
set_option maxHeartbeats 8000000 in
theorem fit_any (V : TabV) (T : Tab) (w : World) (h : TabIn w V T) :
    Calls Try.prog 54 #[.agg (tabA V T)] w fun e w' => ∃ V', e = .returned (.agg (tabA V' (fitT T))) ∧ TabIn w' V' (fitT T) ∧ Below w.heap.size w w' := by
  have hb0 := bt (below_alloc w (.cells (tabA V T) 28)) (below_alloc (w.alloc (.cells (tabA V T) 28)) (.cells #[.int .i64 0, .int .i64 0, .int .i64 0, .slice none 0 0, .slice none 0 0, .int .i64 0, .int .i64 0, .int .i64 0, .slice none 0 0] 28))
  have b0 := (Blk.new' w 28 (tabA V T)).alloc (.cells #[.int .i64 0, .int .i64 0, .int .i64 0, .slice none 0 0, .slice none 0 0, .int .i64 0, .int .i64 0, .int .i64 0, .slice none 0 0] 28)
  have r0 := Blk.new' (w.alloc (.cells (tabA V T) 28)) 28 #[.int .i64 0, .int .i64 0, .int .i64 0, .slice none 0 0, .slice none 0 0, .int .i64 0, .int .i64 0, .int .i64 0, .slice none 0 0]
  rw [World.size_alloc] at r0
  have hT := h.below hb0
  have hc := check_any V T _ hT
  cases hok : okT T with
  | true =>
    have HF : Hid (fitT T = T) := by show _ = _; unfold fitT; rw [hok]; rfl
    rw [checkE_ok hok] at hc
    clear hok
    rw [HF.out]
    unfold tabA at hb0 b0 r0 hc hT ⊢
    have HT : Hid (TabIn _ V T) := hT
    go_enter Try.func54, Try.ntmps54
    go_wp2_with (first | (go_at_call 19; refine hc.mono ?_; rintro e w1 ⟨rfl, hb1⟩; have b1 := b0.kept hb1; have r1 := r0.kept hb1; have y0 := b1.cell' (i := 0) rfl; have y1 := b1.cell' (i := 1) rfl; have y2 := b1.cell' (i := 2) rfl; have y3 := b1.cell' (i := 3) rfl; have y4 := b1.cell' (i := 4) rfl; have y5 := b1.cell' (i := 5) rfl; have y6 := b1.cell' (i := 6) rfl; have y7 := b1.cell' (i := 7) rfl; have y8 := b1.cell' (i := 8) rfl) | (refine wpList_store_blk rfl 28 (.tmp 2) (.tmp 10) rfl (w.heap.size + 1) 0 (tabC V T) rfl rfl r1 (by exact Nat.le_refl _) (tabSize _ _) (tabOne _ _) ?_; intro W9 h9 ht9; rw [whole_row (by rfl)] at h9))
    refine ret_tab Try.results54 rfl h9 rfl ⟨V, rfl, ?_, ht9.below (bt hb0 hb1) (by omega)⟩
    exact h.below (ht9.below (bt hb0 hb1) (by omega))
  | false =>
    have HF : Hid (fitT T = newT 4 1 1 4) := by show _ = _; unfold fitT; rw [hok]; rfl
    rw [checkE_bad hok] at hc
    clear hok
    rw [HF.out]
    unfold tabA at hb0 b0 r0 hc hT ⊢
    have hnew := fun w => new_ok 4 1 1 4 w (by decide) (by decide)
    clear HF
    generalize newT 4 1 1 4 = N0 at *
    go_enter Try.func54, Try.ntmps54
    go_upto_region 2 with (go_at_call 19; refine hc.mono ?_; rintro e w1 ⟨rfl, hb1⟩)
    have b1 := b0.kept hb1
    have r1 := r0.kept hb1
    replace hb0 := bt hb0 hb1
    have hsz := r1.lt
    clear hb1 b0 r0 hc hT
    go_upto_region 3 with (first | (go_at_call 26; refine (hnew _).mono ?_; rintro e w2 ⟨VN, rfl, hown, -, -, -, hb2⟩; have b2 := b1.kept hb2; have r2 := r1.kept hb2; replace hb0 := bt hb0 hb2) | (refine wpList_store_blk rfl 28 (.tmp 1) (.tmp 8) rfl w.heap.size 0 (tabC VN N0) rfl rfl b2 (by exact Nat.le_refl _) (tabSize _ _) (tabOne _ _) ?_; intro W8 h8 ht8; rw [whole_row (by rfl)] at h8))
    have r3 := r2.turned ht8 (by omega)
    have hT8 : OwnT w1.heap.size W8 VN N0 [] := hown.turnedAt ht8 (by omega)
    have hbw := ht8.below hb0 (Nat.le_refl _)
    have x0 := h8.cell' (i := 0) rfl; have x1 := h8.cell' (i := 1) rfl; have x2 := h8.cell' (i := 2) rfl; have x3 := h8.cell' (i := 3) rfl; have x4 := h8.cell' (i := 4) rfl; have x5 := h8.cell' (i := 5) rfl; have x6 := h8.cell' (i := 6) rfl; have x7 := h8.cell' (i := 7) rfl; have x8 := h8.cell' (i := 8) rfl
    clear hown ht8 r2 b2 hb2 hnew
    go_wp2_with (refine wpList_store_blk rfl 28 (.tmp 2) (.tmp 10) rfl (w.heap.size + 1) 0 (tabC VN N0) rfl rfl r3 (by exact Nat.le_refl _) (tabSize _ _) (tabOne _ _) ?_; intro W9 h9 ht9; rw [whole_row (by rfl)] at h9)
    refine ret_tab Try.results54 rfl h9 rfl ⟨VN, rfl, ?_, ht9.below hbw (by omega)⟩
    exact (hT8.turnedAt ht9 (by omega)).inT
end Go.Proofs.Ythibaefoioeghaa
