/-
  Which logical block a page is of.
-/
import Derived.Test.YtfgelncfmopibabSqCheck
namespace Go.Proofs.Ytfgelncfmopibab
open Go.RowKit
def PgOk (T : Tab) : Prop := ∀ (n : Nat) (l : LogS), T.logs[n]? = some l → ∀ i, i < l.pages.length → eI l.pages i = -1 ∨ (0 ≤ eI l.pages i ∧ eI l.pages i ≤ 100000000)
theorem okT_prod {T : Tab} (h : okT T = true) : 0 ≤ T.logical * T.pages ∧ T.logical * T.pages ≤ 8192 := by
  obtain ⟨⟨h1, h2, h3⟩, _⟩ := okShape_iff.1 (okT_shape h)
  exact prod_bound h2 h1
def isOfP (P : Nat) (x b : Int) : Bool := x != -1 && (x / (P : Int) == b)
set_option linter.unusedSimpArgs false in
set_option maxRecDepth 100000 in
set_option maxHeartbeats 4000000 in
theorem isOf_any (V : TabV) (T : Tab) (P : Nat) (x b : Int) (w : World) (hP : T.pages = P) (hP0 : 4 ≤ P ∧ P ≤ 32) (hx : x = -1 ∨ (0 ≤ x ∧ x ≤ 100000000)) :
    Calls Try.prog 56 #[.agg (tabA V T), .int .i64 x, .int .i64 b] w fun e w' => e = .returned (.bool (isOfP P x b)) ∧ Below w.heap.size w w' := by
  have hb0 := below_alloc w (.cells (tabA V T) 35)
  unfold tabA at hb0 ⊢
  rw [hP] at hb0 ⊢
  rcases hx with rfl | ⟨h0, h1⟩
  · go_enter Try.func56, Try.ntmps56
    go_wp2_with fail
    go_ret
    exact ⟨rfl, hb0⟩
  · obtain ⟨k, rfl⟩ : ∃ k : Nat, x = (k : Int) := ⟨x.toNat, by omega⟩
    have hkb : k ≤ 100000000 := by omega
    have hx' : (((k : Int)) != -1) = true := by rw [bne_iff_ne]; omega
    obtain ⟨q, hq⟩ : ∃ q, k / P = q := ⟨_, rfl⟩
    have hqk : q ≤ k := by rw [← hq]; exact Nat.div_le_self k P
    have hPn : ¬ P = 0 := by omega
    have hq1 : IntKind.i64.wrap ((k : Int) / (P : Int)) = (q : Int) := by rw [← Int.natCast_ediv, hq]; exact wrapN q (by omega)
    have hq2 : wrap64 ((k : Int) / (P : Int)) = (q : Int) := (IntWalk.i64_left _).symm.trans hq1
    have HR : Hid (isOfP P (k : Int) b = ((q : Int) == b)) := by show _ = _; unfold isOfP; rw [hx', ← Int.natCast_ediv, hq]; rfl
    clear hq hP hP0 h0 h1
    go_enter Try.func56, Try.ntmps56
    go_wp2_with fail
    go_ret
    exact ⟨ret_bool HR.out.symm, hb0⟩
theorem below_drewN' {w w' : World} {B : Nat} (h : Below B w w') (n : Nat) : Below B w (w'.drewN n) := ⟨h.os, h.tape, h.output, h.size, h.block⟩
end Go.Proofs.Ytfgelncfmopibab
