/-
  P7.5, ScanOld: for every case and every older thing the law answers true, and its arguments read as before. No condition.
-/
import Derived.Test.YtfgelncfmopibaaSnLift
import Derived.Test.YtfgelncfmopibaaSnOld
namespace Go.Proofs.Ytfgelncfmopibaa
open Go.ChangeShapes Go.WideShapes Go.ChangeAt Go.RowKit Go.Joins
theorem cellsOfO : Try.prog.cellsOf 68 = 4 := by kernel_rfl
theorem u8_of {x : Int} (h : (Lit.int .u8 x).wf = true) : 0 ≤ x ∧ x < 256 := by
  simp [Lit.wf, IntKind.min, IntKind.max, IntKind.signed, IntKind.bits] at h
  omega
set_option linter.unusedSimpArgs false in
set_option maxRecDepth 100000 in
theorem openOld {H : Type} {enc : TypeId × Value → H} {W : World} {r : Reach} {b0 : Nat} {v : Value} {d : DataW H} {p : List MemPlace} (hv : Value.okWide Try.prog W r b0 68 v)
    (h : DataW.Trod enc Try.prog W 0 (fun _ => true) true 68 v d p) : ∃ (wh : Nat) (ph pg : Int) (by' : Nat), v = .agg #[.int .u8 (wh : Int), .int .i64 ph, .int .i64 pg, .int .u8 (by' : Int)] ∧ wh < 256 ∧ by' < 256 := by
  obtain ⟨cs, rfl, hcs⟩ := okWide_struct Try.underlying68 hv
  rw [cellsOfO] at hcs
  obtain ⟨c0, c1, c2, c3, rfl⟩ := array4 hcs
  obtain ⟨fuel, hf⟩ := h
  obtain ⟨xs, k, hk, hxy, _, hxl, hfl⟩ := DataW.trod_struct Try.underlying68 hf
  match xs, hxl with
  | [y0, y1, y2], _ =>
    have g0 := hfl 0 _ rfl
    have g1 := hfl 1 _ rfl
    have g2 := hfl 2 _ rfl
    simp [Value.cells, cellsOf5, cellsOfZ] at g0 g1 g2
    obtain ⟨z0, e0, _, w0⟩ := DataW.trod_int Try.underlying5 g0
    obtain ⟨z2, e2, _, w2⟩ := DataW.trod_int Try.underlying5 g2
    obtain ⟨us, k', _, _, _, hul, hfu⟩ := DataW.trod_struct Try.underlying29 g1
    obtain ⟨u0, u1, rfl⟩ : ∃ u0 u1, us = [u0, u1] := by
      match us, hul with
      | [a0, a1], _ => exact ⟨a0, a1, rfl⟩
    have f0 := hfu 0 _ rfl
    have f1 := hfu 1 _ rfl
    simp [cellsOf3] at f0 f1
    obtain ⟨q0, e3, _, _⟩ := DataW.trod_int Try.underlying3 f0
    obtain ⟨q1, e4, _, _⟩ := DataW.trod_int Try.underlying3 f1
    cases e0; cases e2; cases e3; cases e4
    obtain ⟨a1, a2⟩ := u8_of w0
    obtain ⟨a3, a4⟩ := u8_of w2
    obtain ⟨m0, rfl⟩ : ∃ m : Nat, z0 = (m : Int) := ⟨z0.toNat, by omega⟩
    obtain ⟨m2, rfl⟩ : ∃ m : Nat, z2 = (m : Int) := ⟨z2.toNat, by omega⟩
    exact ⟨m0, q0, q1, m2, rfl, by omega, by omega⟩
set_option maxRecDepth 100000 in
theorem old_lifted (os : Os) (started : os.Started) (H : Type) (enc : TypeId × Value → H) :
    ReturnsInHanded {} Try.checked os 8 .any (Rows.scanOldSpec.pre6 enc Try.prog Try.f8 Rows.scanOldRow.domain false) (Rows.scanOldSpec.post enc Try.prog Try.f8 false true false false) := by
  refine returnsInHanded_of_change_sized (C := Try.checked) own started (by kernel_rfl) Try.func8
    (ChangeSpec.witness6 (enc := enc) (C := Try.checked) false ⟨#[], #[.agg #[.int .i64 0, .int .i64 0, .int .i64 0, .slice none 0 0, .slice none 0 0], .agg #[.int .u8 0, .int .i64 0, .int .i64 0, .int .u8 0]], []⟩ 8 (by kernel_rfl) (by kernel_rfl) (by kernel_rfl) (by kernel_rfl)) ?_
  intro W base args ds gs before hval0 hW hcnd hsz0 _
  have hval : ∀ (j : Nat) t v, Try.f8.params[j]? = some t → args[j]? = some v → Value.okWide Try.prog W .any base t v := hval0
  have hsz : (DataW.weightsEach Try.prog (Try.f8.params.toList ++ Rows.scanOldSpec.plain.varTypes Try.prog) (ds ++ gs)).all (· ≤ reachBytes) = true := hsz0
  have hW' := hW
  obtain ⟨p, q, hA0, hV, rfl, hfz, hnd⟩ := hW
  have hA : DataW.TrodAll enc Try.prog W 0 (fun _ => true) true Try.f8.params.toList args.toList ds p := hA0
  rw [Try.params8] at hA hval hsz
  obtain ⟨v0, vs0, d0, ds0, p0, q0, hargs, rfl, rfl, h0, r0⟩ := trodAll_cons hA
  obtain ⟨v1, vs1, d1, ds1, p1, q1, rfl, rfl, rfl, h1, r1⟩ := trodAll_cons r0
  obtain ⟨rfl, rfl, rfl⟩ := trodAll_nil r1
  obtain rfl : args = #[v0, v1] := by cases args; simp_all
  obtain ⟨rfl, rfl⟩ := trodVars_none hV
  have lt0 : ∀ x ∈ p0, x.block < W.heap.size := by obtain ⟨m, hm⟩ := h0; exact DataW.trod_lt m _ _ _ hm
  have lt1 : ∀ x ∈ p1, x.block < W.heap.size := by obtain ⟨m, hm⟩ := h1; exact DataW.trod_lt m _ _ _ hm
  obtain ⟨P, Lg, K, pa, n, c, xs, qa, m, e, zs, hv0, hF, hZ⟩ := openCase (hval 0 39 v0 rfl rfl) h0 hsz (j := 0) rfl rfl
  subst hv0
  obtain ⟨wh, ph, pg, by', hv1, hw1, hw2⟩ := openOld (hval 1 68 v1 rfl rfl) h1
  subst hv1
  clear hA0 hval0 hsz0
  refine (scanOld_true P Lg K pa qa n c m e xs wh hw1 ph pg by' hw2 W hF).mono fun e W' ⟨he, bel⟩ => ?_
  subst he
  exact ⟨_, rfl, _, _, _, [], _, [], hW', trodAll_mk1 (shut_bool Try.underlying4 _), (trodAll_cons_mk (Below.trod laidOut (by kernel_rfl) (of_decide_eq_true (by kernel_rfl)) h0 bel lt0) (trodAll_cons_mk (Below.trod laidOut (by kernel_rfl) (of_decide_eq_true (by kernel_rfl)) h1 bel lt1) trodAll_mk0)), rfl, bel.frame _, fun h => by cases h⟩
theorem scanOld_holds : Rows.ScanOldSaid :=
  OpenClaim.holds_of_wide 8 Try.f8 rfl rfl rfl rfl rfl rfl rfl ⟨rfl, rfl, rfl, rfl, rfl⟩ rfl rfl rfl rfl rfl (by kernel_rfl) Try.func8 (by kernel_rfl)
    (of_decide_eq_true (by kernel_rfl)) (by unfold Func.isWrapper; first | (rw [if_pos (by decide +kernel)]; kernel_rfl) | (rw [if_neg (by decide +kernel)]; exact ⟨rfl, rfl⟩))
    (fun os started H enc _ => old_lifted os started H enc)
#print axioms scanOld_holds
end Go.Proofs.Ytfgelncfmopibaa
