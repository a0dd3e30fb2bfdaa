/-
  For every two states s and t, every gen and every page p: the call of MapBack returns true (a page is read as it was; a checkpoint's pages know the state, and with the records to another one, page by page, that one; a checkpoint has fewer pages than a block), and all arguments read afterwards as they read before. No condition.
-/
import Derived.Test.YtpikaagdiafieabMjBk00
import Derived.Test.YtpikaagdiafieabMjBk01
import Derived.Test.YtpikaagdiafieabMjBk02
import Derived.Test.YtpikaagdiafieabMjBk10
import Derived.Test.YtpikaagdiafieabMjBk11
import Derived.Test.YtpikaagdiafieabMjBk12
import Derived.Test.YtpikaagdiafieabMjLiftP
namespace Go.Proofs.Ytpikaagdiafieab
open Go.ChangeShapes Go.WideShapes Go.ChangeAt Go.RowKit
theorem cpR_zero {S : MS} {gen : Int} (h : (cpR S gen).2 = 0) : okMS S = true ∧ okGen gen := by
  unfold cpR at h
  split at h
  · rename_i h1
    split at h
    · rename_i h2; exact ⟨h1, h2⟩
    · cases h
  · cases h
theorem diffR_zero {S T : MS} (h : (diffR S T).2 = 0) : okMS T = true ∧ coversB T S = true := by
  unfold diffR at h
  split at h
  · rename_i h1
    simp only [Bool.and_eq_true] at h1
    split at h
    · rename_i h2; exact ⟨h1.2, h2⟩
    · cases h
  · cases h
theorem back_walk (V U : SV) (S T : MS) (gen : Int) (X : PV) (P : MP) (w : World) (hS : InS w V S) (hT : InS w U T) (hP : InP w X P) :
    Calls Try.prog 4 #[V.val S, U.val T, .int .i64 gen, X.val P] w fun e w' => e = .returned (.bool true) ∧ Below w.heap.size w w' := by
  by_cases h1 : (cpR S gen).2 = 0
  · obtain ⟨hs, hg⟩ := cpR_zero h1
    by_cases h2 : (diffR S T).2 = 0
    · obtain ⟨ht, hc⟩ := diffR_zero h2
      cases hok : okMP P with
      | false => exact back_02 V U S T gen X P w hS hT hP hok hs hg ht hc
      | true => exact back_12 V U S T gen X P w hS hT hP hok hs hg ht hc
    · cases hok : okMP P with
      | false => exact back_01 V U S T gen X P w hS hT hP hok hs hg h2
      | true => exact back_11 V U S T gen X P w hS hT hP hok hs hg h2
  · cases hok : okMP P with
    | false => exact back_00 V U S T gen X P w hS hT hP hok h1
    | true => exact back_10 V U S T gen X P w hS hT hP hok h1
set_option maxRecDepth 100000 in
theorem back_lifted (os : Os) (started : os.Started) (H : Type) (enc : TypeId × Value → H) :
    ReturnsInHanded {} Try.checked os 4 .any (Rows.mapBackSpec.pre6 enc Try.prog Try.f4 Rows.mapBackRow.domain false) (Rows.mapBackSpec.post enc Try.prog Try.f4 false true false false) := by
  refine returnsInHanded_of_change_sized (C := Try.checked) own started (by kernel_rfl) Try.func4
    (ChangeSpec.witness6 (enc := enc) (C := Try.checked) false ⟨#[], #[.agg #[.slice none 0 0, .slice none 0 0, .int .i64 0], .agg #[.slice none 0 0, .slice none 0 0, .int .i64 0], .int .i64 0, .agg #[.int .i64 0, .int .i64 0, .int .i64 0, .int .i64 0, .slice none 0 0, .slice none 0 0, .slice none 0 0]], []⟩ 8 (by kernel_rfl) (by kernel_rfl) (by kernel_rfl) (by kernel_rfl)) ?_
  intro W base args ds gs before hval0 hW hcnd hsz0 _
  have hval : ∀ (j : Nat) t v, Try.f4.params[j]? = some t → args[j]? = some v → Value.okWide Try.prog W .any base t v := hval0
  have hsz : (DataW.weightsEach Try.prog (Try.f4.params.toList ++ Rows.mapBackSpec.plain.varTypes Try.prog) (ds ++ gs)).all (· ≤ reachBytes) = true := hsz0
  have hW' := hW
  obtain ⟨p, q, hA0, hV, rfl, hfz, hnd⟩ := hW
  have hA : DataW.TrodAll enc Try.prog W 0 (fun _ => true) true Try.f4.params.toList args.toList ds p := hA0
  rw [Try.params4] at hA hval hsz
  obtain ⟨v0, vs0, d0, ds0, p0, q0, hargs, rfl, rfl, h0, r0⟩ := trodAll_cons hA
  obtain ⟨v1, vs1, d1, ds1, p1, q1, rfl, rfl, rfl, h1, r1⟩ := trodAll_cons r0
  obtain ⟨v2, vs2, d2, ds2, p2, q2, rfl, rfl, rfl, h2, r2⟩ := trodAll_cons r1
  obtain ⟨v3, vs3, d3, ds3, p3, q3, rfl, rfl, rfl, h3, r3⟩ := trodAll_cons r2
  obtain ⟨rfl, rfl, rfl⟩ := trodAll_nil r3
  obtain rfl : args = #[v0, v1, v2, v3] := by cases args; simp_all
  obtain ⟨rfl, rfl⟩ := trodVars_none hV
  have lt0 : ∀ x ∈ p0, x.block < W.heap.size := by obtain ⟨m, hm⟩ := h0; exact DataW.trod_lt m _ _ _ hm
  obtain ⟨Va, Sa, hv0, hr0⟩ := openState (hval 0 26 v0 rfl rfl) h0 hsz (j := 0) rfl rfl
  subst hv0
  have lt1 : ∀ x ∈ p1, x.block < W.heap.size := by obtain ⟨m, hm⟩ := h1; exact DataW.trod_lt m _ _ _ hm
  obtain ⟨Vb, Sb, hv1, hr1⟩ := openState (hval 1 26 v1 rfl rfl) h1 hsz (j := 1) rfl rfl
  subst hv1
  obtain ⟨xg, rfl, rfl, rfl, wf2⟩ := open_int Try.underlying2 (hval 2 2 v2 rfl rfl) h2
  have lt3 : ∀ x ∈ p3, x.block < W.heap.size := by obtain ⟨m, hm⟩ := h3; exact DataW.trod_lt m _ _ _ hm
  obtain ⟨Vp, Pp, hv3, hr3⟩ := openPage (hval 3 34 v3 rfl rfl) h3 hsz (j := 3) rfl rfl
  subst hv3
  clear hA0 hval0 hsz0
  refine (back_walk Va Vb Sa Sb xg Vp Pp W hr0 hr1 hr3).mono fun e W' ⟨he, bel⟩ => ?_
  subst he
  exact ⟨_, rfl, _, _, _, [], _, [], hW', trodAll_mk1 (shut_bool Try.underlying4 _), (trodAll_cons_mk (Below.trod laidOut (by kernel_rfl) (of_decide_eq_true (by kernel_rfl)) h0 bel lt0) (trodAll_cons_mk (Below.trod laidOut (by kernel_rfl) (of_decide_eq_true (by kernel_rfl)) h1 bel lt1) (trodAll_cons_mk (shut_int Try.underlying2 wf2) (trodAll_cons_mk (Below.trod laidOut (by kernel_rfl) (of_decide_eq_true (by kernel_rfl)) h3 bel lt3) trodAll_mk0)))), rfl, bel.frame _, fun h => by cases h⟩
theorem mapBack_holds : Rows.MapBackSaid :=
  OpenClaim.holds_of_wide 4 Try.f4 rfl rfl rfl rfl rfl rfl rfl ⟨rfl, rfl, rfl, rfl, rfl⟩ rfl rfl rfl rfl rfl (by kernel_rfl) Try.func4 (by kernel_rfl)
    (of_decide_eq_true (by kernel_rfl)) (by unfold Func.isWrapper; first | (rw [if_pos (by decide +kernel)]; kernel_rfl) | (rw [if_neg (by decide +kernel)]; exact ⟨rfl, rfl⟩))
    (fun os started H enc _ => back_lifted os started H enc)
#print axioms mapBack_holds
end Go.Proofs.Ytpikaagdiafieab
