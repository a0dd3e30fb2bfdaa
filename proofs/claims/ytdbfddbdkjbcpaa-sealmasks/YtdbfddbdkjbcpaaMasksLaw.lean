/-
  For every b and every mask: the call of SealMasks returns true (any mask over any bytes, and which bytes cover which, are as the document's answer has them), and both arguments read afterwards as they read before. No condition.
-/
import Derived.Test.YtdbfddbdkjbcpaaLive
import Derived.Test.YtdbfddbdkjbcpaaRefMask
import Derived.Test.YtdbfddbdkjbcpaaCovers
import Derived.Test.YtdbfddbdkjbcpaaClone
import Derived.Test.YtdbfddbdkjbcpaaLift
namespace Go.Proofs.Ytdbfddbdkjbcpaa
open Go.ChangeShapes Go.WideShapes Go.ChangeAt Go.RowKit
theorem masks_walk (p q : Option Addr) (n c m d : Nat) (xs ms : List Nat) (w : World) (hx : In w p n c xs) (hm : In w q m d ms) :
    Calls Try.prog 4 #[.slice p n c, .slice q m d] w fun e w' => e = .returned (.bool true) ∧ Below w.heap.size w w' := by
  go_enter Try.func4, Try.ntmps4
  go_wp2_with fail
  refine (live_any _).mono ?_
  rintro e w1 ⟨rfl, hb1⟩
  go_wp2_with fail
  refine (clone_any p n c xs _ (hx.below hb1)).mono ?_
  rintro e w2 ⟨p2, c2, rfl, hin2, hb2⟩
  have hb12 := bt hb1 hb2
  clear hb1 hb2
  go_wp2_with fail
  refine (mask_any p q n c m d xs ms _ (hx.below hb12) (hm.below hb12)).mono ?_
  rintro e w3 ⟨p3, c3, rfl, hin3, hb3⟩
  have hin2' := hin2.below hb3
  have hb13 := bt hb12 hb3
  clear hb12 hb3 hin2
  go_wp2_with fail
  refine (refMask_any p q n c m d xs ms _ (hx.below hb13) (hm.below hb13)).mono ?_
  rintro e w4 ⟨p4, c4, rfl, hin4, hb4⟩
  have hin2'' := hin2'.below hb4
  have hin3' := hin3.below hb4
  have hb14 := bt hb13 hb4
  clear hb13 hb4 hin2' hin3
  go_wp2_with fail
  refine (equal_any p3 p4 n c3 n c4 (maskL xs ms) (maskL xs ms) _ hin3' hin4).mono ?_
  rintro e w5 ⟨rfl, hw5⟩
  subst hw5
  rw [show (maskL xs ms == maskL xs ms) = true from beq_self_eq_true _]
  clear hin3' hin4
  go_wp2_with fail
  refine (covers_any p q n c m d xs ms _ (hx.below hb14) (hm.below hb14)).mono ?_
  rintro e w6 ⟨rfl, hb6⟩
  have hin6 := hin2''.below hb6
  have hb16 := bt hb14 hb6
  clear hb14 hb6 hin2''
  go_wp2_with fail
  refine (refCovers_any p q n c m d xs ms _ (hx.below hb16) (hm.below hb16)).mono ?_
  rintro e w7 ⟨rfl, hb7⟩
  have hin7 := hin6.below hb7
  have hb17 := bt hb16 hb7
  clear hb16 hb7 hin6
  cases covers xs ms with
  | true =>
    go_wp2_with fail
    refine (equal_any p p2 n c n c2 xs xs _ (hx.below hb17) hin7).mono ?_
    rintro e w8 ⟨rfl, hw8⟩
    subst hw8
    rw [show (xs == xs) = true from beq_self_eq_true _]
    go_wp2
    go_ret
    exact ⟨rfl, hb17⟩
  | false =>
    go_wp2_with fail
    refine (equal_any p p2 n c n c2 xs xs _ (hx.below hb17) hin7).mono ?_
    rintro e w8 ⟨rfl, hw8⟩
    subst hw8
    rw [show (xs == xs) = true from beq_self_eq_true _]
    go_wp2
    go_ret
    exact ⟨rfl, hb17⟩
set_option maxRecDepth 100000 in
theorem masks_lifted (os : Os) (started : os.Started) (H : Type) (enc : TypeId × Value → H) :
    ReturnsInHanded {} Try.checked os 4 .any (Rows.sealMasksSpec.pre6 enc Try.prog Try.f4 Rows.sealMasksRow.domain false) (Rows.sealMasksSpec.post enc Try.prog Try.f4 false true false false) := by
  refine returnsInHanded_of_change_sized (C := Try.checked) own started (by kernel_rfl) Try.func4
    (ChangeSpec.witness6 (enc := enc) (C := Try.checked) false ⟨#[], #[.slice none 0 0, .slice none 0 0], []⟩ 8 (by kernel_rfl) (by kernel_rfl) (by kernel_rfl) (by kernel_rfl)) ?_
  intro W base args ds gs before hval0 hW hcnd hsz0 _
  have hval : ∀ (j : Nat) t v, Try.f4.params[j]? = some t → args[j]? = some v → Value.okWide Try.prog W .any base t v := hval0
  have hsz : (DataW.weightsEach Try.prog (Try.f4.params.toList ++ Rows.sealMasksSpec.plain.varTypes Try.prog) (ds ++ gs)).all (· ≤ reachBytes) = true := hsz0
  have hW' := hW
  obtain ⟨p, q, hA0, hV, rfl, hfz, hnd⟩ := hW
  have hA : DataW.TrodAll enc Try.prog W 0 (fun _ => true) true Try.f4.params.toList args.toList ds p := hA0
  rw [Try.params4] at hA hval hsz
  obtain ⟨v0, vs0, d0, ds0, p0, q0, hargs, rfl, rfl, h0, r0⟩ := trodAll_cons hA
  obtain ⟨v1, vs1, d1, ds1, p1, q1, rfl, rfl, rfl, h1, r1⟩ := trodAll_cons r0
  obtain ⟨rfl, rfl, rfl⟩ := trodAll_nil r1
  obtain rfl : args = #[v0, v1] := by cases args; simp_all
  obtain ⟨rfl, rfl⟩ := trodVars_none hV
  obtain ⟨a0, len0, cap0, rfl⟩ := okWide_slice Try.underlying22 (hval 0 22 v0 rfl rfl)
  have lt0 : ∀ x ∈ p0, x.block < W.heap.size := by obtain ⟨m, hm⟩ := h0; exact DataW.trod_lt m _ _ _ hm
  obtain ⟨z0, w0⟩ := opened h0 hsz (j := 0) rfl rfl
  obtain ⟨a1, len1, cap1, rfl⟩ := okWide_slice Try.underlying22 (hval 1 22 v1 rfl rfl)
  have lt1 : ∀ x ∈ p1, x.block < W.heap.size := by obtain ⟨m, hm⟩ := h1; exact DataW.trod_lt m _ _ _ hm
  obtain ⟨z1, w1⟩ := opened h1 hsz (j := 1) rfl rfl
  clear hA0 hval0 hsz0
  refine (masks_walk a0 a1 len0 cap0 len1 cap1 z0 z1 W w0 w1).mono fun e W' ⟨he, bel⟩ => ?_
  subst he
  exact ⟨_, rfl, _, _, _, [], _, [], hW', trodAll_mk1 (shut_bool Try.underlying4 _), (trodAll_cons_mk (Below.trod laidOut (by kernel_rfl) (of_decide_eq_true (by kernel_rfl)) h0 bel lt0) (trodAll_cons_mk (Below.trod laidOut (by kernel_rfl) (of_decide_eq_true (by kernel_rfl)) h1 bel lt1) trodAll_mk0)), rfl, bel.frame _, fun h => by cases h⟩
theorem sealMasks_holds : Rows.SealMasksSaid :=
  OpenClaim.holds_of_wide 4 Try.f4 rfl rfl rfl rfl rfl rfl rfl ⟨rfl, rfl, rfl, rfl, rfl⟩ rfl rfl rfl rfl rfl (by kernel_rfl) Try.func4 (by kernel_rfl)
    (of_decide_eq_true (by kernel_rfl)) (by unfold Func.isWrapper; first | (rw [if_pos (by decide +kernel)]; kernel_rfl) | (rw [if_neg (by decide +kernel)]; exact ⟨rfl, rfl⟩))
    (fun os started H enc _ => masks_lifted os started H enc)
#print axioms sealMasks_holds
end Go.Proofs.Ytdbfddbdkjbcpaa
