/-
  For every b: the call of SealMakes returns true (what any bytes are sealed to, what state they are in, what is opened of them and how many of their bits are 0 are as the document's answer has them), and b reads afterwards as it read before. No condition.
-/
import Derived.Test.YtdbfddbdkjbcpaaLive
import Derived.Test.YtdbfddbdkjbcpaaRefOpen
import Derived.Test.YtdbfddbdkjbcpaaLift
namespace Go.Proofs.Ytdbfddbdkjbcpaa
open Go.ChangeShapes Go.WideShapes Go.ChangeAt Go.RowKit
theorem makes_walk (p : Option Addr) (n c : Nat) (xs : List Nat) (w : World) (hx : In w p n c xs) :
    Calls Try.prog 3 #[.slice p n c] w fun e w' => e = .returned (.bool true) ∧ Below w.heap.size w w' := by
  go_enter Try.func3, Try.ntmps3
  go_wp2_with fail
  refine (live_any _).mono ?_
  rintro e w1 ⟨rfl, hb1⟩
  go_wp2_with fail
  refine (seal_any p n c xs _ (hx.below hb1)).mono ?_
  rintro e w2 ⟨p2, n2, c2, rfl, hin2, hb2⟩
  have hb12 := bt hb1 hb2
  clear hb1 hb2
  go_wp2_with fail
  refine (refSeal_any p n c xs _ (hx.below hb12)).mono ?_
  rintro e w3 ⟨p3, n3, c3, rfl, hin3, hb3⟩
  have hin2' := hin2.below hb3
  have hb13 := bt hb12 hb3
  clear hb12 hb3 hin2
  go_wp2_with fail
  refine (open_any p n c xs _ (hx.below hb13)).mono ?_
  rintro e w4 ⟨p4, n4, c4, rfl, hin4, hb4⟩
  have hin2'' := hin2'.below hb4
  have hin3' := hin3.below hb4
  have hb14 := bt hb13 hb4
  clear hb13 hb4 hin2' hin3
  go_wp2_with fail
  refine (refOpen_any p n c xs _ (hx.below hb14)).mono ?_
  rintro e w5 ⟨p5, n5, c5, rfl, hin5, hb5⟩
  have hin2a := hin2''.below hb5
  have hin3a := hin3'.below hb5
  have hin4a := hin4.below hb5
  have hb15 := bt hb14 hb5
  clear hb14 hb5 hin2'' hin3' hin4
  generalize sealL xs = S at *
  generalize openL xs = O at *
  generalize sealE xs = E at *
  go_wp2_with fail
  refine (equal_any p2 p3 n2 c2 n3 c3 S S _ hin2a hin3a).mono ?_
  rintro e w6 ⟨rfl, hw6⟩
  subst hw6
  rw [show (S == S) = true from beq_self_eq_true S]
  clear hin2a hin3a
  go_wp2_with fail
  refine (equal_any p4 p5 n4 c4 n5 c5 O O _ hin4a hin5).mono ?_
  rintro e w7 ⟨rfl, hw7⟩
  subst hw7
  rw [show (O == O) = true from beq_self_eq_true O]
  clear hin4a hin5
  go_wp2_with fail
  refine (zeros_any p n c xs _ (hx.below hb15)).mono ?_
  rintro e w8 ⟨rfl, hw8⟩
  subst hw8
  go_wp2_with fail
  refine (refZeros_any p n c xs _ (hx.below hb15)).mono ?_
  rintro e w9 ⟨rfl, hw9⟩
  subst hw9
  go_wp2_with fail
  refine (state_any p n c xs _ (hx.below hb15)).mono ?_
  rintro e wa ⟨rfl, hba⟩
  have hb1a := bt hb15 hba
  clear hb15 hba
  go_wp2_with fail
  refine (refState_any p n c xs _ (hx.below hb1a)).mono ?_
  rintro e wb ⟨rfl, hbb⟩
  have hb1b := bt hb1a hbb
  clear hb1a hbb
  go_wp2
  go_ret
  exact ⟨rfl, hb1b⟩
set_option maxRecDepth 100000 in
theorem makes_lifted (os : Os) (started : os.Started) (H : Type) (enc : TypeId × Value → H) :
    ReturnsInHanded {} Try.checked os 3 .any (Rows.sealMakesSpec.pre6 enc Try.prog Try.f3 Rows.sealMakesRow.domain false) (Rows.sealMakesSpec.post enc Try.prog Try.f3 false true false false) := by
  refine returnsInHanded_of_change_sized (C := Try.checked) own started (by kernel_rfl) Try.func3
    (ChangeSpec.witness6 (enc := enc) (C := Try.checked) false ⟨#[], #[.slice none 0 0], []⟩ 8 (by kernel_rfl) (by kernel_rfl) (by kernel_rfl) (by kernel_rfl)) ?_
  intro W base args ds gs before hval0 hW hcnd hsz0 _
  have hval : ∀ (j : Nat) t v, Try.f3.params[j]? = some t → args[j]? = some v → Value.okWide Try.prog W .any base t v := hval0
  have hsz : (DataW.weightsEach Try.prog (Try.f3.params.toList ++ Rows.sealMakesSpec.plain.varTypes Try.prog) (ds ++ gs)).all (· ≤ reachBytes) = true := hsz0
  have hW' := hW
  obtain ⟨p, q, hA0, hV, rfl, hfz, hnd⟩ := hW
  have hA : DataW.TrodAll enc Try.prog W 0 (fun _ => true) true Try.f3.params.toList args.toList ds p := hA0
  rw [Try.params3] at hA hval hsz
  obtain ⟨v0, vs0, d0, ds0, p0, q0, hargs, rfl, rfl, h0, r0⟩ := trodAll_cons hA
  obtain ⟨rfl, rfl, rfl⟩ := trodAll_nil r0
  obtain rfl : args = #[v0] := by cases args; simp_all
  obtain ⟨rfl, rfl⟩ := trodVars_none hV
  obtain ⟨a0, len0, cap0, rfl⟩ := okWide_slice Try.underlying22 (hval 0 22 v0 rfl rfl)
  have lt0 : ∀ x ∈ p0, x.block < W.heap.size := by obtain ⟨m, hm⟩ := h0; exact DataW.trod_lt m _ _ _ hm
  obtain ⟨z0, w0⟩ := opened h0 hsz (j := 0) rfl rfl
  clear hA0 hval0 hsz0
  refine (makes_walk a0 len0 cap0 z0 W w0).mono fun e W' ⟨he, bel⟩ => ?_
  subst he
  exact ⟨_, rfl, _, _, _, [], _, [], hW', trodAll_mk1 (shut_bool Try.underlying4 _), (trodAll_cons_mk (Below.trod laidOut (by kernel_rfl) (of_decide_eq_true (by kernel_rfl)) h0 bel lt0) trodAll_mk0), rfl, bel.frame _, fun h => by cases h⟩
theorem sealMakes_holds : Rows.SealMakesSaid :=
  OpenClaim.holds_of_wide 3 Try.f3 rfl rfl rfl rfl rfl rfl rfl ⟨rfl, rfl, rfl, rfl, rfl⟩ rfl rfl rfl rfl rfl (by kernel_rfl) Try.func3 (by kernel_rfl)
    (of_decide_eq_true (by kernel_rfl)) (by unfold Func.isWrapper; first | (rw [if_pos (by decide +kernel)]; kernel_rfl) | (rw [if_neg (by decide +kernel)]; exact ⟨rfl, rfl⟩))
    (fun os started H enc _ => makes_lifted os started H enc)
#print axioms sealMakes_holds
end Go.Proofs.Ytdbfddbdkjbcpaa
