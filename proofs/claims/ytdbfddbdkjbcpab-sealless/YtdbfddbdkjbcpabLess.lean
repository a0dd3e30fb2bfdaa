/-
  For every b and every mask: the call of SealLess returns true (a mask covers what it is laid over, and no bit becomes 0 by it), and both arguments read afterwards as they read before. No condition.
-/
import Derived.Test.YtdbfddbdkjbcpabLive
import Derived.Test.YtdbfddbdkjbcpabSided
import Derived.Test.YtdbfddbdkjbcpabCovers
import Derived.Test.YtdbfddbdkjbcpabLift
namespace Go.Proofs.Ytdbfddbdkjbcpab
open Go.ChangeShapes Go.WideShapes Go.ChangeAt Go.RowKit
theorem less_walk (p q : Option Addr) (n c m d : Nat) (xs ms : List Nat) (w : World) (hx : In w p n c xs) (hm : In w q m d ms) :
    Calls Try.prog 4 #[.slice p n c, .slice q m d] w fun e w' => e = .returned (.bool true) ∧ Below w.heap.size w w' := by
  have HC : Hid (covers (maskL xs ms) xs = true) := (covers_iff _ _).2 ⟨maskL_length _ _, fun i _ => maskL_cov xs ms i⟩
  have hz : zeros (maskL xs ms) ≤ zeros xs := covers_zeros (maskL_byte hx.byte hm.byte) hx.byte HC.out
  go_enter Try.func4, Try.ntmps4
  go_wp2_with fail
  refine (live_any _).mono ?_
  rintro e w1 ⟨rfl, hb1⟩
  go_wp2_with fail
  refine (mask_any _ _ _ _ _ _ xs ms _ (hx.below hb1) (hm.below hb1)).mono ?_
  rintro e w2 ⟨p', c', rfl, hin, hb2⟩
  have hb12 := bt hb1 hb2
  clear hb1 hb2
  go_wp2_with fail
  refine (covers_any _ _ _ _ _ _ (maskL xs ms) xs _ hin (hx.below hb12)).mono ?_
  rintro e w3 ⟨rfl, hb3⟩
  rw [HC.out]
  have hb13 := bt hb12 hb3
  have hin3 := hin.below hb3
  clear hb12 hb3 hin
  go_wp2_with fail
  refine (zeros_any _ _ _ (maskL xs ms) _ hin3).mono ?_
  rintro e w4 ⟨rfl, hw4⟩
  subst hw4
  go_wp2_with fail
  refine (zeros_any _ _ _ xs _ (hx.below hb13)).mono ?_
  rintro e w5 ⟨rfl, hw5⟩
  subst hw5
  have hd : decide ((zeros (maskL xs ms) : Int) ≤ (zeros xs : Int)) = true := by simp; omega
  go_wp2
  go_ret
  exact ⟨rfl, hb13⟩
set_option maxRecDepth 100000 in
theorem less_lifted (os : Os) (started : os.Started) (H : Type) (enc : TypeId × Value → H) :
    ReturnsInHanded {} Try.checked os 4 .any (Rows.sealLessSpec.pre6 enc Try.prog Try.f4 Rows.sealLessRow.domain false) (Rows.sealLessSpec.post enc Try.prog Try.f4 false true false false) := by
  refine returnsInHanded_of_change_sized (C := Try.checked) own started (by kernel_rfl) Try.func4
    (ChangeSpec.witness6 (enc := enc) (C := Try.checked) false ⟨#[], #[.slice none 0 0, .slice none 0 0], []⟩ 8 (by kernel_rfl) (by kernel_rfl) (by kernel_rfl) (by kernel_rfl)) ?_
  intro W base args ds gs before hval0 hW hcnd hsz0 _
  have hval : ∀ (j : Nat) t v, Try.f4.params[j]? = some t → args[j]? = some v → Value.okWide Try.prog W .any base t v := hval0
  have hsz : (DataW.weightsEach Try.prog (Try.f4.params.toList ++ Rows.sealLessSpec.plain.varTypes Try.prog) (ds ++ gs)).all (· ≤ reachBytes) = true := hsz0
  have hW' := hW
  obtain ⟨p, q, hA0, hV, rfl, hfz, hnd⟩ := hW
  have hA : DataW.TrodAll enc Try.prog W 0 (fun _ => true) true Try.f4.params.toList args.toList ds p := hA0
  rw [Try.params4] at hA hval hsz
  obtain ⟨v0, vs0, d0, ds0, p0, q0, hargs, rfl, rfl, h0, r0⟩ := trodAll_cons hA
  obtain ⟨v1, vs1, d1, ds1, p1, q1, rfl, rfl, rfl, h1, r1⟩ := trodAll_cons r0
  obtain ⟨rfl, rfl, rfl⟩ := trodAll_nil r1
  obtain rfl : args = #[v0, v1] := by cases args; simp_all
  obtain ⟨rfl, rfl⟩ := trodVars_none hV
  obtain ⟨a0, len0, cap0, rfl⟩ := okWide_slice Try.underlying22 (hval 0 22 v0 rfl rfl)
  have lt0 : ∀ x ∈ p0, x.block < W.heap.size := by obtain ⟨m, hm⟩ := h0; exact DataW.trod_lt m _ _ _ hm
  obtain ⟨z0, w0⟩ := opened h0 hsz (j := 0) rfl rfl
  obtain ⟨a1, len1, cap1, rfl⟩ := okWide_slice Try.underlying22 (hval 1 22 v1 rfl rfl)
  have lt1 : ∀ x ∈ p1, x.block < W.heap.size := by obtain ⟨m, hm⟩ := h1; exact DataW.trod_lt m _ _ _ hm
  obtain ⟨z1, w1⟩ := opened h1 hsz (j := 1) rfl rfl
  clear hA0 hval0 hsz0
  refine (less_walk a0 a1 len0 cap0 len1 cap1 z0 z1 W w0 w1).mono fun e W' ⟨he, bel⟩ => ?_
  subst he
  exact ⟨_, rfl, _, _, _, [], _, [], hW', trodAll_mk1 (shut_bool Try.underlying4 _), (trodAll_cons_mk (Below.trod laidOut (by kernel_rfl) (of_decide_eq_true (by kernel_rfl)) h0 bel lt0) (trodAll_cons_mk (Below.trod laidOut (by kernel_rfl) (of_decide_eq_true (by kernel_rfl)) h1 bel lt1) trodAll_mk0)), rfl, bel.frame _, fun h => by cases h⟩
theorem sealLess_holds : Rows.SealLessSaid :=
  OpenClaim.holds_of_wide 4 Try.f4 rfl rfl rfl rfl rfl rfl rfl ⟨rfl, rfl, rfl, rfl, rfl⟩ rfl rfl rfl rfl rfl (by kernel_rfl) Try.func4 (by kernel_rfl)
    (of_decide_eq_true (by kernel_rfl)) (by unfold Func.isWrapper; first | (rw [if_pos (by decide +kernel)]; kernel_rfl) | (rw [if_neg (by decide +kernel)]; exact ⟨rfl, rfl⟩))
    (fun os started H enc _ => less_lifted os started H enc)
#print axioms sealLess_holds
end Go.Proofs.Ytdbfddbdkjbcpab
