/-
  For all widths, values and bytes: the call of SealFields returns true (values that are packed are unpacked as they were; what is unpacked packs to the same bytes), and all three arguments read afterwards as they read before. No condition.
-/
import Derived.Test.YtdbfddbdkjbcpaaLive
import Derived.Test.YtdbfddbdkjbcpaaFields
import Derived.Test.YtdbfddbdkjbcpaaLift2
namespace Go.Proofs.Ytdbfddbdkjbcpaa
open Go.ChangeShapes Go.WideShapes Go.ChangeAt Go.RowKit
theorem fields_walk (p q r : Option Addr) (n c m d l f : Nat) (ws : List Int) (vs xs : List Nat) (w : World) (hp : InI w p n c ws) (hq : In64 w q m d vs) (hr : In w r l f xs) :
    Calls Try.prog 7 #[.slice p n c, .slice q m d, .slice r l f] w fun e w' => e = .returned (.bool true) ∧ Below w.heap.size w w' := by
  go_enter Try.func7, Try.ntmps7
  go_wp2_with fail
  refine (live_any _).mono ?_
  rintro e w1 ⟨rfl, hb1⟩
  go_wp2_with fail
  refine (pack_any p q n c m d ws vs _ (hp.below hb1) (hq.below hb1)).mono ?_
  rintro e w2 ⟨p2, n2, c2, rfl, hin2, hb2⟩
  have hb12 := bt hb1 hb2
  clear hb1 hb2
  cases hk : packOk ws vs with
  | true =>
    obtain ⟨h1, h2⟩ := there hk
    have HE : Hid (unpackE ws (packL ws vs) = 0) := h1
    have HL : Hid (unpackL ws (packL ws vs) = vs) := h2
    rw [show packE ws vs = 0 from by unfold packE; rw [if_pos hk]]
    clear h1 h2 hk
    go_wp2_with fail
    refine (unpack_any p p2 n c n2 c2 ws (packL ws vs) _ (hp.below hb12) hin2).mono ?_
    rintro e w3 ⟨p3, n3, c3, rfl, hin3, hb3⟩
    rw [HE.out]
    rw [HL.out] at hin3
    have hb13 := bt hb12 hb3
    clear hb12 hb3 hin2
    go_wp2_with fail
    refine (slEqual_any p3 q n3 c3 m d vs vs _ hin3 (hq.below hb13)).mono ?_
    rintro e w4 ⟨rfl, hb4⟩
    rw [show (vs == vs) = true from beq_self_eq_true vs]
    have hb14 := bt hb13 hb4
    clear hb13 hb4 hin3
    go_wp2_with fail
    refine (unpack_any p r n c l f ws xs _ (hp.below hb14) (hr.below hb14)).mono ?_
    rintro e w5 ⟨p5, n5, c5, rfl, hin5, hb5⟩
    have hb15 := bt hb14 hb5
    clear hb14 hb5
    by_cases hu : unpackE ws xs = 0
    · obtain ⟨h1, h2⟩ := andBack hr.byte hu
      have HP : Hid (packL ws (unpackL ws xs) = xs) := h2
      have HE : Hid (packE ws (unpackL ws xs) = 0) := by show _ = _; unfold packE; rw [if_pos h1]
      rw [hu]
      clear h1 h2 hu
      go_wp2_with fail
      refine (pack_any p p5 n c n5 c5 ws (unpackL ws xs) _ (hp.below hb15) hin5).mono ?_
      rintro e w6 ⟨p6, n6, c6, rfl, hin6, hb6⟩
      rw [HE.out]
      rw [HP.out] at hin6
      have hb16 := bt hb15 hb6
      clear hb15 hb6 hin5
      go_wp2_with fail
      refine (equal_any p6 r n6 c6 l f xs xs _ hin6 (hr.below hb16)).mono ?_
      rintro e w7 ⟨rfl, hw7⟩
      subst hw7
      rw [show (xs == xs) = true from beq_self_eq_true xs]
      go_wp2
      go_ret
      exact ⟨rfl, hb16⟩
    · have hne : (unpackE ws xs != 0) = true := by rw [bne_iff_ne]; exact hu
      clear hu
      go_wp2
      go_ret
      exact ⟨rfl, hb15⟩
  | false =>
    rw [show packE ws vs = 1 from by unfold packE; rw [hk]; rfl]
    have hb14 := hb12
    clear hb12 hin2 hk
    go_wp2_with fail
    refine (unpack_any p r n c l f ws xs _ (hp.below hb14) (hr.below hb14)).mono ?_
    rintro e w5 ⟨p5, n5, c5, rfl, hin5, hb5⟩
    have hb15 := bt hb14 hb5
    clear hb14 hb5
    by_cases hu : unpackE ws xs = 0
    · obtain ⟨h1, h2⟩ := andBack hr.byte hu
      have HP : Hid (packL ws (unpackL ws xs) = xs) := h2
      have HE : Hid (packE ws (unpackL ws xs) = 0) := by show _ = _; unfold packE; rw [if_pos h1]
      rw [hu]
      clear h1 h2 hu
      go_wp2_with fail
      refine (pack_any p p5 n c n5 c5 ws (unpackL ws xs) _ (hp.below hb15) hin5).mono ?_
      rintro e w6 ⟨p6, n6, c6, rfl, hin6, hb6⟩
      rw [HE.out]
      rw [HP.out] at hin6
      have hb16 := bt hb15 hb6
      clear hb15 hb6 hin5
      go_wp2_with fail
      refine (equal_any p6 r n6 c6 l f xs xs _ hin6 (hr.below hb16)).mono ?_
      rintro e w7 ⟨rfl, hw7⟩
      subst hw7
      rw [show (xs == xs) = true from beq_self_eq_true xs]
      go_wp2
      go_ret
      exact ⟨rfl, hb16⟩
    · have hne : (unpackE ws xs != 0) = true := by rw [bne_iff_ne]; exact hu
      clear hu
      go_wp2
      go_ret
      exact ⟨rfl, hb15⟩
set_option maxRecDepth 100000 in
theorem fields_lifted (os : Os) (started : os.Started) (H : Type) (enc : TypeId × Value → H) :
    ReturnsInHanded {} Try.checked os 7 .any (Rows.sealFieldsSpec.pre6 enc Try.prog Try.f7 Rows.sealFieldsRow.domain false) (Rows.sealFieldsSpec.post enc Try.prog Try.f7 false true false false) := by
  refine returnsInHanded_of_change_sized (C := Try.checked) own started (by kernel_rfl) Try.func7
    (ChangeSpec.witness6 (enc := enc) (C := Try.checked) false ⟨#[], #[.slice none 0 0, .slice none 0 0, .slice none 0 0], []⟩ 8 (by kernel_rfl) (by kernel_rfl) (by kernel_rfl) (by kernel_rfl)) ?_
  intro W base args ds gs before hval0 hW hcnd hsz0 _
  have hval : ∀ (j : Nat) t v, Try.f7.params[j]? = some t → args[j]? = some v → Value.okWide Try.prog W .any base t v := hval0
  have hsz : (DataW.weightsEach Try.prog (Try.f7.params.toList ++ Rows.sealFieldsSpec.plain.varTypes Try.prog) (ds ++ gs)).all (· ≤ reachBytes) = true := hsz0
  have hW' := hW
  obtain ⟨p, q, hA0, hV, rfl, hfz, hnd⟩ := hW
  have hA : DataW.TrodAll enc Try.prog W 0 (fun _ => true) true Try.f7.params.toList args.toList ds p := hA0
  rw [Try.params7] at hA hval hsz
  obtain ⟨v0, vs0, d0, ds0, p0, q0, hargs, rfl, rfl, h0, r0⟩ := trodAll_cons hA
  obtain ⟨v1, vs1, d1, ds1, p1, q1, rfl, rfl, rfl, h1, r1⟩ := trodAll_cons r0
  obtain ⟨v2, vs2, d2, ds2, p2, q2, rfl, rfl, rfl, h2, r2⟩ := trodAll_cons r1
  obtain ⟨rfl, rfl, rfl⟩ := trodAll_nil r2
  obtain rfl : args = #[v0, v1, v2] := by cases args; simp_all
  obtain ⟨rfl, rfl⟩ := trodVars_none hV
  obtain ⟨a0, len0, cap0, rfl⟩ := okWide_slice Try.underlying33 (hval 0 33 v0 rfl rfl)
  have lt0 : ∀ x ∈ p0, x.block < W.heap.size := by obtain ⟨m, hm⟩ := h0; exact DataW.trod_lt m _ _ _ hm
  obtain ⟨z0, w0⟩ := openedI h0 hsz (j := 0) rfl rfl
  obtain ⟨a1, len1, cap1, rfl⟩ := okWide_slice Try.underlying34 (hval 1 34 v1 rfl rfl)
  have lt1 : ∀ x ∈ p1, x.block < W.heap.size := by obtain ⟨m, hm⟩ := h1; exact DataW.trod_lt m _ _ _ hm
  obtain ⟨z1, w1⟩ := opened64 h1 hsz (j := 1) rfl rfl
  obtain ⟨a2, len2, cap2, rfl⟩ := okWide_slice Try.underlying22 (hval 2 22 v2 rfl rfl)
  have lt2 : ∀ x ∈ p2, x.block < W.heap.size := by obtain ⟨m, hm⟩ := h2; exact DataW.trod_lt m _ _ _ hm
  obtain ⟨z2, w2⟩ := opened h2 hsz (j := 2) rfl rfl
  clear hA0 hval0 hsz0
  refine (fields_walk a0 a1 a2 len0 cap0 len1 cap1 len2 cap2 z0 z1 z2 W w0 w1 w2).mono fun e W' ⟨he, bel⟩ => ?_
  subst he
  exact ⟨_, rfl, _, _, _, [], _, [], hW', trodAll_mk1 (shut_bool Try.underlying4 _), (trodAll_cons_mk (Below.trod laidOut (by kernel_rfl) (of_decide_eq_true (by kernel_rfl)) h0 bel lt0) (trodAll_cons_mk (Below.trod laidOut (by kernel_rfl) (of_decide_eq_true (by kernel_rfl)) h1 bel lt1) (trodAll_cons_mk (Below.trod laidOut (by kernel_rfl) (of_decide_eq_true (by kernel_rfl)) h2 bel lt2) trodAll_mk0))), rfl, bel.frame _, fun h => by cases h⟩
theorem sealFields_holds : Rows.SealFieldsSaid :=
  OpenClaim.holds_of_wide 7 Try.f7 rfl rfl rfl rfl rfl rfl rfl ⟨rfl, rfl, rfl, rfl, rfl⟩ rfl rfl rfl rfl rfl (by kernel_rfl) Try.func7 (by kernel_rfl)
    (of_decide_eq_true (by kernel_rfl)) (by unfold Func.isWrapper; first | (rw [if_pos (by decide +kernel)]; kernel_rfl) | (rw [if_neg (by decide +kernel)]; exact ⟨rfl, rfl⟩))
    (fun os started H enc _ => fields_lifted os started H enc)
#print axioms sealFields_holds
end Go.Proofs.Ytdbfddbdkjbcpaa
