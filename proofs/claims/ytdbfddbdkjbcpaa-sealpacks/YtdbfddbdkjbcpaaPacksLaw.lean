/-
  For all widths, values and bytes: the call of SealPacks returns true (how many bytes widths need, values as bits and bits as values are as the document's answer has them), and all three arguments read afterwards as they read before. No condition.
-/
import Derived.Test.YtdbfddbdkjbcpaaLive
import Derived.Test.YtdbfddbdkjbcpaaRefPack
import Derived.Test.YtdbfddbdkjbcpaaRefUnpack
import Derived.Test.YtdbfddbdkjbcpaaLift2
namespace Go.Proofs.Ytdbfddbdkjbcpaa
open Go.ChangeShapes Go.WideShapes Go.ChangeAt Go.RowKit
theorem packs_walk (p q r : Option Addr) (n c m d l f : Nat) (ws : List Int) (vs xs : List Nat) (w : World) (hp : InI w p n c ws) (hq : In64 w q m d vs) (hr : In w r l f xs) :
    Calls Try.prog 5 #[.slice p n c, .slice q m d, .slice r l f] w fun e w' => e = .returned (.bool true) ∧ Below w.heap.size w w' := by
  go_enter Try.func5, Try.ntmps5
  go_wp2_with fail
  refine (live_any _).mono ?_
  rintro e w1 ⟨rfl, hb1⟩
  go_wp2_with fail
  refine (width_any p n c ws _ (hp.below hb1)).mono ?_
  rintro e w2 ⟨rfl, hw2⟩
  subst hw2
  go_wp2_with fail
  refine (refWidth_any p n c ws _ (hp.below hb1)).mono ?_
  rintro e w3 ⟨rfl, hw3⟩
  subst hw3
  go_wp2_with fail
  refine (pack_any p q n c m d ws vs _ (hp.below hb1) (hq.below hb1)).mono ?_
  rintro e w4 ⟨p4, n4, c4, rfl, hin4, hb4⟩
  have hb14 := bt hb1 hb4
  clear hb1 hb4
  go_wp2_with fail
  refine (refPack_any p q n c m d ws vs _ (hp.below hb14) (hq.below hb14)).mono ?_
  rintro e w5 ⟨p5, n5, c5, rfl, hin5, hb5⟩
  have hin4a := hin4.below hb5
  have hb15 := bt hb14 hb5
  clear hb14 hb5 hin4
  go_wp2_with fail
  refine (unpack_any p r n c l f ws xs _ (hp.below hb15) (hr.below hb15)).mono ?_
  rintro e w6 ⟨p6, n6, c6, rfl, hin6, hb6⟩
  have hin4b := hin4a.below hb6
  have hin5b := hin5.below hb6
  have hb16 := bt hb15 hb6
  clear hb15 hb6 hin4a hin5
  go_wp2_with fail
  refine (refUnpack_any p r n c l f ws xs _ (hp.below hb16) (hr.below hb16)).mono ?_
  rintro e w7 ⟨p7, n7, c7, rfl, hin7, hb7⟩
  have hin4c := hin4b.below hb7
  have hin5c := hin5b.below hb7
  have hin6c := hin6.below hb7
  have hb17 := bt hb16 hb7
  clear hb16 hb7 hin4b hin5b hin6
  generalize packL ws vs = PL at *
  generalize packE ws vs = PE at *
  generalize unpackL ws xs = UL at *
  generalize unpackE ws xs = UE at *
  generalize widthN ws = WN at *
  generalize widthE ws = WE at *
  go_wp2_with fail
  refine (equal_any p4 p5 n4 c4 n5 c5 PL PL _ hin4c hin5c).mono ?_
  rintro e w8 ⟨rfl, hw8⟩
  subst hw8
  rw [show (PL == PL) = true from beq_self_eq_true PL]
  clear hin4c hin5c
  go_wp2_with fail
  refine (slEqual_any p6 p7 n6 c6 n7 c7 UL UL _ hin6c hin7).mono ?_
  rintro e w9 ⟨rfl, hb9⟩
  rw [show (UL == UL) = true from beq_self_eq_true UL]
  have hb19 := bt hb17 hb9
  clear hb17 hb9 hin6c hin7
  go_wp2
  go_ret
  exact ⟨rfl, hb19⟩
set_option maxRecDepth 100000 in
theorem packs_lifted (os : Os) (started : os.Started) (H : Type) (enc : TypeId × Value → H) :
    ReturnsInHanded {} Try.checked os 5 .any (Rows.sealPacksSpec.pre6 enc Try.prog Try.f5 Rows.sealPacksRow.domain false) (Rows.sealPacksSpec.post enc Try.prog Try.f5 false true false false) := by
  refine returnsInHanded_of_change_sized (C := Try.checked) own started (by kernel_rfl) Try.func5
    (ChangeSpec.witness6 (enc := enc) (C := Try.checked) false ⟨#[], #[.slice none 0 0, .slice none 0 0, .slice none 0 0], []⟩ 8 (by kernel_rfl) (by kernel_rfl) (by kernel_rfl) (by kernel_rfl)) ?_
  intro W base args ds gs before hval0 hW hcnd hsz0 _
  have hval : ∀ (j : Nat) t v, Try.f5.params[j]? = some t → args[j]? = some v → Value.okWide Try.prog W .any base t v := hval0
  have hsz : (DataW.weightsEach Try.prog (Try.f5.params.toList ++ Rows.sealPacksSpec.plain.varTypes Try.prog) (ds ++ gs)).all (· ≤ reachBytes) = true := hsz0
  have hW' := hW
  obtain ⟨p, q, hA0, hV, rfl, hfz, hnd⟩ := hW
  have hA : DataW.TrodAll enc Try.prog W 0 (fun _ => true) true Try.f5.params.toList args.toList ds p := hA0
  rw [Try.params5] at hA hval hsz
  obtain ⟨v0, vs0, d0, ds0, p0, q0, hargs, rfl, rfl, h0, r0⟩ := trodAll_cons hA
  obtain ⟨v1, vs1, d1, ds1, p1, q1, rfl, rfl, rfl, h1, r1⟩ := trodAll_cons r0
  obtain ⟨v2, vs2, d2, ds2, p2, q2, rfl, rfl, rfl, h2, r2⟩ := trodAll_cons r1
  obtain ⟨rfl, rfl, rfl⟩ := trodAll_nil r2
  obtain rfl : args = #[v0, v1, v2] := by cases args; simp_all
  obtain ⟨rfl, rfl⟩ := trodVars_none hV
  obtain ⟨a0, len0, cap0, rfl⟩ := okWide_slice Try.underlying33 (hval 0 33 v0 rfl rfl)
  have lt0 : ∀ x ∈ p0, x.block < W.heap.size := by obtain ⟨m, hm⟩ := h0; exact DataW.trod_lt m _ _ _ hm
  obtain ⟨z0, w0⟩ := openedI h0 hsz (j := 0) rfl rfl
  obtain ⟨a1, len1, cap1, rfl⟩ := okWide_slice Try.underlying34 (hval 1 34 v1 rfl rfl)
  have lt1 : ∀ x ∈ p1, x.block < W.heap.size := by obtain ⟨m, hm⟩ := h1; exact DataW.trod_lt m _ _ _ hm
  obtain ⟨z1, w1⟩ := opened64 h1 hsz (j := 1) rfl rfl
  obtain ⟨a2, len2, cap2, rfl⟩ := okWide_slice Try.underlying22 (hval 2 22 v2 rfl rfl)
  have lt2 : ∀ x ∈ p2, x.block < W.heap.size := by obtain ⟨m, hm⟩ := h2; exact DataW.trod_lt m _ _ _ hm
  obtain ⟨z2, w2⟩ := opened h2 hsz (j := 2) rfl rfl
  clear hA0 hval0 hsz0
  refine (packs_walk a0 a1 a2 len0 cap0 len1 cap1 len2 cap2 z0 z1 z2 W w0 w1 w2).mono fun e W' ⟨he, bel⟩ => ?_
  subst he
  exact ⟨_, rfl, _, _, _, [], _, [], hW', trodAll_mk1 (shut_bool Try.underlying4 _), (trodAll_cons_mk (Below.trod laidOut (by kernel_rfl) (of_decide_eq_true (by kernel_rfl)) h0 bel lt0) (trodAll_cons_mk (Below.trod laidOut (by kernel_rfl) (of_decide_eq_true (by kernel_rfl)) h1 bel lt1) (trodAll_cons_mk (Below.trod laidOut (by kernel_rfl) (of_decide_eq_true (by kernel_rfl)) h2 bel lt2) trodAll_mk0))), rfl, bel.frame _, fun h => by cases h⟩
theorem sealPacks_holds : Rows.SealPacksSaid :=
  OpenClaim.holds_of_wide 5 Try.f5 rfl rfl rfl rfl rfl rfl rfl ⟨rfl, rfl, rfl, rfl, rfl⟩ rfl rfl rfl rfl rfl (by kernel_rfl) Try.func5 (by kernel_rfl)
    (of_decide_eq_true (by kernel_rfl)) (by unfold Func.isWrapper; first | (rw [if_pos (by decide +kernel)]; kernel_rfl) | (rw [if_neg (by decide +kernel)]; exact ⟨rfl, rfl⟩))
    (fun os started H enc _ => packs_lifted os started H enc)
#print axioms sealPacks_holds
end Go.Proofs.Ytdbfddbdkjbcpaa
