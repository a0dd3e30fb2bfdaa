/-
  For every b and every mask: the call of SealSided returns true (of what is sealed, whatever bits become 1 by a mask: it is as it was, or it is told that it is erased or torn), and both arguments read afterwards as they read before. No condition.
-/
import Derived.Test.YtdbfddbdkjbcpaaLive
import Derived.Test.YtdbfddbdkjbcpaaSided
import Derived.Test.YtdbfddbdkjbcpaaLift
namespace Go.Proofs.Ytdbfddbdkjbcpaa
open Go.ChangeShapes Go.WideShapes Go.ChangeAt Go.RowKit
theorem state_three (xs : List Nat) : stateL xs = 10 ∨ stateL xs = 11 ∨ stateL xs = 0 := by
  unfold stateL; split
  · exact .inl rfl
  · split
    · exact .inr (.inr rfl)
    · exact .inr (.inl rfl)
theorem state_ok {ys : List Nat} (h : stateL ys = 0) : 4 ≤ ys.length ∧ ys.length ≤ 1048580 ∧ ys.drop (ys.length - 4) = cnt (ys.take (ys.length - 4)) := by
  unfold stateL at h
  split at h
  · simp at h
  · split at h
    · assumption
    · simp at h
theorem sided {xs ms : List Nat} (hm : xs.length ≤ 1048576) (hx : ∀ x ∈ xs, x < 256) (hms : ∀ x ∈ ms, x < 256) (h : stateL (maskL (xs ++ cnt xs) ms) = 0) : maskL (xs ++ cnt xs) ms = xs ++ cnt xs := by
  obtain ⟨_, _, h3⟩ := state_ok h
  have hl : (maskL (xs ++ cnt xs) ms).length = xs.length + 4 := by rw [maskL_length, List.length_append, cnt_length]
  rw [hl, show xs.length + 4 - 4 = xs.length from by omega] at h3
  have hb : ∀ x ∈ maskL (xs ++ cnt xs) ms, x < 256 := maskL_byte (by intro x hxm; rcases List.mem_append.1 hxm with h | h; exact hx x h; exact cntZ_byte _ x h) hms
  have hcov := fun i => maskL_cov (xs ++ cnt xs) ms i
  generalize maskL (xs ++ cnt xs) ms = y at *
  have e : y = y.take xs.length ++ cnt (y.take xs.length) := by
    rw [← h3, List.take_append_drop]
  have hlt : (y.take xs.length).length = xs.length := by rw [List.length_take]; omega
  have := seal_cov (xs := xs) (ys := y.take xs.length) hlt hm hx (fun x hxm => hb x (List.mem_of_mem_take hxm)) (fun i _ => by rw [← e]; exact hcov i)
  rw [this] at e
  exact e
theorem sided_walk (p q : Option Addr) (n c m d : Nat) (xs ms : List Nat) (w : World) (hx : In w p n c xs) (hm : In w q m d ms) :
    Calls Try.prog 8 #[.slice p n c, .slice q m d] w fun e w' => e = .returned (.bool true) ∧ Below w.heap.size w w' := by
  have HX : Hid (xs.length = n) := hx.len
  by_cases hl : 1048576 < n
  · have h1 : (1048576 : Int) < (n : Int) := by omega
    go_enter Try.func8, Try.ntmps8
    go_wp2_with fail
    refine (live_any _).mono ?_
    rintro e w1 ⟨rfl, hb1⟩
    go_wp2_with fail
    refine (seal_any p n c xs _ (hx.below hb1)).mono ?_
    rintro e w2 ⟨p1, n1, c1, rfl, hin1, hb2⟩
    rw [show sealE xs = 3 from by unfold sealE; rw [if_pos (by rw [HX.out]; exact hl)]]
    have hb12 := bt hb1 hb2
    go_wp2
    go_ret
    exact ⟨rfl, hb12⟩
  · have hkM : n ≤ 1048576 := by omega
    have hsided := sided (xs := xs) (ms := ms) (by rw [HX.out]; exact hkM) hx.byte hm.byte
    have HS : Hid (stateL (maskL (xs ++ cnt xs) ms) = 0 → maskL (xs ++ cnt xs) ms = xs ++ cnt xs) := hsided
    clear hsided
    go_enter Try.func8, Try.ntmps8
    go_wp2_with fail
    refine (live_any _).mono ?_
    rintro e w1 ⟨rfl, hb1⟩
    go_wp2_with fail
    refine (seal_short p n c xs _ (hx.below hb1) hkM).mono ?_
    rintro e w2 ⟨p1, c1, rfl, hin1, hb2⟩
    have hb12 := bt hb1 hb2
    clear hb1 hb2
    go_wp2_with fail
    refine (mask_any p1 q (n + 4) c1 m d (xs ++ cnt xs) ms _ hin1 (hm.below hb12)).mono ?_
    rintro e w3 ⟨p2, c2, rfl, hin2, hb3⟩
    have hin1' := hin1.below hb3
    have hb13 := bt hb12 hb3
    clear hb12 hb3 hin1
    generalize maskL (xs ++ cnt xs) ms = Y at *
    generalize xs ++ cnt xs = X at *
    go_wp2_with fail
    refine (equal_any p1 p2 (n + 4) c1 (n + 4) c2 X Y _ hin1' hin2).mono ?_
    rintro e w4 ⟨rfl, hw4⟩
    subst hw4
    cases hq : (X == Y) with
    | true =>
      go_wp2
      go_ret
      exact ⟨rfl, hb13⟩
    | false =>
      have hne : ¬ stateL Y = 0 := fun h => by rw [HS.out h] at hq; simp at hq
      rcases state_three Y with h | h | h
      · have HT : Hid (stateL Y = 10) := h
        clear h hne hq
        go_wp2_with fail
        refine (state_any p2 (n + 4) c2 Y _ hin2).mono ?_
        rintro e w5 ⟨rfl, hb5⟩
        rw [HT.out]
        have hb15 := bt hb13 hb5
        go_wp2
        go_ret
        exact ⟨rfl, hb15⟩
      · have HT : Hid (stateL Y = 11) := h
        clear h hne hq
        go_wp2_with fail
        refine (state_any p2 (n + 4) c2 Y _ hin2).mono ?_
        rintro e w5 ⟨rfl, hb5⟩
        rw [HT.out]
        have hb15 := bt hb13 hb5
        have hin2' := hin2.below hb5
        clear hb13 hb5 hin2
        go_wp2_with fail
        refine (state_any p2 (n + 4) c2 Y _ hin2').mono ?_
        rintro e w6 ⟨rfl, hb6⟩
        rw [HT.out]
        have hb16 := bt hb15 hb6
        go_wp2
        go_ret
        exact ⟨rfl, hb16⟩
      · exact absurd h hne
set_option maxRecDepth 100000 in
theorem sided_lifted (os : Os) (started : os.Started) (H : Type) (enc : TypeId × Value → H) :
    ReturnsInHanded {} Try.checked os 8 .any (Rows.sealSidedSpec.pre6 enc Try.prog Try.f8 Rows.sealSidedRow.domain false) (Rows.sealSidedSpec.post enc Try.prog Try.f8 false true false false) := by
  refine returnsInHanded_of_change_sized (C := Try.checked) own started (by kernel_rfl) Try.func8
    (ChangeSpec.witness6 (enc := enc) (C := Try.checked) false ⟨#[], #[.slice none 0 0, .slice none 0 0], []⟩ 8 (by kernel_rfl) (by kernel_rfl) (by kernel_rfl) (by kernel_rfl)) ?_
  intro W base args ds gs before hval0 hW hcnd hsz0 _
  have hval : ∀ (j : Nat) t v, Try.f8.params[j]? = some t → args[j]? = some v → Value.okWide Try.prog W .any base t v := hval0
  have hsz : (DataW.weightsEach Try.prog (Try.f8.params.toList ++ Rows.sealSidedSpec.plain.varTypes Try.prog) (ds ++ gs)).all (· ≤ reachBytes) = true := hsz0
  have hW' := hW
  obtain ⟨p, q, hA0, hV, rfl, hfz, hnd⟩ := hW
  have hA : DataW.TrodAll enc Try.prog W 0 (fun _ => true) true Try.f8.params.toList args.toList ds p := hA0
  rw [Try.params8] at hA hval hsz
  obtain ⟨v0, vs0, d0, ds0, p0, q0, hargs, rfl, rfl, h0, r0⟩ := trodAll_cons hA
  obtain ⟨v1, vs1, d1, ds1, p1, q1, rfl, rfl, rfl, h1, r1⟩ := trodAll_cons r0
  obtain ⟨rfl, rfl, rfl⟩ := trodAll_nil r1
  obtain rfl : args = #[v0, v1] := by cases args; simp_all
  obtain ⟨rfl, rfl⟩ := trodVars_none hV
  obtain ⟨a0, len0, cap0, rfl⟩ := okWide_slice Try.underlying22 (hval 0 22 v0 rfl rfl)
  have lt0 : ∀ x ∈ p0, x.block < W.heap.size := by obtain ⟨m, hm⟩ := h0; exact DataW.trod_lt m _ _ _ hm
  obtain ⟨z0, w0⟩ := opened h0 hsz (j := 0) rfl rfl
  obtain ⟨a1, len1, cap1, rfl⟩ := okWide_slice Try.underlying22 (hval 1 22 v1 rfl rfl)
  have lt1 : ∀ x ∈ p1, x.block < W.heap.size := by obtain ⟨m, hm⟩ := h1; exact DataW.trod_lt m _ _ _ hm
  obtain ⟨z1, w1⟩ := opened h1 hsz (j := 1) rfl rfl
  clear hA0 hval0 hsz0
  refine (sided_walk a0 a1 len0 cap0 len1 cap1 z0 z1 W w0 w1).mono fun e W' ⟨he, bel⟩ => ?_
  subst he
  exact ⟨_, rfl, _, _, _, [], _, [], hW', trodAll_mk1 (shut_bool Try.underlying4 _), (trodAll_cons_mk (Below.trod laidOut (by kernel_rfl) (of_decide_eq_true (by kernel_rfl)) h0 bel lt0) (trodAll_cons_mk (Below.trod laidOut (by kernel_rfl) (of_decide_eq_true (by kernel_rfl)) h1 bel lt1) trodAll_mk0)), rfl, bel.frame _, fun h => by cases h⟩
theorem sealSided_holds : Rows.SealSidedSaid :=
  OpenClaim.holds_of_wide 8 Try.f8 rfl rfl rfl rfl rfl rfl rfl ⟨rfl, rfl, rfl, rfl, rfl⟩ rfl rfl rfl rfl rfl (by kernel_rfl) Try.func8 (by kernel_rfl)
    (of_decide_eq_true (by kernel_rfl)) (by unfold Func.isWrapper; first | (rw [if_pos (by decide +kernel)]; kernel_rfl) | (rw [if_neg (by decide +kernel)]; exact ⟨rfl, rfl⟩))
    (fun os started H enc _ => sided_lifted os started H enc)
#print axioms sealSided_holds
end Go.Proofs.Ytdbfddbdkjbcpaa
