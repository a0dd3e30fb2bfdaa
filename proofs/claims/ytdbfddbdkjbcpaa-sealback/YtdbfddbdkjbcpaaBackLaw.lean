/-
  For every b: the call of SealBack returns true (what is sealed is opened as it was; what is opened is sealed to what it was opened of), and b reads afterwards as it read before. No condition.
-/
import Derived.Test.YtdbfddbdkjbcpaaLive
import Derived.Test.YtdbfddbdkjbcpaaSided
import Derived.Test.YtdbfddbdkjbcpaaOpen
import Derived.Test.YtdbfddbdkjbcpaaLift
namespace Go.Proofs.Ytdbfddbdkjbcpaa
open Go.ChangeShapes Go.WideShapes Go.ChangeAt Go.RowKit
theorem sealed_state {xs : List Nat} (hm : xs.length ≤ 1048576) : stateL (xs ++ cnt xs) = 0 := by
  have hz := zeros_le xs
  have hne : erasedL (xs ++ cnt xs) = false := by
    cases h : erasedL (xs ++ cnt xs) with
    | false => rfl
    | true =>
      unfold erasedL at h
      simp only [Bool.and_eq_true] at h
      have := (all_iff _).1 h.2 xs.length (by rw [List.length_append, cnt_length]; omega)
      rw [show (xs ++ cnt xs).getD xs.length 0 = zeros xs / 16777216 % 256 from by simp [cnt, cntZ]] at this
      omega
  have hl : (xs ++ cnt xs).length = xs.length + 4 := by rw [List.length_append, cnt_length]
  unfold stateL
  rw [hne, hl, show xs.length + 4 - 4 = xs.length from by omega, List.drop_left' rfl, List.take_left' rfl]
  simp
  omega
theorem sealed_open {xs : List Nat} (hm : xs.length ≤ 1048576) : openL (xs ++ cnt xs) = xs := by
  unfold openL
  rw [if_pos (sealed_state hm), List.length_append, cnt_length, show xs.length + 4 - 4 = xs.length from by omega, List.take_left' rfl]
theorem back_walk (p : Option Addr) (n c : Nat) (xs : List Nat) (w : World) (hx : In w p n c xs) :
    Calls Try.prog 6 #[.slice p n c] w fun e w' => e = .returned (.bool true) ∧ Below w.heap.size w w' := by
  have HX : Hid (xs.length = n) := hx.len
  by_cases hl : 1048576 < n
  · have h1 : (1048576 : Int) < (n : Int) := by omega
    go_enter Try.func6, Try.ntmps6
    go_wp2_with fail
    refine (live_any _).mono ?_
    rintro e w1 ⟨rfl, hb1⟩
    go_wp2_with fail
    refine (seal_any p n c xs _ (hx.below hb1)).mono ?_
    rintro e w2 ⟨p1, n1, c1, rfl, hin1, hb2⟩
    rw [show sealE xs = 3 from by unfold sealE; rw [if_pos (by rw [HX.out]; exact hl)]]
    have hb12 := bt hb1 hb2
    go_wp2
    go_ret
    exact ⟨rfl, hb12⟩
  · have hkM : n ≤ 1048576 := by omega
    have HSt : Hid (stateL (xs ++ cnt xs) = 0) := sealed_state (by rw [HX.out]; exact hkM)
    have HOp : Hid (openL (xs ++ cnt xs) = xs) := sealed_open (by rw [HX.out]; exact hkM)
    go_enter Try.func6, Try.ntmps6
    go_wp2_with fail
    refine (live_any _).mono ?_
    rintro e w1 ⟨rfl, hb1⟩
    go_wp2_with fail
    refine (seal_short p n c xs _ (hx.below hb1) hkM).mono ?_
    rintro e w2 ⟨p1, c1, rfl, hin1, hb2⟩
    have hb12 := bt hb1 hb2
    clear hb1 hb2
    go_wp2_with fail
    refine (open_any p1 (n + 4) c1 (xs ++ cnt xs) _ hin1).mono ?_
    rintro e w3 ⟨p2, n2, c2, rfl, hin2, hb3⟩
    rw [HSt.out]
    rw [HOp.out] at hin2
    have hn2 : n2 = n := by have := hin2.len; rw [HX.out] at this; exact this.symm
    subst hn2
    have hb13 := bt hb12 hb3
    clear hb12 hb3 hin1
    go_wp2_with fail
    refine (equal_any p2 p n2 c2 n2 c xs xs _ hin2 (hx.below hb13)).mono ?_
    rintro e w4 ⟨rfl, hw4⟩
    subst hw4
    rw [show (xs == xs) = true from beq_self_eq_true xs]
    clear hin2
    go_wp2_with fail
    refine (open_any p n2 c xs _ (hx.below hb13)).mono ?_
    rintro e w5 ⟨p3, n3, c3, rfl, hin3, hb5⟩
    have hb15 := bt hb13 hb5
    clear hb13 hb5
    by_cases hs : stateL xs = 0
    · obtain ⟨h4, h5, h6⟩ := state_okL hs
      have e3 : openL xs = xs.take (xs.length - 4) := by unfold openL; rw [if_pos hs]
      rw [hs]
      rw [e3] at hin3
      have hn3 : n3 = n2 - 4 := by have := hin3.len; rw [List.length_take, HX.out] at this; omega
      have HE : Hid (xs.take (xs.length - 4) ++ cnt (xs.take (xs.length - 4)) = xs) := by show _ = _; rw [← h6, List.take_append_drop]
      have h44 : n3 + 4 = n2 := by rw [HX.out] at h4; omega
      have hn3M : n3 ≤ 1048576 := by omega
      clear hs h4 h5 h6 e3 hn3
      subst h44
      go_wp2_with fail
      refine (seal_short p3 n3 c3 _ _ hin3 hn3M).mono ?_
      rintro e w6 ⟨p4, c4, rfl, hin4, hb6⟩
      rw [HE.out] at hin4
      have hb16 := bt hb15 hb6
      clear hb15 hb6 hin3
      go_wp2_with fail
      refine (equal_any p4 p (n3 + 4) c4 (n3 + 4) c xs xs _ hin4 (hx.below hb16)).mono ?_
      rintro e w7 ⟨rfl, hw7⟩
      subst hw7
      rw [show (xs == xs) = true from beq_self_eq_true xs]
      go_wp2
      go_ret
      exact ⟨rfl, hb16⟩
    · have hne : (stateL xs != 0) = true := by rw [bne_iff_ne]; exact hs
      clear hs
      go_wp2
      go_ret
      exact ⟨rfl, hb15⟩
set_option maxRecDepth 100000 in
theorem back_lifted (os : Os) (started : os.Started) (H : Type) (enc : TypeId × Value → H) :
    ReturnsInHanded {} Try.checked os 6 .any (Rows.sealBackSpec.pre6 enc Try.prog Try.f6 Rows.sealBackRow.domain false) (Rows.sealBackSpec.post enc Try.prog Try.f6 false true false false) := by
  refine returnsInHanded_of_change_sized (C := Try.checked) own started (by kernel_rfl) Try.func6
    (ChangeSpec.witness6 (enc := enc) (C := Try.checked) false ⟨#[], #[.slice none 0 0], []⟩ 8 (by kernel_rfl) (by kernel_rfl) (by kernel_rfl) (by kernel_rfl)) ?_
  intro W base args ds gs before hval0 hW hcnd hsz0 _
  have hval : ∀ (j : Nat) t v, Try.f6.params[j]? = some t → args[j]? = some v → Value.okWide Try.prog W .any base t v := hval0
  have hsz : (DataW.weightsEach Try.prog (Try.f6.params.toList ++ Rows.sealBackSpec.plain.varTypes Try.prog) (ds ++ gs)).all (· ≤ reachBytes) = true := hsz0
  have hW' := hW
  obtain ⟨p, q, hA0, hV, rfl, hfz, hnd⟩ := hW
  have hA : DataW.TrodAll enc Try.prog W 0 (fun _ => true) true Try.f6.params.toList args.toList ds p := hA0
  rw [Try.params6] at hA hval hsz
  obtain ⟨v0, vs0, d0, ds0, p0, q0, hargs, rfl, rfl, h0, r0⟩ := trodAll_cons hA
  obtain ⟨rfl, rfl, rfl⟩ := trodAll_nil r0
  obtain rfl : args = #[v0] := by cases args; simp_all
  obtain ⟨rfl, rfl⟩ := trodVars_none hV
  obtain ⟨a0, len0, cap0, rfl⟩ := okWide_slice Try.underlying22 (hval 0 22 v0 rfl rfl)
  have lt0 : ∀ x ∈ p0, x.block < W.heap.size := by obtain ⟨m, hm⟩ := h0; exact DataW.trod_lt m _ _ _ hm
  obtain ⟨z0, w0⟩ := opened h0 hsz (j := 0) rfl rfl
  clear hA0 hval0 hsz0
  refine (back_walk a0 len0 cap0 z0 W w0).mono fun e W' ⟨he, bel⟩ => ?_
  subst he
  exact ⟨_, rfl, _, _, _, [], _, [], hW', trodAll_mk1 (shut_bool Try.underlying4 _), (trodAll_cons_mk (Below.trod laidOut (by kernel_rfl) (of_decide_eq_true (by kernel_rfl)) h0 bel lt0) trodAll_mk0), rfl, bel.frame _, fun h => by cases h⟩
theorem sealBack_holds : Rows.SealBackSaid :=
  OpenClaim.holds_of_wide 6 Try.f6 rfl rfl rfl rfl rfl rfl rfl ⟨rfl, rfl, rfl, rfl, rfl⟩ rfl rfl rfl rfl rfl (by kernel_rfl) Try.func6 (by kernel_rfl)
    (of_decide_eq_true (by kernel_rfl)) (by unfold Func.isWrapper; first | (rw [if_pos (by decide +kernel)]; kernel_rfl) | (rw [if_neg (by decide +kernel)]; exact ⟨rfl, rfl⟩))
    (fun os started H enc _ => back_lifted os started H enc)
#print axioms sealBack_holds
end Go.Proofs.Ytdbfddbdkjbcpaa
