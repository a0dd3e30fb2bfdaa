/-
  For every a and every b: the call of SealUnlike returns true (of two that are sealed, and unlike, of one length, neither covers the other), and both arguments read afterwards as they read before. No condition.
-/
import Derived.Test.YtdbfddbdkjbcpabLive
import Derived.Test.YtdbfddbdkjbcpabSided
import Derived.Test.YtdbfddbdkjbcpabCovers
import Derived.Test.YtdbfddbdkjbcpabLift
import Derived.Laws.Cover1
namespace Go.Proofs.Ytdbfddbdkjbcpab
open Go.ChangeShapes Go.WideShapes Go.ChangeAt Go.RowKit
theorem min_run (n m : Nat) : ∃ k, k ≤ n ∧ k ≤ m ∧ k ≤ 1048576 ∧ ∀ W, (Builtin.min_ #[3, 3, 3] 3 #[Value.int IntKind.i64 (n : Int), Value.int IntKind.i64 (m : Int), Value.int IntKind.i64 1048576]).run Try.prog W = .ok (.int .i64 (k : Int)) W := by
  by_cases h : m < n
  · have h' : (m : Int) < (n : Int) := by omega
    by_cases h2 : 1048576 < m
    · have h2' : (1048576 : Int) < (m : Int) := by omega
      exact ⟨1048576, by omega, by omega, by omega, fun W => by rw [run_min_int3]; simp only [if_pos h', if_pos h2']; rfl⟩
    · have h2' : ¬ (1048576 : Int) < (m : Int) := by omega
      exact ⟨m, by omega, by omega, by omega, fun W => by rw [run_min_int3]; simp only [if_pos h', if_neg h2']⟩
  · have h' : ¬ (m : Int) < (n : Int) := by omega
    by_cases h2 : 1048576 < n
    · have h2' : (1048576 : Int) < (n : Int) := by omega
      exact ⟨1048576, by omega, by omega, by omega, fun W => by rw [run_min_int3]; simp only [if_neg h', if_pos h2']; rfl⟩
    · have h2' : ¬ (1048576 : Int) < (n : Int) := by omega
      exact ⟨n, by omega, by omega, by omega, fun W => by rw [run_min_int3]; simp only [if_neg h', if_neg h2']⟩
theorem seal_short (p : Option Addr) (n c : Nat) (xs : List Nat) (w : World) (hx : In w p n c xs) (h : n ≤ 1048576) :
    Calls Try.prog 6 #[.slice p n c] w fun e w' => ∃ p' c', e = .returned (.tuple #[.slice p' (n + 4) c', .int .i64 0]) ∧ In w' p' (n + 4) c' (xs ++ cnt xs) ∧ Below w.heap.size w w' := by
  refine (seal_any p n c xs w hx).mono ?_
  rintro e w1 ⟨p', n', c', rfl, hin, hb⟩
  have hl := hx.len
  rw [show sealL xs = xs ++ cnt xs from by unfold sealL; rw [if_neg (by omega)]] at hin
  have e1 : n' = n + 4 := by have := hin.len; rw [List.length_append, cnt_length] at this; omega
  subst e1
  rw [show sealE xs = 0 from by unfold sealE; rw [if_neg (by omega)]]
  exact ⟨p', c', rfl, hin, hb⟩
theorem unlike_walk (p q : Option Addr) (n c m d : Nat) (xs ys : List Nat) (w : World) (hx : In w p n c xs) (hy : In w q m d ys) :
    Calls Try.prog 3 #[.slice p n c, .slice q m d] w fun e w' => e = .returned (.bool true) ∧ Below w.heap.size w w' := by
  obtain ⟨k, hkn, hkm, hkM, hmin⟩ := min_run n m
  have hs1 := slice_front p n c k hkn hx.cap
  have hs2 := slice_front q m d k hkm hy.cap
  have hfx := hx.front k hkn
  have hfy := hy.front k hkm
  have Hlx : Hid ((xs.take k).length = k) := hfx.len
  have Hly : Hid ((ys.take k).length = k) := hfy.len
  generalize hX : xs.take k = X at *
  generalize hY : ys.take k = Y at *
  clear hX hY
  go_enter Try.func3, Try.ntmps3
  go_wp2_with fail
  refine (live_any _).mono ?_
  rintro e w1 ⟨rfl, hb1⟩
  go_wp2_with fail
  refine (seal_short p k c X _ (hfx.below hb1) hkM).mono ?_
  rintro e w2 ⟨p1, c1, rfl, hin1, hb2⟩
  have hb12 := bt hb1 hb2
  clear hb1 hb2
  go_wp2_with fail
  refine (seal_short q k d Y _ (hfy.below hb12) hkM).mono ?_
  rintro e w3 ⟨p2, c2, rfl, hin2, hb3⟩
  have hin1' := hin1.below hb3
  have hb13 := bt hb12 hb3
  clear hb12 hb3 hin1 hs1 hs2 hmin
  go_wp2_with fail
  refine (equal_any p1 p2 (k + 4) c1 (k + 4) c2 (X ++ cnt X) (Y ++ cnt Y) _ hin1' hin2).mono ?_
  rintro e w4 ⟨rfl, hw4⟩
  subst hw4
  cases hq : (X ++ cnt X == Y ++ cnt Y) with
  | true =>
    go_wp2
    go_ret
    exact ⟨rfl, hb13⟩
  | false =>
    have hne : ¬ X = Y := by intro e; rw [e] at hq; simp at hq
    have HC1 : Hid (covers (X ++ cnt X) (Y ++ cnt Y) = false) := by
      show _ = _
      cases h : covers (X ++ cnt X) (Y ++ cnt Y) with
      | false => rfl
      | true => exact absurd (unlike (by rw [Hlx.out, Hly.out]) (by rw [Hly.out]; exact hkM) hfy.byte hfx.byte h) hne
    have HC2 : Hid (covers (Y ++ cnt Y) (X ++ cnt X) = false) := by
      show _ = _
      cases h : covers (Y ++ cnt Y) (X ++ cnt X) with
      | false => rfl
      | true => exact absurd (unlike (by rw [Hlx.out, Hly.out]) (by rw [Hlx.out]; exact hkM) hfx.byte hfy.byte h).symm hne
    clear hne hq
    go_wp2_with fail
    refine (covers_any p1 p2 (k + 4) c1 (k + 4) c2 (X ++ cnt X) (Y ++ cnt Y) _ hin1' hin2).mono ?_
    rintro e w5 ⟨rfl, hb5⟩
    rw [HC1.out]
    have hin1'' := hin1'.below hb5
    have hin2'' := hin2.below hb5
    have hb15 := bt hb13 hb5
    clear hb13 hb5 hin1' hin2
    go_wp2_with fail
    refine (covers_any p2 p1 (k + 4) c2 (k + 4) c1 (Y ++ cnt Y) (X ++ cnt X) _ hin2'' hin1'').mono ?_
    rintro e w6 ⟨rfl, hb6⟩
    rw [HC2.out]
    have hb16 := bt hb15 hb6
    go_wp2
    go_ret
    exact ⟨rfl, hb16⟩
set_option maxRecDepth 100000 in
theorem unlike_lifted (os : Os) (started : os.Started) (H : Type) (enc : TypeId × Value → H) :
    ReturnsInHanded {} Try.checked os 3 .any (Rows.sealUnlikeSpec.pre6 enc Try.prog Try.f3 Rows.sealUnlikeRow.domain false) (Rows.sealUnlikeSpec.post enc Try.prog Try.f3 false true false false) := by
  refine returnsInHanded_of_change_sized (C := Try.checked) own started (by kernel_rfl) Try.func3
    (ChangeSpec.witness6 (enc := enc) (C := Try.checked) false ⟨#[], #[.slice none 0 0, .slice none 0 0], []⟩ 8 (by kernel_rfl) (by kernel_rfl) (by kernel_rfl) (by kernel_rfl)) ?_
  intro W base args ds gs before hval0 hW hcnd hsz0 _
  have hval : ∀ (j : Nat) t v, Try.f3.params[j]? = some t → args[j]? = some v → Value.okWide Try.prog W .any base t v := hval0
  have hsz : (DataW.weightsEach Try.prog (Try.f3.params.toList ++ Rows.sealUnlikeSpec.plain.varTypes Try.prog) (ds ++ gs)).all (· ≤ reachBytes) = true := hsz0
  have hW' := hW
  obtain ⟨p, q, hA0, hV, rfl, hfz, hnd⟩ := hW
  have hA : DataW.TrodAll enc Try.prog W 0 (fun _ => true) true Try.f3.params.toList args.toList ds p := hA0
  rw [Try.params3] at hA hval hsz
  obtain ⟨v0, vs0, d0, ds0, p0, q0, hargs, rfl, rfl, h0, r0⟩ := trodAll_cons hA
  obtain ⟨v1, vs1, d1, ds1, p1, q1, rfl, rfl, rfl, h1, r1⟩ := trodAll_cons r0
  obtain ⟨rfl, rfl, rfl⟩ := trodAll_nil r1
  obtain rfl : args = #[v0, v1] := by cases args; simp_all
  obtain ⟨rfl, rfl⟩ := trodVars_none hV
  obtain ⟨a0, len0, cap0, rfl⟩ := okWide_slice Try.underlying22 (hval 0 22 v0 rfl rfl)
  have lt0 : ∀ x ∈ p0, x.block < W.heap.size := by obtain ⟨m, hm⟩ := h0; exact DataW.trod_lt m _ _ _ hm
  obtain ⟨z0, w0⟩ := opened h0 hsz (j := 0) rfl rfl
  obtain ⟨a1, len1, cap1, rfl⟩ := okWide_slice Try.underlying22 (hval 1 22 v1 rfl rfl)
  have lt1 : ∀ x ∈ p1, x.block < W.heap.size := by obtain ⟨m, hm⟩ := h1; exact DataW.trod_lt m _ _ _ hm
  obtain ⟨z1, w1⟩ := opened h1 hsz (j := 1) rfl rfl
  clear hA0 hval0 hsz0
  refine (unlike_walk a0 a1 len0 cap0 len1 cap1 z0 z1 W w0 w1).mono fun e W' ⟨he, bel⟩ => ?_
  subst he
  exact ⟨_, rfl, _, _, _, [], _, [], hW', trodAll_mk1 (shut_bool Try.underlying4 _), (trodAll_cons_mk (Below.trod laidOut (by kernel_rfl) (of_decide_eq_true (by kernel_rfl)) h0 bel lt0) (trodAll_cons_mk (Below.trod laidOut (by kernel_rfl) (of_decide_eq_true (by kernel_rfl)) h1 bel lt1) trodAll_mk0)), rfl, bel.frame _, fun h => by cases h⟩
theorem sealUnlike_holds : Rows.SealUnlikeSaid :=
  OpenClaim.holds_of_wide 3 Try.f3 rfl rfl rfl rfl rfl rfl rfl ⟨rfl, rfl, rfl, rfl, rfl⟩ rfl rfl rfl rfl rfl (by kernel_rfl) Try.func3 (by kernel_rfl)
    (of_decide_eq_true (by kernel_rfl)) (by unfold Func.isWrapper; first | (rw [if_pos (by decide +kernel)]; kernel_rfl) | (rw [if_neg (by decide +kernel)]; exact ⟨rfl, rfl⟩))
    (fun os started H enc _ => unlike_lifted os started H enc)
#print axioms sealUnlike_holds
end Go.Proofs.Ytdbfddbdkjbcpab
