/-
  Whether a slice holds a number; what keeps a call from taking a block that is not used.
-/
import Derived.Test.YthibaefoioeghaaPlApp
namespace Go.Proofs.Ythibaefoioeghaa
open Go.RowKit
theorem in_list {xs : List Int} {k : Nat} {x : Int} (hk : k < xs.length) (h : eI xs k = x) : decide (x ∈ xs) = true := by
  rw [decide_eq_true_eq, ← h]; exact eI_mem hk
theorem not_in {xs : List Int} {x : Int} (h : ∀ i, i < xs.length → eI xs i ≠ x) : decide (x ∈ xs) = false := by
  rw [decide_eq_false_iff_not]
  intro hm
  obtain ⟨i, hi, rfl⟩ := List.mem_iff_getElem.1 hm
  exact h i hi (by simp [eI, hi])
set_option linter.unusedSimpArgs false in
set_option maxRecDepth 100000 in
set_option maxHeartbeats 4000000 in
theorem indexI_any (p : Option Addr) (n c : Nat) (xs : List Int) (x : Int) (w : World) (h : InI w p n c xs) :
    Calls Try.prog 83 #[.slice p n c, .int .i64 x] w fun e w' => ∃ i : Int, e = .returned (.int .i64 i) ∧ w' = w ∧ decide (0 ≤ i) = decide (x ∈ xs) := by
  have HL : Hid (xs.length = n) := h.len
  have hr := h.room
  go_enter Try.func83, Try.ntmps83
  go_wp2_with fail
  go_loopw [8] (fun i wr => ∃ k : Nat, k ≤ n ∧ i = .int .i64 k ∧ wr = w ∧ ∀ i, i < k → eI xs i ≠ x) (fun i _ => n - (intOf i).toNat)
  case atStart => exact ⟨0, Nat.zero_le _, rfl, rfl, fun i h => by omega⟩
  case round =>
    obtain ⟨k, hk, rfl, hwr, hall⟩ := hrel
    subst hwr
    have HA : Hid (∀ i, i < k → eI xs i ≠ x) := hall
    clear hall
    by_cases hlt : k < n
    · obtain ⟨b, o, hp, _, hcc⟩ := h.at' (by omega)
      have ck := hcc k hlt
      have hk1 : (k : Int) < (n : Int) := by omega
      rw [hp]
      clear hcc
      by_cases hx : eI xs k = x
      · have HD : Hid (decide (x ∈ xs) = true) := in_list (by rw [HL.out]; exact hlt) hx
        rw [hx] at ck
        clear hx
        go_wp2_with fail
        go_ret
        exact ⟨(k : Int), rfl, rfl, by rw [HD.out]; simp⟩
      · have HX : Hid (∀ i, i = k → eI xs i ≠ x) := fun i e => by rw [e]; exact hx
        have hx' : (x == eI xs k) = false := by rw [beq_eq_false_iff_ne]; exact fun e => hx e.symm
        clear hx
        generalize eI xs k = z at *
        go_wp2_with fail
        go_roundw
        case rel =>
          refine ⟨k + 1, by omega, by go_num, trivial, fun i hi => ?_⟩
          rcases Nat.lt_succ_iff_lt_or_eq.1 hi with h' | h'
          · exact HA.out i h'
          · exact HX.out i h'
        case measure => simp [intOf]; omega
    · obtain rfl : k = n := by omega
      have HD : Hid (decide (x ∈ xs) = false) := not_in (fun i hi => HA.out i (by rw [HL.out] at hi; exact hi))
      go_wp2_with fail
      go_ret
      exact ⟨-1, rfl, rfl, by rw [HD.out]; rfl⟩
theorem contains_any (p : Option Addr) (n c : Nat) (xs : List Int) (x : Int) (w : World) (h : InI w p n c xs) :
    Calls Try.prog 67 #[.slice p n c, .int .i64 x] w fun e w' => e = .returned (.bool (decide (x ∈ xs))) ∧ Below w.heap.size w w' := by
  have hi := indexI_any p n c xs x w h
  clear h
  go_enter Try.func67, Try.ntmps67
  go_wp2_with (go_at_call 83; refine hi.mono ?_; rintro e w1 ⟨i, rfl, rfl, hd⟩)
  go_ret
  exact ⟨rfl, Below.refl _ _⟩
/-- What keeps a call from taking a block. -/
def freshE (T : Tab) (x : Int) : Int := if okT T then (if (decide (0 ≤ x) && decide (x ≤ 255)) && !decide (x ∈ blocksL T) then 0 else 1) else 50
set_option linter.unusedSimpArgs false in
set_option maxRecDepth 100000 in
set_option maxHeartbeats 4000000 in
theorem reachFresh_any (V : TabV) (T : Tab) (x : Int) (w : World) (h : TabIn w V T) :
    Calls Try.prog 37 #[.agg (tabA V T), .int .i64 x] w fun e w' => e = .returned (.int .i64 (freshE T x)) ∧ Below w.heap.size w w' := by
  have hb0 := below_alloc w (.cells (tabA V T) 28)
  have b0 := Blk.new' w 28 (tabA V T)
  have hT := h.below hb0
  have hc := check_any V T _ hT
  cases hok : okT T with
  | false =>
    have HE : Hid (freshE T x = 50) := by show _ = _; unfold freshE; rw [hok]; rfl
    rw [checkE_bad hok] at hc
    clear hok
    unfold tabA at hb0 b0 hc ⊢
    go_enter Try.func37, Try.ntmps37
    go_wp2_with (go_at_call 19; refine hc.mono ?_; rintro e w1 ⟨rfl, hb1⟩)
    go_ret
    rw [HE.out]
    exact ⟨rfl, bt hb0 hb1⟩
  | true =>
    have HE : Hid (freshE T x = if (decide (0 ≤ x) && decide (x ≤ 255)) && !decide (x ∈ blocksL T) then 0 else 1) := by show _ = _; unfold freshE; rw [hok]; rfl
    obtain ⟨P, L, hF⟩ := okT_facts hok hT
    have hnd := hF.nd
    have hl0 := hF.l0
    have hnl := hF.nl
    have hbl := fun w' (hb : Below _ _ w') => blocksOf_any V T w' (hT.below hb) (by omega) (by omega)
    have hwi := fun w => within_any x 0 255 w
    have hlen : (blocksL T).length ≤ 1000 := by
      unfold blocksL seqL
      have h1 := List.length_filter_le (fun x : Int => x != -1) T.data
      have h2 := hT.data.len
      have h3 := hT.logs.len
      rw [List.length_append, List.length_append, List.length_map]
      split <;> simp <;> omega
    have hct := fun w' B p c (ho : World.ownsRow w' B 3 1 (.slice p (blocksL T).length c) (blocksL T).length (valsI (blocksL T))) => contains_any p (blocksL T).length c (blocksL T) x w' (by obtain ⟨p', c', hv, hin⟩ := in_of_ownsI ho (by omega); cases hv; exact hin)
    rw [checkE_ok hok] at hc
    clear hok hF hnd hl0 hnl hlen hT h
    generalize decide (x ∈ blocksL T) = inb at *
    generalize blocksL T = bls at *
    generalize (decide (0 ≤ x) && decide (x ≤ 255)) = wi at *
    generalize hbn : bls.length = bn at *
    unfold tabA at hb0 b0 hc hbl ⊢
    cases wi with
    | false =>
      go_enter Try.func37, Try.ntmps37
      go_wp2_with (first | (go_at_call 19; refine hc.mono ?_; rintro e w1 ⟨rfl, hb1⟩; have b1 := b0.kept hb1; have y0 := b1.cell' (i := 0) rfl; have y1 := b1.cell' (i := 1) rfl; have y2 := b1.cell' (i := 2) rfl; have y3 := b1.cell' (i := 3) rfl; have y4 := b1.cell' (i := 4) rfl; have y5 := b1.cell' (i := 5) rfl; have y6 := b1.cell' (i := 6) rfl; have y7 := b1.cell' (i := 7) rfl; have y8 := b1.cell' (i := 8) rfl) | (go_at_call 66; refine (hwi _).mono ?_; rintro e w2 ⟨rfl, hw'⟩; have hw2 := hw'.symm; subst hw2; clear hw'))
      go_ret
      rw [HE.out]
      exact ⟨rfl, bt hb0 hb1⟩
    | true =>
      cases inb with
      | false =>
        go_enter Try.func37, Try.ntmps37
        go_wp2_with (first | (go_at_call 19; refine hc.mono ?_; rintro e w1 ⟨rfl, hb1⟩; have b1 := b0.kept hb1; have y0 := b1.cell' (i := 0) rfl; have y1 := b1.cell' (i := 1) rfl; have y2 := b1.cell' (i := 2) rfl; have y3 := b1.cell' (i := 3) rfl; have y4 := b1.cell' (i := 4) rfl; have y5 := b1.cell' (i := 5) rfl; have y6 := b1.cell' (i := 6) rfl; have y7 := b1.cell' (i := 7) rfl; have y8 := b1.cell' (i := 8) rfl) | (go_at_call 66; refine (hwi _).mono ?_; rintro e w2 ⟨rfl, hw'⟩; have hw2 := hw'.symm; subst hw2; clear hw') | (go_at_call 68; refine (hbl _ hb1).mono ?_; rintro e w3 ⟨pb, cb, rfl, hown, hb3⟩) | (go_at_call 67; refine (hct _ _ _ _ hown).mono ?_; rintro e w4 ⟨rfl, hb4⟩))
        go_ret
        rw [HE.out]
        exact ⟨rfl, bt (bt (bt hb0 hb1) hb3) hb4⟩
      | true =>
        go_enter Try.func37, Try.ntmps37
        go_wp2_with (first | (go_at_call 19; refine hc.mono ?_; rintro e w1 ⟨rfl, hb1⟩; have b1 := b0.kept hb1; have y0 := b1.cell' (i := 0) rfl; have y1 := b1.cell' (i := 1) rfl; have y2 := b1.cell' (i := 2) rfl; have y3 := b1.cell' (i := 3) rfl; have y4 := b1.cell' (i := 4) rfl; have y5 := b1.cell' (i := 5) rfl; have y6 := b1.cell' (i := 6) rfl; have y7 := b1.cell' (i := 7) rfl; have y8 := b1.cell' (i := 8) rfl) | (go_at_call 66; refine (hwi _).mono ?_; rintro e w2 ⟨rfl, hw'⟩; have hw2 := hw'.symm; subst hw2; clear hw') | (go_at_call 68; refine (hbl _ hb1).mono ?_; rintro e w3 ⟨pb, cb, rfl, hown, hb3⟩) | (go_at_call 67; refine (hct _ _ _ _ hown).mono ?_; rintro e w4 ⟨rfl, hb4⟩))
        go_ret
        rw [HE.out]
        exact ⟨rfl, bt (bt (bt hb0 hb1) hb3) hb4⟩
end Go.Proofs.Ythibaefoioeghaa
