/-
  What seal.State answers.
-/
import Derived.Test.YtfgelncfmopibaaXSeal
import Derived.Test.YtfgelncfmopibaaXEqual
import Derived.Deep.RegionWith
import Derived.Deep.RegionHeld3
namespace Go.Proofs.Ytfgelncfmopibaa.Pg
open Go.RowKit
/-- 0 is OK, 10 is ErrErased, 11 is ErrTorn. -/
def stateL (xs : List Nat) : Int :=
  if erasedL xs then 10 else if 4 ≤ xs.length ∧ xs.length ≤ 1048580 ∧ xs.drop (xs.length - 4) = cnt (xs.take (xs.length - 4)) then 0 else 11
theorem In.front {w : World} {p : Option Addr} {n c : Nat} {xs : List Nat} (h : In w p n c xs) (k : Nat) (hk : k ≤ n) : In w p k c (xs.take k) := by
  have hl := h.len
  refine ⟨by rw [List.length_take]; omega, Nat.le_trans hk h.cap, h.max, Nat.le_trans hk h.room, fun x hx => h.byte x (List.mem_of_mem_take hx), fun h0 => ?_, h.nil⟩
  obtain ⟨b, o, hp, hlt, hc⟩ := h.at' (by omega)
  refine ⟨b, o, hp, hlt, fun i hi => ?_⟩
  rw [hc i (by omega)]
  simp [el, List.getElem?_take_of_lt hi]
theorem In.back {w : World} {b o n c : Nat} {xs : List Nat} (h : In w (some ⟨b, o, none⟩) n c xs) (k : Nat) (hk : k ≤ n) : In w (some ⟨b, o + k, none⟩) (n - k) (c - k) (xs.drop k) := by
  have hl := h.len
  have hcap := h.cap
  have hmax := h.max
  have hroom := h.room
  refine ⟨by rw [List.length_drop]; omega, by omega, by omega, by omega, fun x hx => h.byte x (List.mem_of_mem_drop hx), fun h0 => ?_, fun h => by simp at h⟩
  obtain ⟨b', o', hp, hlt, hc⟩ := h.at' (by omega)
  cases hp
  refine ⟨b, o + k, rfl, hlt, fun i hi => ?_⟩
  rw [Nat.add_assoc, hc (k + i) (by omega)]
  simp [el, List.getElem?_drop]
theorem slice_back (b o n c k : Nat) (h : k < n) (hc : n ≤ c) (W : World) :
    (Instr.slice 75 (.slice (some ⟨b, o, none⟩) n c) (some (.int .i64 (k : Int))) none none).run Try.prog W = .ok (.slice (some ⟨b, o + k, none⟩) (n - k) (c - k)) W := by
  have h1 : ¬ c = k := by omega
  simp [Instr.slice, Instr.sliceBounds, Instr.sliceBound, run_underlying Try.underlying75, asIntOf, h1, addr_add]
  intro h3; omega
theorem slice_front (p : Option Addr) (n c k : Nat) (h : k ≤ n) (hc : n ≤ c) (W : World) :
    (Instr.slice 75 (.slice p n c) none (some (.int .i64 (k : Int))) none).run Try.prog W = .ok (.slice p k c) W := by
  simp [Instr.slice, Instr.sliceBounds, Instr.sliceBound, run_underlying Try.underlying75, asIntOf]
  rw [if_pos (by omega)]
  have : (Option.map (fun x : Addr => x.add 0) p) = p := by
    cases p with
    | none => rfl
    | some a => obtain ⟨b, o, s⟩ := a; cases s <;> simp [Addr.add]
  rw [this, ite_self]
theorem state_any (p : Option Addr) (n c : Nat) (xs : List Nat) (w : World) (hx : In w p n c xs) :
    Calls Try.prog 56 #[.slice p n c] w fun e w' => e = .returned (.int .i64 (stateL xs)) ∧ Below w.heap.size w w' := by
  have hroom := hx.room
  have hcap := hx.cap
  have HX : Hid (xs.length = n) := hx.len
  cases he : erasedL xs with
  | true =>
    have HE := he
    clear he
    go_enter Try.func56, Try.ntmps56
    go_wp2_with (go_at_call 83; refine (erased_any _ _ _ _ _ hx).mono ?_; rintro e w' ⟨rfl, hw'⟩; have hw2 := hw'.symm; subst hw2; clear hw'; rw [HE])
    go_ret
    exact ⟨ret_int (by unfold stateL; rw [if_pos HE]), Below.refl _ _⟩
  | false =>
    have HE := he
    clear he
    by_cases hs : n < 4
    · have hd : decide ((n : Int) - 4 < 0) = true := by simp; omega
      go_enter Try.func56, Try.ntmps56
      go_wp2_with (go_at_call 83; refine (erased_any _ _ _ _ _ hx).mono ?_; rintro e w' ⟨rfl, hw'⟩; have hw2 := hw'.symm; subst hw2; clear hw'; rw [HE])
      go_quiet (fail)
      go_wp2
      go_ret
      exact ⟨ret_int (by unfold stateL; rw [if_neg (by rw [HE]; simp), if_neg (by rw [HX.out]; omega)]), below_drewN (Below.refl _ _) _⟩
    · by_cases hm : 1048580 < n
      · have hd : decide ((n : Int) - 4 < 0) = false := by simp; omega
        have hd2 : decide ((1048576 : Int) < (n : Int) - 4) = true := by simp; omega
        go_enter Try.func56, Try.ntmps56
        go_wp2_with (go_at_call 83; refine (erased_any _ _ _ _ _ hx).mono ?_; rintro e w' ⟨rfl, hw'⟩; have hw2 := hw'.symm; subst hw2; clear hw'; rw [HE])
        go_quiet (fail)
        go_wp2
        go_ret
        exact ⟨ret_int (by unfold stateL; rw [if_neg (by rw [HE]; simp), if_neg (by rw [HX.out]; omega)]), below_drewN (Below.refl _ _) _⟩
      · obtain ⟨k, rfl⟩ : ∃ k, n = k + 4 := ⟨n - 4, by omega⟩
        obtain ⟨b, o, rfl, hb, _⟩ := hx.at' (by omega)
        have hd : decide ((k : Int) < 0) = false := by simp only [decide_eq_false_iff_not]; omega
        have hd2 : decide ((1048576 : Int) < (k : Int)) = false := by simp only [decide_eq_false_iff_not]; omega
        have hf := hx.front k (by omega)
        have hbk := hx.back k (by omega)
        rw [show k + 4 - k = 4 from by omega] at hbk
        have hs1 := slice_back b o (k + 4) c k (by omega) hcap
        rw [show k + 4 - k = 4 from by omega] at hs1
        have hs2 := slice_front (some ⟨b, o, none⟩) (k + 4) c k (by omega) hcap
        go_enter Try.func56, Try.ntmps56
        go_wp2_with (go_at_call 83; refine (erased_any _ _ _ _ _ hx).mono ?_; rintro e w' ⟨rfl, hw'⟩; have hw2 := hw'.symm; subst hw2; clear hw'; rw [HE])
        go_region_held3 (fun _ => True) (trivial)
          (first
            | (go_at_call 85; refine (count_any (some ⟨b, o, none⟩) k c (xs.take k) _ ?_ (by omega)).mono ?_; (exact hf.below ((Below.refl _ _).drew)); rintro e w1 ⟨p1, c1, rfl, hin1, hbel1⟩)
            | (go_at_call 84; refine (equal_any (some ⟨b, o + k, none⟩) p1 4 (c - k) 4 c1 (xs.drop k) (cnt (xs.take k)) _ ?_ ?_).mono ?_; (exact hbk.below (((Below.refl _ _).drew).trans hbel1)); (exact hin1); rintro e w2 ⟨rfl, hw2⟩; have hw3 := hw2.symm; subst hw3; clear hw2))
        clear hd hd2 hs1 hs2
        have hbel : Below w.heap.size w w1 := ((Below.refl _ _).drew).trans hbel1
        clear hbel1 hin1
        cases hq : (List.drop k xs == cnt (List.take k xs)) with
        | true =>
          go_wp2
          go_ret
          refine ⟨ret_int ?_, hbel⟩
          unfold stateL
          rw [if_neg (by rw [HE]; simp), if_pos ⟨by rw [HX.out]; omega, by rw [HX.out]; omega, by rw [HX.out, show k + 4 - 4 = k from by omega]; simpa using hq⟩]
        | false =>
          go_wp2
          go_ret
          refine ⟨ret_int ?_, hbel⟩
          unfold stateL
          rw [if_neg (by rw [HE]; simp), if_neg (by rw [HX.out, show k + 4 - 4 = k from by omega]; intro h; rw [h.2.2] at hq; simp at hq)]
end Go.Proofs.Ytfgelncfmopibaa.Pg
