/-
  slices.IndexFunc and ContainsFunc of places, with isPlace.
-/
import Derived.Test.YtfgelncfmopibabSnTabPQ
namespace Go.Proofs.Ytfgelncfmopibab
open Go.RowKit
theorem InZ.part {w : World} {b o n c P a : Nat} {zs : List Pl} (h : InZ w (some ⟨b, o, none⟩) n c zs) (hi : a + P ≤ n) (hP : 1 ≤ P) (hn : n ≤ 1000000) : InZ w (some ⟨b, o + a * 2, none⟩) P (c - a) ((zs.drop a).take P) := by
  have hl := h.len
  have hcap := h.cap
  have hmax := h.max
  obtain ⟨b', o', e, hb, hc⟩ := h.at' (by omega)
  cases e
  refine ⟨by simp; omega, by omega, by omega, by omega, fun _ => ⟨b, _, rfl, hb, fun j hj => ?_⟩, fun h => by cases h⟩
  have e : eZ ((zs.drop a).take P) j = eZ zs (a + j) := by simp [eZ, List.getElem?_take_of_lt hj, List.getElem?_drop]
  rw [e]
  have := hc (a + j) (by omega)
  rw [show o + a * 2 + j * 2 = o + (a + j) * 2 by omega]
  exact this
theorem someTo_part {zs : List Pl} {a P k : Nat} (hk : k ≤ P) : someTo ((zs.drop a).take P) 0 k = someTo zs a k := by
  induction k with
  | zero => rfl
  | succ k ih =>
    unfold someTo
    rw [ih (by omega)]
    have e : eZ ((zs.drop a).take P) (0 + k) = eZ zs (a + k) := by rw [Nat.zero_add]; simp [eZ, List.getElem?_take_of_lt (show k < P by omega), List.getElem?_drop]
    rw [e]
/-- Where the first place is; -1: there is none. -/
def Idx (C : List Pl) (n : Nat) (r : Int) : Prop := -1 ≤ r ∧ r ≤ 1000000 ∧ decide (0 ≤ r) = someTo C 0 n
set_option linter.unusedSimpArgs false in
set_option maxHeartbeats 4000000 in
theorem indexFunc_any (p : Option Addr) (n c : Nat) (C : List Pl) (w : World) (hz : InZ w p n c C) (hn : n ≤ 1000000) :
    Calls Try.prog 51 #[.slice p n c, .func (.func 23) #[] #[]] w fun e w' => ∃ r : Int, e = .returned (.int .i64 r) ∧ Hid (Idx C n r) ∧ Below w.heap.size w w' := by
  have hnI : (n : Int) ≤ 1000000 := by omega
  go_enter Try.func51, Try.ntmps51
  go_wp2
  go_loopw [8] (fun i wr => ∃ k : Nat, k ≤ n ∧ i = .int .i64 k ∧ Hid (someTo C 0 k = false) ∧ Below w.heap.size w wr) (fun i _ => n - (intOf i).toNat)
  case atStart => exact ⟨0, Nat.zero_le _, rfl, rfl, Below.refl _ _⟩
  case round =>
    obtain ⟨k, hk, rfl, hto, hbk⟩ := hrel
    by_cases hlt : k < n
    · obtain ⟨b, o, rfl, hbl, hc⟩ := (hz.below hbk).at' (by omega)
      obtain ⟨e0, e1⟩ := hc k hlt
      have HU : Hid (someTo C 0 (k + 1) = isPl (eZ C k)) := by show (someTo C 0 k || isPl (eZ C (0 + k))) = _; rw [hto.out, Nat.zero_add]; rfl
      generalize eZ C k = z at *
      obtain ⟨zh, zg⟩ := z
      dsimp only at e0 e1 HU
      have hki : (k : Int) < (n : Int) := by omega
      clear hc
      cases hp : isPl ⟨zh, zg⟩ with
      | false =>
        go_wp2_with (go_at_call 23; refine (isPlace_any _ _ _).mono ?_; rintro e w1 ⟨rfl, hb1⟩)
        go_roundw
        case rel => exact ⟨k + 1, by omega, by go_num, HU.out.trans hp, bt hbk hb1⟩
        case measure => simp [intOf]; omega
      | true =>
        have HR : Hid (someTo C 0 n = true) := someTo_true (HU.out.trans hp) hlt
        go_wp2_with (go_at_call 23; refine (isPlace_any _ _ _).mono ?_; rintro e w1 ⟨rfl, hb1⟩)
        go_ret
        exact ⟨_, rfl, ⟨by omega, by omega, by rw [HR.out]; simp⟩, bt hbk hb1⟩
    · obtain rfl : k = n := by omega
      go_wp2
      go_ret
      exact ⟨_, rfl, ⟨by omega, by omega, by rw [hto.out]; simp⟩, hbk⟩
set_option linter.unusedSimpArgs false in
theorem containsFunc_any (p : Option Addr) (n c : Nat) (C : List Pl) (w : World) (hz : InZ w p n c C) (hn : n ≤ 1000000) :
    Calls Try.prog 24 #[.slice p n c, .func (.func 23) #[] #[]] w fun e w' => e = .returned (.bool (someTo C 0 n)) ∧ Below w.heap.size w w' := by
  have hI := indexFunc_any p n c C w hz hn
  go_enter Try.func24, Try.ntmps24
  go_wp2_with (go_at_call 51; refine hI.mono ?_; rintro e w1 ⟨r, rfl, hr, hb1⟩)
  go_ret
  exact ⟨by rw [← hr.out.2.2] <;> rfl, hb1⟩
end Go.Proofs.Ytfgelncfmopibab
