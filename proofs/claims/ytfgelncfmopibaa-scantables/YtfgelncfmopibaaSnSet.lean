/-
  scan.Settled.
-/
import Derived.Test.YtfgelncfmopibaaSnSetP
namespace Go.Proofs.Ytfgelncfmopibaa
open Go.RowKit
def pmB (P : Int) : Bool := decide (4 ≤ P) && decide (P ≤ 32)
theorem pagesMayBe_any (P : Int) (w : World) : Calls Try.prog 44 #[.int .i64 P] w fun e w' => e = .returned (.bool (pmB P)) ∧ w' = w := by
  by_cases h1 : 4 ≤ P
  · have e : pmB P = decide (P ≤ 32) := by simp [pmB, h1]
    rw [e]
    clear e
    go_enter Try.func44, Try.ntmps44
    go_wp2
    go_ret
    exact ⟨rfl, rfl⟩
  · have e : pmB P = false := by simp [pmB, h1]
    rw [e]
    clear e
    go_enter Try.func44, Try.ntmps44
    go_wp2
    go_ret
    exact ⟨rfl, rfl⟩
theorem own_some {w : World} {B e s n c : Nat} {q : Option Addr} {xs : List Value} (h : w.ownsRow B e s (.slice q n c) n xs) (h0 : 0 < n) : ∃ g, q = some ⟨g, 0, none⟩ := by
  rcases h.2 with ⟨_, h'⟩ | ⟨g, cap, cur, hv, _⟩
  · omega
  · injection hv with e1 _ _; exact ⟨g, e1⟩
theorem homes_any (P m : Nat) (b o n c : Nat) (zs : List Pl) (w : World) (hz : InZ w (some ⟨b, o, none⟩) n c zs) (hn : n ≤ 1000000) (HM : Hid (n = m * P)) (hP : 4 ≤ P) (hP2 : P ≤ 32) (hm : 1 ≤ m) :
    Calls Try.prog 50 #[.int .i64 (P : Int), .slice (some ⟨b, o, none⟩) n c] w fun e w' => ∃ q cq, e = .returned (.slice q m cq) ∧ w'.ownsRow w.heap.size 3 1 (.slice q m cq) m (valsI (homesL zs P (guestsL zs P (List.range m)) (List.range m))) ∧ Below w.heap.size w w' :=
  callsIn_wide.1 (homes_in 8 (Nat.le_refl _) P m b o n c zs w hz hn HM hP hP2 hm)
set_option linter.unusedSimpArgs false in
set_option maxRecDepth 100000 in
set_option maxHeartbeats 4000000 in
theorem settled_ok (P B a m : Nat) (p : Option Addr) (n c : Nat) (zs : List Pl) (w : World) (hz : InZ w p n c zs) (hn : n ≤ 1000000) (HA : Hid (a = B * P)) (HM : Hid (n = m * P)) (hP : 4 ≤ P) (hP2 : P ≤ 32) (hB : B < m) :
    Calls Try.prog 21 #[.int .i64 (P : Int), .slice p n c, .int .i64 (B : Int)] w fun e w' => e = .returned (.tuple #[.int .i64 (setR zs P B a n).1, .bool (setR zs P B a n).2]) ∧ Below w.heap.size w w' := by
  have HE : Hid (setR zs P B a n = _) := set_eq hz.len HM.out HA.out (by omega) hB
  have hmn : m ≤ n := by rw [HM.out]; exact Nat.le_mul_of_pos_right m (by omega)
  have hrem : (n : Int).tmod (P : Int) = 0 := by rw [HM.out]; show ((m * P % P : Nat) : Int) = 0; rw [Nat.mul_mod_left]; rfl
  have hdiv : (n : Int) / (P : Int) = (m : Int) := by rw [HM.out, Int.natCast_mul]; exact Int.mul_ediv_cancel _ (by omega)
  have hmod : (n : Int) % (P : Int) = 0 := by rw [HM.out, Int.natCast_mul]; exact Int.mul_emod_left _ _
  have hp0 : ¬ (P : Int) = 0 := by omega
  have hPi : (P : Int) ≤ 32 := by omega
  have hPi4 : (4 : Int) ≤ (P : Int) := by omega
  have hnI : (n : Int) ≤ 1000000 := by omega
  have hBm : (B : Int) < (m : Int) := by omega
  have hmI : (m : Int) ≤ 1000000 := by omega
  have d3 : ¬ (B : Int) < 0 := by omega
  have d4 : ¬ (m : Int) ≤ (B : Int) := by omega
  have d5 : ¬ m ≤ B := by omega
  have hpm : ∀ w, Calls Try.prog 44 #[.int .i64 (P : Int)] w fun e w' => e = .returned (.bool true) ∧ w' = w := fun w => by
    have := pagesMayBe_any (P : Int) w
    rwa [show pmB (P : Int) = true by simp [pmB]; omega] at this
  obtain ⟨b, o, rfl, hbl, -⟩ := hz.at' (by omega)
  have hh := homes_any P m b o n c zs w hz hn HM hP hP2 (by omega)
  have hgl : (homesL zs P (guestsL zs P (List.range m)) (List.range m)).length = m := by simp [homesL]
  have hge : eI (homesL zs P (guestsL zs P (List.range m)) (List.range m)) B = oneH (guestsL zs P (List.range m)) (homeP (chunkL zs P B)) := by simp [eI, homesL, hB]
  generalize homesL zs P (guestsL zs P (List.range m)) (List.range m) = H at *
  generalize oneH (guestsL zs P (List.range m)) (homeP (chunkL zs P B)) = h at *
  have hcell := fun (w' : World) (q : Option Addr) (cq g : Nat) (hq : q = some ⟨g, 0, none⟩) (ho : w'.ownsRow w.heap.size 3 1 (.slice q m cq) m (valsI H)) => (show w'.cell? ⟨g, B, none⟩ = some (.int .i64 h) by subst hq; rw [ho.cellAt B (by omega), valsI_get H B (by omega), hge])
  clear hge hgl
  by_cases hh1 : h = -1
  · subst hh1
    have HR : Hid (setR zs P B a n = (0, false)) := HE.out.trans (if_pos rfl)
    clear HE
    go_enter Try.func21, Try.ntmps21
    go_wp2_with (first | (go_at_call 44; refine (hpm _).mono ?_; rintro e w1 ⟨rfl, hw1⟩; have hw2 := hw1.symm; subst hw2; clear hw1) | (go_at_call 50; refine hh.mono ?_; rintro e w2 ⟨q, cq, rfl, ho, hb⟩; obtain ⟨g, rfl⟩ := own_some ho (by omega); have hc := hcell _ _ _ g rfl ho; clear ho))
    go_ret2
    exact ⟨by rw [HR.out] <;> rfl, hb⟩
  · have HR : Hid (setR zs P B a n = (h, true)) := HE.out.trans (if_neg hh1)
    have hne : (h == -1) = false := by rw [beq_eq_false_iff_ne]; exact hh1
    clear HE hh1
    go_enter Try.func21, Try.ntmps21
    go_wp2_with (first | (go_at_call 44; refine (hpm _).mono ?_; rintro e w1 ⟨rfl, hw1⟩; have hw2 := hw1.symm; subst hw2; clear hw1) | (go_at_call 50; refine hh.mono ?_; rintro e w2 ⟨q, cq, rfl, ho, hb⟩; obtain ⟨g, rfl⟩ := own_some ho (by omega); have hc := hcell _ _ _ g rfl ho; clear ho))
    go_ret2
    exact ⟨by rw [HR.out] <;> rfl, hb⟩
end Go.Proofs.Ytfgelncfmopibaa
