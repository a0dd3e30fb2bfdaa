/-
  What the reference's Count and Run answer.
-/
import Derived.Test.YthpbeppfiinooaaBmQ
namespace Go.Proofs.Ythpbeppfiinooaa
open Go.RowKit
theorem sumP_take (l : List Pie) (k : Nat) (h : k < l.length) : sumP (l.take (k + 1)) = sumP (l.take k) + l[k].l := by
  rw [List.take_succ_eq_append_getElem h, sumP_snoc]
theorem row_at {w : World} {B : Nat} {v : Value} {n : Nat} {l : List Pie} (h : w.ownsRow B 41 2 v n (flatP (pcs l))) (h0 : 0 < l.length) : ∃ g cap, v = .slice (some ⟨g, 0, none⟩) l.length cap ∧ B ≤ g ∧ ∀ k (hk : k < l.length), w.cell? ⟨g, k * 2, none⟩ = some (.int .i64 (l[k].a : Int)) ∧ w.cell? ⟨g, k * 2 + 1, none⟩ = some (.int .i64 (l[k].l : Int)) := by
  have hn : n = l.length := by have := h.1; rw [flatP_length, pcs_length] at this; omega
  subst hn
  obtain ⟨g, cap, hv⟩ : ∃ g cap, v = .slice (some ⟨g, 0, none⟩) l.length cap := by
    rcases h.2 with ⟨_, h0'⟩ | ⟨g, cap, cur, hv, _⟩
    · omega
    · exact ⟨g, cap, hv⟩
  subst hv
  refine ⟨g, cap, rfl, owns_newP h _ rfl, fun k hk => ?_⟩
  have hat := flatP_at (l := pcs l) (k := k) (by rw [pcs_length]; exact hk)
  rw [pcs_at hk] at hat
  exact ⟨(h.cellAt _ (by omega)).trans hat.1, (h.cellAt _ (by omega)).trans hat.2⟩
theorem rcount_any (p : Option Addr) (m c : Nat) (xs : List Nat) (n : Int) (w : World) (h : In w p m c xs) :
    Calls Try.prog 27 #[.slice p m c, .int .i64 n] w fun e w' => e = .returned (.int .i64 (cntF (bitL xs) (nOf xs n) : Nat)) ∧ Below w.heap.size w w' := by
  have hb := rruns_any p m c xs n w h
  have hle := nOf_le xs n
  generalize nOf xs n = N at *
  have hsum := runsL_sum (bitL xs) N hle
  have hcl := cntF_le (bitL xs) N
  have hln := runsL_len (bitL xs) N
  rw [← hsum] at hcl ⊢
  generalize runsL (bitL xs) N = L at *
  have HC : Hid (sumP L ≤ 2048) := by show _ ≤ _; omega
  have hLi : (L.length : Int) ≤ 2049 := by omega
  clear hsum hcl hln hle
  go_enter Try.func27, Try.ntmps27
  go_wp2_with fail
  refine hb.mono ?_
  rintro e w1 ⟨v, rfl, ho, hb1⟩
  obtain ⟨pv, cv, rfl⟩ := owns_slice ho
  clear hb
  go_wp2
  go_loop [5, 7] (fun s i => ∃ k : Nat, k ≤ L.length ∧ i = .int .i64 k ∧ s = .int .i64 (sumP (L.take k) : Nat)) (fun _ i => L.length - (intOf i).toNat)
  case atStart => exact ⟨0, Nat.zero_le _, rfl, rfl⟩
  case round =>
    obtain ⟨k, hk, rfl, rfl⟩ := hrel
    have hsl : sumP (L.take k) ≤ 2048 := by
      have h1 : sumP L = sumP (L.take k) + sumP (L.drop k) := by
        unfold sumP
        rw [← List.sum_append, ← List.map_append, List.take_append_drop]
      have := HC.out; omega
    have hsi : ((sumP (L.take k) : Nat) : Int) ≤ 2048 := by omega
    by_cases hlt : k < L.length
    · obtain ⟨g, cap, he, hgB, hat⟩ := row_at ho (by omega)
      cases he
      obtain ⟨-, c2⟩ := hat k hlt
      have HS : Hid (sumP (L.take (k + 1)) = sumP (L.take k) + L[k].l) := sumP_take L k hlt
      have hxh := L[k].h
      have hxl : (L[k].l : Int) ≤ 2048 := by omega
      generalize L[k].l = X at *
      generalize sumP (L.take k) = Sm at *
      clear hat hxh hsl
      go_wp2
      go_round
      case rel => exact ⟨k + 1, by omega, by go_num, by rw [HS.out]; exact val_int (by omega)⟩
      case measure => simp [intOf]; omega
    · obtain rfl : k = L.length := by omega
      rw [List.take_length] at *
      go_wp2
      go_ret
      exact ⟨rfl, hb1⟩
end Go.Proofs.Ythpbeppfiinooaa
