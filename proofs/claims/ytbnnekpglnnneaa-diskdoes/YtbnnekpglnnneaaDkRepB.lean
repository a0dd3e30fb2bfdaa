/-
  What bytes.Repeat answers where the bytes are to come once.
-/
import Derived.Test.YtbnnekpglnnneaaDkRep
namespace Go.Proofs.Ytbnnekpglnnneaa
open Go.RowKit
theorem and_mod (n : Nat) (h : n ≤ 140737488355328) : bits .and .u64 (n : Int) 4294967295 = ((n % 4294967296 : Nat) : Int) := by
  have h' := u64_and_nat n 4294967295 (by omega) (by omega)
  rw [show n &&& 4294967295 = n % 4294967296 from Nat.and_two_pow_sub_one_eq_mod n 32] at h'
  exact h'
theorem mul64_by1 (m : Nat) (hm : m ≤ 140737488355328) (w : World) : Calls Try.prog 61 #[.int .u64 (m : Int), .int .u64 1] w fun e w' => e = .returned (.tuple #[.int .u64 0, .int .u64 (m : Int)]) ∧ w' = w := by
  have hm1 := and_mod m hm
  obtain ⟨r, hr⟩ : ∃ r, m % 4294967296 = r := ⟨_, rfl⟩
  rw [hr] at hm1
  obtain ⟨q, hq⟩ : ∃ q, m / 4294967296 = q := ⟨_, rfl⟩
  have hrb : (r : Int) < 4294967296 := by omega
  have hqb : (q : Int) ≤ 1000000 := by omega
  have hd : (m : Int) / 4294967296 = (q : Int) := by omega
  have hd2 : (r : Int) / 4294967296 = 0 := by omega
  have hd3 : (q : Int) / 4294967296 = 0 := by omega
  have hq1 := and_mask q (by omega)
  have h1 : bits .and .u64 1 4294967295 = 1 := by decide
  have hmb : (m : Int) ≤ 140737488355328 := by omega
  clear hr hq
  go_enter Try.func61, Try.ntmps61
  go_wp2
  go_ret2
  exact ⟨rfl, rfl⟩
theorem mul_by1 (m : Nat) (hm : m ≤ 140737488355328) (w : World) : Calls Try.prog 51 #[.int .u64 (m : Int), .int .u64 1] w fun e w' => e = .returned (.tuple #[.int .u64 0, .int .u64 (m : Int)]) ∧ w' = w := by
  go_enter Try.func51, Try.ntmps51
  go_wp2_with (go_at_call 61; refine (mul64_by1 m hm _).mono ?_; rintro e w' ⟨rfl, hw'⟩; have hw2 := hw'.symm; subst hw2; clear hw')
  go_ret2
  exact ⟨rfl, rfl⟩
set_option linter.unusedSimpArgs false in
set_option maxHeartbeats 1000000 in
set_option maxRecDepth 100000 in
theorem repeat_one (xs : List Nat) (b o c m : Nat) (hm : 8192 < m) (w : World) (hx : In w (some ⟨b, o, none⟩) m c xs) :
    Calls Try.prog 28 #[.slice (some ⟨b, o, none⟩) m c, .int .i64 1] w fun e w' => e = .returned (.slice (some ⟨w.heap.size, 0, none⟩) m m) ∧ In w' (some ⟨w.heap.size, 0, none⟩) m m xs ∧ Below w.heap.size w w' := by
  have HX : Hid (xs.length = m) := hx.len
  have hroom := hx.room
  obtain ⟨cs, hrunM, hle, hmax⟩ := Lib.run_makeNoZero (P := Try.prog) w #[3] 31 5 Try.underlying31 m (by omega)
  have hcall : (callFunc 52 #[.int .i64 (m : Int)]).run Try.prog w = .ok (.value (.slice (some ⟨w.heap.size, 0, none⟩) m cs.size)) ((w.alloc (.cells cs 5)).drewN 2) := by
    rw [run_callFunc_extern Try.func52 (by kernel_rfl) (by kernel_rfl) (by kernel_rfl) (e := Extern.BytealgMakeNoZero.makeNoZero #[3] #[31]) (by kernel_rfl), hrunM]
    rfl
  clear hrunM
  have hcut := sliceB_cut w.heap.size m cs.size hle
  have hm1 : (8192 : Int) < (m : Int) := by omega
  have hm2 : (m : Int) ≤ 140737488355328 := by omega
  have hm0 : ((m : Int) == 0) = false := by simp; omega
  have hmz : ¬ (m : Int) = 0 := by omega
  have hdiv : (8192 : Int).tdiv (m : Int) = 0 := by rw [Int.tdiv_eq_ediv_of_nonneg (by omega)]; exact Int.ediv_eq_zero_of_lt (by omega) hm1
  have hdiv2 : (8192 : Int) / (m : Int) = 0 := Int.ediv_eq_zero_of_lt (by omega) hm1
  have g0 : Blk ((w.alloc (.cells cs 5)).drewN 2) w.heap.size 5 cs.toList := (Blk.new' w 5 cs).drewN 2
  have hb1 : Below w.heap.size w ((w.alloc (.cells cs 5)).drewN 2) := below_drewN (below_alloc w _) 2
  obtain ⟨bb, oo, hpp, _, hc⟩ := (hx.below hb1).at' (by omega)
  cases hpp
  obtain ⟨w2, CS2, hcp, g2, n2, k2, t2⟩ := copy_cyc (xs := xs) (k := 0) (j := m) g0 (n := m) (by simp; omega) (by simp [cyc, vals]) (Nat.dvd_zero _) (by omega) b o m c m m (fun i v hi => by
      have e := cyc_self xs
      rw [HX.out] at e
      rw [e] at hi
      obtain ⟨hi1, rfl⟩ := vals_get_inv hi
      exact hc i (by have := HX.out; omega)) (Nat.min_self m).symm
  rw [Nat.zero_add] at k2
  have HK : Hid (CS2.take m = vals xs) := by show _ = _; rw [k2]; have e := cyc_self xs; rw [HX.out] at e; rw [e]
  have hb2 := t2.below hb1 (Nat.le_refl _)
  clear hb1 g0 hc t2 k2
  generalize (w.alloc (.cells cs 5)).drewN 2 = w1 at *
  go_enter Try.func28, Try.ntmps28
  go_wp2_with (go_at_call 51; refine (mul_by1 m hroom _).mono ?_; rintro e w' ⟨rfl, hw'⟩; have hw2 := hw'.symm; subst hw2; clear hw')
  clear hcp hcall hcut
  go_loopw [10] (fun i wr => i = .int .i64 (m : Int) ∧ wr = w2) (fun _ _ => 0)
  case atStart => exact ⟨rfl, rfl⟩
  case round =>
    obtain ⟨rfl, rfl⟩ := hrel
    have hnn : ¬ (m : Int) < (m : Int) := by omega
    go_wp2_with fail
    go_ret
    refine ⟨rfl, ⟨HX.out, Nat.le_refl _, by unfold maxLen; omega, hroom, hx.byte, fun h0 => ⟨_, 0, rfl, g2.lt, fun i hi => ?_⟩, fun h => by cases h⟩, hb2⟩
    rw [Nat.zero_add]
    refine g2.cell' ?_
    have : (CS2.take m)[i]? = (vals xs)[i]? := by rw [HK.out]
    rw [List.getElem?_take_of_lt hi] at this
    rw [this, vals_get _ _ (by rw [HX.out]; exact hi)]
end Go.Proofs.Ytbnnekpglnnneaa
