/-
  What bytes.Repeat answers.
-/
import Derived.Test.YtdmnddikcpfmfaaGreatDkTells
import Derived.Lib.MakeNoZero
import Derived.Laws.CopyRow
import Derived.Laws.BitsAllLaws
import Derived.Laws.Externs
namespace Go.Proofs.YtdmnddikcpfmfaaGreat
open Go.RowKit
theorem and_mask (n : Nat) (h : n ≤ 1000000) : bits .and .u64 (n : Int) 4294967295 = (n : Int) := by
  have h' := u64_and_nat n 4294967295 (by omega) (by omega)
  have e : n &&& 4294967295 = n % 4294967296 := Nat.and_two_pow_sub_one_eq_mod n 32
  rw [e, Nat.mod_eq_of_lt (by omega)] at h'
  exact h'
theorem mul64_small (m k n : Nat) (hm : m ≤ 10000) (hk : k ≤ 10000) (hn : Hid (m * k = n)) (hn2 : n ≤ 1000000) (w : World) : Calls Tryz.prog 109 #[.int .u64 (m : Int), .int .u64 (k : Int)] w fun e w' => e = .returned (.tuple #[.int .u64 0, .int .u64 (n : Int)]) ∧ w' = w := by
  have hm1 := and_mask m (by omega)
  have hk1 := and_mask k (by omega)
  have hd : (m : Int) / 4294967296 = 0 := by omega
  have hd2 : (k : Int) / 4294967296 = 0 := by omega
  have hd3 : (n : Int) / 4294967296 = 0 := by omega
  have h0 : bits .and .u64 0 4294967295 = 0 := by decide
  have hp : (m : Int) * (k : Int) = (n : Int) := by have := hn.out; rw [← this]; simp
  have hr : (n : Int) ≤ 1000000 := by omega
  go_enter Tryz.func109, Tryz.ntmps109
  go_wp2
  go_ret2
  exact ⟨rfl, rfl⟩
theorem mul_small (m k n : Nat) (hm : m ≤ 10000) (hk : k ≤ 10000) (hn : Hid (m * k = n)) (hn2 : n ≤ 1000000) (w : World) : Calls Tryz.prog 98 #[.int .u64 (m : Int), .int .u64 (k : Int)] w fun e w' => e = .returned (.tuple #[.int .u64 0, .int .u64 (n : Int)]) ∧ w' = w := by
  go_enter Tryz.func98, Tryz.ntmps98
  go_wp2_with (go_at_call 109; refine (mul64_small m k n hm hk hn hn2 _).mono ?_; rintro e w' ⟨rfl, hw'⟩; have hw2 := hw'.symm; subst hw2; clear hw')
  go_ret2
  exact ⟨rfl, rfl⟩
/-- The first n of the bytes xs, laid again and again. -/
def cyc (xs : List Nat) (n : Nat) : List Nat := (List.range n).map fun i => xs.getD (i % xs.length) 0
theorem cyc_length (xs : List Nat) (n : Nat) : (cyc xs n).length = n := by simp [cyc]
theorem cyc_get (xs : List Nat) (n i : Nat) (h : i < n) : (cyc xs n)[i]? = some (xs.getD (i % xs.length) 0) := by simp [cyc, h]
theorem cyc_self (xs : List Nat) : cyc xs xs.length = xs := by
  apply List.ext_getElem?
  intro i
  by_cases h : i < xs.length
  · rw [cyc_get _ _ _ h, Nat.mod_eq_of_lt h, List.getD_eq_getElem?_getD, List.getElem?_eq_getElem h]; rfl
  · rw [List.getElem?_eq_none (by rw [cyc_length]; omega), List.getElem?_eq_none (by omega)]
theorem cyc_add (xs : List Nat) (k j : Nat) (hd : xs.length ∣ k) : cyc xs (k + j) = cyc xs k ++ cyc xs j := by
  apply List.ext_getElem?
  intro i
  by_cases h : i < k
  · rw [cyc_get _ _ _ (by omega), List.getElem?_append_left (by rw [cyc_length]; exact h), cyc_get _ _ _ h]
  · rw [List.getElem?_append_right (by rw [cyc_length]; omega), cyc_length]
    by_cases h2 : i < k + j
    · rw [cyc_get _ _ _ h2, cyc_get _ _ _ (by omega)]
      obtain ⟨q, rfl⟩ := hd
      rw [show i = (i - xs.length * q) + xs.length * q from by omega, Nat.add_mul_mod_self_left, Nat.add_sub_cancel]
    · rw [List.getElem?_eq_none (by rw [cyc_length]; omega), List.getElem?_eq_none (by rw [cyc_length]; omega)]
theorem cyc_byte {xs : List Nat} (h : ∀ x ∈ xs, x < 256) (n : Nat) : ∀ x ∈ cyc xs n, x < 256 := by
  intro x hx
  obtain ⟨i, _, rfl⟩ := List.mem_map.1 hx
  have := el_range h (i % xs.length)
  unfold el at this
  omega
theorem cyc_take (xs : List Nat) (n k : Nat) (h : k ≤ n) : (cyc xs n).take k = cyc xs k := by
  rw [cyc, cyc, ← List.map_take, List.take_range, Nat.min_eq_left h]
theorem sliceB_back (b o n c k : Nat) (h : k < n) (hc : n ≤ c) (W : World) :
    (Instr.slice 52 (.slice (some ⟨b, o, none⟩) n c) (some (.int .i64 (k : Int))) none none).run Tryz.prog W = .ok (.slice (some ⟨b, o + k, none⟩) (n - k) (c - k)) W := by
  have h1 : ¬ c = k := by omega
  simp [Instr.slice, Instr.sliceBounds, Instr.sliceBound, run_underlying Tryz.underlying52, asIntOf, h1, addr_add]
  intro h3; omega
theorem sliceB_front (p : Option Addr) (n c k : Nat) (h : k ≤ n) (hc : n ≤ c) (W : World) :
    (Instr.slice 52 (.slice p n c) none (some (.int .i64 (k : Int))) none).run Tryz.prog W = .ok (.slice p k c) W := by
  simp [Instr.slice, Instr.sliceBounds, Instr.sliceBound, run_underlying Tryz.underlying52, asIntOf]
  rw [if_pos (by omega)]
  have : (Option.map (fun x : Addr => x.add 0) p) = p := by
    cases p with
    | none => rfl
    | some a => obtain ⟨b, o, s⟩ := a; cases s <;> simp [Addr.add]
  rw [this, ite_self]
theorem sliceB_cut (b n c : Nat) (hc : n ≤ c) (W : World) :
    (Instr.slice 52 (.slice (some ⟨b, 0, none⟩) n c) none (some (.int .i64 (n : Int))) (some (.int .i64 (n : Int)))).run Tryz.prog W = .ok (.slice (some ⟨b, 0, none⟩) n n) W := by
  simp [Instr.slice, Instr.sliceBounds, Instr.sliceBound, run_underlying Tryz.underlying52, asIntOf]
  rw [if_pos (by omega)]
  simp [addr_add]
/-- copy of bytes to place k of a row that is known to there. -/
theorem copy_cyc {xs : List Nat} {w : World} {g n k j : Nat} {CS : List Value} (h : Blk w g 5 CS) (hn : n ≤ CS.length) (hk : CS.take k = vals (cyc xs k)) (hd : xs.length ∣ k) (hkj : k + j ≤ n) (b o m c l d : Nat) (hsrc : ∀ i v, (vals (cyc xs j))[i]? = some v → w.cell? ⟨b, o + i, none⟩ = some v) (hj : j = Nat.min m l) :
    ∃ w' CS', (Builtin.copy_ #[52, 52] 3 #[.slice (some ⟨g, k, none⟩) l d, .slice (some ⟨b, o, none⟩) m c]).run Tryz.prog w = .ok (.int .i64 (j : Int)) w' ∧ Blk w' g 5 CS' ∧ n ≤ CS'.length ∧ CS'.take (k + j) = vals (cyc xs (k + j)) ∧ Turned w w' g := by
  have hl : (vals (cyc xs j)).length = j := by rw [vals_length, cyc_length]
  have hrun := run_copy_row (P := Tryz.prog) w 52 52 3 5 g k l d ⟨b, o, none⟩ m c CS.toArray 5 (vals (cyc xs j)) Tryz.underlying52 size5 h
    (by rw [hl]; exact hj) (fun i v hi => by rw [addr_add]; exact hsrc i v hi) (by rw [hl, List.size_toArray]; omega) (vals_one _)
  rw [hl] at hrun
  rw [List.toList_toArray] at hrun
  refine ⟨_, _, hrun, h.setRow _, ?_, ?_, Turned.setRow _ _ _⟩
  · rw [List.length_append, List.length_append, List.length_take, List.length_drop, hl]; omega
  · rw [hk, ← vals_append, ← cyc_add xs k j hd, List.take_left' (by rw [vals_length, cyc_length])]
set_option linter.unusedSimpArgs false in
set_option maxHeartbeats 1000000 in
set_option maxRecDepth 100000 in
theorem repeat_small (xs : List Nat) (b o c m k n : Nat) (hk : 1 ≤ k) (hm : 1 ≤ m) (hn : Hid (m * k = n)) (hn2 : n ≤ 8192) (w : World) (hx : In w (some ⟨b, o, none⟩) m c xs) :
    Calls Tryz.prog 63 #[.slice (some ⟨b, o, none⟩) m c, .int .i64 (k : Int)] w fun e w' => e = .returned (.slice (some ⟨w.heap.size, 0, none⟩) n n) ∧ In w' (some ⟨w.heap.size, 0, none⟩) n n (cyc xs n) ∧ Below w.heap.size w w' ∧ ∃ cs, Blk w' w.heap.size 5 cs := by
  have HX : Hid (xs.length = m) := hx.len
  have hmn : m ≤ n := by have := hn.out; rw [← this]; exact Nat.le_mul_of_pos_right m hk
  have hkn : k ≤ n := by have := hn.out; rw [← this]; exact Nat.le_mul_of_pos_left k hm
  obtain ⟨cs, hrunM, hle, hmax⟩ := Lib.run_makeNoZero (P := Tryz.prog) w #[3] 52 5 Tryz.underlying52 n (by omega)
  have hcall : (callFunc 99 #[.int .i64 (n : Int)]).run Tryz.prog w = .ok (.value (.slice (some ⟨w.heap.size, 0, none⟩) n cs.size)) ((w.alloc (.cells cs 5)).drewN 2) := by
    rw [run_callFunc_extern Tryz.func99 (by kernel_rfl) (by kernel_rfl) (by kernel_rfl) (e := Extern.BytealgMakeNoZero.makeNoZero #[3] #[52]) (by kernel_rfl), hrunM]
    rfl
  clear hrunM
  have hcut := sliceB_cut w.heap.size n cs.size hle
  have hn0 : ¬ (k : Int) < 0 := by omega
  have hn1 : (n : Int) ≤ 8192 := by omega
  have hm1 : (m : Int) ≤ 8192 := by omega
  have hk1 : (k : Int) ≤ 8192 := by omega
  have hk0 : ((k : Int) == 0) = false := by simp; omega
  have hm0 : ((m : Int) == 0) = false := by simp; omega
  have g0 : Blk ((w.alloc (.cells cs 5)).drewN 2) w.heap.size 5 cs.toList := (Blk.new' w 5 cs).drewN 2
  have hb1 : Below w.heap.size w ((w.alloc (.cells cs 5)).drewN 2) := below_drewN (below_alloc w _) 2
  obtain ⟨bb, oo, hpp, _, hc⟩ := (hx.below hb1).at' (by omega)
  cases hpp
  obtain ⟨w2, CS2, hcp, g2, n2, k2, t2⟩ := copy_cyc (xs := xs) (k := 0) (j := m) g0 (n := n) (by simp; omega) (by simp [cyc, vals]) (Nat.dvd_zero _) (by omega) b o m c n n (fun i v hi => by
      have e := cyc_self xs
      rw [HX.out] at e
      rw [e] at hi
      obtain ⟨hi1, rfl⟩ := vals_get_inv hi
      exact hc i (by have := HX.out; omega)) (Nat.min_eq_left hmn).symm
  rw [Nat.zero_add] at k2
  have hb2 := t2.below hb1 (Nat.le_refl _)
  clear hb1 g0 hc t2
  generalize (w.alloc (.cells cs 5)).drewN 2 = w1 at *
  go_enter Tryz.func63, Tryz.ntmps63
  go_wp2_with (go_at_call 98; refine (mul_small m k n (by omega) (by omega) hn (by omega) _).mono ?_; rintro e w' ⟨rfl, hw'⟩; have hw2 := hw'.symm; subst hw2; clear hw')
  clear hcp hcall hcut
  go_loopw [10] (fun i wr => ∃ (q : Nat) (CS : List Value), m ≤ q ∧ q ≤ n ∧ Hid (xs.length ∣ q ∨ q = n) ∧ i = .int .i64 q ∧ Blk wr w.heap.size 5 CS ∧ n ≤ CS.length ∧ Hid (CS.take q = vals (cyc xs q)) ∧ Below w.heap.size w wr) (fun i _ => n - (intOf i).toNat)
  case atStart => exact ⟨m, CS2, Nat.le_refl _, hmn, .inl (by rw [HX.out]; exact Nat.dvd_refl _), rfl, g2, n2, k2, hb2⟩
  case round =>
    obtain ⟨q, CS, hq1, hq, hdv, rfl, gk, hCS, hkk, hbk⟩ := hrel
    clear g2 hb2 n2 k2
    by_cases hlt : q < n
    · have hdv' : xs.length ∣ q := by rcases hdv.out with h | h; exact h; omega
      have s1 := sliceB_back w.heap.size 0 n n q hlt (Nat.le_refl _)
      have s2 := sliceB_front (some ⟨w.heap.size, 0, none⟩) n n q hq (Nat.le_refl _)
      rw [Nat.zero_add] at s1
      obtain ⟨j, hj⟩ : ∃ j, j = Nat.min q (n - q) := ⟨_, rfl⟩
      have hj1 : 1 ≤ j ∧ q + j ≤ n ∧ j ≤ q := by have e : Nat.min q (n - q) = min q (n - q) := rfl; rw [e] at hj; omega
      obtain ⟨w3, CS3, hcp, g3, n3, k3, t3⟩ := copy_cyc (w := wr.drew) gk hCS hkk.out hdv' (j := j) (by omega) w.heap.size 0 q n (n - q) (n - q) (fun i v hi => by
        have hij : i < j := by have := (List.getElem?_eq_some_iff.1 hi).1; rwa [vals_length, cyc_length] at this
        have hi' : (vals (cyc xs q))[i]? = some v := by
          rw [vals_get _ _ (by rw [cyc_length]; omega)]
          rw [vals_get _ _ (by rw [cyc_length]; omega)] at hi
          rw [← hi, el, el, List.getD_eq_getElem?_getD, List.getD_eq_getElem?_getD, cyc_get _ _ _ hij, cyc_get _ _ _ (by omega)]
        rw [← hkk.out, List.getElem?_take_of_lt (by omega)] at hi'
        rw [Nat.zero_add]
        exact gk.cell' hi') hj
      have hb3 : Below w.heap.size w w3 := t3.below hbk.drew (Nat.le_refl _)
      have hqn : (q : Int) < (n : Int) := by omega
      have hnq : ¬ (n : Int) < (q : Int) := by omega
      have hj2 : (j : Int) ≤ 8192 := by omega
      have hk2 : (q : Int) ≤ 8192 := by omega
      have hwj : IntKind.i64.wrap ((q : Int) + (j : Int)) = (q : Int) + (j : Int) := by rw [IntKind.wrap_i64]; omega
      have hfin : Hid (xs.length ∣ q + j ∨ q + j = n) := by
        by_cases e : q + j = n
        · exact .inr e
        · have e2 : Nat.min q (n - q) = min q (n - q) := rfl
          rw [e2] at hj
          have : j = q := by omega
          exact .inl (by rw [this]; exact Nat.dvd_add hdv' hdv')
      clear hj
      go_wp2_with fail
      refine wp_region_noPanic ?_
      refine wp_region_held_drew (S := fun _ => True) (by kernel_rfl) trivial (fun hHeld => ?_)
      refine wpAnyH_take (i := 0) (v := ?_) rfl (by kernel_rfl) (by kernel_rfl) (by kernel_rfl) (fun _ _ _ h => h) (Or.inl ⟨by rfl, ?_⟩) hHeld ?_
      rotate_left
      · intro w' hSw; try dsimp only at hSw
        go_simp; try (with_reducible rfl)
      try simp only [Act.put, List.getElem_toArray, List.getElem_cons_succ, List.getElem_cons_zero, List.setIfInBounds_toArray, List.set_cons_zero, List.set_cons_succ]
      refine wpAnyH_take (i := 1) (v := ?_) rfl (by kernel_rfl) (by kernel_rfl) (by kernel_rfl) (fun _ _ _ h => h) (Or.inl ⟨by rfl, ?_⟩) hHeld ?_
      rotate_left
      · intro w' hSw; try dsimp only at hSw
        go_simp; try (with_reducible rfl)
      try simp only [Act.put, List.getElem_toArray, List.getElem_cons_succ, List.getElem_cons_zero, List.setIfInBounds_toArray, List.set_cons_zero, List.set_cons_succ]
      refine wpAnyH_take (i := 2) (v := ?_) rfl (by kernel_rfl) (by kernel_rfl) (by kernel_rfl) (fun _ _ _ h => h) (Or.inl ⟨by rfl, ?_⟩) hHeld ?_
      rotate_left
      · intro w' hSw; try dsimp only at hSw
        go_simp; try (with_reducible rfl)
      try simp only [Act.put, List.getElem_toArray, List.getElem_cons_succ, List.getElem_cons_zero, List.setIfInBounds_toArray, List.set_cons_zero, List.set_cons_succ]
      refine wpAnyH_take (i := 3) (v := ?_) rfl (by kernel_rfl) (by kernel_rfl) (by kernel_rfl) (fun _ _ _ h => h) (Or.inl ⟨by rfl, ?_⟩) hHeld ?_
      rotate_left
      · intro w' hSw; try dsimp only at hSw
        go_simp; try (with_reducible rfl)
      try simp only [Act.put, List.getElem_toArray, List.getElem_cons_succ, List.getElem_cons_zero, List.setIfInBounds_toArray, List.set_cons_zero, List.set_cons_succ]
      refine wpAnyH_take (i := 4) (v := ?_) rfl (by kernel_rfl) (by kernel_rfl) (by kernel_rfl) (fun _ _ _ h => h) (Or.inl ⟨by rfl, ?_⟩) hHeld ?_
      rotate_left
      · intro w' hSw; try dsimp only at hSw
        go_simp; try (with_reducible rfl)
      try simp only [Act.put, List.getElem_toArray, List.getElem_cons_succ, List.getElem_cons_zero, List.setIfInBounds_toArray, List.set_cons_zero, List.set_cons_succ]
      refine wpAnyH_take (i := 5) (v := ?_) rfl (by kernel_rfl) (by kernel_rfl) (by kernel_rfl) (fun _ _ _ h => h) (Or.inl ⟨by rfl, ?_⟩) hHeld ?_
      rotate_left
      · intro w' hSw; try dsimp only at hSw
        go_simp; try (with_reducible rfl)
      try simp only [Act.put, List.getElem_toArray, List.getElem_cons_succ, List.getElem_cons_zero, List.setIfInBounds_toArray, List.set_cons_zero, List.set_cons_succ]
      refine wpAnyH_take (i := 6) (v := ?_) rfl (by kernel_rfl) (by kernel_rfl) (by kernel_rfl) (fun _ _ _ h => h) (Or.inl ⟨by rfl, ?_⟩) hHeld ?_
      rotate_left
      · intro w' hSw; try dsimp only at hSw
        go_simp; try (with_reducible rfl)
      try simp only [Act.put, List.getElem_toArray, List.getElem_cons_succ, List.getElem_cons_zero, List.setIfInBounds_toArray, List.set_cons_zero, List.set_cons_succ]
      refine wpAnyH_ready (rs := [7]) (by kernel_rfl) (by simp) ?_
      refine AllReadyH.cons rfl (fun K hK => ?_) AllReadyH.nil
      go_simp
      refine hK.out _ _ trivial (fun hHeld => ?_)
      clear hK K
      try simp only [Act.put, List.getElem_toArray, List.getElem_cons_succ, List.getElem_cons_zero, List.setIfInBounds_toArray, List.set_cons_zero, List.set_cons_succ]
      refine wpAnyH_take (i := 8) (v := ?_) rfl (by kernel_rfl) (by kernel_rfl) (by kernel_rfl) (fun _ _ _ h => h) (Or.inl ⟨by rfl, ?_⟩) hHeld ?_
      rotate_left
      · intro w' hSw; try dsimp only at hSw
        go_simp; try (with_reducible rfl)
      try simp only [Act.put, List.getElem_toArray, List.getElem_cons_succ, List.getElem_cons_zero, List.setIfInBounds_toArray, List.set_cons_zero, List.set_cons_succ]
      refine wpAnyH_take (i := 9) (v := ?_) rfl (by kernel_rfl) (by kernel_rfl) (by kernel_rfl) (fun _ _ _ h => h) (Or.inl ⟨by rfl, ?_⟩) hHeld ?_
      rotate_left
      · intro w' hSw; try dsimp only at hSw
        go_simp; try (with_reducible rfl)
      try simp only [Act.put, List.getElem_toArray, List.getElem_cons_succ, List.getElem_cons_zero, List.setIfInBounds_toArray, List.set_cons_zero, List.set_cons_succ]
      refine wpAnyH_done (by kernel_rfl) ?_ _
      refine NoPanic.normal ?_
      clear hcp s1 s2
      go_wp2_with fail
      go_roundw
      case rel => exact ⟨q + j, CS3, by omega, by omega, hfin, by go_num, g3, n3, k3, hb3⟩
      case measure => simp [intOf]; omega
    · have hkn : q = n := by omega
      subst hkn
      go_wp2_with fail
      go_ret
      refine ⟨rfl, ⟨cyc_length _ _, Nat.le_refl _, by unfold maxLen; omega, by omega, cyc_byte hx.byte _, fun h0 => ⟨_, 0, rfl, gk.lt, fun i hi => ?_⟩, fun h => by cases h⟩, hbk, _, gk⟩
      rw [Nat.zero_add]
      refine gk.cell' ?_
      have : (CS.take q)[i]? = (vals (cyc xs q))[i]? := by rw [hkk.out]
      rw [List.getElem?_take_of_lt hi] at this
      rw [this, vals_get _ _ (by rw [cyc_length]; exact hi)]
end Go.Proofs.YtdmnddikcpfmfaaGreat
