/-
  What slices.Repeat of a slice of one place answers.
-/
import Derived.Test.YthibaefoioeghaaPlNew
namespace Go.Proofs.Ythibaefoioeghaa
open Go.RowKit
theorem infoP : (Try.prog.info? 41).map (fun i => (i.zero, i.size, i.bytes)) = some (some (.agg #[.int .i64 0, .int .i64 0]), 2, 16) := by kernel_rfl
theorem sizeP : (Try.prog.info? 41).map (·.size) = some 2 := by kernel_rfl
/-- Places as cells. -/
def flatP (L : List (Int × Int)) : List Value := L.flatMap fun x => [.int .i64 x.1, .int .i64 x.2]
theorem flatP_cons (x : Int × Int) (L : List (Int × Int)) : flatP (x :: L) = .int .i64 x.1 :: .int .i64 x.2 :: flatP L := rfl
theorem flatP_length (L : List (Int × Int)) : (flatP L).length = L.length * 2 := by
  induction L with
  | nil => rfl
  | cons x L ih => rw [flatP_cons, List.length_cons, List.length_cons, ih, List.length_cons]; omega
theorem flatP_append (L M : List (Int × Int)) : flatP (L ++ M) = flatP L ++ flatP M := by simp [flatP]
theorem flatP_one (L : List (Int × Int)) : ∀ u ∈ flatP L, u.oneCell' = true := by
  intro u hu
  obtain ⟨x, _, hx⟩ := List.mem_flatMap.1 hu
  simp at hx
  rcases hx with rfl | rfl <;> rfl
theorem flatP_at {L : List (Int × Int)} {k : Nat} {x : Int × Int} (h : L[k]? = some x) : (flatP L)[k * 2]? = some (.int .i64 x.1) ∧ (flatP L)[k * 2 + 1]? = some (.int .i64 x.2) := by
  induction L generalizing k with
  | nil => simp at h
  | cons y L ih =>
    cases k with
    | zero =>
      simp at h
      subst h
      rw [flatP_cons]; simp
    | succ k =>
      have := ih (by simpa using h)
      rw [flatP_cons, show (k + 1) * 2 = k * 2 + 1 + 1 by omega]
      simpa using this
theorem flatP_inv {L : List (Int × Int)} {j : Nat} {u : Value} (h : (flatP L)[j]? = some u) : ∃ k x, L[k]? = some x ∧ ((j = k * 2 ∧ u = .int .i64 x.1) ∨ (j = k * 2 + 1 ∧ u = .int .i64 x.2)) := by
  have hj : j < L.length * 2 := by
    rcases Nat.lt_or_ge j (L.length * 2) with h' | h'
    · exact h'
    · rw [List.getElem?_eq_none (by rw [flatP_length]; exact h')] at h; simp at h
  have hk : j / 2 < L.length := by omega
  refine ⟨j / 2, L[j / 2], List.getElem?_eq_getElem hk, ?_⟩
  obtain ⟨h0, h1⟩ := flatP_at (List.getElem?_eq_getElem hk)
  rcases Nat.mod_two_eq_zero_or_one j with e | e
  · left
    have ej : j = j / 2 * 2 := by omega
    refine ⟨ej, ?_⟩
    rw [← ej, h] at h0
    exact Option.some.inj h0
  · right
    have ej : j = j / 2 * 2 + 1 := by omega
    refine ⟨ej, ?_⟩
    rw [← ej, h] at h1
    exact Option.some.inj h1
theorem flatP_take (L : List (Int × Int)) (k : Nat) : (flatP L).take (k * 2) = flatP (L.take k) := by
  induction L generalizing k with
  | nil => simp [flatP]
  | cons x L ih =>
    cases k with
    | zero => rfl
    | succ k => rw [flatP_cons, show (k + 1) * 2 = k * 2 + 1 + 1 by omega, List.take_succ_cons, List.take_succ_cons, ih, List.take_succ_cons, flatP_cons]
theorem flatP_drop (L : List (Int × Int)) (k : Nat) : (flatP L).drop (k * 2) = flatP (L.drop k) := by
  induction L generalizing k with
  | nil => simp [flatP]
  | cons x L ih =>
    cases k with
    | zero => rfl
    | succ k => rw [flatP_cons, show (k + 1) * 2 = k * 2 + 1 + 1 by omega, List.drop_succ_cons, List.drop_succ_cons, ih, List.drop_succ_cons]
def onesP (n k : Nat) : List (Int × Int) := List.replicate k (-1, 0) ++ List.replicate (n - k) (0, 0)
theorem onesP_zero (n : Nat) : onesP n 0 = List.replicate n (0, 0) := by simp [onesP]
theorem onesP_all (n : Nat) : onesP n n = List.replicate n (-1, 0) := by simp [onesP]
theorem onesP_length {n k : Nat} (h : k ≤ n) : (onesP n k).length = n := by simp [onesP]; omega
theorem onesP_lay (n k j : Nat) (hk : k + j ≤ n) : (flatP (onesP n k)).take (k * 2) ++ flatP (List.replicate j (-1, 0)) ++ (flatP (onesP n k)).drop (k * 2 + j * 2) = flatP (onesP n (k + j)) := by
  rw [← Nat.add_mul, flatP_take, flatP_drop, ← flatP_append, ← flatP_append]
  congr 1
  simp only [onesP]
  rw [List.take_append_of_le_length (by simp), List.take_of_length_le (by simp), List.drop_append, List.drop_of_length_le (by simp), List.nil_append, List.length_replicate, List.drop_replicate, List.replicate_append_replicate]
  rw [show n - k - (k + j - k) = n - (k + j) from by omega]
theorem run_copy_row2 (w : World) (dT sT ty elem : TypeId) (g o dLen dCap : Nat) (a : Addr) (sLen sCap : Nat) (cur : Array Value) (t : TypeId) (cs : List Value)
    (hu : Try.prog.underlying dT = some (.slice elem)) (hs : (Try.prog.info? elem).map (·.size) = some 2)
    (hg : w.heap[g]? = some (.cells cur t (0, 0))) (hn : cs.length = Nat.min sLen dLen * 2)
    (hsrc : ∀ j v, cs[j]? = some v → w.cell? (a.add j) = some v) (hfit : o + cs.length ≤ cur.size) (h1 : ∀ v ∈ cs, v.oneCell' = true) :
    (Builtin.copy_ #[dT, sT] ty #[.slice (some ⟨g, o, none⟩) dLen dCap, .slice (some a) sLen sCap]).run Try.prog w =
      .ok (goInt (Nat.min sLen dLen)) (w.setRow g (cur.toList.take o ++ cs ++ cur.toList.drop (o + cs.length)).toArray) := by
  have hl := run_loadCells_list (P := Try.prog) w a cs hsrc
  have hst := run_storeCells_at Try.prog g o t cs 0 cur w hg (by simpa using hfit) h1
  cases hq : Try.prog.info? elem with
  | none => simp [hq] at hs
  | some i =>
    have hi : i.size = 2 := by simpa [hq] using hs
    simp [Builtin.copy_, run_underlying hu, Builtin.lenOf, Builtin.firstCells, sizeOf, typeInfo, hq, hi, ← hn, hl, hst]
theorem copy_onesP {w : World} {g n k j : Nat} (h : Blk w g 41 (flatP (onesP n k))) (hkj : k + j ≤ n) (b o m c l d : Nat) (hsrc : ∀ i, i < j → w.cell? ⟨b, o + i * 2, none⟩ = some (.int .i64 (-1)) ∧ w.cell? ⟨b, o + i * 2 + 1, none⟩ = some (.int .i64 0)) (hj : j = Nat.min m l) :
    ∃ w', (Builtin.copy_ #[70, 70] 3 #[.slice (some ⟨g, k * 2, none⟩) l d, .slice (some ⟨b, o, none⟩) m c]).run Try.prog w = .ok (.int .i64 (j : Int)) w' ∧ Blk w' g 41 (flatP (onesP n (k + j))) ∧ Turned w w' g := by
  have hl : (flatP (List.replicate j ((-1 : Int), (0 : Int)))).length = j * 2 := by rw [flatP_length, List.length_replicate]
  have hrun := run_copy_row2 w 70 70 3 41 g (k * 2) l d ⟨b, o, none⟩ m c (flatP (onesP n k)).toArray 41 (flatP (List.replicate j (-1, 0))) Try.underlying70 sizeP h
    (by rw [hl, hj])
    (fun i v hi => by
      obtain ⟨q, x, hx, hv⟩ := flatP_inv hi
      obtain ⟨hq, rfl⟩ := List.getElem?_eq_some_iff.1 hx
      rw [List.length_replicate] at hq
      rw [List.getElem_replicate] at hv
      obtain ⟨s0, s1⟩ := hsrc q hq
      rw [addr_add]
      rcases hv with ⟨rfl, rfl⟩ | ⟨rfl, rfl⟩
      · exact s0
      · exact s1)
    (by rw [hl, List.size_toArray, flatP_length, onesP_length (by omega)]; omega) (flatP_one _)
  rw [hl] at hrun
  rw [List.toList_toArray, onesP_lay n k j hkj, ← hj] at hrun
  exact ⟨_, hrun, h.setRow _, Turned.setRow _ _ _⟩
theorem sliceP_back (b o n c k : Nat) (h : k < n) (hc : n ≤ c) (W : World) :
    (Instr.slice 70 (.slice (some ⟨b, o, none⟩) n c) (some (.int .i64 (k : Int))) none none).run Try.prog W = .ok (.slice (some ⟨b, o + k * 2, none⟩) (n - k) (c - k)) W := by
  have h1 : ¬ c = k := by omega
  obtain ⟨i0, hi, _, hz1, _⟩ := info_parts infoP
  simp [Instr.slice, Instr.sliceBounds, Instr.sliceBound, run_underlying Try.underlying70, asIntOf, h1, addr_add, sizeOf, typeInfo, hi, hz1]
  intro h3; omega
theorem sliceP_front (p : Option Addr) (n c k : Nat) (h : k ≤ n) (hc : n ≤ c) (W : World) :
    (Instr.slice 70 (.slice p n c) none (some (.int .i64 (k : Int))) none).run Try.prog W = .ok (.slice p k c) W := by
  obtain ⟨i0, hi, _, _, _⟩ := info_parts infoP
  simp [Instr.slice, Instr.sliceBounds, Instr.sliceBound, run_underlying Try.underlying70, asIntOf, sizeOf, typeInfo, hi]
  rw [if_pos (by omega)]
  have : (Option.map (fun x : Addr => x.add 0) p) = p := by
    cases p with
    | none => rfl
    | some a => obtain ⟨b, o, s⟩ := a; cases s <;> simp [Addr.add]
  rw [this, ite_self]
theorem made_places (n : Nat) : (madeCells (Value.agg #[.int .i64 0, .int .i64 0]).cells (n * 2)).toList = flatP (List.replicate n (0, 0)) := by
  apply List.ext_getElem?
  intro j
  rcases Nat.lt_or_ge j (n * 2) with hj | hj
  · rw [madeCells, Array.toList_map, Array.toList_range, List.getElem?_map, List.getElem?_range hj]
    have hq : (List.replicate n ((0 : Int), (0 : Int)))[j / 2]? = some (0, 0) := by rw [List.getElem?_replicate, if_pos (by omega)]
    obtain ⟨h0, h1⟩ := flatP_at hq
    rcases Nat.mod_two_eq_zero_or_one j with e | e
    · have ej : j = j / 2 * 2 := by omega
      rw [ej, h0]
      simp [Value.cells]
    · have ej : j = j / 2 * 2 + 1 := by omega
      rw [ej, h1]
      simp [Value.cells, Nat.add_mod]
  · rw [List.getElem?_eq_none (by rw [Array.length_toList, size_madeCells]; exact hj), List.getElem?_eq_none (by rw [flatP_length, List.length_replicate]; exact hj)]
theorem made_blockP {w : World} {B g n : Nat} (h : w.ownsRow B 41 2 (.slice (some ⟨g, 0, none⟩) n n) n (madeCells (Value.agg #[.int .i64 0, .int .i64 0]).cells (n * 2)).toList) : w.heap[g]? = some (.cells (flatP (List.replicate n (0, 0))).toArray 41 (0, 0)) := by
  rw [made_places] at h
  rcases h.2 with ⟨h', _⟩ | ⟨g', cap', cur, h', _, hg, _, _, hsz, htake⟩
  · simp at h'
  · simp only [Value.slice.injEq, Option.some.injEq, Addr.mk.injEq, and_true, true_and] at h'
    obtain ⟨rfl, rfl⟩ := h'
    rw [List.take_of_length_le (by simp [hsz])] at htake
    rw [hg, ← htake]
set_option linter.unusedSimpArgs false in
set_option maxHeartbeats 1000000 in
set_option maxRecDepth 100000 in
theorem repeatP_any (b o c n : Nat) (h1 : 1 ≤ n) (hn : n ≤ 1000000) (w : World) (hx0 : w.cell? ⟨b, o, none⟩ = some (.int .i64 (-1))) (hx1 : w.cell? ⟨b, o + 1, none⟩ = some (.int .i64 0)) (hbl : b < w.heap.size) :
    Calls Try.prog 73 #[.slice (some ⟨b, o, none⟩) 1 c, .int .i64 (n : Int)] w fun e w' => e = .returned (.slice (some ⟨w.heap.size, 0, none⟩) n n) ∧ Blk w' w.heap.size 41 (flatP (List.replicate n (-1, 0))) ∧ Below w.heap.size w w' := by
  obtain ⟨i0, hi, hz0, hz1, hz2⟩ := info_parts infoP
  have hn0 : ¬ (n : Int) < 0 := by omega
  have hn1 : (n : Int) ≤ 1000000 := by omega
  have hwu : IntKind.u64.wrap (n : Int) = (n : Int) := by rw [IntKind.wrap_u64]; omega
  have hwi : IntKind.i64.wrap (n : Int) = (n : Int) := by rw [IntKind.wrap_i64]; omega
  go_enter Try.func73, Try.ntmps73
  go_upto_region 7 with (first
    | (go_at_call 82; refine (mul_one' n hn _).mono ?_; rintro e w' ⟨rfl, hw'⟩; have hw2 := hw'.symm; subst hw2; clear hw')
    | (at_make; refine wpList_make_full _ rfl _ _ 70 rfl w.heap.size 41 i0 (.agg #[.int .i64 0, .int .i64 0]) 2 Try.underlying70 hi hz0 hz1 .i64 .i64 _ _ n rfl rfl rfl rfl (by rw [hz2]; omega) (by unfold maxLen; omega) (Nat.le_refl _) ?_; intro w1 hown1 hgrow1))
  have hb1 := below_grown0 hgrow1
  have g0 : Blk w1 w.heap.size 41 (flatP (onesP n 0)) := by
    have := made_blockP hown1
    rw [onesP_zero]; exact this
  have hc0 := (hb1.cell (p := ⟨b, o, none⟩) hbl).trans hx0
  have hc1 := (hb1.cell (p := ⟨b, o + 1, none⟩) hbl).trans hx1
  obtain ⟨w2, hcp, g2, t2⟩ := copy_onesP g0 (j := 1) (by omega) b o 1 c n n (fun i hi => by obtain rfl : i = 0 := Nat.lt_one_iff.1 hi; exact ⟨hc0, hc1⟩) (Nat.min_eq_left h1).symm
  have hb2 := t2.below hb1 (Nat.le_refl _)
  rw [Nat.zero_mul] at hcp
  clear hown1 hgrow1 hc1 hc0 g0 t2 hb1 hwu
  go_wp2_with fail
  clear hcp
  rw [Nat.zero_add] at g2
  go_loopw [8] (fun i wr => ∃ k : Nat, 1 ≤ k ∧ k ≤ n ∧ i = .int .i64 k ∧ Blk wr w.heap.size 41 (flatP (onesP n k)) ∧ Below w.heap.size w wr) (fun i _ => n - (intOf i).toNat)
  case atStart => exact ⟨1, Nat.le_refl _, h1, rfl, g2, hb2⟩
  case round =>
    obtain ⟨k, hk1, hk, rfl, gk, hbk⟩ := hrel
    clear g2 hb2
    by_cases hlt : k < n
    · have s1 := sliceP_back w.heap.size 0 n n k hlt (Nat.le_refl _)
      have s2 := sliceP_front (some ⟨w.heap.size, 0, none⟩) n n k hk (Nat.le_refl _)
      rw [Nat.zero_add] at s1
      obtain ⟨j, hj⟩ : ∃ j, j = Nat.min k (n - k) := ⟨_, rfl⟩
      have hj1 : 1 ≤ j ∧ k + j ≤ n ∧ j ≤ k := by have e : Nat.min k (n - k) = min k (n - k) := rfl; rw [e] at hj; omega
      obtain ⟨w3, hcp, g3, t3⟩ := copy_onesP (w := wr.drew) gk (j := j) (by omega) w.heap.size 0 k n (n - k) (n - k) (fun i hi => by
        have hi2 : i < k := by omega
        have hq : (onesP n k)[i]? = some (-1, 0) := by simp [onesP, hi2, List.getElem?_append]
        obtain ⟨q0, q1⟩ := flatP_at hq
        exact ⟨by rw [Nat.zero_add]; exact gk.cell' q0, by rw [Nat.zero_add]; exact gk.cell' q1⟩) hj
      have hb3 : Below w.heap.size w w3 := t3.below hbk.drew (Nat.le_refl _)
      have hkn : (k : Int) < (n : Int) := by omega
      have hj2 : (j : Int) ≤ 1000000 := by omega
      have hk2 : (k : Int) ≤ 1000000 := by omega
      have hwj : IntKind.i64.wrap ((k : Int) + (j : Int)) = (k : Int) + (j : Int) := by rw [IntKind.wrap_i64]; omega
      clear hj
      go_wp2_with fail
      refine wp_region_noPanic ?_
      refine wp_region_held_drew (S := fun _ => True) (by kernel_rfl) trivial (fun hHeld => ?_)
      refine wpAnyH_take (i := 0) (v := ?_) rfl (by kernel_rfl) (by kernel_rfl) (by kernel_rfl) (fun _ _ _ h => h) (Or.inl ⟨by rfl, ?_⟩) hHeld ?_
      rotate_left
      · intro w' hSw; try dsimp only at hSw
        go_simp; try (with_reducible rfl)
      try simp only [Act.put, List.getElem_toArray, List.getElem_cons_succ, List.getElem_cons_zero, List.setIfInBounds_toArray, List.set_cons_zero, List.set_cons_succ]
      refine wpAnyH_take (i := 1) (v := ?_) rfl (by kernel_rfl) (by kernel_rfl) (by kernel_rfl) (fun _ _ _ h => h) (Or.inl ⟨by rfl, ?_⟩) hHeld ?_
      rotate_left
      · intro w' hSw; try dsimp only at hSw
        go_simp; try (with_reducible rfl)
      try simp only [Act.put, List.getElem_toArray, List.getElem_cons_succ, List.getElem_cons_zero, List.setIfInBounds_toArray, List.set_cons_zero, List.set_cons_succ]
      refine wpAnyH_take (i := 2) (v := ?_) rfl (by kernel_rfl) (by kernel_rfl) (by kernel_rfl) (fun _ _ _ h => h) (Or.inl ⟨by rfl, ?_⟩) hHeld ?_
      rotate_left
      · intro w' hSw; try dsimp only at hSw
        go_simp; try (with_reducible rfl)
      try simp only [Act.put, List.getElem_toArray, List.getElem_cons_succ, List.getElem_cons_zero, List.setIfInBounds_toArray, List.set_cons_zero, List.set_cons_succ]
      refine wpAnyH_take (i := 3) (v := ?_) rfl (by kernel_rfl) (by kernel_rfl) (by kernel_rfl) (fun _ _ _ h => h) (Or.inl ⟨by rfl, ?_⟩) hHeld ?_
      rotate_left
      · intro w' hSw; try dsimp only at hSw
        go_simp; try (with_reducible rfl)
      try simp only [Act.put, List.getElem_toArray, List.getElem_cons_succ, List.getElem_cons_zero, List.setIfInBounds_toArray, List.set_cons_zero, List.set_cons_succ]
      refine wpAnyH_take (i := 4) (v := ?_) rfl (by kernel_rfl) (by kernel_rfl) (by kernel_rfl) (fun _ _ _ h => h) (Or.inl ⟨by rfl, ?_⟩) hHeld ?_
      rotate_left
      · intro w' hSw; try dsimp only at hSw
        go_simp; try (with_reducible rfl)
      try simp only [Act.put, List.getElem_toArray, List.getElem_cons_succ, List.getElem_cons_zero, List.setIfInBounds_toArray, List.set_cons_zero, List.set_cons_succ]
      refine wpAnyH_take (i := 5) (v := ?_) rfl (by kernel_rfl) (by kernel_rfl) (by kernel_rfl) (fun _ _ _ h => h) (Or.inl ⟨by rfl, ?_⟩) hHeld ?_
      rotate_left
      · intro w' hSw; try dsimp only at hSw
        go_simp; try (with_reducible rfl)
      try simp only [Act.put, List.getElem_toArray, List.getElem_cons_succ, List.getElem_cons_zero, List.setIfInBounds_toArray, List.set_cons_zero, List.set_cons_succ]
      refine wpAnyH_take (i := 6) (v := ?_) rfl (by kernel_rfl) (by kernel_rfl) (by kernel_rfl) (fun _ _ _ h => h) (Or.inl ⟨by rfl, ?_⟩) hHeld ?_
      rotate_left
      · intro w' hSw; try dsimp only at hSw
        go_simp; try (with_reducible rfl)
      try simp only [Act.put, List.getElem_toArray, List.getElem_cons_succ, List.getElem_cons_zero, List.setIfInBounds_toArray, List.set_cons_zero, List.set_cons_succ]
      refine wpAnyH_ready (rs := [7]) (by kernel_rfl) (by simp) ?_
      refine AllReadyH.cons rfl (fun K hK => ?_) AllReadyH.nil
      go_simp
      refine hK.out _ _ trivial (fun hHeld => ?_)
      clear hK K
      try simp only [Act.put, List.getElem_toArray, List.getElem_cons_succ, List.getElem_cons_zero, List.setIfInBounds_toArray, List.set_cons_zero, List.set_cons_succ]
      refine wpAnyH_take (i := 8) (v := ?_) rfl (by kernel_rfl) (by kernel_rfl) (by kernel_rfl) (fun _ _ _ h => h) (Or.inl ⟨by rfl, ?_⟩) hHeld ?_
      rotate_left
      · intro w' hSw; try dsimp only at hSw
        go_simp; try (with_reducible rfl)
      try simp only [Act.put, List.getElem_toArray, List.getElem_cons_succ, List.getElem_cons_zero, List.setIfInBounds_toArray, List.set_cons_zero, List.set_cons_succ]
      refine wpAnyH_take (i := 9) (v := ?_) rfl (by kernel_rfl) (by kernel_rfl) (by kernel_rfl) (fun _ _ _ h => h) (Or.inl ⟨by rfl, ?_⟩) hHeld ?_
      rotate_left
      · intro w' hSw; try dsimp only at hSw
        go_simp; try (with_reducible rfl)
      try simp only [Act.put, List.getElem_toArray, List.getElem_cons_succ, List.getElem_cons_zero, List.setIfInBounds_toArray, List.set_cons_zero, List.set_cons_succ]
      refine wpAnyH_done (by kernel_rfl) ?_ _
      refine NoPanic.normal ?_
      clear hcp s1 s2
      go_wp2_with fail
      go_roundw
      case rel => exact ⟨k + j, by omega, by omega, by go_num, g3, hb3⟩
      case measure => simp [intOf]; omega
    · have hkn : k = n := by omega
      subst hkn
      go_wp2_with fail
      go_ret
      rw [onesP_all] at gk
      exact ⟨rfl, gk, hbk⟩
end Go.Proofs.Ythibaefoioeghaa
