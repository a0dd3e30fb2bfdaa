/-
  What slices.Repeat of a slice of one thing that was found answers.
-/
import Derived.Test.YtfgelncfmopibaaSnTells
import Derived.Test.YtfgelncfmopibaaSnNew
namespace Go.Proofs.Ytfgelncfmopibaa
open Go.RowKit
theorem flatF_take (L : List Fd) (k : Nat) : (flatF L).take (k * 6) = flatF (L.take k) := by
  induction L generalizing k with
  | nil => simp [flatF]
  | cons x L ih =>
    cases k with
    | zero => simp [flatF]
    | succ k => rw [flatF_cons, show (k + 1) * 6 = k * 6 + 1 + 1 + 1 + 1 + 1 + 1 by omega, List.take_succ_cons, List.take_succ_cons, List.take_succ_cons, List.take_succ_cons, List.take_succ_cons, List.take_succ_cons, ih, List.take_succ_cons, flatF_cons]
theorem flatF_drop (L : List Fd) (k : Nat) : (flatF L).drop (k * 6) = flatF (L.drop k) := by
  induction L generalizing k with
  | nil => simp [flatF]
  | cons x L ih =>
    cases k with
    | zero => simp
    | succ k => rw [flatF_cons, show (k + 1) * 6 = k * 6 + 1 + 1 + 1 + 1 + 1 + 1 by omega, List.drop_succ_cons, List.drop_succ_cons, List.drop_succ_cons, List.drop_succ_cons, List.drop_succ_cons, List.drop_succ_cons, ih, List.drop_succ_cons]
def zeroF : Fd := ⟨0, 0, 0, 0, 0, 0⟩
def onesF (z : Fd) (n k : Nat) : List Fd := List.replicate k z ++ List.replicate (n - k) zeroF
theorem onesF_zero (z : Fd) (n : Nat) : onesF z n 0 = List.replicate n zeroF := by simp [onesF]
theorem onesF_all (z : Fd) (n : Nat) : onesF z n n = List.replicate n z := by simp [onesF]
theorem onesF_length {z : Fd} {n k : Nat} (h : k ≤ n) : (onesF z n k).length = n := by simp [onesF]; omega
theorem onesF_lay (z : Fd) (n k j : Nat) (hk : k + j ≤ n) : (flatF (onesF z n k)).take (k * 6) ++ flatF (List.replicate j z) ++ (flatF (onesF z n k)).drop (k * 6 + j * 6) = flatF (onesF z n (k + j)) := by
  rw [← Nat.add_mul, flatF_take, flatF_drop, ← flatF_append, ← flatF_append]
  congr 1
  simp only [onesF]
  rw [List.take_append_of_le_length (by simp), List.take_of_length_le (by simp), List.drop_append, List.drop_of_length_le (by simp), List.nil_append, List.length_replicate, List.drop_replicate, List.replicate_append_replicate]
  rw [show n - k - (k + j - k) = n - (k + j) from by omega]
theorem run_copy_rowS (s : Nat) (w : World) (dT sT ty elem : TypeId) (g o dLen dCap : Nat) (a : Addr) (sLen sCap : Nat) (cur : Array Value) (t : TypeId) (cs : List Value)
    (hu : Try.prog.underlying dT = some (.slice elem)) (hs : (Try.prog.info? elem).map (·.size) = some s)
    (hg : w.heap[g]? = some (.cells cur t (0, 0))) (hn : cs.length = Nat.min sLen dLen * s)
    (hsrc : ∀ j v, cs[j]? = some v → w.cell? (a.add j) = some v) (hfit : o + cs.length ≤ cur.size) (h1 : ∀ v ∈ cs, v.oneCell' = true) :
    (Builtin.copy_ #[dT, sT] ty #[.slice (some ⟨g, o, none⟩) dLen dCap, .slice (some a) sLen sCap]).run Try.prog w =
      .ok (goInt (Nat.min sLen dLen)) (w.setRow g (cur.toList.take o ++ cs ++ cur.toList.drop (o + cs.length)).toArray) := by
  have hl := run_loadCells_list (P := Try.prog) w a cs hsrc
  have hst := run_storeCells_at Try.prog g o t cs 0 cur w hg (by simpa using hfit) h1
  cases hq : Try.prog.info? elem with
  | none => simp [hq] at hs
  | some i =>
    have hi : i.size = s := by simpa [hq] using hs
    simp [Builtin.copy_, run_underlying hu, Builtin.lenOf, Builtin.firstCells, sizeOf, typeInfo, hq, hi, ← hn, hl, hst]
theorem eF_rep {j i : Nat} (z : Fd) (h : i < j) : eF (List.replicate j z) i = z := by simp [eF, h]
theorem flatF_rep_inv {j i : Nat} {z : Fd} {v : Value} (h : (flatF (List.replicate j z))[i]? = some v) : ∃ q r, q < j ∧ r < 6 ∧ i = q * 6 + r ∧ (z.cells)[r]? = some v := by
  have hj : i < j * 6 := by
    rcases Nat.lt_or_ge i (j * 6) with h' | h'
    · exact h'
    · rw [List.getElem?_eq_none (by rw [flatF_length, List.length_replicate]; exact h')] at h; simp at h
  refine ⟨i / 6, i % 6, by omega, by omega, by omega, ?_⟩
  obtain ⟨f0, f1, f2, f3, f4, f5⟩ := flatF_at (l := List.replicate j z) (k := i / 6) (by rw [List.length_replicate]; omega)
  rw [eF_rep z (by omega)] at f0 f1 f2 f3 f4 f5
  obtain ⟨r, hr⟩ : ∃ r, i % 6 = r := ⟨_, rfl⟩
  have hi : i = i / 6 * 6 + r := by omega
  have hr6 : r < 6 := by omega
  rw [hr]
  rw [hi] at h
  match r, hr6 with
  | 0, _ => rw [Nat.add_zero, f0] at h; rw [← h]; rfl
  | 1, _ => rw [f1] at h; rw [← h]; rfl
  | 2, _ => rw [f2] at h; rw [← h]; rfl
  | 3, _ => rw [f3] at h; rw [← h]; rfl
  | 4, _ => rw [f4] at h; rw [← h]; rfl
  | 5, _ => rw [f5] at h; rw [← h]; rfl
theorem copy_onesF {z : Fd} {w : World} {g n k j : Nat} (h : Blk w g 33 (flatF (onesF z n k))) (hkj : k + j ≤ n) (b o m c l d : Nat) (hsrc : ∀ i r v, i < j → (z.cells)[r]? = some v → w.cell? ⟨b, o + (i * 6 + r), none⟩ = some v) (hj : j = Nat.min m l) :
    ∃ w', (Builtin.copy_ #[27, 27] 3 #[.slice (some ⟨g, k * 6, none⟩) l d, .slice (some ⟨b, o, none⟩) m c]).run Try.prog w = .ok (.int .i64 (j : Int)) w' ∧ Blk w' g 33 (flatF (onesF z n (k + j))) ∧ Turned w w' g := by
  have hl : (flatF (List.replicate j z)).length = j * 6 := by rw [flatF_length, List.length_replicate]
  have hrun := run_copy_rowS 6 w 27 27 3 33 g (k * 6) l d ⟨b, o, none⟩ m c (flatF (onesF z n k)).toArray 33 (flatF (List.replicate j z)) Try.underlying27 sizeF h
    (by rw [hl, hj])
    (fun i v hi => by
      obtain ⟨q, r, hq, hr, rfl, hv⟩ := flatF_rep_inv hi
      rw [addr_add]
      exact hsrc q r v hq hv)
    (by rw [hl, List.size_toArray, flatF_length, onesF_length (by omega)]; omega) (flatF_one _)
  rw [hl] at hrun
  rw [List.toList_toArray, onesF_lay z n k j hkj, ← hj] at hrun
  exact ⟨_, hrun, h.setRow _, Turned.setRow _ _ _⟩
theorem sliceF_back (b o n c k : Nat) (h : k < n) (hc : n ≤ c) (W : World) :
    (Instr.slice 27 (.slice (some ⟨b, o, none⟩) n c) (some (.int .i64 (k : Int))) none none).run Try.prog W = .ok (.slice (some ⟨b, o + k * 6, none⟩) (n - k) (c - k)) W := by
  have h1 : ¬ c = k := by omega
  obtain ⟨i0, hi, _, hz1, _⟩ := info_parts infoF
  simp [Instr.slice, Instr.sliceBounds, Instr.sliceBound, run_underlying Try.underlying27, asIntOf, h1, addr_add, sizeOf, typeInfo, hi, hz1]
  intro h3; omega
theorem sliceF_front (p : Option Addr) (n c k : Nat) (h : k ≤ n) (hc : n ≤ c) (W : World) :
    (Instr.slice 27 (.slice p n c) none (some (.int .i64 (k : Int))) none).run Try.prog W = .ok (.slice p k c) W := by
  obtain ⟨i0, hi, _, _, _⟩ := info_parts infoF
  simp [Instr.slice, Instr.sliceBounds, Instr.sliceBound, run_underlying Try.underlying27, asIntOf, sizeOf, typeInfo, hi]
  rw [if_pos (by omega)]
  have : (Option.map (fun x : Addr => x.add 0) p) = p := by
    cases p with
    | none => rfl
    | some a => obtain ⟨b, o, s⟩ := a; cases s <;> simp [Addr.add]
  rw [this, ite_self]
theorem made_founds (n : Nat) : (madeCells (Value.agg #[.int .i64 0, .int .i64 0, .int .i64 0, .int .i64 0, .int .i64 0, .int .i64 0]).cells (n * 6)).toList = flatF (List.replicate n zeroF) := by
  apply List.ext_getElem?
  intro j
  rcases Nat.lt_or_ge j (n * 6) with hj | hj
  · rw [madeCells, Array.toList_map, Array.toList_range, List.getElem?_map, List.getElem?_range hj]
    obtain ⟨f0, f1, f2, f3, f4, f5⟩ := flatF_at (l := List.replicate n zeroF) (k := j / 6) (by rw [List.length_replicate]; omega)
    rw [eF_rep zeroF (by omega)] at f0 f1 f2 f3 f4 f5
    obtain ⟨r, hr⟩ : ∃ r, j % 6 = r := ⟨_, rfl⟩
    have hi : j = j / 6 * 6 + r := by omega
    have hr6 : r < 6 := by omega
    have hv : ∀ i : Fin 6, (Value.agg #[.int .i64 0, .int .i64 0, .int .i64 0, .int .i64 0, .int .i64 0, .int .i64 0]).cells[i.1]? = some (.int .i64 0) := by
      intro i
      match i with
      | 0 => rfl
      | 1 => rfl
      | 2 => rfl
      | 3 => rfl
      | 4 => rfl
      | 5 => rfl
    have e2 : (flatF (List.replicate n zeroF))[j]? = some (.int .i64 0) := by
      rw [hi]
      match r, hr6 with
      | 0, _ => rw [Nat.add_zero, f0]; rfl
      | 1, _ => rw [f1]; rfl
      | 2, _ => rw [f2]; rfl
      | 3, _ => rw [f3]; rfl
      | 4, _ => rw [f4]; rfl
      | 5, _ => rw [f5]; rfl
    rw [e2]
    have := hv ⟨j % 6, by omega⟩
    simp [Value.cells] at this ⊢
    rw [this]
    rfl
  · rw [List.getElem?_eq_none (by rw [Array.length_toList, size_madeCells]; exact hj), List.getElem?_eq_none (by rw [flatF_length, List.length_replicate]; exact hj)]
theorem made_blockF {w : World} {B g n : Nat} (h : w.ownsRow B 33 6 (.slice (some ⟨g, 0, none⟩) n n) n (madeCells (Value.agg #[.int .i64 0, .int .i64 0, .int .i64 0, .int .i64 0, .int .i64 0, .int .i64 0]).cells (n * 6)).toList) : w.heap[g]? = some (.cells (flatF (List.replicate n zeroF)).toArray 33 (0, 0)) := by
  rw [made_founds] at h
  rcases h.2 with ⟨h', _⟩ | ⟨g', cap', cur, h', _, hg, _, _, hsz, htake⟩
  · simp at h'
  · simp only [Value.slice.injEq, Option.some.injEq, Addr.mk.injEq, and_true, true_and] at h'
    obtain ⟨rfl, rfl⟩ := h'
    rw [List.take_of_length_le (by simp [hsz])] at htake
    rw [hg, ← htake]
set_option linter.unusedSimpArgs false in
set_option maxHeartbeats 2000000 in
set_option maxRecDepth 100000 in
theorem repeatF_any (z : Fd) (b c n : Nat) (h1 : 1 ≤ n) (hn : n ≤ 1000000) (w : World) (hx : Blk w b 33 z.cells) :
    Calls Try.prog 36 #[.slice (some ⟨b, 0, none⟩) 1 c, .int .i64 (n : Int)] w fun e w' => e = .returned (.slice (some ⟨w.heap.size, 0, none⟩) n n) ∧ Blk w' w.heap.size 33 (flatF (List.replicate n z)) ∧ Below w.heap.size w w' := by
  obtain ⟨i0, hi, hz0, hz1, hz2⟩ := info_parts infoF
  have hn0 : ¬ (n : Int) < 0 := by omega
  have hn1 : (n : Int) ≤ 1000000 := by omega
  have hwu : IntKind.u64.wrap (n : Int) = (n : Int) := by rw [IntKind.wrap_u64]; omega
  have hwi : IntKind.i64.wrap (n : Int) = (n : Int) := by rw [IntKind.wrap_i64]; omega
  go_enter Try.func36, Try.ntmps36
  go_upto_region 7 with (first
    | (go_at_call 68; refine (mul_one' n hn _).mono ?_; rintro e w' ⟨rfl, hw'⟩; have hw2 := hw'.symm; subst hw2; clear hw')
    | (at_make; refine wpList_make_full _ rfl _ _ 27 rfl w.heap.size 33 i0 (.agg #[.int .i64 0, .int .i64 0, .int .i64 0, .int .i64 0, .int .i64 0, .int .i64 0]) 6 Try.underlying27 hi hz0 hz1 .i64 .i64 _ _ n rfl rfl rfl rfl (by rw [hz2]; omega) (by unfold maxLen; omega) (Nat.le_refl _) ?_; intro w1 hown1 hgrow1))
  have hb1 := below_grown0 hgrow1
  have g0 : Blk w1 w.heap.size 33 (flatF (onesF z n 0)) := by
    have := made_blockF hown1
    rw [onesF_zero]; exact this
  have hc0 := hx.kept hb1
  obtain ⟨w2, hcp, g2, t2⟩ := copy_onesF g0 (j := 1) (by omega) b 0 1 c n n (fun i r v hi hv => by obtain rfl : i = 0 := Nat.lt_one_iff.1 hi; rw [Nat.zero_mul, Nat.zero_add, Nat.zero_add]; exact hc0.cell' hv) (Nat.min_eq_left h1).symm
  have hb2 := t2.below hb1 (Nat.le_refl _)
  rw [Nat.zero_mul] at hcp
  clear hown1 hgrow1 hc0 g0 t2 hb1 hwu
  go_wp2_with fail
  clear hcp
  rw [Nat.zero_add] at g2
  go_loopw [8] (fun i wr => ∃ k : Nat, 1 ≤ k ∧ k ≤ n ∧ i = .int .i64 k ∧ Blk wr w.heap.size 33 (flatF (onesF z n k)) ∧ Below w.heap.size w wr) (fun i _ => n - (intOf i).toNat)
  case atStart => exact ⟨1, Nat.le_refl _, h1, rfl, g2, hb2⟩
  case round =>
    obtain ⟨k, hk1, hk, rfl, gk, hbk⟩ := hrel
    clear g2 hb2
    by_cases hlt : k < n
    · have s1 := sliceF_back w.heap.size 0 n n k hlt (Nat.le_refl _)
      have s2 := sliceF_front (some ⟨w.heap.size, 0, none⟩) n n k hk (Nat.le_refl _)
      rw [Nat.zero_add] at s1
      obtain ⟨j, hj⟩ : ∃ j, j = Nat.min k (n - k) := ⟨_, rfl⟩
      have hj1 : 1 ≤ j ∧ k + j ≤ n ∧ j ≤ k := by have e : Nat.min k (n - k) = min k (n - k) := rfl; rw [e] at hj; omega
      obtain ⟨w3, hcp, g3, t3⟩ := copy_onesF (w := wr.drew) gk (j := j) (by omega) w.heap.size 0 k n (n - k) (n - k) (fun i r v hi hv => by
        have hi2 : i < k := by omega
        have hq : eF (onesF z n k) i = z := by simp [eF, onesF, hi2, List.getElem?_append]
        obtain ⟨f0, f1, f2, f3, f4, f5⟩ := flatF_at (l := onesF z n k) (k := i) (by rw [onesF_length hk]; omega)
        rw [hq] at f0 f1 f2 f3 f4 f5
        have hr : r < 6 := by
          rcases Nat.lt_or_ge r 6 with h' | h'
          · exact h'
          · rw [List.getElem?_eq_none (by show 6 ≤ r; exact h')] at hv; cases hv
        rw [Nat.zero_add]
        refine gk.cell' ?_
        rw [← hv]
        match r, hr with
        | 0, _ => exact f0
        | 1, _ => exact f1
        | 2, _ => exact f2
        | 3, _ => exact f3
        | 4, _ => exact f4
        | 5, _ => exact f5) hj
      have hb3 : Below w.heap.size w w3 := t3.below hbk.drew (Nat.le_refl _)
      have hkn : (k : Int) < (n : Int) := by omega
      have hj2 : (j : Int) ≤ 1000000 := by omega
      have hk2 : (k : Int) ≤ 1000000 := by omega
      have hwj : IntKind.i64.wrap ((k : Int) + (j : Int)) = (k : Int) + (j : Int) := by rw [IntKind.wrap_i64]; omega
      clear hj
      go_wp2_with fail
      refine wp_region_noPanic ?_
      refine wp_region_held_drew (S := fun _ => True) (by kernel_rfl) trivial (fun hHeld => ?_)
      refine wpAnyH_take (i := 0) (v := ?_) rfl (by kernel_rfl) (by kernel_rfl) (by kernel_rfl) (fun _ _ _ h => h) (Or.inl ⟨by rfl, ?_⟩) hHeld ?_
      rotate_left
      · intro w' hSw; try dsimp only at hSw
        go_simp; try (with_reducible rfl)
      try simp only [Act.put, List.getElem_toArray, List.getElem_cons_succ, List.getElem_cons_zero, List.setIfInBounds_toArray, List.set_cons_zero, List.set_cons_succ]
      refine wpAnyH_take (i := 1) (v := ?_) rfl (by kernel_rfl) (by kernel_rfl) (by kernel_rfl) (fun _ _ _ h => h) (Or.inl ⟨by rfl, ?_⟩) hHeld ?_
      rotate_left
      · intro w' hSw; try dsimp only at hSw
        go_simp; try (with_reducible rfl)
      try simp only [Act.put, List.getElem_toArray, List.getElem_cons_succ, List.getElem_cons_zero, List.setIfInBounds_toArray, List.set_cons_zero, List.set_cons_succ]
      refine wpAnyH_take (i := 2) (v := ?_) rfl (by kernel_rfl) (by kernel_rfl) (by kernel_rfl) (fun _ _ _ h => h) (Or.inl ⟨by rfl, ?_⟩) hHeld ?_
      rotate_left
      · intro w' hSw; try dsimp only at hSw
        go_simp; try (with_reducible rfl)
      try simp only [Act.put, List.getElem_toArray, List.getElem_cons_succ, List.getElem_cons_zero, List.setIfInBounds_toArray, List.set_cons_zero, List.set_cons_succ]
      refine wpAnyH_take (i := 3) (v := ?_) rfl (by kernel_rfl) (by kernel_rfl) (by kernel_rfl) (fun _ _ _ h => h) (Or.inl ⟨by rfl, ?_⟩) hHeld ?_
      rotate_left
      · intro w' hSw; try dsimp only at hSw
        go_simp; try (with_reducible rfl)
      try simp only [Act.put, List.getElem_toArray, List.getElem_cons_succ, List.getElem_cons_zero, List.setIfInBounds_toArray, List.set_cons_zero, List.set_cons_succ]
      refine wpAnyH_take (i := 4) (v := ?_) rfl (by kernel_rfl) (by kernel_rfl) (by kernel_rfl) (fun _ _ _ h => h) (Or.inl ⟨by rfl, ?_⟩) hHeld ?_
      rotate_left
      · intro w' hSw; try dsimp only at hSw
        go_simp; try (with_reducible rfl)
      try simp only [Act.put, List.getElem_toArray, List.getElem_cons_succ, List.getElem_cons_zero, List.setIfInBounds_toArray, List.set_cons_zero, List.set_cons_succ]
      refine wpAnyH_take (i := 5) (v := ?_) rfl (by kernel_rfl) (by kernel_rfl) (by kernel_rfl) (fun _ _ _ h => h) (Or.inl ⟨by rfl, ?_⟩) hHeld ?_
      rotate_left
      · intro w' hSw; try dsimp only at hSw
        go_simp; try (with_reducible rfl)
      try simp only [Act.put, List.getElem_toArray, List.getElem_cons_succ, List.getElem_cons_zero, List.setIfInBounds_toArray, List.set_cons_zero, List.set_cons_succ]
      refine wpAnyH_take (i := 6) (v := ?_) rfl (by kernel_rfl) (by kernel_rfl) (by kernel_rfl) (fun _ _ _ h => h) (Or.inl ⟨by rfl, ?_⟩) hHeld ?_
      rotate_left
      · intro w' hSw; try dsimp only at hSw
        go_simp; try (with_reducible rfl)
      try simp only [Act.put, List.getElem_toArray, List.getElem_cons_succ, List.getElem_cons_zero, List.setIfInBounds_toArray, List.set_cons_zero, List.set_cons_succ]
      refine wpAnyH_ready (rs := [7]) (by kernel_rfl) (by simp) ?_
      refine AllReadyH.cons rfl (fun K hK => ?_) AllReadyH.nil
      go_simp
      refine hK.out _ _ trivial (fun hHeld => ?_)
      clear hK K
      try simp only [Act.put, List.getElem_toArray, List.getElem_cons_succ, List.getElem_cons_zero, List.setIfInBounds_toArray, List.set_cons_zero, List.set_cons_succ]
      refine wpAnyH_take (i := 8) (v := ?_) rfl (by kernel_rfl) (by kernel_rfl) (by kernel_rfl) (fun _ _ _ h => h) (Or.inl ⟨by rfl, ?_⟩) hHeld ?_
      rotate_left
      · intro w' hSw; try dsimp only at hSw
        go_simp; try (with_reducible rfl)
      try simp only [Act.put, List.getElem_toArray, List.getElem_cons_succ, List.getElem_cons_zero, List.setIfInBounds_toArray, List.set_cons_zero, List.set_cons_succ]
      refine wpAnyH_take (i := 9) (v := ?_) rfl (by kernel_rfl) (by kernel_rfl) (by kernel_rfl) (fun _ _ _ h => h) (Or.inl ⟨by rfl, ?_⟩) hHeld ?_
      rotate_left
      · intro w' hSw; try dsimp only at hSw
        go_simp; try (with_reducible rfl)
      try simp only [Act.put, List.getElem_toArray, List.getElem_cons_succ, List.getElem_cons_zero, List.setIfInBounds_toArray, List.set_cons_zero, List.set_cons_succ]
      refine wpAnyH_done (by kernel_rfl) ?_ _
      refine NoPanic.normal ?_
      clear hcp s1 s2
      go_wp2_with fail
      go_roundw
      case rel => exact ⟨k + j, by omega, by omega, by go_num, g3, hb3⟩
      case measure => simp [intOf]; omega
    · have hkn : k = n := by omega
      subst hkn
      go_wp2_with fail
      go_ret
      rw [onesF_all] at gk
      exact ⟨rfl, gk, hbk⟩
end Go.Proofs.Ytfgelncfmopibaa
