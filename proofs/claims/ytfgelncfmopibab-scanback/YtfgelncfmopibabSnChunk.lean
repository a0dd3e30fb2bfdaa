/-
  slices.Chunk over a slice of places whose length is a multiple: what its iterator gives.
-/
import Derived.Test.YtfgelncfmopibabSnNeed2
namespace Go.Proofs.Ytfgelncfmopibab
open Go.RowKit Go.Shelf
attribute [local go_sem] Oper.semAt_some
theorem sliceZ_back (b o n c k : Nat) (h : k < n) (hc : n ≤ c) (W : World) :
    (Instr.slice 23 (.slice (some ⟨b, o, none⟩) n c) (some (.int .i64 (k : Int))) none none).run Try.prog W = .ok (.slice (some ⟨b, o + k * 2, none⟩) (n - k) (c - k)) W := by
  have h1 : ¬ c = k := by omega
  obtain ⟨i0, hi, _, hz1, _⟩ := info_parts infoZ
  simp [Instr.slice, Instr.sliceBounds, Instr.sliceBound, run_underlying Try.underlying23, asIntOf, h1, addr_add, sizeOf, typeInfo, hi, hz1]
  intro h3; omega
theorem sliceZ_mid (b o n c k j : Nat) (hk : k < j) (h : j ≤ n) (hc : n ≤ c) (W : World) :
    (Instr.slice 23 (.slice (some ⟨b, o, none⟩) n c) (some (.int .i64 (k : Int))) (some (.int .i64 (j : Int))) (some (.int .i64 (j : Int)))).run Try.prog W = .ok (.slice (some ⟨b, o + k * 2, none⟩) (j - k) (j - k)) W := by
  obtain ⟨i0, hi, _, hz1, _⟩ := info_parts infoZ
  have h1 : ¬ j = k := by omega
  have h2 : ¬ j - k = 0 := by omega
  simp [Instr.slice, Instr.sliceBounds, Instr.sliceBound, run_underlying Try.underlying23, asIntOf, addr_add, sizeOf, typeInfo, hi, hz1, h1]
  rw [if_pos (by omega), if_pos (by omega)]
theorem chunk_call (P : Nat) (hP : 1 ≤ P) (a : Option Addr) (len cap : Nat) (w : World) :
    Calls Try.prog 48 #[.slice a len cap, .int .i64 (P : Int)] w fun e w' => ∃ B1 B2, e = .returned (.func (.func 62) #[] #[.pointer (some ⟨B1, 0, none⟩), .pointer (some ⟨B2, 0, none⟩)]) ∧ w.heap.size ≤ B1 ∧ w.heap.size ≤ B2 ∧ Blk w' B1 23 [.slice a len cap] ∧ Blk w' B2 3 [.int .i64 (P : Int)] ∧ Below w.heap.size w w' := by
  have b0 := (Blk.new' w 23 #[.slice a len cap]).alloc (.cells #[.int .i64 (P : Int)] 3)
  have b1 := Blk.new' (w.alloc (.cells #[.slice a len cap] 23)) 3 #[.int .i64 (P : Int)]
  rw [World.size_alloc] at b1
  have hp : ¬ (P : Int) < 1 := by omega
  have hb := bt (below_alloc w (.cells #[.slice a len cap] 23)) (below_alloc _ (.cells #[.int .i64 (P : Int)] 3))
  go_enter Try.func48, Try.ntmps48
  go_wp2
  go_ret
  exact ⟨_, _, rfl, by omega, by omega, b0, b1, hb⟩
/-- The two boxes lie as they lay. -/
def KpB (B1 B2 : Nat) (A B : World) : Prop := B.heap[B1]? = A.heap[B1]? ∧ B.heap[B2]? = A.heap[B2]? ∧ A.heap.size ≤ B.heap.size
theorem KpB.refl (B1 B2 : Nat) (A : World) : KpB B1 B2 A A := ⟨rfl, rfl, Nat.le_refl _⟩
theorem KpB.trans {B1 B2 : Nat} {A B C : World} (h : KpB B1 B2 A B) (k : KpB B1 B2 B C) : KpB B1 B2 A C := ⟨k.1.trans h.1, k.2.1.trans h.2.1, Nat.le_trans h.2.2 k.2.2⟩
/-- What yield is handed: a part of P places. -/
def encC (b o P : Nat) {m : Nat} (x : Fin m) : Array Value := #[.slice (some ⟨b, o + x.1 * P * 2, none⟩) P P]
theorem take_fin {m k : Nat} (h : k < m) : (List.finRange m).take (k + 1) = (List.finRange m).take k ++ [⟨k, h⟩] := by
  rw [List.take_succ_eq_append_getElem (by simpa using h)]; simp
set_option linter.unusedSimpArgs false in
set_option maxRecDepth 100000 in
set_option maxHeartbeats 4000000 in
theorem chunk1_in (nf : Nat) (hn : 2 ≤ nf) (l B1 B2 b o c m P n : Nat) (HN : Hid (n = m * P)) (hP : 1 ≤ P) (hP2 : P ≤ 1000) (hnb : n ≤ 1000000) (hc : n ≤ c) (J Jx : List (Fin m) → World → Prop) (W : World) (hJ : AbidesFrom W.heap.size J)
    (hY : ∀ pre x W, J pre W → pre.length < m → YieldAt Fence.wide (nf - 1) Try.prog l (encC b o P x) W fun e W' =>
      (e = .returned (.bool true) ∧ J (pre ++ [x]) W' ∧ KpB B1 B2 W W') ∨ (e = .returned (.bool false) ∧ Jx (pre ++ [x]) W'))
    (h1 : W.cell? ⟨B1, 0, none⟩ = some (.slice (some ⟨b, o, none⟩) n c)) (h2 : W.cell? ⟨B2, 0, none⟩ = some (.int .i64 (P : Int))) (h0 : J [] W) :
    CallsIn Fence.wide nf Try.prog 62 #[.func (.yield l) #[] #[], .pointer (some ⟨B1, 0, none⟩), .pointer (some ⟨B2, 0, none⟩)] W fun e W' => (∃ v, e = .returned v) ∧
      ((∃ ys, ys = List.finRange m ∧ J ys W') ∨ (∃ pre, True ∧ Jx pre W')) := by
  have hn1 : 1 ≤ nf := by omega
  refine callsIn_of_wp Try.func62 rfl trivial ?_ rfl
  simp only [Try.ntmps62, List.size_toArray, List.length_cons, List.length_nil, Nat.reduceAdd, Nat.reduceSub, Array.replicate_succ, Array.replicate_zero, List.push_toArray, List.append_toArray, List.nil_append, List.cons_append]
  gi_wp2
  gi_loopw [4] (fun i wr => ∃ k a : Nat, k ≤ m ∧ Hid (a = k * P) ∧ i = .int .i64 (a : Int) ∧ J ((List.finRange m).take k) wr ∧ KpB B1 B2 W wr) (fun i _ => n - (intOf i).toNat)
  case atStart => exact ⟨0, 0, Nat.zero_le _, (Nat.zero_mul P).symm, rfl, h0, KpB.refl _ _ _⟩
  case round =>
    obtain ⟨k, a, hk, HA, rfl, hJs, hnx⟩ := hrel
    have f1 : wr.cell? ⟨B1, 0, none⟩ = some (.slice (some ⟨b, o, none⟩) n c) := (World.cell?_of_block (a := ⟨B1, 0, none⟩) hnx.1).trans h1
    have f2 : wr.cell? ⟨B2, 0, none⟩ = some (.int .i64 (P : Int)) := (World.cell?_of_block (a := ⟨B2, 0, none⟩) hnx.2.1).trans h2
    by_cases hlt : k < m
    · have hnext : a + P ≤ n := by rw [HA.out, HN.out, ← Nat.succ_mul]; exact Nat.mul_le_mul_right P hlt
      have HS : Hid (a + P = (k + 1) * P) := by show _ = _; rw [HA.out, Nat.succ_mul]
      have HU : Hid ((List.finRange m).take (k + 1) = (List.finRange m).take k ++ [⟨k, hlt⟩]) := take_fin hlt
      have hlen : ((List.finRange m).take k).length < m := by simp; omega
      obtain ⟨fn, tmps, assign, body, hy, hR⟩ := hY _ ⟨k, hlt⟩ wr.drew (hJ _ _ _ none hJs ⟨rfl, rfl, rfl, Nat.le_refl _, fun _ _ _ => rfl⟩ (fun r e => by cases e)) hlen
      dsimp only [encC] at hy
      rw [← HA.out] at hy
      have s1 := sliceZ_back b o n c a (by omega) hc
      obtain ⟨e, He⟩ : ∃ e, e = a + P := ⟨_, rfl⟩
      have s2 := sliceZ_mid b o n c a e (by omega) (by omega) hc
      rw [show e - a = P by omega] at s2
      have hai : (a : Int) < (n : Int) := by omega
      have hmin : min (P : Int) ((n - a : Nat) : Int) = (P : Int) := by omega
      have hae : (a : Int) + (P : Int) = (e : Int) := by omega
      have heb : (e : Int) ≤ 1000000 := by omega
      have HE : Hid (e = (k + 1) * P) := by show _ = _; rw [He]; exact HS.out
      clear He HS hnext
      clear hY hJs
      gi_wp2
      refine wpIn_wide.2 ?_
      refine wp_region_noPanic ?_
      refine wp_region_held_drew (S := fun X => X.cell? ⟨B1, 0, none⟩ = some (.slice (some ⟨b, o, none⟩) n c) ∧ X.cell? ⟨B2, 0, none⟩ = some (.int .i64 (P : Int))) (by kernel_rfl) ⟨f1, f2⟩ (fun hHeld => ?_)
      refine wpAnyH_take (i := 0) (v := ?_) rfl (by kernel_rfl) (by kernel_rfl) (by kernel_rfl) (fun _ _ _ h => h) (Or.inl ⟨by rfl, ?_⟩) hHeld ?_
      rotate_left
      · intro w' hSw; try dsimp only at hSw
        obtain ⟨f1, f2⟩ := hSw
        go_simp; try (with_reducible rfl)
      try simp only [Act.put, List.getElem_toArray, List.getElem_cons_succ, List.getElem_cons_zero, List.setIfInBounds_toArray, List.set_cons_zero, List.set_cons_succ]
      refine wpAnyH_take (i := 1) (v := ?_) rfl (by kernel_rfl) (by kernel_rfl) (by kernel_rfl) (fun _ _ _ h => h) (Or.inl ⟨by rfl, ?_⟩) hHeld ?_
      rotate_left
      · intro w' hSw; try dsimp only at hSw
        obtain ⟨f1, f2⟩ := hSw
        go_simp; try (with_reducible rfl)
      try simp only [Act.put, List.getElem_toArray, List.getElem_cons_succ, List.getElem_cons_zero, List.setIfInBounds_toArray, List.set_cons_zero, List.set_cons_succ]
      refine wpAnyH_take (i := 2) (v := ?_) rfl (by kernel_rfl) (by kernel_rfl) (by kernel_rfl) (fun _ _ _ h => h) (Or.inl ⟨by rfl, ?_⟩) hHeld ?_
      rotate_left
      · intro w' hSw; try dsimp only at hSw
        obtain ⟨f1, f2⟩ := hSw
        go_simp; try (with_reducible rfl)
      try simp only [Act.put, List.getElem_toArray, List.getElem_cons_succ, List.getElem_cons_zero, List.setIfInBounds_toArray, List.set_cons_zero, List.set_cons_succ]
      refine wpAnyH_take (i := 3) (v := ?_) rfl (by kernel_rfl) (by kernel_rfl) (by kernel_rfl) (fun _ _ _ h => h) (Or.inl ⟨by rfl, ?_⟩) hHeld ?_
      rotate_left
      · intro w' hSw; try dsimp only at hSw
        obtain ⟨f1, f2⟩ := hSw
        go_simp; try (with_reducible rfl)
      try simp only [Act.put, List.getElem_toArray, List.getElem_cons_succ, List.getElem_cons_zero, List.setIfInBounds_toArray, List.set_cons_zero, List.set_cons_succ]
      refine wpAnyH_take (i := 4) (v := ?_) rfl (by kernel_rfl) (by kernel_rfl) (by kernel_rfl) (fun _ _ _ h => h) (Or.inl ⟨by rfl, ?_⟩) hHeld ?_
      rotate_left
      · intro w' hSw; try dsimp only at hSw
        obtain ⟨f1, f2⟩ := hSw
        go_simp; try (with_reducible rfl)
      try simp only [Act.put, List.getElem_toArray, List.getElem_cons_succ, List.getElem_cons_zero, List.setIfInBounds_toArray, List.set_cons_zero, List.set_cons_succ]
      refine wpAnyH_take (i := 5) (v := ?_) rfl (by kernel_rfl) (by kernel_rfl) (by kernel_rfl) (fun _ _ _ h => h) (Or.inl ⟨by rfl, ?_⟩) hHeld ?_
      rotate_left
      · intro w' hSw; try dsimp only at hSw
        obtain ⟨f1, f2⟩ := hSw
        go_simp; try (with_reducible rfl)
      try simp only [Act.put, List.getElem_toArray, List.getElem_cons_succ, List.getElem_cons_zero, List.setIfInBounds_toArray, List.set_cons_zero, List.set_cons_succ]
      refine wpAnyH_take (i := 6) (v := ?_) rfl (by kernel_rfl) (by kernel_rfl) (by kernel_rfl) (fun _ _ _ h => h) (Or.inl ⟨by rfl, ?_⟩) hHeld ?_
      rotate_left
      · intro w' hSw; try dsimp only at hSw
        obtain ⟨f1, f2⟩ := hSw
        go_simp; try (with_reducible rfl)
      try simp only [Act.put, List.getElem_toArray, List.getElem_cons_succ, List.getElem_cons_zero, List.setIfInBounds_toArray, List.set_cons_zero, List.set_cons_succ]
      refine wpAnyH_done (by kernel_rfl) ?_ _
      refine NoPanic.normal ?_
      gi_wp2
      refine hR.mono ?_
      rintro e' W3 (⟨rfl, hJ3, hk3⟩ | ⟨rfl, hJx3⟩)
      · have f3 : W3.cell? ⟨B2, 0, none⟩ = some (.int .i64 (P : Int)) := (World.cell?_of_block (a := ⟨B2, 0, none⟩) hk3.2.1).trans f2
        gi_wp2
        go_roundw
        case rel => exact ⟨k + 1, e, by omega, HE, rfl, by rw [HU.out]; exact hJ3, hnx.trans hk3⟩
        case measure => simp [intOf]; omega
      · gi_wp2
        refine bodyPost_ret (results_none rfl _ _ _) rfl ?_
        exact ⟨⟨_, rfl⟩, .inr ⟨_, trivial, hJx3⟩⟩
    · obtain rfl : k = m := by omega
      have han : a = n := by rw [HA.out, HN.out]
      subst han
      rw [List.take_of_length_le (by simp)] at hJs
      gi_wp2
      go_end0
      exact ⟨⟨_, rfl⟩, .inl ⟨_, rfl, hJs⟩⟩
theorem chunk_stops (nf : Nat) (hn : 2 ≤ nf) (B1 B2 b o c m P n : Nat) (HN : Hid (n = m * P)) (hP : 1 ≤ P) (hP2 : P ≤ 1000) (hnb : n ≤ 1000000) (hc : n ≤ c) (w : World) (g1 : B1 < w.heap.size) (g2 : B2 < w.heap.size)
    (h1 : w.cell? ⟨B1, 0, none⟩ = some (.slice (some ⟨b, o, none⟩) n c)) (h2 : w.cell? ⟨B2, 0, none⟩ = some (.int .i64 (P : Int))) :
    SeqStopsK Fence.wide nf Try.prog 62 #[.pointer (some ⟨B1, 0, none⟩), .pointer (some ⟨B2, 0, none⟩)] (encC b o P (m := m)) (KpB B1 B2) (fun ys => ys = List.finRange m) (fun _ => True) m w := fun l J Jx W hW hJ _ hY h0 =>
  chunk1_in nf hn l B1 B2 b o c m P n HN hP hP2 hnb hc J Jx W hJ hY ((hW.cell (p := ⟨B1, 0, none⟩) g1).trans h1) ((hW.cell (p := ⟨B2, 0, none⟩) g2).trans h2) h0
end Go.Proofs.Ytfgelncfmopibab
