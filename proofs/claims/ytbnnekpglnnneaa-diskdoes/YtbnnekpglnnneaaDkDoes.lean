/-
  P9.1 to P9.4: the law, walked.
-/
import Derived.Test.YtbnnekpglnnneaaDkStep
namespace Go.Proofs.Ytbnnekpglnnneaa
open Go.RowKit
theorem opsPreD (p : Option Addr) (n c k : Nat) (h : k ≤ n) (hc : n ≤ c) (W : World) : (Instr.slice 22 (.slice p n c) none (some (.int .i64 (k : Int))) none).run Try.prog W = .ok (.slice p k c) W := by
  simp [Instr.slice, Instr.sliceBounds, Instr.sliceBound, run_underlying Try.underlying22, asIntOf]
  rw [if_pos (by omega)]
  have : (Option.map (fun x : Addr => x.add 0) p) = p := by
    cases p with
    | none => rfl
    | some a => obtain ⟨b, o, s⟩ := a; cases s <;> simp [Addr.add]
  rw [this, ite_self]
theorem opsPreD' (p : Option Addr) (n c k : Nat) (h : k ≤ n) (hc : n ≤ c) (W : World) : (Instr.sliceAt 22 (.slice p n c) none (some (.int .i64 (k : Int))) none).run Try.prog W = .ok (.slice p k c) W := by
  rw [← opsPreD p n c k h hc W]
  simp [Instr.sliceAt, run_underlying Try.underlying22]
theorem minRunD (M n : Nat) : ∃ k : Nat, k ≤ n ∧ k ≤ M ∧ ∀ (ts : Array TypeId) (t : TypeId) (W : World), (Builtin.min_ ts t #[.int .i64 (n : Int), .int .i64 (M : Int)]).run Try.prog W = .ok (.int .i64 (k : Int)) W := by
  by_cases h : (M : Int) < (n : Int)
  · exact ⟨M, by omega, Nat.le_refl _, fun ts t W => by rw [run_min_int2]; simp only [if_pos h]⟩
  · exact ⟨n, Nat.le_refl _, by omega, fun ts t W => by rw [run_min_int2]; simp only [if_neg h]⟩
theorem rdB_nil (w : World) (c : Nat) : RdB w none 0 c [] [] := ⟨rfl, EachIn.nil w, fun h => by omega, Nat.zero_le _⟩
set_option linter.unusedSimpArgs false in
set_option maxRecDepth 100000 in
set_option maxHeartbeats 4000000 in
theorem does_no (n : Int) (hn : ¬ (1 ≤ n ∧ n ≤ 8192)) (v : Value) (w : World) :
    Calls Try.prog 3 #[.int .i64 n, v] w fun e w' => e = .returned (.bool true) ∧ Below w.heap.size w w' := by
  go_enter Try.func3, Try.ntmps3
  go_wp2_with (first
    | (go_at_call 7; refine (live_any _).mono ?_; rintro e w1 ⟨rfl, hb1⟩)
    | (go_at_call 8; refine (new_no n hn _).mono ?_; rintro e w' ⟨rfl, hw'⟩; have hw2 := hw'.symm; subst hw2; clear hw')
    | (go_at_call 9; refine (rnew_no n hn _).mono ?_; rintro e w' ⟨rfl, hw'⟩; have hw2 := hw'.symm; subst hw2; clear hw'))
  go_ret
  exact ⟨rfl, hb1⟩
set_option linter.unusedSimpArgs false in
set_option maxRecDepth 100000 in
set_option maxHeartbeats 4000000 in
theorem does_great (n : Nat) (hn1 : 64 < n) (hn2 : n ≤ 8192) (v : Value) (w : World) :
    Calls Try.prog 3 #[.int .i64 (n : Int), v] w fun e w' => e = .returned (.bool true) ∧ Below w.heap.size w w' := by
  have hni : (64 : Int) < (n : Int) := by omega
  have hnew := fun W => new_ok n (by omega) hn2 W
  have hrnew := fun W => rnew_ok n (by omega) hn2 W
  go_enter Try.func3, Try.ntmps3
  go_wp2_with (first
    | (go_at_call 7; refine (live_any _).mono ?_; rintro e w1 ⟨rfl, hb1⟩)
    | (go_at_call 8; refine (hnew _).mono ?_; rintro e w2 ⟨hb2, d, sb, rfl, hd2, hs2, D2⟩)
    | (go_at_call 9; refine (hrnew _).mono ?_; rintro e w3 ⟨hb3, r, V, rfl, hF3, R3⟩))
  go_ret
  exact ⟨rfl, bt (bt hb1 hb2) hb3⟩
set_option linter.unusedSimpArgs false in
set_option maxRecDepth 100000 in
set_option maxHeartbeats 4000000 in
theorem does_walk (N : Nat) (hN1 : 1 ≤ N) (hN2 : N ≤ 64) (p : Option Addr) (n c : Nat) (os : List OpA) (w : World) (ho : OpsSrc w p n c os) :
    Calls Try.prog 3 #[.int .i64 (N : Int), .slice p n c] w fun e w' => e = .returned (.bool true) ∧ Below w.heap.size w w' := by
  have hNi : (N : Int) ≤ 64 := by omega
  have hnew := fun W => new_ok N hN1 (by omega) W
  have hrnew := fun W => rnew_ok N hN1 (by omega) W
  obtain ⟨K, hKn, hK2, hmin0⟩ := minRunD 120 n
  have hmin : ∀ (ts : Array TypeId) (t : TypeId) (W : World), (Builtin.min_ ts t #[.int .i64 (n : Int), .int .i64 120]).run Try.prog W = .ok (.int .i64 (K : Int)) W := hmin0
  have hsl := opsPreD p n c K hKn ho.cap
  have hsl' := opsPreD' p n c K hKn ho.cap
  clear hmin0
  go_enter Try.func3, Try.ntmps3
  go_wp2_with (first
    | (go_at_call 7; refine (live_any _).mono ?_; rintro e w1 ⟨rfl, hb1⟩)
    | (go_at_call 8; refine (hnew _).mono ?_; rintro e w2 ⟨hb2, d, sb, rfl, hd2, hs2, D2⟩)
    | (go_at_call 9; refine (hrnew _).mono ?_; rintro e w3 ⟨hb3, r, V, rfl, hF3, R3⟩))
  have hF2 : ∀ k, fpD d sb (.slice none 0 0) k → w.heap.size ≤ k := by
    rintro k (rfl | rfl | hk)
    · exact Nat.le_trans hb1.size hd2
    · exact Nat.le_trans hb1.size hs2
    · simp [Value.ownBlock] at hk
  have hbB := bt (bt hb1 hb2) hb3
  have T0 : Two w.heap.size w3 d sb (.slice none 0 0) (newD N) r V (newR N) := ⟨D2.below hb3, R3, DRel.start N, hF2, fun k hk => Nat.le_trans (bt hb1 hb2).size (hF3 k hk), hbB.size⟩
  clear hnew hrnew hb1 hb2 hb3 D2 R3 hF2 hF3 hd2 hs2 hmin hsl hsl'
  have hKi : (K : Int) ≤ 120 := by omega
  go_loopw [5, 48] (fun dv iv wr => ∃ (k d sb : Nat) (lv : Value) (V' : RV) (s : DS) (t : RS), k ≤ K ∧ dv = .pointer (some ⟨d, 0, none⟩) ∧ iv = .int .i64 (k : Int) ∧ Two w.heap.size wr d sb lv s r V' t ∧ s.writes ≤ k ∧ Below w.heap.size w wr) (fun _ i _ => K - (intOf i).toNat)
  case atStart => exact ⟨0, d, sb, _, V, _, _, Nat.zero_le _, rfl, rfl, T0, Nat.le_refl _, hbB⟩
  case round =>
    obtain ⟨k, d, sb, lv, V', s, t, hk, rfl, rfl, TT, hwk, hB⟩ := hrel
    clear T0 hbB
    by_cases hlt : k < K
    · have hki : (k : Int) < (K : Int) := by omega
      have hk2 : (k : Int) ≤ 120 := by omega
      have ho' := ho.below hB
      obtain ⟨ob, oo, rfl, hobl, hcs⟩ := ho'.at' (by omega)
      obtain ⟨x, hx⟩ : ∃ x, os[k]? = some x := ⟨_, List.getElem?_eq_getElem (by have := ho.len; omega)⟩
      obtain ⟨c0, c1, c2, c3⟩ := hcs k x hx
      have hob : ob < w.heap.size := by obtain ⟨b', o', e', hl', _⟩ := ho.at' (by omega); cases e'; exact hl'
      have hxin := ho'.bytes k x hx
      have hrg := ho.rg x (List.mem_of_getElem? hx)
      have hql : ∀ a, x.q = some a → 0 < x.m → a.block < w.heap.size := fun a ha h0 => by
        obtain ⟨b', o', e', hl', _⟩ := (ho.bytes k x hx).at' h0
        rw [e'] at ha; cases ha; exact hl'
      obtain ⟨xd, xs, xq, xm, xc, xsh, xB⟩ := x
      dsimp only at c0 c1 c2 c3 hxin hrg hql
      have hbA := below_alloc wr (.cells #[.int .i64 xd, .int .i64 xs, .slice xq xm xc, .bool xsh] 33)
      have TA := TT.below hbA
      have gA := Blk.new' wr 33 #[.int .i64 xd, .int .i64 xs, .slice xq xm xc, .bool xsh]
      have hst := step_any TA xd xs xq xm xc xsh (by omega) hrg (hxin.below hbA) hql
      unfold opV at hst
      go_wp2_with (go_at_call 10; refine hst.mono ?_; rintro e ws ⟨d2, sb2, lv2, s2, V2, t2, rfl, TS, hw2, hbS⟩)
      obtain ⟨bo, hsb⟩ : ∃ bo, s2.on = bo := ⟨_, rfl⟩
      have hgo : t2.gone = !bo := by rw [TS.rel.on, hsb]
      have TSd := TS.below ((Below.refl _ ws).drew)
      have hmany : (t2.many : Int) = (s2.writes : Int) := by rw [TS.rel.w]
      refine wp_region_noPanic ?_
      refine wp_region_held_drew (S := fun X => DiskIn X d2 sb2 lv2 s2 ∧ RefIn X r V2 t2) (by kernel_rfl) ⟨TSd.D, TSd.R⟩ (fun hHeld => ?_)
      refine wpAnyH_take (i := 0) (v := ?_) rfl (by kernel_rfl) (by kernel_rfl) (by kernel_rfl) (fun _ _ _ h => h) (Or.inl ⟨by rfl, ?_⟩) hHeld ?_
      rotate_left
      · intro w' hSw; try dsimp only at hSw
        go_simp; try (with_reducible rfl)
      try simp only [Act.put, List.getElem_toArray, List.getElem_cons_succ, List.getElem_cons_zero, List.setIfInBounds_toArray, List.set_cons_zero, List.set_cons_succ]
      refine wpAnyH_take (i := 1) (v := ?_) rfl (by kernel_rfl) (by kernel_rfl) (by kernel_rfl) (fun _ _ _ h => h) (Or.inl ⟨by rfl, ?_⟩) hHeld ?_
      rotate_left
      · intro w' hSw; try dsimp only at hSw
        go_simp; try (with_reducible rfl)
      try simp only [Act.put, List.getElem_toArray, List.getElem_cons_succ, List.getElem_cons_zero, List.setIfInBounds_toArray, List.set_cons_zero, List.set_cons_succ]
      refine wpAnyH_take (i := 2) (v := ?_) rfl (by kernel_rfl) (by kernel_rfl) (by kernel_rfl) (fun _ _ _ h => h) (Or.inl ⟨by rfl, ?_⟩) hHeld ?_
      rotate_left
      · intro w' hSw; try dsimp only at hSw
        go_simp; try (with_reducible rfl)
      try simp only [Act.put, List.getElem_toArray, List.getElem_cons_succ, List.getElem_cons_zero, List.setIfInBounds_toArray, List.set_cons_zero, List.set_cons_succ]
      refine wpAnyH_take (i := 3) (v := ?_) rfl (by kernel_rfl) (by kernel_rfl) (by kernel_rfl) (fun _ _ _ h => h) (Or.inl ⟨by rfl, ?_⟩) hHeld ?_
      rotate_left
      · intro w' hSw; try dsimp only at hSw
        go_simp; try (with_reducible rfl)
      try simp only [Act.put, List.getElem_toArray, List.getElem_cons_succ, List.getElem_cons_zero, List.setIfInBounds_toArray, List.set_cons_zero, List.set_cons_succ]
      refine wpAnyH_take (i := 5) (v := ?_) rfl (by kernel_rfl) (by kernel_rfl) (by kernel_rfl) (fun _ _ _ h => h) (Or.inl ⟨by rfl, ?_⟩) hHeld ?_
      rotate_left
      · intro w' hSw; try dsimp only at hSw
        go_simp; try (with_reducible rfl)
      try simp only [Act.put, List.getElem_toArray, List.getElem_cons_succ, List.getElem_cons_zero, List.setIfInBounds_toArray, List.set_cons_zero, List.set_cons_succ]
      refine wpAnyH_take (i := 6) (v := ?_) rfl (by kernel_rfl) (by kernel_rfl) (by kernel_rfl) (fun _ _ _ h => h) (Or.inl ⟨by rfl, ?_⟩) hHeld ?_
      rotate_left
      · intro w' hSw; try dsimp only at hSw
        go_simp; try (with_reducible rfl)
      try simp only [Act.put, List.getElem_toArray, List.getElem_cons_succ, List.getElem_cons_zero, List.setIfInBounds_toArray, List.set_cons_zero, List.set_cons_succ]
      refine wpAnyH_take (i := 7) (v := ?_) rfl (by kernel_rfl) (by kernel_rfl) (by kernel_rfl) (fun _ _ _ h => h) (Or.inl ⟨by rfl, ?_⟩) hHeld ?_
      rotate_left
      · intro w' hSw; try dsimp only at hSw
        go_simp; try (with_reducible rfl)
      try simp only [Act.put, List.getElem_toArray, List.getElem_cons_succ, List.getElem_cons_zero, List.setIfInBounds_toArray, List.set_cons_zero, List.set_cons_succ]
      refine wpAnyH_take (i := 8) (v := ?_) rfl (by kernel_rfl) (by kernel_rfl) (by kernel_rfl) (fun _ _ _ h => h) (Or.inl ⟨by rfl, ?_⟩) hHeld ?_
      rotate_left
      · intro w' hSw; try dsimp only at hSw
        have l8 := hSw.2.blk.cell' (i := 2) (v := .bool t2.gone) rfl
        rw [hgo] at l8
        go_simp; try (with_reducible rfl)
      try simp only [Act.put, List.getElem_toArray, List.getElem_cons_succ, List.getElem_cons_zero, List.setIfInBounds_toArray, List.set_cons_zero, List.set_cons_succ]
      refine wpAnyH_take (i := 9) (v := ?_) rfl (by kernel_rfl) (by kernel_rfl) (by kernel_rfl) (fun _ _ _ h => h) (Or.inl ⟨by rfl, ?_⟩) hHeld ?_
      rotate_left
      · intro w' hSw; try dsimp only at hSw
        go_simp; try (with_reducible rfl)
      try simp only [Act.put, List.getElem_toArray, List.getElem_cons_succ, List.getElem_cons_zero, List.setIfInBounds_toArray, List.set_cons_zero, List.set_cons_succ]
      refine wpAnyH_ready (rs := [4]) (by kernel_rfl) (by simp) ?_
      refine AllReadyH.cons rfl (fun K hK => ?_) AllReadyH.nil
      have hon := on_any hHeld.1
      rw [hsb] at hon
      go_simp
      refine (hon).mono ?_
      rintro e w' ⟨rfl, hw'⟩
      have hw2 := hw'.symm
      subst hw2
      clear hw'
      refine hK.out _ _ hHeld (fun hHeld => ?_)
      clear hK K
      try simp only [Act.put, List.getElem_toArray, List.getElem_cons_succ, List.getElem_cons_zero, List.setIfInBounds_toArray, List.set_cons_zero, List.set_cons_succ]
      refine wpAnyH_take (i := 10) (v := ?_) rfl (by kernel_rfl) (by kernel_rfl) (by kernel_rfl) (fun _ _ _ h => h) (Or.inl ⟨by rfl, ?_⟩) hHeld ?_
      rotate_left
      · intro w' hSw; try dsimp only at hSw
        go_simp; try (with_reducible rfl)
      try simp only [Act.put, List.getElem_toArray, List.getElem_cons_succ, List.getElem_cons_zero, List.setIfInBounds_toArray, List.set_cons_zero, List.set_cons_succ]
      refine wpAnyH_take (i := 11) (v := ?_) rfl (by kernel_rfl) (by kernel_rfl) (by kernel_rfl) (fun _ _ _ h => h) (Or.inl ⟨by rfl, ?_⟩) hHeld ?_
      rotate_left
      · intro w' hSw; try dsimp only at hSw
        go_simp; try (with_reducible rfl)
      try simp only [Act.put, List.getElem_toArray, List.getElem_cons_succ, List.getElem_cons_zero, List.setIfInBounds_toArray, List.set_cons_zero, List.set_cons_succ]
      refine wpAnyH_take (i := 12) (v := ?_) rfl (by kernel_rfl) (by kernel_rfl) (by kernel_rfl) (fun _ _ _ h => h) (Or.inl ⟨by rfl, ?_⟩) hHeld ?_
      rotate_left
      · intro w' hSw; try dsimp only at hSw
        go_simp; try (with_reducible rfl)
      try simp only [Act.put, List.getElem_toArray, List.getElem_cons_succ, List.getElem_cons_zero, List.setIfInBounds_toArray, List.set_cons_zero, List.set_cons_succ]
      refine wpAnyH_take (i := 13) (v := ?_) rfl (by kernel_rfl) (by kernel_rfl) (by kernel_rfl) (fun _ _ _ h => h) (Or.inl ⟨by rfl, ?_⟩) hHeld ?_
      rotate_left
      · intro w' hSw; try dsimp only at hSw
        go_simp; try (with_reducible rfl)
      try simp only [Act.put, List.getElem_toArray, List.getElem_cons_succ, List.getElem_cons_zero, List.setIfInBounds_toArray, List.set_cons_zero, List.set_cons_succ]
      refine wpAnyH_take (i := 15) (v := ?_) rfl (by kernel_rfl) (by kernel_rfl) (by kernel_rfl) (fun _ _ _ h => h) (Or.inl ⟨by rfl, ?_⟩) hHeld ?_
      rotate_left
      · intro w' hSw; try dsimp only at hSw
        go_simp; try (with_reducible rfl)
      try simp only [Act.put, List.getElem_toArray, List.getElem_cons_succ, List.getElem_cons_zero, List.setIfInBounds_toArray, List.set_cons_zero, List.set_cons_succ]
      refine wpAnyH_take (i := 16) (v := ?_) rfl (by kernel_rfl) (by kernel_rfl) (by kernel_rfl) (fun _ _ _ h => h) (Or.inl ⟨by rfl, ?_⟩) hHeld ?_
      rotate_left
      · intro w' hSw; try dsimp only at hSw
        go_simp; try (with_reducible rfl)
      try simp only [Act.put, List.getElem_toArray, List.getElem_cons_succ, List.getElem_cons_zero, List.setIfInBounds_toArray, List.set_cons_zero, List.set_cons_succ]
      refine wpAnyH_take (i := 17) (v := ?_) rfl (by kernel_rfl) (by kernel_rfl) (by kernel_rfl) (fun _ _ _ h => h) (Or.inl ⟨by rfl, ?_⟩) hHeld ?_
      rotate_left
      · intro w' hSw; try dsimp only at hSw
        go_simp; try (with_reducible rfl)
      try simp only [Act.put, List.getElem_toArray, List.getElem_cons_succ, List.getElem_cons_zero, List.setIfInBounds_toArray, List.set_cons_zero, List.set_cons_succ]
      refine wpAnyH_take (i := 18) (v := ?_) rfl (by kernel_rfl) (by kernel_rfl) (by kernel_rfl) (fun _ _ _ h => h) (Or.inl ⟨by rfl, ?_⟩) hHeld ?_
      rotate_left
      · intro w' hSw; try dsimp only at hSw
        have l18 := hSw.2.blk.cell' (i := 5) (v := .int .i64 (t2.many : Int)) rfl
        rw [hmany] at l18
        go_simp; try (with_reducible rfl)
      try simp only [Act.put, List.getElem_toArray, List.getElem_cons_succ, List.getElem_cons_zero, List.setIfInBounds_toArray, List.set_cons_zero, List.set_cons_succ]
      refine wpAnyH_ready (rs := [14]) (by kernel_rfl) (by simp) ?_
      refine AllReadyH.cons rfl (fun K hK => ?_) AllReadyH.nil
      go_simp
      refine (writes_any hHeld.1).mono ?_
      rintro e w' ⟨rfl, hw'⟩
      have hw2 := hw'.symm
      subst hw2
      clear hw'
      refine hK.out _ _ hHeld (fun hHeld => ?_)
      clear hK K
      try simp only [Act.put, List.getElem_toArray, List.getElem_cons_succ, List.getElem_cons_zero, List.setIfInBounds_toArray, List.set_cons_zero, List.set_cons_succ]
      refine wpAnyH_take (i := 19) (v := ?_) rfl (by kernel_rfl) (by kernel_rfl) (by kernel_rfl) (fun _ _ _ h => h) (Or.inl ⟨by rfl, ?_⟩) hHeld ?_
      rotate_left
      · intro w' hSw; try dsimp only at hSw
        go_simp; try (with_reducible rfl)
      try simp only [Act.put, List.getElem_toArray, List.getElem_cons_succ, List.getElem_cons_zero, List.setIfInBounds_toArray, List.set_cons_zero, List.set_cons_succ]
      refine wpAnyH_take (i := 20) (v := ?_) rfl (by kernel_rfl) (by kernel_rfl) (by kernel_rfl) (fun _ _ _ h => h) (Or.inl ⟨by rfl, ?_⟩) hHeld ?_
      rotate_left
      · intro w' hSw; try dsimp only at hSw
        go_simp; try (with_reducible rfl)
      try simp only [Act.put, List.getElem_toArray, List.getElem_cons_succ, List.getElem_cons_zero, List.setIfInBounds_toArray, List.set_cons_zero, List.set_cons_succ]
      refine wpAnyH_take (i := 21) (v := ?_) rfl (by kernel_rfl) (by kernel_rfl) (by kernel_rfl) (fun _ _ _ h => h) (Or.inl ⟨by rfl, ?_⟩) hHeld ?_
      rotate_left
      · intro w' hSw; try dsimp only at hSw
        go_simp; try (with_reducible rfl)
      try simp only [Act.put, List.getElem_toArray, List.getElem_cons_succ, List.getElem_cons_zero, List.setIfInBounds_toArray, List.set_cons_zero, List.set_cons_succ]
      refine wpAnyH_take (i := 22) (v := ?_) rfl (by kernel_rfl) (by kernel_rfl) (by kernel_rfl) (fun _ _ _ h => h) (Or.inl ⟨by rfl, ?_⟩) hHeld ?_
      rotate_left
      · intro w' hSw; try dsimp only at hSw
        go_simp; try (with_reducible rfl)
      try simp only [Act.put, List.getElem_toArray, List.getElem_cons_succ, List.getElem_cons_zero, List.setIfInBounds_toArray, List.set_cons_zero, List.set_cons_succ]
      refine wpAnyH_take (i := 24) (v := ?_) rfl (by kernel_rfl) (by kernel_rfl) (by kernel_rfl) (fun _ _ _ h => h) (Or.inl ⟨by rfl, ?_⟩) hHeld ?_
      rotate_left
      · intro w' hSw; try dsimp only at hSw
        go_simp; try (with_reducible rfl)
      try simp only [Act.put, List.getElem_toArray, List.getElem_cons_succ, List.getElem_cons_zero, List.setIfInBounds_toArray, List.set_cons_zero, List.set_cons_succ]
      refine wpAnyH_ready (rs := [23]) (by kernel_rfl) (by simp) ?_
      refine AllReadyH.cons rfl (fun K hK => ?_) AllReadyH.nil
      go_simp
      refine (size_any hHeld.1).mono ?_
      rintro e w' ⟨rfl, hw'⟩
      have hw2 := hw'.symm
      subst hw2
      clear hw'
      refine hK.out _ _ hHeld (fun hHeld => ?_)
      clear hK K
      try simp only [Act.put, List.getElem_toArray, List.getElem_cons_succ, List.getElem_cons_zero, List.setIfInBounds_toArray, List.set_cons_zero, List.set_cons_succ]
      refine wpAnyH_ready (rs := [25]) (by kernel_rfl) (by simp) ?_
      refine AllReadyH.cons rfl (fun K hK => ?_) AllReadyH.nil
      have hrs := rsize_any hHeld.2
      rw [TS.rel.len] at hrs
      go_simp
      refine (hrs).mono ?_
      rintro e w' ⟨rfl, hw'⟩
      have hw2 := hw'.symm
      subst hw2
      clear hw'
      refine hK.out _ _ hHeld (fun hHeld => ?_)
      clear hK K
      try simp only [Act.put, List.getElem_toArray, List.getElem_cons_succ, List.getElem_cons_zero, List.setIfInBounds_toArray, List.set_cons_zero, List.set_cons_succ]
      refine wpAnyH_take (i := 26) (v := ?_) rfl (by kernel_rfl) (by kernel_rfl) (by kernel_rfl) (fun _ _ _ h => h) (Or.inl ⟨by rfl, ?_⟩) hHeld ?_
      rotate_left
      · intro w' hSw; try dsimp only at hSw
        go_simp; try (with_reducible rfl)
      try simp only [Act.put, List.getElem_toArray, List.getElem_cons_succ, List.getElem_cons_zero, List.setIfInBounds_toArray, List.set_cons_zero, List.set_cons_succ]
      refine wpAnyH_take (i := 27) (v := ?_) rfl (by kernel_rfl) (by kernel_rfl) (by kernel_rfl) (fun _ _ _ h => h) (Or.inl ⟨by rfl, ?_⟩) hHeld ?_
      rotate_left
      · intro w' hSw; try dsimp only at hSw
        go_simp; try (with_reducible rfl)
      try simp only [Act.put, List.getElem_toArray, List.getElem_cons_succ, List.getElem_cons_zero, List.setIfInBounds_toArray, List.set_cons_zero, List.set_cons_succ]
      refine wpAnyH_done (by kernel_rfl) ?_ _
      refine NoPanic.normal ?_
      go_wp2
      go_roundw
      case rel => exact ⟨k + 1, d2, sb2, lv2, V2, s2, t2, by omega, rfl, by simp, TSd, by omega, hB.trans ((below_low hbA TT.le).trans hbS.drew)⟩
      case measure => simp [intOf]; omega
    · obtain rfl : k = K := by omega
      have him := image_any TT.D
      unfold ramI at him
      obtain ⟨ie, iD⟩ := TT.rel.images
      have hw1 : s.writes < 1024 := by omega
      have hil : Hid ((imgD s).length ≤ 8192) := by show _ ≤ _; rw [imgD, List.length_map, rdL, List.length_map, List.length_range]; exact TT.D.n2
      have hri := fun (W : World) (hW : Below wr.heap.size wr W) => rimage_any (TT.R.below hW)
      rw [ie, iD] at hri
      clear ie iD
      by_cases h0 : imgE s = 0
      · have him0 : Calls Try.prog 15 #[.iface 24 (.pointer (some ⟨d, 0, none⟩))] wr (fun e w' => Below wr.heap.size wr w' ∧ ∃ (v : Value) (rs : List SR), e = .returned (.tuple #[v, .int .i64 0]) ∧ w'.ownsRow wr.heap.size 31 1 v rs.length (rs.map srV) ∧ EachIn w' rs (imgD s)) :=
          him.mono (fun e w' h => ⟨h.1, h.2.elim (fun k => by obtain ⟨_, v, rs, a, b, c, _⟩ := k; exact ⟨v, rs, a, b, c⟩) (fun k => absurd h0 k.1)⟩)
        have hri0 : ∀ W : World, Below wr.heap.size wr W → Calls Try.prog 16 #[.pointer (some ⟨r, 0, none⟩)] W (fun e w' => Below W.heap.size W w' ∧ ∃ (v : Value) (rs : List SR), e = .returned (.tuple #[v, .int .i64 0]) ∧ w'.ownsRow W.heap.size 31 1 v rs.length (rs.map srV) ∧ EachIn w' rs (imgD s)) :=
          fun W hW => (hri W hW).mono (fun e w' h => ⟨h.1, h.2.elim (fun k => by obtain ⟨_, v, rs, a, b, c, _⟩ := k; exact ⟨v, rs, a, b, c⟩) (fun k => absurd h0 k.1)⟩)
        clear him hri h0
        generalize imgD s = Di at *
        go_wp2_with (first
          | (go_at_call 15; refine him0.mono ?_; rintro e w5 ⟨hb5, v5, rs5, rfl, o5, i5⟩)
          | (go_at_call 16; refine (hri0 _ hb5).mono ?_; rintro e w6 ⟨hb6, v6, rs6, rfl, o6, i6⟩; obtain ⟨p5, c5, rfl, B5⟩ := rdB_of (owns_below o5 hb6) (i5.below hb6); obtain ⟨p6, c6, rfl, B6⟩ := rdB_of o6 i6; have hsm := sameImage_any B5 B6 (by have h1 := i5.len; have h2 := hil.out; omega); rw [beq_self_eq_true] at hsm)
          | (go_at_call 17; refine hsm.mono ?_; rintro e w7 ⟨rfl, hb7⟩; have hlg := callsIn_wide.1 (logs_in 6 (Nat.le_refl _) (TT.D.below (bt (bt hb5 hb6) hb7)) (TT.R.below (bt (bt hb5 hb6) hb7)) hw1 TT.rel.log))
          | (go_at_call 18; refine hlg.mono ?_; rintro e w8 ⟨rfl, hb8⟩))
        go_ret
        exact ⟨rfl, hB.trans (below_low (bt (bt (bt hb5 hb6) hb7) hb8) TT.le)⟩
      · have him0 : Calls Try.prog 15 #[.iface 24 (.pointer (some ⟨d, 0, none⟩))] wr (fun e w' => Below wr.heap.size wr w' ∧ e = .returned (.tuple #[.slice none 0 0, .int .i64 (imgE s)])) :=
          him.mono (fun e w' h => ⟨h.1, h.2.elim (fun k => absurd k.1 h0) (fun k => k.2)⟩)
        have hri0 : ∀ W : World, Below wr.heap.size wr W → Calls Try.prog 16 #[.pointer (some ⟨r, 0, none⟩)] W (fun e w' => Below W.heap.size W w' ∧ e = .returned (.tuple #[.slice none 0 0, .int .i64 (imgE s)])) :=
          fun W hW => (hri W hW).mono (fun e w' h => ⟨h.1, h.2.elim (fun k => absurd k.1 h0) (fun k => k.2)⟩)
        clear him hri h0
        generalize imgE s = Ei at *
        have hsm := fun W : World => sameImage_any (rdB_nil W 0) (rdB_nil W 0) (by omega)
        rw [beq_self_eq_true] at hsm
        go_wp2_with (first
          | (go_at_call 15; refine him0.mono ?_; rintro e w5 ⟨hb5, rfl⟩)
          | (go_at_call 16; refine (hri0 _ hb5).mono ?_; rintro e w6 ⟨hb6, rfl⟩)
          | (go_at_call 17; refine (hsm _).mono ?_; rintro e w7 ⟨rfl, hb7⟩; have hlg := callsIn_wide.1 (logs_in 6 (Nat.le_refl _) (TT.D.below (bt (bt hb5 hb6) hb7)) (TT.R.below (bt (bt hb5 hb6) hb7)) hw1 TT.rel.log))
          | (go_at_call 18; refine hlg.mono ?_; rintro e w8 ⟨rfl, hb8⟩))
        go_ret
        exact ⟨rfl, hB.trans (below_low (bt (bt (bt hb5 hb6) hb7) hb8) TT.le)⟩
end Go.Proofs.Ytbnnekpglnnneaa
