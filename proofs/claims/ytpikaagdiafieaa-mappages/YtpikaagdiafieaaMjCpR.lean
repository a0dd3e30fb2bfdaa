/-
  What the reference's Checkpoint answers.
-/
import Derived.Test.YtpikaagdiafieaaMjCp
import Derived.Test.YtpikaagdiafieaaMjRef2
namespace Go.Proofs.Ytpikaagdiafieaa
open Go.RowKit
def flatPs (f : Nat → PV) (s : MS) (gen : Int) (k : Nat) : List Value := (List.range k).flatMap fun i => PV.cells (f i) (partP s gen i)
theorem flatPs_len (f : Nat → PV) (s : MS) (gen : Int) (k : Nat) : (flatPs f s gen k).length = k * 7 := by
  induction k with
  | zero => rfl
  | succ k ih =>
    have e : flatPs f s gen (k + 1) = flatPs f s gen k ++ PV.cells (f k) (partP s gen k) := by simp [flatPs, List.range_succ]
    rw [e, List.length_append, ih]
    show k * 7 + 7 = _
    omega
theorem flatPs_same {f g : Nat → PV} (s : MS) (gen : Int) (k : Nat) (h : ∀ i, i < k → f i = g i) : flatPs f s gen k = flatPs g s gen k := by
  induction k with
  | zero => rfl
  | succ k ih =>
    have e : ∀ f : Nat → PV, flatPs f s gen (k + 1) = flatPs f s gen k ++ PV.cells (f k) (partP s gen k) := fun f => by simp [flatPs, List.range_succ]
    rw [e, e, ih (fun i hi => h i (by omega)), h k (by omega)]
theorem flatPs_succ {f : Nat → PV} {V : PV} {s : MS} {gen : Int} {k : Nat} : flatPs (fun i => if i = k then V else f i) s gen (k + 1) = flatPs f s gen k ++ PV.cells V (partP s gen k) := by
  have e : ∀ f : Nat → PV, flatPs f s gen (k + 1) = flatPs f s gen k ++ PV.cells (f k) (partP s gen k) := fun f => by simp [flatPs, List.range_succ]
  rw [e, flatPs_same s gen k (g := f) (fun i hi => by simp only [if_neg (show ¬ i = k by omega)])]
  simp
theorem flatPs_at {f : Nat → PV} {s : MS} {gen : Int} {k i j : Nat} {u : Value} (hi : i < k) (hu : (PV.cells (f i) (partP s gen i))[j]? = some u) : (flatPs f s gen k)[i * 7 + j]? = some u := by
  have hj := cells_lt hu
  induction k with
  | zero => omega
  | succ k ih =>
    have e : flatPs f s gen (k + 1) = flatPs f s gen k ++ PV.cells (f k) (partP s gen k) := by simp [flatPs, List.range_succ]
    rw [e]
    rcases Nat.lt_succ_iff_lt_or_eq.1 hi with h | h
    · rw [List.getElem?_append_left (by rw [flatPs_len]; omega)]
      exact ih h
    · subst h
      rw [List.getElem?_append_right (by rw [flatPs_len]; omega), flatPs_len, Nat.add_sub_cancel_left]
      exact hu
theorem in_of_ownsPs {w : World} {B : Nat} {v : Value} {k : Nat} {f : Nat → PV} {s : MS} {gen : Int} (h : w.ownsRow B 42 7 v k (flatPs f s gen k)) (hk : k ≤ 1000) (hp : ∀ i, i < k → InP w (f i) (partP s gen i)) : ∃ p c, v = .slice p k c ∧ InPs w p k c f (cpL s gen k) := by
  rcases h.2 with ⟨rfl, rfl⟩ | ⟨g, cap, cur, rfl, hg, hh, hnc, hcm, hsz, htk⟩
  · exact ⟨none, 0, rfl, InPs.empty w f⟩
  · refine ⟨some ⟨g, 0, none⟩, cap, rfl, cpL_length _ _ _, hnc, hcm, by omega, fun h0 => ⟨g, 0, rfl, ?_, fun i hi j u hu => ?_⟩, fun i hi => ?_, fun h => by simp at h⟩
    · rcases Nat.lt_or_ge g w.heap.size with h' | h'
      · exact h'
      · rw [Array.getElem?_eq_none h'] at hh; simp at hh
    · rw [eP_cpL hi] at hu
      have hj := cells_lt hu
      have := World.ownsRow.cellAt h (i * 7 + j) (by omega)
      rw [Nat.zero_add]
      exact this.trans (flatPs_at hi hu)
    · rw [eP_cpL hi]; exact hp i hi
theorem own_far {w : World} {B B' e e' s s' n k c : Nat} {p : Option Addr} {v : Value} {xs ys : List Value} (he : e ≠ e') (h : w.ownsRow B e s (.slice p n c) n xs) (h' : w.ownsRow B' e' s' v k ys) : (Value.slice p n c).ownBlock = none ∨ (Value.slice p n c).ownBlock ≠ v.ownBlock := by
  cases p with
  | none => exact .inl rfl
  | some a =>
    refine .inr ?_
    rcases h'.2 with ⟨rfl, rfl⟩ | ⟨g, cap, cur, rfl, _⟩
    · intro e; cases e
    · intro e
      exact owns_ne he h h' a _ rfl rfl (Option.some.inj e)
/-- One page behind a row of the call's own, in a drawn region. -/
theorem wp_append_page {o : Oper} {a : Act} {K : Act → World → Prop} {Q : Exit → Act → World → Prop} (x y : Operand)
    (ho : o.op = .call { callee := .builtin .append, args := #[x, y], argTypes := #[43, 43] }) (B : Nat) (v : Value) (k : Nat) (xs : List Value) (V : PV) (P : MP) (W : World) (hs : a.eval x = v) (hown : W.ownsRow B 42 7 v k xs)
    (hx : a.eval y = .slice (some ⟨W.heap.size, 0, none⟩) 1 1) (hk : k ≤ 1000) (hB : B ≤ W.heap.size)
    (hK : ∀ v' w', (w'.ownsRow B 42 7 v' (k + 1) (xs ++ PV.cells V P) ∧ ∀ U R, OwnP B W U R → OwnP B w' U R) → Below B W w' → K (a.put o.dst v') w') :
    o.wp Try.prog a (W.alloc (.cells #[.int .i64 P.kind, .int .i64 P.gen, .int .i64 P.part, .int .i64 P.seq, .slice V.pb V.nb V.cb, .slice V.pw V.nw V.cw, .slice V.pr V.nr V.cr] 42)) K Q := by
  obtain ⟨i0, hi, hz0, hz1, hz2⟩ := info_parts infoP
  have hal := below_alloc W (.cells #[.int .i64 P.kind, .int .i64 P.gen, .int .i64 P.part, .int .i64 P.seq, .slice V.pb V.nb V.cb, .slice V.pw V.nw V.cw, .slice V.pr V.nr V.cr] 42)
  have hown' := owns_below hown hal
  refine wp_append_own _ x y 43 ho B 42 i0 (.agg #[.int .i64 0, .int .i64 0, .int .i64 0, .int .i64 0, .slice none 0 0, .slice none 0 0, .slice none 0 0]) 7 104 Try.underlying43 hi hz0 hz1 hz2 rfl (by decide) v k xs hs hown' ⟨W.heap.size, 0, none⟩ 1 1 (PV.cells V P) hx rfl (fun j u hj => ?_) (mpOne V P) (by unfold maxLen; omega) (by omega) (by rw [World.size_alloc]; omega) ?_
  · rw [addr_add, Nat.zero_add]; exact (Blk.new' W 42 #[.int .i64 P.kind, .int .i64 P.gen, .int .i64 P.part, .int .i64 P.seq, .slice V.pb V.nb V.cb, .slice V.pw V.nw V.cw, .slice V.pr V.nr V.cr]).cell' hj
  · intro v1 w1 hown1 hgrow1 _
    refine hK v1 w1 ⟨hown1, fun U R hU => ?_⟩ ((hal.mono hB).grown hgrow1 (by rw [World.size_alloc]; omega) (fun j hj => (hown'.lt j hj).1))
    have h1 := hU.next hal
    exact ⟨h1.b.kept hgrow1 (own_far (by decide) h1.b hown'), h1.v.kept hgrow1 (own_far (by decide) h1.v hown'), h1.r.kept hgrow1 (own_far (by decide) h1.r hown'), h1.hb, h1.hv, h1.hr⟩
set_option linter.unusedSimpArgs false in
set_option maxRecDepth 100000 in
set_option maxHeartbeats 8000000 in
theorem rcheckpoint_any (U : SV) (s : MS) (gen : Int) (w : World) (hs : InS w U s) : Calls Try.prog 26 #[U.val s, .int .i64 gen] w (ResPs w (cpR s gen)) := by
  have hb0 := below_alloc w (.cells #[.slice U.p U.n U.c, .slice U.q U.m U.d, .int .i64 s.seq] 25)
  have bs : Blk _ _ _ (SV.cells U s) := Blk.new' w 25 #[.slice U.p U.n U.c, .slice U.q U.m U.d, .int .i64 s.seq]
  have hck := rcheck_any U s _ (hs.below hb0)
  obtain ⟨x0, x1, x2⟩ := bs.cells3
  cases hok : okMS s with
  | false =>
    rw [chkE_no hok] at hck
    have E : Hid (cpR s gen = ([], 60)) := by show _ = _; unfold cpR; rw [hok]; rfl
    go_enter Try.func26, Try.ntmps26
    go_wp2_with (go_at_call 16; refine hck.mono ?_; rintro e w1 ⟨rfl, hb1⟩)
    go_ret2
    rw [E.out]
    exact ⟨_, _, fun _ => PV.zero, rfl, InPs.empty _ _, bt hb0 hb1⟩
  | true =>
    rw [chkE_ok hok] at hck
    by_cases hg : 0 ≤ gen ∧ gen ≤ 1152921504606846976
    · have HL : Hid (s.bad.length = U.n) := hs.b.len
      have HW : Hid (s.wear.length = U.m) := hs.v.len
      obtain ⟨⟨ka1, ka2⟩, ka3, -⟩ := okMS_iff.1 hok
      have E : Hid (cpR s gen = (cpL s gen ((s.bad.length + 63) / 64), 0)) := by show _ = _; unfold cpR; rw [hok, if_pos (show okGen gen from hg)]; rfl
      rw [HL.out, HW.out] at ka3
      rw [HL.out] at ka1 ka2 E
      obtain ⟨p, n0, c, q, n, d⟩ := U
      dsimp only at ka1 ka2 ka3
      subst ka3
      dsimp only [SV.val] at *
      obtain ⟨gb, ob, hp, gbl, -⟩ := hs.b.at' (by dsimp only; omega)
      obtain ⟨gw, ow, hq, gwl, -⟩ := hs.v.at' (by dsimp only; omega)
      dsimp only at hp hq
      subst hp
      subst hq
      obtain ⟨m, HM⟩ : ∃ m : Nat, Hid (m = (n + 63) / 64) := ⟨_, (rfl : (n + 63) / 64 = (n + 63) / 64)⟩
      have hparts := fun W => rparts_any (n : Int) W
      rw [show partsI (n : Int) = (m : Int) by unfold partsI; rw [if_pos (by omega), HM.out]; omega] at hparts
      have hm1 : 1 ≤ m := by rw [HM.out]; omega
      have hm4 : m ≤ 4 := by rw [HM.out]; omega
      have hmn : n ≤ m * 64 := by rw [HM.out]; omega
      have hmn2 : (m - 1) * 64 < n := by rw [HM.out]; omega
      rw [← HM.out] at E
      have hcb := hs.b.cap
      have hcw := hs.v.cap
      dsimp only at hcb hcw
      clear hok HM
      go_enter Try.func26, Try.ntmps26
      have hg0 : ¬ gen < 0 := by omega
      have hg1 : ¬ gen > 1152921504606846976 := by omega
      go_wp2_with (go_at_call 16; refine hck.mono ?_; rintro e w1 ⟨rfl, hb1⟩; have hB1 := bt hb0 hb1; have bs1 := bs.kept hb1; obtain ⟨x0, x1, x2⟩ := bs1.cells3; clear hck)
      have hlow : w.heap.size < w1.heap.size := bs1.lt
      go_loopw [7, 8] (fun lv i wr => ∃ k : Nat, k ≤ m ∧ i = .int .i64 k ∧ ∃ (v : Value) (f : Nat → PV), lv = v ∧ wr.ownsRow w1.heap.size 42 7 v k (flatPs f s gen k) ∧ (∀ i, i < k → OwnP w1.heap.size wr (f i) (partP s gen i)) ∧ Below w1.heap.size w1 wr) (fun _ i _ => m - (intOf i).toNat)
      case atStart => exact ⟨0, Nat.zero_le _, rfl, _, fun _ => PV.zero, rfl, ⟨rfl, .inl ⟨rfl, rfl⟩⟩, fun i h => by omega, Below.refl _ _⟩
      case round =>
        obtain ⟨k, hk, rfl, v, f, hv, hrow, hpg, hbel⟩ := hrel
        have hv2 := hv.symm
        clear hv
        subst hv2
        have HROW : Hid (wr.ownsRow w1.heap.size 42 7 v k (flatPs f s gen k)) := hrow
        clear hrow
        have hw := bs1.below hbel hlow
        have hBr : Below w.heap.size w wr := hB1.trans (hbel.mono (by omega))
        have hszr : w1.heap.size ≤ wr.heap.size := hbel.size
        obtain ⟨x0, x1, x2⟩ := hw.cells3
        by_cases hlt : k < m
        · have hki : (k : Int) < (m : Int) := by omega
          obtain ⟨F, HFF⟩ : ∃ F : Nat, Hid (F = k * 64) := ⟨k * 64, (rfl : k * 64 = k * 64)⟩
          have hF : (k : Int) * 64 = (F : Int) := by rw [HFF.out]; omega
          have hFb : F ≤ 192 := by rw [HFF.out]; omega
          have hFn : F < n := by
            have : k * 64 ≤ (m - 1) * 64 := Nat.mul_le_mul_right _ (by omega)
            rw [HFF.out]; omega
          by_cases hmin : (n : Int) < (F : Int) + 64
          · have hsB := slice_lhB gb ob n c F n hFn (Nat.le_refl _) hcb
            have hsL := slice_lhL gw ow n d F n hFn (Nat.le_refl _) hcw
            have hsubB : ∀ X, Below w.heap.size w X → InB X (some ⟨gb, ob + F, none⟩) (n - F) (c - F) ((s.bad.drop F).take (n - F)) := fun X hX => (hs.b.below hX).sub F n hFn (Nat.le_refl _)
            have hsubW : ∀ X, Below w.heap.size w X → InI X (some ⟨gw, ow + F, none⟩) (n - F) (d - F) ((s.wear.drop F).take (n - F)) := fun X hX => (hs.v.below hX).sub F n hFn (Nat.le_refl _)
            have hEB : (s.bad.drop F).take (n - F) = (s.bad.drop (k * 64)).take 64 := by rw [HFF.out, List.take_of_length_le (by rw [List.length_drop, HL.out]; have := HFF.out; omega), List.take_of_length_le (by rw [List.length_drop, HL.out]; have := HFF.out; omega)]
            have hEW : (s.wear.drop F).take (n - F) = (s.wear.drop (k * 64)).take 64 := by rw [HFF.out, List.take_of_length_le (by rw [List.length_drop, HW.out]; have := HFF.out; omega), List.take_of_length_le (by rw [List.length_drop, HW.out]; have := HFF.out; omega)]
            go_upto_region 12 with (go_at_call 32; refine (hparts _).mono ?_; rintro e w' ⟨rfl, hw'⟩; have hw2 := hw'.symm; subst hw2; clear hw')
            have hw4 := hw
            have hB4 := hBr
            have hsz4 := hszr
            have hrow4 := HROW.out
            have hpg4 := hpg
            have hbel4 := hbel
            generalize wr = w4 at *
            refine wp_region_noPanic ?_
            refine wp_region_held_drew (S := fun X => Blk X w.heap.size 25 (SV.cells ⟨some ⟨gb, ob, none⟩, n, c, some ⟨gw, ow, none⟩, n, d⟩ s)) (by kernel_rfl) hw4.drew (fun hHeld => ?_)
            refine wpAnyH_take (i := 0) (v := ?_) rfl (by kernel_rfl) (by kernel_rfl) (by kernel_rfl) (fun _ _ _ h => h) (Or.inl ⟨by rfl, ?_⟩) hHeld ?_
            rotate_left
            · intro w' hSw; try dsimp only at hSw
              go_simp; try (with_reducible rfl)
            try simp only [Act.put, List.getElem_toArray, List.getElem_cons_succ, List.getElem_cons_zero, List.setIfInBounds_toArray, List.set_cons_zero, List.set_cons_succ]
            refine wpAnyH_take (i := 1) (v := ?_) rfl (by kernel_rfl) (by kernel_rfl) (by kernel_rfl) (fun _ _ _ h => h) (Or.inl ⟨by rfl, ?_⟩) hHeld ?_
            rotate_left
            · intro w' hSw; try dsimp only at hSw
              go_simp; try (with_reducible rfl)
            try simp only [Act.put, List.getElem_toArray, List.getElem_cons_succ, List.getElem_cons_zero, List.setIfInBounds_toArray, List.set_cons_zero, List.set_cons_succ]
            refine wpAnyH_take (i := 2) (v := ?_) rfl (by kernel_rfl) (by kernel_rfl) (by kernel_rfl) (fun _ _ _ h => h) (Or.inl ⟨by rfl, ?_⟩) hHeld ?_
            rotate_left
            · intro w' hSw; try dsimp only at hSw
              go_simp; try (with_reducible rfl)
            try simp only [Act.put, List.getElem_toArray, List.getElem_cons_succ, List.getElem_cons_zero, List.setIfInBounds_toArray, List.set_cons_zero, List.set_cons_succ]
            refine wpAnyH_take (i := 3) (v := ?_) rfl (by kernel_rfl) (by kernel_rfl) (by kernel_rfl) (fun _ _ _ h => h) (Or.inl ⟨by rfl, ?_⟩) hHeld ?_
            rotate_left
            · intro w' hSw; try dsimp only at hSw
              go_simp; try (with_reducible rfl)
            try simp only [Act.put, List.getElem_toArray, List.getElem_cons_succ, List.getElem_cons_zero, List.setIfInBounds_toArray, List.set_cons_zero, List.set_cons_succ]
            refine wpAnyH_take (i := 4) (v := ?_) rfl (by kernel_rfl) (by kernel_rfl) (by kernel_rfl) (fun _ _ _ h => h) (Or.inl ⟨by rfl, ?_⟩) hHeld ?_
            rotate_left
            · intro w' hSw; try dsimp only at hSw
              obtain ⟨u0, u1, u2⟩ := hSw.cells3
              go_simp; try (with_reducible rfl)
            try simp only [Act.put, List.getElem_toArray, List.getElem_cons_succ, List.getElem_cons_zero, List.setIfInBounds_toArray, List.set_cons_zero, List.set_cons_succ]
            refine wpAnyH_take (i := 5) (v := ?_) rfl (by kernel_rfl) (by kernel_rfl) (by kernel_rfl) (fun _ _ _ h => h) (Or.inl ⟨by rfl, ?_⟩) hHeld ?_
            rotate_left
            · intro w' hSw; try dsimp only at hSw
              go_simp; try (with_reducible rfl)
            try simp only [Act.put, List.getElem_toArray, List.getElem_cons_succ, List.getElem_cons_zero, List.setIfInBounds_toArray, List.set_cons_zero, List.set_cons_succ]
            refine wpAnyH_take (i := 6) (v := ?_) rfl (by kernel_rfl) (by kernel_rfl) (by kernel_rfl) (fun _ _ _ h => h) (Or.inl ⟨by rfl, ?_⟩) hHeld ?_
            rotate_left
            · intro w' hSw; try dsimp only at hSw
              obtain ⟨u0, u1, u2⟩ := hSw.cells3
              go_simp; try (with_reducible rfl)
            try simp only [Act.put, List.getElem_toArray, List.getElem_cons_succ, List.getElem_cons_zero, List.setIfInBounds_toArray, List.set_cons_zero, List.set_cons_succ]
            refine wpAnyH_take (i := 7) (v := ?_) rfl (by kernel_rfl) (by kernel_rfl) (by kernel_rfl) (fun _ _ _ h => h) (Or.inl ⟨by rfl, ?_⟩) hHeld ?_
            rotate_left
            · intro w' hSw; try dsimp only at hSw
              go_simp; try (with_reducible rfl)
            try simp only [Act.put, List.getElem_toArray, List.getElem_cons_succ, List.getElem_cons_zero, List.setIfInBounds_toArray, List.set_cons_zero, List.set_cons_succ]
            refine wpAnyH_take (i := 8) (v := ?_) rfl (by kernel_rfl) (by kernel_rfl) (by kernel_rfl) (fun _ _ _ h => h) (Or.inl ⟨by rfl, ?_⟩) hHeld ?_
            rotate_left
            · intro w' hSw; try dsimp only at hSw
              go_simp; try (with_reducible rfl)
            try simp only [Act.put, List.getElem_toArray, List.getElem_cons_succ, List.getElem_cons_zero, List.setIfInBounds_toArray, List.set_cons_zero, List.set_cons_succ]
            refine wpAnyH_take (i := 9) (v := ?_) rfl (by kernel_rfl) (by kernel_rfl) (by kernel_rfl) (fun _ _ _ h => h) (Or.inl ⟨by rfl, ?_⟩) hHeld ?_
            rotate_left
            · intro w' hSw; try dsimp only at hSw
              go_simp; try (with_reducible rfl)
            try simp only [Act.put, List.getElem_toArray, List.getElem_cons_succ, List.getElem_cons_zero, List.setIfInBounds_toArray, List.set_cons_zero, List.set_cons_succ]
            refine wpAnyH_take (i := 11) (v := ?_) rfl (by kernel_rfl) (by kernel_rfl) (by kernel_rfl) (fun _ _ _ h => h) (Or.inl ⟨by rfl, ?_⟩) hHeld ?_
            rotate_left
            · intro w' hSw; try dsimp only at hSw
              go_simp; try (with_reducible rfl)
            try simp only [Act.put, List.getElem_toArray, List.getElem_cons_succ, List.getElem_cons_zero, List.setIfInBounds_toArray, List.set_cons_zero, List.set_cons_succ]
            refine wpAnyH_take (i := 12) (v := ?_) rfl (by kernel_rfl) (by kernel_rfl) (by kernel_rfl) (fun _ _ _ h => h) (Or.inl ⟨by rfl, ?_⟩) hHeld ?_
            rotate_left
            · intro w' hSw; try dsimp only at hSw
              obtain ⟨u0, u1, u2⟩ := hSw.cells3
              go_simp; try (with_reducible rfl)
            try simp only [Act.put, List.getElem_toArray, List.getElem_cons_succ, List.getElem_cons_zero, List.setIfInBounds_toArray, List.set_cons_zero, List.set_cons_succ]
            refine wpAnyH_take (i := 13) (v := ?_) rfl (by kernel_rfl) (by kernel_rfl) (by kernel_rfl) (fun _ _ _ h => h) (Or.inl ⟨by rfl, ?_⟩) hHeld ?_
            rotate_left
            · intro w' hSw; try dsimp only at hSw
              go_simp; try (with_reducible rfl)
            try simp only [Act.put, List.getElem_toArray, List.getElem_cons_succ, List.getElem_cons_zero, List.setIfInBounds_toArray, List.set_cons_zero, List.set_cons_succ]
            refine wpAnyH_take (i := 14) (v := ?_) rfl (by kernel_rfl) (by kernel_rfl) (by kernel_rfl) (fun _ _ _ h => h) (Or.inl ⟨by rfl, ?_⟩) hHeld ?_
            rotate_left
            · intro w' hSw; try dsimp only at hSw
              go_simp; try (with_reducible rfl)
            try simp only [Act.put, List.getElem_toArray, List.getElem_cons_succ, List.getElem_cons_zero, List.setIfInBounds_toArray, List.set_cons_zero, List.set_cons_succ]
            refine wpAnyH_take (i := 15) (v := ?_) rfl (by kernel_rfl) (by kernel_rfl) (by kernel_rfl) (fun _ _ _ h => h) (Or.inl ⟨by rfl, ?_⟩) hHeld ?_
            rotate_left
            · intro w' hSw; try dsimp only at hSw
              go_simp; try (with_reducible rfl)
            try simp only [Act.put, List.getElem_toArray, List.getElem_cons_succ, List.getElem_cons_zero, List.setIfInBounds_toArray, List.set_cons_zero, List.set_cons_succ]
            refine wpAnyH_ready (rs := [10]) (by kernel_rfl) (by simp) ?_
            refine AllReadyH.cons rfl (fun K hK => ?_) AllReadyH.nil
            rw [if_pos (by rfl)]
            refine wp_append_nilB _ _ 22 4 Try.underlying22 info4 rfl rfl _ _ _ ((s.bad.drop F).take (n - F)) rfl (hsubB _ hB4.drew) (by omega) ?_
            intro p5 c5 w5 ho5 hb5
            refine hK.out _ _ (hHeld.kept hb5) (fun hHeld => ?_)
            clear hK K
            try simp only [Act.put, List.getElem_toArray, List.getElem_cons_succ, List.getElem_cons_zero, List.setIfInBounds_toArray, List.set_cons_zero, List.set_cons_succ]
            refine wpAnyH_ready (rs := [16]) (by kernel_rfl) (by simp) ?_
            refine AllReadyH.cons rfl (fun K hK => ?_) AllReadyH.nil
            rw [if_pos (by rfl)]
            refine wp_append_nil _ _ 23 2 Try.underlying23 info2 rfl rfl _ _ _ ((s.wear.drop F).take (n - F)) rfl (hsubW _ (bt hB4.drew hb5)) (by omega) ?_
            intro q6 d6 w6 ho6 hb6
            refine hK.out _ _ (hHeld.kept hb6) (fun hHeld => ?_)
            clear hK K
            try simp only [Act.put, List.getElem_toArray, List.getElem_cons_succ, List.getElem_cons_zero, List.setIfInBounds_toArray, List.set_cons_zero, List.set_cons_succ]
            refine wpAnyH_take (i := 17) (v := ?_) rfl (by kernel_rfl) (by kernel_rfl) (by kernel_rfl) (fun _ _ _ h => h) (Or.inl ⟨by rfl, ?_⟩) hHeld ?_
            rotate_left
            · intro w' hSw; try dsimp only at hSw
              go_simp; try (with_reducible rfl)
            try simp only [Act.put, List.getElem_toArray, List.getElem_cons_succ, List.getElem_cons_zero, List.setIfInBounds_toArray, List.set_cons_zero, List.set_cons_succ]
            have hbs6 := hHeld
            refine wpAnyH_ready (rs := [18]) (by kernel_rfl) (by simp) ?_
            refine AllReadyH.cons rfl (fun K hK => ?_) AllReadyH.nil
            go_simp
            refine hK.out _ _ (hHeld.kept (below_alloc _ _)) (fun hHeld => ?_)
            clear hK K
            try simp only [Act.put, List.getElem_toArray, List.getElem_cons_succ, List.getElem_cons_zero, List.setIfInBounds_toArray, List.set_cons_zero, List.set_cons_succ]
            have hown : OwnP w1.heap.size w6 ⟨p5, n - F, c5, q6, n - F, d6, none, 0, 0⟩ (partP s gen k) := ⟨by have := owns_mono (owns_below ho5 hb6) hsz4; rw [hEB] at this; exact this, by have := owns_mono ho6 (Nat.le_trans hsz4 hb5.size); rw [hEW] at this; exact this, ⟨rfl, .inl ⟨rfl, rfl⟩⟩, by show n - F ≤ _; omega, by show n - F ≤ _; omega, Nat.zero_le _⟩
            have hb46 : Below w4.heap.size w4 w6 := bt (bt (Below.refl _ _).drew hb5) hb6
            have hrow6 := owns_below hrow4 hb46
            refine wpAnyH_ready (rs := [19]) (by kernel_rfl) (by simp) ?_
            refine AllReadyH.cons rfl (fun K hK => ?_) AllReadyH.nil
            rw [if_pos (by rfl)]
            refine wp_append_page (.tmp 38) (.tmp 56) rfl w1.heap.size _ k (flatPs f s gen k) ⟨p5, n - F, c5, q6, n - F, d6, none, 0, 0⟩ (partP s gen k) w6 rfl hrow6 rfl (by omega) (by have := hb46.size; omega) ?_
            intro v9 w9 ho9 hb9
            refine hK.out _ _ (hbs6.below hb9 hlow) (fun hHeld => ?_)
            clear hK K
            try simp only [Act.put, List.getElem_toArray, List.getElem_cons_succ, List.getElem_cons_zero, List.setIfInBounds_toArray, List.set_cons_zero, List.set_cons_succ]
            refine wpAnyH_take (i := 20) (v := ?_) rfl (by kernel_rfl) (by kernel_rfl) (by kernel_rfl) (fun _ _ _ h => h) (Or.inl ⟨by rfl, ?_⟩) hHeld ?_
            rotate_left
            · intro w' hSw; try dsimp only at hSw
              go_simp; try (with_reducible rfl)
            try simp only [Act.put, List.getElem_toArray, List.getElem_cons_succ, List.getElem_cons_zero, List.setIfInBounds_toArray, List.set_cons_zero, List.set_cons_succ]
            refine wpAnyH_done (by kernel_rfl) ?_ _
            refine NoPanic.normal ?_
            have hold : ∀ i, i < k → OwnP w1.heap.size w6 (f i) (partP s gen i) := fun i hi => (hpg4 i hi).next hb46
            go_wp2_with fail
            go_roundw
            case rel =>
              refine ⟨k + 1, by omega, by go_num, v9, fun i => if i = k then ⟨p5, n - F, c5, q6, n - F, d6, none, 0, 0⟩ else f i, rfl, ?_, fun i hi => ?_, ?_⟩
              · rw [flatPs_succ (f := f) (V := ⟨p5, n - F, c5, q6, n - F, d6, none, 0, 0⟩)]; exact ho9.1
              · by_cases hik : i = k
                · subst hik
                  simp only [if_true]; exact ho9.2 _ _ hown
                · simp only [if_neg hik]; exact ho9.2 _ _ (hold i (by omega))
              · exact ((hbel4.drew.trans (hb5.mono hsz4)).trans (hb6.mono (Nat.le_trans hsz4 hb5.size))).trans hb9
            case measure => simp [intOf]; omega
          · obtain ⟨e, HEE⟩ : ∃ e : Nat, Hid (e = F + 64) := ⟨F + 64, (rfl : F + 64 = F + 64)⟩
            have hE1 : (F : Int) + 64 = (e : Int) := by rw [HEE.out]; omega
            have hE2 : F < e := by rw [HEE.out]; omega
            have hE3 : e ≤ n := by rw [HEE.out]; omega
            rw [hE1] at hmin
            have hsB := slice_lhB gb ob n c F e hE2 hE3 hcb
            have hsL := slice_lhL gw ow n d F e hE2 hE3 hcw
            have hsubB : ∀ X, Below w.heap.size w X → InB X (some ⟨gb, ob + F, none⟩) (e - F) (c - F) ((s.bad.drop F).take (e - F)) := fun X hX => (hs.b.below hX).sub F e hE2 hE3
            have hsubW : ∀ X, Below w.heap.size w X → InI X (some ⟨gw, ow + F, none⟩) (e - F) (d - F) ((s.wear.drop F).take (e - F)) := fun X hX => (hs.v.below hX).sub F e hE2 hE3
            have hEB : (s.bad.drop F).take (e - F) = (s.bad.drop (k * 64)).take 64 := by rw [HEE.out, HFF.out, Nat.add_sub_cancel_left]
            have hEW : (s.wear.drop F).take (e - F) = (s.wear.drop (k * 64)).take 64 := by rw [HEE.out, HFF.out, Nat.add_sub_cancel_left]
            go_upto_region 12 with (go_at_call 32; refine (hparts _).mono ?_; rintro e w' ⟨rfl, hw'⟩; have hw2 := hw'.symm; subst hw2; clear hw')
            have hw4 := hw
            have hB4 := hBr
            have hsz4 := hszr
            have hrow4 := HROW.out
            have hpg4 := hpg
            have hbel4 := hbel
            generalize wr = w4 at *
            refine wp_region_noPanic ?_
            refine wp_region_held_drew (S := fun X => Blk X w.heap.size 25 (SV.cells ⟨some ⟨gb, ob, none⟩, n, c, some ⟨gw, ow, none⟩, n, d⟩ s)) (by kernel_rfl) hw4.drew (fun hHeld => ?_)
            refine wpAnyH_take (i := 0) (v := ?_) rfl (by kernel_rfl) (by kernel_rfl) (by kernel_rfl) (fun _ _ _ h => h) (Or.inl ⟨by rfl, ?_⟩) hHeld ?_
            rotate_left
            · intro w' hSw; try dsimp only at hSw
              go_simp; try (with_reducible rfl)
            try simp only [Act.put, List.getElem_toArray, List.getElem_cons_succ, List.getElem_cons_zero, List.setIfInBounds_toArray, List.set_cons_zero, List.set_cons_succ]
            refine wpAnyH_take (i := 1) (v := ?_) rfl (by kernel_rfl) (by kernel_rfl) (by kernel_rfl) (fun _ _ _ h => h) (Or.inl ⟨by rfl, ?_⟩) hHeld ?_
            rotate_left
            · intro w' hSw; try dsimp only at hSw
              go_simp; try (with_reducible rfl)
            try simp only [Act.put, List.getElem_toArray, List.getElem_cons_succ, List.getElem_cons_zero, List.setIfInBounds_toArray, List.set_cons_zero, List.set_cons_succ]
            refine wpAnyH_take (i := 2) (v := ?_) rfl (by kernel_rfl) (by kernel_rfl) (by kernel_rfl) (fun _ _ _ h => h) (Or.inl ⟨by rfl, ?_⟩) hHeld ?_
            rotate_left
            · intro w' hSw; try dsimp only at hSw
              go_simp; try (with_reducible rfl)
            try simp only [Act.put, List.getElem_toArray, List.getElem_cons_succ, List.getElem_cons_zero, List.setIfInBounds_toArray, List.set_cons_zero, List.set_cons_succ]
            refine wpAnyH_take (i := 3) (v := ?_) rfl (by kernel_rfl) (by kernel_rfl) (by kernel_rfl) (fun _ _ _ h => h) (Or.inl ⟨by rfl, ?_⟩) hHeld ?_
            rotate_left
            · intro w' hSw; try dsimp only at hSw
              go_simp; try (with_reducible rfl)
            try simp only [Act.put, List.getElem_toArray, List.getElem_cons_succ, List.getElem_cons_zero, List.setIfInBounds_toArray, List.set_cons_zero, List.set_cons_succ]
            refine wpAnyH_take (i := 4) (v := ?_) rfl (by kernel_rfl) (by kernel_rfl) (by kernel_rfl) (fun _ _ _ h => h) (Or.inl ⟨by rfl, ?_⟩) hHeld ?_
            rotate_left
            · intro w' hSw; try dsimp only at hSw
              obtain ⟨u0, u1, u2⟩ := hSw.cells3
              go_simp; try (with_reducible rfl)
            try simp only [Act.put, List.getElem_toArray, List.getElem_cons_succ, List.getElem_cons_zero, List.setIfInBounds_toArray, List.set_cons_zero, List.set_cons_succ]
            refine wpAnyH_take (i := 5) (v := ?_) rfl (by kernel_rfl) (by kernel_rfl) (by kernel_rfl) (fun _ _ _ h => h) (Or.inl ⟨by rfl, ?_⟩) hHeld ?_
            rotate_left
            · intro w' hSw; try dsimp only at hSw
              go_simp; try (with_reducible rfl)
            try simp only [Act.put, List.getElem_toArray, List.getElem_cons_succ, List.getElem_cons_zero, List.setIfInBounds_toArray, List.set_cons_zero, List.set_cons_succ]
            refine wpAnyH_take (i := 6) (v := ?_) rfl (by kernel_rfl) (by kernel_rfl) (by kernel_rfl) (fun _ _ _ h => h) (Or.inl ⟨by rfl, ?_⟩) hHeld ?_
            rotate_left
            · intro w' hSw; try dsimp only at hSw
              obtain ⟨u0, u1, u2⟩ := hSw.cells3
              go_simp; try (with_reducible rfl)
            try simp only [Act.put, List.getElem_toArray, List.getElem_cons_succ, List.getElem_cons_zero, List.setIfInBounds_toArray, List.set_cons_zero, List.set_cons_succ]
            refine wpAnyH_take (i := 7) (v := ?_) rfl (by kernel_rfl) (by kernel_rfl) (by kernel_rfl) (fun _ _ _ h => h) (Or.inl ⟨by rfl, ?_⟩) hHeld ?_
            rotate_left
            · intro w' hSw; try dsimp only at hSw
              go_simp; try (with_reducible rfl)
            try simp only [Act.put, List.getElem_toArray, List.getElem_cons_succ, List.getElem_cons_zero, List.setIfInBounds_toArray, List.set_cons_zero, List.set_cons_succ]
            refine wpAnyH_take (i := 8) (v := ?_) rfl (by kernel_rfl) (by kernel_rfl) (by kernel_rfl) (fun _ _ _ h => h) (Or.inl ⟨by rfl, ?_⟩) hHeld ?_
            rotate_left
            · intro w' hSw; try dsimp only at hSw
              go_simp; try (with_reducible rfl)
            try simp only [Act.put, List.getElem_toArray, List.getElem_cons_succ, List.getElem_cons_zero, List.setIfInBounds_toArray, List.set_cons_zero, List.set_cons_succ]
            refine wpAnyH_take (i := 9) (v := ?_) rfl (by kernel_rfl) (by kernel_rfl) (by kernel_rfl) (fun _ _ _ h => h) (Or.inl ⟨by rfl, ?_⟩) hHeld ?_
            rotate_left
            · intro w' hSw; try dsimp only at hSw
              go_simp; try (with_reducible rfl)
            try simp only [Act.put, List.getElem_toArray, List.getElem_cons_succ, List.getElem_cons_zero, List.setIfInBounds_toArray, List.set_cons_zero, List.set_cons_succ]
            refine wpAnyH_take (i := 11) (v := ?_) rfl (by kernel_rfl) (by kernel_rfl) (by kernel_rfl) (fun _ _ _ h => h) (Or.inl ⟨by rfl, ?_⟩) hHeld ?_
            rotate_left
            · intro w' hSw; try dsimp only at hSw
              go_simp; try (with_reducible rfl)
            try simp only [Act.put, List.getElem_toArray, List.getElem_cons_succ, List.getElem_cons_zero, List.setIfInBounds_toArray, List.set_cons_zero, List.set_cons_succ]
            refine wpAnyH_take (i := 12) (v := ?_) rfl (by kernel_rfl) (by kernel_rfl) (by kernel_rfl) (fun _ _ _ h => h) (Or.inl ⟨by rfl, ?_⟩) hHeld ?_
            rotate_left
            · intro w' hSw; try dsimp only at hSw
              obtain ⟨u0, u1, u2⟩ := hSw.cells3
              go_simp; try (with_reducible rfl)
            try simp only [Act.put, List.getElem_toArray, List.getElem_cons_succ, List.getElem_cons_zero, List.setIfInBounds_toArray, List.set_cons_zero, List.set_cons_succ]
            refine wpAnyH_take (i := 13) (v := ?_) rfl (by kernel_rfl) (by kernel_rfl) (by kernel_rfl) (fun _ _ _ h => h) (Or.inl ⟨by rfl, ?_⟩) hHeld ?_
            rotate_left
            · intro w' hSw; try dsimp only at hSw
              go_simp; try (with_reducible rfl)
            try simp only [Act.put, List.getElem_toArray, List.getElem_cons_succ, List.getElem_cons_zero, List.setIfInBounds_toArray, List.set_cons_zero, List.set_cons_succ]
            refine wpAnyH_take (i := 14) (v := ?_) rfl (by kernel_rfl) (by kernel_rfl) (by kernel_rfl) (fun _ _ _ h => h) (Or.inl ⟨by rfl, ?_⟩) hHeld ?_
            rotate_left
            · intro w' hSw; try dsimp only at hSw
              go_simp; try (with_reducible rfl)
            try simp only [Act.put, List.getElem_toArray, List.getElem_cons_succ, List.getElem_cons_zero, List.setIfInBounds_toArray, List.set_cons_zero, List.set_cons_succ]
            refine wpAnyH_take (i := 15) (v := ?_) rfl (by kernel_rfl) (by kernel_rfl) (by kernel_rfl) (fun _ _ _ h => h) (Or.inl ⟨by rfl, ?_⟩) hHeld ?_
            rotate_left
            · intro w' hSw; try dsimp only at hSw
              go_simp; try (with_reducible rfl)
            try simp only [Act.put, List.getElem_toArray, List.getElem_cons_succ, List.getElem_cons_zero, List.setIfInBounds_toArray, List.set_cons_zero, List.set_cons_succ]
            refine wpAnyH_ready (rs := [10]) (by kernel_rfl) (by simp) ?_
            refine AllReadyH.cons rfl (fun K hK => ?_) AllReadyH.nil
            rw [if_pos (by rfl)]
            refine wp_append_nilB _ _ 22 4 Try.underlying22 info4 rfl rfl _ _ _ ((s.bad.drop F).take (e - F)) rfl (hsubB _ hB4.drew) (by omega) ?_
            intro p5 c5 w5 ho5 hb5
            refine hK.out _ _ (hHeld.kept hb5) (fun hHeld => ?_)
            clear hK K
            try simp only [Act.put, List.getElem_toArray, List.getElem_cons_succ, List.getElem_cons_zero, List.setIfInBounds_toArray, List.set_cons_zero, List.set_cons_succ]
            refine wpAnyH_ready (rs := [16]) (by kernel_rfl) (by simp) ?_
            refine AllReadyH.cons rfl (fun K hK => ?_) AllReadyH.nil
            rw [if_pos (by rfl)]
            refine wp_append_nil _ _ 23 2 Try.underlying23 info2 rfl rfl _ _ _ ((s.wear.drop F).take (e - F)) rfl (hsubW _ (bt hB4.drew hb5)) (by omega) ?_
            intro q6 d6 w6 ho6 hb6
            refine hK.out _ _ (hHeld.kept hb6) (fun hHeld => ?_)
            clear hK K
            try simp only [Act.put, List.getElem_toArray, List.getElem_cons_succ, List.getElem_cons_zero, List.setIfInBounds_toArray, List.set_cons_zero, List.set_cons_succ]
            refine wpAnyH_take (i := 17) (v := ?_) rfl (by kernel_rfl) (by kernel_rfl) (by kernel_rfl) (fun _ _ _ h => h) (Or.inl ⟨by rfl, ?_⟩) hHeld ?_
            rotate_left
            · intro w' hSw; try dsimp only at hSw
              go_simp; try (with_reducible rfl)
            try simp only [Act.put, List.getElem_toArray, List.getElem_cons_succ, List.getElem_cons_zero, List.setIfInBounds_toArray, List.set_cons_zero, List.set_cons_succ]
            have hbs6 := hHeld
            refine wpAnyH_ready (rs := [18]) (by kernel_rfl) (by simp) ?_
            refine AllReadyH.cons rfl (fun K hK => ?_) AllReadyH.nil
            go_simp
            refine hK.out _ _ (hHeld.kept (below_alloc _ _)) (fun hHeld => ?_)
            clear hK K
            try simp only [Act.put, List.getElem_toArray, List.getElem_cons_succ, List.getElem_cons_zero, List.setIfInBounds_toArray, List.set_cons_zero, List.set_cons_succ]
            have hown : OwnP w1.heap.size w6 ⟨p5, e - F, c5, q6, e - F, d6, none, 0, 0⟩ (partP s gen k) := ⟨by have := owns_mono (owns_below ho5 hb6) hsz4; rw [hEB] at this; exact this, by have := owns_mono ho6 (Nat.le_trans hsz4 hb5.size); rw [hEW] at this; exact this, ⟨rfl, .inl ⟨rfl, rfl⟩⟩, by show e - F ≤ _; omega, by show e - F ≤ _; omega, Nat.zero_le _⟩
            have hb46 : Below w4.heap.size w4 w6 := bt (bt (Below.refl _ _).drew hb5) hb6
            have hrow6 := owns_below hrow4 hb46
            refine wpAnyH_ready (rs := [19]) (by kernel_rfl) (by simp) ?_
            refine AllReadyH.cons rfl (fun K hK => ?_) AllReadyH.nil
            rw [if_pos (by rfl)]
            refine wp_append_page (.tmp 38) (.tmp 56) rfl w1.heap.size _ k (flatPs f s gen k) ⟨p5, e - F, c5, q6, e - F, d6, none, 0, 0⟩ (partP s gen k) w6 rfl hrow6 rfl (by omega) (by have := hb46.size; omega) ?_
            intro v9 w9 ho9 hb9
            refine hK.out _ _ (hbs6.below hb9 hlow) (fun hHeld => ?_)
            clear hK K
            try simp only [Act.put, List.getElem_toArray, List.getElem_cons_succ, List.getElem_cons_zero, List.setIfInBounds_toArray, List.set_cons_zero, List.set_cons_succ]
            refine wpAnyH_take (i := 20) (v := ?_) rfl (by kernel_rfl) (by kernel_rfl) (by kernel_rfl) (fun _ _ _ h => h) (Or.inl ⟨by rfl, ?_⟩) hHeld ?_
            rotate_left
            · intro w' hSw; try dsimp only at hSw
              go_simp; try (with_reducible rfl)
            try simp only [Act.put, List.getElem_toArray, List.getElem_cons_succ, List.getElem_cons_zero, List.setIfInBounds_toArray, List.set_cons_zero, List.set_cons_succ]
            refine wpAnyH_done (by kernel_rfl) ?_ _
            refine NoPanic.normal ?_
            have hold : ∀ i, i < k → OwnP w1.heap.size w6 (f i) (partP s gen i) := fun i hi => (hpg4 i hi).next hb46
            go_wp2_with fail
            go_roundw
            case rel =>
              refine ⟨k + 1, by omega, by go_num, v9, fun i => if i = k then ⟨p5, e - F, c5, q6, e - F, d6, none, 0, 0⟩ else f i, rfl, ?_, fun i hi => ?_, ?_⟩
              · rw [flatPs_succ (f := f) (V := ⟨p5, e - F, c5, q6, e - F, d6, none, 0, 0⟩)]; exact ho9.1
              · by_cases hik : i = k
                · subst hik
                  simp only [if_true]; exact ho9.2 _ _ hown
                · simp only [if_neg hik]; exact ho9.2 _ _ (hold i (by omega))
              · exact ((hbel4.drew.trans (hb5.mono hsz4)).trans (hb6.mono (Nat.le_trans hsz4 hb5.size))).trans hb9
            case measure => simp [intOf]; omega
        · have hkm : k = m := by omega
          subst hkm
          go_wp2_with (go_at_call 32; refine (hparts _).mono ?_; rintro e w' ⟨rfl, hw'⟩; have hw2 := hw'.symm; subst hw2; clear hw')
          go_ret2
          rw [E.out]
          obtain ⟨p9, c9, hv9, hin9⟩ := in_of_ownsPs HROW.out (by omega) (fun i hi => (hpg i hi).inP)
          refine ⟨p9, c9, f, by show Ending.returned (.tuple #[v, .int .i64 0]) = _; rw [cpL_length, hv9], ?_, hBr⟩
          rw [cpL_length]
          exact hin9
    · have E : Hid (cpR s gen = ([], 1)) := by show _ = _; unfold cpR; rw [hok, if_neg (show ¬ okGen gen from hg)]; rfl
      by_cases hg0 : gen < 0
      · go_enter Try.func26, Try.ntmps26
        go_wp2_with (go_at_call 16; refine hck.mono ?_; rintro e w1 ⟨rfl, hb1⟩)
        go_ret2
        rw [E.out]
        exact ⟨_, _, fun _ => PV.zero, rfl, InPs.empty _ _, bt hb0 hb1⟩
      · have hg1 : gen > 1152921504606846976 := by omega
        go_enter Try.func26, Try.ntmps26
        go_wp2_with (go_at_call 16; refine hck.mono ?_; rintro e w1 ⟨rfl, hb1⟩)
        go_ret2
        rw [E.out]
        exact ⟨_, _, fun _ => PV.zero, rfl, InPs.empty _ _, bt hb0 hb1⟩
end Go.Proofs.Ytpikaagdiafieaa
