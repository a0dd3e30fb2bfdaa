/-
  What slices.Equal, Same and Covers answer.
-/
import Derived.Test.YtpikaagdiafieaaMjJoin
namespace Go.Proofs.Ytpikaagdiafieaa
open Go.RowKit
theorem eq_listI (xs ys : List Int) (hl : xs.length = ys.length) (h : ∀ i, i < xs.length → eI xs i = eI ys i) : xs = ys := by
  apply List.ext_getElem hl
  intro i h1 h2
  have := h i h1
  simpa [eI, h1, h2] using this
theorem ne_listI {xs ys : List Int} {k : Nat} (h : (eI xs k != eI ys k) = true) : (xs == ys) = false := by
  cases hq : xs == ys with
  | false => rfl
  | true =>
    have := eq_of_beq hq
    subst this
    simp at h
theorem ne_listL {xs ys : List Int} {n m : Nat} (h1 : xs.length = n) (h2 : ys.length = m) (h : ¬ n = m) : (xs == ys) = false := by
  cases hq : xs == ys with
  | false => rfl
  | true =>
    have := eq_of_beq hq
    subst this
    omega
theorem eq_listB (xs ys : List Bool) (hl : xs.length = ys.length) (h : ∀ i, i < xs.length → eB xs i = eB ys i) : xs = ys := by
  apply List.ext_getElem hl
  intro i h1 h2
  have := h i h1
  simpa [eB, h1, h2] using this
theorem ne_listB {xs ys : List Bool} {k : Nat} (h : (eB xs k != eB ys k) = true) : (xs == ys) = false := by
  cases hq : xs == ys with
  | false => rfl
  | true =>
    have := eq_of_beq hq
    subst this
    simp at h
theorem ne_listBL {xs ys : List Bool} {n m : Nat} (h1 : xs.length = n) (h2 : ys.length = m) (h : ¬ n = m) : (xs == ys) = false := by
  cases hq : xs == ys with
  | false => rfl
  | true =>
    have := eq_of_beq hq
    subst this
    omega
theorem equalL_any (p q : Option Addr) (n c m d : Nat) (xs ys : List Int) (w : World) (hx : InI w p n c xs) (hy : InI w q m d ys) :
    Calls Try.prog 55 #[.slice p n c, .slice q m d] w fun e w' => e = .returned (.bool (xs == ys)) ∧ Below w.heap.size w w' := by
  have hroom := hx.room
  have HX : Hid (xs.length = n) := hx.len
  have HY : Hid (ys.length = m) := hy.len
  by_cases hnm : n = m
  · subst hnm
    go_enter Try.func55, Try.ntmps55
    go_wp2
    go_loopw [13] (fun i wr => ∃ k : Nat, k ≤ n ∧ i = .int .i64 k ∧ (∃ j, wr = w.drewN j) ∧ ∀ i, i < k → eI xs i = eI ys i) (fun i _ => n - (intOf i).toNat)
    case atStart => exact ⟨0, Nat.zero_le _, rfl, ⟨0, rfl⟩, fun i h => by omega⟩
    case round =>
      obtain ⟨k, hk, rfl, ⟨j, rfl⟩, hall⟩ := hrel
      have HA : Hid (∀ i, i < k → eI xs i = eI ys i) := hall
      clear hall
      by_cases hlt : k < n
      · obtain ⟨b, o, rfl, hb, hc⟩ := hx.at' (by omega)
        obtain ⟨b', o', rfl, hb', hc'⟩ := hy.at' (by omega)
        have hck := hc k hlt
        have hck' := hc' k hlt
        clear hc hc'
        cases hq : (eI xs k != eI ys k) with
        | true =>
          have HN : Hid ((xs == ys) = false) := ne_listI hq
          go_wp2
          go_quiet (fail)
          go_wp2
          go_ret
          exact ⟨ret_bool HN.out.symm, below_drewN (below_drewN (Below.refl _ _) _) _⟩
        | false =>
          have HE : Hid (eI xs k = eI ys k) := WalkArith.int_eq' hq
          go_wp2
          go_quiet (fail)
          go_wp2
          go_roundw
          case rel =>
            refine ⟨k + 1, by omega, by go_num, ⟨_, rfl⟩, fun i hi => ?_⟩
            rcases Nat.lt_succ_iff_lt_or_eq.1 hi with h | h
            · exact HA.out i h
            · rw [h]; exact HE.out
          case measure => simp [intOf]; omega
      · go_wp2
        go_ret
        refine ⟨ret_bool ?_, below_drewN (Below.refl _ _) _⟩
        rw [eq_listI xs ys (by rw [HX.out, HY.out]) (fun i hi => HA.out i (by have := HX.out; omega))]
        simp
  · have hne : ((n : Int) != (m : Int)) = true := by rw [bne_iff_ne]; omega
    have HN : Hid ((xs == ys) = false) := ne_listL HX.out HY.out hnm
    clear hnm
    go_enter Try.func55, Try.ntmps55
    go_wp2
    go_ret
    exact ⟨ret_bool HN.out.symm, Below.refl _ _⟩
theorem equalB_any (p q : Option Addr) (n c m d : Nat) (xs ys : List Bool) (w : World) (hx : InB w p n c xs) (hy : InB w q m d ys) :
    Calls Try.prog 54 #[.slice p n c, .slice q m d] w fun e w' => e = .returned (.bool (xs == ys)) ∧ Below w.heap.size w w' := by
  have hroom := hx.room
  have HX : Hid (xs.length = n) := hx.len
  have HY : Hid (ys.length = m) := hy.len
  by_cases hnm : n = m
  · subst hnm
    go_enter Try.func54, Try.ntmps54
    go_wp2
    go_loopw [13] (fun i wr => ∃ k : Nat, k ≤ n ∧ i = .int .i64 k ∧ (∃ j, wr = w.drewN j) ∧ ∀ i, i < k → eB xs i = eB ys i) (fun i _ => n - (intOf i).toNat)
    case atStart => exact ⟨0, Nat.zero_le _, rfl, ⟨0, rfl⟩, fun i h => by omega⟩
    case round =>
      obtain ⟨k, hk, rfl, ⟨j, rfl⟩, hall⟩ := hrel
      have HA : Hid (∀ i, i < k → eB xs i = eB ys i) := hall
      clear hall
      by_cases hlt : k < n
      · obtain ⟨b, o, rfl, hb, hc⟩ := hx.at' (by omega)
        obtain ⟨b', o', rfl, hb', hc'⟩ := hy.at' (by omega)
        have hck := hc k hlt
        have hck' := hc' k hlt
        clear hc hc'
        cases h1 : eB xs k with
        | true =>
          rw [h1] at hck
          cases h2 : eB ys k with
          | true =>
            rw [h2] at hck'
            have HE : Hid (eB xs k = eB ys k) := h1.trans h2.symm
            clear h1 h2
            go_wp2
            go_quiet (fail)
            go_wp2
            go_roundw
            case rel =>
              refine ⟨k + 1, by omega, by go_num, ⟨_, rfl⟩, fun i hi => ?_⟩
              rcases Nat.lt_succ_iff_lt_or_eq.1 hi with h | h
              · exact HA.out i h
              · rw [h]; exact HE.out
            case measure => simp [intOf]; omega
          | false =>
            rw [h2] at hck'
            have HN : Hid ((xs == ys) = false) := ne_listB (k := k) (by rw [h1, h2]; rfl)
            clear h1 h2
            go_wp2
            go_quiet (fail)
            go_wp2
            go_ret
            exact ⟨ret_bool HN.out.symm, below_drewN (below_drewN (Below.refl _ _) _) _⟩
        | false =>
          rw [h1] at hck
          cases h2 : eB ys k with
          | true =>
            rw [h2] at hck'
            have HN : Hid ((xs == ys) = false) := ne_listB (k := k) (by rw [h1, h2]; rfl)
            clear h1 h2
            go_wp2
            go_quiet (fail)
            go_wp2
            go_ret
            exact ⟨ret_bool HN.out.symm, below_drewN (below_drewN (Below.refl _ _) _) _⟩
          | false =>
            rw [h2] at hck'
            have HE : Hid (eB xs k = eB ys k) := h1.trans h2.symm
            clear h1 h2
            go_wp2
            go_quiet (fail)
            go_wp2
            go_roundw
            case rel =>
              refine ⟨k + 1, by omega, by go_num, ⟨_, rfl⟩, fun i hi => ?_⟩
              rcases Nat.lt_succ_iff_lt_or_eq.1 hi with h | h
              · exact HA.out i h
              · rw [h]; exact HE.out
            case measure => simp [intOf]; omega
      · go_wp2
        go_ret
        refine ⟨ret_bool ?_, below_drewN (Below.refl _ _) _⟩
        rw [eq_listB xs ys (by rw [HX.out, HY.out]) (fun i hi => HA.out i (by have := HX.out; omega))]
        simp
  · have hne : ((n : Int) != (m : Int)) = true := by rw [bne_iff_ne]; omega
    have HN : Hid ((xs == ys) = false) := ne_listBL HX.out HY.out hnm
    clear hnm
    go_enter Try.func54, Try.ntmps54
    go_wp2
    go_ret
    exact ⟨ret_bool HN.out.symm, Below.refl _ _⟩
/-- Two states' boxes. -/
structure B2 (w : World) (V U : SV) (a b : MS) (W : World) : Prop where
  bel : Below w.heap.size w W
  ba : Blk W w.heap.size 25 (V.cells a)
  bb : Blk W (w.heap.size + 1) 25 (U.cells b)
theorem B2.start (w : World) (V U : SV) (a b : MS) : B2 w V U a b ((w.alloc (.cells #[.slice V.p V.n V.c, .slice V.q V.m V.d, .int .i64 a.seq] 25)).alloc (.cells #[.slice U.p U.n U.c, .slice U.q U.m U.d, .int .i64 b.seq] 25)) := by
  refine ⟨bt (below_alloc w _) (below_alloc _ _), (Blk.new' w 25 #[.slice V.p V.n V.c, .slice V.q V.m V.d, .int .i64 a.seq]).alloc _, ?_⟩
  have := Blk.new' (w.alloc (.cells #[.slice V.p V.n V.c, .slice V.q V.m V.d, .int .i64 a.seq] 25)) 25 #[.slice U.p U.n U.c, .slice U.q U.m U.d, .int .i64 b.seq]
  rwa [World.size_alloc] at this
theorem B2.next {w W W' : World} {V U : SV} {a b : MS} (h : B2 w V U a b W) (hb : Below W.heap.size W W') : B2 w V U a b W' := ⟨bt h.bel hb, h.ba.kept hb, h.bb.kept hb⟩
theorem same_any (V U : SV) (a b : MS) (w : World) (ha : InS w V a) (hb : InS w U b) :
    Calls Try.prog 19 #[V.val a, U.val b] w fun e w' => e = .returned (.bool (sameS a b)) ∧ Below w.heap.size w w' := by
  have h0 := B2.start w V U a b
  obtain ⟨x0, x1, x2⟩ := h0.ba.cells3
  obtain ⟨y0, y1, y2⟩ := h0.bb.cells3
  by_cases hq : a.seq = b.seq
  · have hq1 : (a.seq == b.seq) = true := by simp [hq]
    cases hB : a.bad == b.bad with
    | false =>
      have E : Hid (sameS a b = false) := by show _ = _; unfold sameS; rw [hB]; simp
      clear hq
      go_enter Try.func19, Try.ntmps19
      go_wp2_with (go_at_call 54; refine (equalB_any _ _ _ _ _ _ a.bad b.bad _ (ha.b.below h0.bel) (hb.b.below h0.bel)).mono ?_; rintro e w1 ⟨rfl, hb1⟩; rw [hB])
      go_ret
      exact ⟨ret_bool E.out.symm, bt h0.bel hb1⟩
    | true =>
      have E : Hid (sameS a b = (a.wear == b.wear)) := by show _ = _; unfold sameS; rw [hB, hq]; simp
      clear hq
      go_enter Try.func19, Try.ntmps19
      go_wp2_with (first
        | (go_at_call 54; refine (equalB_any _ _ _ _ _ _ a.bad b.bad _ (ha.b.below h0.bel) (hb.b.below h0.bel)).mono ?_; rintro e w1 ⟨rfl, hb1⟩; rw [hB]; have h1 := h0.next hb1; obtain ⟨x0, x1, x2⟩ := h1.ba.cells3; obtain ⟨y0, y1, y2⟩ := h1.bb.cells3)
        | (go_at_call 55; refine (equalL_any _ _ _ _ _ _ a.wear b.wear _ (ha.v.below h1.bel) (hb.v.below h1.bel)).mono ?_; rintro e w2 ⟨rfl, hb2⟩))
      go_ret
      exact ⟨ret_bool E.out.symm, bt h1.bel hb2⟩
  · have hq1 : (a.seq == b.seq) = false := by simp [hq]
    have E : Hid (sameS a b = false) := by show _ = _; unfold sameS; simp [hq]
    clear hq
    go_enter Try.func19, Try.ntmps19
    go_wp2
    go_ret
    exact ⟨ret_bool E.out.symm, h0.bel⟩
theorem covers_any (V U : SV) (a b : MS) (w : World) (ha : InS w V a) (hb : InS w U b) :
    Calls Try.prog 17 #[V.val a, U.val b] w fun e w' => e = .returned (.bool (coversB a b)) ∧ Below w.heap.size w w' := by
  have h0 := B2.start w V U a b
  have hj := join_any V U a b _ (ha.below h0.bel) (hb.below h0.bel)
  by_cases hz : joinE a b = 0
  · have e0 : joinR a b = (joinMS a b, 0) := by unfold joinR; rw [hz]; rfl
    rw [e0] at hj
    have E : Hid (coversB a b = sameS (joinMS a b) a) := by show _ = _; unfold coversB; rw [hz]; rfl
    clear hz e0
    go_enter Try.func17, Try.ntmps17
    go_wp2_with (first
      | (go_at_call 11; refine hj.mono ?_; rintro e w1 ⟨V1, rfl, ho1, hb1⟩; have h1 := (h0.next hb1).next (below_alloc w1 (.cells #[.slice V1.p V1.n V1.c, .slice V1.q V1.m V1.d, .int .i64 (joinMS a b).seq] 25)); have z1 : Blk (w1.alloc (.cells #[.slice V1.p V1.n V1.c, .slice V1.q V1.m V1.d, .int .i64 (joinMS a b).seq] 25)) _ _ (SV.cells V1 (joinMS a b)) := Blk.new' w1 25 #[.slice V1.p V1.n V1.c, .slice V1.q V1.m V1.d, .int .i64 (joinMS a b).seq]; obtain ⟨u0, u1, u2⟩ := z1.cells3; obtain ⟨x0, x1, x2⟩ := h1.ba.cells3; have ho2 := ho1.inS.below (below_alloc w1 (.cells #[.slice V1.p V1.n V1.c, .slice V1.q V1.m V1.d, .int .i64 (joinMS a b).seq] 25)); clear hj; dsimp only)
      | (go_at_call 19; refine (same_any V1 V (joinMS a b) a _ ho2 (ha.below h1.bel)).mono ?_; rintro e w2 ⟨rfl, hb2⟩))
    go_ret
    exact ⟨ret_bool E.out.symm, bt h1.bel hb2⟩
  · have e0 : joinR a b = (MS.zero, joinE a b) := by unfold joinR; rw [if_neg hz]
    rw [e0] at hj
    have E : Hid (coversB a b = false) := by show _ = _; unfold coversB; rw [decide_eq_false hz]; rfl
    have hz1 : (joinE a b == 0) = false := by simpa using hz
    clear hz e0
    go_enter Try.func17, Try.ntmps17
    go_wp2_with (go_at_call 11; refine hj.mono ?_; rintro e w1 ⟨V1, rfl, ho1, hb1⟩; have h1 := (h0.next hb1).next (below_alloc w1 (.cells #[.slice V1.p V1.n V1.c, .slice V1.q V1.m V1.d, .int .i64 MS.zero.seq] 25)); clear hj; dsimp only)
    go_ret
    exact ⟨ret_bool E.out.symm, h1.bel⟩
end Go.Proofs.Ytpikaagdiafieaa
