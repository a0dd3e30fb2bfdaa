/-
  Pages held against each other; the reference's Parts.
-/
import Derived.Test.YtpikaagdiafieaaMjReplay
import Derived.Test.YtpikaagdiafieaaMjRef1
import Derived.Test.YtpikaagdiafieaaMjChP
namespace Go.Proofs.Ytpikaagdiafieaa
open Go.RowKit
set_option maxHeartbeats 1000000 in
theorem equalR_any (p q : Option Addr) (n c m d : Nat) (xs ys : List MR) (w : World) (hx : InR w p n c xs) (hy : InR w q m d ys) :
    Calls Try.prog 64 #[.slice p n c, .slice q m d] w fun e w' => e = .returned (.bool (sameL xs ys)) ∧ Below w.heap.size w w' := by
  have hroom := hx.room
  have HX : Hid (xs.length = n) := hx.len
  have HY : Hid (ys.length = m) := hy.len
  by_cases hnm : n = m
  · subst hnm
    go_enter Try.func64, Try.ntmps64
    go_wp2
    go_loopw [13] (fun i wr => ∃ k : Nat, k ≤ n ∧ i = .int .i64 k ∧ (∃ j, wr = w.drewN j) ∧ ∀ i, i < k → eR xs i = eR ys i) (fun i _ => n - (intOf i).toNat)
    case atStart => exact ⟨0, Nat.zero_le _, rfl, ⟨0, rfl⟩, fun i h => by omega⟩
    case round =>
      obtain ⟨k, hk, rfl, ⟨j, rfl⟩, hall⟩ := hrel
      have HA : Hid (∀ i, i < k → eR xs i = eR ys i) := hall
      clear hall
      by_cases hlt : k < n
      · obtain ⟨b, o, rfl, hb, hc⟩ := hx.at' (by omega)
        obtain ⟨b', o', rfl, hb', hc'⟩ := hy.at' (by omega)
        obtain ⟨k0, k1, k2⟩ := hc k hlt
        obtain ⟨l0, l1, l2⟩ := hc' k hlt
        clear hc hc'
        by_cases hq : eR xs k = eR ys k
        · have HE : Hid (eR xs k = eR ys k) := hq
          rw [← hq] at l0 l1 l2
          clear hq
          go_wp2
          go_quiet (fail)
          go_wp2
          go_roundw
          case rel =>
            refine ⟨k + 1, by omega, by go_num, ⟨_, rfl⟩, fun i hi => ?_⟩
            rcases Nat.lt_succ_iff_lt_or_eq.1 hi with h | h
            · exact HA.out i h
            · rw [h]; exact HE.out
          case measure => simp [intOf]; omega
        · have HN : Hid (sameL xs ys = false) := ne_listR hq
          clear HA
          generalize eR xs k = r at *
          generalize eR ys k = r' at *
          obtain ⟨a0, a1, a2⟩ := r
          obtain ⟨b0, b1, b2⟩ := r'
          dsimp only at k0 k1 k2 l0 l1 l2
          by_cases h0 : a0 = b0
          · subst h0
            by_cases h1 : a1 = b1
            · subst h1
              have n2 : (a2 == b2) = false := by
                rw [beq_eq_false_iff_ne]
                rintro rfl
                exact hq rfl
              clear hq
              go_wp2
              go_quiet (fail)
              go_wp2
              go_ret
              exact ⟨ret_bool HN.out.symm, below_drewN (below_drewN (Below.refl _ _) _) _⟩
            · have n1 : (a1 == b1) = false := by rw [beq_eq_false_iff_ne]; exact h1
              clear h1 hq
              go_wp2
              go_quiet (fail)
              go_wp2
              go_ret
              exact ⟨ret_bool HN.out.symm, below_drewN (below_drewN (Below.refl _ _) _) _⟩
          · have n0 : (a0 == b0) = false := by rw [beq_eq_false_iff_ne]; exact h0
            clear h0 hq
            go_wp2
            go_quiet (fail)
            go_wp2
            go_ret
            exact ⟨ret_bool HN.out.symm, below_drewN (below_drewN (Below.refl _ _) _) _⟩
      · go_wp2
        go_ret
        refine ⟨ret_bool ?_, below_drewN (Below.refl _ _) _⟩
        rw [eq_listR xs ys (by rw [HX.out, HY.out]) (fun i hi => HA.out i (by have := HX.out; omega))]
        exact (sameL_iff.2 rfl).symm
  · have hne : ((n : Int) != (m : Int)) = true := by rw [bne_iff_ne]; omega
    have HN : Hid (sameL xs ys = false) := by
      show _ = _
      apply sameL_no
      rintro rfl
      exact hnm (by rw [← HX.out, ← HY.out])
    clear hnm
    go_enter Try.func64, Try.ntmps64
    go_wp2
    go_ret
    exact ⟨ret_bool HN.out.symm, Below.refl _ _⟩
def sameP (P Q : MP) : Bool := (P.kind == Q.kind) && ((P.gen == Q.gen) && ((P.part == Q.part) && ((P.seq == Q.seq) && ((P.bad == Q.bad) && ((P.wear == Q.wear) && sameL P.recs Q.recs)))))
theorem sameP_iff {P Q : MP} : sameP P Q = true ↔ P = Q := by
  cases P; cases Q
  simp [sameP, sameL_iff]
structure P2 (w : World) (V U : PV) (P Q : MP) (W : World) : Prop where
  bel : Below w.heap.size w W
  ba : Blk W w.heap.size 42 (V.cells P)
  bb : Blk W (w.heap.size + 1) 42 (U.cells Q)
theorem P2.start (w : World) (V U : PV) (P Q : MP) : P2 w V U P Q ((w.alloc (.cells #[.int .i64 P.kind, .int .i64 P.gen, .int .i64 P.part, .int .i64 P.seq, .slice V.pb V.nb V.cb, .slice V.pw V.nw V.cw, .slice V.pr V.nr V.cr] 42)).alloc (.cells #[.int .i64 Q.kind, .int .i64 Q.gen, .int .i64 Q.part, .int .i64 Q.seq, .slice U.pb U.nb U.cb, .slice U.pw U.nw U.cw, .slice U.pr U.nr U.cr] 42)) := by
  refine ⟨bt (below_alloc w _) (below_alloc _ _), (Blk.new' w 42 #[.int .i64 P.kind, .int .i64 P.gen, .int .i64 P.part, .int .i64 P.seq, .slice V.pb V.nb V.cb, .slice V.pw V.nw V.cw, .slice V.pr V.nr V.cr]).alloc _, ?_⟩
  have := Blk.new' (w.alloc (.cells #[.int .i64 P.kind, .int .i64 P.gen, .int .i64 P.part, .int .i64 P.seq, .slice V.pb V.nb V.cb, .slice V.pw V.nw V.cw, .slice V.pr V.nr V.cr] 42)) 42 #[.int .i64 Q.kind, .int .i64 Q.gen, .int .i64 Q.part, .int .i64 Q.seq, .slice U.pb U.nb U.cb, .slice U.pw U.nw U.cw, .slice U.pr U.nr U.cr]
  rwa [World.size_alloc] at this
theorem P2.next {w W W' : World} {V U : PV} {P Q : MP} (h : P2 w V U P Q W) (hb : Below W.heap.size W W') : P2 w V U P Q W' := ⟨bt h.bel hb, h.ba.kept hb, h.bb.kept hb⟩
set_option maxHeartbeats 2000000 in
theorem samePage_any (V U : PV) (P Q : MP) (w : World) (hP : InP w V P) (hQ : InP w U Q) :
    Calls Try.prog 33 #[V.val P, U.val Q] w fun e w' => e = .returned (.bool (sameP P Q)) ∧ Below w.heap.size w w' := by
  have h0 := P2.start w V U P Q
  obtain ⟨x0, x1, x2, x3, x4, x5, x6⟩ := h0.ba.cells7
  obtain ⟨y0, y1, y2, y3, y4, y5, y6⟩ := h0.bb.cells7
  cases e0 : (P.kind == Q.kind) with
  | false =>
    have E : Hid (sameP P Q = false) := by show _ = _; unfold sameP; rw [e0]; simp
    go_enter Try.func33, Try.ntmps33
    go_wp2
    go_ret
    exact ⟨ret_bool E.out.symm, h0.bel⟩
  | true =>
    cases e1 : (P.gen == Q.gen) with
    | false =>
      have E : Hid (sameP P Q = false) := by show _ = _; unfold sameP; rw [e0, e1]; simp
      go_enter Try.func33, Try.ntmps33
      go_wp2
      go_ret
      exact ⟨ret_bool E.out.symm, h0.bel⟩
    | true =>
      cases e2 : (P.part == Q.part) with
      | false =>
        have E : Hid (sameP P Q = false) := by show _ = _; unfold sameP; rw [e0, e1, e2]; simp
        go_enter Try.func33, Try.ntmps33
        go_wp2
        go_ret
        exact ⟨ret_bool E.out.symm, h0.bel⟩
      | true =>
        cases e3 : (P.seq == Q.seq) with
        | false =>
          have E : Hid (sameP P Q = false) := by show _ = _; unfold sameP; rw [e0, e1, e2, e3]; simp
          go_enter Try.func33, Try.ntmps33
          go_wp2
          go_ret
          exact ⟨ret_bool E.out.symm, h0.bel⟩
        | true =>
          cases e4 : (P.bad == Q.bad) with
          | false =>
            have E : Hid (sameP P Q = false) := by show _ = _; unfold sameP; rw [e0, e1, e2, e3, e4]; simp
            go_enter Try.func33, Try.ntmps33
            go_wp2_with (first | (go_at_call 54; refine (equalB_any _ _ _ _ _ _ P.bad Q.bad _ (hP.b.below h0.bel) (hQ.b.below h0.bel)).mono ?_; rintro e w1 ⟨rfl, hb1⟩; rw [e4]))
            go_ret
            exact ⟨ret_bool E.out.symm, bt h0.bel hb1⟩
          | true =>
            cases e5 : (P.wear == Q.wear) with
            | false =>
              have E : Hid (sameP P Q = false) := by show _ = _; unfold sameP; rw [e0, e1, e2, e3, e4, e5]; simp
              go_enter Try.func33, Try.ntmps33
              go_wp2_with (first | (go_at_call 54; refine (equalB_any _ _ _ _ _ _ P.bad Q.bad _ (hP.b.below h0.bel) (hQ.b.below h0.bel)).mono ?_; rintro e w1 ⟨rfl, hb1⟩; rw [e4]; have h1 := h0.next hb1; obtain ⟨x0, x1, x2, x3, x4, x5, x6⟩ := h1.ba.cells7; obtain ⟨y0, y1, y2, y3, y4, y5, y6⟩ := h1.bb.cells7) | (go_at_call 55; refine (equalL_any _ _ _ _ _ _ P.wear Q.wear _ (hP.v.below h1.bel) (hQ.v.below h1.bel)).mono ?_; rintro e w2 ⟨rfl, hb2⟩; rw [e5]))
              go_ret
              exact ⟨ret_bool E.out.symm, bt h1.bel hb2⟩
            | true =>
              have E : Hid (sameP P Q = sameL P.recs Q.recs) := by show _ = _; unfold sameP; rw [e0, e1, e2, e3, e4, e5]; simp
              go_enter Try.func33, Try.ntmps33
              go_wp2_with (first | (go_at_call 54; refine (equalB_any _ _ _ _ _ _ P.bad Q.bad _ (hP.b.below h0.bel) (hQ.b.below h0.bel)).mono ?_; rintro e w1 ⟨rfl, hb1⟩; rw [e4]; have h1 := h0.next hb1; obtain ⟨x0, x1, x2, x3, x4, x5, x6⟩ := h1.ba.cells7; obtain ⟨y0, y1, y2, y3, y4, y5, y6⟩ := h1.bb.cells7) | (go_at_call 55; refine (equalL_any _ _ _ _ _ _ P.wear Q.wear _ (hP.v.below h1.bel) (hQ.v.below h1.bel)).mono ?_; rintro e w2 ⟨rfl, hb2⟩; rw [e5]; have h2 := h1.next hb2; obtain ⟨x0, x1, x2, x3, x4, x5, x6⟩ := h2.ba.cells7; obtain ⟨y0, y1, y2, y3, y4, y5, y6⟩ := h2.bb.cells7) | (go_at_call 64; refine (equalR_any _ _ _ _ _ _ P.recs Q.recs _ (hP.r.below h2.bel) (hQ.r.below h2.bel)).mono ?_; rintro e w3 ⟨rfl, hb3⟩))
              go_ret
              exact ⟨ret_bool E.out.symm, bt h2.bel hb3⟩
set_option maxHeartbeats 2000000 in
theorem rsamePage_any (V U : PV) (P Q : MP) (w : World) (hP : InP w V P) (hQ : InP w U Q) :
    Calls Try.prog 30 #[V.val P, U.val Q] w fun e w' => e = .returned (.bool (sameP P Q)) ∧ Below w.heap.size w w' := by
  have h0 := P2.start w V U P Q
  obtain ⟨x0, x1, x2, x3, x4, x5, x6⟩ := h0.ba.cells7
  obtain ⟨y0, y1, y2, y3, y4, y5, y6⟩ := h0.bb.cells7
  cases e0 : (P.kind == Q.kind) with
  | false =>
    have E : Hid (sameP P Q = false) := by show _ = _; unfold sameP; rw [e0]; simp
    go_enter Try.func30, Try.ntmps30
    go_wp2
    go_ret
    exact ⟨ret_bool E.out.symm, h0.bel⟩
  | true =>
    cases e1 : (P.gen == Q.gen) with
    | false =>
      have E : Hid (sameP P Q = false) := by show _ = _; unfold sameP; rw [e0, e1]; simp
      go_enter Try.func30, Try.ntmps30
      go_wp2
      go_ret
      exact ⟨ret_bool E.out.symm, h0.bel⟩
    | true =>
      cases e2 : (P.part == Q.part) with
      | false =>
        have E : Hid (sameP P Q = false) := by show _ = _; unfold sameP; rw [e0, e1, e2]; simp
        go_enter Try.func30, Try.ntmps30
        go_wp2
        go_ret
        exact ⟨ret_bool E.out.symm, h0.bel⟩
      | true =>
        cases e3 : (P.seq == Q.seq) with
        | false =>
          have E : Hid (sameP P Q = false) := by show _ = _; unfold sameP; rw [e0, e1, e2, e3]; simp
          go_enter Try.func30, Try.ntmps30
          go_wp2
          go_ret
          exact ⟨ret_bool E.out.symm, h0.bel⟩
        | true =>
          cases e4 : (P.bad == Q.bad) with
          | false =>
            have E : Hid (sameP P Q = false) := by show _ = _; unfold sameP; rw [e0, e1, e2, e3, e4]; simp
            go_enter Try.func30, Try.ntmps30
            go_wp2_with (first | (go_at_call 50; refine (rbools_any _ _ _ _ _ _ P.bad Q.bad _ (hP.b.below h0.bel) (hQ.b.below h0.bel)).mono ?_; rintro e w1 ⟨rfl, hb1⟩; rw [e4]))
            go_ret
            exact ⟨ret_bool E.out.symm, bt h0.bel hb1⟩
          | true =>
            cases e5 : (P.wear == Q.wear) with
            | false =>
              have E : Hid (sameP P Q = false) := by show _ = _; unfold sameP; rw [e0, e1, e2, e3, e4, e5]; simp
              go_enter Try.func30, Try.ntmps30
              go_wp2_with (first | (go_at_call 50; refine (rbools_any _ _ _ _ _ _ P.bad Q.bad _ (hP.b.below h0.bel) (hQ.b.below h0.bel)).mono ?_; rintro e w1 ⟨rfl, hb1⟩; rw [e4]; have h1 := h0.next hb1; obtain ⟨x0, x1, x2, x3, x4, x5, x6⟩ := h1.ba.cells7; obtain ⟨y0, y1, y2, y3, y4, y5, y6⟩ := h1.bb.cells7) | (go_at_call 51; refine (rnums_any _ _ _ _ _ _ P.wear Q.wear _ (hP.v.below h1.bel) (hQ.v.below h1.bel)).mono ?_; rintro e w2 ⟨rfl, hb2⟩; rw [e5]))
              go_ret
              exact ⟨ret_bool E.out.symm, bt h1.bel hb2⟩
            | true =>
              have E : Hid (sameP P Q = sameL P.recs Q.recs) := by show _ = _; unfold sameP; rw [e0, e1, e2, e3, e4, e5]; simp
              go_enter Try.func30, Try.ntmps30
              go_wp2_with (first | (go_at_call 50; refine (rbools_any _ _ _ _ _ _ P.bad Q.bad _ (hP.b.below h0.bel) (hQ.b.below h0.bel)).mono ?_; rintro e w1 ⟨rfl, hb1⟩; rw [e4]; have h1 := h0.next hb1; obtain ⟨x0, x1, x2, x3, x4, x5, x6⟩ := h1.ba.cells7; obtain ⟨y0, y1, y2, y3, y4, y5, y6⟩ := h1.bb.cells7) | (go_at_call 51; refine (rnums_any _ _ _ _ _ _ P.wear Q.wear _ (hP.v.below h1.bel) (hQ.v.below h1.bel)).mono ?_; rintro e w2 ⟨rfl, hb2⟩; rw [e5]; have h2 := h1.next hb2; obtain ⟨x0, x1, x2, x3, x4, x5, x6⟩ := h2.ba.cells7; obtain ⟨y0, y1, y2, y3, y4, y5, y6⟩ := h2.bb.cells7) | (go_at_call 24; refine (sameRecs_any _ _ _ _ _ _ P.recs Q.recs _ (hP.r.below h2.bel) (hQ.r.below h2.bel)).mono ?_; rintro e w3 ⟨rfl, hb3⟩))
              go_ret
              exact ⟨ret_bool E.out.symm, bt h2.bel hb3⟩
theorem rparts_any (i : Int) (w : World) : Calls Try.prog 32 #[.int .i64 i] w fun e w' => e = .returned (.int .i64 (partsI i)) ∧ w' = w := by
  by_cases h1 : i < 16
  · have E : Hid (partsI i = 0) := by show _ = _; unfold partsI; rw [if_neg (by omega)]
    go_enter Try.func32, Try.ntmps32
    go_wp2
    go_ret
    rw [E.out]
    exact ⟨rfl, rfl⟩
  · by_cases h2 : i > 256
    · have E : Hid (partsI i = 0) := by show _ = _; unfold partsI; rw [if_neg (by omega)]
      go_enter Try.func32, Try.ntmps32
      go_wp2
      go_ret
      rw [E.out]
      exact ⟨rfl, rfl⟩
    · have E : Hid (partsI i = (i + 63) / 64) := by show _ = _; unfold partsI; rw [if_pos (by omega)]
      obtain ⟨n, rfl⟩ : ∃ n : Nat, i = (n : Int) := ⟨i.toNat, by omega⟩
      go_enter Try.func32, Try.ntmps32
      go_wp2
      go_ret
      refine ⟨ret_int ?_, rfl⟩
      rw [E.out]
      omega
set_option linter.unusedSimpArgs false in
set_option maxHeartbeats 1000000 in
theorem samePages_any (p q : Option Addr) (n c m d : Nat) (f g : Nat → PV) (xs ys : List MP) (w : World) (hx : InPs w p n c f xs) (hy : InPs w q m d g ys) (he : xs = ys) :
    Calls Try.prog 29 #[.slice p n c, .slice q m d] w fun e w' => e = .returned (.bool true) ∧ Below w.heap.size w w' := by
  have hroom := hx.room
  have hl := hx.len
  have hl2 := hy.len
  obtain rfl : m = n := by rw [← hl, ← hl2, he]
  subst he
  clear hl hl2
  go_enter Try.func29, Try.ntmps29
  go_wp2
  go_loopw [5] (fun i wr => ∃ k : Nat, k ≤ m ∧ i = .int .i64 k ∧ Below w.heap.size w wr) (fun i _ => m - (intOf i).toNat)
  case atStart => exact ⟨0, Nat.zero_le _, rfl, Below.refl _ _⟩
  case round =>
    obtain ⟨k, hk, rfl, hbel⟩ := hrel
    by_cases hlt : k < m
    · obtain ⟨b, o, hp, hb, hc⟩ := (hx.below hbel).at' (by omega)
      obtain ⟨b', o', hq, hb', hc'⟩ := (hy.below hbel).at' (by omega)
      subst hp
      subst hq
      have HC : Hid (∀ X, Below wr.heap.size wr X → ∀ j u, ((f k).cells (eP xs k))[j]? = some u → X.cell? ⟨b, o + k * 7 + j, none⟩ = some u) := fun X hX j u hu => (hX.cell (p := ⟨b, o + k * 7 + j, none⟩) hb).trans (hc k hlt j u hu)
      have HC' : Hid (∀ X, Below wr.heap.size wr X → ∀ j u, ((g k).cells (eP xs k))[j]? = some u → X.cell? ⟨b', o' + k * 7 + j, none⟩ = some u) := fun X hX j u hu => (hX.cell (p := ⟨b', o' + k * 7 + j, none⟩) hb').trans (hc' k hlt j u hu)
      have hS : sameP (eP xs k) (eP xs k) = true := sameP_iff.2 rfl
      have h1 := (hx.below hbel).each k hlt
      have h2 := (hy.below hbel).each k hlt
      clear hc hc' hb hb'
      have hki : (k : Int) < (m : Int) := by omega
      go_upto_region 6 with (fail)
      refine wp_region_noPanic ?_
      refine wp_region_held_drew (S := Below wr.heap.size wr) (by kernel_rfl) (Below.refl _ _).drew (fun hHeld => ?_)
      refine wpAnyH_take (i := 0) (v := ?_) rfl (by kernel_rfl) (by kernel_rfl) (by kernel_rfl) (fun _ _ _ h => h) (Or.inl ⟨by rfl, ?_⟩) hHeld ?_
      rotate_left
      · intro w' hSw; try dsimp only at hSw
        go_simp; try (with_reducible rfl)
      try simp only [Act.put, List.getElem_toArray, List.getElem_cons_succ, List.getElem_cons_zero, List.setIfInBounds_toArray, List.set_cons_zero, List.set_cons_succ]
      refine wpAnyH_take (i := 1) (v := ?_) rfl (by kernel_rfl) (by kernel_rfl) (by kernel_rfl) (fun _ _ _ h => h) (Or.inl ⟨by rfl, ?_⟩) hHeld ?_
      rotate_left
      · intro w' hSw; try dsimp only at hSw
        go_simp; try (with_reducible rfl)
      try simp only [Act.put, List.getElem_toArray, List.getElem_cons_succ, List.getElem_cons_zero, List.setIfInBounds_toArray, List.set_cons_zero, List.set_cons_succ]
      refine wpAnyH_take (i := 2) (v := ?_) rfl (by kernel_rfl) (by kernel_rfl) (by kernel_rfl) (fun _ _ _ h => h) (Or.inl ⟨by rfl, ?_⟩) hHeld ?_
      rotate_left
      · intro w' hSw; try dsimp only at hSw
        go_simp; try (with_reducible rfl)
      try simp only [Act.put, List.getElem_toArray, List.getElem_cons_succ, List.getElem_cons_zero, List.setIfInBounds_toArray, List.set_cons_zero, List.set_cons_succ]
      refine wpAnyH_take (i := 3) (v := ?_) rfl (by kernel_rfl) (by kernel_rfl) (by kernel_rfl) (fun _ _ _ h => h) (Or.inl ⟨by rfl, ?_⟩) hHeld ?_
      rotate_left
      · intro w' hSw; try dsimp only at hSw
        have t0 := HC.out _ hSw 0 _ rfl
        have t1 := HC.out _ hSw 1 _ rfl
        have t2 := HC.out _ hSw 2 _ rfl
        have t3 := HC.out _ hSw 3 _ rfl
        have t4 := HC.out _ hSw 4 _ rfl
        have t5 := HC.out _ hSw 5 _ rfl
        have t6 := HC.out _ hSw 6 _ rfl
        simp only [Nat.add_zero] at t0
        go_simp; try (with_reducible rfl)
      try simp only [Act.put, List.getElem_toArray, List.getElem_cons_succ, List.getElem_cons_zero, List.setIfInBounds_toArray, List.set_cons_zero, List.set_cons_succ]
      refine wpAnyH_take (i := 4) (v := ?_) rfl (by kernel_rfl) (by kernel_rfl) (by kernel_rfl) (fun _ _ _ h => h) (Or.inl ⟨by rfl, ?_⟩) hHeld ?_
      rotate_left
      · intro w' hSw; try dsimp only at hSw
        go_simp; try (with_reducible rfl)
      try simp only [Act.put, List.getElem_toArray, List.getElem_cons_succ, List.getElem_cons_zero, List.setIfInBounds_toArray, List.set_cons_zero, List.set_cons_succ]
      refine wpAnyH_take (i := 5) (v := ?_) rfl (by kernel_rfl) (by kernel_rfl) (by kernel_rfl) (fun _ _ _ h => h) (Or.inl ⟨by rfl, ?_⟩) hHeld ?_
      rotate_left
      · intro w' hSw; try dsimp only at hSw
        go_simp; try (with_reducible rfl)
      try simp only [Act.put, List.getElem_toArray, List.getElem_cons_succ, List.getElem_cons_zero, List.setIfInBounds_toArray, List.set_cons_zero, List.set_cons_succ]
      refine wpAnyH_take (i := 6) (v := ?_) rfl (by kernel_rfl) (by kernel_rfl) (by kernel_rfl) (fun _ _ _ h => h) (Or.inl ⟨by rfl, ?_⟩) hHeld ?_
      rotate_left
      · intro w' hSw; try dsimp only at hSw
        go_simp; try (with_reducible rfl)
      try simp only [Act.put, List.getElem_toArray, List.getElem_cons_succ, List.getElem_cons_zero, List.setIfInBounds_toArray, List.set_cons_zero, List.set_cons_succ]
      refine wpAnyH_take (i := 7) (v := ?_) rfl (by kernel_rfl) (by kernel_rfl) (by kernel_rfl) (fun _ _ _ h => h) (Or.inl ⟨by rfl, ?_⟩) hHeld ?_
      rotate_left
      · intro w' hSw; try dsimp only at hSw
        have t0 := HC'.out _ hSw 0 _ rfl
        have t1 := HC'.out _ hSw 1 _ rfl
        have t2 := HC'.out _ hSw 2 _ rfl
        have t3 := HC'.out _ hSw 3 _ rfl
        have t4 := HC'.out _ hSw 4 _ rfl
        have t5 := HC'.out _ hSw 5 _ rfl
        have t6 := HC'.out _ hSw 6 _ rfl
        simp only [Nat.add_zero] at t0
        go_simp; try (with_reducible rfl)
      try simp only [Act.put, List.getElem_toArray, List.getElem_cons_succ, List.getElem_cons_zero, List.setIfInBounds_toArray, List.set_cons_zero, List.set_cons_succ]
      refine wpAnyH_ready (rs := [8]) (by kernel_rfl) (by simp) ?_
      refine AllReadyH.cons rfl (fun K hK => ?_) AllReadyH.nil
      go_simp
      refine (rsamePage_any (f k) (g k) (eP xs k) (eP xs k) _ (h1.below hHeld) (h2.below hHeld)).mono ?_
      rw [hS]
      rintro e w4 ⟨rfl, hb4⟩
      try go_wp2_with fail
      refine hK.out _ _ (bt hHeld hb4) (fun hHeld => ?_)
      clear hK K
      try simp only [Act.put, List.getElem_toArray, List.getElem_cons_succ, List.getElem_cons_zero, List.setIfInBounds_toArray, List.set_cons_zero, List.set_cons_succ]
      refine wpAnyH_take (i := 9) (v := ?_) rfl (by kernel_rfl) (by kernel_rfl) (by kernel_rfl) (fun _ _ _ h => h) (Or.inl ⟨by rfl, ?_⟩) hHeld ?_
      rotate_left
      · intro w' hSw; try dsimp only at hSw
        go_simp; try (with_reducible rfl)
      try simp only [Act.put, List.getElem_toArray, List.getElem_cons_succ, List.getElem_cons_zero, List.setIfInBounds_toArray, List.set_cons_zero, List.set_cons_succ]
      refine wpAnyH_done (by kernel_rfl) ?_ _
      refine NoPanic.normal ?_
      go_wp2
      go_roundw
      case rel => exact ⟨k + 1, by omega, by go_num, bt hbel hHeld⟩
      case measure => simp [intOf]; omega
    · go_wp2
      go_ret
      exact ⟨rfl, hbel⟩
end Go.Proofs.Ytpikaagdiafieaa
