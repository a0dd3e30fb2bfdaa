/-
  What the reference's SameRecords and SamePage answer.
-/
import Derived.Test.YtpikaagdiafieabMjReplay
import Derived.Test.YtpikaagdiafieabMjRefS
namespace Go.Proofs.Ytpikaagdiafieab
open Go.RowKit
def MR.tup (r : MR) : Int × Int × Int := (r.kind, r.block, r.value)
/-- Whether two rows of records are the same. -/
def sameL (xs ys : List MR) : Bool := xs.map MR.tup == ys.map MR.tup
theorem tup_inj {r q : MR} (h : r.tup = q.tup) : r = q := by
  cases r; cases q
  simp [MR.tup] at h
  simp [h]
theorem sameL_iff {xs ys : List MR} : sameL xs ys = true ↔ xs = ys := by
  unfold sameL
  rw [beq_iff_eq]
  constructor
  · intro h
    induction xs generalizing ys with
    | nil => cases ys with
      | nil => rfl
      | cons y ys => simp at h
    | cons x xs ih => cases ys with
      | nil => simp at h
      | cons y ys =>
        simp only [List.map_cons, List.cons.injEq] at h
        rw [tup_inj h.1, ih h.2]
  · rintro rfl; rfl
theorem sameL_no {xs ys : List MR} (h : ¬ xs = ys) : sameL xs ys = false := by
  cases hq : sameL xs ys with
  | false => rfl
  | true => exact absurd (sameL_iff.1 hq) h
theorem eq_listR (xs ys : List MR) (hl : xs.length = ys.length) (h : ∀ i, i < xs.length → eR xs i = eR ys i) : xs = ys := by
  apply List.ext_getElem hl
  intro i h1 h2
  have := h i h1
  simpa [eR, h1, h2] using this
theorem ne_listR {xs ys : List MR} {k : Nat} (h : eR xs k ≠ eR ys k) : sameL xs ys = false := by
  apply sameL_no
  rintro rfl
  exact h rfl
set_option maxHeartbeats 1000000 in
theorem sameRecs_any (p q : Option Addr) (n c m d : Nat) (xs ys : List MR) (w : World) (hx : InR w p n c xs) (hy : InR w q m d ys) :
    Calls Try.prog 35 #[.slice p n c, .slice q m d] w fun e w' => e = .returned (.bool (sameL xs ys)) ∧ Below w.heap.size w w' := by
  have hroom := hx.room
  have HX : Hid (xs.length = n) := hx.len
  have HY : Hid (ys.length = m) := hy.len
  by_cases hnm : n = m
  · subst hnm
    go_enter Try.func35, Try.ntmps35
    go_wp2
    go_loopw [5] (fun i wr => ∃ k : Nat, k ≤ n ∧ i = .int .i64 k ∧ (∃ j, wr = w.drewN j) ∧ ∀ i, i < k → eR xs i = eR ys i) (fun i _ => n - (intOf i).toNat)
    case atStart => exact ⟨0, Nat.zero_le _, rfl, ⟨0, rfl⟩, fun i h => by omega⟩
    case round =>
      obtain ⟨k, hk, rfl, ⟨j, rfl⟩, hall⟩ := hrel
      have HA : Hid (∀ i, i < k → eR xs i = eR ys i) := hall
      clear hall
      by_cases hlt : k < n
      · obtain ⟨b, o, rfl, hb, hc⟩ := hx.at' (by omega)
        obtain ⟨b', o', rfl, hb', hc'⟩ := hy.at' (by omega)
        obtain ⟨k0, k1, k2⟩ := hc k hlt
        obtain ⟨l0, l1, l2⟩ := hc' k hlt
        clear hc hc'
        by_cases hq : eR xs k = eR ys k
        · have HE : Hid (eR xs k = eR ys k) := hq
          rw [← hq] at l0 l1 l2
          clear hq
          go_wp2
          go_quiet (fail)
          go_wp2
          go_roundw
          case rel =>
            refine ⟨k + 1, by omega, by go_num, ⟨_, rfl⟩, fun i hi => ?_⟩
            rcases Nat.lt_succ_iff_lt_or_eq.1 hi with h | h
            · exact HA.out i h
            · rw [h]; exact HE.out
          case measure => simp [intOf]; omega
        · have HN : Hid (sameL xs ys = false) := ne_listR hq
          clear HA
          generalize eR xs k = r at *
          generalize eR ys k = r' at *
          obtain ⟨a0, a1, a2⟩ := r
          obtain ⟨b0, b1, b2⟩ := r'
          dsimp only at k0 k1 k2 l0 l1 l2
          by_cases h0 : a0 = b0
          · subst h0
            by_cases h1 : a1 = b1
            · subst h1
              have n2 : (a2 == b2) = false := by
                rw [beq_eq_false_iff_ne]
                rintro rfl
                exact hq rfl
              clear hq
              go_wp2
              go_quiet (fail)
              go_wp2
              go_ret
              exact ⟨ret_bool HN.out.symm, below_drewN (below_drewN (Below.refl _ _) _) _⟩
            · have n1 : (a1 == b1) = false := by rw [beq_eq_false_iff_ne]; exact h1
              clear h1 hq
              go_wp2
              go_quiet (fail)
              go_wp2
              go_ret
              exact ⟨ret_bool HN.out.symm, below_drewN (below_drewN (Below.refl _ _) _) _⟩
          · have n0 : (a0 == b0) = false := by rw [beq_eq_false_iff_ne]; exact h0
            clear h0 hq
            go_wp2
            go_quiet (fail)
            go_wp2
            go_ret
            exact ⟨ret_bool HN.out.symm, below_drewN (below_drewN (Below.refl _ _) _) _⟩
      · go_wp2
        go_ret
        refine ⟨ret_bool ?_, below_drewN (Below.refl _ _) _⟩
        rw [eq_listR xs ys (by rw [HX.out, HY.out]) (fun i hi => HA.out i (by have := HX.out; omega))]
        exact (sameL_iff.2 rfl).symm
  · have hne : ((n : Int) != (m : Int)) = true := by rw [bne_iff_ne]; omega
    have HN : Hid (sameL xs ys = false) := by
      show _ = _
      apply sameL_no
      rintro rfl
      exact hnm (by rw [← HX.out, ← HY.out])
    clear hnm
    go_enter Try.func35, Try.ntmps35
    go_wp2
    go_ret
    exact ⟨ret_bool HN.out.symm, Below.refl _ _⟩
def sameP (P Q : MP) : Bool := (P.kind == Q.kind) && ((P.gen == Q.gen) && ((P.part == Q.part) && ((P.seq == Q.seq) && ((P.bad == Q.bad) && ((P.wear == Q.wear) && sameL P.recs Q.recs)))))
theorem sameP_iff {P Q : MP} : sameP P Q = true ↔ P = Q := by
  cases P; cases Q
  simp [sameP, sameL_iff]
structure P2 (w : World) (V U : PV) (P Q : MP) (W : World) : Prop where
  bel : Below w.heap.size w W
  ba : Blk W w.heap.size 34 (V.cells P)
  bb : Blk W (w.heap.size + 1) 34 (U.cells Q)
theorem P2.start (w : World) (V U : PV) (P Q : MP) : P2 w V U P Q ((w.alloc (.cells #[.int .i64 P.kind, .int .i64 P.gen, .int .i64 P.part, .int .i64 P.seq, .slice V.pb V.nb V.cb, .slice V.pw V.nw V.cw, .slice V.pr V.nr V.cr] 34)).alloc (.cells #[.int .i64 Q.kind, .int .i64 Q.gen, .int .i64 Q.part, .int .i64 Q.seq, .slice U.pb U.nb U.cb, .slice U.pw U.nw U.cw, .slice U.pr U.nr U.cr] 34)) := by
  refine ⟨bt (below_alloc w _) (below_alloc _ _), (Blk.new' w 34 #[.int .i64 P.kind, .int .i64 P.gen, .int .i64 P.part, .int .i64 P.seq, .slice V.pb V.nb V.cb, .slice V.pw V.nw V.cw, .slice V.pr V.nr V.cr]).alloc _, ?_⟩
  have := Blk.new' (w.alloc (.cells #[.int .i64 P.kind, .int .i64 P.gen, .int .i64 P.part, .int .i64 P.seq, .slice V.pb V.nb V.cb, .slice V.pw V.nw V.cw, .slice V.pr V.nr V.cr] 34)) 34 #[.int .i64 Q.kind, .int .i64 Q.gen, .int .i64 Q.part, .int .i64 Q.seq, .slice U.pb U.nb U.cb, .slice U.pw U.nw U.cw, .slice U.pr U.nr U.cr]
  rwa [World.size_alloc] at this
theorem P2.next {w W W' : World} {V U : PV} {P Q : MP} (h : P2 w V U P Q W) (hb : Below W.heap.size W W') : P2 w V U P Q W' := ⟨bt h.bel hb, h.ba.kept hb, h.bb.kept hb⟩
set_option maxHeartbeats 2000000 in
theorem rsamePage_any (V U : PV) (P Q : MP) (w : World) (hP : InP w V P) (hQ : InP w U Q) :
    Calls Try.prog 15 #[V.val P, U.val Q] w fun e w' => e = .returned (.bool (sameP P Q)) ∧ Below w.heap.size w w' := by
  have h0 := P2.start w V U P Q
  obtain ⟨x0, x1, x2, x3, x4, x5, x6⟩ := h0.ba.cells7
  obtain ⟨y0, y1, y2, y3, y4, y5, y6⟩ := h0.bb.cells7
  cases e0 : (P.kind == Q.kind) with
  | false =>
    have E : Hid (sameP P Q = false) := by show _ = _; unfold sameP; rw [e0]; simp
    go_enter Try.func15, Try.ntmps15
    go_wp2
    go_ret
    exact ⟨ret_bool E.out.symm, h0.bel⟩
  | true =>
    cases e1 : (P.gen == Q.gen) with
    | false =>
      have E : Hid (sameP P Q = false) := by show _ = _; unfold sameP; rw [e0, e1]; simp
      go_enter Try.func15, Try.ntmps15
      go_wp2
      go_ret
      exact ⟨ret_bool E.out.symm, h0.bel⟩
    | true =>
      cases e2 : (P.part == Q.part) with
      | false =>
        have E : Hid (sameP P Q = false) := by show _ = _; unfold sameP; rw [e0, e1, e2]; simp
        go_enter Try.func15, Try.ntmps15
        go_wp2
        go_ret
        exact ⟨ret_bool E.out.symm, h0.bel⟩
      | true =>
        cases e3 : (P.seq == Q.seq) with
        | false =>
          have E : Hid (sameP P Q = false) := by show _ = _; unfold sameP; rw [e0, e1, e2, e3]; simp
          go_enter Try.func15, Try.ntmps15
          go_wp2
          go_ret
          exact ⟨ret_bool E.out.symm, h0.bel⟩
        | true =>
          cases e4 : (P.bad == Q.bad) with
          | false =>
            have E : Hid (sameP P Q = false) := by show _ = _; unfold sameP; rw [e0, e1, e2, e3, e4]; simp
            go_enter Try.func15, Try.ntmps15
            go_wp2_with (first | (go_at_call 25; refine (rbools_any _ _ _ _ _ _ P.bad Q.bad _ (hP.b.below h0.bel) (hQ.b.below h0.bel)).mono ?_; rintro e w1 ⟨rfl, hb1⟩; rw [e4]))
            go_ret
            exact ⟨ret_bool E.out.symm, bt h0.bel hb1⟩
          | true =>
            cases e5 : (P.wear == Q.wear) with
            | false =>
              have E : Hid (sameP P Q = false) := by show _ = _; unfold sameP; rw [e0, e1, e2, e3, e4, e5]; simp
              go_enter Try.func15, Try.ntmps15
              go_wp2_with (first | (go_at_call 25; refine (rbools_any _ _ _ _ _ _ P.bad Q.bad _ (hP.b.below h0.bel) (hQ.b.below h0.bel)).mono ?_; rintro e w1 ⟨rfl, hb1⟩; rw [e4]; have h1 := h0.next hb1; obtain ⟨x0, x1, x2, x3, x4, x5, x6⟩ := h1.ba.cells7; obtain ⟨y0, y1, y2, y3, y4, y5, y6⟩ := h1.bb.cells7) | (go_at_call 26; refine (rnums_any _ _ _ _ _ _ P.wear Q.wear _ (hP.v.below h1.bel) (hQ.v.below h1.bel)).mono ?_; rintro e w2 ⟨rfl, hb2⟩; rw [e5]))
              go_ret
              exact ⟨ret_bool E.out.symm, bt h1.bel hb2⟩
            | true =>
              have E : Hid (sameP P Q = sameL P.recs Q.recs) := by show _ = _; unfold sameP; rw [e0, e1, e2, e3, e4, e5]; simp
              go_enter Try.func15, Try.ntmps15
              go_wp2_with (first | (go_at_call 25; refine (rbools_any _ _ _ _ _ _ P.bad Q.bad _ (hP.b.below h0.bel) (hQ.b.below h0.bel)).mono ?_; rintro e w1 ⟨rfl, hb1⟩; rw [e4]; have h1 := h0.next hb1; obtain ⟨x0, x1, x2, x3, x4, x5, x6⟩ := h1.ba.cells7; obtain ⟨y0, y1, y2, y3, y4, y5, y6⟩ := h1.bb.cells7) | (go_at_call 26; refine (rnums_any _ _ _ _ _ _ P.wear Q.wear _ (hP.v.below h1.bel) (hQ.v.below h1.bel)).mono ?_; rintro e w2 ⟨rfl, hb2⟩; rw [e5]; have h2 := h1.next hb2; obtain ⟨x0, x1, x2, x3, x4, x5, x6⟩ := h2.ba.cells7; obtain ⟨y0, y1, y2, y3, y4, y5, y6⟩ := h2.bb.cells7) | (go_at_call 35; refine (sameRecs_any _ _ _ _ _ _ P.recs Q.recs _ (hP.r.below h2.bel) (hQ.r.below h2.bel)).mono ?_; rintro e w3 ⟨rfl, hb3⟩))
              go_ret
              exact ⟨ret_bool E.out.symm, bt h2.bel hb3⟩
end Go.Proofs.Ytpikaagdiafieab
