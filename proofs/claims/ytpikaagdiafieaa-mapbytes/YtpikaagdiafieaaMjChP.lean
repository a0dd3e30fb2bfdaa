/-
  What Diff and the reference's Diff answer, whatever the states; rows of records held against each other.
-/
import Derived.Test.YtpikaagdiafieaaMjDiffP
import Derived.Test.YtpikaagdiafieaaMjDiffR
namespace Go.Proofs.Ytpikaagdiafieaa
open Go.RowKit
theorem diffR_no {a b : MS} (h : bothE a b = 60) : diffR a b = ([], 60) := by
  unfold bothE at h; unfold diffR
  cases h1 : okMS a <;> cases h2 : okMS b <;> simp_all
theorem bothE_or (a b : MS) : bothE a b = 60 ∨ (okMS a = true ∧ okMS b = true) := by
  unfold bothE
  cases h1 : okMS a <;> cases h2 : okMS b <;> simp
theorem bothE_0 {a b : MS} (h1 : okMS a = true) (h2 : okMS b = true) : bothE a b = 0 := by unfold bothE; rw [h1, h2]; rfl
theorem covers_e {a b : MS} (h : coversB a b = true) : joinE a b = 0 := by
  unfold coversB at h
  simp at h
  exact h.1
set_option maxHeartbeats 1000000 in
theorem diff_any (V U : SV) (a b : MS) (w : World) (ha : InS w V a) (hb : InS w U b) : Calls Try.prog 22 #[V.val a, U.val b] w (ResR w (diffR a b)) := by
  have h0 := B2.start w V U a b
  rcases bothE_or a b with hbo | ⟨hoa, hob⟩
  · have hcb := checkBoth_any V U a b _ (ha.below h0.bel) (hb.below h0.bel)
    rw [hbo] at hcb
    have E : Hid (diffR a b = ([], 60)) := diffR_no hbo
    obtain ⟨x0, x1, x2⟩ := h0.ba.cells3
    obtain ⟨y0, y1, y2⟩ := h0.bb.cells3
    clear hbo
    go_enter Try.func22, Try.ntmps22
    go_wp2_with (go_at_call 45; refine hcb.mono ?_; rintro e w1 ⟨rfl, hb1⟩)
    go_ret2
    rw [E.out]
    exact ⟨_, rfl, nilR _ _, bt h0.bel hb1⟩
  · cases hcov : coversB b a with
    | true =>
      obtain ⟨-, -, hlen⟩ := joinE_iff.1 (covers_e hcov)
      obtain ⟨-, ka3, -⟩ := okMS_iff.1 hoa
      obtain ⟨-, kb3, -⟩ := okMS_iff.1 hob
      have l1 := ha.b.len
      have l2 := ha.v.len
      have l3 := hb.b.len
      have l4 := hb.v.len
      obtain ⟨p, n, c, q, m, d⟩ := V
      obtain ⟨p', n', c', q', m', d'⟩ := U
      dsimp only at l1 l2 l3 l4
      obtain rfl : m = n := by omega
      obtain rfl : n' = m := by omega
      obtain rfl : m' = n' := by omega
      exact diff_ok _ _ _ _ _ _ _ _ _ a b w ha hb hoa hob hcov
    | false =>
      have hcb := checkBoth_any V U a b _ (ha.below h0.bel) (hb.below h0.bel)
      rw [bothE_0 hoa hob] at hcb
      have hcv := fun W' h' => covers_any U V b a W' (hb.below h') (ha.below h')
      rw [hcov] at hcv
      have E : Hid (diffR a b = ([], 1)) := by show _ = _; unfold diffR; rw [hoa, hob, hcov]; rfl
      obtain ⟨x0, x1, x2⟩ := h0.ba.cells3
      obtain ⟨y0, y1, y2⟩ := h0.bb.cells3
      clear hoa hob hcov
      go_enter Try.func22, Try.ntmps22
      go_wp2_with (first
        | (go_at_call 45; refine hcb.mono ?_; rintro e w1 ⟨rfl, hb1⟩; have h1 := h0.next hb1; obtain ⟨x0, x1, x2⟩ := h1.ba.cells3; obtain ⟨y0, y1, y2⟩ := h1.bb.cells3)
        | (go_at_call 17; refine (hcv _ h1.bel).mono ?_; rintro e w2 ⟨rfl, hb2⟩))
      go_ret2
      rw [E.out]
      exact ⟨_, rfl, nilR _ _, bt h1.bel hb2⟩
set_option maxHeartbeats 1000000 in
theorem rdiff_any (V U : SV) (a b : MS) (w : World) (ha : InS w V a) (hb : InS w U b) : Calls Try.prog 23 #[V.val a, U.val b] w (ResR w (diffR a b)) := by
  have h0 := B2.start w V U a b
  have hca := rcheck_any V a _ (ha.below h0.bel)
  have hcb := fun W' h' => rcheck_any U b W' (hb.below h')
  obtain ⟨x0, x1, x2⟩ := h0.ba.cells3
  obtain ⟨y0, y1, y2⟩ := h0.bb.cells3
  cases hoa : okMS a with
  | false =>
    rw [chkE_no hoa] at hca
    have E : Hid (diffR a b = ([], 60)) := by show _ = _; unfold diffR; rw [hoa]; rfl
    clear hoa
    go_enter Try.func23, Try.ntmps23
    go_wp2_with (go_at_call 16; refine hca.mono ?_; rintro e w1 ⟨rfl, hb1⟩)
    go_ret2
    rw [E.out]
    exact ⟨_, rfl, nilR _ _, bt h0.bel hb1⟩
  | true =>
    cases hob : okMS b with
    | false =>
      rw [chkE_ok hoa] at hca
      rw [chkE_no hob] at hcb
      have E : Hid (diffR a b = ([], 60)) := by show _ = _; unfold diffR; rw [hoa, hob]; rfl
      clear hoa hob
      go_enter Try.func23, Try.ntmps23
      go_wp2_with (first
        | (go_at_call 16; refine hca.mono ?_; rintro e w1 ⟨rfl, hb1⟩; have h1 := h0.next hb1; obtain ⟨x0, x1, x2⟩ := h1.ba.cells3; obtain ⟨y0, y1, y2⟩ := h1.bb.cells3; clear hca)
        | (go_at_call 16; refine (hcb _ h1.bel).mono ?_; rintro e w2 ⟨rfl, hb2⟩))
      go_ret2
      rw [E.out]
      exact ⟨_, rfl, nilR _ _, bt h1.bel hb2⟩
    | true =>
      cases hcov : coversB b a with
      | true =>
        obtain ⟨-, -, hlen⟩ := joinE_iff.1 (covers_e hcov)
        obtain ⟨-, ka3, -⟩ := okMS_iff.1 hoa
        obtain ⟨-, kb3, -⟩ := okMS_iff.1 hob
        have l1 := ha.b.len
        have l2 := ha.v.len
        have l3 := hb.b.len
        have l4 := hb.v.len
        obtain ⟨p, n, c, q, m, d⟩ := V
        obtain ⟨p', n', c', q', m', d'⟩ := U
        dsimp only at l1 l2 l3 l4
        obtain rfl : m = n := by omega
        obtain rfl : n' = m := by omega
        obtain rfl : m' = n' := by omega
        exact rdiff_ok _ _ _ _ _ _ _ _ _ a b w ha hb hoa hob hcov
      | false =>
        rw [chkE_ok hoa] at hca
        rw [chkE_ok hob] at hcb
        have hcv := fun W' h' => rcovers_any U V b a W' (hb.below h') (ha.below h')
        rw [hcov] at hcv
        have E : Hid (diffR a b = ([], 1)) := by show _ = _; unfold diffR; rw [hoa, hob, hcov]; rfl
        clear hoa hob hcov
        go_enter Try.func23, Try.ntmps23
        go_wp2_with (first
          | (go_at_call 16; refine hca.mono ?_; rintro e w1 ⟨rfl, hb1⟩; have h1 := h0.next hb1; obtain ⟨x0, x1, x2⟩ := h1.ba.cells3; obtain ⟨y0, y1, y2⟩ := h1.bb.cells3; clear hca)
          | (go_at_call 16; refine (hcb _ h1.bel).mono ?_; rintro e w2 ⟨rfl, hb2⟩; have h2 := h1.next hb2; obtain ⟨x0, x1, x2⟩ := h2.ba.cells3; obtain ⟨y0, y1, y2⟩ := h2.bb.cells3; clear hcb)
          | (go_at_call 18; refine (hcv _ h2.bel).mono ?_; rintro e w3 ⟨rfl, hb3⟩))
        go_ret2
        rw [E.out]
        exact ⟨_, rfl, nilR _ _, bt h2.bel hb3⟩
def MR.tup (r : MR) : Int × Int × Int := (r.kind, r.block, r.value)
/-- Whether two rows of records are the same. -/
def sameL (xs ys : List MR) : Bool := xs.map MR.tup == ys.map MR.tup
theorem tup_inj {r q : MR} (h : r.tup = q.tup) : r = q := by
  cases r; cases q
  simp [MR.tup] at h
  simp [h]
theorem sameL_iff {xs ys : List MR} : sameL xs ys = true ↔ xs = ys := by
  unfold sameL
  rw [beq_iff_eq]
  constructor
  · intro h
    induction xs generalizing ys with
    | nil => cases ys with
      | nil => rfl
      | cons y ys => simp at h
    | cons x xs ih => cases ys with
      | nil => simp at h
      | cons y ys =>
        simp only [List.map_cons, List.cons.injEq] at h
        rw [tup_inj h.1, ih h.2]
  · rintro rfl; rfl
theorem sameL_no {xs ys : List MR} (h : ¬ xs = ys) : sameL xs ys = false := by
  cases hq : sameL xs ys with
  | false => rfl
  | true => exact absurd (sameL_iff.1 hq) h
theorem eq_listR (xs ys : List MR) (hl : xs.length = ys.length) (h : ∀ i, i < xs.length → eR xs i = eR ys i) : xs = ys := by
  apply List.ext_getElem hl
  intro i h1 h2
  have := h i h1
  simpa [eR, h1, h2] using this
theorem ne_listR {xs ys : List MR} {k : Nat} (h : eR xs k ≠ eR ys k) : sameL xs ys = false := by
  apply sameL_no
  rintro rfl
  exact h rfl
set_option maxHeartbeats 1000000 in
theorem sameRecs_any (p q : Option Addr) (n c m d : Nat) (xs ys : List MR) (w : World) (hx : InR w p n c xs) (hy : InR w q m d ys) :
    Calls Try.prog 24 #[.slice p n c, .slice q m d] w fun e w' => e = .returned (.bool (sameL xs ys)) ∧ Below w.heap.size w w' := by
  have hroom := hx.room
  have HX : Hid (xs.length = n) := hx.len
  have HY : Hid (ys.length = m) := hy.len
  by_cases hnm : n = m
  · subst hnm
    go_enter Try.func24, Try.ntmps24
    go_wp2
    go_loopw [5] (fun i wr => ∃ k : Nat, k ≤ n ∧ i = .int .i64 k ∧ (∃ j, wr = w.drewN j) ∧ ∀ i, i < k → eR xs i = eR ys i) (fun i _ => n - (intOf i).toNat)
    case atStart => exact ⟨0, Nat.zero_le _, rfl, ⟨0, rfl⟩, fun i h => by omega⟩
    case round =>
      obtain ⟨k, hk, rfl, ⟨j, rfl⟩, hall⟩ := hrel
      have HA : Hid (∀ i, i < k → eR xs i = eR ys i) := hall
      clear hall
      by_cases hlt : k < n
      · obtain ⟨b, o, rfl, hb, hc⟩ := hx.at' (by omega)
        obtain ⟨b', o', rfl, hb', hc'⟩ := hy.at' (by omega)
        obtain ⟨k0, k1, k2⟩ := hc k hlt
        obtain ⟨l0, l1, l2⟩ := hc' k hlt
        clear hc hc'
        by_cases hq : eR xs k = eR ys k
        · have HE : Hid (eR xs k = eR ys k) := hq
          rw [← hq] at l0 l1 l2
          clear hq
          go_wp2
          go_quiet (fail)
          go_wp2
          go_roundw
          case rel =>
            refine ⟨k + 1, by omega, by go_num, ⟨_, rfl⟩, fun i hi => ?_⟩
            rcases Nat.lt_succ_iff_lt_or_eq.1 hi with h | h
            · exact HA.out i h
            · rw [h]; exact HE.out
          case measure => simp [intOf]; omega
        · have HN : Hid (sameL xs ys = false) := ne_listR hq
          clear HA
          generalize eR xs k = r at *
          generalize eR ys k = r' at *
          obtain ⟨a0, a1, a2⟩ := r
          obtain ⟨b0, b1, b2⟩ := r'
          dsimp only at k0 k1 k2 l0 l1 l2
          by_cases h0 : a0 = b0
          · subst h0
            by_cases h1 : a1 = b1
            · subst h1
              have n2 : (a2 == b2) = false := by
                rw [beq_eq_false_iff_ne]
                rintro rfl
                exact hq rfl
              clear hq
              go_wp2
              go_quiet (fail)
              go_wp2
              go_ret
              exact ⟨ret_bool HN.out.symm, below_drewN (below_drewN (Below.refl _ _) _) _⟩
            · have n1 : (a1 == b1) = false := by rw [beq_eq_false_iff_ne]; exact h1
              clear h1 hq
              go_wp2
              go_quiet (fail)
              go_wp2
              go_ret
              exact ⟨ret_bool HN.out.symm, below_drewN (below_drewN (Below.refl _ _) _) _⟩
          · have n0 : (a0 == b0) = false := by rw [beq_eq_false_iff_ne]; exact h0
            clear h0 hq
            go_wp2
            go_quiet (fail)
            go_wp2
            go_ret
            exact ⟨ret_bool HN.out.symm, below_drewN (below_drewN (Below.refl _ _) _) _⟩
      · go_wp2
        go_ret
        refine ⟨ret_bool ?_, below_drewN (Below.refl _ _) _⟩
        rw [eq_listR xs ys (by rw [HX.out, HY.out]) (fun i hi => HA.out i (by have := HX.out; omega))]
        exact (sameL_iff.2 rfl).symm
  · have hne : ((n : Int) != (m : Int)) = true := by rw [bne_iff_ne]; omega
    have HN : Hid (sameL xs ys = false) := by
      show _ = _
      apply sameL_no
      rintro rfl
      exact hnm (by rw [← HX.out, ← HY.out])
    clear hnm
    go_enter Try.func24, Try.ntmps24
    go_wp2
    go_ret
    exact ⟨ret_bool HN.out.symm, Below.refl _ _⟩
end Go.Proofs.Ytpikaagdiafieaa
