/-
  What the reference's Same, New and Check answer.
-/
import Derived.Test.YtpikaagdiafieabMjBegun
namespace Go.Proofs.Ytpikaagdiafieab
open Go.RowKit
theorem rnums_any (p q : Option Addr) (n c m d : Nat) (xs ys : List Int) (w : World) (hx : InI w p n c xs) (hy : InI w q m d ys) :
    Calls Try.prog 26 #[.slice p n c, .slice q m d] w fun e w' => e = .returned (.bool (xs == ys)) ∧ Below w.heap.size w w' := by
  have hroom := hx.room
  have HX : Hid (xs.length = n) := hx.len
  have HY : Hid (ys.length = m) := hy.len
  by_cases hnm : n = m
  · subst hnm
    go_enter Try.func26, Try.ntmps26
    go_wp2
    go_loopw [5] (fun i wr => ∃ k : Nat, k ≤ n ∧ i = .int .i64 k ∧ (∃ j, wr = w.drewN j) ∧ ∀ i, i < k → eI xs i = eI ys i) (fun i _ => n - (intOf i).toNat)
    case atStart => exact ⟨0, Nat.zero_le _, rfl, ⟨0, rfl⟩, fun i h => by omega⟩
    case round =>
      obtain ⟨k, hk, rfl, ⟨j, rfl⟩, hall⟩ := hrel
      have HA : Hid (∀ i, i < k → eI xs i = eI ys i) := hall
      clear hall
      by_cases hlt : k < n
      · obtain ⟨b, o, rfl, hb, hc⟩ := hx.at' (by omega)
        obtain ⟨b', o', rfl, hb', hc'⟩ := hy.at' (by omega)
        have hck := hc k hlt
        have hck' := hc' k hlt
        clear hc hc'
        cases hq : (eI xs k != eI ys k) with
        | true =>
          have HN : Hid ((xs == ys) = false) := ne_listI hq
          go_wp2
          go_quiet (fail)
          go_wp2
          go_ret
          exact ⟨ret_bool HN.out.symm, below_drewN (below_drewN (Below.refl _ _) _) _⟩
        | false =>
          have HE : Hid (eI xs k = eI ys k) := WalkArith.int_eq' hq
          go_wp2
          go_quiet (fail)
          go_wp2
          go_roundw
          case rel =>
            refine ⟨k + 1, by omega, by go_num, ⟨_, rfl⟩, fun i hi => ?_⟩
            rcases Nat.lt_succ_iff_lt_or_eq.1 hi with h | h
            · exact HA.out i h
            · rw [h]; exact HE.out
          case measure => simp [intOf]; omega
      · go_wp2
        go_ret
        refine ⟨ret_bool ?_, below_drewN (Below.refl _ _) _⟩
        rw [eq_listI xs ys (by rw [HX.out, HY.out]) (fun i hi => HA.out i (by have := HX.out; omega))]
        simp
  · have hne : ((n : Int) != (m : Int)) = true := by rw [bne_iff_ne]; omega
    have HN : Hid ((xs == ys) = false) := ne_listL HX.out HY.out hnm
    clear hnm
    go_enter Try.func26, Try.ntmps26
    go_wp2
    go_ret
    exact ⟨ret_bool HN.out.symm, Below.refl _ _⟩
theorem rbools_any (p q : Option Addr) (n c m d : Nat) (xs ys : List Bool) (w : World) (hx : InB w p n c xs) (hy : InB w q m d ys) :
    Calls Try.prog 25 #[.slice p n c, .slice q m d] w fun e w' => e = .returned (.bool (xs == ys)) ∧ Below w.heap.size w w' := by
  have hroom := hx.room
  have HX : Hid (xs.length = n) := hx.len
  have HY : Hid (ys.length = m) := hy.len
  by_cases hnm : n = m
  · subst hnm
    go_enter Try.func25, Try.ntmps25
    go_wp2
    go_loopw [5] (fun i wr => ∃ k : Nat, k ≤ n ∧ i = .int .i64 k ∧ (∃ j, wr = w.drewN j) ∧ ∀ i, i < k → eB xs i = eB ys i) (fun i _ => n - (intOf i).toNat)
    case atStart => exact ⟨0, Nat.zero_le _, rfl, ⟨0, rfl⟩, fun i h => by omega⟩
    case round =>
      obtain ⟨k, hk, rfl, ⟨j, rfl⟩, hall⟩ := hrel
      have HA : Hid (∀ i, i < k → eB xs i = eB ys i) := hall
      clear hall
      by_cases hlt : k < n
      · obtain ⟨b, o, rfl, hb, hc⟩ := hx.at' (by omega)
        obtain ⟨b', o', rfl, hb', hc'⟩ := hy.at' (by omega)
        have hck := hc k hlt
        have hck' := hc' k hlt
        clear hc hc'
        cases h1 : eB xs k with
        | true =>
          rw [h1] at hck
          cases h2 : eB ys k with
          | true =>
            rw [h2] at hck'
            have HE : Hid (eB xs k = eB ys k) := h1.trans h2.symm
            clear h1 h2
            go_wp2
            go_quiet (fail)
            go_wp2
            go_roundw
            case rel =>
              refine ⟨k + 1, by omega, by go_num, ⟨_, rfl⟩, fun i hi => ?_⟩
              rcases Nat.lt_succ_iff_lt_or_eq.1 hi with h | h
              · exact HA.out i h
              · rw [h]; exact HE.out
            case measure => simp [intOf]; omega
          | false =>
            rw [h2] at hck'
            have HN : Hid ((xs == ys) = false) := ne_listB (k := k) (by rw [h1, h2]; rfl)
            clear h1 h2
            go_wp2
            go_quiet (fail)
            go_wp2
            go_ret
            exact ⟨ret_bool HN.out.symm, below_drewN (below_drewN (Below.refl _ _) _) _⟩
        | false =>
          rw [h1] at hck
          cases h2 : eB ys k with
          | true =>
            rw [h2] at hck'
            have HN : Hid ((xs == ys) = false) := ne_listB (k := k) (by rw [h1, h2]; rfl)
            clear h1 h2
            go_wp2
            go_quiet (fail)
            go_wp2
            go_ret
            exact ⟨ret_bool HN.out.symm, below_drewN (below_drewN (Below.refl _ _) _) _⟩
          | false =>
            rw [h2] at hck'
            have HE : Hid (eB xs k = eB ys k) := h1.trans h2.symm
            clear h1 h2
            go_wp2
            go_quiet (fail)
            go_wp2
            go_roundw
            case rel =>
              refine ⟨k + 1, by omega, by go_num, ⟨_, rfl⟩, fun i hi => ?_⟩
              rcases Nat.lt_succ_iff_lt_or_eq.1 hi with h | h
              · exact HA.out i h
              · rw [h]; exact HE.out
            case measure => simp [intOf]; omega
      · go_wp2
        go_ret
        refine ⟨ret_bool ?_, below_drewN (Below.refl _ _) _⟩
        rw [eq_listB xs ys (by rw [HX.out, HY.out]) (fun i hi => HA.out i (by have := HX.out; omega))]
        simp
  · have hne : ((n : Int) != (m : Int)) = true := by rw [bne_iff_ne]; omega
    have HN : Hid ((xs == ys) = false) := ne_listBL HX.out HY.out hnm
    clear hnm
    go_enter Try.func25, Try.ntmps25
    go_wp2
    go_ret
    exact ⟨ret_bool HN.out.symm, Below.refl _ _⟩
theorem rsame_any (V U : SV) (a b : MS) (w : World) (ha : InS w V a) (hb : InS w U b) :
    Calls Try.prog 10 #[V.val a, U.val b] w fun e w' => e = .returned (.bool (sameS a b)) ∧ Below w.heap.size w w' := by
  have h0 := B2.start w V U a b
  obtain ⟨x0, x1, x2⟩ := h0.ba.cells3
  obtain ⟨y0, y1, y2⟩ := h0.bb.cells3
  cases hB : a.bad == b.bad with
  | false =>
    have E : Hid (sameS a b = false) := by show _ = _; unfold sameS; rw [hB]; simp
    go_enter Try.func10, Try.ntmps10
    go_wp2_with (go_at_call 25; refine (rbools_any _ _ _ _ _ _ a.bad b.bad _ (ha.b.below h0.bel) (hb.b.below h0.bel)).mono ?_; rintro e w1 ⟨rfl, hb1⟩; rw [hB])
    go_ret
    exact ⟨ret_bool E.out.symm, bt h0.bel hb1⟩
  | true =>
    cases hW : a.wear == b.wear with
    | false =>
      have E : Hid (sameS a b = false) := by show _ = _; unfold sameS; rw [hB, hW]; simp
      go_enter Try.func10, Try.ntmps10
      go_wp2_with (first
        | (go_at_call 25; refine (rbools_any _ _ _ _ _ _ a.bad b.bad _ (ha.b.below h0.bel) (hb.b.below h0.bel)).mono ?_; rintro e w1 ⟨rfl, hb1⟩; rw [hB]; have h1 := h0.next hb1; obtain ⟨x0, x1, x2⟩ := h1.ba.cells3; obtain ⟨y0, y1, y2⟩ := h1.bb.cells3)
        | (go_at_call 26; refine (rnums_any _ _ _ _ _ _ a.wear b.wear _ (ha.v.below h1.bel) (hb.v.below h1.bel)).mono ?_; rintro e w2 ⟨rfl, hb2⟩; rw [hW]))
      go_ret
      exact ⟨ret_bool E.out.symm, bt h1.bel hb2⟩
    | true =>
      have E : Hid (sameS a b = (a.seq == b.seq)) := by
        show _ = _; unfold sameS; rw [hB, hW, Bool.and_true, Bool.and_true]; cases h : (a.seq == b.seq) <;> simp_all
      go_enter Try.func10, Try.ntmps10
      go_wp2_with (first
        | (go_at_call 25; refine (rbools_any _ _ _ _ _ _ a.bad b.bad _ (ha.b.below h0.bel) (hb.b.below h0.bel)).mono ?_; rintro e w1 ⟨rfl, hb1⟩; rw [hB]; have h1 := h0.next hb1; obtain ⟨x0, x1, x2⟩ := h1.ba.cells3; obtain ⟨y0, y1, y2⟩ := h1.bb.cells3)
        | (go_at_call 26; refine (rnums_any _ _ _ _ _ _ a.wear b.wear _ (ha.v.below h1.bel) (hb.v.below h1.bel)).mono ?_; rintro e w2 ⟨rfl, hb2⟩; rw [hW]; have h2 := h1.next hb2; obtain ⟨x0, x1, x2⟩ := h2.ba.cells3; obtain ⟨y0, y1, y2⟩ := h2.bb.cells3))
      go_ret
      exact ⟨ret_bool E.out.symm, h2.bel⟩
end Go.Proofs.Ytpikaagdiafieab
