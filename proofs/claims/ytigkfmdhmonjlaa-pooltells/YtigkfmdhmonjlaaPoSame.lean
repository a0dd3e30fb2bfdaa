/-
  What slices.Equal of ints and pool's Same answer.
-/
import Derived.Test.YtigkfmdhmonjlaaPoRCheck
namespace Go.Proofs.Ytigkfmdhmonjlaa
open Go.RowKit
theorem equalI_any (p q : Option Addr) (n c m d : Nat) (xs ys : List Int) (w : World) (hx : InI w p n c xs) (hy : InI w q m d ys) :
    Calls Try.prog 35 #[.slice p n c, .slice q m d] w fun e w' => e = .returned (.bool (xs == ys)) ∧ Below w.heap.size w w' := by
  have hroom := hx.room
  have HX : Hid (xs.length = n) := hx.len
  have HY : Hid (ys.length = m) := hy.len
  by_cases hnm : n = m
  · subst hnm
    go_enter Try.func35, Try.ntmps35
    go_wp2
    go_loopw [13] (fun i wr => ∃ k : Nat, k ≤ n ∧ i = .int .i64 k ∧ (∃ j, wr = w.drewN j) ∧ ∀ i, i < k → eI xs i = eI ys i) (fun i _ => n - (intOf i).toNat)
    case atStart => exact ⟨0, Nat.zero_le _, rfl, ⟨0, rfl⟩, fun i h => by omega⟩
    case round =>
      obtain ⟨k, hk, rfl, ⟨j, rfl⟩, hall⟩ := hrel
      have HA : Hid (∀ i, i < k → eI xs i = eI ys i) := hall
      clear hall
      by_cases hlt : k < n
      · obtain ⟨b, o, rfl, hb, hc⟩ := hx.at' (by omega)
        obtain ⟨b', o', rfl, hb', hc'⟩ := hy.at' (by omega)
        have hck := hc k hlt
        have hck' := hc' k hlt
        clear hc hc'
        cases hq : (eI xs k != eI ys k) with
        | true =>
          have HN : Hid ((xs == ys) = false) := ne_listI hq
          go_wp2
          go_quiet (fail)
          go_wp2
          go_ret
          exact ⟨ret_bool HN.out.symm, below_drewN (below_drewN (Below.refl _ _) _) _⟩
        | false =>
          have HE : Hid (eI xs k = eI ys k) := WalkArith.int_eq' hq
          go_wp2
          go_quiet (fail)
          go_wp2
          go_roundw
          case rel =>
            refine ⟨k + 1, by omega, by go_num, ⟨_, rfl⟩, fun i hi => ?_⟩
            rcases Nat.lt_succ_iff_lt_or_eq.1 hi with h | h
            · exact HA.out i h
            · rw [h]; exact HE.out
          case measure => simp [intOf]; omega
      · go_wp2
        go_ret
        refine ⟨ret_bool ?_, below_drewN (Below.refl _ _) _⟩
        rw [eq_listI xs ys (by rw [HX.out, HY.out]) (fun i hi => HA.out i (by have := HX.out; omega))]
        simp
  · have hne : ((n : Int) != (m : Int)) = true := by rw [bne_iff_ne]; omega
    have HN : Hid ((xs == ys) = false) := ne_listL HX.out HY.out hnm
    clear hnm
    go_enter Try.func35, Try.ntmps35
    go_wp2
    go_ret
    exact ⟨ret_bool HN.out.symm, Below.refl _ _⟩
theorem equalL_any (p q : Option Addr) (n c m d : Nat) (xs ys : List Int) (w : World) (hx : InI w p n c xs) (hy : InI w q m d ys) :
    Calls Try.prog 59 #[.slice p n c, .slice q m d] w fun e w' => e = .returned (.bool (xs == ys)) ∧ Below w.heap.size w w' := by
  have hroom := hx.room
  have HX : Hid (xs.length = n) := hx.len
  have HY : Hid (ys.length = m) := hy.len
  by_cases hnm : n = m
  · subst hnm
    go_enter Try.func59, Try.ntmps59
    go_wp2
    go_loopw [13] (fun i wr => ∃ k : Nat, k ≤ n ∧ i = .int .i64 k ∧ (∃ j, wr = w.drewN j) ∧ ∀ i, i < k → eI xs i = eI ys i) (fun i _ => n - (intOf i).toNat)
    case atStart => exact ⟨0, Nat.zero_le _, rfl, ⟨0, rfl⟩, fun i h => by omega⟩
    case round =>
      obtain ⟨k, hk, rfl, ⟨j, rfl⟩, hall⟩ := hrel
      have HA : Hid (∀ i, i < k → eI xs i = eI ys i) := hall
      clear hall
      by_cases hlt : k < n
      · obtain ⟨b, o, rfl, hb, hc⟩ := hx.at' (by omega)
        obtain ⟨b', o', rfl, hb', hc'⟩ := hy.at' (by omega)
        have hck := hc k hlt
        have hck' := hc' k hlt
        clear hc hc'
        cases hq : (eI xs k != eI ys k) with
        | true =>
          have HN : Hid ((xs == ys) = false) := ne_listI hq
          go_wp2
          go_quiet (fail)
          go_wp2
          go_ret
          exact ⟨ret_bool HN.out.symm, below_drewN (below_drewN (Below.refl _ _) _) _⟩
        | false =>
          have HE : Hid (eI xs k = eI ys k) := WalkArith.int_eq' hq
          go_wp2
          go_quiet (fail)
          go_wp2
          go_roundw
          case rel =>
            refine ⟨k + 1, by omega, by go_num, ⟨_, rfl⟩, fun i hi => ?_⟩
            rcases Nat.lt_succ_iff_lt_or_eq.1 hi with h | h
            · exact HA.out i h
            · rw [h]; exact HE.out
          case measure => simp [intOf]; omega
      · go_wp2
        go_ret
        refine ⟨ret_bool ?_, below_drewN (Below.refl _ _) _⟩
        rw [eq_listI xs ys (by rw [HX.out, HY.out]) (fun i hi => HA.out i (by have := HX.out; omega))]
        simp
  · have hne : ((n : Int) != (m : Int)) = true := by rw [bne_iff_ne]; omega
    have HN : Hid ((xs == ys) = false) := ne_listL HX.out HY.out hnm
    clear hnm
    go_enter Try.func59, Try.ntmps59
    go_wp2
    go_ret
    exact ⟨ret_bool HN.out.symm, Below.refl _ _⟩
theorem same_any (p q p' q' : Option Addr) (n c m d n' c' m' d' : Nat) (R W R' W' : List Int) (w : World) (hR : InI w p n c R) (hW : InI w q m d W) (hR' : InI w p' n' c' R') (hW' : InI w q' m' d' W') :
    Calls Try.prog 40 #[.agg #[.slice p n c, .slice q m d], .agg #[.slice p' n' c', .slice q' m' d']] w fun e w' => e = .returned (.bool (sameB R W R' W')) ∧ Below w.heap.size w w' := by
  have hB : Below w.heap.size w ((w.alloc (.cells #[.slice p n c, .slice q m d] 25)).alloc (.cells #[.slice p' n' c', .slice q' m' d'] 25)) := bt (below_alloc w _) (below_alloc _ _)
  have b2 := (Blk.new' w 25 #[.slice p n c, .slice q m d]).alloc (.cells #[.slice p' n' c', .slice q' m' d'] 25)
  have b3 := Blk.new' (w.alloc (.cells #[.slice p n c, .slice q m d] 25)) 25 #[.slice p' n' c', .slice q' m' d']
  rw [World.size_alloc] at b3
  cases hq : R == R' with
  | false =>
    have HE : Hid (sameB R W R' W' = false) := by show _ = _; unfold sameB; rw [hq]; rfl
    go_enter Try.func40, Try.ntmps40
    go_wp2_with (go_at_call 35; refine (equalI_any _ _ _ _ _ _ R R' _ (hR.below hB) (hR'.below hB)).mono ?_; rintro e w1 ⟨rfl, hb1⟩; rw [hq])
    go_ret
    exact ⟨ret_bool HE.out.symm, bt hB hb1⟩
  | true =>
    have HE : Hid (sameB R W R' W' = (W == W')) := by show _ = _; unfold sameB; rw [hq]; rfl
    go_enter Try.func40, Try.ntmps40
    go_wp2_with (first
      | (go_at_call 35; refine (equalI_any _ _ _ _ _ _ R R' _ (hR.below hB) (hR'.below hB)).mono ?_; rintro e w1 ⟨rfl, hb1⟩; rw [hq]; have e2 := b2.kept hb1; have e3 := b3.kept hb1; have z1 := e2.cell' (i := 1) rfl; have z3 := e3.cell' (i := 1) rfl; have hB1 := bt hB hb1)
      | (go_at_call 59; refine (equalL_any _ _ _ _ _ _ W W' _ (hW.below hB1) (hW'.below hB1)).mono ?_; rintro e w2 ⟨rfl, hb2⟩))
    go_ret
    exact ⟨ret_bool HE.out.symm, bt hB1 hb2⟩
end Go.Proofs.Ytigkfmdhmonjlaa
