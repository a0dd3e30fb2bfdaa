/-
  What Minus and Has answer, the program's and the reference's; the reference's may.
-/
import Derived.Test.YthpbeppfiinooaaBmS2
namespace Go.Proofs.Ythpbeppfiinooaa
open Go.RowKit
def minE (xs ys : List Nat) (n : Int) : Int := if chkB xs n = true ∧ chkB ys n = true then 0 else 120
/-- The bits of both below k turned. -/
def pmF (f g : Nat → Bool) (k i : Nat) : Bool := if i < k ∧ f i = true ∧ g i = true then false else f i
/-- The bits from n on, and those of the first alone below k. -/
def rmF (f g : Nat → Bool) (n k i : Nat) : Bool := if i < k ∧ f i = true ∧ g i = false then true else fFrom n i
theorem pmF_zero (f g : Nat → Bool) (i : Nat) : f i = pmF f g 0 i := by unfold pmF; rw [if_neg (by omega)]
theorem rmF_zero (f g : Nat → Bool) (n i : Nat) : fFrom n i = rmF f g n 0 i := by unfold rmF; rw [if_neg (by omega)]
theorem pmF_flip (f g : Nat → Bool) (k i : Nat) (h1 : f k = true) (h2 : g k = true) : (if i = k then !pmF f g k k else pmF f g k i) = pmF f g (k + 1) i := by
  unfold pmF
  split
  · rename_i h; subst h; rw [if_neg (by omega), if_pos ⟨by omega, h1, h2⟩, h1]; rfl
  · rename_i h
    by_cases h3 : i < k ∧ f i = true ∧ g i = true
    · rw [if_pos h3, if_pos ⟨by omega, h3.2⟩]
    · rw [if_neg h3, if_neg (fun h4 => h3 ⟨by omega, h4.2⟩)]
theorem pmF_stay (f g : Nat → Bool) (k i : Nat) (h : ¬ (f k = true ∧ g k = true)) : pmF f g k i = pmF f g (k + 1) i := by
  unfold pmF
  by_cases h3 : i < k ∧ f i = true ∧ g i = true
  · rw [if_pos h3, if_pos ⟨by omega, h3.2⟩]
  · rw [if_neg h3, if_neg (fun h4 => by
      rcases Nat.lt_succ_iff_lt_or_eq.1 h4.1 with h5 | h5
      · exact h3 ⟨h5, h4.2⟩
      · subst h5; exact h h4.2)]
theorem rmF_or (f g : Nat → Bool) (n k i : Nat) (h1 : f k = true) (h2 : g k = false) : (if i = k then true else rmF f g n k i) = rmF f g n (k + 1) i := by
  unfold rmF
  split
  · rename_i h; subst h; rw [if_pos ⟨by omega, h1, h2⟩]
  · rename_i h
    by_cases h3 : i < k ∧ f i = true ∧ g i = false
    · rw [if_pos h3, if_pos ⟨by omega, h3.2⟩]
    · rw [if_neg h3, if_neg (fun h4 => h3 ⟨by omega, h4.2⟩)]
theorem rmF_stay (f g : Nat → Bool) (n k i : Nat) (h : ¬ (f k = true ∧ g k = false)) : rmF f g n k i = rmF f g n (k + 1) i := by
  unfold rmF
  by_cases h3 : i < k ∧ f i = true ∧ g i = false
  · rw [if_pos h3, if_pos ⟨by omega, h3.2⟩]
  · rw [if_neg h3, if_neg (fun h4 => by
      rcases Nat.lt_succ_iff_lt_or_eq.1 h4.1 with h5 | h5
      · exact h3 ⟨h5, h4.2⟩
      · subst h5; exact h h4.2)]
theorem rmF_pmF {xs ys : List Nat} {n : Nat} (h : chkB xs (n : Int) = true) (i : Nat) (hi : i < 2048) : rmF (bitL xs) (bitL ys) n n i = pmF (bitL xs) (bitL ys) n i := by
  have hx := ((chkB_iff xs _).1 h).2.2.2
  unfold rmF pmF fFrom
  by_cases h1 : i < n
  · have : ¬ n ≤ i := by omega
    cases bitL xs i <;> cases bitL ys i <;> simp [h1, this]
  · have h2 := hx i (by omega) hi
    have : n ≤ i := by omega
    simp [h1, this, h2]
theorem minus_any (p q : Option Addr) (l c m d : Nat) (xs ys : List Nat) (n : Int) (w : World) (hx : In w p l c xs) (hy : In w q m d ys) :
    Calls Try.prog 21 #[.slice p l c, .slice q m d, .int .i64 n] w (RetB w (minE xs ys n) (pmF (bitL xs) (bitL ys) n.toNat)) := by
  have hc := check_any p l c xs n w hx
  have hc2 := fun j => check_any q m d ys n (w.drewN j) (hy.drewN j)
  cases hb : chkB xs n with
  | false =>
    rw [show minE xs ys n = 120 from by unfold minE; rw [if_neg (by simp [hb])]]
    rw [chkE_no hb] at hc
    clear hb
    go_enter Try.func21, Try.ntmps21
    go_wp2_with (go_at_call 12; refine hc.mono ?_; rintro e w1 ⟨rfl, j, rfl⟩)
    go_ret2
    exact RetB.err _ (by decide) (below_drewN (Below.refl _ _) _)
  | true =>
    rw [chkE_ok hb] at hc
    cases hb2 : chkB ys n with
    | false =>
      rw [show minE xs ys n = 120 from by unfold minE; rw [if_neg (by simp [hb2])]]
      simp only [chkE_no hb2] at hc2
      clear hb hb2
      go_enter Try.func21, Try.ntmps21
      go_wp2_with fail
      refine hc.mono ?_
      rintro e w1 ⟨rfl, j, rfl⟩
      go_wp2_with fail
      refine (hc2 _).mono ?_
      rintro e w1 ⟨rfl, j2, rfl⟩
      go_wp2
      go_ret2
      exact RetB.err _ (by decide) (below_drewN (Below.refl _ _) _)
    | true =>
      rw [show minE xs ys n = 0 from by unfold minE; rw [if_pos ⟨hb, hb2⟩]]
      simp only [chkE_ok hb2] at hc2
      obtain ⟨n1, n2, n3, -⟩ := (chkB_iff xs n).1 hb
      obtain ⟨-, -, m3, -⟩ := (chkB_iff ys n).1 hb2
      have hl : l = 256 := by rw [← hx.len]; exact n3
      have hl2 : m = 256 := by rw [← hy.len]; exact m3
      subst hl
      subst hl2
      obtain ⟨N, rfl⟩ : ∃ k : Nat, n = (k : Int) := ⟨n.toNat, by omega⟩
      have HN : Hid (N ≤ 2048) := by show _ ≤ _; omega
      have hN : (N : Int) ≤ 2048 := by omega
      have hon := fun j => own_any p c xs (w.drewN j) (hx.drewN j)
      simp only [show ∀ j, (w.drewN j).heap.size = w.heap.size from fun _ => rfl] at hon
      rw [Int.toNat_natCast]
      clear hb hb2 n1 n2 n3 m3
      go_enter Try.func21, Try.ntmps21
      go_wp2_with fail
      refine hc.mono ?_
      rintro e w1 ⟨rfl, j, rfl⟩
      go_wp2_with fail
      refine (hc2 _).mono ?_
      rintro e w1 ⟨rfl, j2, rfl⟩
      go_wp2_with fail
      refine (hon _).mono ?_
      rintro e w2 ⟨rfl, ho2, hb2⟩
      go_wp2
      have hb0 : Below w.heap.size w w2 := (below_drewN (Below.refl _ _) _).trans hb2
      clear hc hc2 hon hb2
      go_loopw [23] (fun i wr => ∃ k : Nat, k ≤ N ∧ i = .int .i64 k ∧ (∃ zs, wr.ownsRow w.heap.size 5 1 (.slice (some ⟨w.heap.size, 0, none⟩) 256 256) 256 (vals zs) ∧ Bm zs (pmF (bitL xs) (bitL ys) k)) ∧ Below w.heap.size w wr) (fun i _ => N - (intOf i).toNat)
      case atStart => exact ⟨0, Nat.zero_le _, rfl, ⟨_, ho2, (Bm.self hx.len hx.byte).of fun i _ => pmF_zero _ _ _⟩, hb0⟩
      case round =>
        obtain ⟨k, hk, rfl, ⟨zs, ho, hm⟩, hb⟩ := hrel
        clear ho2 hb0
        by_cases hlt : k < N
        · have hk2 : k < 2048 := by have := HN.out; omega
          have hs := isSet_any p 256 c xs k wr (hx.below hb) (by omega)
          have hs2 := fun j => isSet_any q 256 d ys k (wr.drewN j) ((hy.below hb).drewN j) (by omega)
          have ht := fun j => turn_any w.heap.size w.heap.size 256 zs k (wr.drewN j) (Nat.le_refl _) (owns_drewN ho j) hm.byte (by decide) (by omega)
          have HMF : Hid (Bm (flipL zs k) (fun j => if j = k then !pmF (bitL xs) (bitL ys) k k else pmF (bitL xs) (bitL ys) k j)) := hm.flip hk2
          have HM : Hid (Bm zs (pmF (bitL xs) (bitL ys) k)) := hm
          have HO : Hid (wr.ownsRow w.heap.size 5 1 (.slice (some ⟨w.heap.size, 0, none⟩) 256 256) 256 (vals zs)) := ho
          clear ho hm hk2
          cases h1 : bitL xs k with
          | false =>
            have H1 : Hid (bitL xs k = false) := h1
            rw [h1] at hs
            clear h1
            go_wp2_with (go_at_call 33; refine hs.mono ?_; rintro e w3 ⟨rfl, j3, rfl⟩)
            go_roundw
            case rel => exact ⟨k + 1, by omega, by go_num, ⟨_, owns_drewN HO.out _, HM.out.of fun i _ => pmF_stay _ _ _ _ (fun h => by rw [H1.out] at h; cases h.1)⟩, below_drewN hb _⟩
            case measure => simp [intOf]; omega
          | true =>
            have H1 : Hid (bitL xs k = true) := h1
            rw [h1] at hs
            clear h1
            cases h2 : bitL ys k with
            | false =>
              have H2 : Hid (bitL ys k = false) := h2
              simp only [h2] at hs2
              clear h2
              go_wp2_with fail
              refine hs.mono ?_
              rintro e w3 ⟨rfl, j3, rfl⟩
              go_wp2_with fail
              refine (hs2 _).mono ?_
              rintro e w3 ⟨rfl, j4, rfl⟩
              go_wp2
              go_roundw
              case rel => exact ⟨k + 1, by omega, by go_num, ⟨_, owns_drewN HO.out _, HM.out.of fun i _ => pmF_stay _ _ _ _ (fun h => by rw [H2.out] at h; cases h.2)⟩, below_drewN hb _⟩
              case measure => simp [intOf]; omega
            | true =>
              have H2 : Hid (bitL ys k = true) := h2
              simp only [h2] at hs2
              clear h2
              go_wp2_with fail
              refine hs.mono ?_
              rintro e w3 ⟨rfl, j3, rfl⟩
              go_wp2_with fail
              refine (hs2 _).mono ?_
              rintro e w3 ⟨rfl, j4, rfl⟩
              go_wp2_with fail
              refine (ht _).mono ?_
              rintro e w4 ⟨rfl, ho4, hb4⟩
              go_wp2
              go_roundw
              case rel => exact ⟨k + 1, by omega, by go_num, ⟨_, ho4, HMF.out.of fun i _ => pmF_flip _ _ _ _ H1.out H2.out⟩, (below_drewN hb _).trans hb4⟩
              case measure => simp [intOf]; omega
        · obtain rfl : k = N := by omega
          go_wp2
          go_ret2
          exact RetB.ok ho hm hb
theorem rminus_any (p q : Option Addr) (l c m d : Nat) (xs ys : List Nat) (n : Int) (w : World) (hx : In w p l c xs) (hy : In w q m d ys) :
    Calls Try.prog 22 #[.slice p l c, .slice q m d, .int .i64 n] w (RetB w (minE xs ys n) (pmF (bitL xs) (bitL ys) n.toNat)) := by
  have hc := rcheck_any p l c xs n w hx
  have hc2 := rcheck_any q m d ys n w hy
  cases hb : chkB xs n with
  | false =>
    rw [show minE xs ys n = 120 from by unfold minE; rw [if_neg (by simp [hb])]]
    rw [chkE_no hb] at hc
    clear hb
    go_enter Try.func22, Try.ntmps22
    go_wp2_with (go_at_call 13; refine hc.mono ?_; rintro e w1 ⟨rfl, hw'⟩; have hw2 := hw'.symm; subst hw2; clear hw')
    go_ret2
    exact RetB.err _ (by decide) (Below.refl _ _)
  | true =>
    rw [chkE_ok hb] at hc
    cases hb2 : chkB ys n with
    | false =>
      rw [show minE xs ys n = 120 from by unfold minE; rw [if_neg (by simp [hb2])]]
      rw [chkE_no hb2] at hc2
      clear hb hb2
      go_enter Try.func22, Try.ntmps22
      go_wp2_with fail
      refine hc.mono ?_
      rintro e w1 ⟨rfl, hw'⟩
      have hw2 := hw'.symm
      subst hw2
      clear hw'
      go_wp2_with fail
      refine hc2.mono ?_
      rintro e w1 ⟨rfl, hw'⟩
      have hw2 := hw'.symm
      subst hw2
      clear hw'
      go_wp2
      go_ret2
      exact RetB.err _ (by decide) (Below.refl _ _)
    | true =>
      rw [show minE xs ys n = 0 from by unfold minE; rw [if_pos ⟨hb, hb2⟩]]
      rw [chkE_ok hb2] at hc2
      obtain ⟨n1, n2, n3, -⟩ := (chkB_iff xs n).1 hb
      obtain ⟨-, -, m3, -⟩ := (chkB_iff ys n).1 hb2
      have hl : l = 256 := by rw [← hx.len]; exact n3
      have hl2 : m = 256 := by rw [← hy.len]; exact m3
      subst hl
      subst hl2
      obtain ⟨N, rfl⟩ : ∃ k : Nat, n = (k : Int) := ⟨n.toNat, by omega⟩
      have HN : Hid (N ≤ 2048) := by show _ ≤ _; omega
      have hN : (N : Int) ≤ 2048 := by omega
      have hnew := rnew_own N w HN.out
      rw [Int.toNat_natCast]
      have HB : Hid (chkB xs (N : Int) = true) := hb
      clear hb hb2 n1 n2 n3 m3
      go_enter Try.func22, Try.ntmps22
      go_wp2_with fail
      refine hc.mono ?_
      rintro e w1 ⟨rfl, hw'⟩
      have hw2 := hw'.symm
      subst hw2
      clear hw'
      go_wp2_with fail
      refine hc2.mono ?_
      rintro e w1 ⟨rfl, hw'⟩
      have hw2 := hw'.symm
      subst hw2
      clear hw'
      go_wp2_with fail
      refine hnew.mono ?_
      rintro e w2 ⟨rfl, ⟨z0, ho2, hm2⟩, hb0⟩
      go_wp2
      clear hc hc2 hnew
      go_loopw [10] (fun i wr => ∃ k : Nat, k ≤ N ∧ i = .int .i64 k ∧ (∃ zs, wr.ownsRow w.heap.size 5 1 (.slice (some ⟨w.heap.size, 0, none⟩) 256 256) 256 (vals zs) ∧ Bm zs (rmF (bitL xs) (bitL ys) N k)) ∧ Below w.heap.size w wr) (fun i _ => N - (intOf i).toNat)
      case atStart => exact ⟨0, Nat.zero_le _, rfl, ⟨_, ho2, hm2.of fun i _ => rmF_zero _ _ _ _⟩, hb0⟩
      case round =>
        obtain ⟨k, hk, rfl, ⟨zs, ho, hm⟩, hb⟩ := hrel
        clear ho2 hb0 hm2
        by_cases hlt : k < N
        · have hk2 : k < 2048 := by have := HN.out; omega
          have hs := bit_any p 256 c xs k wr (hx.below hb) (by omega)
          have hs2 := bit_any q 256 d ys k wr (hy.below hb) (by omega)
          have HMF : Hid (Bm (orL zs k) (fun j => if j = k then true else rmF (bitL xs) (bitL ys) N k j)) := hm.or hk2
          have HM : Hid (Bm zs (rmF (bitL xs) (bitL ys) N k)) := hm
          have HO : Hid (wr.ownsRow w.heap.size 5 1 (.slice (some ⟨w.heap.size, 0, none⟩) 256 256) 256 (vals zs)) := ho
          have hl := hm.len
          have hc1 : wr.cell? ⟨w.heap.size, k / 8, none⟩ = some (.int .u8 (el zs (k / 8))) := by
            rw [ho.cellAt _ (by omega), vals_get _ _ (by omega)]
          have hf1 : wr.frozen? ⟨w.heap.size, k / 8, none⟩ = false := ho.frozenAt _
          have hst := ho.stored (k / 8) (.int .u8 (bits .or .u8 (el zs (k / 8)) (2 ^ (k % 8) % 256)))
          rw [or_bitL hm.byte k] at hst
          have HST : Hid (World.ownsRow _ w.heap.size 5 1 (.slice (some ⟨w.heap.size, 0, none⟩) 256 256) 256 (vals (orL zs k))) := hst.1
          have hk8 : (k : Int) / 8 < 256 := by omega
          clear hst hl ho hm hk2
          cases h1 : bitL xs k with
          | false =>
            have H1 : Hid (bitL xs k = false) := h1
            rw [h1] at hs
            clear h1
            go_wp2_with (go_at_call 34; refine hs.mono ?_; rintro e w3 ⟨rfl, hw'⟩; have hw2 := hw'.symm; subst hw2; clear hw')
            go_roundw
            case rel => exact ⟨k + 1, by omega, by go_num, ⟨_, HO.out, HM.out.of fun i _ => rmF_stay _ _ _ _ _ (fun h => by rw [H1.out] at h; cases h.1)⟩, hb⟩
            case measure => simp [intOf]; omega
          | true =>
            have H1 : Hid (bitL xs k = true) := h1
            rw [h1] at hs
            clear h1
            cases h2 : bitL ys k with
            | true =>
              have H2 : Hid (bitL ys k = true) := h2
              rw [h2] at hs2
              clear h2
              go_wp2_with fail
              refine hs.mono ?_
              rintro e w3 ⟨rfl, hw'⟩
              have hw2 := hw'.symm
              subst hw2
              clear hw'
              go_wp2_with fail
              refine hs2.mono ?_
              rintro e w3 ⟨rfl, hw'⟩
              have hw2 := hw'.symm
              subst hw2
              clear hw'
              go_wp2
              go_roundw
              case rel => exact ⟨k + 1, by omega, by go_num, ⟨_, HO.out, HM.out.of fun i _ => rmF_stay _ _ _ _ _ (fun h => by rw [H2.out] at h; cases h.2)⟩, hb⟩
              case measure => simp [intOf]; omega
            | false =>
              have H2 : Hid (bitL ys k = false) := h2
              rw [h2] at hs2
              clear h2
              go_wp2_with fail
              refine hs.mono ?_
              rintro e w3 ⟨rfl, hw'⟩
              have hw2 := hw'.symm
              subst hw2
              clear hw'
              go_wp2_with fail
              refine hs2.mono ?_
              rintro e w3 ⟨rfl, hw'⟩
              have hw2 := hw'.symm
              subst hw2
              clear hw'
              go_wp2
              go_roundw
              case rel => exact ⟨k + 1, by omega, by go_num, ⟨_, HST.out, HMF.out.of fun i _ => rmF_or _ _ _ _ _ H1.out H2.out⟩, hb.setCell (p := ⟨w.heap.size, k / 8, none⟩) (Nat.le_refl _) _⟩
              case measure => simp [intOf]; omega
        · obtain rfl : k = N := by omega
          go_wp2
          go_ret2
          exact RetB.ok ho (hm.of fun i hi => rmF_pmF HB.out i hi) hb
end Go.Proofs.Ythpbeppfiinooaa
