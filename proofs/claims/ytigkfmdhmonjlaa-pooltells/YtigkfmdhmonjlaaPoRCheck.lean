/-
  What the reference's Check and Same answer.
-/
import Derived.Test.YtigkfmdhmonjlaaPoBlk
import Derived.Deep.Cut
namespace Go.Proofs.Ytigkfmdhmonjlaa
open Go.RowKit
set_option maxHeartbeats 1000000 in
theorem rcheck_any (p q : Option Addr) (n c m d : Nat) (R W : List Int) (w : World) (hR : InI w p n c R) (hW : InI w q m d W) :
    Calls Try.prog 15 #[.agg #[.slice p n c, .slice q m d]] w fun e w' => e = .returned (.int .i64 (checkE R W)) ∧ Below w.heap.size w w' := by
  have HR : Hid (R.length = n) := hR.len
  have HW : Hid (W.length = m) := hW.len
  have hroom := hR.room
  by_cases hn1 : (n : Int) < 16
  · have E : Hid (checkE R W = 40) := checkE_no (okPool_noN (by rw [HR.out]; omega))
    go_enter Try.func15, Try.ntmps15
    go_wp2
    go_ret
    rw [E.out]
    exact ⟨rfl, below_alloc _ _⟩
  · by_cases hn2 : 256 < (n : Int)
    · have E : Hid (checkE R W = 40) := checkE_no (okPool_noN (by rw [HR.out]; omega))
      go_enter Try.func15, Try.ntmps15
      go_wp2
      go_ret
      rw [E.out]
      exact ⟨rfl, below_alloc _ _⟩
    · by_cases hnm : n = m
      · subst hnm
        have HB : Hid (Below w.heap.size w (w.alloc (.cells #[.slice p n c, .slice q n d] 25))) := below_alloc w _
        have hRb := hR.below HB.out
        have hWb := hW.below HB.out
        obtain ⟨b, o, rfl, hb', hc⟩ := hRb.at' (by omega)
        obtain ⟨bq, oq, rfl, hbq', hcq⟩ := hWb.at' (by omega)
        clear hR hW hRb hWb
        go_enter Try.func15, Try.ntmps15
        go_wp2
        go_loop [4] (fun i => ∃ k : Nat, k ≤ n ∧ i = .int .i64 k ∧ ∀ j, j < k → okR (eI R j) = true ∧ okWear (eI W j) = true) (fun i => n - (intOf i).toNat)
        case atStart => exact ⟨0, Nat.zero_le _, rfl, fun j h => by omega⟩
        case round =>
          obtain ⟨k, hk, rfl, hall⟩ := hrel
          have HA : Hid (∀ j, j < k → okR (eI R j) = true ∧ okWear (eI W j) = true) := hall
          clear hall
          by_cases hlt : k < n
          · have hck := hc k hlt
            have hcw := hcq k hlt
            clear hc hcq
            cases hok : okR (eI R k) with
            | true =>
              have ho := okR_iff.1 hok
              have HO : Hid (okR (eI R k) = true) := hok
              clear hok
              have h1 : ¬ eI R k < 1 := by omega
              have h2 : ¬ 6 < eI R k := by omega
              cases hokw : okWear (eI W k) with
              | true =>
                have how := okWear_iff.1 hokw
                have HOW : Hid (okWear (eI W k) = true) := hokw
                clear hokw
                have h3 : ¬ eI W k < 0 := by omega
                have h4 : ¬ 16777215 < eI W k := by omega
                go_wp2
                go_round
                case rel =>
                  refine ⟨k + 1, by omega, by go_num, fun j hj => ?_⟩
                  rcases Nat.lt_succ_iff_lt_or_eq.1 hj with h | h
                  · exact HA.out j h
                  · rw [h]; exact ⟨HO.out, HOW.out⟩
                case measure => simp [intOf]; omega
              | false =>
                have E1 : Hid (checkE R W = 40) := checkE_no (okPool_noW (all_of_not (by rw [HW.out]; exact hlt) hokw))
                have hnn := okWear_no hokw
                clear hokw
                rcases hnn with h3 | h4
                · go_wp2
                  go_ret
                  rw [E1.out]
                  exact ⟨rfl, HB.out⟩
                · have h3 : ¬ eI W k < 0 := by omega
                  go_wp2
                  go_ret
                  rw [E1.out]
                  exact ⟨rfl, HB.out⟩
            | false =>
              have E1 : Hid (checkE R W = 40) := checkE_no (okPool_noR (all_of_not (by rw [HR.out]; exact hlt) hok))
              have hnn := okR_no hok
              clear hok
              rcases hnn with h1 | h2
              · go_wp2
                go_ret
                rw [E1.out]
                exact ⟨rfl, HB.out⟩
              · have h1 : ¬ eI R k < 1 := by omega
                go_wp2
                go_ret
                rw [E1.out]
                exact ⟨rfl, HB.out⟩
          · have E2 : Hid (checkE R W = 0) := checkE_ok (okPool_iff.2 ⟨⟨by rw [HR.out, HW.out], by rw [HR.out]; omega, by rw [HR.out]; omega⟩, eI_all.2 fun j hj => (HA.out j (by have := HR.out; omega)).1, eI_all.2 fun j hj => (HA.out j (by have := HW.out; omega)).2⟩)
            clear hc hcq
            go_wp2
            go_ret
            rw [E2.out]
            exact ⟨rfl, HB.out⟩
      · have E : Hid (checkE R W = 40) := checkE_no (okPool_noL (by rw [HR.out, HW.out]; exact hnm))
        have hne : ((m : Int) != (n : Int)) = true := by rw [bne_iff_ne]; omega
        go_enter Try.func15, Try.ntmps15
        go_wp2
        go_ret
        rw [E.out]
        exact ⟨rfl, below_alloc _ _⟩
theorem eq_listI (xs ys : List Int) (hl : xs.length = ys.length) (h : ∀ i, i < xs.length → eI xs i = eI ys i) : xs = ys := by
  apply List.ext_getElem hl
  intro i h1 h2
  have := h i h1
  simpa [eI, h1, h2] using this
theorem ne_listI {xs ys : List Int} {k : Nat} (h : (eI xs k != eI ys k) = true) : (xs == ys) = false := by
  cases hq : xs == ys with
  | false => rfl
  | true =>
    have := eq_of_beq hq
    subst this
    simp at h
theorem ne_listL {xs ys : List Int} {n m : Nat} (h1 : xs.length = n) (h2 : ys.length = m) (h : ¬ n = m) : (xs == ys) = false := by
  cases hq : xs == ys with
  | false => rfl
  | true =>
    have := eq_of_beq hq
    subst this
    omega
def sameB (R W R' W' : List Int) : Bool := (R == R') && (W == W')
set_option maxHeartbeats 1000000 in
theorem rsame_any (p q p' q' : Option Addr) (n c m d n' c' m' d' : Nat) (R W R' W' : List Int) (w : World) (hR : InI w p n c R) (hW : InI w q m d W) (hR' : InI w p' n' c' R') (hW' : InI w q' m' d' W') :
    Calls Try.prog 16 #[.agg #[.slice p n c, .slice q m d], .agg #[.slice p' n' c', .slice q' m' d']] w fun e w' => e = .returned (.bool (sameB R W R' W')) ∧ Below w.heap.size w w' := by
  have HR : Hid (R.length = n) := hR.len
  have HW : Hid (W.length = m) := hW.len
  have HR' : Hid (R'.length = n') := hR'.len
  have HW' : Hid (W'.length = m') := hW'.len
  have hroom := hR.room
  have hroomw := hW.room
  have HB : Hid (Below w.heap.size w ((w.alloc (.cells #[.slice p n c, .slice q m d] 25)).alloc (.cells #[.slice p' n' c', .slice q' m' d'] 25))) := bt (below_alloc w _) (below_alloc _ _)
  by_cases hn : n = n'
  · subst hn
    by_cases hm : m = m'
    · subst hm
      have gR := hR.below HB.out
      have gW := hW.below HB.out
      have gR' := hR'.below HB.out
      have gW' := hW'.below HB.out
      have b0 := (Blk.new' w 25 #[.slice p n c, .slice q m d]).alloc (.cells #[.slice p' n c', .slice q' m d'] 25)
      have b1 := Blk.new' (w.alloc (.cells #[.slice p n c, .slice q m d] 25)) 25 #[.slice p' n c', .slice q' m d']
      rw [World.size_alloc] at b1
      have c0 := b0.cell' (i := 0) rfl
      have c1 := b0.cell' (i := 1) rfl
      have e0 := b1.cell' (i := 0) rfl
      have e1 := b1.cell' (i := 1) rfl
      clear hR hW hR' hW' b0 b1
      go_enter Try.func16, Try.ntmps16
      go_upto_region 3 with (fail)
      generalize ((w.alloc (.cells #[.slice p n c, .slice q m d] 25)).alloc (.cells #[.slice p' n c', .slice q' m d'] 25)) = w0 at *
      go_wp2
      go_loopw [5] (fun i wr => ∃ k : Nat, k ≤ n ∧ i = .int .i64 k ∧ (∃ j, wr = w0.drewN j) ∧ ∀ i, i < k → eI R i = eI R' i) (fun i _ => n - (intOf i).toNat)
      case atStart => exact ⟨0, Nat.zero_le _, rfl, ⟨0, rfl⟩, fun i h => by omega⟩
      case round =>
        obtain ⟨k, hk, rfl, ⟨j, rfl⟩, hall⟩ := hrel
        have HA : Hid (∀ i, i < k → eI R i = eI R' i) := hall
        clear hall
        by_cases hlt : k < n
        · obtain ⟨b, o, rfl, hb, hc⟩ := gR.at' (by omega)
          obtain ⟨b', o', rfl, hb', hc'⟩ := gR'.at' (by omega)
          have hck := hc k hlt
          have hck' := hc' k hlt
          clear hc hc'
          cases hq : (eI R k != eI R' k) with
          | true =>
            have HN : Hid ((R == R') = false) := ne_listI hq
            go_wp2
            go_quiet (fail)
            go_wp2
            go_ret
            refine ⟨ret_bool ?_, below_drewN (below_drewN HB.out _) _⟩
            unfold sameB; rw [HN.out]; rfl
          | false =>
            have HE : Hid (eI R k = eI R' k) := WalkArith.int_eq' hq
            go_wp2
            go_quiet (fail)
            go_wp2
            go_roundw
            case rel =>
              refine ⟨k + 1, by omega, by go_num, ⟨_, rfl⟩, fun i hi => ?_⟩
              rcases Nat.lt_succ_iff_lt_or_eq.1 hi with h | h
              · exact HA.out i h
              · rw [h]; exact HE.out
            case measure => simp [intOf]; omega
        · have ER : Hid (R = R') := eq_listI R R' (by rw [HR.out, HR'.out]) (fun i hi => HA.out i (by have := HR.out; omega))
          clear HA gR gR'
          go_wp2
          go_loopw [6] (fun i wr => ∃ k : Nat, k ≤ m ∧ i = .int .i64 k ∧ (∃ j, wr = w0.drewN j) ∧ ∀ i, i < k → eI W i = eI W' i) (fun i _ => m - (intOf i).toNat)
          case atStart => exact ⟨0, Nat.zero_le _, rfl, ⟨_, rfl⟩, fun i h => by omega⟩
          case round =>
            obtain ⟨kk, hkk, rfl, ⟨jj, rfl⟩, hall⟩ := hrel
            have HA : Hid (∀ i, i < kk → eI W i = eI W' i) := hall
            clear hall
            by_cases hlt2 : kk < m
            · obtain ⟨b, o, rfl, hb, hc⟩ := gW.at' (by omega)
              obtain ⟨b', o', rfl, hb', hc'⟩ := gW'.at' (by omega)
              have hck := hc kk hlt2
              have hck' := hc' kk hlt2
              clear hc hc'
              cases hq : (eI W kk != eI W' kk) with
              | true =>
                have HN : Hid ((W == W') = false) := ne_listI hq
                go_wp2
                go_quiet (fail)
                go_wp2
                go_ret
                refine ⟨ret_bool ?_, below_drewN (below_drewN HB.out _) _⟩
                unfold sameB; rw [HN.out, Bool.and_false]
              | false =>
                have HE : Hid (eI W kk = eI W' kk) := WalkArith.int_eq' hq
                go_wp2
                go_quiet (fail)
                go_wp2
                go_roundw
                case rel =>
                  refine ⟨kk + 1, by omega, by go_num, ⟨_, rfl⟩, fun i hi => ?_⟩
                  rcases Nat.lt_succ_iff_lt_or_eq.1 hi with h | h
                  · exact HA.out i h
                  · rw [h]; exact HE.out
                case measure => simp [intOf]; omega
            · have EW : Hid (W = W') := eq_listI W W' (by rw [HW.out, HW'.out]) (fun i hi => HA.out i (by have := HW.out; omega))
              go_wp2
              go_ret
              refine ⟨ret_bool ?_, below_drewN HB.out _⟩
              unfold sameB; rw [ER.out, EW.out]; simp
    · have hne : ((m : Int) != (m' : Int)) = true := by rw [bne_iff_ne]; omega
      have EW : Hid ((W == W') = false) := ne_listL HW.out HW'.out hm
      clear hm
      go_enter Try.func16, Try.ntmps16
      go_wp2
      go_ret
      refine ⟨ret_bool ?_, HB.out⟩
      unfold sameB; rw [EW.out, Bool.and_false]
  · have hne : ((n : Int) != (n' : Int)) = true := by rw [bne_iff_ne]; omega
    have ER : Hid ((R == R') = false) := ne_listL HR.out HR'.out hn
    clear hn
    go_enter Try.func16, Try.ntmps16
    go_wp2
    go_ret
    refine ⟨ret_bool ?_, HB.out⟩
    unfold sameB; rw [ER.out]; rfl
theorem sameB_self (R W : List Int) : sameB R W R W = true := by simp [sameB]
end Go.Proofs.Ytigkfmdhmonjlaa
