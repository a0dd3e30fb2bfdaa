/-
  What the reference's All answers.
-/
import Derived.Test.YtigkfmdhmonjlaaPoTellsP
import Derived.Test.YtigkfmdhmonjlaaPoRCheck
import Derived.Test.YtigkfmdhmonjlaaPoRNew
namespace Go.Proofs.Ytigkfmdhmonjlaa
open Go.RowKit
set_option linter.unusedSimpArgs false in
set_option maxRecDepth 100000 in
set_option maxHeartbeats 4000000 in
theorem rall_any (p q : Option Addr) (n c m d : Nat) (R W : List Int) (role : Int) (w : World) (hR : InI w p n c R) (hW : InI w q m d W) :
    Calls Try.prog 29 #[.agg #[.slice p n c, .slice q m d], .int .i64 role] w fun e w' => ∃ p' c', e = .returned (.slice p' (valsK (allK R W role)).length c') ∧ InI w' p' (valsK (allK R W role)).length c' (valsK (allK R W role)) ∧ Below w.heap.size w w' := by
  obtain ⟨i0, hi, hz0, hz1, hz2⟩ := info_parts info3
  have HL : Hid (R.length = n) := hR.len
  have HLW : Hid (W.length = m) := hW.len
  have hb0 := below_alloc w (.cells #[.slice p n c, .slice q m d] 25)
  have b0 := Blk.new' w 25 #[.slice p n c, .slice q m d]
  cases hok : okPool R W with
  | false =>
    have HE : Hid (checkE R W = 40) := checkE_no hok
    have HV : Hid (valsK (allK R W role) = []) := by show _ = _; rw [allK_no hok]; rfl
    go_enter Try.func29, Try.ntmps29
    go_wp2_with (go_at_call 15; refine (rcheck_any p q n c _ d R W _ (hR.below hb0) (hW.below hb0)).mono ?_; rintro e w1 ⟨rfl, hb1⟩; rw [HE.out])
    go_ret
    rw [HV.out]
    exact ⟨none, 0, rfl, InI.empty _, bt hb0 hb1⟩
  | true =>
    have HE : Hid (checkE R W = 0) := checkE_ok hok
    have hnm : n = m := by have := (okPool_iff.1 hok).1.1; rw [HL.out, HLW.out] at this; exact this
    subst hnm
    have HN : Hid (16 ≤ n ∧ n ≤ 256) := by have := (okPool_iff.1 hok).1; rw [HL.out] at this; exact ⟨by omega, by omega⟩
    have hn := HN.out
    have HWW : Hid (∀ i, i < n → 0 ≤ eI W i ∧ eI W i ≤ 16777215) := fun i hi => okWear_iff.1 (eI_all.1 (okPool_iff.1 hok).2.2 i (by rw [HLW.out]; exact hi))
    have HV : Hid (valsK (allK R W role) = natsI (idxTo R role n)) := by show _ = _; rw [valsK_ok hok, HL.out]; rfl
    clear hok
    go_enter Try.func29, Try.ntmps29
    go_upto_region 4 with (go_at_call 15; refine (rcheck_any p q n c _ d R W _ (hR.below hb0) (hW.below hb0)).mono ?_; rintro e w1 ⟨rfl, hb1⟩; rw [HE.out])
    have b1 := b0.kept hb1
    have hB1 := bt hb0 hb1
    have hR1 := hR.below hB1
    have hW1 := hW.below hB1
    obtain ⟨bp, op, rfl, hltp, hcp⟩ := hR1.at' (by omega)
    obtain ⟨bq, oq, rfl, hltq, hcq⟩ := hW1.at' (by omega)
    have HC : Hid (∀ i, i < n → w1.cell? ⟨bp, op + i, none⟩ = some (.int .i64 (eI R i))) := hcp
    have HQ : Hid (∀ i, i < n → w1.cell? ⟨bq, oq + i, none⟩ = some (.int .i64 (eI W i))) := hcq
    have z0 := b1.cell' (i := 0) rfl
    have z1 := b1.cell' (i := 1) rfl
    clear hR hW hb0 b0 hb1 hR1 hcp hW1 hcq
    go_wp2_with fail
    go_loopw [5, 6] (fun v i wr => ∃ (k : Nat) (pv : Option Addr) (cv : Nat), k ≤ n ∧ i = .int .i64 k ∧ v = .slice pv (idxTo R role k).length cv ∧ wr.ownsRow w1.heap.size 3 1 (.slice pv (idxTo R role k).length cv) (idxTo R role k).length (valsI (natsI (idxTo R role k))) ∧ Below w1.heap.size w1 wr) (fun _ i _ => n - (intOf i).toNat)
    case atStart => exact ⟨0, none, 0, Nat.zero_le _, rfl, rfl, World.ownsRow_nil _ _ _ _, Below.refl _ _⟩
    case round =>
      obtain ⟨k, pv, cv, hk, rfl, rfl, hown, hbk⟩ := hrel
      have hle := idxTo_le R role k
      obtain ⟨L, hL⟩ : ∃ L, (idxTo R role k).length = L := ⟨_, rfl⟩
      rw [hL] at hown hle ⊢
      have HL2 : Hid ((idxTo R role k).length = L) := hL
      have e1 := b1.kept hbk
      have y0 := e1.cell' (i := 0) rfl
      clear hL z0 z1
      by_cases hlt : k < n
      · have ck := (hbk.cell (p := ⟨bp, op + k, none⟩) hltp).trans (HC.out k hlt)
        have hk1 : (k : Int) < (n : Int) := by omega
        by_cases hr : eI R k = role
        · have HI : Hid (idxTo R role (k + 1) = idxTo R role k ++ [k]) := idxTo_yes hr
          rw [hr] at ck
          clear hr
          generalize idxTo R role k = is at *
          go_wp2_with (at_builtin; refine wpList_append_own _ rfl (.tmp 24) (.tmp 26) 22 rfl w1.heap.size 3 i0 (.int .i64 0) 1 8 Try.underlying22 hi hz0 hz1 hz2 rfl (by decide) (.slice pv L cv) L (valsI (natsI is)) rfl (hown.alloc _) ⟨wr.heap.size, 0, none⟩ 1 1 [.int .i64 (k : Int)] rfl rfl (new_one wr k) (by simp [Value.oneCell']) (by unfold maxLen; omega) (by omega) (by have := hbk.size; rw [World.size_alloc]; omega) ?_; intro v1 w2 hown2 hgrow2 _)
          go_roundw
          case rel =>
            obtain ⟨p2, c2, rfl⟩ := snoc_form hown2 (by omega)
            rw [← natsI_snoc'] at hown2
            refine ⟨k + 1, p2, c2, by omega, by go_num, by rw [HI.out, List.length_append, HL2.out]; rfl, by rw [HI.out, List.length_append, HL2.out]; exact hown2, (hbk.alloc hbk.size _).grown hgrow2 (by have := hbk.size; rw [World.size_alloc]; omega) (fun j hj => (hown.lt j hj).1)⟩
          case measure => simp [intOf]; omega
        · have HI : Hid (idxTo R role (k + 1) = idxTo R role k) := idxTo_no hr
          have hrb : (eI R k == role) = false := by simpa using hr
          clear hr
          go_wp2_with fail
          go_roundw
          case rel => exact ⟨k + 1, pv, cv, by omega, by go_num, by rw [HI.out, HL2.out], by rw [HI.out, HL2.out]; exact hown, hbk⟩
          case measure => simp [intOf]; omega
      · have hkn : k = n := by omega
        subst hkn
        have HL3 : Hid ((natsI (idxTo R role k)).length = L) := by show _ = _; rw [natsI_length]; exact HL2.out
        have hin : InI wr pv L cv (natsI (idxTo R role k)) := by obtain ⟨p2, c2, e2, hin⟩ := in_of_ownsI hown (by omega); cases e2; exact hin
        go_wp2_with fail
        go_ret
        rw [HV.out, HL3.out]
        exact ⟨pv, cv, rfl, hin, hB1.trans (hbk.mono hB1.size)⟩
end Go.Proofs.Ytigkfmdhmonjlaa
