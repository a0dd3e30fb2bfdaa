/-
  What the reference's EncodeDescs answers.
-/
import Derived.Test.YtbimcdaplnmjdaaLyDEnc
import Derived.Test.YtbimcdaplnmjdaaRefPack
import Derived.Test.YtbimcdaplnmjdaaRefMask
namespace Go.Proofs.Ytbimcdaplnmjdaa
open Go.RowKit
theorem owns_lowR {w : World} {B B' : Nat} {e : TypeId} {s : Nat} {v : Value} {n : Nat} {xs : List Value} (h : w.ownsRow B e s v n xs) (hB : B' ≤ B) : w.ownsRow B' e s v n xs := by
  rcases h with ⟨h1, h2⟩
  refine ⟨h1, ?_⟩
  rcases h2 with ⟨rfl, h⟩ | ⟨g, cap, cur, rfl, hg, h3⟩
  · exact .inl ⟨rfl, h⟩
  · exact .inr ⟨g, cap, cur, rfl, Nat.le_trans hB hg, h3⟩
def sliceLenR : Value → Nat
  | .slice _ n _ => n
  | _ => 0
theorem below_grow {B : Nat} {w0 wr w1 : World} {v : Value} {n : Nat} {e : TypeId} {xs : List Value} (hbel : Below B w0 wr) (hB : B ≤ w0.heap.size) (hown : wr.ownsRow B e 1 v n xs) (hg : wr.grownBy w1 v.ownBlock) : Below B w0 w1 := by
  have hs := hbel.size
  refine hbel.grown hg (by omega) fun k hk => ?_
  rcases hown.2 with ⟨rfl, _⟩ | ⟨g, cap, cur, rfl, hg, _⟩
  · simp [Value.ownBlock] at hk
  · simp only [Value.ownBlock, Option.some.injEq] at hk
    omega
theorem dOk_iff {d : Dsc} : dOk d = true ↔ 0 ≤ d.x ∧ d.x ≤ 65535 ∧ 0 ≤ d.y ∧ d.y ≤ 65535 ∧ 0 ≤ d.z ∧ d.z ≤ 65535 := by
  unfold dOk ok16
  simp only [Bool.and_eq_true, decide_eq_true_eq]
  omega
set_option linter.unusedSimpArgs false in
set_option maxHeartbeats 16000000 in
set_option maxRecDepth 100000 in
theorem rencodeDescs_any (p : Option Addr) (n c : Nat) (l : List Dsc) (w : World) (hx : InD w p n c l) : Calls Try.prog 38 #[.slice p n c] w fun e w' => ∃ p' n' c', e = .returned (.tuple #[.slice p' n' c', .int .i64 (edE l)]) ∧ In w' p' n' c' (edL l) ∧ Below w.heap.size w w' := by
  have HL : Hid (l.length = n) := hx.len
  have hroom := hx.room
  obtain ⟨i0, hi, hz0, hz1, hz2⟩ := info_parts info5
  by_cases hn : n ≤ 16
  · have hn1 : ¬ (16 : Int) < (n : Int) := by omega
    go_enter Try.func38, Try.ntmps38
    go_wp2_with (at_make; refine wpList_make_own _ rfl _ _ 44 rfl w.heap.size 5 i0 (.int .u8 0) 1 Try.underlying44 hi hz0 hz1 .i64 .i64 _ 256 rfl rfl rfl (by rw [hz2]; omega) (by unfold maxLen; omega) (Nat.le_refl _) ?_; intro w1 hown1 hgrow1)
    have hb1 := below_grown0 hgrow1
    clear hgrow1
    go_loopw [4, 5] (fun s i wr => ∃ (k q : Nat) (po : Option Addr) (co : Nat), k ≤ n ∧ Hid (q = 16 * k) ∧ i = .int .i64 k ∧ s = .slice po q co ∧ (∀ i, i < k → dOk (eD l i) = true) ∧ wr.ownsRow w.heap.size 5 1 (.slice po q co) q (vals ((l.take k).flatMap dB)) ∧ Below w.heap.size w wr) (fun _ i _ => n - (intOf i).toNat)
    case atStart => exact ⟨0, 0, _, 256, Nat.zero_le _, rfl, rfl, rfl, fun i h => by omega, hown1, hb1⟩
    case round =>
      obtain ⟨k, q, po, co, hk, HQ, rfl, rfl, hall, hown, hbel⟩ := hrel
      clear hown1 hb1
      have HA : Hid (∀ i, i < k → dOk (eD l i) = true) := hall
      clear hall
      have hsz := hbel.size
      by_cases hlt : k < n
      · have hkl : k < l.length := by rw [HL.out]; exact hlt
        have hxr := hx.below hbel
        obtain ⟨b, o, hpe, hbl, hc⟩ := hxr.at' (by omega)
        subst hpe
        obtain ⟨e0, e1, e2⟩ := hc k hlt
        have HTK : Hid (l.take (k + 1) = l.take k ++ [eD l k]) := takeD_succ l k hkl
        obtain ⟨D, HD⟩ : ∃ D, Hid (eD l k = D) := ⟨_, rfl⟩
        have HKM : Hid (D ∈ l) := by show _ ∈ _; rw [← HD.out]; exact eD_mem hkl
        rw [HD.out] at e0 e1 e2 HTK
        have HLIM : Hid (∀ x ∈ vsD D, x < 18446744073709551616) := vsD_lim D
        clear hc hxr
        by_cases a1 : D.x < 0
        · have HE : Hid (edE l = 1 ∧ edL l = []) := edE_one fun h => by have := h.2 D HKM.out; rw [dOk_iff] at this; omega
          clear HKM HLIM
          go_wp2
          go_ret2
          rw [HE.out.1, HE.out.2]
          exact ⟨_, _, _, rfl, In.empty _, bt hbel (below_alloc _ _)⟩
        by_cases a2 : 65535 < D.x
        · have HE : Hid (edE l = 1 ∧ edL l = []) := edE_one fun h => by have := h.2 D HKM.out; rw [dOk_iff] at this; omega
          clear HKM HLIM
          go_wp2
          go_ret2
          rw [HE.out.1, HE.out.2]
          exact ⟨_, _, _, rfl, In.empty _, bt hbel (below_alloc _ _)⟩
        by_cases a3 : D.y < 0
        · have HE : Hid (edE l = 1 ∧ edL l = []) := edE_one fun h => by have := h.2 D HKM.out; rw [dOk_iff] at this; omega
          clear HKM HLIM
          go_wp2
          go_ret2
          rw [HE.out.1, HE.out.2]
          exact ⟨_, _, _, rfl, In.empty _, bt hbel (below_alloc _ _)⟩
        by_cases a4 : 65535 < D.y
        · have HE : Hid (edE l = 1 ∧ edL l = []) := edE_one fun h => by have := h.2 D HKM.out; rw [dOk_iff] at this; omega
          clear HKM HLIM
          go_wp2
          go_ret2
          rw [HE.out.1, HE.out.2]
          exact ⟨_, _, _, rfl, In.empty _, bt hbel (below_alloc _ _)⟩
        by_cases a5 : D.z < 0
        · have HE : Hid (edE l = 1 ∧ edL l = []) := edE_one fun h => by have := h.2 D HKM.out; rw [dOk_iff] at this; omega
          clear HKM HLIM
          go_wp2
          go_ret2
          rw [HE.out.1, HE.out.2]
          exact ⟨_, _, _, rfl, In.empty _, bt hbel (below_alloc _ _)⟩
        by_cases a6 : 65535 < D.z
        · have HE : Hid (edE l = 1 ∧ edL l = []) := edE_one fun h => by have := h.2 D HKM.out; rw [dOk_iff] at this; omega
          clear HKM HLIM
          go_wp2
          go_ret2
          rw [HE.out.1, HE.out.2]
          exact ⟨_, _, _, rfl, In.empty _, bt hbel (below_alloc _ _)⟩
        have hdk : dOk D = true := by rw [dOk_iff]; omega
        have hPO := packD_ok (d := D) (by unfold Dsc.rng rng; omega)
        rw [hdk] at hPO
        have HPO : Hid (packOk wsD (vsD D) = true) := hPO
        have HPE : Hid (packE wsD (vsD D) = 0) := by show _ = _; unfold packE; rw [if_pos HPO.out]
        have HDK : Hid (dOk (eD l k) = true) := by show _ = _; rw [HD.out]; exact hdk
        have HV : Hid (#[.int .u64 D.x, .int .u64 D.y, .int .u64 D.z] = ((vsD D).map (fun x : Nat => Value.int .u64 (x : Int))).toArray) := by
          unfold dOk at hdk
          simp only [Bool.and_eq_true] at hdk
          show _ = _
          simp only [vsD, List.map_cons, List.map_nil, uN_id hdk.1.1, uN_id hdk.1.2, uN_id hdk.2]
        clear hPO hdk
        have hI : InI (((wr.alloc (.cells #[.int .i64 D.x, .int .i64 D.y, .int .i64 D.z] 58)).alloc (.cells #[.int .i64 16, .int .i64 16, .int .i64 16] 3)).alloc (.cells #[.int .u64 D.x, .int .u64 D.y, .int .u64 D.z] 73)) (some ⟨wr.heap.size + 1, 0, none⟩) 3 3 wsD := by
          have := (in_litI (wr.alloc (.cells #[.int .i64 D.x, .int .i64 D.y, .int .i64 D.z] 58)) (cs := #[.int .i64 16, .int .i64 16, .int .i64 16]) (xs := wsD) (n := 3) rfl rfl (by decide)).below (below_alloc _ (.cells #[.int .u64 D.x, .int .u64 D.y, .int .u64 D.z] 73))
          rwa [World.size_alloc] at this
        have h64 : In64 (((wr.alloc (.cells #[.int .i64 D.x, .int .i64 D.y, .int .i64 D.z] 58)).alloc (.cells #[.int .i64 16, .int .i64 16, .int .i64 16] 3)).alloc (.cells #[.int .u64 D.x, .int .u64 D.y, .int .u64 D.z] 73)) (some ⟨wr.heap.size + 1 + 1, 0, none⟩) 3 3 (vsD D) := by
          have := in_lit64 ((wr.alloc (.cells #[.int .i64 D.x, .int .i64 D.y, .int .i64 D.z] 58)).alloc (.cells #[.int .i64 16, .int .i64 16, .int .i64 16] 3)) (cs := #[.int .u64 D.x, .int .u64 D.y, .int .u64 D.z]) (xs := vsD D) (n := 3) (by rw [HV.out]) rfl HLIM.out (by decide)
          rwa [World.size_alloc, World.size_alloc] at this
        have hBV : Below wr.heap.size wr (((wr.alloc (.cells #[.int .i64 D.x, .int .i64 D.y, .int .i64 D.z] 58)).alloc (.cells #[.int .i64 16, .int .i64 16, .int .i64 16] 3)).alloc (.cells #[.int .u64 D.x, .int .u64 D.y, .int .u64 D.z] 73)) := bt (bt (below_alloc _ _) (below_alloc _ _)) (below_alloc _ _)
        go_wp2_with fail
        refine (refPack_owns _ _ 3 3 3 3 wsD (vsD D) _ hI h64).mono ?_
        rintro e w7 ⟨v7, n7, rfl, hown7, -, -, hb7⟩
        rw [HPE.out]
        have hB7 := bt hBV hb7
        have hown8 := owns_lowR hown7 hBV.size
        have hn7 : n7 = 6 := by have := hown8.1; rw [vals_length, packL_length HPO.out, wsD_bytes] at this; omega
        subst hn7
        obtain ⟨p7, c7, rfl⟩ := owns_slice hown8
        clear hI h64 hBV hown7 hb7 e0 e1 e2 HV HLIM
        go_wp2_with fail
        go_loopw [7] (fun s wq => ∃ (j : Nat) (pb : Option Addr) (cb : Nat), j ≤ 10 ∧ s = .slice pb (6 + j) cb ∧ wq.ownsRow wr.heap.size 5 1 (.slice pb (6 + j) cb) (6 + j) (vals (packL wsD (vsD D) ++ List.replicate j 0)) ∧ Below wr.heap.size wr wq) (fun s _ => 16 - sliceLenR s)
        case atStart => exact ⟨0, p7, c7, by omega, rfl, by rw [List.replicate_zero, List.append_nil]; exact hown8, hB7⟩
        case round =>
          obtain ⟨j, pb, cb, hj, rfl, hownb, hbelb⟩ := hrel
          clear hown8 hB7
          have hszb := hbelb.size
          by_cases hjl : j < 10
          · have hc1 : ((6 + j : Nat) : Int) < 16 := by omega
            go_wp2_with (at_builtin; refine wpList_append_own _ rfl (.tmp 69) (.tmp 70) 44 rfl _ 5 i0 (.int .u8 0) 1 1 Try.underlying44 hi hz0 hz1 hz2 rfl (by decide) (.slice pb (6 + j) cb) (6 + j) _ rfl (hownb.alloc _) ⟨wr.heap.size, 0, none⟩ 1 1 [.int .u8 0] rfl rfl (one_cell_at wr _) (by simp [Value.oneCell']) (by unfold maxLen; omega) (by omega) (by rw [World.size_alloc]; omega) ?_; intro v1 w1 hown1 hgrow1 _)
            obtain ⟨p1, c1, rfl⟩ := owns_slice hown1
            have hbel1 := below_app hbelb (Nat.le_refl _) hownb hgrow1
            go_roundw
            case rel => exact ⟨j + 1, p1, c1, by omega, rfl, by rw [List.replicate_succ', ← List.append_assoc, vals_append]; exact hown1, hbel1⟩
            case measure => simp [sliceLenR]; omega
          · obtain rfl : j = 10 := by omega
            have hi9 : In wr pb 16 cb (dB D) := by
              obtain ⟨p', c', hv, hin⟩ := in_of_owns (xs := dB D) hownb (dB_byte D) (by omega)
              cases hv; exact hin
            obtain ⟨b9, o9, hpe, -, -⟩ := hi9.at' (by decide)
            subst hpe
            have hcs := hi9.cells rfl
            have hownq := owns_below hown hbelb
            have HD16 : Hid ((vals (dB D)).length = 16 * 1) := by show _ = _; rw [vals_length, hi9.len]
            have hB9 := bt hbel hbelb
            have hq16 : q ≤ 240 := by have := HQ.out; omega
            clear hownb hi9
            go_wp2_with (at_builtin; refine wpList_append_own _ rfl (.tmp 72) (.tmp 73) 44 rfl w.heap.size 5 i0 (.int .u8 0) 1 1 Try.underlying44 hi hz0 hz1 hz2 rfl (by decide) (.slice po q co) q _ rfl hownq ⟨b9, o9, none⟩ 16 cb (vals (dB D)) rfl HD16.out hcs (vals_one _) (by unfold maxLen; omega) (by omega) (by omega) ?_; intro v1 w1 hown1 hgrow1 _)
            obtain ⟨p1, c1, rfl⟩ := owns_slice hown1
            have hbel1 := below_grow hB9 (Nat.le_refl _) hownq hgrow1
            go_roundw
            case rel => exact ⟨k + 1, q + 16, p1, c1, by omega, by show _ = _; rw [HQ.out]; omega, by go_num, rfl, fun i hi => by
              rcases Nat.lt_succ_iff_lt_or_eq.1 hi with h | h
              · exact HA.out i h
              · rw [h]; exact HDK.out, by rw [HTK.out, List.flatMap_append, List.flatMap_singleton, vals_append]; exact hown1, hbel1⟩
            case measure => simp [intOf]; omega
      · obtain rfl : k = n := by omega
        have HT : Hid (l.take k = l) := List.take_of_length_le (by rw [HL.out]; omega)
        rw [HT.out] at hown
        have HE : Hid (edE l = 0) := by
          refine edE_zero.2 ⟨by rw [HL.out]; omega, fun d hd => ?_⟩
          have := all_take HA.out (by rw [HL.out]; omega)
          rw [HT.out] at this
          exact this d hd
        have HEL : Hid (edL l = l.flatMap dB ++ List.replicate (256 - q) 0) := by show _ = _; unfold edL edB; rw [if_pos HE.out, HL.out, HQ.out]
        have HBY : Hid (∀ x ∈ l.flatMap dB ++ List.replicate (256 - q) 0, x < 256) := by
          show ∀ x ∈ _, _
          rw [← HEL.out]
          unfold edL
          rw [if_pos HE.out]
          exact edB_byte l
        have hq16 : q ≤ 256 := by have := HQ.out; omega
        go_wp2_with fail
        go_loopw [4] (fun s wq => ∃ (j : Nat) (pb : Option Addr) (cb : Nat), j ≤ 256 - q ∧ s = .slice pb (q + j) cb ∧ wq.ownsRow w.heap.size 5 1 (.slice pb (q + j) cb) (q + j) (vals (l.flatMap dB ++ List.replicate j 0)) ∧ Below w.heap.size w wq) (fun s _ => 256 - sliceLenR s)
        case atStart => exact ⟨0, po, co, by omega, rfl, by rw [List.replicate_zero, List.append_nil]; exact hown, hbel⟩
        case round =>
          obtain ⟨j, pb, cb, hj, rfl, hownb, hbelb⟩ := hrel
          clear hown hbel
          have hszb := hbelb.size
          by_cases hjl : j < 256 - q
          · have hc1 : ((q + j : Nat) : Int) < 256 := by omega
            go_wp2_with (at_builtin; refine wpList_append_own _ rfl (.tmp 78) (.tmp 79) 44 rfl w.heap.size 5 i0 (.int .u8 0) 1 1 Try.underlying44 hi hz0 hz1 hz2 rfl (by decide) (.slice pb (q + j) cb) (q + j) _ rfl (hownb.alloc _) ⟨wr.heap.size, 0, none⟩ 1 1 [.int .u8 0] rfl rfl (one_cell_at wr _) (by simp [Value.oneCell']) (by unfold maxLen; omega) (by omega) (by rw [World.size_alloc]; omega) ?_; intro v1 w1 hown1 hgrow1 _)
            obtain ⟨p1, c1, rfl⟩ := owns_slice hown1
            have hbel1 := below_app hbelb (Nat.le_refl _) hownb hgrow1
            go_roundw
            case rel => exact ⟨j + 1, p1, c1, by omega, rfl, by rw [List.replicate_succ', ← List.append_assoc, vals_append]; exact hown1, hbel1⟩
            case measure => simp [sliceLenR]; omega
          · obtain rfl : j = 256 - q := by omega
            have hc1 : ¬ ((q + (256 - q) : Nat) : Int) < 256 := by omega
            have hi9 : In wr pb (q + (256 - q)) cb (l.flatMap dB ++ List.replicate (256 - q) 0) := by
              obtain ⟨p', c', hv, hin⟩ := in_of_owns hownb HBY.out (by omega)
              cases hv; exact hin
            rw [show q + (256 - q) = 256 from by omega] at hi9
            clear hownb
            go_wp2
            go_ret2
            rw [HE.out, HEL.out]
            exact ⟨_, _, _, rfl, hi9, hbelb⟩
  · have hn1 : (16 : Int) < (n : Int) := by omega
    have HE : Hid (edE l = 1 ∧ edL l = []) := edE_one fun h => by have := HL.out; omega
    go_enter Try.func38, Try.ntmps38
    go_wp2
    go_ret2
    rw [HE.out.1, HE.out.2]
    exact ⟨_, _, _, rfl, In.empty _, Below.refl _ _⟩
end Go.Proofs.Ytbimcdaplnmjdaa
