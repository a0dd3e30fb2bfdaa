/-
  What inode.Put answers.
-/
import Derived.Test.YtgeomfgfeemciaaInG
import Derived.Test.YtgeomfgfeemciaaInBk
namespace Go.Proofs.Ytgeomfgfeemciaa
open Go.RowKit
theorem mid3 {α : Type} {A B C : List α} {k m j : Nat} (hA : A.length = k) (hB : B.length = m) : (A ++ B ++ C)[j]? = if j < k then A[j]? else if j < k + m then B[j - k]? else C[j - (k + m)]? := by
  by_cases h1 : j < k
  · rw [if_pos h1, List.append_assoc, List.getElem?_append_left (by omega)]
  · rw [if_neg h1]
    by_cases h2 : j < k + m
    · rw [if_pos h2, List.getElem?_append_left (by rw [List.length_append]; omega), List.getElem?_append_right (by omega), hA]
    · rw [if_neg h2, List.getElem?_append_right (by rw [List.length_append]; omega), List.length_append, hA, hB]
theorem copy64 {w : World} {B g cap k : Nat} {xs ys : List Nat} {p : Option Addr} {c : Nat} (h : w.ownsRow B 5 1 (.slice (some ⟨g, 0, none⟩) 256 cap) 256 (vals xs)) (hx : xs.length = 256) (hb : ∀ x ∈ xs, x < 256) (hk : k + 64 ≤ 256) (hy : In w p 64 c ys) :
    ∃ w', (Builtin.copy_ #[25, 25] 3 #[.slice (some ⟨g, k, none⟩) (256 - k) (cap - k), .slice p 64 c]).run Try.prog w = .ok (.int .i64 64) w' ∧ In w' (some ⟨g, 0, none⟩) 256 cap (xs.take k ++ ys ++ xs.drop (k + 64)) ∧ Turned w w' g := by
  obtain ⟨b, so, rfl, _, hc⟩ := hy.at' (by decide)
  have hl := hy.len
  rcases h.2 with ⟨hn, _⟩ | ⟨g', cap', cur, hv, hB, hg, hnc, hcm, hcs, ht⟩
  · cases hn
  · cases hv
    have hlen : (vals ys).length = 64 := by rw [vals_length, hl]
    have hr := run_copy_row (P := Try.prog) w 25 25 3 5 g k (256 - k) (cap - k) ⟨b, so, none⟩ 64 c cur 5 (vals ys) Try.underlying25 size5 hg (by rw [hlen]; show 64 = min 64 (256 - k); omega)
      (fun j v hj => hy.cells rfl j v hj) (by rw [hlen]; omega) (vals_one _)
    rw [hlen] at hr
    refine ⟨_, hr, ?_, Turned.setRow _ _ _⟩
    have hN : (w.setRow g (cur.toList.take k ++ vals ys ++ cur.toList.drop (k + 64)).toArray).ownsRow B 5 1 (.slice (some ⟨g, 0, none⟩) 256 cap) 256 (vals (xs.take k ++ ys ++ xs.drop (k + 64))) := by
      refine ⟨by rw [vals_length, List.length_append, List.length_append, List.length_take, List.length_drop, hx, hl]; omega, .inr ⟨g, cap, _, rfl, hB, setRow_heap w g cur _ 5 _ hg, hnc, hcm, ?_, ?_⟩⟩
      · simp only [List.size_toArray, List.length_append, List.length_take, List.length_drop, Array.length_toList, hlen]
        omega
      · rw [vals_append, vals_append, vals_take, vals_drop, ← ht]
        simp only [Nat.mul_one]
        refine List.ext_getElem? fun j => ?_
        have hs : cur.toList.length = cap := by rw [Array.length_toList, hcs, Nat.mul_one]
        have hk2 : (cur.toList.take k).length = k := by rw [List.length_take]; omega
        have hk3 : ((cur.toList.take 256).take k).length = k := by rw [List.length_take, List.length_take]; omega
        rcases Nat.lt_or_ge j 256 with hj | hj
        · rw [List.getElem?_take_of_lt hj, mid3 hk2 hlen, mid3 hk3 hlen]
          split
          · rename_i h1
            rw [List.getElem?_take_of_lt h1, List.getElem?_take_of_lt h1, List.getElem?_take_of_lt hj]
          · split
            · rfl
            · rw [List.getElem?_drop, List.getElem?_drop, show k + 64 + (j - (k + 64)) = j from by omega, List.getElem?_take_of_lt hj]
        · rw [List.getElem?_eq_none (by rw [List.length_take]; omega), List.getElem?_eq_none (by rw [List.length_append, List.length_append, hk3, List.length_drop, List.length_take, hlen]; omega)]
    obtain ⟨p', c', hv, hin⟩ := in_of_owns hN (fun x hx' => by
      rcases List.mem_append.1 hx' with h1 | h1
      · rcases List.mem_append.1 h1 with h2 | h2
        · exact hb x (List.mem_of_mem_take h2)
        · exact hy.byte x h2
      · exact hb x (List.mem_of_mem_drop h1)) (by decide)
    cases hv
    exact hin
theorem slice_back0 (b o n c k : Nat) (h : k < n) (hc : n ≤ c) (W : World) :
    (Instr.slice 25 (.slice (some ⟨b, o, none⟩) n c) (some (.int .i64 (k : Int))) none none).run Try.prog W = .ok (.slice (some ⟨b, o + k, none⟩) (n - k) (c - k)) W := slice_back b o n c k h hc W
set_option linter.unusedSimpArgs false in
set_option linter.unusedVariables false in
set_option maxRecDepth 100000 in
set_option maxHeartbeats 8000000 in
theorem iput_any (x : Ino) (p q : Option Addr) (n c m d : Nat) (xs : List Nat) (s : Int) (w : World) (hx : InE w q m d x.rt) (ht : In w p n c xs) :
    Calls Try.prog 24 #[.slice p n c, .int .i64 s, x.val q m d] w fun e w' => ∃ p' n' c', e = .returned (.tuple #[.slice p' n' c', .int .i64 (putE xs s x)]) ∧ In w' p' n' c' (putL xs s x) ∧ Below w.heap.size w w' := by
  obtain ⟨kd, lk, sz, nx, ge, dp, rt⟩ := x
  dsimp only at hx
  have hb0 := below_alloc w (.cells #[.int .i64 kd, .int .i64 lk, .int .i64 sz, .int .i64 nx, .int .i64 ge, .int .i64 dp, .slice q m d] 24)
  have r0 := Blk.new' w 24 #[.int .i64 kd, .int .i64 lk, .int .i64 sz, .int .i64 nx, .int .i64 ge, .int .i64 dp, .slice q m d]
  have hx0 := hx.below hb0
  have ht0 := ht.below hb0
  obtain ⟨a0, a1, a2, a3, a4, a5, a6⟩ := r0.ino7
  cases hth : thB xs s with
  | false =>
    have HE : Hid (plE xs s = 1) := by show _ = _; unfold plE; rw [hth]; rfl
    have HD : Hid (putE xs s ⟨kd, lk, sz, nx, ge, dp, rt⟩ = 1 ∧ putL xs s ⟨kd, lk, sz, nx, ge, dp, rt⟩ = []) := by show _ ∧ _; unfold putE putL; rw [hth]; exact ⟨rfl, rfl⟩
    clear hth
    go_enter Try.func24, Try.ntmps24
    go_wp2_with (go_at_call 43; refine (place_any p n c xs s _ ht0).mono ?_; rintro e w' ⟨p1, n1, c1, rfl, hi1, hw'⟩; have hw2 := hw'.symm; subst hw2; clear hw'; rw [HE.out])
    go_ret2
    exact ⟨none, 0, 0, by rw [HD.out.1]; rfl, by rw [HD.out.2]; exact In.empty _, hb0⟩
  | true =>
    have HE : Hid (plE xs s = 0) := by show _ = _; unfold plE; rw [hth]; rfl
    obtain ⟨h1, h2, h3⟩ := thB_iff.1 hth
    cases hm : inoB ⟨kd, lk, sz, nx, ge, dp, rt⟩ with
    | false =>
      have HM : Hid (inoE ⟨kd, lk, sz, nx, ge, dp, rt⟩ = 140) := inoE_no hm
      have HD : Hid (putE xs s ⟨kd, lk, sz, nx, ge, dp, rt⟩ = 140 ∧ putL xs s ⟨kd, lk, sz, nx, ge, dp, rt⟩ = []) := by show _ ∧ _; unfold putE putL; rw [hth, hm]; exact ⟨inoE_no hm, rfl⟩
      clear hth hm
      go_enter Try.func24, Try.ntmps24
      go_wp2_with (first
        | (go_at_call 43; refine (place_any p n c xs s _ ht0).mono ?_; rintro e w' ⟨p1, n1, c1, rfl, hi1, hw'⟩; have hw2 := hw'.symm; subst hw2; clear hw'; rw [HE.out])
        | (go_at_call 8; refine (iencode_any ⟨kd, lk, sz, nx, ge, dp, rt⟩ q m d _ hx0).mono ?_; rintro e w2 ⟨p2, n2, c2, rfl, hin2, hb2, hf2⟩; rw [HM.out]))
      go_ret2
      exact ⟨none, 0, 0, by rw [HD.out.1]; rfl, by rw [HD.out.2]; exact In.empty _, bt hb0 hb2⟩
    | true =>
      have HM : Hid (inoE ⟨kd, lk, sz, nx, ge, dp, rt⟩ = 0) := inoE_ok hm
      have HD : Hid (putE xs s ⟨kd, lk, sz, nx, ge, dp, rt⟩ = 0 ∧ putL xs s ⟨kd, lk, sz, nx, ge, dp, rt⟩ = xs.take (64 * s.toNat) ++ encL ⟨kd, lk, sz, nx, ge, dp, rt⟩ ++ xs.drop (64 * s.toNat + 64)) := by show _ ∧ _; refine ⟨?_, putL_ok hth hm⟩; unfold putE; rw [hth]; exact inoE_ok hm
      have HL : Hid ((encL ⟨kd, lk, sz, nx, ge, dp, rt⟩).length = 64) := encL_len hm
      obtain ⟨j, hj⟩ := Int.eq_ofNat_of_zero_le h2
      subst hj
      rw [Int.toNat_natCast] at HD
      have hn := ht.len
      rw [h1] at hn
      subst hn
      have HX : Hid (xs.length = 256) := h1
      have hbyte := ht.byte
      obtain ⟨b, o, hpe, hbl, -⟩ := ht.at' (by decide)
      subst hpe
      obtain ⟨k, hk⟩ : ∃ k : Nat, k = 64 * j := ⟨_, rfl⟩
      have hj3 : (j : Int) ≤ 3 := h3
      have hk' : (j : Int) * 64 = (k : Int) := by omega
      have hk4 : (k : Int) ≤ 192 := by omega
      have hkn : k + 64 ≤ 256 := by omega
      rw [← hk] at HD
      clear hk hth hm h1 h2 h3
      go_enter Try.func24, Try.ntmps24
      go_upto_region 8 with (first
        | (go_at_call 43; refine (place_any (some ⟨b, o, none⟩) 256 c xs (j : Int) _ ht0).mono ?_; rintro e w' ⟨p1, n1, c1, rfl, hi1, hw'⟩; have hw2 := hw'.symm; subst hw2; clear hw'; rw [HE.out])
        | (go_at_call 8; refine (iencode_any ⟨kd, lk, sz, nx, ge, dp, rt⟩ q m d _ hx0).mono ?_; rintro e w2 ⟨p2, n2, c2, rfl, hin2, hb2, hf2⟩; rw [HM.out])
        | (go_at_call 21; refine (clone_owns ⟨b, o, none⟩ 256 c xs _ (ht0.below hb2)).mono ?_; rintro e w3 ⟨v3, rfl, hown3, hb3⟩))
      have hn2 := hin2.len
      rw [HL.out] at hn2
      subst hn2
      obtain ⟨p3, c3, rfl⟩ := owns_slice hown3
      obtain ⟨g3, rfl⟩ : ∃ g, p3 = some ⟨g, 0, none⟩ := by
        rcases hown3.2 with ⟨hn, _⟩ | ⟨g, cap, cur, hv, _⟩
        · cases hn
        · cases hv; exact ⟨g, rfl⟩
      have hge := owns_newP hown3 _ rfl
      have hcap3 : 256 ≤ c3 := by
        rcases hown3.2 with ⟨hn, _⟩ | ⟨g, cap, cur, hv, _, _, hc, _⟩
        · cases hn
        · cases hv; exact hc
      obtain ⟨w4, hcp, hin4, ht4⟩ := copy64 (k := k) hown3 HX.out hbyte hkn (hin2.below hb3)
      have hsl := fun W => slice_back g3 0 256 c3 k (by omega) hcap3 W
      rw [Nat.zero_add] at hsl
      have hB2 := bt hb0 hb2
      have hB4 := ht4.below (bt hB2 hb3) (by have := hB2.size; dsimp only at hge; omega)
      clear hown3 hin2 hi1 hge
      generalize 256 - k = L at hcp hsl
      generalize c3 - k = C at hcp hsl
      go_wp2
      go_ret2
      exact ⟨_, _, _, by rw [HD.out.1]; rfl, by rw [HD.out.2]; exact hin4, hB4⟩
end Go.Proofs.Ytgeomfgfeemciaa
