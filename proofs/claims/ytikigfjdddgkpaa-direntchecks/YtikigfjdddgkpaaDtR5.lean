/-
  What the reference's free and Room answer.
-/
import Derived.Test.YtikigfjdddgkpaaDtEq
import Derived.Deep.Cut
import Derived.Test.YtikigfjdddgkpaaDtR3
namespace Go.Proofs.Ytikigfjdddgkpaa
open Go.RowKit
theorem row_all {w : World} {B : Nat} {v : Value} {l : List Rc} {k : Nat} (h : w.ownsRow B 62 5 v l.length (flatR l)) (hk : k < l.length) : ∃ g cap, v = .slice (some ⟨g, 0, none⟩) l.length cap ∧ g < w.heap.size ∧ w.cell? ⟨g, k * 5, none⟩ = some (.int .i64 (eR l k).pl) ∧ w.cell? ⟨g, k * 5 + 1, none⟩ = some (.int .i64 (eR l k).ln) ∧ w.cell? ⟨g, k * 5 + 2, none⟩ = some (.string ⟨(eR l k).nm.toArray⟩) ∧ w.cell? ⟨g, k * 5 + 3, none⟩ = some (.int .i64 (eR l k).ino) ∧ w.cell? ⟨g, k * 5 + 4, none⟩ = some (.int .i64 (eR l k).kd) := by
  obtain ⟨g, cap, hv⟩ : ∃ g cap, v = .slice (some ⟨g, 0, none⟩) l.length cap := by
    rcases h.2 with ⟨_, h0'⟩ | ⟨g, cap, cur, hv, _⟩
    · omega
    · exact ⟨g, cap, hv⟩
  subst hv
  obtain ⟨f0, f1, f2, f3, f4⟩ := flatR_at (l := l) (k := k) hk
  exact ⟨g, cap, rfl, own_lt h _ rfl, (World.ownsRow.cellAt h (k * 5) (by omega)).trans f0, (World.ownsRow.cellAt h (k * 5 + 1) (by omega)).trans f1, (World.ownsRow.cellAt h (k * 5 + 2) (by omega)).trans f2, (World.ownsRow.cellAt h (k * 5 + 3) (by omega)).trans f3, (World.ownsRow.cellAt h (k * 5 + 4) (by omega)).trans f4⟩
theorem spare_four {r : Rc} (h : RcOk r) : ∃ m : Nat, spareE r = 4 * (m : Int) ∧ m ≤ 64 := by
  have h1 := h.need
  have h2 := h.fit
  have h3 := h.pl
  have h4 := h.four
  have h5 := needE_ge r.nm
  have h6 : needE r.nm % 4 = 0 := by unfold needE; omega
  unfold spareE
  split
  · exact ⟨((r.ln - needE r.nm) / 4).toNat, by omega, by omega⟩
  · exact ⟨(r.ln / 4).toNat, by omega, by omega⟩
set_option linter.unusedSimpArgs false in
set_option linter.unusedVariables false in
set_option maxRecDepth 100000 in
set_option maxHeartbeats 8000000 in
theorem rfree_any (r : Rc) (w : World) (hl : r.nm.length ≤ 100000) (h1 : 0 ≤ r.ln) (h2 : r.ln ≤ 1000000) : Calls Try.prog 43 #[r.val] w fun e w' => e = .returned (.int .i64 (spareE r)) ∧ Below w.heap.size w w' := by
  have hb := below_alloc w (.cells #[.int .i64 r.pl, .int .i64 r.ln, .string ⟨r.nm.toArray⟩, .int .i64 r.ino, .int .i64 r.kd] 62)
  have b0 := Blk.new' w 62 #[.int .i64 r.pl, .int .i64 r.ln, .string ⟨r.nm.toArray⟩, .int .i64 r.ino, .int .i64 r.kd]
  have hne : 0 ≤ needE r.nm ∧ needE r.nm ≤ 200000 := by unfold needE; omega
  cases hh : r.has with
  | false =>
    have HS : Hid (spareE r = r.ln) := by show _ = _; simp [spareE, hh]
    have hz : (r.ino == 0) = true := by unfold Rc.has at hh; simpa using hh
    go_enter Try.func43, Try.ntmps43
    go_wp2
    go_ret
    exact ⟨ret_int HS.out.symm, hb⟩
  | true =>
    have HS : Hid (spareE r = r.ln - needE r.nm) := by show _ = _; simp [spareE, hh]
    have HE : Hid (ownE r = needE r.nm) := by show _ = _; simp [ownE, hh]
    have hz : (r.ino == 0) = false := by unfold Rc.has at hh; simpa using hh
    have hw9 : IntKind.i64.wrap (r.ln - needE r.nm) = r.ln - needE r.nm := wrap_in _ (by omega) (by omega)
    go_enter Try.func43, Try.ntmps43
    go_wp2
    clear hz
    refine wp_region_noPanic ?_
    refine wp_region_held_drew (S := fun X => Blk X w.heap.size 62 [.int .i64 r.pl, .int .i64 r.ln, .string ⟨r.nm.toArray⟩, .int .i64 r.ino, .int .i64 r.kd] ∧ Below w.heap.size w X) (by kernel_rfl) ⟨b0.drew, hb.drew⟩ (fun hHeld => ?_)
    refine wpAnyH_take (i := 0) (v := ?_) rfl (by kernel_rfl) (by kernel_rfl) (by kernel_rfl) (fun _ _ _ h => h) (Or.inl ⟨by rfl, ?_⟩) hHeld ?_
    rotate_left
    · intro w' hSw; try dsimp only at hSw
      go_simp; try (with_reducible rfl)
    try simp only [Act.put, List.getElem_toArray, List.getElem_cons_succ, List.getElem_cons_zero, List.setIfInBounds_toArray, List.set_cons_zero, List.set_cons_succ]
    refine wpAnyH_take (i := 1) (v := ?_) rfl (by kernel_rfl) (by kernel_rfl) (by kernel_rfl) (fun _ _ _ h => h) (Or.inl ⟨by rfl, ?_⟩) hHeld ?_
    rotate_left
    · intro w' hSw; try dsimp only at hSw
      obtain ⟨hSw, -⟩ := hSw
      have d0 := hSw.cell' (i := 0) rfl
      have d1 := hSw.cell' (i := 1) rfl
      have d2 := hSw.cell' (i := 2) rfl
      have d3 := hSw.cell' (i := 3) rfl
      have d4 := hSw.cell' (i := 4) rfl
      go_simp; try (with_reducible rfl)
    try simp only [Act.put, List.getElem_toArray, List.getElem_cons_succ, List.getElem_cons_zero, List.setIfInBounds_toArray, List.set_cons_zero, List.set_cons_succ]
    refine wpAnyH_take (i := 2) (v := ?_) rfl (by kernel_rfl) (by kernel_rfl) (by kernel_rfl) (fun _ _ _ h => h) (Or.inl ⟨by rfl, ?_⟩) hHeld ?_
    rotate_left
    · intro w' hSw; try dsimp only at hSw
      obtain ⟨hSw, -⟩ := hSw
      have d0 := hSw.cell' (i := 0) rfl
      have d1 := hSw.cell' (i := 1) rfl
      have d2 := hSw.cell' (i := 2) rfl
      have d3 := hSw.cell' (i := 3) rfl
      have d4 := hSw.cell' (i := 4) rfl
      go_simp; try (with_reducible rfl)
    try simp only [Act.put, List.getElem_toArray, List.getElem_cons_succ, List.getElem_cons_zero, List.setIfInBounds_toArray, List.set_cons_zero, List.set_cons_succ]
    refine wpAnyH_ready (rs := [3]) (by kernel_rfl) (by simp) ?_
    refine AllReadyH.cons rfl (fun K hK => ?_) AllReadyH.nil
    go_simp
    refine (own_any r _ hl).mono ?_
    rintro e12 w12 ⟨rfl, hb12⟩
    rw [HE.out]
    refine hK.out _ _ ⟨hHeld.1.kept hb12, hHeld.2.trans (hb12.mono hHeld.2.size)⟩ (fun hHeld => ?_)
    clear hK K
    try simp only [Act.put, List.getElem_toArray, List.getElem_cons_succ, List.getElem_cons_zero, List.setIfInBounds_toArray, List.set_cons_zero, List.set_cons_succ]
    refine wpAnyH_take (i := 4) (v := ?_) rfl (by kernel_rfl) (by kernel_rfl) (by kernel_rfl) (fun _ _ _ h => h) (Or.inl ⟨by rfl, ?_⟩) hHeld ?_
    rotate_left
    · intro w' hSw; try dsimp only at hSw
      go_simp; try (with_reducible rfl)
    try simp only [Act.put, List.getElem_toArray, List.getElem_cons_succ, List.getElem_cons_zero, List.setIfInBounds_toArray, List.set_cons_zero, List.set_cons_succ]
    refine wpAnyH_take (i := 5) (v := ?_) rfl (by kernel_rfl) (by kernel_rfl) (by kernel_rfl) (fun _ _ _ h => h) (Or.inl ⟨by rfl, ?_⟩) hHeld ?_
    rotate_left
    · intro w' hSw; try dsimp only at hSw
      go_simp; try (with_reducible rfl)
    try simp only [Act.put, List.getElem_toArray, List.getElem_cons_succ, List.getElem_cons_zero, List.setIfInBounds_toArray, List.set_cons_zero, List.set_cons_succ]
    refine wpAnyH_done (by kernel_rfl) ?_ _
    refine NoPanic.normal ?_
    go_wp2
    go_ret
    exact ⟨ret_int HS.out.symm, hHeld.2⟩
set_option linter.unusedSimpArgs false in
set_option linter.unusedVariables false in
set_option maxRecDepth 100000 in
set_option maxHeartbeats 8000000 in
theorem rroom_any (p : Option Addr) (n c : Nat) (xs : List Nat) (w : World) (hx : In w p n c xs) : Calls Try.prog 21 #[.slice p n c] w fun e w' => e = .returned (.int .i64 (roomE xs)) ∧ Below w.heap.size w w' := by
  have HOK : Hid (∀ r ∈ recsL xs, RcOk r) := recsL_ok hx.byte
  have hcnt := recsL_count xs
  have HR : Hid (roomE xs = min (roomTo (recsL xs)) 48) := rfl
  have hrr := rrecords_any p n c xs w hx
  go_enter Try.func21, Try.ntmps21
  go_wp2_with (go_at_call 36; refine hrr.mono ?_; rintro e w1 ⟨v1, n1, rfl, ho1, hb1⟩; obtain ⟨q, d, hv1⟩ := owns_slice ho1; subst hv1)
  clear hrr
  have hn2 : n1 = (recsL xs).length := by have := ho1.1; rw [flatR_length] at this; omega
  generalize recsL xs = rs at *
  subst hn2
  go_loopw [5, 6] (fun v i wr => ∃ k : Nat, k ≤ rs.length ∧ i = .int .i64 k ∧ v = .int .i64 (roomTo (rs.take k)) ∧ Below w.heap.size w wr ∧ Below w1.heap.size w1 wr) (fun _ i _ => rs.length - (intOf i).toNat)
  case atStart => exact ⟨0, Nat.zero_le _, rfl, rfl, hb1, Below.refl _ _⟩
  case round =>
    obtain ⟨k, hk, rfl, rfl, hbk, hbk1⟩ := hrel
    by_cases hlt : k < rs.length
    · have hki : (k : Int) < (rs.length : Int) := by omega
      obtain ⟨g, cap, he, hgl, e0, e1, e2, e3, e4⟩ := row_all (owns_below ho1 hbk1) hlt
      cases he
      have HT : Hid (roomTo (rs.take (k + 1)) = max (roomTo (rs.take k)) (spareE (eR rs k) - 8)) := by show _ = _; rw [takeR_succ rs k hlt, roomTo_snoc]
      have hrk := HOK.out (eR rs k) (eR_mem hlt)
      have hsp := fun W => rfree_any (eR rs k) W (by have := hrk.nmp; have := hrk.pl; omega) (by have := hrk.need; have := needE_ge (eR rs k).nm; omega) (by have := hrk.fit; have := hrk.pl; omega)
      obtain ⟨m, hm, hm2⟩ := spare_four hrk
      clear hrk
      generalize eR rs k = r at *
      generalize spareE r = s at *
      have hq : s.tdiv 4 = (m : Int) := by rw [hm, Int.mul_tdiv_cancel_left _ (by decide)]
      have hq2 : (m : Int) * 4 = s := by omega
      have hs1 : -8 ≤ s - 8 ∧ s - 8 ≤ 256 := by omega
      have HM : Hid (s = 4 * (m : Int)) := hm
      clear hm
      generalize roomTo (rs.take k) = t at *
      go_wp2_with (go_at_call 43; refine (hsp _).mono ?_; rintro e w2 ⟨rfl, hb2⟩)
      go_roundw
      case rel => exact ⟨k + 1, by omega, by go_num, by rw [HT.out], hbk.trans (hb2.mono hbk.size), hbk1.trans (hb2.mono hbk1.size)⟩
      case measure => simp [intOf]; omega
    · have hkn : ¬ (k : Int) < (rs.length : Int) := by omega
      have HE : Hid (rs.take k = rs) := List.take_of_length_le (by omega)
      rw [HE.out]
      generalize roomTo rs = t at *
      go_wp2
      go_ret
      exact ⟨ret_int HR.out.symm, hbk⟩
end Go.Proofs.Ytikigfjdddgkpaa
