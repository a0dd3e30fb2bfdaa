/-
  What Clone and Norm answer.
-/
import Derived.Test.YtmboohadindlfaaXtSort
namespace Go.Proofs.Ytmboohadindlfaa
open Go.RowKit
theorem cloneE_any (p : Option Addr) (n c : Nat) (l : List Ext) (w : World) (hx : InE w p n c l) (hn : n ≤ 100000000) :
    Calls Try.prog 26 #[.slice p n c] w fun e w' => ∃ p' c', e = .returned (.slice p' n c') ∧ w'.ownsRow w.heap.size 31 3 (.slice p' n c') n (flatE l) ∧ Below w.heap.size w w' := by
  have HX : Hid (l.length = n) := hx.len
  obtain ⟨i0, hi, hz0, hz1, hz2⟩ := info_parts infoE
  have hq := fun (w : World) => Lib.run_eql_slice_nil (P := Try.prog) w 22 31 p n c 0 0 Try.underlying22
  cases p with
  | none =>
    have h1 := hx.nil rfl
    have h2 := hx.cap
    have h3 : n = 0 := by omega
    subst h1
    subst h3
    have h4 : l = [] := List.eq_nil_of_length_eq_zero hx.len
    subst h4
    go_enter Try.func26, Try.ntmps26
    go_wp2
    go_ret
    exact ⟨_, _, rfl, ⟨rfl, .inl ⟨rfl, rfl⟩⟩, Below.refl _ _⟩
  | some a =>
    have ho := World.ownsRow_lit (e := 31) (size := 3) (base := w.heap.size) w #[] 0 (Nat.le_refl _) (by unfold maxLen; omega) (by simp)
    have HO : Hid ((w.alloc (.cells #[] 31)).ownsRow w.heap.size 31 3 (.slice (some ⟨w.heap.size, 0, none⟩) 0 0) 0 []) := ho
    clear ho
    go_enter Try.func26, Try.ntmps26
    go_wp2_with (at_builtin; refine wpList_append_own _ rfl (.tmp 5) (.tmp 6) 22 rfl w.heap.size 31 i0 (.agg #[.int .i64 0, .int .i64 0, .int .i64 0]) 3 24 Try.underlying22 hi hz0 hz1 hz2 rfl (by decide) (.slice (some ⟨w.heap.size, 0, none⟩) 0 0) 0 [] rfl HO.out a n c (flatE l) rfl (by rw [flatE_length, HX.out]) ((hx.below (below_alloc _ _)).flat rfl) (flatE_one l) (by unfold maxLen; omega) (by omega) (by simp) ?_; intro v1 w1 hown1 hgrow1 _)
    go_ret
    rw [List.nil_append, Nat.zero_add] at hown1
    obtain ⟨p', c', hv⟩ := owns_slice hown1
    subst hv
    exact ⟨p', c', rfl, hown1, (below_alloc w _).grown hgrow1 (by simp) (fun k hk => by simp [Value.ownBlock] at hk; omega)⟩
/-- The last extent of a row, and its cells. -/
theorem last_has {w : World} {B n : Nat} {v : Value} {l : List Ext} {x : Ext} (h : w.ownsRow B 31 3 v n (flatE (l ++ [x]))) : ∃ g cap, v = .slice (some ⟨g, 0, none⟩) (l.length + 1) cap ∧ B ≤ g ∧ Has w g (l.length * 3) x ∧ w.frozen? ⟨g, l.length * 3 + 1, none⟩ = false := by
  have hn : n = l.length + 1 := by have := h.1; rw [flatE_length, List.length_append] at this; simp at this; omega
  subst hn
  obtain ⟨g, cap, hv⟩ : ∃ g cap, v = .slice (some ⟨g, 0, none⟩) (l.length + 1) cap := by
    rcases h.2 with ⟨_, h0⟩ | ⟨g, cap, cur, hv, _⟩
    · omega
    · exact ⟨g, cap, hv⟩
  subst hv
  have hat := flatE_at (l := l ++ [x]) (k := l.length) (by rw [List.length_append]; simp)
  have e : eE (l ++ [x]) l.length = x := by simp [eE]
  rw [e] at hat
  exact ⟨g, cap, rfl, owns_newP h _ rfl, ⟨(h.lt g rfl).2, (h.cellAt _ (by omega)).trans hat.1, (h.cellAt _ (by omega)).trans hat.2.1, (h.cellAt _ (by omega)).trans hat.2.2⟩, h.frozenAt _⟩
theorem last_set {l : List Ext} {x : Ext} (m : Int) : (flatE (l ++ [x])).set (l.length * 3 + 1) (.int .i64 m) = flatE (l ++ [⟨x.lo, m, x.ph⟩]) := by
  rw [← flatE_snoc, ← flatE_snoc, List.set_append_right _ _ (by rw [flatE_length]; omega), flatE_length, show l.length * 3 + 1 - l.length * 3 = 1 by omega]
  rfl
theorem okN_zero (s : List Ext) : okN s 0 = oneB (eE s 0) := by simp [okN]
theorem okN_succ (s : List Ext) (q : Nat) : okN s (q + 1) = (oneB (eE s (q + 1)) && decide (endI (eE s q) ≤ (eE s (q + 1)).lo)) := by simp [okN]
/-- What Norm answers, of extents sorted so. -/
def NormAns (w w' : World) (s : List Ext) (e : Ending) : Prop :=
  (chkN s = true ∧ ∃ v, e = .returned (.tuple #[v, .int .i64 0]) ∧ w'.ownsRow w.heap.size 31 3 v (normL s).length (flatE (normL s))) ∨ (chkN s = false ∧ e = .returned (.tuple #[.slice none 0 0, .int .i64 130]))
set_option linter.unusedSimpArgs false in
set_option linter.unusedVariables false in
set_option maxRecDepth 100000 in
set_option maxHeartbeats 4000000 in
theorem norm_any (p : Option Addr) (n c : Nat) (l : List Ext) (w : World) (h : InE w p n c l) (hn : n ≤ 1000000) :
    Calls Try.prog 31 #[.slice p n c] w fun e w' => ∃ s, s.Perm l ∧ s.Pairwise (fun a b => a.lo ≤ b.lo) ∧ NormAns w w' s e ∧ Below w.heap.size w w' := by
  obtain ⟨i0, hi, hz0, hz1, hz2⟩ := info_parts infoE
  go_enter Try.func31, Try.ntmps31
  go_wp2_with fail
  refine (cloneE_any p n c l w h (by omega)).mono ?_
  rintro e9 w1 ⟨p1, c1, rfl, ho1, hb1⟩
  go_wp2_with fail
  refine (sortE_any w.heap.size p1 n c1 l w1 ho1 hb1.size (by omega)).mono ?_
  rintro e9 w2 ⟨rfl, s, hperm, hsort, hs2, hb2⟩
  have HPS : Hid (s.Perm l ∧ s.Pairwise (fun a b => a.lo ≤ b.lo)) := ⟨hperm, hsort⟩
  have hb2 := hb1.trans hb2
  have HL : Hid (s.length = n) := hs2.len
  clear hperm hsort ho1 hb1 h
  go_wp2
  go_loopw [5, 15] (fun v i wr => ∃ k : Nat, k ≤ n ∧ i = .int .i64 k ∧ (∀ j, j < k → okN s j = true) ∧ wr.ownsRow w2.heap.size 31 3 v (normL (s.take k)).length (flatE (normL (s.take k))) ∧ Below w2.heap.size w2 wr) (fun _ i _ => n - (intOf i).toNat)
  case atStart => exact ⟨0, Nat.zero_le _, rfl, fun j hj => absurd hj (Nat.not_lt_zero _), World.ownsRow_nil _ _ _ _, Below.refl _ _⟩
  case round =>
    obtain ⟨k, hk, rfl, hok, ho, hbw⟩ := hrel
    by_cases hlt : k < n
    · have hki : (k : Int) < (n : Int) := by omega
      have HOK : Hid (∀ j, j < k → okN s j = true) := hok
      obtain ⟨b, o, hpe, hbl, hc⟩ := (hs2.below hbw).at' (by omega)
      subst hpe
      obtain ⟨e0, e1, e2⟩ := hc k hlt
      have hks : k < s.length := by rw [HL.out]; exact hlt
      have HN : Hid (okN s k = false → chkN s = false) := fun hh => chkN_no hks hh
      have HNX : Hid (okN s k = true → ∀ j, j < k + 1 → okN s j = true) := fun hh j hj => by
        rcases Nat.lt_succ_iff_lt_or_eq.1 hj with h' | h'
        · exact HOK.out j h'
        · rw [h']; exact hh
      have HU : Hid (s.take (k + 1) = s.take k ++ [eE s k]) := takeE_succ s k hks
      have k0 := Blk.new' wr 31 #[.int .i64 (eE s k).lo, .int .i64 (eE s k).ln, .int .i64 (eE s k).ph]
      have hlen := normL_len (s.take k)
      have hlen2 : (normL (s.take k)).length ≤ k := by rw [List.length_take] at hlen; omega
      have hone := one_any (eE s k)
      cases hoe : oneB (eE s k) with
      | false =>
        have HF : Hid (chkN s = false) := HN.out (by unfold okN; rw [hoe]; rfl)
        rw [oneE_no hoe] at hone
        obtain ⟨pv, cv, rfl⟩ := owns_slice ho
        obtain ⟨T, hT⟩ : ∃ T, (normL (s.take k)).length = T := ⟨_, rfl⟩
        rw [hT] at hlen2 ⊢
        clear hoe hok hc ho hlen hT
        generalize eE s k = e at *
        go_wp2_with fail
        refine (hone _).mono ?_
        rintro e9 w3 ⟨rfl, hb3⟩
        go_wp2
        go_ret2
        exact ⟨s, HPS.out.1, HPS.out.2, .inr ⟨HF.out, rfl⟩, hb2.trans ((hbw.trans ((bt (below_alloc wr _) hb3).mono hbw.size)).mono hb2.size)⟩
      | true =>
        rw [oneE_ok hoe] at hone
        have HO : Hid (oneB (eE s k) = true) := hoe
        rcases Nat.eq_zero_or_pos k with hz | hz
        · have HF : Hid (okN s k = true) := by show _ = _; rw [hz, okN_zero]; rw [hz] at hoe; exact hoe
          have hnil : normL (s.take k) = [] := by rw [hz]; rfl
          have HNF : Hid (normL (s.take (k + 1)) = [eE s k]) := by show _ = _; rw [HU.out, normL_snoc, hnil]; rfl
          rw [hnil] at ho
          obtain ⟨pv, cv, rfl⟩ := owns_slice ho
          have HOW : Hid (wr.ownsRow w2.heap.size 31 3 (.slice pv 0 cv) 0 (flatE [])) := ho
          clear hoe hok hc hz ho hlen hlen2 hnil
          simp only [List.length_nil]
          generalize eE s k = e at *
          go_wp2_with fail
          refine (hone _).mono ?_
          rintro e9 w3 ⟨rfl, hb3⟩
          have k1 := k0.kept hb3
          have hb3' := bt (below_alloc wr (.cells #[.int .i64 e.lo, .int .i64 e.ln, .int .i64 e.ph] 31)) hb3
          have hbw3 := hbw.trans (hb3'.mono hbw.size)
          have hown3 := owns_below HOW.out hb3'
          clear k0 e0 e1 e2 hone hb3
          go_upto_region 10 with fail
          refine wp_region_noPanic ?_
          refine wp_region_held_drew (S := fun _ => True) (by kernel_rfl) trivial (fun hHeld => ?_)
          refine wpAnyH_take (i := 0) (v := ?_) rfl (by kernel_rfl) (by kernel_rfl) (by kernel_rfl) (fun _ _ _ h => h) (Or.inl ⟨by rfl, ?_⟩) hHeld ?_
          rotate_left
          · intro w' hSw; try dsimp only at hSw
            go_simp; try (with_reducible rfl)
          try simp only [Act.put, List.getElem_toArray, List.getElem_cons_succ, List.getElem_cons_zero, List.setIfInBounds_toArray, List.set_cons_zero, List.set_cons_succ]
          refine wpAnyH_take (i := 1) (v := ?_) rfl (by kernel_rfl) (by kernel_rfl) (by kernel_rfl) (fun _ _ _ h => h) (Or.inl ⟨by rfl, ?_⟩) hHeld ?_
          rotate_left
          · intro w' hSw; try dsimp only at hSw
            go_simp; try (with_reducible rfl)
          try simp only [Act.put, List.getElem_toArray, List.getElem_cons_succ, List.getElem_cons_zero, List.setIfInBounds_toArray, List.set_cons_zero, List.set_cons_succ]
          refine wpAnyH_take (i := 2) (v := ?_) rfl (by kernel_rfl) (by kernel_rfl) (by kernel_rfl) (fun _ _ _ h => h) (Or.inl ⟨by rfl, ?_⟩) hHeld ?_
          rotate_left
          · intro w' hSw; try dsimp only at hSw
            go_simp; try (with_reducible rfl)
          try simp only [Act.put, List.getElem_toArray, List.getElem_cons_succ, List.getElem_cons_zero, List.setIfInBounds_toArray, List.set_cons_zero, List.set_cons_succ]
          refine wpAnyH_take (i := 3) (v := undef) rfl (by kernel_rfl) (by kernel_rfl) (by kernel_rfl) (fun _ _ _ h => h) (Or.inr ⟨by rfl, rfl⟩) hHeld ?_
          try simp only [Act.put, List.getElem_toArray, List.getElem_cons_succ, List.getElem_cons_zero, List.setIfInBounds_toArray, List.set_cons_zero, List.set_cons_succ]
          refine wpAnyH_take (i := 4) (v := undef) rfl (by kernel_rfl) (by kernel_rfl) (by kernel_rfl) (fun _ _ _ h => h) (Or.inr ⟨by rfl, rfl⟩) hHeld ?_
          try simp only [Act.put, List.getElem_toArray, List.getElem_cons_succ, List.getElem_cons_zero, List.setIfInBounds_toArray, List.set_cons_zero, List.set_cons_succ]
          refine wpAnyH_take (i := 5) (v := undef) rfl (by kernel_rfl) (by kernel_rfl) (by kernel_rfl) (fun _ _ _ h => h) (Or.inr ⟨by rfl, rfl⟩) hHeld ?_
          try simp only [Act.put, List.getElem_toArray, List.getElem_cons_succ, List.getElem_cons_zero, List.setIfInBounds_toArray, List.set_cons_zero, List.set_cons_succ]
          refine wpAnyH_take (i := 6) (v := undef) rfl (by kernel_rfl) (by kernel_rfl) (by kernel_rfl) (fun _ _ _ h => h) (Or.inr ⟨by rfl, rfl⟩) hHeld ?_
          try simp only [Act.put, List.getElem_toArray, List.getElem_cons_succ, List.getElem_cons_zero, List.setIfInBounds_toArray, List.set_cons_zero, List.set_cons_succ]
          refine wpAnyH_take (i := 7) (v := undef) rfl (by kernel_rfl) (by kernel_rfl) (by kernel_rfl) (fun _ _ _ h => h) (Or.inr ⟨by rfl, rfl⟩) hHeld ?_
          try simp only [Act.put, List.getElem_toArray, List.getElem_cons_succ, List.getElem_cons_zero, List.setIfInBounds_toArray, List.set_cons_zero, List.set_cons_succ]
          refine wpAnyH_take (i := 8) (v := undef) rfl (by kernel_rfl) (by kernel_rfl) (by kernel_rfl) (fun _ _ _ h => h) (Or.inr ⟨by rfl, rfl⟩) hHeld ?_
          try simp only [Act.put, List.getElem_toArray, List.getElem_cons_succ, List.getElem_cons_zero, List.setIfInBounds_toArray, List.set_cons_zero, List.set_cons_succ]
          refine wpAnyH_take (i := 9) (v := undef) rfl (by kernel_rfl) (by kernel_rfl) (by kernel_rfl) (fun _ _ _ h => h) (Or.inr ⟨by rfl, rfl⟩) hHeld ?_
          try simp only [Act.put, List.getElem_toArray, List.getElem_cons_succ, List.getElem_cons_zero, List.setIfInBounds_toArray, List.set_cons_zero, List.set_cons_succ]
          refine wpAnyH_take (i := 10) (v := undef) rfl (by kernel_rfl) (by kernel_rfl) (by kernel_rfl) (fun _ _ _ h => h) (Or.inr ⟨by rfl, rfl⟩) hHeld ?_
          try simp only [Act.put, List.getElem_toArray, List.getElem_cons_succ, List.getElem_cons_zero, List.setIfInBounds_toArray, List.set_cons_zero, List.set_cons_succ]
          refine wpAnyH_take (i := 11) (v := ?_) rfl (by kernel_rfl) (by kernel_rfl) (by kernel_rfl) (fun _ _ _ h => h) (Or.inl ⟨by rfl, ?_⟩) hHeld ?_
          rotate_left
          · intro w' hSw; try dsimp only at hSw
            go_simp; try (with_reducible rfl)
          try simp only [Act.put, List.getElem_toArray, List.getElem_cons_succ, List.getElem_cons_zero, List.setIfInBounds_toArray, List.set_cons_zero, List.set_cons_succ]
          refine wpAnyH_take (i := 12) (v := ?_) rfl (by kernel_rfl) (by kernel_rfl) (by kernel_rfl) (fun _ _ _ h => h) (Or.inl ⟨by rfl, ?_⟩) hHeld ?_
          rotate_left
          · intro w' hSw; try dsimp only at hSw
            go_simp; try (with_reducible rfl)
          try simp only [Act.put, List.getElem_toArray, List.getElem_cons_succ, List.getElem_cons_zero, List.setIfInBounds_toArray, List.set_cons_zero, List.set_cons_succ]
          refine wpAnyH_done (by kernel_rfl) ?_ _
          refine NoPanic.normal ?_
          go_upto_region 12 with fail
          refine wp_region_noPanic ?_
          refine wp_region_held_drew (S := fun _ => True) (by kernel_rfl) trivial (fun hHeld => ?_)
          refine wpAnyH_take (i := 0) (v := ?_) rfl (by kernel_rfl) (by kernel_rfl) (by kernel_rfl) (fun _ _ _ h => h) (Or.inl ⟨by rfl, ?_⟩) hHeld ?_
          rotate_left
          · intro w' hSw; try dsimp only at hSw
            go_simp; try (with_reducible rfl)
          try simp only [Act.put, List.getElem_toArray, List.getElem_cons_succ, List.getElem_cons_zero, List.setIfInBounds_toArray, List.set_cons_zero, List.set_cons_succ]
          refine wpAnyH_take (i := 1) (v := ?_) rfl (by kernel_rfl) (by kernel_rfl) (by kernel_rfl) (fun _ _ _ h => h) (Or.inl ⟨by rfl, ?_⟩) hHeld ?_
          rotate_left
          · intro w' hSw; try dsimp only at hSw
            go_simp; try (with_reducible rfl)
          try simp only [Act.put, List.getElem_toArray, List.getElem_cons_succ, List.getElem_cons_zero, List.setIfInBounds_toArray, List.set_cons_zero, List.set_cons_succ]
          refine wpAnyH_take (i := 2) (v := ?_) rfl (by kernel_rfl) (by kernel_rfl) (by kernel_rfl) (fun _ _ _ h => h) (Or.inl ⟨by rfl, ?_⟩) hHeld ?_
          rotate_left
          · intro w' hSw; try dsimp only at hSw
            go_simp; try (with_reducible rfl)
          try simp only [Act.put, List.getElem_toArray, List.getElem_cons_succ, List.getElem_cons_zero, List.setIfInBounds_toArray, List.set_cons_zero, List.set_cons_succ]
          refine wpAnyH_take (i := 3) (v := undef) rfl (by kernel_rfl) (by kernel_rfl) (by kernel_rfl) (fun _ _ _ h => h) (Or.inr ⟨by rfl, rfl⟩) hHeld ?_
          try simp only [Act.put, List.getElem_toArray, List.getElem_cons_succ, List.getElem_cons_zero, List.setIfInBounds_toArray, List.set_cons_zero, List.set_cons_succ]
          refine wpAnyH_take (i := 4) (v := undef) rfl (by kernel_rfl) (by kernel_rfl) (by kernel_rfl) (fun _ _ _ h => h) (Or.inr ⟨by rfl, rfl⟩) hHeld ?_
          try simp only [Act.put, List.getElem_toArray, List.getElem_cons_succ, List.getElem_cons_zero, List.setIfInBounds_toArray, List.set_cons_zero, List.set_cons_succ]
          refine wpAnyH_take (i := 5) (v := undef) rfl (by kernel_rfl) (by kernel_rfl) (by kernel_rfl) (fun _ _ _ h => h) (Or.inr ⟨by rfl, rfl⟩) hHeld ?_
          try simp only [Act.put, List.getElem_toArray, List.getElem_cons_succ, List.getElem_cons_zero, List.setIfInBounds_toArray, List.set_cons_zero, List.set_cons_succ]
          refine wpAnyH_take (i := 6) (v := undef) rfl (by kernel_rfl) (by kernel_rfl) (by kernel_rfl) (fun _ _ _ h => h) (Or.inr ⟨by rfl, rfl⟩) hHeld ?_
          try simp only [Act.put, List.getElem_toArray, List.getElem_cons_succ, List.getElem_cons_zero, List.setIfInBounds_toArray, List.set_cons_zero, List.set_cons_succ]
          refine wpAnyH_take (i := 7) (v := undef) rfl (by kernel_rfl) (by kernel_rfl) (by kernel_rfl) (fun _ _ _ h => h) (Or.inr ⟨by rfl, rfl⟩) hHeld ?_
          try simp only [Act.put, List.getElem_toArray, List.getElem_cons_succ, List.getElem_cons_zero, List.setIfInBounds_toArray, List.set_cons_zero, List.set_cons_succ]
          refine wpAnyH_take (i := 8) (v := undef) rfl (by kernel_rfl) (by kernel_rfl) (by kernel_rfl) (fun _ _ _ h => h) (Or.inr ⟨by rfl, rfl⟩) hHeld ?_
          try simp only [Act.put, List.getElem_toArray, List.getElem_cons_succ, List.getElem_cons_zero, List.setIfInBounds_toArray, List.set_cons_zero, List.set_cons_succ]
          refine wpAnyH_take (i := 9) (v := ?_) rfl (by kernel_rfl) (by kernel_rfl) (by kernel_rfl) (fun _ _ _ h => h) (Or.inl ⟨by rfl, ?_⟩) hHeld ?_
          rotate_left
          · intro w' hSw; try dsimp only at hSw
            go_simp; try (with_reducible rfl)
          try simp only [Act.put, List.getElem_toArray, List.getElem_cons_succ, List.getElem_cons_zero, List.setIfInBounds_toArray, List.set_cons_zero, List.set_cons_succ]
          refine wpAnyH_take (i := 10) (v := ?_) rfl (by kernel_rfl) (by kernel_rfl) (by kernel_rfl) (fun _ _ _ h => h) (Or.inl ⟨by rfl, ?_⟩) hHeld ?_
          rotate_left
          · intro w' hSw; try dsimp only at hSw
            go_simp; try (with_reducible rfl)
          try simp only [Act.put, List.getElem_toArray, List.getElem_cons_succ, List.getElem_cons_zero, List.setIfInBounds_toArray, List.set_cons_zero, List.set_cons_succ]
          refine wpAnyH_done (by kernel_rfl) ?_ _
          refine NoPanic.normal ?_
          have hbd : Below w3.heap.size w3 w3.drew.drew := (Below.refl _ _).drew.drew
          have k2 := k1.kept hbd
          have hbw4 := hbw3.trans (hbd.mono hbw3.size)
          have hown4 := owns_below hown3 hbd
          clear hHeld hbd k1 hbw3 hown3 hb3'
          generalize w3.drew.drew = w4 at *
          have z0 := k2.cell' (i := 0) rfl
          have z1 := k2.cell' (i := 1) rfl
          have z2 := k2.cell' (i := 2) rfl
          have hs4 := hbw4.size
          go_wp2_with (at_builtin; refine wpList_append_own _ rfl (.tmp 22) (.tmp 24) 22 rfl w2.heap.size 31 i0 (.agg #[.int .i64 0, .int .i64 0, .int .i64 0]) 3 24 Try.underlying22 hi hz0 hz1 hz2 rfl (by decide) _ 0 _ rfl (hown4.alloc _) ⟨_, 0, none⟩ 1 1 [.int .i64 e.lo, .int .i64 e.ln, .int .i64 e.ph] rfl rfl (new_three _ _ _ _) (by simp [Value.oneCell']) (by unfold maxLen; omega) (by omega) (by simp; omega) ?_; intro v1 w5 hown5 hgrow5 _)
          have hb5 := below_appP hbw4 (Nat.le_refl _) hown4 hgrow5
          rw [flatE_snoc] at hown5
          go_roundw
          case rel => exact ⟨k + 1, by omega, by go_num, HNX.out HF.out, by rw [HNF.out]; exact hown5, hb5⟩
          case measure => simp [intOf]; omega
        · obtain ⟨q9, hkq⟩ : ∃ q9, k = q9 + 1 := ⟨k - 1, by omega⟩
          obtain ⟨no, x, hno, hox, hend⟩ := normL_last (s := s) (k := q9) (by omega) (fun i hi => hok i (by omega))
          rw [← hkq] at hno
          have hE := okN_succ s q9
          rw [← hkq, hoe, Bool.true_and, ← hend] at hE
          have HE : Hid (okN s k = decide (endI x ≤ (eE s k).lo)) := hE
          have HNF : Hid (normL (s.take (k + 1)) = normStep (no ++ [x]) (eE s k)) := by show _ = _; rw [HU.out, normL_snoc, hno]
          rw [hno] at ho hlen2
          rw [List.length_append, List.length_singleton] at ho hlen2
          obtain ⟨g, cap, rfl, hgB, hx0, hfz⟩ := last_has ho
          obtain ⟨q, hq⟩ : ∃ q, no.length = q := ⟨_, rfl⟩
          have hst := (ho.stored (no.length * 3 + 1) (.int .i64 (x.ln + (eE s k).ln))).1
          obtain ⟨T, hT⟩ : ∃ T, T = q + 1 := ⟨_, rfl⟩
          rw [hq, ← hT] at ho hlen2
          rw [hq] at hx0 hfz
          rw [hq, ← hT] at ⊢
          have HQ : Hid (no.length = q) := hq
          have HT : Hid (T = q + 1) := hT
          have hT0 : 0 < T := by omega
          have hqT : q < T := by omega
          have hq0 : (q : Int) ≥ 0 := by omega
          have hq1 : IntKind.i64.wrap ((T : Int) - 1) = (q : Int) := by rw [IntKind.wrap_i64]; omega
          have hqn : (q : Int) < (T : Int) := by omega
          clear hoe hok hc hE hz hkq hno hend hst hq hT hlen
          generalize eE s k = e at *
          go_wp2_with fail
          refine (hone _).mono ?_
          rintro e9 w3 ⟨rfl, hb3⟩
          have k1 := k0.kept hb3
          have hb3' := bt (below_alloc wr (.cells #[.int .i64 e.lo, .int .i64 e.ln, .int .i64 e.ph] 31)) hb3
          have hbw3 := hbw.trans (hb3'.mono hbw.size)
          have hx3 := hx0.below hb3'
          have hown3 := owns_below ho hb3'
          obtain ⟨gb, hgb⟩ : ∃ gb, gb = wr.heap.size := ⟨_, rfl⟩
          rw [← hgb] at k1 ⊢
          clear k0 e0 e1 e2 hone hb3 hx0 ho hgb
          go_upto_region 10 with fail
          refine wp_region_noPanic ?_
          refine wp_region_held_drew (S := fun X => Blk X gb 31 [.int .i64 e.lo, .int .i64 e.ln, .int .i64 e.ph] ∧ Has X g (q * 3) x) (by kernel_rfl) ⟨k1.drew, hx3.below (Below.refl _ _).drew⟩ (fun hHeld => ?_)
          refine wpAnyH_take (i := 0) (v := ?_) rfl (by kernel_rfl) (by kernel_rfl) (by kernel_rfl) (fun _ _ _ h => h) (Or.inl ⟨by rfl, ?_⟩) hHeld ?_
          rotate_left
          · intro w' hSw; try dsimp only at hSw
            obtain ⟨hs1, _, d0, d1, d2⟩ := hSw
            have c0 := hs1.cell' (i := 0) rfl
            have c1 := hs1.cell' (i := 1) rfl
            have c2 := hs1.cell' (i := 2) rfl
            go_simp; try (with_reducible rfl)
          try simp only [Act.put, List.getElem_toArray, List.getElem_cons_succ, List.getElem_cons_zero, List.setIfInBounds_toArray, List.set_cons_zero, List.set_cons_succ]
          refine wpAnyH_take (i := 1) (v := ?_) rfl (by kernel_rfl) (by kernel_rfl) (by kernel_rfl) (fun _ _ _ h => h) (Or.inl ⟨by rfl, ?_⟩) hHeld ?_
          rotate_left
          · intro w' hSw; try dsimp only at hSw
            obtain ⟨hs1, _, d0, d1, d2⟩ := hSw
            have c0 := hs1.cell' (i := 0) rfl
            have c1 := hs1.cell' (i := 1) rfl
            have c2 := hs1.cell' (i := 2) rfl
            go_simp; try (with_reducible rfl)
          try simp only [Act.put, List.getElem_toArray, List.getElem_cons_succ, List.getElem_cons_zero, List.setIfInBounds_toArray, List.set_cons_zero, List.set_cons_succ]
          refine wpAnyH_take (i := 2) (v := ?_) rfl (by kernel_rfl) (by kernel_rfl) (by kernel_rfl) (fun _ _ _ h => h) (Or.inl ⟨by rfl, ?_⟩) hHeld ?_
          rotate_left
          · intro w' hSw; try dsimp only at hSw
            obtain ⟨hs1, _, d0, d1, d2⟩ := hSw
            have c0 := hs1.cell' (i := 0) rfl
            have c1 := hs1.cell' (i := 1) rfl
            have c2 := hs1.cell' (i := 2) rfl
            go_simp; try (with_reducible rfl)
          try simp only [Act.put, List.getElem_toArray, List.getElem_cons_succ, List.getElem_cons_zero, List.setIfInBounds_toArray, List.set_cons_zero, List.set_cons_succ]
          refine wpAnyH_take (i := 3) (v := ?_) rfl (by kernel_rfl) (by kernel_rfl) (by kernel_rfl) (fun _ _ _ h => h) (Or.inl ⟨by rfl, ?_⟩) hHeld ?_
          rotate_left
          · intro w' hSw; try dsimp only at hSw
            obtain ⟨hs1, _, d0, d1, d2⟩ := hSw
            have c0 := hs1.cell' (i := 0) rfl
            have c1 := hs1.cell' (i := 1) rfl
            have c2 := hs1.cell' (i := 2) rfl
            go_simp; try (with_reducible rfl)
          try simp only [Act.put, List.getElem_toArray, List.getElem_cons_succ, List.getElem_cons_zero, List.setIfInBounds_toArray, List.set_cons_zero, List.set_cons_succ]
          refine wpAnyH_take (i := 4) (v := ?_) rfl (by kernel_rfl) (by kernel_rfl) (by kernel_rfl) (fun _ _ _ h => h) (Or.inl ⟨by rfl, ?_⟩) hHeld ?_
          rotate_left
          · intro w' hSw; try dsimp only at hSw
            obtain ⟨hs1, _, d0, d1, d2⟩ := hSw
            have c0 := hs1.cell' (i := 0) rfl
            have c1 := hs1.cell' (i := 1) rfl
            have c2 := hs1.cell' (i := 2) rfl
            go_simp; try (with_reducible rfl)
          try simp only [Act.put, List.getElem_toArray, List.getElem_cons_succ, List.getElem_cons_zero, List.setIfInBounds_toArray, List.set_cons_zero, List.set_cons_succ]
          refine wpAnyH_take (i := 5) (v := ?_) rfl (by kernel_rfl) (by kernel_rfl) (by kernel_rfl) (fun _ _ _ h => h) (Or.inl ⟨by rfl, ?_⟩) hHeld ?_
          rotate_left
          · intro w' hSw; try dsimp only at hSw
            obtain ⟨hs1, _, d0, d1, d2⟩ := hSw
            have c0 := hs1.cell' (i := 0) rfl
            have c1 := hs1.cell' (i := 1) rfl
            have c2 := hs1.cell' (i := 2) rfl
            go_simp; try (with_reducible rfl)
          try simp only [Act.put, List.getElem_toArray, List.getElem_cons_succ, List.getElem_cons_zero, List.setIfInBounds_toArray, List.set_cons_zero, List.set_cons_succ]
          refine wpAnyH_take (i := 6) (v := ?_) rfl (by kernel_rfl) (by kernel_rfl) (by kernel_rfl) (fun _ _ _ h => h) (Or.inl ⟨by rfl, ?_⟩) hHeld ?_
          rotate_left
          · intro w' hSw; try dsimp only at hSw
            obtain ⟨hs1, _, d0, d1, d2⟩ := hSw
            have c0 := hs1.cell' (i := 0) rfl
            have c1 := hs1.cell' (i := 1) rfl
            have c2 := hs1.cell' (i := 2) rfl
            go_simp; try (with_reducible rfl)
          try simp only [Act.put, List.getElem_toArray, List.getElem_cons_succ, List.getElem_cons_zero, List.setIfInBounds_toArray, List.set_cons_zero, List.set_cons_succ]
          refine wpAnyH_take (i := 7) (v := ?_) rfl (by kernel_rfl) (by kernel_rfl) (by kernel_rfl) (fun _ _ _ h => h) (Or.inl ⟨by rfl, ?_⟩) hHeld ?_
          rotate_left
          · intro w' hSw; try dsimp only at hSw
            obtain ⟨hs1, _, d0, d1, d2⟩ := hSw
            have c0 := hs1.cell' (i := 0) rfl
            have c1 := hs1.cell' (i := 1) rfl
            have c2 := hs1.cell' (i := 2) rfl
            go_simp; try (with_reducible rfl)
          try simp only [Act.put, List.getElem_toArray, List.getElem_cons_succ, List.getElem_cons_zero, List.setIfInBounds_toArray, List.set_cons_zero, List.set_cons_succ]
          refine wpAnyH_take (i := 8) (v := ?_) rfl (by kernel_rfl) (by kernel_rfl) (by kernel_rfl) (fun _ _ _ h => h) (Or.inl ⟨by rfl, ?_⟩) hHeld ?_
          rotate_left
          · intro w' hSw; try dsimp only at hSw
            obtain ⟨hs1, _, d0, d1, d2⟩ := hSw
            have c0 := hs1.cell' (i := 0) rfl
            have c1 := hs1.cell' (i := 1) rfl
            have c2 := hs1.cell' (i := 2) rfl
            go_simp; try (with_reducible rfl)
          try simp only [Act.put, List.getElem_toArray, List.getElem_cons_succ, List.getElem_cons_zero, List.setIfInBounds_toArray, List.set_cons_zero, List.set_cons_succ]
          refine wpAnyH_ready (rs := [9]) (by kernel_rfl) (by simp) ?_
          refine AllReadyH.cons rfl (fun K hK => ?_) AllReadyH.nil
          go_simp
          refine (end_any x _ hox).mono ?_
          rintro e9 w4 ⟨rfl, rfl⟩
          have k2 := k1.drew.alloc (.cells #[.int .i64 x.lo, .int .i64 x.ln, .int .i64 x.ph] 31)
          have hbn : Below w3.heap.size w3 (w3.drew.alloc (.cells #[.int .i64 x.lo, .int .i64 x.ln, .int .i64 x.ph] 31)) := below_al (Below.refl _ _).drew (.cells #[.int .i64 x.lo, .int .i64 x.ln, .int .i64 x.ph] 31)
          have hx4 := hx3.below hbn
          have hbw4 := hbw3.trans (hbn.mono hbw3.size)
          have hown4 := owns_below hown3 hbn
          clear hbn
          refine hK.out _ _ ⟨k2, hx4⟩ (fun hHeld => ?_)
          clear hK K
          try simp only [Act.put, List.getElem_toArray, List.getElem_cons_succ, List.getElem_cons_zero, List.setIfInBounds_toArray, List.set_cons_zero, List.set_cons_succ]
          clear k1 hx3 hown3
          generalize World.alloc (World.drew w3) _ = w4 at *
          by_cases hov : e.lo < endI x
          · have HF : Hid (chkN s = false) := HN.out (by rw [HE.out, decide_eq_false (by omega)])
            refine wpAnyH_take (i := 10) (v := ?_) rfl (by kernel_rfl) (by kernel_rfl) (by kernel_rfl) (fun _ _ _ h => h) (Or.inl ⟨by rfl, ?_⟩) hHeld ?_
            rotate_left
            · intro w' hSw; try dsimp only at hSw
              obtain ⟨hs1, _, d0, d1, d2⟩ := hSw
              have c0 := hs1.cell' (i := 0) rfl
              have c1 := hs1.cell' (i := 1) rfl
              have c2 := hs1.cell' (i := 2) rfl
              go_simp; try (with_reducible rfl)
            try simp only [Act.put, List.getElem_toArray, List.getElem_cons_succ, List.getElem_cons_zero, List.setIfInBounds_toArray, List.set_cons_zero, List.set_cons_succ]
            refine wpAnyH_take (i := 11) (v := ?_) rfl (by kernel_rfl) (by kernel_rfl) (by kernel_rfl) (fun _ _ _ h => h) (Or.inl ⟨by rfl, ?_⟩) hHeld ?_
            rotate_left
            · intro w' hSw; try dsimp only at hSw
              obtain ⟨hs1, _, d0, d1, d2⟩ := hSw
              have c0 := hs1.cell' (i := 0) rfl
              have c1 := hs1.cell' (i := 1) rfl
              have c2 := hs1.cell' (i := 2) rfl
              go_simp; try (with_reducible rfl)
            try simp only [Act.put, List.getElem_toArray, List.getElem_cons_succ, List.getElem_cons_zero, List.setIfInBounds_toArray, List.set_cons_zero, List.set_cons_succ]
            refine wpAnyH_take (i := 12) (v := ?_) rfl (by kernel_rfl) (by kernel_rfl) (by kernel_rfl) (fun _ _ _ h => h) (Or.inl ⟨by rfl, ?_⟩) hHeld ?_
            rotate_left
            · intro w' hSw; try dsimp only at hSw
              obtain ⟨hs1, _, d0, d1, d2⟩ := hSw
              have c0 := hs1.cell' (i := 0) rfl
              have c1 := hs1.cell' (i := 1) rfl
              have c2 := hs1.cell' (i := 2) rfl
              go_simp; try (with_reducible rfl)
            try simp only [Act.put, List.getElem_toArray, List.getElem_cons_succ, List.getElem_cons_zero, List.setIfInBounds_toArray, List.set_cons_zero, List.set_cons_succ]
            refine wpAnyH_done (by kernel_rfl) ?_ _
            refine NoPanic.normal ?_
            clear hHeld
            go_wp2
            go_ret2
            exact ⟨s, HPS.out.1, HPS.out.2, .inr ⟨HF.out, rfl⟩, hb2.trans (hbw4.mono hb2.size)⟩
          · have HF : Hid (okN s k = true) := by show _ = _; rw [HE.out, decide_eq_true (by omega)]
            refine wpAnyH_take (i := 10) (v := ?_) rfl (by kernel_rfl) (by kernel_rfl) (by kernel_rfl) (fun _ _ _ h => h) (Or.inl ⟨by rfl, ?_⟩) hHeld ?_
            rotate_left
            · intro w' hSw; try dsimp only at hSw
              obtain ⟨hs1, _, d0, d1, d2⟩ := hSw
              have c0 := hs1.cell' (i := 0) rfl
              have c1 := hs1.cell' (i := 1) rfl
              have c2 := hs1.cell' (i := 2) rfl
              go_simp; try (with_reducible rfl)
            try simp only [Act.put, List.getElem_toArray, List.getElem_cons_succ, List.getElem_cons_zero, List.setIfInBounds_toArray, List.set_cons_zero, List.set_cons_succ]
            refine wpAnyH_take (i := 11) (v := ?_) rfl (by kernel_rfl) (by kernel_rfl) (by kernel_rfl) (fun _ _ _ h => h) (Or.inl ⟨by rfl, ?_⟩) hHeld ?_
            rotate_left
            · intro w' hSw; try dsimp only at hSw
              obtain ⟨hs1, _, d0, d1, d2⟩ := hSw
              have c0 := hs1.cell' (i := 0) rfl
              have c1 := hs1.cell' (i := 1) rfl
              have c2 := hs1.cell' (i := 2) rfl
              go_simp; try (with_reducible rfl)
            try simp only [Act.put, List.getElem_toArray, List.getElem_cons_succ, List.getElem_cons_zero, List.setIfInBounds_toArray, List.set_cons_zero, List.set_cons_succ]
            refine wpAnyH_take (i := 12) (v := ?_) rfl (by kernel_rfl) (by kernel_rfl) (by kernel_rfl) (fun _ _ _ h => h) (Or.inl ⟨by rfl, ?_⟩) hHeld ?_
            rotate_left
            · intro w' hSw; try dsimp only at hSw
              obtain ⟨hs1, _, d0, d1, d2⟩ := hSw
              have c0 := hs1.cell' (i := 0) rfl
              have c1 := hs1.cell' (i := 1) rfl
              have c2 := hs1.cell' (i := 2) rfl
              go_simp; try (with_reducible rfl)
            try simp only [Act.put, List.getElem_toArray, List.getElem_cons_succ, List.getElem_cons_zero, List.setIfInBounds_toArray, List.set_cons_zero, List.set_cons_succ]
            refine wpAnyH_done (by kernel_rfl) ?_ _
            refine NoPanic.normal ?_
            clear hHeld
            go_upto_region 12 with fail
            refine wp_region_noPanic ?_
            refine wp_region_held_drew (S := fun X => Blk X gb 31 [.int .i64 e.lo, .int .i64 e.ln, .int .i64 e.ph] ∧ Has X g (q * 3) x) (by kernel_rfl) ⟨k2.drew, hx4.below (Below.refl _ _).drew⟩ (fun hHeld => ?_)
            refine wpAnyH_take (i := 0) (v := ?_) rfl (by kernel_rfl) (by kernel_rfl) (by kernel_rfl) (fun _ _ _ h => h) (Or.inl ⟨by rfl, ?_⟩) hHeld ?_
            rotate_left
            · intro w' hSw; try dsimp only at hSw
              obtain ⟨hs1, _, d0, d1, d2⟩ := hSw
              have c0 := hs1.cell' (i := 0) rfl
              have c1 := hs1.cell' (i := 1) rfl
              have c2 := hs1.cell' (i := 2) rfl
              go_simp; try (with_reducible rfl)
            try simp only [Act.put, List.getElem_toArray, List.getElem_cons_succ, List.getElem_cons_zero, List.setIfInBounds_toArray, List.set_cons_zero, List.set_cons_succ]
            refine wpAnyH_take (i := 1) (v := ?_) rfl (by kernel_rfl) (by kernel_rfl) (by kernel_rfl) (fun _ _ _ h => h) (Or.inl ⟨by rfl, ?_⟩) hHeld ?_
            rotate_left
            · intro w' hSw; try dsimp only at hSw
              obtain ⟨hs1, _, d0, d1, d2⟩ := hSw
              have c0 := hs1.cell' (i := 0) rfl
              have c1 := hs1.cell' (i := 1) rfl
              have c2 := hs1.cell' (i := 2) rfl
              go_simp; try (with_reducible rfl)
            try simp only [Act.put, List.getElem_toArray, List.getElem_cons_succ, List.getElem_cons_zero, List.setIfInBounds_toArray, List.set_cons_zero, List.set_cons_succ]
            refine wpAnyH_take (i := 2) (v := ?_) rfl (by kernel_rfl) (by kernel_rfl) (by kernel_rfl) (fun _ _ _ h => h) (Or.inl ⟨by rfl, ?_⟩) hHeld ?_
            rotate_left
            · intro w' hSw; try dsimp only at hSw
              obtain ⟨hs1, _, d0, d1, d2⟩ := hSw
              have c0 := hs1.cell' (i := 0) rfl
              have c1 := hs1.cell' (i := 1) rfl
              have c2 := hs1.cell' (i := 2) rfl
              go_simp; try (with_reducible rfl)
            try simp only [Act.put, List.getElem_toArray, List.getElem_cons_succ, List.getElem_cons_zero, List.setIfInBounds_toArray, List.set_cons_zero, List.set_cons_succ]
            refine wpAnyH_take (i := 3) (v := ?_) rfl (by kernel_rfl) (by kernel_rfl) (by kernel_rfl) (fun _ _ _ h => h) (Or.inl ⟨by rfl, ?_⟩) hHeld ?_
            rotate_left
            · intro w' hSw; try dsimp only at hSw
              obtain ⟨hs1, _, d0, d1, d2⟩ := hSw
              have c0 := hs1.cell' (i := 0) rfl
              have c1 := hs1.cell' (i := 1) rfl
              have c2 := hs1.cell' (i := 2) rfl
              go_simp; try (with_reducible rfl)
            try simp only [Act.put, List.getElem_toArray, List.getElem_cons_succ, List.getElem_cons_zero, List.setIfInBounds_toArray, List.set_cons_zero, List.set_cons_succ]
            refine wpAnyH_take (i := 4) (v := ?_) rfl (by kernel_rfl) (by kernel_rfl) (by kernel_rfl) (fun _ _ _ h => h) (Or.inl ⟨by rfl, ?_⟩) hHeld ?_
            rotate_left
            · intro w' hSw; try dsimp only at hSw
              obtain ⟨hs1, _, d0, d1, d2⟩ := hSw
              have c0 := hs1.cell' (i := 0) rfl
              have c1 := hs1.cell' (i := 1) rfl
              have c2 := hs1.cell' (i := 2) rfl
              go_simp; try (with_reducible rfl)
            try simp only [Act.put, List.getElem_toArray, List.getElem_cons_succ, List.getElem_cons_zero, List.setIfInBounds_toArray, List.set_cons_zero, List.set_cons_succ]
            refine wpAnyH_take (i := 5) (v := ?_) rfl (by kernel_rfl) (by kernel_rfl) (by kernel_rfl) (fun _ _ _ h => h) (Or.inl ⟨by rfl, ?_⟩) hHeld ?_
            rotate_left
            · intro w' hSw; try dsimp only at hSw
              obtain ⟨hs1, _, d0, d1, d2⟩ := hSw
              have c0 := hs1.cell' (i := 0) rfl
              have c1 := hs1.cell' (i := 1) rfl
              have c2 := hs1.cell' (i := 2) rfl
              go_simp; try (with_reducible rfl)
            try simp only [Act.put, List.getElem_toArray, List.getElem_cons_succ, List.getElem_cons_zero, List.setIfInBounds_toArray, List.set_cons_zero, List.set_cons_succ]
            refine wpAnyH_take (i := 6) (v := ?_) rfl (by kernel_rfl) (by kernel_rfl) (by kernel_rfl) (fun _ _ _ h => h) (Or.inl ⟨by rfl, ?_⟩) hHeld ?_
            rotate_left
            · intro w' hSw; try dsimp only at hSw
              obtain ⟨hs1, _, d0, d1, d2⟩ := hSw
              have c0 := hs1.cell' (i := 0) rfl
              have c1 := hs1.cell' (i := 1) rfl
              have c2 := hs1.cell' (i := 2) rfl
              go_simp; try (with_reducible rfl)
            try simp only [Act.put, List.getElem_toArray, List.getElem_cons_succ, List.getElem_cons_zero, List.setIfInBounds_toArray, List.set_cons_zero, List.set_cons_succ]
            refine wpAnyH_take (i := 7) (v := ?_) rfl (by kernel_rfl) (by kernel_rfl) (by kernel_rfl) (fun _ _ _ h => h) (Or.inl ⟨by rfl, ?_⟩) hHeld ?_
            rotate_left
            · intro w' hSw; try dsimp only at hSw
              obtain ⟨hs1, _, d0, d1, d2⟩ := hSw
              have c0 := hs1.cell' (i := 0) rfl
              have c1 := hs1.cell' (i := 1) rfl
              have c2 := hs1.cell' (i := 2) rfl
              go_simp; try (with_reducible rfl)
            try simp only [Act.put, List.getElem_toArray, List.getElem_cons_succ, List.getElem_cons_zero, List.setIfInBounds_toArray, List.set_cons_zero, List.set_cons_succ]
            refine wpAnyH_ready (rs := [8]) (by kernel_rfl) (by simp) ?_
            refine AllReadyH.cons rfl (fun K hK => ?_) AllReadyH.nil
            go_simp
            refine (go_any x e _ hox HO.out).mono ?_
            rintro e9 w6 ⟨rfl, hb6⟩
            have hb6' := bt ((Below.refl _ w4).drew) hb6
            have k3 := k2.kept hb6'
            have hx6 := hx4.below hb6'
            have hbw6 := hbw4.trans (hb6'.mono hbw4.size)
            have hown6 := owns_below hown4 hb6'
            refine hK.out _ _ ⟨k3, hx6⟩ (fun hHeld => ?_)
            clear hK K
            try simp only [Act.put, List.getElem_toArray, List.getElem_cons_succ, List.getElem_cons_zero, List.setIfInBounds_toArray, List.set_cons_zero, List.set_cons_succ]
            refine wpAnyH_take (i := 9) (v := ?_) rfl (by kernel_rfl) (by kernel_rfl) (by kernel_rfl) (fun _ _ _ h => h) (Or.inl ⟨by rfl, ?_⟩) hHeld ?_
            rotate_left
            · intro w' hSw; try dsimp only at hSw
              obtain ⟨hs1, _, d0, d1, d2⟩ := hSw
              have c0 := hs1.cell' (i := 0) rfl
              have c1 := hs1.cell' (i := 1) rfl
              have c2 := hs1.cell' (i := 2) rfl
              go_simp; try (with_reducible rfl)
            try simp only [Act.put, List.getElem_toArray, List.getElem_cons_succ, List.getElem_cons_zero, List.setIfInBounds_toArray, List.set_cons_zero, List.set_cons_succ]
            refine wpAnyH_take (i := 10) (v := ?_) rfl (by kernel_rfl) (by kernel_rfl) (by kernel_rfl) (fun _ _ _ h => h) (Or.inl ⟨by rfl, ?_⟩) hHeld ?_
            rotate_left
            · intro w' hSw; try dsimp only at hSw
              obtain ⟨hs1, _, d0, d1, d2⟩ := hSw
              have c0 := hs1.cell' (i := 0) rfl
              have c1 := hs1.cell' (i := 1) rfl
              have c2 := hs1.cell' (i := 2) rfl
              go_simp; try (with_reducible rfl)
            try simp only [Act.put, List.getElem_toArray, List.getElem_cons_succ, List.getElem_cons_zero, List.setIfInBounds_toArray, List.set_cons_zero, List.set_cons_succ]
            refine wpAnyH_done (by kernel_rfl) ?_ _
            refine NoPanic.normal ?_
            clear hHeld k2 hx4 hown4
            cases hg : goB x e with
            | true =>
              have HS : Hid (normStep (no ++ [x]) e = no ++ [⟨x.lo, x.ln + e.ln, x.ph⟩]) := normStep_go hg
              have hgl := goB_iff.1 hg
              have hxo := oneB_iff.1 hox
              have heo := oneB_iff.1 HO.out
              have hws : IntKind.i64.wrap (x.ln + e.ln) = x.ln + e.ln := by rw [IntKind.wrap_i64]; omega
              have hfz6 := hown6.frozenAt (q * 3 + 1)
              have hst := (hown6.drew.stored (q * 3 + 1) (.int .i64 (x.ln + e.ln))).1
              rw [← HQ.out, last_set, HQ.out] at hst
              clear hgl hxo heo hg
              go_upto_region 13 with fail
              refine wp_region_noPanic ?_
              refine wp_region_held_drew (S := fun _ => True) (by kernel_rfl) trivial (fun hHeld => ?_)
              refine wpAnyH_take (i := 0) (v := ?_) rfl (by kernel_rfl) (by kernel_rfl) (by kernel_rfl) (fun _ _ _ h => h) (Or.inl ⟨by rfl, ?_⟩) hHeld ?_
              rotate_left
              · intro w' hSw; try dsimp only at hSw
                go_simp; try (with_reducible rfl)
              try simp only [Act.put, List.getElem_toArray, List.getElem_cons_succ, List.getElem_cons_zero, List.setIfInBounds_toArray, List.set_cons_zero, List.set_cons_succ]
              refine wpAnyH_take (i := 1) (v := ?_) rfl (by kernel_rfl) (by kernel_rfl) (by kernel_rfl) (fun _ _ _ h => h) (Or.inl ⟨by rfl, ?_⟩) hHeld ?_
              rotate_left
              · intro w' hSw; try dsimp only at hSw
                go_simp; try (with_reducible rfl)
              try simp only [Act.put, List.getElem_toArray, List.getElem_cons_succ, List.getElem_cons_zero, List.setIfInBounds_toArray, List.set_cons_zero, List.set_cons_succ]
              refine wpAnyH_take (i := 2) (v := ?_) rfl (by kernel_rfl) (by kernel_rfl) (by kernel_rfl) (fun _ _ _ h => h) (Or.inl ⟨by rfl, ?_⟩) hHeld ?_
              rotate_left
              · intro w' hSw; try dsimp only at hSw
                go_simp; try (with_reducible rfl)
              try simp only [Act.put, List.getElem_toArray, List.getElem_cons_succ, List.getElem_cons_zero, List.setIfInBounds_toArray, List.set_cons_zero, List.set_cons_succ]
              refine wpAnyH_take (i := 3) (v := ?_) rfl (by kernel_rfl) (by kernel_rfl) (by kernel_rfl) (fun _ _ _ h => h) (Or.inl ⟨by rfl, ?_⟩) hHeld ?_
              rotate_left
              · intro w' hSw; try dsimp only at hSw
                go_simp; try (with_reducible rfl)
              try simp only [Act.put, List.getElem_toArray, List.getElem_cons_succ, List.getElem_cons_zero, List.setIfInBounds_toArray, List.set_cons_zero, List.set_cons_succ]
              refine wpAnyH_take (i := 5) (v := ?_) rfl (by kernel_rfl) (by kernel_rfl) (by kernel_rfl) (fun _ _ _ h => h) (Or.inl ⟨by rfl, ?_⟩) hHeld ?_
              rotate_left
              · intro w' hSw; try dsimp only at hSw
                go_simp; try (with_reducible rfl)
              try simp only [Act.put, List.getElem_toArray, List.getElem_cons_succ, List.getElem_cons_zero, List.setIfInBounds_toArray, List.set_cons_zero, List.set_cons_succ]
              refine wpAnyH_ready (rs := [4, 6]) (by kernel_rfl) (by simp) ?_
              refine AllReadyH.cons rfl (fun K hK => ?_) ?_
              · obtain ⟨_, t0, t1, t2⟩ := hx6.below (Below.refl _ w6).drew
                go_simp
                refine hK.out _ _ trivial (fun hHeld => ?_)
                clear hK K
                try simp only [Act.put, List.getElem_toArray, List.getElem_cons_succ, List.getElem_cons_zero, List.setIfInBounds_toArray, List.set_cons_zero, List.set_cons_succ]
                refine wpAnyH_ready (rs := [6]) (by kernel_rfl) (by simp) ?_
                refine AllReadyH.cons rfl (fun K hK => ?_) AllReadyH.nil
                have c1 := k3.drew.cell' (i := 1) rfl
                go_simp
                refine hK.out _ _ trivial (fun hHeld => ?_)
                clear hK K
                try simp only [Act.put, List.getElem_toArray, List.getElem_cons_succ, List.getElem_cons_zero, List.setIfInBounds_toArray, List.set_cons_zero, List.set_cons_succ]
                refine wpAnyH_take (i := 7) (v := ?_) rfl (by kernel_rfl) (by kernel_rfl) (by kernel_rfl) (fun _ _ _ h => h) (Or.inl ⟨by rfl, ?_⟩) hHeld ?_
                rotate_left
                · intro w' hSw; try dsimp only at hSw
                  go_simp; try (with_reducible rfl)
                try simp only [Act.put, List.getElem_toArray, List.getElem_cons_succ, List.getElem_cons_zero, List.setIfInBounds_toArray, List.set_cons_zero, List.set_cons_succ]
                refine wpAnyH_take (i := 8) (v := ?_) rfl (by kernel_rfl) (by kernel_rfl) (by kernel_rfl) (fun _ _ _ h => h) (Or.inl ⟨by rfl, ?_⟩) hHeld ?_
                rotate_left
                · intro w' hSw; try dsimp only at hSw
                  go_simp; try (with_reducible rfl)
                try simp only [Act.put, List.getElem_toArray, List.getElem_cons_succ, List.getElem_cons_zero, List.setIfInBounds_toArray, List.set_cons_zero, List.set_cons_succ]
                refine wpAnyH_take (i := 9) (v := ?_) rfl (by kernel_rfl) (by kernel_rfl) (by kernel_rfl) (fun _ _ _ h => h) (Or.inl ⟨by rfl, ?_⟩) hHeld ?_
                rotate_left
                · intro w' hSw; try dsimp only at hSw
                  go_simp; try (with_reducible rfl)
                try simp only [Act.put, List.getElem_toArray, List.getElem_cons_succ, List.getElem_cons_zero, List.setIfInBounds_toArray, List.set_cons_zero, List.set_cons_succ]
                refine wpAnyH_ready (rs := [10]) (by kernel_rfl) (by simp) ?_
                refine AllReadyH.cons rfl (fun K hK => ?_) AllReadyH.nil
                obtain ⟨_, t0, t1, t2⟩ := hx6.below (Below.refl _ w6).drew
                go_simp
                refine hK.out _ _ trivial (fun hHeld => ?_)
                clear hK K
                try simp only [Act.put, List.getElem_toArray, List.getElem_cons_succ, List.getElem_cons_zero, List.setIfInBounds_toArray, List.set_cons_zero, List.set_cons_succ]
                refine wpAnyH_done (by kernel_rfl) ?_ _
                refine NoPanic.normal ?_
                clear hHeld
                go_wp2
                go_roundw
                case rel => exact ⟨k + 1, by omega, by go_num, HNX.out HF.out, by rw [HNF.out, HS.out, List.length_append, List.length_singleton, HQ.out, ← HT.out]; exact hst, (hbw6.drew).setCell (p := ⟨g, q * 3 + 1, none⟩) hgB _⟩
                case measure => simp [intOf]; omega
              refine AllReadyH.cons rfl (fun K hK => ?_) AllReadyH.nil
              have c1 := k3.drew.cell' (i := 1) rfl
              go_simp
              refine hK.out _ _ trivial (fun hHeld => ?_)
              clear hK K
              try simp only [Act.put, List.getElem_toArray, List.getElem_cons_succ, List.getElem_cons_zero, List.setIfInBounds_toArray, List.set_cons_zero, List.set_cons_succ]
              refine wpAnyH_ready (rs := [4]) (by kernel_rfl) (by simp) ?_
              refine AllReadyH.cons rfl (fun K hK => ?_) AllReadyH.nil
              obtain ⟨_, t0, t1, t2⟩ := hx6.below (Below.refl _ w6).drew
              go_simp
              refine hK.out _ _ trivial (fun hHeld => ?_)
              clear hK K
              try simp only [Act.put, List.getElem_toArray, List.getElem_cons_succ, List.getElem_cons_zero, List.setIfInBounds_toArray, List.set_cons_zero, List.set_cons_succ]
              refine wpAnyH_take (i := 7) (v := ?_) rfl (by kernel_rfl) (by kernel_rfl) (by kernel_rfl) (fun _ _ _ h => h) (Or.inl ⟨by rfl, ?_⟩) hHeld ?_
              rotate_left
              · intro w' hSw; try dsimp only at hSw
                go_simp; try (with_reducible rfl)
              try simp only [Act.put, List.getElem_toArray, List.getElem_cons_succ, List.getElem_cons_zero, List.setIfInBounds_toArray, List.set_cons_zero, List.set_cons_succ]
              refine wpAnyH_take (i := 8) (v := ?_) rfl (by kernel_rfl) (by kernel_rfl) (by kernel_rfl) (fun _ _ _ h => h) (Or.inl ⟨by rfl, ?_⟩) hHeld ?_
              rotate_left
              · intro w' hSw; try dsimp only at hSw
                go_simp; try (with_reducible rfl)
              try simp only [Act.put, List.getElem_toArray, List.getElem_cons_succ, List.getElem_cons_zero, List.setIfInBounds_toArray, List.set_cons_zero, List.set_cons_succ]
              refine wpAnyH_take (i := 9) (v := ?_) rfl (by kernel_rfl) (by kernel_rfl) (by kernel_rfl) (fun _ _ _ h => h) (Or.inl ⟨by rfl, ?_⟩) hHeld ?_
              rotate_left
              · intro w' hSw; try dsimp only at hSw
                go_simp; try (with_reducible rfl)
              try simp only [Act.put, List.getElem_toArray, List.getElem_cons_succ, List.getElem_cons_zero, List.setIfInBounds_toArray, List.set_cons_zero, List.set_cons_succ]
              refine wpAnyH_ready (rs := [10]) (by kernel_rfl) (by simp) ?_
              refine AllReadyH.cons rfl (fun K hK => ?_) AllReadyH.nil
              obtain ⟨_, t0, t1, t2⟩ := hx6.below (Below.refl _ w6).drew
              go_simp
              refine hK.out _ _ trivial (fun hHeld => ?_)
              clear hK K
              try simp only [Act.put, List.getElem_toArray, List.getElem_cons_succ, List.getElem_cons_zero, List.setIfInBounds_toArray, List.set_cons_zero, List.set_cons_succ]
              refine wpAnyH_done (by kernel_rfl) ?_ _
              refine NoPanic.normal ?_
              clear hHeld
              go_wp2
              go_roundw
              case rel => exact ⟨k + 1, by omega, by go_num, HNX.out HF.out, by rw [HNF.out, HS.out, List.length_append, List.length_singleton, HQ.out, ← HT.out]; exact hst, (hbw6.drew).setCell (p := ⟨g, q * 3 + 1, none⟩) hgB _⟩
              case measure => simp [intOf]; omega
            | false =>
              have HS : Hid (normStep (no ++ [x]) e = no ++ [x] ++ [e]) := normStep_own hg
              clear hg
              have z0 := k3.cell' (i := 0) rfl
              have z1 := k3.cell' (i := 1) rfl
              have z2 := k3.cell' (i := 2) rfl
              have hs6 := hbw6.size
              go_wp2_with (at_builtin; refine wpList_append_own _ rfl (.tmp 22) (.tmp 24) 22 rfl w2.heap.size 31 i0 (.agg #[.int .i64 0, .int .i64 0, .int .i64 0]) 3 24 Try.underlying22 hi hz0 hz1 hz2 rfl (by decide) _ T _ rfl (hown6.alloc _) ⟨_, 0, none⟩ 1 1 [.int .i64 e.lo, .int .i64 e.ln, .int .i64 e.ph] rfl rfl (new_three _ _ _ _) (by simp [Value.oneCell']) (by unfold maxLen; omega) (by omega) (by simp; omega) ?_; intro v1 w5 hown5 hgrow5 _)
              have hb5 := below_appP hbw6 (Nat.le_refl _) hown6 hgrow5
              rw [flatE_snoc] at hown5
              go_roundw
              case rel => exact ⟨k + 1, by omega, by go_num, HNX.out HF.out, by rw [HNF.out, HS.out, List.length_append, List.length_append, List.length_singleton, List.length_singleton, HQ.out, ← HT.out]; exact hown5, hb5⟩
              case measure => simp [intOf]; omega
    · obtain rfl : k = n := by omega
      have hkn : ¬ (k : Int) < (k : Int) := by omega
      rw [List.take_of_length_le (by rw [HL.out]; exact Nat.le_refl _)] at ho
      have HF : Hid (chkN s = true) := chkN_iff.2 (fun j hj => hok j (by rw [HL.out] at hj; omega))
      obtain ⟨T, hT⟩ : ∃ T, (normL s).length = T := ⟨_, rfl⟩
      rw [hT] at ho
      have HT : Hid ((normL s).length = T) := hT
      obtain ⟨pv, cv, rfl⟩ := owns_slice ho
      have HOW : Hid (wr.ownsRow w2.heap.size 31 3 (.slice pv T cv) T (flatE (normL s))) := ho
      clear hok ho hT
      go_wp2
      go_ret2
      exact ⟨s, HPS.out.1, HPS.out.2, .inl ⟨HF.out, _, rfl, by rw [HT.out]; exact owns_base HOW.out hb2.size⟩, hb2.trans (hbw.mono hb2.size)⟩
end Go.Proofs.Ytmboohadindlfaa
