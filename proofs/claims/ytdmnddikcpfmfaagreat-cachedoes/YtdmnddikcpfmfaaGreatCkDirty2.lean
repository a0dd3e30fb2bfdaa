/-
  What dirty answers, but for the sort.
-/
import Derived.Test.YtdmnddikcpfmfaaGreatCkDirty
import Derived.Maps.AppendAt
namespace Go.Proofs.YtdmnddikcpfmfaaGreat
open Go.RowKit Go.Maps Go.Shelf
/-- The contract of the sort: a row of ints of the call's own. -/
def SortsI : Prop := ∀ (B : Nat) (v : Value) (xs : List Int) (w : World), w.ownsRow B 3 1 v xs.length (valsI xs) → xs.length ≤ 100000 → B ≤ w.heap.size →
  Calls Tryz.prog 103 #[v] w fun e w' => (∃ u, e = .returned u) ∧ w'.ownsRow B 3 1 v xs.length (valsI (sortL xs)) ∧ Below B w w'
theorem owns_mono {w : World} {B B' : Nat} {e : TypeId} {z : Nat} {v : Value} {n : Nat} {xs : List Value} (h : w.ownsRow B e z v n xs) (hB : B' ≤ B) : w.ownsRow B' e z v n xs := by
  refine ⟨h.1, ?_⟩
  rcases h.2 with h' | ⟨g, cap, cur, e1, hg, h2⟩
  · exact .inl h'
  · exact .inr ⟨g, cap, cur, e1, Nat.le_trans hB hg, h2⟩
theorem cdirty_bad {w : World} {s : CS} (h : CIn w s) (cl : Int) (hc : ¬ (cl = 1 ∨ cl = 2)) : Calls Tryz.prog 80 #[.pointer (some ⟨s.c, 0, none⟩), .int .i64 cl] w fun e w' => e = .returned (.slice none 0 0) ∧ w' = w := by
  have hm := cmade_yes h.c0
  have hic := cisClass_any cl w
  rw [show (decide (cl = 1) || decide (cl = 2)) = false from by simpa [not_or] using hc] at hic
  go_enter Tryz.func80, Tryz.ntmps80
  go_wp2_with (first
    | (go_at_call 67; refine hm.mono ?_; rintro e w' ⟨rfl, hw'⟩; have hw2 := hw'.symm; subst hw2; clear hw')
    | (go_at_call 58; refine hic.mono ?_; rintro e w' ⟨rfl, hw'⟩; have hw2 := hw'.symm; subst hw2; clear hw'))
  go_ret
  exact ⟨rfl, rfl⟩
set_option linter.unusedSimpArgs false in
set_option maxRecDepth 100000 in
set_option maxHeartbeats 2000000 in
theorem cdirty_any (hS : SortsI) {w : World} {s : CS} (h : CIn w s) (cl : Nat) (hc : cl = 1 ∨ cl = 2) : Calls Tryz.prog 80 #[.pointer (some ⟨s.c, 0, none⟩), .int .i64 (cl : Int)] w fun e w' =>
    ∃ v, e = .returned v ∧ w'.ownsRow w.heap.size 3 1 v (dirtyKs s.ds.secs.length s.P cl).length (valsI (dirtyKs s.ds.secs.length s.P cl)) ∧ Below w.heap.size w w' := by
  obtain ⟨i0, hi, hz0, hz1, hz2⟩ := info_parts info3
  have hm := cmade_yes h.c0
  have hic := cisClass_any (cl : Int) w
  rw [show (decide ((cl : Int) = 1) || decide ((cl : Int) = 2)) = true from by rcases hc with rfl | rfl <;> rfl] at hic
  have hc2 := h.c2
  have hlen := h.fit.len
  have hr2 := h.fit.r2
  have hkd := h.fit.kd
  obtain ⟨M, hown, hmo⟩ := h.map
  have hbml := hown.lt
  clear hc
  go_enter Tryz.func80, Tryz.ntmps80
  go_wp2_with (first
    | (go_at_call 67; refine hm.mono ?_; rintro e w' ⟨rfl, hw'⟩; have hw2 := hw'.symm; subst hw2; clear hw')
    | (go_at_call 58; refine hic.mono ?_; rintro e w' ⟨rfl, hw'⟩; have hw2 := hw'.symm; subst hw2; clear hw')
    | (at_range; refine wpList_range_own _ rfl _ 70 rfl 3 71 (int_keyed Tryz.underlying3) Tryz.underlying70 _ s.bm _ _ rfl hown ?_; intro w0 hrg0 hg0 hs0))
  have hbw0 : Below w.heap.size w w0 := below_grown0 hg0
  have hszM : Maps.size M = s.L.length := hmo.size
  have hs0' : w.heap.size + 1 ≤ w0.heap.size := by omega
  clear hs0 hm hic hg0
  go_frame
  go_loopg [5] (Maps.size M) (fun j v wr => ∃ (left : Lit → Bool) (ks : List Int), wr.ranges Tryz.prog 3 ptrElem s.bm w.heap.size s.L.length M left j ∧ wr.ownsRow (w.heap.size + 1) 3 1 v ks.length (valsI ks) ∧ Coll s.L cl left ks ∧ Below w.heap.size w wr ∧ ks.length + j ≤ s.L.length ∧ w.heap.size + 1 ≤ wr.heap.size)
  case atStart =>
    refine ⟨_, [], hrg0, World.ownsRow_nil _ _ _ _, ⟨List.nodup_nil, fun t => ⟨(fun h => by cases h), ?_⟩⟩, hbw0, by rw [hszM]; simp, hs0'⟩
    rintro ⟨x, hx, e, _, hf⟩
    rw [← e, has_true_of_atKey (hmo.yes x hx)] at hf
    cases hf
  case round =>
    obtain ⟨left, ks, hrg, hrow, hco, hB, hcnt, hsz⟩ := hrel
    clear hrg0 hbw0 hs0'
    have hW := h.kept hB
    go_wp2_with (at_next; refine wpList_next_ranges _ rfl _ rfl 3 (int_keyed Tryz.underlying3) ptrElem (Value.int .i64) Value.pointer invKey invPtr s.bm w.heap.size _ M left gk rfl hrg ?_ ?_)
    · intro hc0 hl0
      have hks : sortL ks = dirtyKs s.ds.secs.length s.P cl := sortL_eq hco.nd (fun t => by
        rw [hco.mem, dirtyKs_mem]
        constructor
        · rintro ⟨x, hx, e, hxc, _⟩
          exact ⟨x.b, List.mem_map.2 ⟨x, hx, rfl⟩, h.fit.ok x hx, hxc, e⟩
        · rintro ⟨b, hb, _, hbc, e⟩
          obtain ⟨x, hx, rfl⟩ := List.mem_map.1 hb
          exact ⟨x, hx, e, hbc, hl0 _⟩)
      have hlk : ks.length = (dirtyKs s.ds.secs.length s.P cl).length := by rw [← hks]; simp [sortL, List.length_mergeSort]
      have hsrt := hS (w.heap.size + 1) _ ks wr hrow (by omega) hsz
      obtain ⟨pv, cv, hv⟩ := owns_slice hrow
      have HKS : Hid (sortL ks = dirtyKs s.ds.secs.length s.P cl) := hks
      have HLK : Hid (ks.length = (dirtyKs s.ds.secs.length s.P cl).length) := hlk
      clear hks hlk
      subst hv
      go_wp2_with (go_at_call 103; refine hsrt.mono ?_; rintro e w3 ⟨⟨u3, rfl⟩, hrow3, hb3⟩)
      go_ret
      refine ⟨_, rfl, ?_, hB.trans (hb3.mono (Nat.le_succ _))⟩
      rw [HKS.out] at hrow3
      rw [← HLK.out]
      exact owns_mono hrow3 (Nat.le_succ _)
    · intro x c kl yd yp w1 cnt1 hkey hlk hv hat hrg1 hlt hg1 hs1 hen
      obtain ⟨x', ex, rfl, _⟩ := Maps.keyOf_int_inv Tryz.underlying3 hkey
      cases ex
      have hhas : Maps.has M (.int .i64 x) = true := has_true_of_atKey hat
      obtain ⟨b, hbL, hbk⟩ : ∃ b ∈ s.L, (b.b.k : Int) = x := by
        apply Classical.byContradiction
        intro hn
        rw [hmo.no x (fun b hb e => hn ⟨b, hb, e⟩)] at hhas
        cases hhas
      subst hbk
      have hyd : yd = .lit (.int .i64 (b.g : Int)) := by rw [← hmo.yes b hbL .nil]; exact (hat .nil).symm
      have hcp : c = some ⟨b.g, 0, none⟩ := by
        rcases ptrElem_inv hv with ⟨e1, e2⟩ | ⟨g, e1, e2⟩
        · dsimp only at e2; rw [hyd] at e2; cases e2
        · dsimp only at e2
          rw [hyd] at e2
          injection e1 with e1
          rw [e1, dlit_inj e2]
      subst hcp
      have hB1 : Below w.heap.size w w1 := hB.grown hg1 hB.size (fun j hj => by cases hj; exact Nat.le_refl _)
      have hW1 := h.kept hB1
      have hbc := (hW1.mem b (List.mem_cons_of_mem _ hbL)).cell' (i := 2) (v := .int .i64 (b.b.cl : Int)) rfl
      have hrow1 : w1.ownsRow (w.heap.size + 1) 3 1 _ ks.length (valsI ks) := hrow.kept hg1 (.inr (fun e => by have := (hrow.lt _ e).1; omega))
      have hsz1 : w.heap.size + 1 ≤ w1.heap.size := by rw [hs1]; exact hsz
      clear hs1 hat hv hyd hhas hkey
      obtain ⟨pv, cv, hvv⟩ := owns_slice hrow1
      subst hvv
      by_cases hbcl : b.b.cl = cl
      · have hcN := hco.yes hbL hbcl hlk
        have hbcl' : (b.b.cl : Int) = (cl : Int) := by rw [hbcl]
        rw [hbcl] at hbc
        go_wp2_with (at_builtin; refine wpList_append_own _ rfl (.tmp 32) (.tmp 34) 40 rfl (w.heap.size + 1) 3 i0 (.int .i64 0) 1 8 Tryz.underlying40 hi hz0 hz1 hz2 rfl (by decide) (.slice pv ks.length cv) ks.length (valsI ks) rfl (hrow1.alloc _) ⟨w1.heap.size, 0, none⟩ 1 1 [.int .i64 (b.b.k : Int)] rfl rfl (new_one w1 _) (by simp [Value.oneCell']) (by unfold maxLen; omega) (by omega) (by rw [World.size_alloc]; omega) ?_; intro v2 w2 hown2 hgrow2 _)
        have hba := below_alloc w1 (.cells #[.int .i64 (b.b.k : Int)] 3)
        have hB2 : Below w.heap.size w w2 := (hB1.trans (hba.mono (by omega))).grown hgrow2 (by rw [World.size_alloc]; omega) (fun k hk => by have := (hrow1.lt k hk).1; omega)
        have hrg2 := (hrg1.alloc (.cells #[.int .i64 (b.b.k : Int)] 3)).kept hgrow2 (fun e => by have := (hrow1.lt _ e.symm).1; omega) (fun e => by have := (hrow1.lt _ e.symm).1; omega)
        have hs2 := hgrow2.size
        rw [World.size_alloc] at hs2
        go_roundg cnt1
        case measure => exact hlt
        case rel =>
          refine ⟨_, ks ++ [(b.b.k : Int)], hrg2, ?_, hcN, hB2, ?_, by omega⟩
          · rw [List.length_append, valsI_append]
            exact hown2
          · rw [List.length_append]
            show ks.length + 1 + cnt1 ≤ _
            omega
      · have hcN := hco.no hkd hbL hbcl
        have hbcl' : ¬ (b.b.cl : Int) = (cl : Int) := by omega
        go_wp2_with fail
        go_roundg cnt1
        case measure => exact hlt
        case rel => exact ⟨_, ks, hrg1, hrow1, hcN, hB1, by omega, hsz1⟩
end Go.Proofs.YtdmnddikcpfmfaaGreat
