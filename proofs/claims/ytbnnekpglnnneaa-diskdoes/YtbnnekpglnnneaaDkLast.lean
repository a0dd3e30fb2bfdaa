/-
  The last writes of a disk, in the order they were made.
-/
import Derived.Test.YtbnnekpglnnneaaDkCat
namespace Go.Proofs.Ytbnnekpglnnneaa
open Go.RowKit
theorem slice_wb (q : Option Addr) (n c : Nat) (hc : n ≤ c) (h0 : q = none → c = 0) : ∃ q1 c1, (q1 = none → c1 = 0) ∧ ∀ W : World, (Instr.slice 63 (.slice q n c) (some (.int .i64 (n : Int))) none none).run Try.prog W = .ok (.slice q1 0 c1) W := by
  obtain ⟨i0, hi, _, hz1, _⟩ := info_parts infoWr
  cases q with
  | none =>
    have h1 := h0 rfl
    subst h1
    obtain rfl : n = 0 := by omega
    exact ⟨none, 0, fun _ => rfl, fun W => by simp [Instr.slice, Instr.sliceBounds, Instr.sliceBound, run_underlying Try.underlying63, asIntOf, sizeOf, typeInfo, hi]⟩
  | some a =>
    by_cases h1 : c = n
    · subst h1
      exact ⟨some a, 0, (fun h => by cases h), fun W => by simp [Instr.slice, Instr.sliceBounds, Instr.sliceBound, run_underlying Try.underlying63, asIntOf, sizeOf, typeInfo, hi]⟩
    · refine ⟨some (a.add (n * 257)), c - n, (fun h => by cases h), fun W => ?_⟩
      simp [Instr.slice, Instr.sliceBounds, Instr.sliceBound, run_underlying Try.underlying63, asIntOf, sizeOf, typeInfo, hi, h1, hz1]
theorem slice_wf (q : Option Addr) (n c : Nat) (hc : n ≤ c) (W : World) : (Instr.slice 63 (.slice q n c) none (some (.int .i64 (n : Int))) none).run Try.prog W = .ok (.slice q n c) W := by
  obtain ⟨i0, hi, _, _, _⟩ := info_parts infoWr
  simp [Instr.slice, Instr.sliceBounds, Instr.sliceBound, run_underlying Try.underlying63, asIntOf, sizeOf, typeInfo, hi]
  try rw [if_pos (by omega)]
  have : (Option.map (fun x : Addr => x.add 0) q) = q := by
    cases q with
    | none => rfl
    | some a => obtain ⟨b, o, s⟩ := a; cases s <;> simp [Addr.add]
  rw [this, ite_self]
theorem owns_lowD {w : World} {A B : Nat} {e : TypeId} {s : Nat} {v : Value} {n : Nat} {xs : List Value} (h : w.ownsRow B e s v n xs) (hA : A ≤ B) : w.ownsRow A e s v n xs := by
  refine ⟨h.1, ?_⟩
  rcases h.2 with h' | ⟨g, cap, cur, rfl, hg, hr⟩
  · exact .inl h'
  · exact .inr ⟨g, cap, cur, rfl, Nat.le_trans hA hg, hr⟩
theorem owns_inW {w : World} {q : Option Addr} {n cq : Nat} {l : List (Nat × List Nat)} (h : w.ownsRow 0 87 257 (.slice q n cq) n (flatW l)) (hl : l.length = n) (ok : ∀ x ∈ l, Is x.2) : InW w q n cq l ∧ n ≤ cq := by
  rcases h.2 with ⟨e, hn⟩ | ⟨g, cap, cur, e, _, hh, hc, _⟩
  · cases e
    exact ⟨⟨hl, ok, (fun a ha => by cases ha), fun _ => ⟨rfl, rfl⟩⟩, Nat.le_refl _⟩
  · cases e
    refine ⟨⟨hl, ok, fun a ha h0 => ?_, fun h => by cases h⟩, hc⟩
    cases ha
    refine ⟨(owns_row h rfl).choose_spec.2, fun j u hj => ?_⟩
    have hj' : j < n * 257 := by have := (List.getElem?_eq_some_iff.1 hj).1; rw [flatW_length ok, hl] at this; exact this
    rw [addr_add, Nat.zero_add, h.cellAt j hj', hj]
set_option linter.unusedSimpArgs false in
set_option maxRecDepth 100000 in
set_option maxHeartbeats 1000000 in
theorem last_any {w : World} {d sb : Nat} {lv : Value} {s : DS} (h : DiskIn w d sb lv s) (hw : s.writes < 1024) :
    Calls Try.prog 54 #[.pointer (some ⟨d, 0, none⟩)] w fun e w' => ∃ v, e = .returned v ∧ w'.ownsRow w.heap.size 87 257 v s.log.length (flatW s.log) ∧ Below w.heap.size w w' := by
  obtain ⟨q, cq, rfl⟩ := owns_slice h.log
  have hm := made_yes h
  have c3 := h.c3
  have c4 := h.c4
  have hll := h.ll
  have hdl := h.ram.lt
  obtain ⟨hW2, hcap⟩ := owns_inW h.log rfl h.okL
  obtain ⟨q1, c1, hq1, hs1⟩ := slice_wb q s.log.length cq hcap (fun e => (hW2.nil e).2)
  have hs2 := slice_wf q s.log.length cq hcap
  have hW1 : InW w q1 0 c1 [] := ⟨rfl, fun x hx => by simp at hx, fun a ha h0 => by omega, fun e => ⟨rfl, hq1 e⟩⟩
  rw [← hll] at c3 hw
  clear hll hq1
  obtain ⟨n, hn⟩ : ∃ n, s.log.length = n := ⟨_, rfl⟩
  rw [hn] at c3 c4 hs1 hs2 hW2 hcap hw ⊢
  have hnI : (n : Int) < 1024 := by omega
  have hrem : Int.tmod (n : Int) 1024 = (n : Int) := Int.tmod_eq_of_lt (by omega) hnI
  go_enter Try.func54, Try.ntmps54
  go_wp2_with (go_at_call 40; refine hm.mono ?_; rintro e w' ⟨rfl, hw'⟩; have hw2 := hw'.symm; subst hw2; clear hw')
  refine wp_region_noPanic ?_
  refine wp_region_held_drew (S := fun X => X.cell? ⟨d, 4, none⟩ = some (.slice q n cq)) (by kernel_rfl) c4 (fun hHeld => ?_)
  refine wpAnyH_take (i := 0) (v := ?_) rfl (by kernel_rfl) (by kernel_rfl) (by kernel_rfl) (fun _ _ _ h => h) (Or.inl ⟨by rfl, ?_⟩) hHeld ?_
  rotate_left
  · intro w' hSw; try dsimp only at hSw
    go_simp; try (with_reducible rfl)
  try simp only [Act.put, List.getElem_toArray, List.getElem_cons_succ, List.getElem_cons_zero, List.setIfInBounds_toArray, List.set_cons_zero, List.set_cons_succ]
  refine wpAnyH_take (i := 1) (v := ?_) rfl (by kernel_rfl) (by kernel_rfl) (by kernel_rfl) (fun _ _ _ h => h) (Or.inl ⟨by rfl, ?_⟩) hHeld ?_
  rotate_left
  · intro w' hSw; try dsimp only at hSw
    go_simp; try (with_reducible rfl)
  try simp only [Act.put, List.getElem_toArray, List.getElem_cons_succ, List.getElem_cons_zero, List.setIfInBounds_toArray, List.set_cons_zero, List.set_cons_succ]
  refine wpAnyH_take (i := 2) (v := ?_) rfl (by kernel_rfl) (by kernel_rfl) (by kernel_rfl) (fun _ _ _ h => h) (Or.inl ⟨by rfl, ?_⟩) hHeld ?_
  rotate_left
  · intro w' hSw; try dsimp only at hSw
    go_simp; try (with_reducible rfl)
  try simp only [Act.put, List.getElem_toArray, List.getElem_cons_succ, List.getElem_cons_zero, List.setIfInBounds_toArray, List.set_cons_zero, List.set_cons_succ]
  refine wpAnyH_take (i := 3) (v := ?_) rfl (by kernel_rfl) (by kernel_rfl) (by kernel_rfl) (fun _ _ _ h => h) (Or.inl ⟨by rfl, ?_⟩) hHeld ?_
  rotate_left
  · intro w' hSw; try dsimp only at hSw
    go_simp; try (with_reducible rfl)
  try simp only [Act.put, List.getElem_toArray, List.getElem_cons_succ, List.getElem_cons_zero, List.setIfInBounds_toArray, List.set_cons_zero, List.set_cons_succ]
  refine wpAnyH_take (i := 4) (v := ?_) rfl (by kernel_rfl) (by kernel_rfl) (by kernel_rfl) (fun _ _ _ h => h) (Or.inl ⟨by rfl, ?_⟩) hHeld ?_
  rotate_left
  · intro w' hSw; try dsimp only at hSw
    go_simp; try (with_reducible rfl)
  try simp only [Act.put, List.getElem_toArray, List.getElem_cons_succ, List.getElem_cons_zero, List.setIfInBounds_toArray, List.set_cons_zero, List.set_cons_succ]
  refine wpAnyH_take (i := 5) (v := ?_) rfl (by kernel_rfl) (by kernel_rfl) (by kernel_rfl) (fun _ _ _ h => h) (Or.inl ⟨by rfl, ?_⟩) hHeld ?_
  rotate_left
  · intro w' hSw; try dsimp only at hSw
    go_simp; try (with_reducible rfl)
  try simp only [Act.put, List.getElem_toArray, List.getElem_cons_succ, List.getElem_cons_zero, List.setIfInBounds_toArray, List.set_cons_zero, List.set_cons_succ]
  refine wpAnyH_take (i := 6) (v := ?_) rfl (by kernel_rfl) (by kernel_rfl) (by kernel_rfl) (fun _ _ _ h => h) (Or.inl ⟨by rfl, ?_⟩) hHeld ?_
  rotate_left
  · intro w' hSw; try dsimp only at hSw
    go_simp; try (with_reducible rfl)
  try simp only [Act.put, List.getElem_toArray, List.getElem_cons_succ, List.getElem_cons_zero, List.setIfInBounds_toArray, List.set_cons_zero, List.set_cons_succ]
  refine wpAnyH_take (i := 7) (v := ?_) rfl (by kernel_rfl) (by kernel_rfl) (by kernel_rfl) (fun _ _ _ h => h) (Or.inl ⟨by rfl, ?_⟩) hHeld ?_
  rotate_left
  · intro w' hSw; try dsimp only at hSw
    go_simp; try (with_reducible rfl)
  try simp only [Act.put, List.getElem_toArray, List.getElem_cons_succ, List.getElem_cons_zero, List.setIfInBounds_toArray, List.set_cons_zero, List.set_cons_succ]
  refine wpAnyH_take (i := 8) (v := ?_) rfl (by kernel_rfl) (by kernel_rfl) (by kernel_rfl) (fun _ _ _ h => h) (Or.inl ⟨by rfl, ?_⟩) hHeld ?_
  rotate_left
  · intro w' hSw; try dsimp only at hSw
    go_simp; try (with_reducible rfl)
  try simp only [Act.put, List.getElem_toArray, List.getElem_cons_succ, List.getElem_cons_zero, List.setIfInBounds_toArray, List.set_cons_zero, List.set_cons_succ]
  refine wpAnyH_take (i := 9) (v := ?_) rfl (by kernel_rfl) (by kernel_rfl) (by kernel_rfl) (fun _ _ _ h => h) (Or.inl ⟨by rfl, ?_⟩) hHeld ?_
  rotate_left
  · intro w' hSw; try dsimp only at hSw
    go_simp; try (with_reducible rfl)
  try simp only [Act.put, List.getElem_toArray, List.getElem_cons_succ, List.getElem_cons_zero, List.setIfInBounds_toArray, List.set_cons_zero, List.set_cons_succ]
  refine wpAnyH_take (i := 10) (v := ?_) rfl (by kernel_rfl) (by kernel_rfl) (by kernel_rfl) (fun _ _ _ h => h) (Or.inl ⟨by rfl, ?_⟩) hHeld ?_
  rotate_left
  · intro w' hSw; try dsimp only at hSw
    go_simp; try (with_reducible rfl)
  try simp only [Act.put, List.getElem_toArray, List.getElem_cons_succ, List.getElem_cons_zero, List.setIfInBounds_toArray, List.set_cons_zero, List.set_cons_succ]
  refine wpAnyH_take (i := 11) (v := ?_) rfl (by kernel_rfl) (by kernel_rfl) (by kernel_rfl) (fun _ _ _ h => h) (Or.inl ⟨by rfl, ?_⟩) hHeld ?_
  rotate_left
  · intro w' hSw; try dsimp only at hSw
    go_simp; try (with_reducible rfl)
  try simp only [Act.put, List.getElem_toArray, List.getElem_cons_succ, List.getElem_cons_zero, List.setIfInBounds_toArray, List.set_cons_zero, List.set_cons_succ]
  refine wpAnyH_ready (rs := [12]) (by kernel_rfl) (by simp) ?_
  refine AllReadyH.cons rfl (fun K hK => ?_) AllReadyH.nil
  go_simp
  have gs := Blk.new w 63 [.slice q1 0 c1, .slice q n cq]
  have hb1 : Below w.heap.size w (w.alloc (.cells #[.slice q1 0 c1, .slice q n cq] 63)) := below_alloc w _
  refine hK.out _ _ ((hb1.cell (p := ⟨d, 4, none⟩) hdl).trans c4) (fun hHeld => ?_)
  clear hK K
  try simp only [Act.put, List.getElem_toArray, List.getElem_cons_succ, List.getElem_cons_zero, List.setIfInBounds_toArray, List.set_cons_zero, List.set_cons_succ]
  change Blk (w.alloc (.cells #[.slice q1 0 c1, .slice q n cq] 63)) _ _ _ at gs
  generalize w.alloc (.cells #[.slice q1 0 c1, .slice q n cq] 63) = w1 at *
  refine wpAnyH_ready (rs := [13]) (by kernel_rfl) (by simp) ?_
  refine AllReadyH.cons rfl (fun K hK => ?_) AllReadyH.nil
  go_simp
  have hb1' : Below w.heap.size w w1.drew := hb1.drew
  refine (concatW_any w.heap.size q1 q 0 c1 n cq [] s.log _ gs.drew.lt (gs.drew.cell' rfl) (gs.drew.cell' rfl) (hW1.below hb1' (Nat.le_refl _)) (hW2.below hb1' (Nat.le_refl _)) (by omega)).mono ?_
  rintro e w2 ⟨v2, rfl, ho2, hb2⟩
  refine hK.out _ _ (((bt hb1' hb2).cell (p := ⟨d, 4, none⟩) hdl).trans c4) (fun hHeld => ?_)
  clear hK K
  try simp only [Act.put, List.getElem_toArray, List.getElem_cons_succ, List.getElem_cons_zero, List.setIfInBounds_toArray, List.set_cons_zero, List.set_cons_succ]
  refine wpAnyH_take (i := 14) (v := ?_) rfl (by kernel_rfl) (by kernel_rfl) (by kernel_rfl) (fun _ _ _ h => h) (Or.inl ⟨by rfl, ?_⟩) hHeld ?_
  rotate_left
  · intro w' hSw; try dsimp only at hSw
    go_simp; try (with_reducible rfl)
  try simp only [Act.put, List.getElem_toArray, List.getElem_cons_succ, List.getElem_cons_zero, List.setIfInBounds_toArray, List.set_cons_zero, List.set_cons_succ]
  refine wpAnyH_done (by kernel_rfl) ?_ _
  refine NoPanic.normal ?_
  go_wp2
  go_ret
  exact ⟨v2, rfl, by rw [Nat.zero_add, List.nil_append] at ho2; exact owns_lowD ho2 hb1'.size, bt hb1' hb2⟩
end Go.Proofs.Ytbnnekpglnnneaa
