/-
  What the law's bytes, covers and changed answer.
-/
import Derived.Test.YthafcnilhloldaaNSidedP
import Derived.Test.YthafcnilhloldaaRefCovers
import Derived.Test.YthafcnilhloldaaNLook
namespace Go.Proofs.Ythafcnilhloldaa
open Go.RowKit
set_option linter.unusedSimpArgs false in
set_option maxRecDepth 100000 in
set_option maxHeartbeats 2000000 in
theorem lbytes_any (P : List Nat) (hP : IsP P) (w : World) :
    Calls Try.prog 50 #[.agg (vals P).toArray] w fun e w' => ∃ p c, e = .returned (.slice p 288 c) ∧ In w' p 288 c P ∧ Below w.heap.size w w' := by
  obtain ⟨i0, hi, hz0, hz1, hz2⟩ := info_parts info5
  have b0 := Blk.new w 46 (vals P)
  have hbel := below_alloc w (.cells (vals P).toArray 46)
  generalize hW : w.alloc (.cells (vals P).toArray 46) = W at *
  have hlt : w.heap.size < W.heap.size := b0.lt
  go_enter Try.func50, Try.ntmps50
  go_wp2_with fail
  refine wp_region_noPanic ?_
  refine wp_region_held_drew (S := fun _ => True) (by kernel_rfl) trivial (fun hHeld => ?_)
  refine wpAnyH_take (i := 1) (v := ?_) rfl (by kernel_rfl) (by kernel_rfl) (by kernel_rfl) (fun _ _ _ h => h) (Or.inl ⟨by rfl, ?_⟩) hHeld ?_
  rotate_left
  · intro w' hSw; try dsimp only at hSw
    go_simp; try (with_reducible rfl)
  try simp only [Act.put, List.getElem_toArray, List.getElem_cons_succ, List.getElem_cons_zero, List.setIfInBounds_toArray, List.set_cons_zero, List.set_cons_succ]
  refine wpAnyH_take (i := 2) (v := ?_) rfl (by kernel_rfl) (by kernel_rfl) (by kernel_rfl) (fun _ _ _ h => h) (Or.inl ⟨by rfl, ?_⟩) hHeld ?_
  rotate_left
  · intro w' hSw; try dsimp only at hSw
    go_simp; try (with_reducible rfl)
  try simp only [Act.put, List.getElem_toArray, List.getElem_cons_succ, List.getElem_cons_zero, List.setIfInBounds_toArray, List.set_cons_zero, List.set_cons_succ]
  refine wpAnyH_take (i := 4) (v := ?_) rfl (by kernel_rfl) (by kernel_rfl) (by kernel_rfl) (fun _ _ _ h => h) (Or.inl ⟨by rfl, ?_⟩) hHeld ?_
  rotate_left
  · intro w' hSw; try dsimp only at hSw
    go_simp; try (with_reducible rfl)
  try simp only [Act.put, List.getElem_toArray, List.getElem_cons_succ, List.getElem_cons_zero, List.setIfInBounds_toArray, List.set_cons_zero, List.set_cons_succ]
  refine wpAnyH_take (i := 5) (v := ?_) rfl (by kernel_rfl) (by kernel_rfl) (by kernel_rfl) (fun _ _ _ h => h) (Or.inl ⟨by rfl, ?_⟩) hHeld ?_
  rotate_left
  · intro w' hSw; try dsimp only at hSw
    go_simp; try (with_reducible rfl)
  try simp only [Act.put, List.getElem_toArray, List.getElem_cons_succ, List.getElem_cons_zero, List.setIfInBounds_toArray, List.set_cons_zero, List.set_cons_succ]
  refine wpAnyH_ready (rs := [0]) (by kernel_rfl) (by simp) ?_
  refine AllReadyH.cons rfl (fun K hK => ?_) AllReadyH.nil
  go_simp
  refine hK.out _ _ trivial (fun hHeld => ?_)
  clear hK K
  try simp only [Act.put, List.getElem_toArray, List.getElem_cons_succ, List.getElem_cons_zero, List.setIfInBounds_toArray, List.set_cons_zero, List.set_cons_succ]
  have ho : (W.drew.alloc (.cells #[] 5)).ownsRow w.heap.size 5 1 (.slice (some ⟨W.drew.heap.size, 0, none⟩) 0 0) 0 [] := World.ownsRow_lit (e := 5) (size := 1) (base := w.heap.size) W.drew #[] 0 (Nat.le_of_lt hlt) (by unfold maxLen; omega) (by simp)
  have b1 := b0.drew.alloc (.cells #[] 5)
  have hb1 : Below w.heap.size w (W.drew.alloc (.cells #[] 5)) := (hbel.drew).alloc (Nat.le_of_lt hlt) _
  refine wpAnyH_ready (rs := [3]) (by kernel_rfl) (by simp) ?_
  refine AllReadyH.cons rfl (fun K hK => ?_) AllReadyH.nil
  refine wp_append_own _ (.tmp 3) (.tmp 5) 70 rfl w.heap.size 5 i0 (.int .u8 0) 1 1 Try.underlying70 hi hz0 hz1 hz2 rfl (by decide) (.slice (some ⟨W.drew.heap.size, 0, none⟩) 0 0) 0 [] rfl ho ⟨w.heap.size, 0, none⟩ 256 256 (vals (P.take 256)) rfl (by rw [vals_length, List.length_take, hP.1]; rfl) (bytesTake b1) (vals_one _) (by unfold maxLen; omega) (by omega) hb1.size ?_
  intro v1 w1 hown1 hgrow1 _
  rw [List.nil_append, Nat.zero_add] at hown1
  have b2 := Blk.grown b1 hgrow1 (by simp [Value.ownBlock]; show w.heap.size ≠ W.heap.size; omega)
  have hb2 : Below w.heap.size w w1 := hb1.grown hgrow1 hb1.size (fun k hk => (ho.lt k hk).1)
  refine hK.out _ _ trivial (fun hHeld => ?_)
  clear hK K
  try simp only [Act.put, List.getElem_toArray, List.getElem_cons_succ, List.getElem_cons_zero, List.setIfInBounds_toArray, List.set_cons_zero, List.set_cons_succ]
  refine wpAnyH_ready (rs := [6]) (by kernel_rfl) (by simp) ?_
  refine AllReadyH.cons rfl (fun K hK => ?_) AllReadyH.nil
  refine wp_append_own _ (.tmp 6) (.tmp 8) 70 rfl w.heap.size 5 i0 (.int .u8 0) 1 1 Try.underlying70 hi hz0 hz1 hz2 rfl (by decide) v1 256 (vals (P.take 256)) rfl hown1 ⟨w.heap.size, 256, none⟩ 32 32 (vals (P.drop 256)) rfl (by rw [vals_length, List.length_drop, hP.1]) (bytesDrop b2) (vals_one _) (by unfold maxLen; omega) (by omega) hb2.size ?_
  intro v2 w2 hown2 hgrow2 _
  rw [← vals_append, List.take_append_drop] at hown2
  have hb3 : Below w.heap.size w w2 := hb2.grown hgrow2 hb2.size (fun k hk => (hown1.lt k hk).1)
  refine hK.out _ _ trivial (fun hHeld => ?_)
  clear hK K
  try simp only [Act.put, List.getElem_toArray, List.getElem_cons_succ, List.getElem_cons_zero, List.setIfInBounds_toArray, List.set_cons_zero, List.set_cons_succ]
  refine wpAnyH_take (i := 7) (v := ?_) rfl (by kernel_rfl) (by kernel_rfl) (by kernel_rfl) (fun _ _ _ h => h) (Or.inl ⟨by rfl, ?_⟩) hHeld ?_
  rotate_left
  · intro w' hSw; try dsimp only at hSw
    go_simp; try (with_reducible rfl)
  try simp only [Act.put, List.getElem_toArray, List.getElem_cons_succ, List.getElem_cons_zero, List.setIfInBounds_toArray, List.set_cons_zero, List.set_cons_succ]
  refine wpAnyH_done (by kernel_rfl) ?_ _
  refine NoPanic.normal ?_
  go_wp2_with fail
  go_ret
  obtain ⟨p', c', hv, hin⟩ := in_of_owns hown2 hP.2 (by omega)
  exact ⟨p', c', congrArg Ending.returned hv, hin, hb3⟩
set_option linter.unusedSimpArgs false in
set_option maxRecDepth 100000 in
set_option maxHeartbeats 2000000 in
theorem lcovers_any (P Q : List Nat) (hP : IsP P) (hQ : IsP Q) (w : World) :
    Calls Try.prog 24 #[.agg (vals P).toArray, .agg (vals Q).toArray] w fun e w' => e = .returned (.bool (covers P Q)) ∧ Below w.heap.size w w' := by
  have b0 := (Blk.new w 46 (vals P)).alloc (.cells (vals Q).toArray 46)
  have b1 := Blk.new (w.alloc (.cells (vals P).toArray 46)) 46 (vals Q)
  rw [World.size_alloc] at b1
  have hbel : Below w.heap.size w ((w.alloc (.cells (vals P).toArray 46)).alloc (.cells (vals Q).toArray 46)) := bt (below_alloc w _) (below_alloc _ _)
  have HP : Hid (P.length = 288) := hP.1
  have HQ : Hid (Q.length = 288) := hQ.1
  go_enter Try.func24, Try.ntmps24
  go_wp2_with fail
  generalize ((w.alloc (.cells (vals P).toArray 46)).alloc (.cells (vals Q).toArray 46)) = W at *
  refine wp_region_noPanic ?_
  refine wp_region_held_drew (S := fun w' => Below W.heap.size W w') (by kernel_rfl) ((Below.refl _ _).drew) (fun hHeld => ?_)
  refine wpAnyH_take (i := 0) (v := .agg (vals P).toArray) rfl (by kernel_rfl) (by kernel_rfl) (by kernel_rfl) (fun _ _ _ h => h) (yieldsIf_load_mid (by rfl) _ _ rfl (w.heap.size) (0) rfl (vals P) _ (fun w' hSw => (b0.kept hSw).range 0 288 (vals P) (by rw [List.drop_zero, List.take_of_length_le (by rw [vals_length, HP.out]; exact Nat.le_refl _)])) Try.underlying46 rfl (sizeP HP.out)) hHeld ?_
  try simp only [Act.put, List.getElem_toArray, List.getElem_cons_succ, List.getElem_cons_zero, List.setIfInBounds_toArray, List.set_cons_zero, List.set_cons_succ]
  refine wpAnyH_take (i := 2) (v := .agg (vals Q).toArray) rfl (by kernel_rfl) (by kernel_rfl) (by kernel_rfl) (fun _ _ _ h => h) (yieldsIf_load_mid (by rfl) _ _ rfl (w.heap.size + 1) (0) rfl (vals Q) _ (fun w' hSw => (b1.kept hSw).range 0 288 (vals Q) (by rw [List.drop_zero, List.take_of_length_le (by rw [vals_length, HQ.out]; exact Nat.le_refl _)])) Try.underlying46 rfl (sizeP HQ.out)) hHeld ?_
  try simp only [Act.put, List.getElem_toArray, List.getElem_cons_succ, List.getElem_cons_zero, List.setIfInBounds_toArray, List.set_cons_zero, List.set_cons_succ]
  refine wpAnyH_ready (rs := [1]) (by kernel_rfl) (by simp) ?_
  refine AllReadyH.cons rfl (fun K hK => ?_) AllReadyH.nil
  go_simp
  refine (lbytes_any P hP _).mono ?_
  rintro e Z1 ⟨p1, c1, rfl, hin1, hz1⟩
  try go_wp2_with fail
  refine hK.out _ _ (hHeld.trans (hz1.mono hHeld.size)) (fun hHeld => ?_)
  clear hK K
  try simp only [Act.put, List.getElem_toArray, List.getElem_cons_succ, List.getElem_cons_zero, List.setIfInBounds_toArray, List.set_cons_zero, List.set_cons_succ]
  refine wpAnyH_ready (rs := [3]) (by kernel_rfl) (by simp) ?_
  refine AllReadyH.cons rfl (fun K hK => ?_) AllReadyH.nil
  go_simp
  refine (lbytes_any Q hQ _).mono ?_
  rintro e Z2 ⟨p2, c2, rfl, hin2, hz2⟩
  try go_wp2_with fail
  have hin1' := hin1.below hz2
  refine hK.out _ _ (hHeld.trans (hz2.mono hHeld.size)) (fun hHeld => ?_)
  clear hK K
  try simp only [Act.put, List.getElem_toArray, List.getElem_cons_succ, List.getElem_cons_zero, List.setIfInBounds_toArray, List.set_cons_zero, List.set_cons_succ]
  refine wpAnyH_ready (rs := [4]) (by kernel_rfl) (by simp) ?_
  refine AllReadyH.cons rfl (fun K hK => ?_) AllReadyH.nil
  go_simp
  refine (refCovers_any _ _ _ _ _ _ P Q _ hin1' hin2).mono ?_
  rintro e Z3 ⟨rfl, hz3⟩
  try go_wp2_with fail
  refine hK.out _ _ (hHeld.trans (hz3.mono hHeld.size)) (fun hHeld => ?_)
  clear hK K
  try simp only [Act.put, List.getElem_toArray, List.getElem_cons_succ, List.getElem_cons_zero, List.setIfInBounds_toArray, List.set_cons_zero, List.set_cons_succ]
  refine wpAnyH_take (i := 5) (v := ?_) rfl (by kernel_rfl) (by kernel_rfl) (by kernel_rfl) (fun _ _ _ h => h) (Or.inl ⟨by rfl, ?_⟩) hHeld ?_
  rotate_left
  · intro w' hSw; try dsimp only at hSw
    go_simp; try (with_reducible rfl)
  try simp only [Act.put, List.getElem_toArray, List.getElem_cons_succ, List.getElem_cons_zero, List.setIfInBounds_toArray, List.set_cons_zero, List.set_cons_succ]
  refine wpAnyH_done (by kernel_rfl) ?_ _
  refine NoPanic.normal ?_
  go_wp2_with fail
  go_ret
  exact ⟨rfl, hbel.trans (hHeld.mono hbel.size)⟩
set_option linter.unusedSimpArgs false in
set_option maxRecDepth 100000 in
set_option maxHeartbeats 2000000 in
/-- changed, of a block that is as it was. -/
theorem changed_no (c : Nat) (s : St) (bb : Nat) (PV : Nat → Value) (b : Int) (w : World) (h : ChipIn w c s bb PV) :
    Calls Try.prog 21 #[.pointer (some ⟨c, 0, none⟩), .int .i64 b, .agg #[.int .i64 (lkW s b), .int .i64 (lkN s b), .bool (lkB s b)]] w fun e w' => e = .returned (.bool false) ∧ Below w.heap.size w w' := by
  have hb0 := below_alloc w (.cells #[.int .i64 (lkW s b), .int .i64 (lkN s b), .bool (lkB s b)] 54)
  have b0 := Blk.new' w 54 #[.int .i64 (lkW s b), .int .i64 (lkN s b), .bool (lkB s b)]
  have hlk := look_any c s bb PV b _ (h.below hb0)
  generalize lkW s b = W at *
  generalize lkN s b = N at *
  generalize lkB s b = B at *
  go_enter Try.func21, Try.ntmps21
  go_wp2_with (go_at_call 20; refine hlk.mono ?_; rintro e X1 ⟨rfl, hx1⟩; have b1 := (b0.kept hx1).alloc (.cells #[.int .i64 W, .int .i64 N, .bool B] 54); have z0 := b1.cell' (i := 0) rfl; have z1 := b1.cell' (i := 1) rfl; have z2 := b1.cell' (i := 2) rfl)
  go_ret
  exact ⟨by simp, bt (bt hb0 hx1) (below_alloc _ _)⟩
set_option linter.unusedSimpArgs false in
set_option maxRecDepth 100000 in
set_option maxHeartbeats 2000000 in
/-- changed, of a block whose next page is another one. -/
theorem changed_yes (c : Nat) (s : St) (bb : Nat) (PV : Nat → Value) (b : Int) (W0 N0 : Int) (B0 : Bool) (hN : lkN s b ≠ N0) (w : World) (h : ChipIn w c s bb PV) :
    Calls Try.prog 21 #[.pointer (some ⟨c, 0, none⟩), .int .i64 b, .agg #[.int .i64 W0, .int .i64 N0, .bool B0]] w fun e w' => e = .returned (.bool true) ∧ Below w.heap.size w w' := by
  have hb0 := below_alloc w (.cells #[.int .i64 W0, .int .i64 N0, .bool B0] 54)
  have b0 := Blk.new' w 54 #[.int .i64 W0, .int .i64 N0, .bool B0]
  have hlk := look_any c s bb PV b _ (h.below hb0)
  generalize lkW s b = W at *
  generalize lkN s b = N at *
  generalize lkB s b = B at *
  have hne : (N == N0) = false := by simpa using hN
  clear hN
  go_enter Try.func21, Try.ntmps21
  go_wp2_with (go_at_call 20; refine hlk.mono ?_; rintro e X1 ⟨rfl, hx1⟩; have b1 := (b0.kept hx1).alloc (.cells #[.int .i64 W, .int .i64 N, .bool B] 54); have z0 := b1.cell' (i := 0) rfl; have z1 := b1.cell' (i := 1) rfl; have z2 := b1.cell' (i := 2) rfl)
  go_ret
  exact ⟨by simp, bt (bt hb0 hx1) (below_alloc _ _)⟩
end Go.Proofs.Ythafcnilhloldaa
