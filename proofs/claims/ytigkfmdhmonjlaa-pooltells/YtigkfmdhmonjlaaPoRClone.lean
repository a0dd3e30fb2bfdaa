/-
  What the reference's Clone and block answer.
-/
import Derived.Test.YtigkfmdhmonjlaaPoReach
import Derived.Test.YtigkfmdhmonjlaaPoRCheck
import Derived.Laws.AppendOwnNone
namespace Go.Proofs.Ytigkfmdhmonjlaa
open Go.RowKit
/-- append(nil, x...): a row of its own. -/
theorem wp_append_nil {o : Oper} {a : Act} {w : World} {K : Act → World → Prop} {Q : Exit → Act → World → Prop} (s x : Operand) (t e : TypeId) (ht : Try.prog.underlying t = some (.slice e))
    (hinfo : (Try.prog.info? e).map (fun i => (i.zero, i.size, i.bytes)) = some (some (.int .i64 0), 1, 8)) (ho : o.op = .call { callee := .builtin .append, args := #[s, x], argTypes := #[t, t] }) (hs : a.eval s = .slice none 0 0)
    (p : Option Addr) (n c : Nat) (xs : List Int) (hx : a.eval x = .slice p n c) (hin : InI w p n c xs) (hn : n ≤ 1000000000000)
    (h : ∀ p' c' w', w'.ownsRow w.heap.size e 1 (.slice p' n c') n (valsI xs) → Below w.heap.size w w' → K (a.put o.dst (.slice p' n c')) w') : o.wp Try.prog a w K Q := by
  obtain ⟨i0, hi, hz0, hz1, hz2⟩ := info_parts hinfo
  have hroom := hin.room
  cases p with
  | none =>
    have h1 := hin.nil rfl
    have h2 := hin.cap
    have h3 : n = 0 := by omega
    subst h1
    subst h3
    have h4 : xs = [] := List.eq_nil_of_length_eq_zero hin.len
    subst h4
    have hrun := run_append_owned_none (P := Try.prog) (w := w) w.heap.size t o.type e i0 1 ht hi (.slice none 0 0) 0 [] (World.ownsRow_nil w _ _ _)
    unfold Oper.wp
    simp [execOp, ho, resolve, invoke, builtin, hs, hx, hrun, Result.andThen]
    exact h none 0 w (World.ownsRow_nil w _ _ _) (Below.refl _ _)
  | some ad =>
    refine wp_append_own w s x t ho w.heap.size e i0 (.int .i64 0) 1 8 ht hi hz0 hz1 hz2 rfl (by decide) (.slice none 0 0) 0 [] hs (World.ownsRow_nil w _ _ _) ad n c (valsI xs) hx (by rw [valsI_length, hin.len, Nat.mul_one]) (hin.cells rfl) (valsI_one xs) (by unfold maxLen; omega) (by omega) (Nat.le_refl _) ?_
    intro v' w' hown hgrow _
    rw [List.nil_append, Nat.zero_add] at hown
    obtain ⟨p', c', hv, _⟩ := in_of_ownsI hown hroom
    subst hv
    exact h p' c' w' hown (below_grown0 hgrow)
set_option linter.unusedSimpArgs false in
set_option maxHeartbeats 1000000 in
theorem rclone_any (p q : Option Addr) (n c m d : Nat) (R W : List Int) (w : World) (hR : InI w p n c R) (hW : InI w q m d W) (hn : n ≤ 1000000000000) (hm : m ≤ 1000000000000) :
    Calls Try.prog 38 #[.agg #[.slice p n c, .slice q m d]] w fun e w' => ∃ p' c' q' d', e = .returned (.agg #[.slice p' n c', .slice q' m d']) ∧ NewP w.heap.size w' p' n c' q' m d' R W ∧ Below w.heap.size w w' := by
  go_enter Try.func38, Try.ntmps38
  go_wp2_with fail
  refine wp_region_noPanic ?_
  refine wp_region_held_drew (S := PS w (.slice p n c) (.slice q m d)) (by kernel_rfl) (PS.start w _ _ _ _).drew (fun hHeld => ?_)
  refine wpAnyH_take (i := 0) (v := ?_) rfl (by kernel_rfl) (by kernel_rfl) (by kernel_rfl) (fun _ _ _ h => h) (Or.inl ⟨by rfl, ?_⟩) hHeld ?_
  rotate_left
  · intro w' hSw; try dsimp only at hSw
    go_simp; try (with_reducible rfl)
  try simp only [Act.put, List.getElem_toArray, List.getElem_cons_succ, List.getElem_cons_zero, List.setIfInBounds_toArray, List.set_cons_zero, List.set_cons_succ]
  refine wpAnyH_take (i := 1) (v := ?_) rfl (by kernel_rfl) (by kernel_rfl) (by kernel_rfl) (fun _ _ _ h => h) (Or.inl ⟨by rfl, ?_⟩) hHeld ?_
  rotate_left
  · intro w' hSw; try dsimp only at hSw
    have c0 := hSw.box.cell' (i := 0) rfl
    have c1 := hSw.box.cell' (i := 1) rfl
    go_simp; try (with_reducible rfl)
  try simp only [Act.put, List.getElem_toArray, List.getElem_cons_succ, List.getElem_cons_zero, List.setIfInBounds_toArray, List.set_cons_zero, List.set_cons_succ]
  refine wpAnyH_take (i := 3) (v := ?_) rfl (by kernel_rfl) (by kernel_rfl) (by kernel_rfl) (fun _ _ _ h => h) (Or.inl ⟨by rfl, ?_⟩) hHeld ?_
  rotate_left
  · intro w' hSw; try dsimp only at hSw
    go_simp; try (with_reducible rfl)
  try simp only [Act.put, List.getElem_toArray, List.getElem_cons_succ, List.getElem_cons_zero, List.setIfInBounds_toArray, List.set_cons_zero, List.set_cons_succ]
  refine wpAnyH_take (i := 4) (v := ?_) rfl (by kernel_rfl) (by kernel_rfl) (by kernel_rfl) (fun _ _ _ h => h) (Or.inl ⟨by rfl, ?_⟩) hHeld ?_
  rotate_left
  · intro w' hSw; try dsimp only at hSw
    have c0 := hSw.box.cell' (i := 0) rfl
    have c1 := hSw.box.cell' (i := 1) rfl
    go_simp; try (with_reducible rfl)
  try simp only [Act.put, List.getElem_toArray, List.getElem_cons_succ, List.getElem_cons_zero, List.setIfInBounds_toArray, List.set_cons_zero, List.set_cons_succ]
  obtain ⟨x0, y0, hres0⟩ := hHeld.res
  have hlt0 := hres0.lt
  have hsz0 := hHeld.bel.size
  refine wpAnyH_ready (rs := [2]) (by kernel_rfl) (by simp) ?_
  refine AllReadyH.cons rfl (fun K hK => ?_) AllReadyH.nil
  rw [if_pos (by rfl)]
  refine wp_append_nil _ _ 22 3 Try.underlying22 info3 rfl rfl p n c R rfl (hR.below hHeld.bel) hn ?_
  intro p1 c1 w1 ho1 hb1
  refine hK.out _ _ (hHeld.next hb1) (fun hHeld => ?_)
  clear hK K
  try simp only [Act.put, List.getElem_toArray, List.getElem_cons_succ, List.getElem_cons_zero, List.setIfInBounds_toArray, List.set_cons_zero, List.set_cons_succ]
  refine wpAnyH_ready (rs := [5]) (by kernel_rfl) (by simp) ?_
  refine AllReadyH.cons rfl (fun K hK => ?_) AllReadyH.nil
  rw [if_pos (by rfl)]
  refine wp_append_nil _ _ 23 2 Try.underlying23 info2 rfl rfl q m d W rfl (hW.below hHeld.bel) hm ?_
  intro q1 d1 w2 ho2 hb2
  refine hK.out _ _ (hHeld.next hb2) (fun hHeld => ?_)
  clear hK K
  try simp only [Act.put, List.getElem_toArray, List.getElem_cons_succ, List.getElem_cons_zero, List.setIfInBounds_toArray, List.set_cons_zero, List.set_cons_succ]
  have hfar : FarP (w.heap.size + 1) p1 q1 := far_of ho1 ho2 hlt0 (by have := hb1.size; omega)
  have hnp : NewP w.heap.size w2 p1 n c1 q1 m d1 R W := ⟨owns_mono (owns_below ho1 hb2) hsz0, owns_mono ho2 (Nat.le_trans hsz0 hb1.size), hR.room, hW.room, owns_apart ho1 ho2⟩
  refine wpAnyH_take (i := 6) (v := ?_) rfl (by kernel_rfl) (by kernel_rfl) (by kernel_rfl) (fun _ _ _ h => h) (Or.inl ⟨by rfl, ?_⟩) hHeld ?_
  rotate_left
  · intro w' hSw; try dsimp only at hSw
    go_simp; try (with_reducible rfl)
  try simp only [Act.put, List.getElem_toArray, List.getElem_cons_succ, List.getElem_cons_zero, List.setIfInBounds_toArray, List.set_cons_zero, List.set_cons_succ]
  obtain ⟨x, y, hres⟩ := hHeld.res
  have hlt := hres.lt
  refine wpAnyH_ready (rs := [7]) (by kernel_rfl) (by simp) ?_
  refine AllReadyH.cons rfl (fun K hK => ?_) AllReadyH.nil
  rw [if_pos (by rfl)]
  refine wp_store_blk 25 (.tmp 2) _ rfl _ _ [.slice p1 n c1, .slice q1 m d1] rfl rfl hres (by simp) (poolSize _ _) one2 ?_
  intro w9 h9 ht9
  replace h9 : Blk w9 (w.heap.size + 1) 25 [.slice p1 n c1, .slice q1 m d1] := h9
  refine hK.out _ _ (hHeld.stored ht9 h9) (fun hHeld => ?_)
  clear hK K
  try simp only [Act.put, List.getElem_toArray, List.getElem_cons_succ, List.getElem_cons_zero, List.setIfInBounds_toArray, List.set_cons_zero, List.set_cons_succ]
  refine wpAnyH_done (by kernel_rfl) ?_ _
  refine NoPanic.normal ?_
  go_wp2_with fail
  exact ret_pool Try.results38 rfl h9 rfl ⟨p1, c1, q1, d1, rfl, hnp.turned ht9 hfar, hHeld.bel⟩
/-- What block answers: a pool of its own, if there is such a block. -/
def blockS (R W : List Int) (b : Int) : List Int × List Int × Int := if reachE R W b = 0 then (R, W, 0) else ([], [], reachE R W b)
set_option linter.unusedSimpArgs false in
set_option maxHeartbeats 1000000 in
theorem rblock_any (p q : Option Addr) (n c m d : Nat) (R W : List Int) (b : Int) (w : World) (hR : InI w p n c R) (hW : InI w q m d W) :
    Calls Try.prog 49 #[.agg #[.slice p n c, .slice q m d], .int .i64 b] w (PoolRes w (blockS R W b)) := by
  have HL : Hid (R.length = n) := hR.len
  have HLW : Hid (W.length = m) := hW.len
  have hS := PS.start w (.slice p n c) (.slice q m d) (.slice none 0 0) (.slice none 0 0)
  cases hok : okPool R W with
  | false =>
    have HE : Hid (checkE R W = 40) := checkE_no hok
    have HS : Hid (blockS R W b = ([], [], 40)) := by show _ = _; unfold blockS reachE; rw [hok]; rfl
    go_enter Try.func49, Try.ntmps49
    go_wp2_with (first
      | (go_at_call 15; refine (rcheck_any p q n c m d R W _ (hR.below hS.bel) (hW.below hS.bel)).mono ?_; rintro e w1 ⟨rfl, hb1⟩; rw [HE.out]; have hS1 := hS.next hb1; obtain ⟨x, y, hres⟩ := hS1.res)
      | (refine wpList_store_blk rfl 25 (.tmp 4) (.tmp 9) rfl _ _ [.slice none 0 0, .slice none 0 0] rfl rfl hres (by simp) (poolSize _ _) one2 ?_; intro w9 h9 ht9; replace h9 : Blk w9 (w.heap.size + 1) 25 [.slice none 0 0, .slice none 0 0] := h9))
    rw [HS.out]
    exact ret_poolE Try.results49 rfl h9 rfl rfl ⟨_, _, _, _, _, _, rfl, NewP.zero _ _, ht9.below hS1.bel (by omega)⟩
  | true =>
    have HE : Hid (checkE R W = 0) := checkE_ok hok
    cases hib : isB R b with
    | true =>
      have HS : Hid (blockS R W b = (R, W, 0)) := by show _ = _; unfold blockS; rw [if_pos (reachE_of hok hib)]
      have hb0 : ¬ b < 0 := by have := isB_iff.1 hib; omega
      have hbn : ¬ (n : Int) ≤ b := by have := isB_iff.1 hib; rw [HL.out] at this; omega
      have HN : Hid (n ≤ 256 ∧ m ≤ 256) := by have := (okPool_iff.1 hok).1; rw [HL.out, HLW.out] at this; exact ⟨by omega, by omega⟩
      go_enter Try.func49, Try.ntmps49
      go_wp2_with (first
        | (go_at_call 15; refine (rcheck_any p q n c m d R W _ (hR.below hS.bel) (hW.below hS.bel)).mono ?_; rintro e w1 ⟨rfl, hb1⟩; rw [HE.out]; have hS1 := hS.next hb1; have c0 := hS1.box.cell' (i := 0) rfl; have c1 := hS1.box.cell' (i := 1) rfl)
        | (go_at_call 38; refine (rclone_any p q n c m d R W _ (hR.below hS1.bel) (hW.below hS1.bel) (by have := HN.out; omega) (by have := HN.out; omega)).mono ?_; rintro e w2 ⟨p1, c2, q1, d2, rfl, hnp, hb2⟩; have hS2 := hS1.next hb2; obtain ⟨x, y, hres1⟩ := hS1.res; have hfar : FarP (w.heap.size + 1) p1 q1 := far_of hnp.r hnp.v hres1.lt hres1.lt; have hres := hres1.kept hb2; have hnp2 := hnp.low hS1.bel.size)
        | (refine wpList_store_blk rfl 25 (.tmp 4) (.tmp 21) rfl _ _ [.slice p1 n c2, .slice q1 m d2] rfl rfl hres (by simp) (poolSize _ _) one2 ?_; intro w9 h9 ht9; replace h9 : Blk w9 (w.heap.size + 1) 25 [.slice p1 n c2, .slice q1 m d2] := h9))
      rw [HS.out]
      exact ret_poolE Try.results49 rfl h9 rfl rfl ⟨_, _, _, _, _, _, rfl, hnp2.turned ht9 hfar, ht9.below hS2.bel (by omega)⟩
    | false =>
      have HS : Hid (blockS R W b = ([], [], 22)) := by show _ = _; unfold blockS reachE; rw [hok, hib]; rfl
      have hno : b < 0 ∨ (n : Int) ≤ b := by
        have h2 : ¬ (0 ≤ b ∧ b < (R.length : Int)) := fun h => by rw [isB_iff.2 h] at hib; cases hib
        rw [HL.out] at h2; omega
      rcases hno with hb0 | hbn
      · go_enter Try.func49, Try.ntmps49
        go_wp2_with (first
          | (go_at_call 15; refine (rcheck_any p q n c m d R W _ (hR.below hS.bel) (hW.below hS.bel)).mono ?_; rintro e w1 ⟨rfl, hb1⟩; rw [HE.out]; have hS1 := hS.next hb1; have c0 := hS1.box.cell' (i := 0) rfl; have c1 := hS1.box.cell' (i := 1) rfl; obtain ⟨x, y, hres⟩ := hS1.res)
          | (refine wpList_store_blk rfl 25 (.tmp 4) (.tmp 19) rfl _ _ [.slice none 0 0, .slice none 0 0] rfl rfl hres (by simp) (poolSize _ _) one2 ?_; intro w9 h9 ht9; replace h9 : Blk w9 (w.heap.size + 1) 25 [.slice none 0 0, .slice none 0 0] := h9))
        rw [HS.out]
        exact ret_poolE Try.results49 rfl h9 rfl rfl ⟨_, _, _, _, _, _, rfl, NewP.zero _ _, ht9.below hS1.bel (by omega)⟩
      · have hb0 : ¬ b < 0 := by omega
        go_enter Try.func49, Try.ntmps49
        go_wp2_with (first
          | (go_at_call 15; refine (rcheck_any p q n c m d R W _ (hR.below hS.bel) (hW.below hS.bel)).mono ?_; rintro e w1 ⟨rfl, hb1⟩; rw [HE.out]; have hS1 := hS.next hb1; have c0 := hS1.box.cell' (i := 0) rfl; have c1 := hS1.box.cell' (i := 1) rfl; obtain ⟨x, y, hres⟩ := hS1.res)
          | (refine wpList_store_blk rfl 25 (.tmp 4) (.tmp 19) rfl _ _ [.slice none 0 0, .slice none 0 0] rfl rfl hres (by simp) (poolSize _ _) one2 ?_; intro w9 h9 ht9; replace h9 : Blk w9 (w.heap.size + 1) 25 [.slice none 0 0, .slice none 0 0] := h9))
        rw [HS.out]
        exact ret_poolE Try.results49 rfl h9 rfl rfl ⟨_, _, _, _, _, _, rfl, NewP.zero _ _, ht9.below hS1.bel (by omega)⟩
end Go.Proofs.Ytigkfmdhmonjlaa
