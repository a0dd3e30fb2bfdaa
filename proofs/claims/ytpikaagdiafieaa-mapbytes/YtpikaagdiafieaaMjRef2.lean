/-
  What the reference's Clone, Join and Covers answer.
-/
import Derived.Test.YtpikaagdiafieaaMjRef1
import Derived.Laws.AppendOwnNone
namespace Go.Proofs.Ytpikaagdiafieaa
open Go.RowKit
/-- append(nil, x...): a row of its own. -/
theorem wp_append_nil {o : Oper} {a : Act} {w : World} {K : Act → World → Prop} {Q : Exit → Act → World → Prop} (s x : Operand) (t e : TypeId) (ht : Try.prog.underlying t = some (.slice e))
    (hinfo : (Try.prog.info? e).map (fun i => (i.zero, i.size, i.bytes)) = some (some (.int .i64 0), 1, 8)) (ho : o.op = .call { callee := .builtin .append, args := #[s, x], argTypes := #[t, t] }) (hs : a.eval s = .slice none 0 0)
    (p : Option Addr) (n c : Nat) (xs : List Int) (hx : a.eval x = .slice p n c) (hin : InI w p n c xs) (hn : n ≤ 1000000000000)
    (h : ∀ p' c' w', w'.ownsRow w.heap.size e 1 (.slice p' n c') n (valsI xs) → Below w.heap.size w w' → K (a.put o.dst (.slice p' n c')) w') : o.wp Try.prog a w K Q := by
  obtain ⟨i0, hi, hz0, hz1, hz2⟩ := info_parts hinfo
  have hroom := hin.room
  cases p with
  | none =>
    have h1 := hin.nil rfl
    have h2 := hin.cap
    have h3 : n = 0 := by omega
    subst h1
    subst h3
    have h4 : xs = [] := List.eq_nil_of_length_eq_zero hin.len
    subst h4
    have hrun := run_append_owned_none (P := Try.prog) (w := w) w.heap.size t o.type e i0 1 ht hi (.slice none 0 0) 0 [] (World.ownsRow_nil w _ _ _)
    unfold Oper.wp
    simp [execOp, ho, resolve, invoke, builtin, hs, hx, hrun, Result.andThen]
    exact h none 0 w (World.ownsRow_nil w _ _ _) (Below.refl _ _)
  | some ad =>
    refine wp_append_own w s x t ho w.heap.size e i0 (.int .i64 0) 1 8 ht hi hz0 hz1 hz2 rfl (by decide) (.slice none 0 0) 0 [] hs (World.ownsRow_nil w _ _ _) ad n c (valsI xs) hx (by rw [valsI_length, hin.len, Nat.mul_one]) (hin.cells rfl) (valsI_one xs) (by unfold maxLen; omega) (by omega) (Nat.le_refl _) ?_
    intro v' w' hown hgrow _
    rw [List.nil_append, Nat.zero_add] at hown
    obtain ⟨p', c', hv, _⟩ := in_of_ownsI hown hroom
    subst hv
    exact h p' c' w' hown (below_grown0 hgrow)
/-- append(nil, x...): a row of its own. -/
theorem wp_append_nilB {o : Oper} {a : Act} {w : World} {K : Act → World → Prop} {Q : Exit → Act → World → Prop} (s x : Operand) (t e : TypeId) (ht : Try.prog.underlying t = some (.slice e))
    (hinfo : (Try.prog.info? e).map (fun i => (i.zero, i.size, i.bytes)) = some (some (.bool false), 1, 1)) (ho : o.op = .call { callee := .builtin .append, args := #[s, x], argTypes := #[t, t] }) (hs : a.eval s = .slice none 0 0)
    (p : Option Addr) (n c : Nat) (xs : List Bool) (hx : a.eval x = .slice p n c) (hin : InB w p n c xs) (hn : n ≤ 1000000000000)
    (h : ∀ p' c' w', w'.ownsRow w.heap.size e 1 (.slice p' n c') n (valsB xs) → Below w.heap.size w w' → K (a.put o.dst (.slice p' n c')) w') : o.wp Try.prog a w K Q := by
  obtain ⟨i0, hi, hz0, hz1, hz2⟩ := info_parts hinfo
  have hroom := hin.room
  cases p with
  | none =>
    have h1 := hin.nil rfl
    have h2 := hin.cap
    have h3 : n = 0 := by omega
    subst h1
    subst h3
    have h4 : xs = [] := List.eq_nil_of_length_eq_zero hin.len
    subst h4
    have hrun := run_append_owned_none (P := Try.prog) (w := w) w.heap.size t o.type e i0 1 ht hi (.slice none 0 0) 0 [] (World.ownsRow_nil w _ _ _)
    unfold Oper.wp
    simp [execOp, ho, resolve, invoke, builtin, hs, hx, hrun, Result.andThen]
    exact h none 0 w (World.ownsRow_nil w _ _ _) (Below.refl _ _)
  | some ad =>
    refine wp_append_own w s x t ho w.heap.size e i0 (.bool false) 1 1 ht hi hz0 hz1 hz2 rfl (by decide) (.slice none 0 0) 0 [] hs (World.ownsRow_nil w _ _ _) ad n c (valsB xs) hx (by rw [valsB_length, hin.len, Nat.mul_one]) (hin.cells rfl) (valsB_one xs) (by unfold maxLen; omega) (by omega) (Nat.le_refl _) ?_
    intro v' w' hown hgrow _
    rw [List.nil_append, Nat.zero_add] at hown
    obtain ⟨p', c', hv, _⟩ := in_of_ownsB hown hroom
    subst hv
    exact h p' c' w' hown (below_grown0 hgrow)
set_option linter.unusedSimpArgs false in
set_option maxRecDepth 100000 in
set_option maxHeartbeats 1000000 in
theorem rclone_any (V : SV) (s : MS) (w : World) (hs : InS w V s) (hn : V.n ≤ 1000000000000) (hm : V.m ≤ 1000000000000) :
    Calls Try.prog 49 #[V.val s] w fun e w' => ∃ V', e = .returned (SV.val V' s) ∧ V'.n = V.n ∧ V'.m = V.m ∧ OwnS w.heap.size w' V' s ∧ Below w.heap.size w w' := by
  have hS := PS.start w V s (.slice none 0 0) (.slice none 0 0) (.int .i64 0)
  obtain ⟨p, n, c, q, m, d⟩ := V
  obtain ⟨hB, hW⟩ := hs
  dsimp only [SV.val] at *
  go_enter Try.func49, Try.ntmps49
  go_wp2_with fail
  refine wp_region_noPanic ?_
  refine wp_region_held_drew (S := PS w ⟨p, n, c, q, m, d⟩ s) (by kernel_rfl) hS.drew (fun hHeld => ?_)
  refine wpAnyH_take (i := 0) (v := ?_) rfl (by kernel_rfl) (by kernel_rfl) (by kernel_rfl) (fun _ _ _ h => h) (Or.inl ⟨by rfl, ?_⟩) hHeld ?_
  rotate_left
  · intro w' hSw; try dsimp only at hSw
    go_simp; try (with_reducible rfl)
  try simp only [Act.put, List.getElem_toArray, List.getElem_cons_succ, List.getElem_cons_zero, List.setIfInBounds_toArray, List.set_cons_zero, List.set_cons_succ]
  refine wpAnyH_take (i := 1) (v := ?_) rfl (by kernel_rfl) (by kernel_rfl) (by kernel_rfl) (fun _ _ _ h => h) (Or.inl ⟨by rfl, ?_⟩) hHeld ?_
  rotate_left
  · intro w' hSw; try dsimp only at hSw
    have c0 := hSw.box.cell' (i := 0) rfl
    have c1 := hSw.box.cell' (i := 1) rfl
    have c2 := hSw.box.cell' (i := 2) rfl
    go_simp; try (with_reducible rfl)
  try simp only [Act.put, List.getElem_toArray, List.getElem_cons_succ, List.getElem_cons_zero, List.setIfInBounds_toArray, List.set_cons_zero, List.set_cons_succ]
  refine wpAnyH_take (i := 3) (v := ?_) rfl (by kernel_rfl) (by kernel_rfl) (by kernel_rfl) (fun _ _ _ h => h) (Or.inl ⟨by rfl, ?_⟩) hHeld ?_
  rotate_left
  · intro w' hSw; try dsimp only at hSw
    go_simp; try (with_reducible rfl)
  try simp only [Act.put, List.getElem_toArray, List.getElem_cons_succ, List.getElem_cons_zero, List.setIfInBounds_toArray, List.set_cons_zero, List.set_cons_succ]
  refine wpAnyH_take (i := 4) (v := ?_) rfl (by kernel_rfl) (by kernel_rfl) (by kernel_rfl) (fun _ _ _ h => h) (Or.inl ⟨by rfl, ?_⟩) hHeld ?_
  rotate_left
  · intro w' hSw; try dsimp only at hSw
    have c0 := hSw.box.cell' (i := 0) rfl
    have c1 := hSw.box.cell' (i := 1) rfl
    have c2 := hSw.box.cell' (i := 2) rfl
    go_simp; try (with_reducible rfl)
  try simp only [Act.put, List.getElem_toArray, List.getElem_cons_succ, List.getElem_cons_zero, List.setIfInBounds_toArray, List.set_cons_zero, List.set_cons_succ]
  refine wpAnyH_take (i := 6) (v := ?_) rfl (by kernel_rfl) (by kernel_rfl) (by kernel_rfl) (fun _ _ _ h => h) (Or.inl ⟨by rfl, ?_⟩) hHeld ?_
  rotate_left
  · intro w' hSw; try dsimp only at hSw
    go_simp; try (with_reducible rfl)
  try simp only [Act.put, List.getElem_toArray, List.getElem_cons_succ, List.getElem_cons_zero, List.setIfInBounds_toArray, List.set_cons_zero, List.set_cons_succ]
  refine wpAnyH_take (i := 7) (v := ?_) rfl (by kernel_rfl) (by kernel_rfl) (by kernel_rfl) (fun _ _ _ h => h) (Or.inl ⟨by rfl, ?_⟩) hHeld ?_
  rotate_left
  · intro w' hSw; try dsimp only at hSw
    have c0 := hSw.box.cell' (i := 0) rfl
    have c1 := hSw.box.cell' (i := 1) rfl
    have c2 := hSw.box.cell' (i := 2) rfl
    go_simp; try (with_reducible rfl)
  try simp only [Act.put, List.getElem_toArray, List.getElem_cons_succ, List.getElem_cons_zero, List.setIfInBounds_toArray, List.set_cons_zero, List.set_cons_succ]
  obtain ⟨cs0, hcl0, hres0⟩ := hHeld.res
  have hlt0 := hres0.lt
  have hsz0 := hHeld.bel.size
  refine wpAnyH_ready (rs := [2]) (by kernel_rfl) (by simp) ?_
  refine AllReadyH.cons rfl (fun K hK => ?_) AllReadyH.nil
  rw [if_pos (by rfl)]
  refine wp_append_nilB _ _ 22 4 Try.underlying22 info4 rfl rfl p n c s.bad rfl (hB.below hHeld.bel) hn ?_
  intro p1 c1 w1 ho1 hb1
  refine hK.out _ _ (hHeld.next hb1) (fun hHeld => ?_)
  clear hK K
  try simp only [Act.put, List.getElem_toArray, List.getElem_cons_succ, List.getElem_cons_zero, List.setIfInBounds_toArray, List.set_cons_zero, List.set_cons_succ]
  refine wpAnyH_ready (rs := [5]) (by kernel_rfl) (by simp) ?_
  refine AllReadyH.cons rfl (fun K hK => ?_) AllReadyH.nil
  rw [if_pos (by rfl)]
  refine wp_append_nil _ _ 23 2 Try.underlying23 info2 rfl rfl q m d s.wear rfl (hW.below hHeld.bel) hm ?_
  intro q1 d1 w2 ho2 hb2
  refine hK.out _ _ (hHeld.next hb2) (fun hHeld => ?_)
  clear hK K
  try simp only [Act.put, List.getElem_toArray, List.getElem_cons_succ, List.getElem_cons_zero, List.setIfInBounds_toArray, List.set_cons_zero, List.set_cons_succ]
  have hos : OwnS w.heap.size w2 ⟨p1, n, c1, q1, m, d1⟩ s := ⟨owns_mono (owns_below ho1 hb2) hsz0, owns_mono ho2 (Nat.le_trans hsz0 hb1.size), hB.room, hW.room⟩
  refine wpAnyH_take (i := 8) (v := ?_) rfl (by kernel_rfl) (by kernel_rfl) (by kernel_rfl) (fun _ _ _ h => h) (Or.inl ⟨by rfl, ?_⟩) hHeld ?_
  rotate_left
  · intro w' hSw; try dsimp only at hSw
    go_simp; try (with_reducible rfl)
  try simp only [Act.put, List.getElem_toArray, List.getElem_cons_succ, List.getElem_cons_zero, List.setIfInBounds_toArray, List.set_cons_zero, List.set_cons_succ]
  obtain ⟨cs, hcl, hres⟩ := hHeld.res
  refine wpAnyH_ready (rs := [9]) (by kernel_rfl) (by simp) ?_
  refine AllReadyH.cons rfl (fun K hK => ?_) AllReadyH.nil
  rw [if_pos (by rfl)]
  refine wp_store_blk 25 (.tmp 2) _ rfl _ _ [.slice p1 n c1, .slice q1 m d1, .int .i64 s.seq] rfl rfl hres (by rw [hcl]; exact Nat.le_refl _) (msSize ⟨p1, n, c1, q1, m, d1⟩ s) (msOne ⟨p1, n, c1, q1, m, d1⟩ s) ?_
  intro w9 h9 ht9
  rw [whole_row (by rw [hcl]; rfl)] at h9
  replace h9 : Blk w9 (w.heap.size + 1) 25 (SV.cells ⟨p1, n, c1, q1, m, d1⟩ s) := h9
  refine hK.out _ _ (hHeld.stored ht9 h9 rfl) (fun hHeld => ?_)
  clear hK K
  try simp only [Act.put, List.getElem_toArray, List.getElem_cons_succ, List.getElem_cons_zero, List.setIfInBounds_toArray, List.set_cons_zero, List.set_cons_succ]
  refine wpAnyH_done (by kernel_rfl) ?_ _
  refine NoPanic.normal ?_
  go_wp2_with fail
  have hf1 := owns_blk_ne (by decide) hos.b hres
  have hf2 := owns_blk_ne (by decide) hos.v hres
  exact ret_ms Try.results49 rfl h9 rfl ⟨⟨p1, n, c1, q1, m, d1⟩, rfl, rfl, rfl, hos.turned ht9 hf1 hf2, hHeld.bel⟩
theorem upB_old0 {B : List Bool} {k : Nat} {b : List Bool} : eB (upB B 0 k b) k = eB B k := by
  by_cases h : k < B.length
  · rw [eB_at (by rw [upB_length]; exact h), upB_get h, eB_at h]
    simp
  · rw [eB, eB, List.getD_eq_getElem?_getD, List.getD_eq_getElem?_getD, List.getElem?_eq_none (by rw [upB_length]; omega), List.getElem?_eq_none (by omega)]
theorem upB_next0 {B : List Bool} {k : Nat} {b : List Bool} : (upB B 0 k b).set k (eB B k || eB b k) = upB B 0 (k + 1) b := by
  apply List.ext_getElem (by rw [List.length_set, upB_length, upB_length])
  intro j h1 h2
  rw [upB_length] at h2
  rw [upB_get h2, List.getElem_set, upB_get h2]
  by_cases e : k = j
  · subst e
    rw [if_pos rfl, eB_at h2]
    simp
  · rw [if_neg e]
    by_cases h4 : j < k
    · have : j < k + 1 := by omega
      simp [h4, this]
    · have : ¬ j < k + 1 := by omega
      simp [h4, this]
theorem upW_old0 {W : List Int} {k : Nat} {v : List Int} : eI (upW W 0 k v) k = eI W k := by
  have := upW_old (W := W) (f := 0) (k := k) (v := v)
  rwa [Nat.zero_add] at this
theorem upW_next0 {W : List Int} {k : Nat} {v : List Int} : (upW W 0 k v).set k (max (eI W k) (eI v k)) = upW W 0 (k + 1) v := by
  have := upW_next (W := W) (f := 0) (k := k) (v := v)
  rwa [Nat.zero_add] at this
set_option linter.unusedSimpArgs false in
set_option maxRecDepth 100000 in
set_option maxHeartbeats 4000000 in
theorem rjoin_ok (p : Option Addr) (n c : Nat) (q : Option Addr) (d : Nat) (p' : Option Addr) (c' : Nat) (q' : Option Addr) (d' : Nat) (a b : MS) (w : World) (ha : InS w ⟨p, n, c, q, n, d⟩ a) (hb : InS w ⟨p', n, c', q', n, d'⟩ b) (hoa : okMS a = true) (hob : okMS b = true) :
    Calls Try.prog 12 #[SV.val ⟨p, n, c, q, n, d⟩ a, SV.val ⟨p', n, c', q', n, d'⟩ b] w (ResS w (joinR a b)) := by
      have h0 := B3.start w ⟨p, n, c, q, n, d⟩ ⟨p', n, c', q', n, d'⟩ a b
      have hca := rcheck_any _ a _ (ha.below h0.bel)
      have hcb := fun W' h' => rcheck_any _ b W' (hb.below h')
      rw [chkE_ok hoa] at hca
      rw [chkE_ok hob] at hcb
      have HLa : Hid (a.bad.length = n) := ha.b.len
      have HLb : Hid (b.bad.length = n) := hb.b.len
      have HWa : Hid (a.wear.length = n) := ha.v.len
      have HWb : Hid (b.wear.length = n) := hb.v.len
      obtain ⟨⟨ka1, ka2⟩, -⟩ := okMS_iff.1 hoa
      rw [HLa.out] at ka1 ka2
      have E : Hid (joinR a b = (joinMS a b, 0)) := by
        show _ = _
        unfold joinR
        rw [joinE_iff.2 ⟨hoa, hob, by rw [HLa.out, HLb.out]⟩, if_pos rfl]
      clear hoa hob
      dsimp only [SV.val] at *
      go_enter Try.func12, Try.ntmps12
      go_wp2_with (first
        | (go_at_call 16; refine hca.mono ?_; rintro e w1 ⟨rfl, hb1⟩; have h1 := h0.next hb1; obtain ⟨x0, x1, x2⟩ := h1.ba.cells3; obtain ⟨y0, y1, y2⟩ := h1.bb.cells3; clear hca hb1 h0)
        | (go_at_call 16; refine (hcb _ h1.bel).mono ?_; rintro e w1' ⟨rfl, hb1'⟩; have h2 := h1.next hb1'; obtain ⟨x0, x1, x2⟩ := h2.ba.cells3; obtain ⟨y0, y1, y2⟩ := h2.bb.cells3; clear hb1' h1)
        | (go_at_call 49; refine (rclone_any ⟨p, n, c, q, n, d⟩ a _ (ha.below h2.bel) (by dsimp only; omega) (by dsimp only; omega)).mono ?_; rintro e w2 ⟨V2, rfl, hv1, hv2, ho2, hb2⟩; obtain ⟨p2, n2, c2, q2, m2, d2⟩ := V2; dsimp only at hv1 hv2; have e1 := hv1.symm; have e2 := hv2.symm; clear hv1 hv2; subst e1; subst e2; clear x0 x1 x2 y0 y1 y2; have b3 : Blk (w2.alloc (.cells #[.slice p2 n c2, .slice q2 n d2, .int .i64 a.seq] 25)) w2.heap.size 25 (SV.cells ⟨p2, n, c2, q2, n, d2⟩ a) := Blk.new' w2 25 #[.slice p2 n c2, .slice q2 n d2, .int .i64 a.seq]; have hb3 := bt hb2 (below_alloc w2 (.cells #[.slice p2 n c2, .slice q2 n d2, .int .i64 a.seq] 25)); have o3 := ho2.next (below_alloc w2 (.cells #[.slice p2 n c2, .slice q2 n d2, .int .i64 a.seq] 25)); have bx : BoxS w1'.heap.size _ w2.heap.size ⟨p2, n, c2, q2, n, d2⟩ a := ⟨b3, o3, hb2.size⟩; clear o3 b3 ho2))
      go_loopw [7] (fun i wr => ∃ k : Nat, k ≤ n ∧ i = .int .i64 k ∧ BoxS w1'.heap.size wr w2.heap.size ⟨p2, n, c2, q2, n, d2⟩ ⟨upB a.bad 0 k b.bad, a.wear, a.seq⟩ ∧ Below w1'.heap.size w1' wr) (fun i _ => n - (intOf i).toNat)
      case atStart => exact ⟨0, Nat.zero_le _, rfl, by rw [upB_zero]; exact bx, hb3⟩
      case round =>
        obtain ⟨k, hk, rfl, hx, hbel⟩ := hrel
        clear bx hb3
        have hw := h2.next hbel
        obtain ⟨x0, x1, x2⟩ := hx.box.cells3
        obtain ⟨y0, y1, y2⟩ := hw.bb.cells3
        by_cases hlt : k < n
        · obtain ⟨gp, rfl, hgp, hgpl⟩ := owns_at hx.own.b (by dsimp only; omega)
          obtain ⟨gb, ob, rfl, hbl, hcb'⟩ := (hb.b.below hw.bel).at' (by dsimp only; omega)
          have hck := hcb' k hlt
          have hki : (k : Int) < (n : Int) := by omega
          clear hcb' hbl hgpl
          have c1 := hx.own.b.cellAt k (by dsimp only; omega)
          rw [valsB_get _ _ (by rw [upB_length]; have := HLa.out; omega), upB_old0] at c1
          have cf := hx.own.b.frozenAt k
          have key : ∀ z : Bool, z = (eB a.bad k || eB b.bad k) → BoxS w1'.heap.size (wr.setCell ⟨gp, k, none⟩ (.bool z)) w2.heap.size ⟨some ⟨gp, 0, none⟩, n, c2, q2, n, d2⟩ ⟨upB a.bad 0 (k + 1) b.bad, a.wear, a.seq⟩ ∧ Below w1'.heap.size w1' (wr.setCell ⟨gp, k, none⟩ (.bool z)) := fun z hz => by
            have hs := (hx.own.b.stored k (.bool z)).1
            rw [show (valsB (upB a.bad 0 k b.bad)).set k (.bool z) = valsB (upB a.bad 0 (k + 1) b.bad) by rw [← upB_next0 (B := a.bad) (b := b.bad) (k := k), hz]; simp [valsB, List.map_set]] at hs
            exact ⟨hx.setBad rfl (Turned.setCell _ _ _) hs, (Turned.setCell _ _ _).below hbel hgp⟩
          cases hq1 : eB a.bad k with
          | true =>
            rw [hq1] at c1
            have kk := key true (by rw [hq1]; rfl)
            clear key hq1
            go_wp2
            go_region
            all_goals (try go_wp2)
            all_goals
              go_roundw
              case rel => exact ⟨k + 1, by omega, by go_num, kk.1.drew, kk.2.drew⟩
              case measure => simp [intOf]; omega
          | false =>
            rw [hq1] at c1
            have kk := key (eB b.bad k) (by rw [hq1]; rfl)
            clear key hq1
            go_wp2
            go_region
            all_goals (try go_wp2)
            all_goals
              go_roundw
              case rel => exact ⟨k + 1, by omega, by go_num, kk.1.drew, kk.2.drew⟩
              case measure => simp [intOf]; omega
        · have hkn : k = n := by omega
          subst hkn
          go_wp2
          go_loopw [8] (fun i wr => ∃ j : Nat, j ≤ k ∧ i = .int .i64 j ∧ BoxS w1'.heap.size wr w2.heap.size ⟨p2, k, c2, q2, k, d2⟩ ⟨upB a.bad 0 k b.bad, upW a.wear 0 j b.wear, a.seq⟩ ∧ Below w1'.heap.size w1' wr) (fun i _ => k - (intOf i).toNat)
          case atStart => exact ⟨0, Nat.zero_le _, rfl, by rw [upW_zero]; exact hx, hbel⟩
          case round =>
            obtain ⟨j, hj, rfl, hx', hbel'⟩ := hrel
            have HX' := hx'
            clear hx x0 x1 x2 y0 y1 y2
            have hw' := h2.next hbel'
            obtain ⟨x0, x1, x2⟩ := hx'.box.cells3
            obtain ⟨y0, y1, y2⟩ := hw'.bb.cells3
            by_cases hlt : j < k
            · obtain ⟨gp, rfl, hgp, hgpl⟩ := owns_at hx'.own.v (by dsimp only; omega)
              obtain ⟨gb, ob, rfl, hbl, hcb'⟩ := (hb.v.below hw'.bel).at' (by dsimp only; omega)
              have hck := hcb' j hlt
              have hki : (j : Int) < (k : Int) := by omega
              clear hcb' hbl hgpl
              have c1 := hx'.own.v.cellAt j (by dsimp only; omega)
              rw [valsI_get _ _ (by rw [upW_length]; have := HWa.out; omega), upW_old0] at c1
              have cf := hx'.own.v.frozenAt j
              have key : ∀ z : Int, z = max (eI a.wear j) (eI b.wear j) → BoxS w1'.heap.size (wr.setCell ⟨gp, j, none⟩ (.int .i64 z)) w2.heap.size ⟨p2, k, c2, some ⟨gp, 0, none⟩, k, d2⟩ ⟨upB a.bad 0 k b.bad, upW a.wear 0 (j + 1) b.wear, a.seq⟩ ∧ Below w1'.heap.size w1' (wr.setCell ⟨gp, j, none⟩ (.int .i64 z)) := fun z hz => by
                have hs := (hx'.own.v.stored j (.int .i64 z)).1
                rw [show (valsI (upW a.wear 0 j b.wear)).set j (.int .i64 z) = valsI (upW a.wear 0 (j + 1) b.wear) by rw [← upW_next0 (W := a.wear) (v := b.wear) (k := j), hz, valsI_set]] at hs
                exact ⟨hx'.setWear rfl (Turned.setCell _ _ _) hs, (Turned.setCell _ _ _).below hbel' hgp⟩
              by_cases hgt : eI b.wear j > eI a.wear j
              · have kk := key (eI b.wear j) (Int.max_eq_right (by omega)).symm
                clear key
                go_wp2
                go_region
                all_goals (try go_wp2)
                all_goals
                  go_roundw
                  case rel => exact ⟨j + 1, by omega, by go_num, kk.1.drew, kk.2.drew⟩
                  case measure => simp [intOf]; omega
              · have kk := key (eI a.wear j) (Int.max_eq_left (by omega)).symm
                clear key
                go_wp2
                go_region
                all_goals (try go_wp2)
                all_goals
                  go_roundw
                  case rel => exact ⟨j + 1, by omega, by go_num, kk.1.drew, kk.2.drew⟩
                  case measure => simp [intOf]; omega
            · have hjk : j = k := by omega
              subst hjk
              have EJ : ∀ z : Int, z = max a.seq b.seq → (⟨upB a.bad 0 j b.bad, upW a.wear 0 j b.wear, z⟩ : MS) = joinMS a b := fun z hz => by
                unfold joinMS
                rw [HLb.out, hz]
              have hfz := hx'.box.frozen 2
              have key : ∀ z : Int, z = max a.seq b.seq → BoxS w1'.heap.size (wr.setCell ⟨w2.heap.size, 2, none⟩ (.int .i64 z)) w2.heap.size ⟨p2, j, c2, q2, j, d2⟩ (joinMS a b) ∧ Below w1'.heap.size w1' (wr.setCell ⟨w2.heap.size, 2, none⟩ (.int .i64 z)) := fun z hz => by
                have := hx'.setSeq (Turned.setCell wr ⟨w2.heap.size, 2, none⟩ (.int .i64 z)) z (hx'.box.set 2 (.int .i64 z))
                dsimp only at this
                rw [EJ z hz] at this
                exact ⟨this, (Turned.setCell _ _ _).below hbel' hx'.hg⟩
              by_cases hgt : b.seq > a.seq
              · obtain ⟨k1, k2⟩ := key b.seq (Int.max_eq_right (by omega)).symm
                have HM : Hid ((joinMS a b).seq = b.seq) := Int.max_eq_right (by omega)
                have h5 := h2.next k2
                obtain ⟨z0, z1, z2⟩ := k1.box.cells3
                rw [HM.out] at z2
                clear key EJ HX'
                go_wp2_with (guard_target = wpList _ _ _ (Oper.mk _ (Op.store 25 (Operand.tmp 4) _) _ _ _ _ :: _) _ _; refine wpList_store_blk rfl 25 (.tmp 4) (.tmp 79) rfl _ _ [.slice p2 j c2, .slice q2 j d2, .int .i64 b.seq] rfl rfl h5.res (by simp) (msSize ⟨p2, j, c2, q2, j, d2⟩ ⟨a.bad, a.wear, b.seq⟩) (msOne ⟨p2, j, c2, q2, j, d2⟩ ⟨a.bad, a.wear, b.seq⟩) ?_; intro w9 h9 ht9)
                have h9' : Blk w9 (w.heap.size + 2) 25 (SV.cells ⟨p2, j, c2, q2, j, d2⟩ (joinMS a b)) := by
                  show Blk w9 (w.heap.size + 2) 25 [.slice p2 j c2, .slice q2 j d2, .int .i64 (joinMS a b).seq]
                  rw [HM.out]; exact h9
                refine ret_msE Try.results12 rfl h9' rfl rfl ?_
                rw [E.out]
                exact ⟨_, rfl, (k1.own.turned ht9 (owns_blk_ne (by decide) k1.own.b h5.res) (owns_blk_ne (by decide) k1.own.v h5.res)).low h2.bel.size, ht9.below h5.bel (by omega)⟩
              · obtain ⟨k1, k2⟩ := key a.seq (Int.max_eq_left (by omega)).symm
                have HM : Hid ((joinMS a b).seq = a.seq) := Int.max_eq_left (by omega)
                have h5 := h2.next k2
                obtain ⟨z0, z1, z2⟩ := k1.box.cells3
                rw [HM.out] at z2
                clear key EJ HX'
                go_wp2_with (guard_target = wpList _ _ _ (Oper.mk _ (Op.store 25 (Operand.tmp 4) _) _ _ _ _ :: _) _ _; refine wpList_store_blk rfl 25 (.tmp 4) (.tmp 79) rfl _ _ [.slice p2 j c2, .slice q2 j d2, .int .i64 a.seq] rfl rfl h5.res (by simp) (msSize ⟨p2, j, c2, q2, j, d2⟩ ⟨a.bad, a.wear, a.seq⟩) (msOne ⟨p2, j, c2, q2, j, d2⟩ ⟨a.bad, a.wear, a.seq⟩) ?_; intro w9 h9 ht9)
                have h9' : Blk w9 (w.heap.size + 2) 25 (SV.cells ⟨p2, j, c2, q2, j, d2⟩ (joinMS a b)) := by
                  show Blk w9 (w.heap.size + 2) 25 [.slice p2 j c2, .slice q2 j d2, .int .i64 (joinMS a b).seq]
                  rw [HM.out]; exact h9
                refine ret_msE Try.results12 rfl h9' rfl rfl ?_
                rw [E.out]
                exact ⟨_, rfl, (k1.own.turned ht9 (owns_blk_ne (by decide) k1.own.b h5.res) (owns_blk_ne (by decide) k1.own.v h5.res)).low h2.bel.size, ht9.below h5.bel (by omega)⟩
set_option linter.unusedSimpArgs false in
set_option maxRecDepth 100000 in
set_option maxHeartbeats 4000000 in
theorem rjoin_any (V U : SV) (a b : MS) (w : World) (ha : InS w V a) (hb : InS w U b) :
    Calls Try.prog 12 #[V.val a, U.val b] w (ResS w (joinR a b)) := by
  have h0 := B3.start w V U a b
  have hca := rcheck_any V a _ (ha.below h0.bel)
  have hcb := fun W' h' => rcheck_any U b W' (hb.below h')
  cases hoa : okMS a with
  | false =>
    rw [chkE_no hoa] at hca
    have E : Hid (joinR a b = (MS.zero, 60)) := by
      show _ = _
      have e1 : joinE a b = 60 := by unfold joinE; rw [hoa]; rfl
      unfold joinR
      rw [e1, if_neg (by decide)]
    clear hoa
    go_enter Try.func12, Try.ntmps12
    go_wp2_with (first
      | (go_at_call 16; refine hca.mono ?_; rintro e w1 ⟨rfl, hb1⟩; have h1 := h0.next hb1; obtain ⟨x0, x1, x2⟩ := h1.ba.cells3; obtain ⟨y0, y1, y2⟩ := h1.bb.cells3; clear hca hb1 h0)
      | (guard_target = wpList _ _ _ (Oper.mk _ (Op.store 25 (Operand.tmp 4) _) _ _ _ _ :: _) _ _; refine wpList_store_blk rfl 25 (.tmp 4) (.tmp 17) rfl _ _ [.slice none 0 0, .slice none 0 0, .int .i64 0] rfl rfl h1.res (by simp) (msSize ⟨none, 0, 0, none, 0, 0⟩ MS.zero) (msOne ⟨none, 0, 0, none, 0, 0⟩ MS.zero) ?_; intro w9 h9 ht9; replace h9 : Blk w9 (w.heap.size + 2) 25 (SV.cells ⟨none, 0, 0, none, 0, 0⟩ MS.zero) := h9))
    refine ret_msE Try.results12 rfl h9 rfl rfl ?_
    rw [E.out]
    exact ⟨_, rfl, ownS_zero _ _, ht9.below h1.bel (by omega)⟩
  | true =>
    rw [chkE_ok hoa] at hca
    cases hob : okMS b with
    | false =>
      rw [chkE_no hob] at hcb
      have E : Hid (joinR a b = (MS.zero, 60)) := by
        show _ = _
        have e1 : joinE a b = 60 := by unfold joinE; rw [hoa, hob]; rfl
        unfold joinR
        rw [e1, if_neg (by decide)]
      clear hoa hob
      go_enter Try.func12, Try.ntmps12
      go_wp2_with (first
        | (go_at_call 16; refine hca.mono ?_; rintro e w1 ⟨rfl, hb1⟩; have h1 := h0.next hb1; obtain ⟨x0, x1, x2⟩ := h1.ba.cells3; obtain ⟨y0, y1, y2⟩ := h1.bb.cells3; clear hca hb1 h0)
        | (go_at_call 16; refine (hcb _ h1.bel).mono ?_; rintro e w1' ⟨rfl, hb1'⟩; have h2 := h1.next hb1'; obtain ⟨x0, x1, x2⟩ := h2.ba.cells3; obtain ⟨y0, y1, y2⟩ := h2.bb.cells3; clear hb1' h1)
        | (guard_target = wpList _ _ _ (Oper.mk _ (Op.store 25 (Operand.tmp 4) _) _ _ _ _ :: _) _ _; refine wpList_store_blk rfl 25 (.tmp 4) (.tmp 17) rfl _ _ [.slice none 0 0, .slice none 0 0, .int .i64 0] rfl rfl h2.res (by simp) (msSize ⟨none, 0, 0, none, 0, 0⟩ MS.zero) (msOne ⟨none, 0, 0, none, 0, 0⟩ MS.zero) ?_; intro w9 h9 ht9; replace h9 : Blk w9 (w.heap.size + 2) 25 (SV.cells ⟨none, 0, 0, none, 0, 0⟩ MS.zero) := h9))
      refine ret_msE Try.results12 rfl h9 rfl rfl ?_
      rw [E.out]
      exact ⟨_, rfl, ownS_zero _ _, ht9.below h2.bel (by omega)⟩
    | true =>
      rw [chkE_ok hob] at hcb
      have HLa : Hid (a.bad.length = V.n) := ha.b.len
      have HLb : Hid (b.bad.length = U.n) := hb.b.len
      have HWa : Hid (a.wear.length = V.m) := ha.v.len
      have HWb : Hid (b.wear.length = U.m) := hb.v.len
      have HOA : Hid (okMS a = true) := hoa
      have HOB : Hid (okMS b = true) := hob
      obtain ⟨⟨ka1, ka2⟩, ka3, -⟩ := okMS_iff.1 hoa
      obtain ⟨⟨kb1, kb2⟩, kb3, -⟩ := okMS_iff.1 hob
      rw [HLa.out] at ka1 ka2 ka3
      rw [HWa.out] at ka3
      rw [HLb.out] at kb1 kb2 kb3
      rw [HWb.out] at kb3
      clear hoa hob
      obtain ⟨p, n0, c, q, n, d⟩ := V
      obtain ⟨p', n0', c', q', n', d'⟩ := U
      dsimp only at ka1 ka2 ka3 kb1 kb2 kb3
      subst ka3
      subst kb3
      dsimp only [SV.val] at *
      by_cases hnn : n = n'
      · subst hnn
        exact rjoin_ok p n c q d p' c' q' d' a b w ha hb HOA.out HOB.out
      · have hne : ((n : Int) != (n' : Int)) = true := by rw [bne_iff_ne]; omega
        have E : Hid (joinR a b = (MS.zero, 1)) := by
          show _ = _
          have e1 : joinE a b = 1 := by
            unfold joinE
            rw [HOA.out, HOB.out, HLa.out, HLb.out]
            simp [hnn]
          unfold joinR
          rw [e1, if_neg (by decide)]
        clear hnn
        go_enter Try.func12, Try.ntmps12
        go_wp2_with (first
          | (go_at_call 16; refine hca.mono ?_; rintro e w1 ⟨rfl, hb1⟩; have h1 := h0.next hb1; obtain ⟨x0, x1, x2⟩ := h1.ba.cells3; obtain ⟨y0, y1, y2⟩ := h1.bb.cells3; clear hca hb1 h0)
          | (go_at_call 16; refine (hcb _ h1.bel).mono ?_; rintro e w1' ⟨rfl, hb1'⟩; have h2 := h1.next hb1'; obtain ⟨x0, x1, x2⟩ := h2.ba.cells3; obtain ⟨y0, y1, y2⟩ := h2.bb.cells3; clear hb1' h1)
          | (guard_target = wpList _ _ _ (Oper.mk _ (Op.store 25 (Operand.tmp 4) _) _ _ _ _ :: _) _ _; refine wpList_store_blk rfl 25 (.tmp 4) (.tmp 25) rfl _ _ [.slice none 0 0, .slice none 0 0, .int .i64 0] rfl rfl h2.res (by simp) (msSize ⟨none, 0, 0, none, 0, 0⟩ MS.zero) (msOne ⟨none, 0, 0, none, 0, 0⟩ MS.zero) ?_; intro w9 h9 ht9; replace h9 : Blk w9 (w.heap.size + 2) 25 (SV.cells ⟨none, 0, 0, none, 0, 0⟩ MS.zero) := h9))
        refine ret_msE Try.results12 rfl h9 rfl rfl ?_
        rw [E.out]
        exact ⟨_, rfl, ownS_zero _ _, ht9.below h2.bel (by omega)⟩
theorem rcovers_any (V U : SV) (a b : MS) (w : World) (ha : InS w V a) (hb : InS w U b) :
    Calls Try.prog 18 #[V.val a, U.val b] w fun e w' => e = .returned (.bool (coversB a b)) ∧ Below w.heap.size w w' := by
  have h0 := B2.start w V U a b
  have hj := rjoin_any V U a b _ (ha.below h0.bel) (hb.below h0.bel)
  by_cases hz : joinE a b = 0
  · have e0 : joinR a b = (joinMS a b, 0) := by unfold joinR; rw [hz]; rfl
    rw [e0] at hj
    have E : Hid (coversB a b = sameS a (joinMS a b)) := by show _ = _; unfold coversB; rw [hz, sameS_comm]; rfl
    clear hz e0
    go_enter Try.func18, Try.ntmps18
    go_wp2_with (first
      | (go_at_call 12; refine hj.mono ?_; rintro e w1 ⟨V1, rfl, ho1, hb1⟩; have h1 := (h0.next hb1).next (below_alloc w1 (.cells #[.slice V1.p V1.n V1.c, .slice V1.q V1.m V1.d, .int .i64 (joinMS a b).seq] 25)); have z1 : Blk (w1.alloc (.cells #[.slice V1.p V1.n V1.c, .slice V1.q V1.m V1.d, .int .i64 (joinMS a b).seq] 25)) _ _ (SV.cells V1 (joinMS a b)) := Blk.new' w1 25 #[.slice V1.p V1.n V1.c, .slice V1.q V1.m V1.d, .int .i64 (joinMS a b).seq]; obtain ⟨u0, u1, u2⟩ := z1.cells3; obtain ⟨x0, x1, x2⟩ := h1.ba.cells3; have ho2 := ho1.inS.below (below_alloc w1 (.cells #[.slice V1.p V1.n V1.c, .slice V1.q V1.m V1.d, .int .i64 (joinMS a b).seq] 25)); clear hj; dsimp only)
      | (go_at_call 14; refine (rsame_any V V1 a (joinMS a b) _ (ha.below h1.bel) ho2).mono ?_; rintro e w2 ⟨rfl, hb2⟩))
    go_ret
    exact ⟨ret_bool E.out.symm, bt h1.bel hb2⟩
  · have e0 : joinR a b = (MS.zero, joinE a b) := by unfold joinR; rw [if_neg hz]
    rw [e0] at hj
    have E : Hid (coversB a b = false) := by show _ = _; unfold coversB; rw [decide_eq_false hz]; rfl
    have hz1 : (joinE a b == 0) = false := by simpa using hz
    clear hz e0
    go_enter Try.func18, Try.ntmps18
    go_wp2_with (go_at_call 12; refine hj.mono ?_; rintro e w1 ⟨V1, rfl, ho1, hb1⟩; have h1 := (h0.next hb1).next (below_alloc w1 (.cells #[.slice V1.p V1.n V1.c, .slice V1.q V1.m V1.d, .int .i64 MS.zero.seq] 25)); clear hj; dsimp only)
    go_ret
    exact ⟨ret_bool E.out.symm, h1.bel⟩
end Go.Proofs.Ytpikaagdiafieaa
