/-
  What a chip's Pages goes through.
-/
import Derived.Test.YthafcnilhloldaaNLook
namespace Go.Proofs.Ythafcnilhloldaa
open Go.RowKit Go.Shelf
/-- The pages of a block, as they stand: the kept ones, then erased ones. -/
def allP (np : Nat) (k : BlkS) : List (List Nat) := (List.range np).map fun i => k.pages.getD i blankP
theorem allP_length (np : Nat) (k : BlkS) : (allP np k).length = np := by simp [allP]
/-- What Pages goes through. -/
def pagesOf (s : St) (b : Int) : List (List Nat) := match blkAt s b with | some k => allP s.np k | none => []
/-- The first j of the pages, then zeros. -/
def fillTo (np : Nat) (k : BlkS) (j : Nat) : List Nat := ((allP np k).take j).flatten ++ List.replicate ((np - j) * 288) 0
theorem getD_isP {w : World} {v : Value} {ps : List (List Nat)} (h : PagesIn w v ps) (i : Nat) : IsP (ps.getD i blankP) := by
  rw [List.getD_eq_getElem?_getD]
  rcases Nat.lt_or_ge i ps.length with hlt | hge
  · rw [List.getElem?_eq_getElem hlt]; exact h.each _ (List.getElem_mem hlt)
  · rw [List.getElem?_eq_none hge]; exact isP_fill 255 (by omega)
theorem allP_isP {w : World} {v : Value} {k : BlkS} (h : PagesIn w v k.pages) (np : Nat) : ∀ p ∈ allP np k, IsP p := by
  intro p hp
  obtain ⟨i, _, rfl⟩ := List.mem_map.1 hp
  exact getD_isP h i
theorem fillTo_zero (np : Nat) (k : BlkS) : fillTo np k 0 = List.replicate (np * 288) 0 := by simp [fillTo]
theorem fillTo_all (np : Nat) (k : BlkS) : fillTo np k np = (allP np k).flatten := by
  unfold fillTo
  rw [List.take_of_length_le (by rw [allP_length]; exact Nat.le_refl _), Nat.sub_self, Nat.zero_mul, List.replicate_zero, List.append_nil]
theorem take_flat_length {np : Nat} {k : BlkS} (h : ∀ p ∈ allP np k, IsP p) {j : Nat} (hj : j ≤ np) : (((allP np k).take j).flatten).length = j * 288 := by
  rw [flat_length (fun p hp => h p (List.mem_of_mem_take hp)), List.length_take, allP_length, Nat.min_eq_left hj]
theorem fillTo_length {np : Nat} {k : BlkS} (h : ∀ p ∈ allP np k, IsP p) {j : Nat} (hj : j ≤ np) : (fillTo np k j).length = np * 288 := by
  unfold fillTo
  rw [List.length_append, take_flat_length h hj, List.length_replicate, ← Nat.add_mul]
  congr 1
  omega
theorem fillTo_step {np : Nat} {k : BlkS} (h : ∀ p ∈ allP np k, IsP p) {j : Nat} (hj : j < np) :
    (fillTo np k j).take (j * 288) ++ k.pages.getD j blankP ++ (fillTo np k j).drop (j * 288 + 288) = fillTo np k (j + 1) := by
  have hl := take_flat_length h (Nat.le_of_lt hj)
  have hg : (allP np k)[j]'(by rw [allP_length]; exact hj) = k.pages.getD j blankP := by simp [allP]
  have hp : (k.pages.getD j blankP).length = 288 := by rw [← hg]; exact (h _ (List.getElem_mem _)).1
  have e1 : (fillTo np k j).take (j * 288) = ((allP np k).take j).flatten := by
    unfold fillTo
    rw [List.take_append_of_le_length (by omega), List.take_of_length_le (by omega)]
  have e2 : (fillTo np k j).drop (j * 288 + 288) = List.replicate ((np - (j + 1)) * 288) 0 := by
    unfold fillTo
    rw [List.drop_append, List.drop_of_length_le (by omega), List.nil_append, hl, show j * 288 + 288 - j * 288 = 288 from by omega, List.drop_replicate, show (np - j) * 288 - 288 = (np - (j + 1)) * 288 from by omega]
  rw [e1, e2]
  unfold fillTo
  rw [List.take_succ_eq_append_getElem (by rw [allP_length]; exact hj), List.flatten_append, hg]
  simp
/-- A block that holds pages, as a slice of them. -/
theorem pages_blk {W : World} {g : Nat} {ps : List (List Nat)} (h : Blk W g 46 (vals ps.flatten)) (hP : ∀ p ∈ ps, IsP p) (hl : ps.length ≤ 1000) : PagesIn W (.slice (some ⟨g, 0, none⟩) ps.length ps.length) ps := by
  refine ⟨⟨by rw [vals_length, flat_length hP], .inr ⟨g, ps.length, (vals ps.flatten).toArray, rfl, Nat.zero_le _, h, Nat.le_refl _, by unfold maxLen; omega, by rw [List.size_toArray, vals_length, flat_length hP], ?_⟩⟩, hP⟩
  rw [List.take_of_length_le (by simp [vals_length, flat_length hP])]
/-- 'make([]api.Page, n)'. -/
theorem wpList_makePages (w : World) {ops : Array Oper} {rest : List Oper} {o : Oper} {a : Act} {Q : Exit → Act → World → Prop} (hg : o.guard = none) (l c : Operand) (hop : o.op = Op.makeSlice 58 l c)
    (L C : Int) (m : Nat) (hl : a.eval l = .int .i64 L) (hc : a.eval c = .int .i64 C) (hL : L = (m : Int)) (hC : C = (m : Int)) (b : m ≤ 1000000)
    (hK : ∀ w', Blk w' w.heap.size 46 (vals (List.replicate (m * 288) 0)) → Below w.heap.size w w' → wpList Try.prog ops Q rest (a.put o.dst (.slice (some ⟨w.heap.size, 0, none⟩) m m)) w') :
    wpList Try.prog ops Q (o :: rest) a w := by
  obtain ⟨i0, hi, hz0, hz1, hz2⟩ := info_parts infoPage
  refine wpList_make_full w hg l c 58 hop 0 46 i0 _ 288 Try.underlying58 hi hz0 hz1 .i64 .i64 L C m hl hc hL hC (by rw [hz2]; omega) (by unfold maxLen; omega) (Nat.zero_le _) fun w' r1 r2 => hK w' ?_ (below_grown0 r2)
  rw [made_zero] at r1
  rcases r1.2 with ⟨h', _⟩ | ⟨g, cap, cur, h', _, hh, _, _, hs, ht⟩
  · simp at h'
  · simp only [Value.slice.injEq, Option.some.injEq, Addr.mk.injEq, and_true, true_and] at h'
    obtain ⟨rfl, rfl⟩ := h'
    rw [List.take_of_length_le (by simp [hs])] at ht
    rw [Blk, hh, ← ht]
set_option maxRecDepth 100000 in
set_option maxHeartbeats 2000000 in
theorem pages_any (c : Nat) (s : St) (bb : Nat) (PV : Nat → Value) (b : Int) (w : World) (h : ChipIn w c s bb PV) :
    Calls Try.prog 23 #[.pointer (some ⟨c, 0, none⟩), .int .i64 b] w fun e w' => ∃ Bs v, e = .returned (.func (.func 56) #[] #[.pointer (some ⟨Bs, 0, none⟩)]) ∧ w.heap.size ≤ Bs ∧ w'.cell? ⟨Bs, 0, none⟩ = some v ∧ PagesIn w' v (pagesOf s b) ∧ (∀ k, v.ownBlock = some k → w.heap.size ≤ k) ∧ Below w.heap.size w w' := by
  have hz := zeroPage
  obtain ⟨ep, el, ec, hc, he⟩ := h.chip
  have hm := made_any c _ s.nb s.cr w (hc.cell' (i := 2) rfl)
  rw [show decide (0 < s.nb) = true from by have := h.nbl; simp; omega] at hm
  have hh := has_any c _ s.nb s.cr b w (hc.cell' (i := 2) rfl)
  unfold pagesOf
  cases hx : blkAt s b with
  | none =>
    rw [show decide (0 ≤ b ∧ b < (s.nb : Int)) = false from by simpa using blkAt_out h.bll hx] at hh
    clear hx
    go_enter Try.func23, Try.ntmps23
    go_wp2_with (first
      | (go_at_call 33; refine hm.mono ?_; rintro e W0 ⟨rfl, hW0⟩; have hW1 := hW0.symm; subst hW1)
      | (go_at_call 47; refine hh.mono ?_; rintro e W0 ⟨rfl, hW0⟩; have hW1 := hW0.symm; subst hW1)
      | (go_at_call 42; refine (all_any none 0 0 _).mono ?_; rintro e w2 ⟨rfl, rfl⟩))
    go_ret
    exact ⟨_, _, rfl, Nat.le_refl _, (Boxed.new _ _ _).cell, PagesIn.nil _, (fun k hk => by cases hk), below_alloc _ _⟩
  | some k =>
    obtain ⟨bk, rfl, hbk, hk⟩ := blkAt_in h.bll hx
    rw [show decide (0 ≤ (bk : Int) ∧ (bk : Int) < (s.nb : Int)) = true from by simp; omega] at hh
    obtain ⟨BC, hB, hl, hcell⟩ := h.blks
    obtain ⟨h0, _⟩ := hcell bk _ hk
    have hpg := h.pg bk _ hk
    have hnp := h.npl
    have hAP := allP_isP hpg s.np
    dsimp only
    generalize s.np = np at *
    generalize hnb : s.nb = nb at *
    have c1 := hc.cell' (i := 1) rfl
    clear hx hcell hk hnb
    go_enter Try.func23, Try.ntmps23
    go_wp2_with (first
      | (go_at_call 33; refine hm.mono ?_; rintro e W0 ⟨rfl, hW0⟩; have hW1 := hW0.symm; subst hW1)
      | (go_at_call 47; refine hh.mono ?_; rintro e W0 ⟨rfl, hW0⟩; have hW1 := hW0.symm; subst hW1)
      | (at_make; refine wpList_makePages _ rfl (.tmp 21) (.tmp 21) rfl _ _ np rfl rfl rfl rfl (by omega) ?_; intro w1 hg1 hb1))
    rw [← fillTo_zero np k] at hg1
    go_loopw [25] (fun i wr => ∃ j : Nat, j ≤ np ∧ i = .int .i64 j ∧ Blk wr w.heap.size 46 (vals (fillTo np k j)) ∧ Below w.heap.size w wr) (fun i _ => np - (intOf i).toNat)
    case atStart => exact ⟨0, by omega, rfl, hg1, hb1⟩
    case round =>
      obtain ⟨j, hj, rfl, hg, hbl⟩ := hrel
      by_cases hlt : j < np
      · have hc2 := (hc.kept hbl).cell' (i := 2) rfl
        have hB2 := (hB.kept hbl).cell' h0
        have hpage := blkPage_any bb (bk * 4) j (PV bk) k.pages wr hB2 (hpg.below hbl)
        have hst := fillTo_step hAP hlt
        have hlen := fillTo_length hAP hj
        have hIP := getD_isP hpg j
        generalize k.pages.getD j blankP = x at *
        have HL : Hid (x.length = 288) := hIP.1
        have HS : Hid ((fillTo np k j).take (j * 288) ++ x ++ (fillTo np k j).drop (j * 288 + 288) = fillTo np k (j + 1)) := hst
        have HN : Hid ((fillTo np k j).length = np * 288) := hlen
        clear hst hlen hIP hB2
        go_wp2_with (first
          | (go_at_call 48; refine hpage.mono ?_; rintro e w2 ⟨rfl, hb2⟩)
          | (refine wpList_store_blk rfl 46 (.tmp 38) (.tmp 37) rfl w.heap.size (j * 288) (vals x) rfl rfl (hg.kept hb2) (by rw [vals_length, vals_length, HL.out, HN.out]; omega) (sizeP HL.out) (vals_one _) ?_; intro w3 h3 ht3))
        have h4 : Blk w3 w.heap.size 46 (vals (fillTo np k (j + 1))) := by
          rw [← HS.out, vals_append, vals_append, vals_take, vals_drop]
          rw [vals_length, HL.out] at h3
          exact h3
        have hb3 := ht3.below (bt hbl hb2) (Nat.le_refl _)
        go_roundw
        case rel => exact ⟨j + 1, by omega, by go_num, h4, hb3⟩
        case measure => simp [intOf]; omega
      · have hjn : j = np := by omega
        subst hjn
        rw [fillTo_all] at hg
        have hpp := pages_blk hg hAP (by rw [allP_length]; omega)
        rw [allP_length] at hpp
        go_wp2_with (go_at_call 42; refine (all_any (some ⟨w.heap.size, 0, none⟩) j j _).mono ?_; rintro e w2 ⟨rfl, rfl⟩)
        go_ret
        exact ⟨_, _, rfl, hbl.size, (Boxed.new _ _ _).cell, hpp.below (below_alloc _ _), (fun k hk => by cases hk; exact Nat.le_refl _), bt hbl (below_alloc _ _)⟩
end Go.Proofs.Ythafcnilhloldaa
