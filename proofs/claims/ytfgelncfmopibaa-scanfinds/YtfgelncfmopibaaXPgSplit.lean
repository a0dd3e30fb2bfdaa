/-
  What split answers: the page whose bytes these are.
-/
import Derived.Test.YtfgelncfmopibaaXPgJoin
import Derived.Test.YtfgelncfmopibaaXState
namespace Go.Proofs.Ytfgelncfmopibaa.Pg
open Go.RowKit Go.Shelf
attribute [local go_sem] Oper.semAt_some
/-- The first bytes of ys laid over cur, from place o on, no more than L. -/
def layAt (cur ys : List Nat) (o L : Nat) : List Nat := cur.take o ++ ys.take (min L ys.length) ++ cur.drop (o + min L ys.length)
theorem layAt_length (cur ys : List Nat) (o L : Nat) (h : o + L ≤ cur.length) : (layAt cur ys o L).length = cur.length := by
  unfold layAt; simp only [List.length_append, List.length_take, List.length_drop]; omega
theorem layAt_byte {cur ys : List Nat} (hc : ∀ x ∈ cur, x < 256) (hy : ∀ x ∈ ys, x < 256) (o L : Nat) : ∀ x ∈ layAt cur ys o L, x < 256 := by
  intro x hx
  simp only [layAt, List.mem_append] at hx
  rcases hx with (h | h) | h
  · exact hc x (List.mem_of_mem_take h)
  · exact hy x (List.mem_of_mem_take h)
  · exact hc x (List.mem_of_mem_drop h)
/-- 'copy' into a part of a block that is known whole. -/
theorem copy_gen {w : World} {G : Nat} {t : TypeId} {cur ys : List Nat} {o L : Nat} {p : Option Addr} {n c : Nat} (h : Blk w G t (vals cur)) (hfit : o + L ≤ cur.length) (hy : In w p n c ys) :
    ∃ w', (Builtin.copy_ #[75, 75] 3 #[.slice (some ⟨G, o, none⟩) L L, .slice p n c]).run Try.prog w = .ok (.int .i64 ((min L n : Nat) : Int)) w' ∧ Blk w' G t (vals (layAt cur ys o L)) ∧ Turned w w' G := by
  have hl := hy.len
  rcases Nat.eq_zero_or_pos (min L n) with h0 | h0
  · refine ⟨w, ?_, ?_, ⟨rfl, rfl, rfl, rfl, fun _ _ => rfl⟩⟩
    · rw [h0]
      exact run_copy_none (P := Try.prog) w 75 75 3 5 _ p L L n c Try.underlying75 size5 (by have : Nat.min n L = min n L := rfl; omega)
    · have e : layAt cur ys o L = cur := by unfold layAt; rw [hl, h0]; simp
      rw [e]; exact h
  · obtain ⟨b, so, rfl, _, hc⟩ := hy.at' (by omega)
    have hlen : (vals (ys.take (min L n))).length = min L n := by rw [vals_length, List.length_take]; omega
    have hr := run_copy_row (P := Try.prog) w 75 75 3 5 G o L L ⟨b, so, none⟩ n c (vals cur).toArray t (vals (ys.take (min L n))) Try.underlying75 size5 h (by have : Nat.min n L = min n L := rfl; omega)
      (fun j v hj => by
        rw [vals_take] at hj
        have hjn : j < min L n := by
          rcases Nat.lt_or_ge j (min L n) with h' | h'
          · exact h'
          · rw [List.getElem?_eq_none (by rw [List.length_take]; omega)] at hj; simp at hj
        rw [List.getElem?_take_of_lt hjn] at hj
        exact hy.cells rfl j v hj)
      (by rw [hlen, List.size_toArray, vals_length]; omega) (vals_one _)
    rw [hlen] at hr
    refine ⟨_, hr, ?_, Turned.setRow _ _ _⟩
    have e : vals (layAt cur ys o L) = (vals cur).take o ++ vals (ys.take (min L n)) ++ (vals cur).drop (o + min L n) := by
      unfold layAt; rw [hl, vals_append, vals_append, vals_take, vals_drop]
    rw [e]
    exact h.setRow _
/-- A slice from place k on. -/
theorem slice_from {w : World} {b o n c : Nat} {ys : List Nat} (h : In w (some ⟨b, o, none⟩) n c ys) (k : Nat) (hk : k ≤ n) :
    ∃ q, (∀ W, (Instr.slice 75 (.slice (some ⟨b, o, none⟩) n c) (some (.int .i64 (k : Int))) none none).run Try.prog W = .ok (.slice (some ⟨b, q, none⟩) (n - k) (c - k)) W) ∧ In w (some ⟨b, q, none⟩) (n - k) (c - k) (ys.drop k) := by
  have hcap := h.cap
  by_cases hck : c = k
  · have hkn : k = n := by omega
    subst hkn
    refine ⟨o, fun W => ?_, ?_⟩
    · simp [Instr.slice, Instr.sliceBounds, Instr.sliceBound, run_underlying Try.underlying75, asIntOf, hck]
    · have hl := h.len
      have := h.max
      exact ⟨by rw [List.length_drop]; omega, by omega, by omega, by omega, fun x hx => h.byte x (List.mem_of_mem_drop hx), fun h0 => by omega, fun h => by simp at h⟩
  · refine ⟨o + k, fun W => ?_, h.back k hk⟩
    simp [Instr.slice, Instr.sliceBounds, Instr.sliceBound, run_underlying Try.underlying75, asIntOf, hck, addr_add]
    intro h3; omega
/-- What has become of the page and of the bytes when these parts have come. -/
def splS (s : List Nat × List Nat) : Bool → List Nat × List Nat
  | false => (layAt s.1 s.2 0 256, s.2.drop (min 256 s.2.length))
  | true => (layAt s.1 s.2 256 32, s.2.drop (min 32 s.2.length))
def spl (xs : List Nat) (pre : List Bool) : List Nat × List Nat := pre.foldl splS (fillP 0, xs)
theorem spl_snoc (xs : List Nat) (pre : List Bool) (b : Bool) : spl xs (pre ++ [b]) = splS (spl xs pre) b := by simp [spl]
theorem splS_length (s : List Nat × List Nat) (h : s.1.length = 288) (b : Bool) : (splS s b).1.length = 288 := by
  cases b <;> (simp only [splS]; rw [layAt_length _ _ _ _ (by omega)]; exact h)
theorem spl_length (xs : List Nat) (pre : List Bool) : (spl xs pre).1.length = 288 := by
  unfold spl
  have : ∀ (l : List Bool) (s : List Nat × List Nat), s.1.length = 288 → (l.foldl splS s).1.length = 288 := by
    intro l
    induction l with
    | nil => intro s h; exact h
    | cons b r ih => intro s h; exact ih _ (splS_length s h b)
  exact this pre _ (fillP_length 0)
theorem spl_all {xs : List Nat} (h : xs.length = 288) : (spl xs [false, true]).1 = xs := by
  have h1 : (xs.drop 256).length = 32 := by rw [List.length_drop, h]
  have e : spl xs [false, true] = splS (splS (fillP 0, xs) false) true := rfl
  rw [e]
  have hA : (xs.take 256).length = 256 := by rw [List.length_take, h]; rfl
  have hZ : (List.drop 256 (fillP 0)).length = 32 := by rw [List.length_drop, fillP_length]
  have e1 : splS (fillP 0, xs) false = (xs.take 256 ++ (fillP 0).drop 256, xs.drop 256) := by
    simp only [splS, layAt, h]
    simp
  rw [e1]
  simp only [splS, layAt, h1, show min 32 32 = 32 from rfl]
  rw [List.take_append_of_le_length (by omega), List.take_of_length_le (Nat.le_of_eq hA), List.take_of_length_le (Nat.le_of_eq h1), List.take_append_drop, List.drop_of_length_le (by rw [List.length_append, hA, hZ]; exact Nat.le_refl _), List.append_nil]
theorem keepsOthers_turned {W w2 : World} {G : Nat} {t : TypeId} {cs : List Value} (ht : Turned W w2 G) (hX : Blk W G t cs) : KeepsOthers W w2 :=
  ⟨Nat.le_of_eq ht.size.symm, fun k o hk ho => by
    by_cases e : k = G
    · subst e; rw [show W.heap[k]? = _ from hX] at hk; cases hk; cases ho
    · exact (ht.block k e).trans hk⟩
set_option maxRecDepth 100000 in
set_option maxHeartbeats 4000000 in
theorem split_in (n : Nat) (hn : 4 ≤ n) (p : Option Addr) (c : Nat) (xs : List Nat) (w : World) (hx : In w p 288 c xs) :
    CallsIn Fence.wide n Try.prog 91 #[.slice p 288 c] w fun e w' => e = .returned (.agg (vals xs).toArray) ∧ Below w.heap.size w w' := by
  have hz := zeroPage
  have h1 : 1 ≤ n := by omega
  have HX : Hid (xs.length = 288) := hx.len
  refine callsIn_of_wp_marks Try.func91 rfl trivial ?_ rfl
  simp only [Try.ntmps91, List.size_toArray, List.length_cons, List.length_nil, Nat.reduceAdd, Nat.reduceSub, Array.replicate_succ, Array.replicate_zero, List.push_toArray, List.append_toArray, List.nil_append, List.cons_append]
  gi_wp2_with (refine ⟨trivial, ?_⟩; gi_at_call 86; refine (callsIn_wide.2 (parts_any _ _)).mono ?_; rintro e w2 ⟨rfl, hw2⟩)
  clear hw2
  rename_i K a w9
  obtain ⟨b, o, rfl, hb, _⟩ := hx.at' (by omega)
  have b0 := (((Boxed.new w 75 (.slice (some ⟨b, o, none⟩) 288 c)).alloc (.cells (vals (fillP 0)).toArray 74)).alloc (.cells (vals (fillP 0)).toArray 74)).alloc (.cells #[.pointer (some ⟨w.heap.size + 1 + 1, 0, none⟩)] 141)
  have b1 := ((Blk.new (w.alloc (.cells #[.slice (some ⟨b, o, none⟩) 288 c] 75)) 74 (vals (fillP 0))).alloc (.cells (vals (fillP 0)).toArray 74)).alloc (.cells #[.pointer (some ⟨w.heap.size + 1 + 1, 0, none⟩)] 141)
  have b2 := (Blk.new ((w.alloc (.cells #[.slice (some ⟨b, o, none⟩) 288 c] 75)).alloc (.cells (vals (fillP 0)).toArray 74)) 74 (vals (fillP 0))).alloc (.cells #[.pointer (some ⟨w.heap.size + 1 + 1, 0, none⟩)] 141)
  have b3 := Boxed.new (((w.alloc (.cells #[.slice (some ⟨b, o, none⟩) 288 c] 75)).alloc (.cells (vals (fillP 0)).toArray 74)).alloc (.cells (vals (fillP 0)).toArray 74)) 141 (.pointer (some ⟨w.heap.size + 1 + 1, 0, none⟩))
  have hbel := (((below_alloc w (.cells #[.slice (some ⟨b, o, none⟩) 288 c] 75)).alloc (by simp) (.cells (vals (fillP 0)).toArray 74)).alloc (by simp; omega) (.cells (vals (fillP 0)).toArray 74)).alloc (by simp; omega) (.cells #[.pointer (some ⟨w.heap.size + 1 + 1, 0, none⟩)] 141)
  have hsz : ((((w.alloc (.cells #[.slice (some ⟨b, o, none⟩) 288 c] 75)).alloc (.cells (vals (fillP 0)).toArray 74)).alloc (.cells (vals (fillP 0)).toArray 74)).alloc (.cells #[.pointer (some ⟨w.heap.size + 1 + 1, 0, none⟩)] 141)).heap.size = w.heap.size + 4 := by simp
  simp only [World.size_alloc] at b1 b2 b3
  generalize ((((w.alloc (.cells #[.slice (some ⟨b, o, none⟩) 288 c] 75)).alloc (.cells (vals (fillP 0)).toArray 74)).alloc (.cells (vals (fillP 0)).toArray 74)).alloc (.cells #[.pointer (some ⟨w.heap.size + 1 + 1, 0, none⟩)] 141)) = W0 at *
  refine wpIn_rangeFunc_ownF rfl h1 (gf := 111) (lb := #[.pointer (some ⟨w.heap.size + 1 + 1 + 1, 0, none⟩)]) rfl trivial (enters_of Try.func111 (by kernel_rfl) rfl)
    (parts1_stops Fence.wide (n - 1) trivial rfl (by omega) (w.heap.size + 1 + 1 + 1) (w.heap.size + 1 + 1) W0 b3) (fun h k => k.trans h) (fun W l o o' hl _ _ _ => World.putObj_heap_other (by omega)) (Below.refl _ _) (fun _ => rfl)
    (fun pre W => (∃ q m d, Boxed W w.heap.size 75 (.slice (some ⟨b, q, none⟩) m d) ∧ In w (some ⟨b, q, none⟩) m d (spl xs pre).2) ∧ Blk W (w.heap.size + 1) 74 (vals (fillP 0)) ∧ Blk W (w.heap.size + 1 + 1) 74 (vals (spl xs pre).1) ∧ Boxed W (w.heap.size + 1 + 1 + 1) 141 (.pointer (some ⟨w.heap.size + 1 + 1, 0, none⟩)) ∧ Below w.heap.size w W)
    (fun _ _ _ => False)
    (OwnFrom.and (Own.from (fun s X Y row ⟨q, m, d, hq, hin⟩ hg hr => ⟨q, m, d, boxed_own w.heap.size 75 (fun _ : Unit => Value.slice (some ⟨b, q, none⟩) m d) () X Y row hq hg hr, hin⟩) _) (OwnFrom.and (Own.from (blk_own (w.heap.size + 1) 74 (fun _ : List Bool => vals (fillP 0))) _) (OwnFrom.and (Own.from (blk_own (w.heap.size + 1 + 1) 74 (fun pre : List Bool => vals (spl xs pre).1)) _) (OwnFrom.and (Own.from (boxed_own (w.heap.size + 1 + 1 + 1) 141 (fun _ : List Bool => Value.pointer (some ⟨w.heap.size + 1 + 1, 0, none⟩))) _) (ownFrom_below (Nat.le_refl _) (by omega))))))
    (fun _ _ _ _ _ hs _ _ => hs)
    ⟨⟨o, 288, c, b0, hx⟩, b1, b2, b3, hbel⟩
    (fun x => { tmps := #[.slice (some ⟨b, o, none⟩) 288 c, .pointer (some ⟨w.heap.size, 0, none⟩), .pointer (some ⟨w.heap.size + 1, 0, none⟩), .pointer (some ⟨w.heap.size + 1 + 1, 0, none⟩), encV (w.heap.size + 1 + 1) x, .func (.func 111) #[] #[.pointer (some ⟨w.heap.size + 1 + 1 + 1, 0, none⟩)], encV (w.heap.size + 1 + 1) x, undef, undef, undef, undef, undef, undef], defers := [] })
    ?assign ?body ?done ?stop
  case assign =>
    intro l x W K hK
    dsimp only [encQ]
    gi_wp2
    exact hK
  case body =>
    rintro l pre x W ⟨⟨q, m, d, hq, hin⟩, hR, hX, hS, hB⟩ hlen
    have hc0 := hq.cell
    have hf0 := hq.frozen
    have hcl := spl_length xs pre
    have hsn := spl_snoc xs pre x
    generalize spl xs pre = s at *
    obtain ⟨cur, ys⟩ := s
    simp only at hin hX hcl hsn
    have hyl : Hid (ys.length = m) := hin.len
    clear hlen
    cases x with
    | false =>
      dsimp only [encV]
      obtain ⟨w2, hcp, hX2, ht2⟩ := copy_gen (o := 0) (L := 256) (w := W.drew) hX.drew (by omega) (hin.below (hB.drew))
      obtain ⟨q', hsl, hin2⟩ := slice_from hin (min 256 m) (by omega)
      have hin3 : In w (some ⟨b, q', none⟩) (m - min 256 m) (d - min 256 m) (spl xs (pre ++ [false])).2 := by rw [hsn]; simp only [splS]; rw [hyl.out]; exact hin2
      have hX3 : Blk w2 (w.heap.size + 1 + 1) 74 (vals (spl xs (pre ++ [false])).1) := by rw [hsn]; exact hX2
      clear hsn hin2 hX2 hyl
      have hq2 : Boxed w2 w.heap.size 75 (.slice (some ⟨b, q, none⟩) m d) := (ht2.block _ (by omega)).trans hq
      have hc2 := hq2.cell
      have hf2 := hq2.frozen
      generalize min 256 m = M at *
      have k1 : KeepsOthers W (w2.setCell ⟨w.heap.size, 0, none⟩ (.slice (some ⟨b, q', none⟩) (m - M) (d - M))) := (KeepsOthers.drew W).trans ((keepsOthers_turned ht2 hX.drew).trans (KeepsOthers.setCell _ _ _))
      have k3 := hq2.set (.slice (some ⟨b, q', none⟩) (m - M) (d - M))
      have k4 := (hR.drew.turned ht2 (by omega)).setOther ⟨w.heap.size, 0, none⟩ (.slice (some ⟨b, q', none⟩) (m - M) (d - M)) (by simp)
      have k5 := hX3.setOther ⟨w.heap.size, 0, none⟩ (.slice (some ⟨b, q', none⟩) (m - M) (d - M)) (by simp; omega)
      have k6' : Boxed w2 (w.heap.size + 1 + 1 + 1) 141 (.pointer (some ⟨w.heap.size + 1 + 1, 0, none⟩)) := (ht2.block _ (by omega)).trans hS
      have k6 := k6'.other (B' := w.heap.size) (by omega) (.slice (some ⟨b, q', none⟩) (m - M) (d - M))
      have k7 : Below w.heap.size w (w2.setCell ⟨w.heap.size, 0, none⟩ (.slice (some ⟨b, q', none⟩) (m - M) (d - M))) := (ht2.below hB.drew (by omega)).setCell (Nat.le_refl _) _
      have k2 := k6.trans hS.symm
      have hB0 := hB.drew
      clear hX hR hS hB hX3 ht2 k6' hbel b0 b1 b2 b3 hq hq2 hin hx hz
      gi_wp2
      refine wpIn_region_any (by kernel_rfl) ?_
      change wpAnyIn _ _ _ _ _ _ _ _ _ (World.drew _)
      refine wpAnyIn_ready (rs := [0, 1, 2]) (by kernel_rfl) (by simp) ?_
      refine AllReadyIn.cons rfl (fun K hK => ?_) ?_
      · go_simp
        refine hK _ _ ?_
        clear hK K
        try simp only [Act.put, List.getElem_toArray, List.getElem_cons_succ, List.getElem_cons_zero, List.setIfInBounds_toArray, List.set_cons_zero, List.set_cons_succ]
        refine wpAnyIn_ready (rs := [1, 2]) (by kernel_rfl) (by simp) ?_
        refine AllReadyIn.cons rfl (fun K hK => ?_) ?_
        · go_simp
          refine hK _ _ ?_
          clear hK K
          try simp only [Act.put, List.getElem_toArray, List.getElem_cons_succ, List.getElem_cons_zero, List.setIfInBounds_toArray, List.set_cons_zero, List.set_cons_succ]
          refine wpAnyIn_ready (rs := [2]) (by kernel_rfl) (by simp) ?_
          refine AllReadyIn.cons rfl (fun K hK => ?_) AllReadyIn.nil
          go_simp
          refine hK _ _ ?_
          clear hK K
          try simp only [Act.put, List.getElem_toArray, List.getElem_cons_succ, List.getElem_cons_zero, List.setIfInBounds_toArray, List.set_cons_zero, List.set_cons_succ]
          refine wpAnyIn_ready (rs := [3]) (by kernel_rfl) (by simp) ?_
          refine AllReadyIn.cons rfl (fun K hK => ?_) AllReadyIn.nil
          go_simp
          refine hK _ _ ?_
          clear hK K
          try simp only [Act.put, List.getElem_toArray, List.getElem_cons_succ, List.getElem_cons_zero, List.setIfInBounds_toArray, List.set_cons_zero, List.set_cons_succ]
          refine wpAnyIn_ready (rs := [4]) (by kernel_rfl) (by simp) ?_
          refine AllReadyIn.cons rfl (fun K hK => ?_) AllReadyIn.nil
          go_simp
          refine hK _ _ ?_
          clear hK K
          try simp only [Act.put, List.getElem_toArray, List.getElem_cons_succ, List.getElem_cons_zero, List.setIfInBounds_toArray, List.set_cons_zero, List.set_cons_succ]
          refine wpAnyIn_ready (rs := [5]) (by kernel_rfl) (by simp) ?_
          refine AllReadyIn.cons rfl (fun K hK => ?_) AllReadyIn.nil
          go_simp
          refine hK _ _ ?_
          clear hK K
          try simp only [Act.put, List.getElem_toArray, List.getElem_cons_succ, List.getElem_cons_zero, List.setIfInBounds_toArray, List.set_cons_zero, List.set_cons_succ]
          refine wpAnyIn_done (by kernel_rfl) ?_ _
          gi_wp2
          exact ⟨k1, k2, ⟨_, _, _, k3, hin3⟩, k4, k5, k6, k7⟩
        refine AllReadyIn.cons rfl (fun K hK => ?_) AllReadyIn.nil
        go_simp
        refine hK _ _ ?_
        clear hK K
        try simp only [Act.put, List.getElem_toArray, List.getElem_cons_succ, List.getElem_cons_zero, List.setIfInBounds_toArray, List.set_cons_zero, List.set_cons_succ]
        refine wpAnyIn_ready (rs := [1]) (by kernel_rfl) (by simp) ?_
        refine AllReadyIn.cons rfl (fun K hK => ?_) AllReadyIn.nil
        go_simp
        refine hK _ _ ?_
        clear hK K
        try simp only [Act.put, List.getElem_toArray, List.getElem_cons_succ, List.getElem_cons_zero, List.setIfInBounds_toArray, List.set_cons_zero, List.set_cons_succ]
        refine wpAnyIn_ready (rs := [3]) (by kernel_rfl) (by simp) ?_
        refine AllReadyIn.cons rfl (fun K hK => ?_) AllReadyIn.nil
        go_simp
        refine hK _ _ ?_
        clear hK K
        try simp only [Act.put, List.getElem_toArray, List.getElem_cons_succ, List.getElem_cons_zero, List.setIfInBounds_toArray, List.set_cons_zero, List.set_cons_succ]
        refine wpAnyIn_ready (rs := [4]) (by kernel_rfl) (by simp) ?_
        refine AllReadyIn.cons rfl (fun K hK => ?_) AllReadyIn.nil
        go_simp
        refine hK _ _ ?_
        clear hK K
        try simp only [Act.put, List.getElem_toArray, List.getElem_cons_succ, List.getElem_cons_zero, List.setIfInBounds_toArray, List.set_cons_zero, List.set_cons_succ]
        refine wpAnyIn_ready (rs := [5]) (by kernel_rfl) (by simp) ?_
        refine AllReadyIn.cons rfl (fun K hK => ?_) AllReadyIn.nil
        go_simp
        refine hK _ _ ?_
        clear hK K
        try simp only [Act.put, List.getElem_toArray, List.getElem_cons_succ, List.getElem_cons_zero, List.setIfInBounds_toArray, List.set_cons_zero, List.set_cons_succ]
        refine wpAnyIn_done (by kernel_rfl) ?_ _
        gi_wp2
        exact ⟨k1, k2, ⟨_, _, _, k3, hin3⟩, k4, k5, k6, k7⟩
      refine AllReadyIn.cons rfl (fun K hK => ?_) ?_
      · go_simp
        refine hK _ _ ?_
        clear hK K
        try simp only [Act.put, List.getElem_toArray, List.getElem_cons_succ, List.getElem_cons_zero, List.setIfInBounds_toArray, List.set_cons_zero, List.set_cons_succ]
        refine wpAnyIn_ready (rs := [0, 2]) (by kernel_rfl) (by simp) ?_
        refine AllReadyIn.cons rfl (fun K hK => ?_) ?_
        · go_simp
          refine hK _ _ ?_
          clear hK K
          try simp only [Act.put, List.getElem_toArray, List.getElem_cons_succ, List.getElem_cons_zero, List.setIfInBounds_toArray, List.set_cons_zero, List.set_cons_succ]
          refine wpAnyIn_ready (rs := [2]) (by kernel_rfl) (by simp) ?_
          refine AllReadyIn.cons rfl (fun K hK => ?_) AllReadyIn.nil
          go_simp
          refine hK _ _ ?_
          clear hK K
          try simp only [Act.put, List.getElem_toArray, List.getElem_cons_succ, List.getElem_cons_zero, List.setIfInBounds_toArray, List.set_cons_zero, List.set_cons_succ]
          refine wpAnyIn_ready (rs := [3]) (by kernel_rfl) (by simp) ?_
          refine AllReadyIn.cons rfl (fun K hK => ?_) AllReadyIn.nil
          go_simp
          refine hK _ _ ?_
          clear hK K
          try simp only [Act.put, List.getElem_toArray, List.getElem_cons_succ, List.getElem_cons_zero, List.setIfInBounds_toArray, List.set_cons_zero, List.set_cons_succ]
          refine wpAnyIn_ready (rs := [4]) (by kernel_rfl) (by simp) ?_
          refine AllReadyIn.cons rfl (fun K hK => ?_) AllReadyIn.nil
          go_simp
          refine hK _ _ ?_
          clear hK K
          try simp only [Act.put, List.getElem_toArray, List.getElem_cons_succ, List.getElem_cons_zero, List.setIfInBounds_toArray, List.set_cons_zero, List.set_cons_succ]
          refine wpAnyIn_ready (rs := [5]) (by kernel_rfl) (by simp) ?_
          refine AllReadyIn.cons rfl (fun K hK => ?_) AllReadyIn.nil
          go_simp
          refine hK _ _ ?_
          clear hK K
          try simp only [Act.put, List.getElem_toArray, List.getElem_cons_succ, List.getElem_cons_zero, List.setIfInBounds_toArray, List.set_cons_zero, List.set_cons_succ]
          refine wpAnyIn_done (by kernel_rfl) ?_ _
          gi_wp2
          exact ⟨k1, k2, ⟨_, _, _, k3, hin3⟩, k4, k5, k6, k7⟩
        refine AllReadyIn.cons rfl (fun K hK => ?_) AllReadyIn.nil
        go_simp
        refine hK _ _ ?_
        clear hK K
        try simp only [Act.put, List.getElem_toArray, List.getElem_cons_succ, List.getElem_cons_zero, List.setIfInBounds_toArray, List.set_cons_zero, List.set_cons_succ]
        refine wpAnyIn_ready (rs := [0, 3]) (by kernel_rfl) (by simp) ?_
        refine AllReadyIn.cons rfl (fun K hK => ?_) ?_
        · go_simp
          refine hK _ _ ?_
          clear hK K
          try simp only [Act.put, List.getElem_toArray, List.getElem_cons_succ, List.getElem_cons_zero, List.setIfInBounds_toArray, List.set_cons_zero, List.set_cons_succ]
          refine wpAnyIn_ready (rs := [3]) (by kernel_rfl) (by simp) ?_
          refine AllReadyIn.cons rfl (fun K hK => ?_) AllReadyIn.nil
          go_simp
          refine hK _ _ ?_
          clear hK K
          try simp only [Act.put, List.getElem_toArray, List.getElem_cons_succ, List.getElem_cons_zero, List.setIfInBounds_toArray, List.set_cons_zero, List.set_cons_succ]
          refine wpAnyIn_ready (rs := [4]) (by kernel_rfl) (by simp) ?_
          refine AllReadyIn.cons rfl (fun K hK => ?_) AllReadyIn.nil
          go_simp
          refine hK _ _ ?_
          clear hK K
          try simp only [Act.put, List.getElem_toArray, List.getElem_cons_succ, List.getElem_cons_zero, List.setIfInBounds_toArray, List.set_cons_zero, List.set_cons_succ]
          refine wpAnyIn_ready (rs := [5]) (by kernel_rfl) (by simp) ?_
          refine AllReadyIn.cons rfl (fun K hK => ?_) AllReadyIn.nil
          go_simp
          refine hK _ _ ?_
          clear hK K
          try simp only [Act.put, List.getElem_toArray, List.getElem_cons_succ, List.getElem_cons_zero, List.setIfInBounds_toArray, List.set_cons_zero, List.set_cons_succ]
          refine wpAnyIn_done (by kernel_rfl) ?_ _
          gi_wp2
          exact ⟨k1, k2, ⟨_, _, _, k3, hin3⟩, k4, k5, k6, k7⟩
        refine AllReadyIn.cons rfl (fun K hK => ?_) AllReadyIn.nil
        go_simp
        refine hK _ _ ?_
        clear hK K
        try simp only [Act.put, List.getElem_toArray, List.getElem_cons_succ, List.getElem_cons_zero, List.setIfInBounds_toArray, List.set_cons_zero, List.set_cons_succ]
        refine wpAnyIn_ready (rs := [0]) (by kernel_rfl) (by simp) ?_
        refine AllReadyIn.cons rfl (fun K hK => ?_) AllReadyIn.nil
        go_simp
        refine hK _ _ ?_
        clear hK K
        try simp only [Act.put, List.getElem_toArray, List.getElem_cons_succ, List.getElem_cons_zero, List.setIfInBounds_toArray, List.set_cons_zero, List.set_cons_succ]
        refine wpAnyIn_ready (rs := [4]) (by kernel_rfl) (by simp) ?_
        refine AllReadyIn.cons rfl (fun K hK => ?_) AllReadyIn.nil
        go_simp
        refine hK _ _ ?_
        clear hK K
        try simp only [Act.put, List.getElem_toArray, List.getElem_cons_succ, List.getElem_cons_zero, List.setIfInBounds_toArray, List.set_cons_zero, List.set_cons_succ]
        refine wpAnyIn_ready (rs := [5]) (by kernel_rfl) (by simp) ?_
        refine AllReadyIn.cons rfl (fun K hK => ?_) AllReadyIn.nil
        go_simp
        refine hK _ _ ?_
        clear hK K
        try simp only [Act.put, List.getElem_toArray, List.getElem_cons_succ, List.getElem_cons_zero, List.setIfInBounds_toArray, List.set_cons_zero, List.set_cons_succ]
        refine wpAnyIn_done (by kernel_rfl) ?_ _
        gi_wp2
        exact ⟨k1, k2, ⟨_, _, _, k3, hin3⟩, k4, k5, k6, k7⟩
      refine AllReadyIn.cons rfl (fun K hK => ?_) AllReadyIn.nil
      go_simp
      refine hK _ _ ?_
      clear hK K
      try simp only [Act.put, List.getElem_toArray, List.getElem_cons_succ, List.getElem_cons_zero, List.setIfInBounds_toArray, List.set_cons_zero, List.set_cons_succ]
      refine wpAnyIn_ready (rs := [0, 1]) (by kernel_rfl) (by simp) ?_
      refine AllReadyIn.cons rfl (fun K hK => ?_) ?_
      · go_simp
        refine hK _ _ ?_
        clear hK K
        try simp only [Act.put, List.getElem_toArray, List.getElem_cons_succ, List.getElem_cons_zero, List.setIfInBounds_toArray, List.set_cons_zero, List.set_cons_succ]
        refine wpAnyIn_ready (rs := [1]) (by kernel_rfl) (by simp) ?_
        refine AllReadyIn.cons rfl (fun K hK => ?_) AllReadyIn.nil
        go_simp
        refine hK _ _ ?_
        clear hK K
        try simp only [Act.put, List.getElem_toArray, List.getElem_cons_succ, List.getElem_cons_zero, List.setIfInBounds_toArray, List.set_cons_zero, List.set_cons_succ]
        refine wpAnyIn_ready (rs := [3]) (by kernel_rfl) (by simp) ?_
        refine AllReadyIn.cons rfl (fun K hK => ?_) AllReadyIn.nil
        go_simp
        refine hK _ _ ?_
        clear hK K
        try simp only [Act.put, List.getElem_toArray, List.getElem_cons_succ, List.getElem_cons_zero, List.setIfInBounds_toArray, List.set_cons_zero, List.set_cons_succ]
        refine wpAnyIn_ready (rs := [4]) (by kernel_rfl) (by simp) ?_
        refine AllReadyIn.cons rfl (fun K hK => ?_) AllReadyIn.nil
        go_simp
        refine hK _ _ ?_
        clear hK K
        try simp only [Act.put, List.getElem_toArray, List.getElem_cons_succ, List.getElem_cons_zero, List.setIfInBounds_toArray, List.set_cons_zero, List.set_cons_succ]
        refine wpAnyIn_ready (rs := [5]) (by kernel_rfl) (by simp) ?_
        refine AllReadyIn.cons rfl (fun K hK => ?_) AllReadyIn.nil
        go_simp
        refine hK _ _ ?_
        clear hK K
        try simp only [Act.put, List.getElem_toArray, List.getElem_cons_succ, List.getElem_cons_zero, List.setIfInBounds_toArray, List.set_cons_zero, List.set_cons_succ]
        refine wpAnyIn_done (by kernel_rfl) ?_ _
        gi_wp2
        exact ⟨k1, k2, ⟨_, _, _, k3, hin3⟩, k4, k5, k6, k7⟩
      refine AllReadyIn.cons rfl (fun K hK => ?_) AllReadyIn.nil
      go_simp
      refine hK _ _ ?_
      clear hK K
      try simp only [Act.put, List.getElem_toArray, List.getElem_cons_succ, List.getElem_cons_zero, List.setIfInBounds_toArray, List.set_cons_zero, List.set_cons_succ]
      refine wpAnyIn_ready (rs := [0, 3]) (by kernel_rfl) (by simp) ?_
      refine AllReadyIn.cons rfl (fun K hK => ?_) ?_
      · go_simp
        refine hK _ _ ?_
        clear hK K
        try simp only [Act.put, List.getElem_toArray, List.getElem_cons_succ, List.getElem_cons_zero, List.setIfInBounds_toArray, List.set_cons_zero, List.set_cons_succ]
        refine wpAnyIn_ready (rs := [3]) (by kernel_rfl) (by simp) ?_
        refine AllReadyIn.cons rfl (fun K hK => ?_) AllReadyIn.nil
        go_simp
        refine hK _ _ ?_
        clear hK K
        try simp only [Act.put, List.getElem_toArray, List.getElem_cons_succ, List.getElem_cons_zero, List.setIfInBounds_toArray, List.set_cons_zero, List.set_cons_succ]
        refine wpAnyIn_ready (rs := [4]) (by kernel_rfl) (by simp) ?_
        refine AllReadyIn.cons rfl (fun K hK => ?_) AllReadyIn.nil
        go_simp
        refine hK _ _ ?_
        clear hK K
        try simp only [Act.put, List.getElem_toArray, List.getElem_cons_succ, List.getElem_cons_zero, List.setIfInBounds_toArray, List.set_cons_zero, List.set_cons_succ]
        refine wpAnyIn_ready (rs := [5]) (by kernel_rfl) (by simp) ?_
        refine AllReadyIn.cons rfl (fun K hK => ?_) AllReadyIn.nil
        go_simp
        refine hK _ _ ?_
        clear hK K
        try simp only [Act.put, List.getElem_toArray, List.getElem_cons_succ, List.getElem_cons_zero, List.setIfInBounds_toArray, List.set_cons_zero, List.set_cons_succ]
        refine wpAnyIn_done (by kernel_rfl) ?_ _
        gi_wp2
        exact ⟨k1, k2, ⟨_, _, _, k3, hin3⟩, k4, k5, k6, k7⟩
      refine AllReadyIn.cons rfl (fun K hK => ?_) AllReadyIn.nil
      go_simp
      refine hK _ _ ?_
      clear hK K
      try simp only [Act.put, List.getElem_toArray, List.getElem_cons_succ, List.getElem_cons_zero, List.setIfInBounds_toArray, List.set_cons_zero, List.set_cons_succ]
      refine wpAnyIn_ready (rs := [0]) (by kernel_rfl) (by simp) ?_
      refine AllReadyIn.cons rfl (fun K hK => ?_) AllReadyIn.nil
      go_simp
      refine hK _ _ ?_
      clear hK K
      try simp only [Act.put, List.getElem_toArray, List.getElem_cons_succ, List.getElem_cons_zero, List.setIfInBounds_toArray, List.set_cons_zero, List.set_cons_succ]
      refine wpAnyIn_ready (rs := [4]) (by kernel_rfl) (by simp) ?_
      refine AllReadyIn.cons rfl (fun K hK => ?_) AllReadyIn.nil
      go_simp
      refine hK _ _ ?_
      clear hK K
      try simp only [Act.put, List.getElem_toArray, List.getElem_cons_succ, List.getElem_cons_zero, List.setIfInBounds_toArray, List.set_cons_zero, List.set_cons_succ]
      refine wpAnyIn_ready (rs := [5]) (by kernel_rfl) (by simp) ?_
      refine AllReadyIn.cons rfl (fun K hK => ?_) AllReadyIn.nil
      go_simp
      refine hK _ _ ?_
      clear hK K
      try simp only [Act.put, List.getElem_toArray, List.getElem_cons_succ, List.getElem_cons_zero, List.setIfInBounds_toArray, List.set_cons_zero, List.set_cons_succ]
      refine wpAnyIn_done (by kernel_rfl) ?_ _
      gi_wp2
      exact ⟨k1, k2, ⟨_, _, _, k3, hin3⟩, k4, k5, k6, k7⟩
    | true =>
      dsimp only [encV]
      obtain ⟨w2, hcp, hX2, ht2⟩ := copy_gen (o := 256) (L := 32) (w := W.drew) hX.drew (by omega) (hin.below (hB.drew))
      obtain ⟨q', hsl, hin2⟩ := slice_from hin (min 32 m) (by omega)
      have hin3 : In w (some ⟨b, q', none⟩) (m - min 32 m) (d - min 32 m) (spl xs (pre ++ [true])).2 := by rw [hsn]; simp only [splS]; rw [hyl.out]; exact hin2
      have hX3 : Blk w2 (w.heap.size + 1 + 1) 74 (vals (spl xs (pre ++ [true])).1) := by rw [hsn]; exact hX2
      clear hsn hin2 hX2 hyl
      have hq2 : Boxed w2 w.heap.size 75 (.slice (some ⟨b, q, none⟩) m d) := (ht2.block _ (by omega)).trans hq
      have hc2 := hq2.cell
      have hf2 := hq2.frozen
      generalize min 32 m = M at *
      have k1 : KeepsOthers W (w2.setCell ⟨w.heap.size, 0, none⟩ (.slice (some ⟨b, q', none⟩) (m - M) (d - M))) := (KeepsOthers.drew W).trans ((keepsOthers_turned ht2 hX.drew).trans (KeepsOthers.setCell _ _ _))
      have k3 := hq2.set (.slice (some ⟨b, q', none⟩) (m - M) (d - M))
      have k4 := (hR.drew.turned ht2 (by omega)).setOther ⟨w.heap.size, 0, none⟩ (.slice (some ⟨b, q', none⟩) (m - M) (d - M)) (by simp)
      have k5 := hX3.setOther ⟨w.heap.size, 0, none⟩ (.slice (some ⟨b, q', none⟩) (m - M) (d - M)) (by simp; omega)
      have k6' : Boxed w2 (w.heap.size + 1 + 1 + 1) 141 (.pointer (some ⟨w.heap.size + 1 + 1, 0, none⟩)) := (ht2.block _ (by omega)).trans hS
      have k6 := k6'.other (B' := w.heap.size) (by omega) (.slice (some ⟨b, q', none⟩) (m - M) (d - M))
      have k7 : Below w.heap.size w (w2.setCell ⟨w.heap.size, 0, none⟩ (.slice (some ⟨b, q', none⟩) (m - M) (d - M))) := (ht2.below hB.drew (by omega)).setCell (Nat.le_refl _) _
      have k2 := k6.trans hS.symm
      have hB0 := hB.drew
      clear hX hR hS hB hX3 ht2 k6' hbel b0 b1 b2 b3 hq hq2 hin hx hz
      gi_wp2
      refine wpIn_region_any (by kernel_rfl) ?_
      change wpAnyIn _ _ _ _ _ _ _ _ _ (World.drew _)
      refine wpAnyIn_ready (rs := [0, 1, 2]) (by kernel_rfl) (by simp) ?_
      refine AllReadyIn.cons rfl (fun K hK => ?_) ?_
      · go_simp
        refine hK _ _ ?_
        clear hK K
        try simp only [Act.put, List.getElem_toArray, List.getElem_cons_succ, List.getElem_cons_zero, List.setIfInBounds_toArray, List.set_cons_zero, List.set_cons_succ]
        refine wpAnyIn_ready (rs := [1, 2]) (by kernel_rfl) (by simp) ?_
        refine AllReadyIn.cons rfl (fun K hK => ?_) ?_
        · go_simp
          refine hK _ _ ?_
          clear hK K
          try simp only [Act.put, List.getElem_toArray, List.getElem_cons_succ, List.getElem_cons_zero, List.setIfInBounds_toArray, List.set_cons_zero, List.set_cons_succ]
          refine wpAnyIn_ready (rs := [2]) (by kernel_rfl) (by simp) ?_
          refine AllReadyIn.cons rfl (fun K hK => ?_) AllReadyIn.nil
          go_simp
          refine hK _ _ ?_
          clear hK K
          try simp only [Act.put, List.getElem_toArray, List.getElem_cons_succ, List.getElem_cons_zero, List.setIfInBounds_toArray, List.set_cons_zero, List.set_cons_succ]
          refine wpAnyIn_ready (rs := [3]) (by kernel_rfl) (by simp) ?_
          refine AllReadyIn.cons rfl (fun K hK => ?_) AllReadyIn.nil
          go_simp
          refine hK _ _ ?_
          clear hK K
          try simp only [Act.put, List.getElem_toArray, List.getElem_cons_succ, List.getElem_cons_zero, List.setIfInBounds_toArray, List.set_cons_zero, List.set_cons_succ]
          refine wpAnyIn_ready (rs := [4]) (by kernel_rfl) (by simp) ?_
          refine AllReadyIn.cons rfl (fun K hK => ?_) AllReadyIn.nil
          go_simp
          refine hK _ _ ?_
          clear hK K
          try simp only [Act.put, List.getElem_toArray, List.getElem_cons_succ, List.getElem_cons_zero, List.setIfInBounds_toArray, List.set_cons_zero, List.set_cons_succ]
          refine wpAnyIn_ready (rs := [5]) (by kernel_rfl) (by simp) ?_
          refine AllReadyIn.cons rfl (fun K hK => ?_) AllReadyIn.nil
          go_simp
          refine hK _ _ ?_
          clear hK K
          try simp only [Act.put, List.getElem_toArray, List.getElem_cons_succ, List.getElem_cons_zero, List.setIfInBounds_toArray, List.set_cons_zero, List.set_cons_succ]
          refine wpAnyIn_done (by kernel_rfl) ?_ _
          gi_wp2
          exact ⟨k1, k2, ⟨_, _, _, k3, hin3⟩, k4, k5, k6, k7⟩
        refine AllReadyIn.cons rfl (fun K hK => ?_) AllReadyIn.nil
        go_simp
        refine hK _ _ ?_
        clear hK K
        try simp only [Act.put, List.getElem_toArray, List.getElem_cons_succ, List.getElem_cons_zero, List.setIfInBounds_toArray, List.set_cons_zero, List.set_cons_succ]
        refine wpAnyIn_ready (rs := [1]) (by kernel_rfl) (by simp) ?_
        refine AllReadyIn.cons rfl (fun K hK => ?_) AllReadyIn.nil
        go_simp
        refine hK _ _ ?_
        clear hK K
        try simp only [Act.put, List.getElem_toArray, List.getElem_cons_succ, List.getElem_cons_zero, List.setIfInBounds_toArray, List.set_cons_zero, List.set_cons_succ]
        refine wpAnyIn_ready (rs := [3]) (by kernel_rfl) (by simp) ?_
        refine AllReadyIn.cons rfl (fun K hK => ?_) AllReadyIn.nil
        go_simp
        refine hK _ _ ?_
        clear hK K
        try simp only [Act.put, List.getElem_toArray, List.getElem_cons_succ, List.getElem_cons_zero, List.setIfInBounds_toArray, List.set_cons_zero, List.set_cons_succ]
        refine wpAnyIn_ready (rs := [4]) (by kernel_rfl) (by simp) ?_
        refine AllReadyIn.cons rfl (fun K hK => ?_) AllReadyIn.nil
        go_simp
        refine hK _ _ ?_
        clear hK K
        try simp only [Act.put, List.getElem_toArray, List.getElem_cons_succ, List.getElem_cons_zero, List.setIfInBounds_toArray, List.set_cons_zero, List.set_cons_succ]
        refine wpAnyIn_ready (rs := [5]) (by kernel_rfl) (by simp) ?_
        refine AllReadyIn.cons rfl (fun K hK => ?_) AllReadyIn.nil
        go_simp
        refine hK _ _ ?_
        clear hK K
        try simp only [Act.put, List.getElem_toArray, List.getElem_cons_succ, List.getElem_cons_zero, List.setIfInBounds_toArray, List.set_cons_zero, List.set_cons_succ]
        refine wpAnyIn_done (by kernel_rfl) ?_ _
        gi_wp2
        exact ⟨k1, k2, ⟨_, _, _, k3, hin3⟩, k4, k5, k6, k7⟩
      refine AllReadyIn.cons rfl (fun K hK => ?_) ?_
      · go_simp
        refine hK _ _ ?_
        clear hK K
        try simp only [Act.put, List.getElem_toArray, List.getElem_cons_succ, List.getElem_cons_zero, List.setIfInBounds_toArray, List.set_cons_zero, List.set_cons_succ]
        refine wpAnyIn_ready (rs := [0, 2]) (by kernel_rfl) (by simp) ?_
        refine AllReadyIn.cons rfl (fun K hK => ?_) ?_
        · go_simp
          refine hK _ _ ?_
          clear hK K
          try simp only [Act.put, List.getElem_toArray, List.getElem_cons_succ, List.getElem_cons_zero, List.setIfInBounds_toArray, List.set_cons_zero, List.set_cons_succ]
          refine wpAnyIn_ready (rs := [2]) (by kernel_rfl) (by simp) ?_
          refine AllReadyIn.cons rfl (fun K hK => ?_) AllReadyIn.nil
          go_simp
          refine hK _ _ ?_
          clear hK K
          try simp only [Act.put, List.getElem_toArray, List.getElem_cons_succ, List.getElem_cons_zero, List.setIfInBounds_toArray, List.set_cons_zero, List.set_cons_succ]
          refine wpAnyIn_ready (rs := [3]) (by kernel_rfl) (by simp) ?_
          refine AllReadyIn.cons rfl (fun K hK => ?_) AllReadyIn.nil
          go_simp
          refine hK _ _ ?_
          clear hK K
          try simp only [Act.put, List.getElem_toArray, List.getElem_cons_succ, List.getElem_cons_zero, List.setIfInBounds_toArray, List.set_cons_zero, List.set_cons_succ]
          refine wpAnyIn_ready (rs := [4]) (by kernel_rfl) (by simp) ?_
          refine AllReadyIn.cons rfl (fun K hK => ?_) AllReadyIn.nil
          go_simp
          refine hK _ _ ?_
          clear hK K
          try simp only [Act.put, List.getElem_toArray, List.getElem_cons_succ, List.getElem_cons_zero, List.setIfInBounds_toArray, List.set_cons_zero, List.set_cons_succ]
          refine wpAnyIn_ready (rs := [5]) (by kernel_rfl) (by simp) ?_
          refine AllReadyIn.cons rfl (fun K hK => ?_) AllReadyIn.nil
          go_simp
          refine hK _ _ ?_
          clear hK K
          try simp only [Act.put, List.getElem_toArray, List.getElem_cons_succ, List.getElem_cons_zero, List.setIfInBounds_toArray, List.set_cons_zero, List.set_cons_succ]
          refine wpAnyIn_done (by kernel_rfl) ?_ _
          gi_wp2
          exact ⟨k1, k2, ⟨_, _, _, k3, hin3⟩, k4, k5, k6, k7⟩
        refine AllReadyIn.cons rfl (fun K hK => ?_) AllReadyIn.nil
        go_simp
        refine hK _ _ ?_
        clear hK K
        try simp only [Act.put, List.getElem_toArray, List.getElem_cons_succ, List.getElem_cons_zero, List.setIfInBounds_toArray, List.set_cons_zero, List.set_cons_succ]
        refine wpAnyIn_ready (rs := [0, 3]) (by kernel_rfl) (by simp) ?_
        refine AllReadyIn.cons rfl (fun K hK => ?_) ?_
        · go_simp
          refine hK _ _ ?_
          clear hK K
          try simp only [Act.put, List.getElem_toArray, List.getElem_cons_succ, List.getElem_cons_zero, List.setIfInBounds_toArray, List.set_cons_zero, List.set_cons_succ]
          refine wpAnyIn_ready (rs := [3]) (by kernel_rfl) (by simp) ?_
          refine AllReadyIn.cons rfl (fun K hK => ?_) AllReadyIn.nil
          go_simp
          refine hK _ _ ?_
          clear hK K
          try simp only [Act.put, List.getElem_toArray, List.getElem_cons_succ, List.getElem_cons_zero, List.setIfInBounds_toArray, List.set_cons_zero, List.set_cons_succ]
          refine wpAnyIn_ready (rs := [4]) (by kernel_rfl) (by simp) ?_
          refine AllReadyIn.cons rfl (fun K hK => ?_) AllReadyIn.nil
          go_simp
          refine hK _ _ ?_
          clear hK K
          try simp only [Act.put, List.getElem_toArray, List.getElem_cons_succ, List.getElem_cons_zero, List.setIfInBounds_toArray, List.set_cons_zero, List.set_cons_succ]
          refine wpAnyIn_ready (rs := [5]) (by kernel_rfl) (by simp) ?_
          refine AllReadyIn.cons rfl (fun K hK => ?_) AllReadyIn.nil
          go_simp
          refine hK _ _ ?_
          clear hK K
          try simp only [Act.put, List.getElem_toArray, List.getElem_cons_succ, List.getElem_cons_zero, List.setIfInBounds_toArray, List.set_cons_zero, List.set_cons_succ]
          refine wpAnyIn_done (by kernel_rfl) ?_ _
          gi_wp2
          exact ⟨k1, k2, ⟨_, _, _, k3, hin3⟩, k4, k5, k6, k7⟩
        refine AllReadyIn.cons rfl (fun K hK => ?_) AllReadyIn.nil
        go_simp
        refine hK _ _ ?_
        clear hK K
        try simp only [Act.put, List.getElem_toArray, List.getElem_cons_succ, List.getElem_cons_zero, List.setIfInBounds_toArray, List.set_cons_zero, List.set_cons_succ]
        refine wpAnyIn_ready (rs := [0]) (by kernel_rfl) (by simp) ?_
        refine AllReadyIn.cons rfl (fun K hK => ?_) AllReadyIn.nil
        go_simp
        refine hK _ _ ?_
        clear hK K
        try simp only [Act.put, List.getElem_toArray, List.getElem_cons_succ, List.getElem_cons_zero, List.setIfInBounds_toArray, List.set_cons_zero, List.set_cons_succ]
        refine wpAnyIn_ready (rs := [4]) (by kernel_rfl) (by simp) ?_
        refine AllReadyIn.cons rfl (fun K hK => ?_) AllReadyIn.nil
        go_simp
        refine hK _ _ ?_
        clear hK K
        try simp only [Act.put, List.getElem_toArray, List.getElem_cons_succ, List.getElem_cons_zero, List.setIfInBounds_toArray, List.set_cons_zero, List.set_cons_succ]
        refine wpAnyIn_ready (rs := [5]) (by kernel_rfl) (by simp) ?_
        refine AllReadyIn.cons rfl (fun K hK => ?_) AllReadyIn.nil
        go_simp
        refine hK _ _ ?_
        clear hK K
        try simp only [Act.put, List.getElem_toArray, List.getElem_cons_succ, List.getElem_cons_zero, List.setIfInBounds_toArray, List.set_cons_zero, List.set_cons_succ]
        refine wpAnyIn_done (by kernel_rfl) ?_ _
        gi_wp2
        exact ⟨k1, k2, ⟨_, _, _, k3, hin3⟩, k4, k5, k6, k7⟩
      refine AllReadyIn.cons rfl (fun K hK => ?_) AllReadyIn.nil
      go_simp
      refine hK _ _ ?_
      clear hK K
      try simp only [Act.put, List.getElem_toArray, List.getElem_cons_succ, List.getElem_cons_zero, List.setIfInBounds_toArray, List.set_cons_zero, List.set_cons_succ]
      refine wpAnyIn_ready (rs := [0, 1]) (by kernel_rfl) (by simp) ?_
      refine AllReadyIn.cons rfl (fun K hK => ?_) ?_
      · go_simp
        refine hK _ _ ?_
        clear hK K
        try simp only [Act.put, List.getElem_toArray, List.getElem_cons_succ, List.getElem_cons_zero, List.setIfInBounds_toArray, List.set_cons_zero, List.set_cons_succ]
        refine wpAnyIn_ready (rs := [1]) (by kernel_rfl) (by simp) ?_
        refine AllReadyIn.cons rfl (fun K hK => ?_) AllReadyIn.nil
        go_simp
        refine hK _ _ ?_
        clear hK K
        try simp only [Act.put, List.getElem_toArray, List.getElem_cons_succ, List.getElem_cons_zero, List.setIfInBounds_toArray, List.set_cons_zero, List.set_cons_succ]
        refine wpAnyIn_ready (rs := [3]) (by kernel_rfl) (by simp) ?_
        refine AllReadyIn.cons rfl (fun K hK => ?_) AllReadyIn.nil
        go_simp
        refine hK _ _ ?_
        clear hK K
        try simp only [Act.put, List.getElem_toArray, List.getElem_cons_succ, List.getElem_cons_zero, List.setIfInBounds_toArray, List.set_cons_zero, List.set_cons_succ]
        refine wpAnyIn_ready (rs := [4]) (by kernel_rfl) (by simp) ?_
        refine AllReadyIn.cons rfl (fun K hK => ?_) AllReadyIn.nil
        go_simp
        refine hK _ _ ?_
        clear hK K
        try simp only [Act.put, List.getElem_toArray, List.getElem_cons_succ, List.getElem_cons_zero, List.setIfInBounds_toArray, List.set_cons_zero, List.set_cons_succ]
        refine wpAnyIn_ready (rs := [5]) (by kernel_rfl) (by simp) ?_
        refine AllReadyIn.cons rfl (fun K hK => ?_) AllReadyIn.nil
        go_simp
        refine hK _ _ ?_
        clear hK K
        try simp only [Act.put, List.getElem_toArray, List.getElem_cons_succ, List.getElem_cons_zero, List.setIfInBounds_toArray, List.set_cons_zero, List.set_cons_succ]
        refine wpAnyIn_done (by kernel_rfl) ?_ _
        gi_wp2
        exact ⟨k1, k2, ⟨_, _, _, k3, hin3⟩, k4, k5, k6, k7⟩
      refine AllReadyIn.cons rfl (fun K hK => ?_) AllReadyIn.nil
      go_simp
      refine hK _ _ ?_
      clear hK K
      try simp only [Act.put, List.getElem_toArray, List.getElem_cons_succ, List.getElem_cons_zero, List.setIfInBounds_toArray, List.set_cons_zero, List.set_cons_succ]
      refine wpAnyIn_ready (rs := [0, 3]) (by kernel_rfl) (by simp) ?_
      refine AllReadyIn.cons rfl (fun K hK => ?_) ?_
      · go_simp
        refine hK _ _ ?_
        clear hK K
        try simp only [Act.put, List.getElem_toArray, List.getElem_cons_succ, List.getElem_cons_zero, List.setIfInBounds_toArray, List.set_cons_zero, List.set_cons_succ]
        refine wpAnyIn_ready (rs := [3]) (by kernel_rfl) (by simp) ?_
        refine AllReadyIn.cons rfl (fun K hK => ?_) AllReadyIn.nil
        go_simp
        refine hK _ _ ?_
        clear hK K
        try simp only [Act.put, List.getElem_toArray, List.getElem_cons_succ, List.getElem_cons_zero, List.setIfInBounds_toArray, List.set_cons_zero, List.set_cons_succ]
        refine wpAnyIn_ready (rs := [4]) (by kernel_rfl) (by simp) ?_
        refine AllReadyIn.cons rfl (fun K hK => ?_) AllReadyIn.nil
        go_simp
        refine hK _ _ ?_
        clear hK K
        try simp only [Act.put, List.getElem_toArray, List.getElem_cons_succ, List.getElem_cons_zero, List.setIfInBounds_toArray, List.set_cons_zero, List.set_cons_succ]
        refine wpAnyIn_ready (rs := [5]) (by kernel_rfl) (by simp) ?_
        refine AllReadyIn.cons rfl (fun K hK => ?_) AllReadyIn.nil
        go_simp
        refine hK _ _ ?_
        clear hK K
        try simp only [Act.put, List.getElem_toArray, List.getElem_cons_succ, List.getElem_cons_zero, List.setIfInBounds_toArray, List.set_cons_zero, List.set_cons_succ]
        refine wpAnyIn_done (by kernel_rfl) ?_ _
        gi_wp2
        exact ⟨k1, k2, ⟨_, _, _, k3, hin3⟩, k4, k5, k6, k7⟩
      refine AllReadyIn.cons rfl (fun K hK => ?_) AllReadyIn.nil
      go_simp
      refine hK _ _ ?_
      clear hK K
      try simp only [Act.put, List.getElem_toArray, List.getElem_cons_succ, List.getElem_cons_zero, List.setIfInBounds_toArray, List.set_cons_zero, List.set_cons_succ]
      refine wpAnyIn_ready (rs := [0]) (by kernel_rfl) (by simp) ?_
      refine AllReadyIn.cons rfl (fun K hK => ?_) AllReadyIn.nil
      go_simp
      refine hK _ _ ?_
      clear hK K
      try simp only [Act.put, List.getElem_toArray, List.getElem_cons_succ, List.getElem_cons_zero, List.setIfInBounds_toArray, List.set_cons_zero, List.set_cons_succ]
      refine wpAnyIn_ready (rs := [4]) (by kernel_rfl) (by simp) ?_
      refine AllReadyIn.cons rfl (fun K hK => ?_) AllReadyIn.nil
      go_simp
      refine hK _ _ ?_
      clear hK K
      try simp only [Act.put, List.getElem_toArray, List.getElem_cons_succ, List.getElem_cons_zero, List.setIfInBounds_toArray, List.set_cons_zero, List.set_cons_succ]
      refine wpAnyIn_ready (rs := [5]) (by kernel_rfl) (by simp) ?_
      refine AllReadyIn.cons rfl (fun K hK => ?_) AllReadyIn.nil
      go_simp
      refine hK _ _ ?_
      clear hK K
      try simp only [Act.put, List.getElem_toArray, List.getElem_cons_succ, List.getElem_cons_zero, List.setIfInBounds_toArray, List.set_cons_zero, List.set_cons_succ]
      refine wpAnyIn_done (by kernel_rfl) ?_ _
      gi_wp2
      exact ⟨k1, k2, ⟨_, _, _, k3, hin3⟩, k4, k5, k6, k7⟩
  case done =>
    rintro D ys W hD rfl ⟨_, hR, hX, _, hB⟩ hK
    rw [spl_all HX.out] at hX
    clear b0 b1 b2 b3
    gi_wp2_with (first
      | (refine wpListIn_load_mid rfl 74 (.tmp 3) rfl (w.heap.size + 1 + 1) 0 rfl (vals xs) _ (hX.range 0 288 _ (by rw [List.drop_zero, List.take_of_length_le (by rw [vals_length, HX.out]; exact Nat.le_refl _)])) Try.underlying74 rfl (sizeP HX.out) ?_)
      | (refine wpListIn_store_blk rfl 74 (.tmp 2) (.tmp 12) rfl _ _ (vals xs) rfl rfl hR (by rw [vals_length, vals_length, HX.out, fillP_length]; exact Nat.le_refl _) (sizeP HX.out) (vals_one _) ?_; intro w5 h5 ht5))
    rw [whole_row (by rw [vals_length, vals_length, HX.out, fillP_length])] at h5
    have hK5 : w5.heap[D]? = some (.deferred (some [])) := (ht5.block D (by omega)).trans hK
    refine ⟨by simp, .inl ⟨_, _, rfl, run_takeDeferred hK5, ?_⟩⟩
    have hbD : Below w.heap.size w5 (w5.putObj D (.deferred none)) := belowK_b (w := w) (Nat.le_refl _) w5 D _ _ (by omega) hK5 rfl rfl
    have h6 : Blk (w5.putObj D (.deferred none)) (w.heap.size + 1) 74 (vals xs) := h5.grown (grownBy_putObj' w5 D _) (fun e => by cases e; omega)
    exact ⟨_, results_cell_row Try.results91 _ _ (w.heap.size + 1) 74 (vals xs).toArray (0, 0) _ rfl h6 Try.underlying74 rfl (by rw [List.size_toArray, vals_length, HX.out]; kernel_rfl), rfl, (ht5.below hB (by omega)).trans hbD⟩
  case stop =>
    rintro D c pre W _ _ h _
    exact h.elim
theorem split_any (p : Option Addr) (c : Nat) (xs : List Nat) (w : World) (hx : In w p 288 c xs) :
    Calls Try.prog 91 #[.slice p 288 c] w fun e w' => e = .returned (.agg (vals xs).toArray) ∧ Below w.heap.size w w' :=
  (callsIn_wide (n := 4)).1 (split_in 4 (Nat.le_refl _) p c xs w hx)
end Go.Proofs.Ytfgelncfmopibaa.Pg
