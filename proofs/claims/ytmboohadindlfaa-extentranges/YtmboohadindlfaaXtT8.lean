/-
  Holes: the iterator that it answers, and what it stands on.
-/
import Derived.Test.YtmboohadindlfaaXtT7
import Derived.Laws.EntriesVeiled
namespace Go.Proofs.Ytmboohadindlfaa
open Go.RowKit
set_option linter.unusedSimpArgs false in
set_option linter.unusedVariables false in
set_option maxRecDepth 100000 in
set_option maxHeartbeats 4000000 in
theorem Holes_any (p : Option Addr) (n c : Nat) (l : List Ext) (f u : Int) (w : World) (h : InE w p n c l) (hn : n ≤ 100000) :
    Calls Try.prog 44 #[.slice p n c, .int .i64 f, .int .i64 u] w fun e w' => ∃ N B1 G p2 c2, e = .returned (.func (.func 52) #[] #[.pointer (some ⟨w.heap.size, 0, none⟩), .pointer (some ⟨G, 0, none⟩), .pointer (some ⟨w.heap.size + 1, 0, none⟩)]) ∧ PartsIn w' N B1 (B1 + 1) (B1 + 2) p2 c2 (max f 0) (min u 65536) (takenL l) ∧ N ≤ n ∧ Blk w' w.heap.size 3 [.int .i64 (max f 0)] ∧ Blk w' G 63 [partsF B1] ∧ Blk w' (w.heap.size + 1) 3 [.int .i64 (min u 65536)] ∧ Below w.heap.size w w' := by
  have k1 := (Blk.new' w 3 #[.int .i64 f]).alloc (.cells #[.int .i64 u] 3)
  have k2 := Blk.newAt (w := w.alloc (.cells #[.int .i64 f] 3)) (g := w.heap.size + 1) 3 #[.int .i64 u] (by simp)
  go_enter Try.func44, Try.ntmps44
  go_upto_region 1 with fail
  refine wp_region_noPanic ?_
  refine wp_region_held_drew (S := fun _ => True) (by kernel_rfl) trivial (fun hHeld => ?_)
  refine wpAnyH_ready (rs := [0, 2]) (by kernel_rfl) (by simp) ?_
  refine AllReadyH.cons rfl (fun K hK => ?_) ?_
  · have c0 := k1.drew.cell' (i := 0) rfl
    go_simp
    refine hK.out _ _ trivial (fun hHeld => ?_)
    clear hK K
    try simp only [Act.put, List.getElem_toArray, List.getElem_cons_succ, List.getElem_cons_zero, List.setIfInBounds_toArray, List.set_cons_zero, List.set_cons_succ]
    refine wpAnyH_take (i := 1) (v := ?_) rfl (by kernel_rfl) (by kernel_rfl) (by kernel_rfl) (fun _ _ _ h => h) (Or.inl ⟨by rfl, ?_⟩) hHeld ?_
    rotate_left
    · intro w' hSw; try dsimp only at hSw
      go_simp; try (with_reducible rfl)
    try simp only [Act.put, List.getElem_toArray, List.getElem_cons_succ, List.getElem_cons_zero, List.setIfInBounds_toArray, List.set_cons_zero, List.set_cons_succ]
    refine wpAnyH_ready (rs := [2, 4]) (by kernel_rfl) (by simp) ?_
    refine AllReadyH.cons rfl (fun K hK => ?_) ?_
    · have c1 := k2.drew.cell' (i := 0) rfl
      go_simp
      refine hK.out _ _ trivial (fun hHeld => ?_)
      clear hK K
      try simp only [Act.put, List.getElem_toArray, List.getElem_cons_succ, List.getElem_cons_zero, List.setIfInBounds_toArray, List.set_cons_zero, List.set_cons_succ]
      refine wpAnyH_take (i := 3) (v := ?_) rfl (by kernel_rfl) (by kernel_rfl) (by kernel_rfl) (fun _ _ _ h => h) (Or.inl ⟨by rfl, ?_⟩) hHeld ?_
      rotate_left
      · intro w' hSw; try dsimp only at hSw
        go_simp; try (with_reducible rfl)
      try simp only [Act.put, List.getElem_toArray, List.getElem_cons_succ, List.getElem_cons_zero, List.setIfInBounds_toArray, List.set_cons_zero, List.set_cons_succ]
      refine wpAnyH_ready (rs := [4]) (by kernel_rfl) (by simp) ?_
      refine AllReadyH.cons rfl (fun K hK => ?_) AllReadyH.nil
      have f0 := k1.drew.frozen 0
      have c0 := k1.drew.cell' (i := 0) rfl
      go_simp
      refine hK.out _ _ trivial (fun hHeld => ?_)
      clear hK K
      try simp only [Act.put, List.getElem_toArray, List.getElem_cons_succ, List.getElem_cons_zero, List.setIfInBounds_toArray, List.set_cons_zero, List.set_cons_succ]
      have s1 := k1.drew.set 0 (.int .i64 (max f 0))
      have s2 := k2.drew.setOther ⟨w.heap.size, 0, none⟩ (.int .i64 (max f 0)) (by simp)
      refine wpAnyH_ready (rs := [5]) (by kernel_rfl) (by simp) ?_
      refine AllReadyH.cons rfl (fun K hK => ?_) AllReadyH.nil
      have f1 := s2.frozen 0
      have c1 := s2.cell' (i := 0) rfl
      go_simp
      refine hK.out _ _ trivial (fun hHeld => ?_)
      clear hK K
      try simp only [Act.put, List.getElem_toArray, List.getElem_cons_succ, List.getElem_cons_zero, List.setIfInBounds_toArray, List.set_cons_zero, List.set_cons_succ]
      refine wpAnyH_done (by kernel_rfl) ?_ _
      refine NoPanic.normal ?_
      clear hHeld
      have q1 := ((Blk.new' w 3 #[.int .i64 (max f 0)]).alloc (.cells #[.int .i64 (min u 65536)] 3)).drew
      have q2 := (Blk.newAt (w := w.alloc (.cells #[.int .i64 (max f 0)] 3)) (g := w.heap.size + 1) 3 #[.int .i64 (min u 65536)] (by simp)).drew
      have hbq := (below_al (below_alloc w (.cells #[.int .i64 (max f 0)] 3)) (.cells #[.int .i64 (min u 65536)] 3)).drew
      clear k1 k2 s1 s2
      generalize World.drew (World.alloc (World.alloc w (.cells #[.int .i64 (max f 0)] 3)) (.cells #[.int .i64 (min u 65536)] 3)) = W at *
      replace q1 : Blk W w.heap.size 3 [.int .i64 (max f 0)] := q1
      replace q2 : Blk W (w.heap.size + 1) 3 [.int .i64 (min u 65536)] := q2
      have d0 := q1.cell' (i := 0) rfl
      have d1 := q2.cell' (i := 0) rfl
      go_wp2_with fail
      refine (Runs_any p n c l (max f 0) (min u 65536) W (h.below hbq) hn).mono ?_
      rintro e9 w2 ⟨N, B1, p2, c2, rfl, hP, hN, hB, hpa, hb2⟩
      have hsq := hbq.size
      have hs2 := hb2.size
      have r1 := (q1.kept hb2).alloc (.cells #[partsF B1] 63)
      have r2 := (q2.kept hb2).alloc (.cells #[partsF B1] 63)
      have r3 := Blk.new' w2 63 #[partsF B1]
      have hP3 := hP.below (below_alloc w2 (.cells #[partsF B1] 63))
      have hb3 := hbq.trans ((bt hb2 (below_alloc w2 (.cells #[partsF B1] 63))).mono hsq)
      have z0 := (Blk.new' w2 63 #[.nilFunc]).cell' (i := 0) rfl
      have zf := (Blk.new' w2 63 #[.nilFunc]).frozen 0
      unfold partsF
      go_wp2
      go_ret
      exact ⟨N, B1, w2.heap.size, p2, c2, rfl, hP3, hN, r1, r3, r2, hb3⟩
    refine AllReadyH.cons rfl (fun K hK => ?_) AllReadyH.nil
    have f0 := k1.drew.frozen 0
    have c0 := k1.drew.cell' (i := 0) rfl
    go_simp
    refine hK.out _ _ trivial (fun hHeld => ?_)
    clear hK K
    try simp only [Act.put, List.getElem_toArray, List.getElem_cons_succ, List.getElem_cons_zero, List.setIfInBounds_toArray, List.set_cons_zero, List.set_cons_succ]
    have s1 := k1.drew.set 0 (.int .i64 (max f 0))
    have s2 := k2.drew.setOther ⟨w.heap.size, 0, none⟩ (.int .i64 (max f 0)) (by simp)
    refine wpAnyH_ready (rs := [2]) (by kernel_rfl) (by simp) ?_
    refine AllReadyH.cons rfl (fun K hK => ?_) AllReadyH.nil
    have c1 := s2.cell' (i := 0) rfl
    go_simp
    refine hK.out _ _ trivial (fun hHeld => ?_)
    clear hK K
    try simp only [Act.put, List.getElem_toArray, List.getElem_cons_succ, List.getElem_cons_zero, List.setIfInBounds_toArray, List.set_cons_zero, List.set_cons_succ]
    refine wpAnyH_take (i := 3) (v := ?_) rfl (by kernel_rfl) (by kernel_rfl) (by kernel_rfl) (fun _ _ _ h => h) (Or.inl ⟨by rfl, ?_⟩) hHeld ?_
    rotate_left
    · intro w' hSw; try dsimp only at hSw
      go_simp; try (with_reducible rfl)
    try simp only [Act.put, List.getElem_toArray, List.getElem_cons_succ, List.getElem_cons_zero, List.setIfInBounds_toArray, List.set_cons_zero, List.set_cons_succ]
    refine wpAnyH_ready (rs := [5]) (by kernel_rfl) (by simp) ?_
    refine AllReadyH.cons rfl (fun K hK => ?_) AllReadyH.nil
    have f1 := s2.frozen 0
    have c1 := s2.cell' (i := 0) rfl
    go_simp
    refine hK.out _ _ trivial (fun hHeld => ?_)
    clear hK K
    try simp only [Act.put, List.getElem_toArray, List.getElem_cons_succ, List.getElem_cons_zero, List.setIfInBounds_toArray, List.set_cons_zero, List.set_cons_succ]
    refine wpAnyH_done (by kernel_rfl) ?_ _
    refine NoPanic.normal ?_
    clear hHeld
    have q1 := ((Blk.new' w 3 #[.int .i64 (max f 0)]).alloc (.cells #[.int .i64 (min u 65536)] 3)).drew
    have q2 := (Blk.newAt (w := w.alloc (.cells #[.int .i64 (max f 0)] 3)) (g := w.heap.size + 1) 3 #[.int .i64 (min u 65536)] (by simp)).drew
    have hbq := (below_al (below_alloc w (.cells #[.int .i64 (max f 0)] 3)) (.cells #[.int .i64 (min u 65536)] 3)).drew
    clear k1 k2 s1 s2
    generalize World.drew (World.alloc (World.alloc w (.cells #[.int .i64 (max f 0)] 3)) (.cells #[.int .i64 (min u 65536)] 3)) = W at *
    replace q1 : Blk W w.heap.size 3 [.int .i64 (max f 0)] := q1
    replace q2 : Blk W (w.heap.size + 1) 3 [.int .i64 (min u 65536)] := q2
    have d0 := q1.cell' (i := 0) rfl
    have d1 := q2.cell' (i := 0) rfl
    go_wp2_with fail
    refine (Runs_any p n c l (max f 0) (min u 65536) W (h.below hbq) hn).mono ?_
    rintro e9 w2 ⟨N, B1, p2, c2, rfl, hP, hN, hB, hpa, hb2⟩
    have hsq := hbq.size
    have hs2 := hb2.size
    have r1 := (q1.kept hb2).alloc (.cells #[partsF B1] 63)
    have r2 := (q2.kept hb2).alloc (.cells #[partsF B1] 63)
    have r3 := Blk.new' w2 63 #[partsF B1]
    have hP3 := hP.below (below_alloc w2 (.cells #[partsF B1] 63))
    have hb3 := hbq.trans ((bt hb2 (below_alloc w2 (.cells #[partsF B1] 63))).mono hsq)
    have z0 := (Blk.new' w2 63 #[.nilFunc]).cell' (i := 0) rfl
    have zf := (Blk.new' w2 63 #[.nilFunc]).frozen 0
    unfold partsF
    go_wp2
    go_ret
    exact ⟨N, B1, w2.heap.size, p2, c2, rfl, hP3, hN, r1, r3, r2, hb3⟩
  refine AllReadyH.cons rfl (fun K hK => ?_) AllReadyH.nil
  have c1 := k2.drew.cell' (i := 0) rfl
  go_simp
  refine hK.out _ _ trivial (fun hHeld => ?_)
  clear hK K
  try simp only [Act.put, List.getElem_toArray, List.getElem_cons_succ, List.getElem_cons_zero, List.setIfInBounds_toArray, List.set_cons_zero, List.set_cons_succ]
  refine wpAnyH_take (i := 3) (v := ?_) rfl (by kernel_rfl) (by kernel_rfl) (by kernel_rfl) (fun _ _ _ h => h) (Or.inl ⟨by rfl, ?_⟩) hHeld ?_
  rotate_left
  · intro w' hSw; try dsimp only at hSw
    go_simp; try (with_reducible rfl)
  try simp only [Act.put, List.getElem_toArray, List.getElem_cons_succ, List.getElem_cons_zero, List.setIfInBounds_toArray, List.set_cons_zero, List.set_cons_succ]
  refine wpAnyH_ready (rs := [0]) (by kernel_rfl) (by simp) ?_
  refine AllReadyH.cons rfl (fun K hK => ?_) AllReadyH.nil
  have c0 := k1.drew.cell' (i := 0) rfl
  go_simp
  refine hK.out _ _ trivial (fun hHeld => ?_)
  clear hK K
  try simp only [Act.put, List.getElem_toArray, List.getElem_cons_succ, List.getElem_cons_zero, List.setIfInBounds_toArray, List.set_cons_zero, List.set_cons_succ]
  refine wpAnyH_take (i := 1) (v := ?_) rfl (by kernel_rfl) (by kernel_rfl) (by kernel_rfl) (fun _ _ _ h => h) (Or.inl ⟨by rfl, ?_⟩) hHeld ?_
  rotate_left
  · intro w' hSw; try dsimp only at hSw
    go_simp; try (with_reducible rfl)
  try simp only [Act.put, List.getElem_toArray, List.getElem_cons_succ, List.getElem_cons_zero, List.setIfInBounds_toArray, List.set_cons_zero, List.set_cons_succ]
  refine wpAnyH_ready (rs := [4]) (by kernel_rfl) (by simp) ?_
  refine AllReadyH.cons rfl (fun K hK => ?_) AllReadyH.nil
  have f0 := k1.drew.frozen 0
  have c0 := k1.drew.cell' (i := 0) rfl
  go_simp
  refine hK.out _ _ trivial (fun hHeld => ?_)
  clear hK K
  try simp only [Act.put, List.getElem_toArray, List.getElem_cons_succ, List.getElem_cons_zero, List.setIfInBounds_toArray, List.set_cons_zero, List.set_cons_succ]
  have s1 := k1.drew.set 0 (.int .i64 (max f 0))
  have s2 := k2.drew.setOther ⟨w.heap.size, 0, none⟩ (.int .i64 (max f 0)) (by simp)
  refine wpAnyH_ready (rs := [5]) (by kernel_rfl) (by simp) ?_
  refine AllReadyH.cons rfl (fun K hK => ?_) AllReadyH.nil
  have f1 := s2.frozen 0
  have c1 := s2.cell' (i := 0) rfl
  go_simp
  refine hK.out _ _ trivial (fun hHeld => ?_)
  clear hK K
  try simp only [Act.put, List.getElem_toArray, List.getElem_cons_succ, List.getElem_cons_zero, List.setIfInBounds_toArray, List.set_cons_zero, List.set_cons_succ]
  refine wpAnyH_done (by kernel_rfl) ?_ _
  refine NoPanic.normal ?_
  clear hHeld
  have q1 := ((Blk.new' w 3 #[.int .i64 (max f 0)]).alloc (.cells #[.int .i64 (min u 65536)] 3)).drew
  have q2 := (Blk.newAt (w := w.alloc (.cells #[.int .i64 (max f 0)] 3)) (g := w.heap.size + 1) 3 #[.int .i64 (min u 65536)] (by simp)).drew
  have hbq := (below_al (below_alloc w (.cells #[.int .i64 (max f 0)] 3)) (.cells #[.int .i64 (min u 65536)] 3)).drew
  clear k1 k2 s1 s2
  generalize World.drew (World.alloc (World.alloc w (.cells #[.int .i64 (max f 0)] 3)) (.cells #[.int .i64 (min u 65536)] 3)) = W at *
  replace q1 : Blk W w.heap.size 3 [.int .i64 (max f 0)] := q1
  replace q2 : Blk W (w.heap.size + 1) 3 [.int .i64 (min u 65536)] := q2
  have d0 := q1.cell' (i := 0) rfl
  have d1 := q2.cell' (i := 0) rfl
  go_wp2_with fail
  refine (Runs_any p n c l (max f 0) (min u 65536) W (h.below hbq) hn).mono ?_
  rintro e9 w2 ⟨N, B1, p2, c2, rfl, hP, hN, hB, hpa, hb2⟩
  have hsq := hbq.size
  have hs2 := hb2.size
  have r1 := (q1.kept hb2).alloc (.cells #[partsF B1] 63)
  have r2 := (q2.kept hb2).alloc (.cells #[partsF B1] 63)
  have r3 := Blk.new' w2 63 #[partsF B1]
  have hP3 := hP.below (below_alloc w2 (.cells #[partsF B1] 63))
  have hb3 := hbq.trans ((bt hb2 (below_alloc w2 (.cells #[partsF B1] 63))).mono hsq)
  have z0 := (Blk.new' w2 63 #[.nilFunc]).cell' (i := 0) rfl
  have zf := (Blk.new' w2 63 #[.nilFunc]).frozen 0
  unfold partsF
  go_wp2
  go_ret
  exact ⟨N, B1, w2.heap.size, p2, c2, rfl, hP3, hN, r1, r3, r2, hb3⟩
end Go.Proofs.Ytmboohadindlfaa
