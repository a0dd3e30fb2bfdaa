/-
  The reference's New.
-/
import Derived.Test.YthafcnilhloldaaNRNewP
import Derived.Deep.RegionHeld3
import Derived.Deep.Cut
import Derived.BigQuiet
import Derived.Laws.OwnMore
namespace Go.Proofs.Ythafcnilhloldaa
open Go.RowKit
theorem below_drewNR {B : Nat} {a w : World} (h : Below B a w) : ∀ k : Nat, Below B a (w.drewN k)
  | 0 => h
  | k + 1 => (below_drewNR h k).drew
theorem Turned.cellR {w w' : World} {g : Nat} (h : Turned w w' g) {a : Addr} (ha : a.block ≠ g) : w'.cell? a = w.cell? a := by
  simp only [World.cell?, h.block a.block ha]
theorem map_zip_false {L : List Value} {n : Nat} (h : L.length = n) : L.map (fun x => (x, false)) = L.zip (List.replicate n false) := by
  subst h
  induction L with
  | nil => rfl
  | cons x L ih => rw [List.map_cons, List.length_cons, List.replicate_succ, List.zip_cons_cons, ih]
theorem zip_at {L : List Value} {m : List Bool} {i : Nat} {b : Bool} (hl : L.length = m.length) (h : m[i]? = some b) : (L.zip m)[i]? = some (L.getD i undef, b) := zip_atP hl h
theorem owns_storedR {w : World} {B : Nat} {e : TypeId} {z : Nat} {v : Value} {n : Nat} {xs : List Value} (h : w.ownsRow B e z v n xs) {g : Nat} (hk : v.ownBlock = some g) (j : Nat) (u : Value) : (w.setCell ⟨g, j, none⟩ u).ownsRow B e z v n (xs.set j u) := by
  rcases h.2 with ⟨rfl, _⟩ | ⟨g', cap, cur, rfl, _⟩
  · simp [Value.ownBlock] at hk
  · simp [Value.ownBlock] at hk
    subst hk
    exact (World.ownsRow.stored h j u).1
theorem frozen_row {w : World} {B : Nat} {e : TypeId} {z : Nat} {g n c : Nat} {xs : List Value} (h : w.ownsRow B e z (.slice (some ⟨g, 0, none⟩) n c) n xs) (j : Nat) : w.frozen? ⟨g, j, none⟩ = false := by
  obtain ⟨cs, hcs⟩ := owns_objR h (i := g) rfl
  exact Blk.frozen (cs := cs.toList) (t := e) (by rw [Blk]; simpa using hcs) j
open Classical in
set_option linter.unusedSimpArgs false in
set_option linter.unusedVariables false in
set_option maxRecDepth 100000 in
set_option maxHeartbeats 8000000 in
theorem rnew_geo (gb gp : Int) (q : Option Addr) (m d : Nat) (p : Option Addr) (n c : Nat) (w : World) (hg : ¬ GeoOk gb gp) :
    Calls Try.prog 10 #[.agg #[.int .i64 gb, .int .i64 gp], .slice q m d, .slice p n c] w fun e w' => e = .returned (.tuple #[.pointer none, .int .i64 20]) ∧ Below w.heap.size w w' := by
  have hb0 := below_alloc w (.cells #[.int .i64 gb, .int .i64 gp] 23)
  have hG := Blk.new' w 23 #[.int .i64 gb, .int .i64 gp]
  have hg0 := hG.cell' (i := 0) rfl
  have hg1 := hG.cell' (i := 1) rfl
  unfold GeoOk at hg
  go_enter Try.func10, Try.ntmps10
  by_cases h1 : gb < 16
  · go_wp2
    go_ret2
    exact ⟨rfl, hb0⟩
  · by_cases h2 : gb > 256
    · go_wp2
      go_ret2
      exact ⟨rfl, hb0⟩
    · by_cases h3 : gp < 4
      · go_wp2
        go_ret2
        exact ⟨rfl, hb0⟩
      · by_cases h4 : gp > 32
        · go_wp2
          go_ret2
          exact ⟨rfl, hb0⟩
        · have h5 : gb > 16 * gp := by omega
          go_wp2
          go_ret2
          exact ⟨rfl, hb0⟩
open Classical in
set_option linter.unusedSimpArgs false in
set_option linter.unusedVariables false in
set_option maxRecDepth 100000 in
set_option maxHeartbeats 8000000 in
theorem rnew_any (nb np : Nat) (q : Option Addr) (m d : Nat) (bs : List Int) (p : Option Addr) (n c : Nat) (es : List Ev) (f : Nat → Option Addr × Nat × Nat) (w : World) (hi : InI w q m d bs) (hx : EvSrc w p n c es f) (hg : GeoOk nb np) :
    Calls Try.prog 10 #[.agg #[.int .i64 (nb : Int), .int .i64 (np : Int)], .slice q m d, .slice p n c] w fun e w' => Below w.heap.size w w' ∧
      ((markL nb bs (List.replicate nb false) = none ∧ e = .returned (.tuple #[.pointer none, .int .i64 22])) ∨
       (∃ mk, markL nb bs (List.replicate nb false) = some mk ∧ okEvs 0 es = false ∧ e = .returned (.tuple #[.pointer none, .int .i64 21])) ∨
       (∃ mk g cr PR, markL nb bs (List.replicate nb false) = some mk ∧ okEvs 0 es = true ∧ e = .returned (.tuple #[.pointer (some ⟨w.heap.size + 1, 0, none⟩), .int .i64 0]) ∧ RsIn w' (w.heap.size + 1) { newStB nb np es mk with z := fun k => k < w.heap.size } g cr PR ∧ ∀ k, fpOf (w.heap.size + 1) g PR nb k → w.heap.size ≤ k)) := by
  have hroom := hi.room
  have HBL : Hid (bs.length = m) := hi.len
  have hrev := fun w h => revents_any p n c es f w h
  have h16 : 16 ≤ (nb : Int) := by unfold GeoOk at hg; omega
  have h256 : (nb : Int) ≤ 256 := by unfold GeoOk at hg; omega
  have h4 : 4 ≤ (np : Int) := by unfold GeoOk at hg; omega
  have h32 : (np : Int) ≤ 32 := by unfold GeoOk at hg; omega
  have h6 : ¬ (nb : Int) > 16 * (np : Int) := by unfold GeoOk at hg; omega
  have g16 : ¬ (nb : Int) < 16 := by omega
  have g256 : ¬ (nb : Int) > 256 := by omega
  have g4 : ¬ (np : Int) < 4 := by omega
  have g32 : ¬ (np : Int) > 32 := by omega
  have HGE : Hid (GeoOk nb np) := hg
  clear hg
  have hb0 := below_alloc w (.cells #[.int .i64 (nb : Int), .int .i64 (np : Int)] 23)
  have hG := Blk.new' w 23 #[.int .i64 (nb : Int), .int .i64 (np : Int)]
  have hg0 := hG.cell' (i := 0) rfl
  have hg1 := hG.cell' (i := 1) rfl
  have hb1 := bt hb0 (below_alloc (w.alloc (.cells #[.int .i64 (nb : Int), .int .i64 (np : Int)] 23)) (.cells #[.int .i64 (nb : Int), .int .i64 (np : Int), .slice none 0 0, .slice none 0 0, .int .i64 0, .bool true] 85))
  have hr := Blk.new' (w.alloc (.cells #[.int .i64 (nb : Int), .int .i64 (np : Int)] 23)) 85 #[.int .i64 (nb : Int), .int .i64 (np : Int), .slice none 0 0, .slice none 0 0, .int .i64 0, .bool true]
  rw [show (w.alloc (.cells #[.int .i64 (nb : Int), .int .i64 (np : Int)] 23)).heap.size = w.heap.size + 1 from World.size_alloc _ _] at hr
  have hG1 := hG.alloc (.cells #[.int .i64 (nb : Int), .int .i64 (np : Int), .slice none 0 0, .slice none 0 0, .int .i64 0, .bool true] 85)
  go_enter Try.func10, Try.ntmps10
  go_wp2
  generalize (w.alloc (.cells #[.int .i64 (nb : Int), .int .i64 (np : Int)] 23)).alloc (.cells #[.int .i64 (nb : Int), .int .i64 (np : Int), .slice none 0 0, .slice none 0 0, .int .i64 0, .bool true] 85) = W1 at *
  clear hg0 hg1 hG hb0 h6 g16 g256 g4 g32
  go_loopw [9] (fun t wr => ∃ (i : Nat) (L : List Value) (v : Value), i ≤ nb ∧ t = .int .i64 (i : Int) ∧ Hid (L.length = i) ∧ Blk wr (w.heap.size + 1) 85 [.int .i64 (nb : Int), .int .i64 (np : Int), v, .slice none 0 0, .int .i64 0, .bool true] ∧ wr.ownsRow (w.heap.size + 2) 87 4 v i (rcOf (L.map fun x => (x, false))) ∧ (∀ y ∈ L, PagesIn wr y (List.replicate np (fillP 255))) ∧ Aprt w.heap.size L ∧ Blk wr w.heap.size 23 [.int .i64 (nb : Int), .int .i64 (np : Int)] ∧ Below w.heap.size w wr) (fun t _ => nb - (intOf t).toNat)
  case atStart => exact ⟨0, [], _, Nat.zero_le _, rfl, rfl, hr, World.ownsRow_nil _ _ _ _, (fun y hy => by cases hy), Aprt.nil _, hG1, hb1⟩
  case round =>
    clear hr hG1 hb1
    obtain ⟨i, L, v, hile, rfl, HL, kr, hrow, hPL, hAP, hGr, hww⟩ := hrel
    have gg0 := hGr.cell' (i := 0) rfl
    have gg1 := hGr.cell' (i := 1) rfl
    by_cases hlt : i < nb
    · have hki : (i : Int) < (nb : Int) := by omega
      have hw0 := hww.size
      have ka := below_alloc wr (.cells #[.slice none 0 0, .int .i64 0, .int .i64 0, .bool false] 87)
      have kb0 := Blk.new' wr 87 #[.slice none 0 0, .int .i64 0, .int .i64 0, .bool false]
      go_wp2
      obtain ⟨gb, hgb⟩ : ∃ gb, wr.heap.size = gb := ⟨_, rfl⟩
      rw [hgb] at kb0 ⊢
      generalize hw0' : wr = w0 at *
      go_loopw [11] (fun t wr => ∃ (k : Nat) (u : Value), k ≤ np ∧ t = .int .i64 (k : Int) ∧ Blk wr gb 87 [u, .int .i64 0, .int .i64 0, .bool false] ∧ PagesIn wr u (List.replicate k (fillP 255)) ∧ (∀ j, u.ownBlock = some j → gb < j) ∧ Below w0.heap.size w0 wr) (fun t _ => np - (intOf t).toNat)
      case atStart => exact ⟨0, _, Nat.zero_le _, rfl, kb0, PagesIn.nil _, (fun j hj => by cases hj), ka⟩
      case round =>
        clear kb0 ka gg0 gg1
        obtain ⟨k, u, hk, rfl, kb, hP, hU, hwi⟩ := hrel
        have hGi := hGr.kept hwi
        have gi0 := hGi.cell' (i := 0) rfl
        have gi1 := hGi.cell' (i := 1) rfl
        have hD : Below wr.heap.size wr wr.drew := (Below.refl _ _).drew
        by_cases hkl : k < np
        · have hki2 : (k : Int) < (np : Int) := by omega
          go_upto_region 11 with fail
          refine wp_region_noPanic ?_
          refine wp_region_held_drew (S := fun _ => True) (by kernel_rfl) trivial (fun hHeld => ?_)
          refine wpAnyH_take (i := 0) (v := ?_) rfl (by kernel_rfl) (by kernel_rfl) (by kernel_rfl) (fun _ _ _ h => h) (Or.inl ⟨by rfl, ?_⟩) hHeld ?_
          rotate_left
          · intro w' hSw; try dsimp only at hSw
            go_simp; try (with_reducible rfl)
          try simp only [Act.put, List.getElem_toArray, List.getElem_cons_succ, List.getElem_cons_zero, List.setIfInBounds_toArray, List.set_cons_zero, List.set_cons_succ]
          refine wpAnyH_ready (rs := [1, 2]) (by kernel_rfl) (by simp) ?_
          refine AllReadyH.cons rfl (fun K hK => ?_) ?_
          · have c0 := (kb.kept hD).cell' (i := 0) rfl
            go_simp
            refine hK.out _ _ trivial (fun hHeld => ?_)
            clear hK K
            try simp only [Act.put, List.getElem_toArray, List.getElem_cons_succ, List.getElem_cons_zero, List.setIfInBounds_toArray, List.set_cons_zero, List.set_cons_succ]
            refine wpAnyH_ready (rs := [2]) (by kernel_rfl) (by simp) ?_
            refine AllReadyH.cons rfl (fun K hK => ?_) AllReadyH.nil
            go_simp
            refine (rblank_any _).mono ?_
            rintro e9 f2 ⟨rfl, hb2⟩
            have hB2 := bt hD hb2
            refine hK.out _ _ trivial (fun hHeld => ?_)
            clear hK K
            try simp only [Act.put, List.getElem_toArray, List.getElem_cons_succ, List.getElem_cons_zero, List.setIfInBounds_toArray, List.set_cons_zero, List.set_cons_succ]
            refine wpAnyH_ready (rs := [3]) (by kernel_rfl) (by simp) ?_
            refine AllReadyH.cons rfl (fun K hK => ?_) AllReadyH.nil
            refine wp_buildPage (.tmp 57) rfl (fillP 255) rfl (fillP_length _) ?_
            have hB3 := bt hB2 (below_alloc f2 (.cells (vals (fillP 255)).toArray 46))
            have s3 := Blk.new f2 46 (vals (fillP 255))
            refine hK.out _ _ trivial (fun hHeld => ?_)
            clear hK K
            try simp only [Act.put, List.getElem_toArray, List.getElem_cons_succ, List.getElem_cons_zero, List.setIfInBounds_toArray, List.set_cons_zero, List.set_cons_succ]
            refine wpAnyH_ready (rs := [4]) (by kernel_rfl) (by simp) ?_
            refine AllReadyH.cons rfl (fun K hK => ?_) AllReadyH.nil
            refine wp_appendPage (.tmp 56) (.tmp 58) rfl u (List.replicate k (fillP 255)) rfl (hP.below hB3) ⟨f2.heap.size, 0, none⟩ (fillP 255) rfl (isP_fill 255 (by omega)) (fun j y hj => by rw [addr_add, Nat.zero_add]; exact s3.cell' hj) (by rw [List.length_replicate]; omega) ?_
            intro p4 c4 w4 hp4 hg4 hat4
            have kb4 : Blk w4 gb 87 _ := (kb.kept hB3).same (hg4.block gb (Nat.lt_of_lt_of_le kb.lt hB3.size) (fun e => by have := hU _ e.symm; omega))
            refine hK.out _ _ trivial (fun hHeld => ?_)
            clear hK K
            try simp only [Act.put, List.getElem_toArray, List.getElem_cons_succ, List.getElem_cons_zero, List.setIfInBounds_toArray, List.set_cons_zero, List.set_cons_succ]
            refine wpAnyH_take (i := 5) (v := ?_) rfl (by kernel_rfl) (by kernel_rfl) (by kernel_rfl) (fun _ _ _ h => h) (Or.inl ⟨by rfl, ?_⟩) hHeld ?_
            rotate_left
            · intro w' hSw; try dsimp only at hSw
              go_simp; try (with_reducible rfl)
            try simp only [Act.put, List.getElem_toArray, List.getElem_cons_succ, List.getElem_cons_zero, List.setIfInBounds_toArray, List.set_cons_zero, List.set_cons_succ]
            refine wpAnyH_ready (rs := [6]) (by kernel_rfl) (by simp) ?_
            refine AllReadyH.cons rfl (fun K hK => ?_) AllReadyH.nil
            have c6 := kb4.cell' (i := 0) rfl
            have f6 := kb4.frozen 0
            go_simp
            refine hK.out _ _ trivial (fun hHeld => ?_)
            clear hK K
            try simp only [Act.put, List.getElem_toArray, List.getElem_cons_succ, List.getElem_cons_zero, List.setIfInBounds_toArray, List.set_cons_zero, List.set_cons_succ]
            refine wpAnyH_done (by kernel_rfl) ?_ _
            refine NoPanic.normal ?_
            clear hHeld
            rw [List.length_replicate, ← List.replicate_succ'] at hp4
            rw [List.length_replicate] at hat4
            have kb5 := kb4.set 0 (.slice p4 (k + 1) c4)
            have tX := Turned.setCell w4 ⟨gb, 0, none⟩ (.slice p4 (k + 1) c4)
            have hb5 : Below w0.heap.size w0 (w4.setCell ⟨gb, 0, none⟩ (.slice p4 (k + 1) c4)) := tX.below ((hwi.trans (hB3.mono hwi.size)).grown hg4 (Nat.le_trans hwi.size hB3.size) (fun j hj => by have := hU j hj; omega)) (by show w0.heap.size ≤ gb; omega)
            have hU5 : ∀ j, (Value.slice p4 (k + 1) c4).ownBlock = some j → gb < j := fun j hj => by
              rcases hat4 with h | h
              · exact hU j (h.symm.trans hj)
              · have := hB3.size; have := kb.lt; rw [h] at hj; cases hj; omega
            have hp5 := hp4.same (w' := w4.setCell ⟨gb, 0, none⟩ (.slice p4 (k + 1) c4)) (fun j hj => tX.block j (by have := hU5 j hj; show j ≠ gb; omega))
            go_wp2
            go_roundw
            case rel => exact ⟨k + 1, _, by omega, by go_num, kb5, hp5, hU5, hb5⟩
            case measure => simp [intOf]; omega
          refine AllReadyH.cons rfl (fun K hK => ?_) AllReadyH.nil
          go_simp
          refine (rblank_any _).mono ?_
          rintro e9 f2 ⟨rfl, hb2⟩
          have hB2 := bt hD hb2
          refine hK.out _ _ trivial (fun hHeld => ?_)
          clear hK K
          try simp only [Act.put, List.getElem_toArray, List.getElem_cons_succ, List.getElem_cons_zero, List.setIfInBounds_toArray, List.set_cons_zero, List.set_cons_succ]
          refine wpAnyH_ready (rs := [1, 3]) (by kernel_rfl) (by simp) ?_
          refine AllReadyH.cons rfl (fun K hK => ?_) ?_
          · have c0 := (kb.kept hB2).cell' (i := 0) rfl
            go_simp
            refine hK.out _ _ trivial (fun hHeld => ?_)
            clear hK K
            try simp only [Act.put, List.getElem_toArray, List.getElem_cons_succ, List.getElem_cons_zero, List.setIfInBounds_toArray, List.set_cons_zero, List.set_cons_succ]
            refine wpAnyH_ready (rs := [3]) (by kernel_rfl) (by simp) ?_
            refine AllReadyH.cons rfl (fun K hK => ?_) AllReadyH.nil
            refine wp_buildPage (.tmp 57) rfl (fillP 255) rfl (fillP_length _) ?_
            have hB3 := bt hB2 (below_alloc f2 (.cells (vals (fillP 255)).toArray 46))
            have s3 := Blk.new f2 46 (vals (fillP 255))
            refine hK.out _ _ trivial (fun hHeld => ?_)
            clear hK K
            try simp only [Act.put, List.getElem_toArray, List.getElem_cons_succ, List.getElem_cons_zero, List.setIfInBounds_toArray, List.set_cons_zero, List.set_cons_succ]
            refine wpAnyH_ready (rs := [4]) (by kernel_rfl) (by simp) ?_
            refine AllReadyH.cons rfl (fun K hK => ?_) AllReadyH.nil
            refine wp_appendPage (.tmp 56) (.tmp 58) rfl u (List.replicate k (fillP 255)) rfl (hP.below hB3) ⟨f2.heap.size, 0, none⟩ (fillP 255) rfl (isP_fill 255 (by omega)) (fun j y hj => by rw [addr_add, Nat.zero_add]; exact s3.cell' hj) (by rw [List.length_replicate]; omega) ?_
            intro p4 c4 w4 hp4 hg4 hat4
            have kb4 : Blk w4 gb 87 _ := (kb.kept hB3).same (hg4.block gb (Nat.lt_of_lt_of_le kb.lt hB3.size) (fun e => by have := hU _ e.symm; omega))
            refine hK.out _ _ trivial (fun hHeld => ?_)
            clear hK K
            try simp only [Act.put, List.getElem_toArray, List.getElem_cons_succ, List.getElem_cons_zero, List.setIfInBounds_toArray, List.set_cons_zero, List.set_cons_succ]
            refine wpAnyH_take (i := 5) (v := ?_) rfl (by kernel_rfl) (by kernel_rfl) (by kernel_rfl) (fun _ _ _ h => h) (Or.inl ⟨by rfl, ?_⟩) hHeld ?_
            rotate_left
            · intro w' hSw; try dsimp only at hSw
              go_simp; try (with_reducible rfl)
            try simp only [Act.put, List.getElem_toArray, List.getElem_cons_succ, List.getElem_cons_zero, List.setIfInBounds_toArray, List.set_cons_zero, List.set_cons_succ]
            refine wpAnyH_ready (rs := [6]) (by kernel_rfl) (by simp) ?_
            refine AllReadyH.cons rfl (fun K hK => ?_) AllReadyH.nil
            have c6 := kb4.cell' (i := 0) rfl
            have f6 := kb4.frozen 0
            go_simp
            refine hK.out _ _ trivial (fun hHeld => ?_)
            clear hK K
            try simp only [Act.put, List.getElem_toArray, List.getElem_cons_succ, List.getElem_cons_zero, List.setIfInBounds_toArray, List.set_cons_zero, List.set_cons_succ]
            refine wpAnyH_done (by kernel_rfl) ?_ _
            refine NoPanic.normal ?_
            clear hHeld
            rw [List.length_replicate, ← List.replicate_succ'] at hp4
            rw [List.length_replicate] at hat4
            have kb5 := kb4.set 0 (.slice p4 (k + 1) c4)
            have tX := Turned.setCell w4 ⟨gb, 0, none⟩ (.slice p4 (k + 1) c4)
            have hb5 : Below w0.heap.size w0 (w4.setCell ⟨gb, 0, none⟩ (.slice p4 (k + 1) c4)) := tX.below ((hwi.trans (hB3.mono hwi.size)).grown hg4 (Nat.le_trans hwi.size hB3.size) (fun j hj => by have := hU j hj; omega)) (by show w0.heap.size ≤ gb; omega)
            have hU5 : ∀ j, (Value.slice p4 (k + 1) c4).ownBlock = some j → gb < j := fun j hj => by
              rcases hat4 with h | h
              · exact hU j (h.symm.trans hj)
              · have := hB3.size; have := kb.lt; rw [h] at hj; cases hj; omega
            have hp5 := hp4.same (w' := w4.setCell ⟨gb, 0, none⟩ (.slice p4 (k + 1) c4)) (fun j hj => tX.block j (by have := hU5 j hj; show j ≠ gb; omega))
            go_wp2
            go_roundw
            case rel => exact ⟨k + 1, _, by omega, by go_num, kb5, hp5, hU5, hb5⟩
            case measure => simp [intOf]; omega
          refine AllReadyH.cons rfl (fun K hK => ?_) AllReadyH.nil
          refine wp_buildPage (.tmp 57) rfl (fillP 255) rfl (fillP_length _) ?_
          have hB3 := bt hB2 (below_alloc f2 (.cells (vals (fillP 255)).toArray 46))
          have s3 := Blk.new f2 46 (vals (fillP 255))
          refine hK.out _ _ trivial (fun hHeld => ?_)
          clear hK K
          try simp only [Act.put, List.getElem_toArray, List.getElem_cons_succ, List.getElem_cons_zero, List.setIfInBounds_toArray, List.set_cons_zero, List.set_cons_succ]
          refine wpAnyH_ready (rs := [1]) (by kernel_rfl) (by simp) ?_
          refine AllReadyH.cons rfl (fun K hK => ?_) AllReadyH.nil
          have c0 := (kb.kept hB3).cell' (i := 0) rfl
          go_simp
          refine hK.out _ _ trivial (fun hHeld => ?_)
          clear hK K
          try simp only [Act.put, List.getElem_toArray, List.getElem_cons_succ, List.getElem_cons_zero, List.setIfInBounds_toArray, List.set_cons_zero, List.set_cons_succ]
          refine wpAnyH_ready (rs := [4]) (by kernel_rfl) (by simp) ?_
          refine AllReadyH.cons rfl (fun K hK => ?_) AllReadyH.nil
          refine wp_appendPage (.tmp 56) (.tmp 58) rfl u (List.replicate k (fillP 255)) rfl (hP.below hB3) ⟨f2.heap.size, 0, none⟩ (fillP 255) rfl (isP_fill 255 (by omega)) (fun j y hj => by rw [addr_add, Nat.zero_add]; exact s3.cell' hj) (by rw [List.length_replicate]; omega) ?_
          intro p4 c4 w4 hp4 hg4 hat4
          have kb4 : Blk w4 gb 87 _ := (kb.kept hB3).same (hg4.block gb (Nat.lt_of_lt_of_le kb.lt hB3.size) (fun e => by have := hU _ e.symm; omega))
          refine hK.out _ _ trivial (fun hHeld => ?_)
          clear hK K
          try simp only [Act.put, List.getElem_toArray, List.getElem_cons_succ, List.getElem_cons_zero, List.setIfInBounds_toArray, List.set_cons_zero, List.set_cons_succ]
          refine wpAnyH_take (i := 5) (v := ?_) rfl (by kernel_rfl) (by kernel_rfl) (by kernel_rfl) (fun _ _ _ h => h) (Or.inl ⟨by rfl, ?_⟩) hHeld ?_
          rotate_left
          · intro w' hSw; try dsimp only at hSw
            go_simp; try (with_reducible rfl)
          try simp only [Act.put, List.getElem_toArray, List.getElem_cons_succ, List.getElem_cons_zero, List.setIfInBounds_toArray, List.set_cons_zero, List.set_cons_succ]
          refine wpAnyH_ready (rs := [6]) (by kernel_rfl) (by simp) ?_
          refine AllReadyH.cons rfl (fun K hK => ?_) AllReadyH.nil
          have c6 := kb4.cell' (i := 0) rfl
          have f6 := kb4.frozen 0
          go_simp
          refine hK.out _ _ trivial (fun hHeld => ?_)
          clear hK K
          try simp only [Act.put, List.getElem_toArray, List.getElem_cons_succ, List.getElem_cons_zero, List.setIfInBounds_toArray, List.set_cons_zero, List.set_cons_succ]
          refine wpAnyH_done (by kernel_rfl) ?_ _
          refine NoPanic.normal ?_
          clear hHeld
          rw [List.length_replicate, ← List.replicate_succ'] at hp4
          rw [List.length_replicate] at hat4
          have kb5 := kb4.set 0 (.slice p4 (k + 1) c4)
          have tX := Turned.setCell w4 ⟨gb, 0, none⟩ (.slice p4 (k + 1) c4)
          have hb5 : Below w0.heap.size w0 (w4.setCell ⟨gb, 0, none⟩ (.slice p4 (k + 1) c4)) := tX.below ((hwi.trans (hB3.mono hwi.size)).grown hg4 (Nat.le_trans hwi.size hB3.size) (fun j hj => by have := hU j hj; omega)) (by show w0.heap.size ≤ gb; omega)
          have hU5 : ∀ j, (Value.slice p4 (k + 1) c4).ownBlock = some j → gb < j := fun j hj => by
            rcases hat4 with h | h
            · exact hU j (h.symm.trans hj)
            · have := hB3.size; have := kb.lt; rw [h] at hj; cases hj; omega
          have hp5 := hp4.same (w' := w4.setCell ⟨gb, 0, none⟩ (.slice p4 (k + 1) c4)) (fun j hj => tX.block j (by have := hU5 j hj; show j ≠ gb; omega))
          go_wp2
          go_roundw
          case rel => exact ⟨k + 1, _, by omega, by go_num, kb5, hp5, hU5, hb5⟩
          case measure => simp [intOf]; omega
        · obtain rfl : np = k := by omega
          have hkn : ¬ (np : Int) < (np : Int) := by omega
          have hwwi := hww.trans (hwi.mono hww.size)
          replace kr := kr.kept hwi
          replace hrow := owns_belowR hrow hwi
          have hPLi := fun y hy => (hPL y hy).below hwi
          have hBw : (w.heap.size + 2) ≤ wr.heap.size := by have := kr.lt; omega
          have hu1 : u.oneCell' = true := by
            obtain ⟨pp, cc, hpc⟩ := owns_slice hP.row
            rw [hpc]; rfl
          go_upto_region 12 with fail
          refine wp_region_noPanic ?_
          refine wp_region_held_drew (S := fun _ => True) (by kernel_rfl) trivial (fun hHeld => ?_)
          refine wpAnyH_take (i := 0) (v := ?_) rfl (by kernel_rfl) (by kernel_rfl) (by kernel_rfl) (fun _ _ _ h => h) (Or.inl ⟨by rfl, ?_⟩) hHeld ?_
          rotate_left
          · intro w' hSw; try dsimp only at hSw
            go_simp; try (with_reducible rfl)
          try simp only [Act.put, List.getElem_toArray, List.getElem_cons_succ, List.getElem_cons_zero, List.setIfInBounds_toArray, List.set_cons_zero, List.set_cons_succ]
          refine wpAnyH_take (i := 1) (v := ?_) rfl (by kernel_rfl) (by kernel_rfl) (by kernel_rfl) (fun _ _ _ h => h) (Or.inl ⟨by rfl, ?_⟩) hHeld ?_
          rotate_left
          · intro w' hSw; try dsimp only at hSw
            go_simp; try (with_reducible rfl)
          try simp only [Act.put, List.getElem_toArray, List.getElem_cons_succ, List.getElem_cons_zero, List.setIfInBounds_toArray, List.set_cons_zero, List.set_cons_succ]
          refine wpAnyH_take (i := 2) (v := ?_) rfl (by kernel_rfl) (by kernel_rfl) (by kernel_rfl) (fun _ _ _ h => h) (Or.inl ⟨by rfl, ?_⟩) hHeld ?_
          rotate_left
          · intro w' hSw; try dsimp only at hSw
            go_simp; try (with_reducible rfl)
          try simp only [Act.put, List.getElem_toArray, List.getElem_cons_succ, List.getElem_cons_zero, List.setIfInBounds_toArray, List.set_cons_zero, List.set_cons_succ]
          refine wpAnyH_take (i := 3) (v := ?_) rfl (by kernel_rfl) (by kernel_rfl) (by kernel_rfl) (fun _ _ _ h => h) (Or.inl ⟨by rfl, ?_⟩) hHeld ?_
          rotate_left
          · intro w' hSw; try dsimp only at hSw
            go_simp; try (with_reducible rfl)
          try simp only [Act.put, List.getElem_toArray, List.getElem_cons_succ, List.getElem_cons_zero, List.setIfInBounds_toArray, List.set_cons_zero, List.set_cons_succ]
          refine wpAnyH_ready (rs := [4, 5]) (by kernel_rfl) (by simp) ?_
          refine AllReadyH.cons rfl (fun K hK => ?_) ?_
          · have c4 := (kr.kept hD).cell' (i := 2) rfl
            go_simp
            refine hK.out _ _ trivial (fun hHeld => ?_)
            clear hK K
            try simp only [Act.put, List.getElem_toArray, List.getElem_cons_succ, List.getElem_cons_zero, List.setIfInBounds_toArray, List.set_cons_zero, List.set_cons_succ]
            refine wpAnyH_ready (rs := [5]) (by kernel_rfl) (by simp) ?_
            refine AllReadyH.cons rfl (fun K hK => ?_) AllReadyH.nil
            obtain ⟨x0, x1, x2, x3⟩ : wr.drew.cell? ⟨gb, 0, none⟩ = some u ∧ wr.drew.cell? ⟨gb, 1, none⟩ = some (.int .i64 0) ∧ wr.drew.cell? ⟨gb, 2, none⟩ = some (.int .i64 0) ∧ wr.drew.cell? ⟨gb, 3, none⟩ = some (.bool false) := ⟨(kb.kept hD).cell' rfl, (kb.kept hD).cell' rfl, (kb.kept hD).cell' rfl, (kb.kept hD).cell' rfl⟩
            go_simp
            refine hK.out _ _ trivial (fun hHeld => ?_)
            clear hK K
            try simp only [Act.put, List.getElem_toArray, List.getElem_cons_succ, List.getElem_cons_zero, List.setIfInBounds_toArray, List.set_cons_zero, List.set_cons_succ]
            refine wpAnyH_ready (rs := [6]) (by kernel_rfl) (by simp) ?_
            refine AllReadyH.cons rfl (fun K hK => ?_) AllReadyH.nil
            go_simp
            have hB6 := (below_alloc wr (.cells #[u, .int .i64 0, .int .i64 0, .bool false] 87)).drew
            have s6 := (Blk.new' wr 87 #[u, .int .i64 0, .int .i64 0, .bool false]).kept ((Below.refl _ _).drew)
            refine hK.out _ _ trivial (fun hHeld => ?_)
            clear hK K
            try simp only [Act.put, List.getElem_toArray, List.getElem_cons_succ, List.getElem_cons_zero, List.setIfInBounds_toArray, List.set_cons_zero, List.set_cons_succ]
            refine wpAnyH_ready (rs := [7]) (by kernel_rfl) (by simp) ?_
            refine AllReadyH.cons rfl (fun K hK => ?_) AllReadyH.nil
            refine wp_appendRB (w.heap.size + 2) (.tmp 65) (.tmp 67) rfl v i (L.map (·, false)) (u, false) rfl (owns_belowR hrow hB6) (Nat.le_trans hBw hB6.size) _ rfl s6 hu1 (by omega) ?_
            intro p7 c7 w7 hown7 hg7
            have kr7 : Blk w7 (w.heap.size + 1) 85 _ := (kr.kept hB6).same (hg7.block (w.heap.size + 1) (Nat.lt_of_lt_of_le kr.lt hB6.size) (fun e => by have := (hrow.lt _ e.symm).1; omega))
            refine hK.out _ _ trivial (fun hHeld => ?_)
            clear hK K
            try simp only [Act.put, List.getElem_toArray, List.getElem_cons_succ, List.getElem_cons_zero, List.setIfInBounds_toArray, List.set_cons_zero, List.set_cons_succ]
            refine wpAnyH_take (i := 8) (v := ?_) rfl (by kernel_rfl) (by kernel_rfl) (by kernel_rfl) (fun _ _ _ h => h) (Or.inl ⟨by rfl, ?_⟩) hHeld ?_
            rotate_left
            · intro w' hSw; try dsimp only at hSw
              go_simp; try (with_reducible rfl)
            try simp only [Act.put, List.getElem_toArray, List.getElem_cons_succ, List.getElem_cons_zero, List.setIfInBounds_toArray, List.set_cons_zero, List.set_cons_succ]
            refine wpAnyH_take (i := 9) (v := ?_) rfl (by kernel_rfl) (by kernel_rfl) (by kernel_rfl) (fun _ _ _ h => h) (Or.inl ⟨by rfl, ?_⟩) hHeld ?_
            rotate_left
            · intro w' hSw; try dsimp only at hSw
              go_simp; try (with_reducible rfl)
            try simp only [Act.put, List.getElem_toArray, List.getElem_cons_succ, List.getElem_cons_zero, List.setIfInBounds_toArray, List.set_cons_zero, List.set_cons_succ]
            refine wpAnyH_ready (rs := [10]) (by kernel_rfl) (by simp) ?_
            refine AllReadyH.cons rfl (fun K hK => ?_) AllReadyH.nil
            have c10 := kr7.cell' (i := 2) rfl
            have f10 := kr7.frozen 2
            go_simp
            refine hK.out _ _ trivial (fun hHeld => ?_)
            clear hK K
            try simp only [Act.put, List.getElem_toArray, List.getElem_cons_succ, List.getElem_cons_zero, List.setIfInBounds_toArray, List.set_cons_zero, List.set_cons_succ]
            refine wpAnyH_done (by kernel_rfl) ?_ _
            refine NoPanic.normal ?_
            clear hHeld
            have kr8 := kr7.set 2 (.slice p7 (i + 1) c7)
            have tX := Turned.setCell w7 ⟨(w.heap.size + 1), 2, none⟩ (.slice p7 (i + 1) c7)
            have hne7 : ∀ j, v.ownBlock = some j → (w.heap.size + 2) ≤ j := fun j hj => (hrow.lt j hj).1
            have hob : ∀ j, v.ownBlock = some j → ∃ cs, wr.heap[j]? = some (.cells cs 87 (0, 0)) := fun j hj => owns_objR hrow hj
            have hown8 := owns_sameR (w' := w7.setCell ⟨(w.heap.size + 1), 2, none⟩ (.slice p7 (i + 1) c7)) hown7 (fun j hj => tX.block j (by have := (hown7.lt j hj).1; show j ≠ (w.heap.size + 1); omega))
            have hpg : ∀ y, PagesIn wr y (List.replicate np (fillP 255)) → PagesIn (w7.setCell ⟨(w.heap.size + 1), 2, none⟩ (.slice p7 (i + 1) c7)) y (List.replicate np (fillP 255)) := fun y hy => hy.same (fun j hj => by
              obtain ⟨cs, hcs⟩ := owns_objR hy.row hj
              have hjl := hy.lt hj
              refine (tX.block j (by rintro rfl; rw [show wr.heap[(w.heap.size + 1)]? = _ from kr] at hcs; cases hcs)).trans ((hg7.block j (Nat.lt_of_lt_of_le hjl hB6.size) (fun e => ?_)).trans (hB6.block j hjl))
              obtain ⟨cs', hcs'⟩ := hob j e.symm
              rw [hcs] at hcs'
              cases hcs')
            have hPL8 : ∀ y ∈ L ++ [u], PagesIn (w7.setCell ⟨(w.heap.size + 1), 2, none⟩ (.slice p7 (i + 1) c7)) y (List.replicate np (fillP 255)) := fun y hy => by
              rcases List.mem_append.1 hy with h | h
              · exact hpg y (hPLi y h)
              · rw [List.mem_singleton.1 h]; exact hpg u hP
            have hge : w.heap.size ≠ (w.heap.size + 1) := by omega
            have hG8 : Blk (w7.setCell ⟨(w.heap.size + 1), 2, none⟩ (.slice p7 (i + 1) c7)) w.heap.size 23 [.int .i64 (nb : Int), .int .i64 (np : Int)] := ((hGi.kept hB6).same (hg7.block _ (Nat.lt_of_lt_of_le hGi.lt hB6.size) (fun e => by have := hne7 _ e.symm; omega))).turned tX hge
            have hb8 : Below w.heap.size w (w7.setCell ⟨(w.heap.size + 1), 2, none⟩ (.slice p7 (i + 1) c7)) := tX.below ((hwwi.trans (hB6.mono hwwi.size)).grown hg7 (Nat.le_trans hwwi.size hB6.size) (fun j hj => by have := hne7 j hj; omega)) (by show w.heap.size ≤ (w.heap.size + 1); omega)
            have hAP8 := hAP.snoc hPL (g := gb) (by omega) (by omega) hU
            have HL8 : Hid ((L ++ [u]).length = i + 1) := by show _ = _; rw [List.length_append, HL.out]; rfl
            rw [show L.map (fun x => (x, false)) ++ [(u, false)] = (L ++ [u]).map (fun x => (x, false)) from by rw [List.map_append]; rfl] at hown8
            go_wp2
            go_roundw
            case rel => exact ⟨i + 1, L ++ [u], _, by omega, by go_num, HL8, kr8, hown8, hPL8, hAP8, hG8, hb8⟩
            case measure => simp [intOf]; omega
          refine AllReadyH.cons rfl (fun K hK => ?_) AllReadyH.nil
          obtain ⟨x0, x1, x2, x3⟩ : wr.drew.cell? ⟨gb, 0, none⟩ = some u ∧ wr.drew.cell? ⟨gb, 1, none⟩ = some (.int .i64 0) ∧ wr.drew.cell? ⟨gb, 2, none⟩ = some (.int .i64 0) ∧ wr.drew.cell? ⟨gb, 3, none⟩ = some (.bool false) := ⟨(kb.kept hD).cell' rfl, (kb.kept hD).cell' rfl, (kb.kept hD).cell' rfl, (kb.kept hD).cell' rfl⟩
          go_simp
          refine hK.out _ _ trivial (fun hHeld => ?_)
          clear hK K
          try simp only [Act.put, List.getElem_toArray, List.getElem_cons_succ, List.getElem_cons_zero, List.setIfInBounds_toArray, List.set_cons_zero, List.set_cons_succ]
          refine wpAnyH_ready (rs := [4, 6]) (by kernel_rfl) (by simp) ?_
          refine AllReadyH.cons rfl (fun K hK => ?_) ?_
          · have c4 := (kr.kept hD).cell' (i := 2) rfl
            go_simp
            refine hK.out _ _ trivial (fun hHeld => ?_)
            clear hK K
            try simp only [Act.put, List.getElem_toArray, List.getElem_cons_succ, List.getElem_cons_zero, List.setIfInBounds_toArray, List.set_cons_zero, List.set_cons_succ]
            refine wpAnyH_ready (rs := [6]) (by kernel_rfl) (by simp) ?_
            refine AllReadyH.cons rfl (fun K hK => ?_) AllReadyH.nil
            go_simp
            have hB6 := (below_alloc wr (.cells #[u, .int .i64 0, .int .i64 0, .bool false] 87)).drew
            have s6 := (Blk.new' wr 87 #[u, .int .i64 0, .int .i64 0, .bool false]).kept ((Below.refl _ _).drew)
            refine hK.out _ _ trivial (fun hHeld => ?_)
            clear hK K
            try simp only [Act.put, List.getElem_toArray, List.getElem_cons_succ, List.getElem_cons_zero, List.setIfInBounds_toArray, List.set_cons_zero, List.set_cons_succ]
            refine wpAnyH_ready (rs := [7]) (by kernel_rfl) (by simp) ?_
            refine AllReadyH.cons rfl (fun K hK => ?_) AllReadyH.nil
            refine wp_appendRB (w.heap.size + 2) (.tmp 65) (.tmp 67) rfl v i (L.map (·, false)) (u, false) rfl (owns_belowR hrow hB6) (Nat.le_trans hBw hB6.size) _ rfl s6 hu1 (by omega) ?_
            intro p7 c7 w7 hown7 hg7
            have kr7 : Blk w7 (w.heap.size + 1) 85 _ := (kr.kept hB6).same (hg7.block (w.heap.size + 1) (Nat.lt_of_lt_of_le kr.lt hB6.size) (fun e => by have := (hrow.lt _ e.symm).1; omega))
            refine hK.out _ _ trivial (fun hHeld => ?_)
            clear hK K
            try simp only [Act.put, List.getElem_toArray, List.getElem_cons_succ, List.getElem_cons_zero, List.setIfInBounds_toArray, List.set_cons_zero, List.set_cons_succ]
            refine wpAnyH_take (i := 8) (v := ?_) rfl (by kernel_rfl) (by kernel_rfl) (by kernel_rfl) (fun _ _ _ h => h) (Or.inl ⟨by rfl, ?_⟩) hHeld ?_
            rotate_left
            · intro w' hSw; try dsimp only at hSw
              go_simp; try (with_reducible rfl)
            try simp only [Act.put, List.getElem_toArray, List.getElem_cons_succ, List.getElem_cons_zero, List.setIfInBounds_toArray, List.set_cons_zero, List.set_cons_succ]
            refine wpAnyH_take (i := 9) (v := ?_) rfl (by kernel_rfl) (by kernel_rfl) (by kernel_rfl) (fun _ _ _ h => h) (Or.inl ⟨by rfl, ?_⟩) hHeld ?_
            rotate_left
            · intro w' hSw; try dsimp only at hSw
              go_simp; try (with_reducible rfl)
            try simp only [Act.put, List.getElem_toArray, List.getElem_cons_succ, List.getElem_cons_zero, List.setIfInBounds_toArray, List.set_cons_zero, List.set_cons_succ]
            refine wpAnyH_ready (rs := [10]) (by kernel_rfl) (by simp) ?_
            refine AllReadyH.cons rfl (fun K hK => ?_) AllReadyH.nil
            have c10 := kr7.cell' (i := 2) rfl
            have f10 := kr7.frozen 2
            go_simp
            refine hK.out _ _ trivial (fun hHeld => ?_)
            clear hK K
            try simp only [Act.put, List.getElem_toArray, List.getElem_cons_succ, List.getElem_cons_zero, List.setIfInBounds_toArray, List.set_cons_zero, List.set_cons_succ]
            refine wpAnyH_done (by kernel_rfl) ?_ _
            refine NoPanic.normal ?_
            clear hHeld
            have kr8 := kr7.set 2 (.slice p7 (i + 1) c7)
            have tX := Turned.setCell w7 ⟨(w.heap.size + 1), 2, none⟩ (.slice p7 (i + 1) c7)
            have hne7 : ∀ j, v.ownBlock = some j → (w.heap.size + 2) ≤ j := fun j hj => (hrow.lt j hj).1
            have hob : ∀ j, v.ownBlock = some j → ∃ cs, wr.heap[j]? = some (.cells cs 87 (0, 0)) := fun j hj => owns_objR hrow hj
            have hown8 := owns_sameR (w' := w7.setCell ⟨(w.heap.size + 1), 2, none⟩ (.slice p7 (i + 1) c7)) hown7 (fun j hj => tX.block j (by have := (hown7.lt j hj).1; show j ≠ (w.heap.size + 1); omega))
            have hpg : ∀ y, PagesIn wr y (List.replicate np (fillP 255)) → PagesIn (w7.setCell ⟨(w.heap.size + 1), 2, none⟩ (.slice p7 (i + 1) c7)) y (List.replicate np (fillP 255)) := fun y hy => hy.same (fun j hj => by
              obtain ⟨cs, hcs⟩ := owns_objR hy.row hj
              have hjl := hy.lt hj
              refine (tX.block j (by rintro rfl; rw [show wr.heap[(w.heap.size + 1)]? = _ from kr] at hcs; cases hcs)).trans ((hg7.block j (Nat.lt_of_lt_of_le hjl hB6.size) (fun e => ?_)).trans (hB6.block j hjl))
              obtain ⟨cs', hcs'⟩ := hob j e.symm
              rw [hcs] at hcs'
              cases hcs')
            have hPL8 : ∀ y ∈ L ++ [u], PagesIn (w7.setCell ⟨(w.heap.size + 1), 2, none⟩ (.slice p7 (i + 1) c7)) y (List.replicate np (fillP 255)) := fun y hy => by
              rcases List.mem_append.1 hy with h | h
              · exact hpg y (hPLi y h)
              · rw [List.mem_singleton.1 h]; exact hpg u hP
            have hge : w.heap.size ≠ (w.heap.size + 1) := by omega
            have hG8 : Blk (w7.setCell ⟨(w.heap.size + 1), 2, none⟩ (.slice p7 (i + 1) c7)) w.heap.size 23 [.int .i64 (nb : Int), .int .i64 (np : Int)] := ((hGi.kept hB6).same (hg7.block _ (Nat.lt_of_lt_of_le hGi.lt hB6.size) (fun e => by have := hne7 _ e.symm; omega))).turned tX hge
            have hb8 : Below w.heap.size w (w7.setCell ⟨(w.heap.size + 1), 2, none⟩ (.slice p7 (i + 1) c7)) := tX.below ((hwwi.trans (hB6.mono hwwi.size)).grown hg7 (Nat.le_trans hwwi.size hB6.size) (fun j hj => by have := hne7 j hj; omega)) (by show w.heap.size ≤ (w.heap.size + 1); omega)
            have hAP8 := hAP.snoc hPL (g := gb) (by omega) (by omega) hU
            have HL8 : Hid ((L ++ [u]).length = i + 1) := by show _ = _; rw [List.length_append, HL.out]; rfl
            rw [show L.map (fun x => (x, false)) ++ [(u, false)] = (L ++ [u]).map (fun x => (x, false)) from by rw [List.map_append]; rfl] at hown8
            go_wp2
            go_roundw
            case rel => exact ⟨i + 1, L ++ [u], _, by omega, by go_num, HL8, kr8, hown8, hPL8, hAP8, hG8, hb8⟩
            case measure => simp [intOf]; omega
          refine AllReadyH.cons rfl (fun K hK => ?_) AllReadyH.nil
          go_simp
          have hB6 := (below_alloc wr (.cells #[u, .int .i64 0, .int .i64 0, .bool false] 87)).drew
          have s6 := (Blk.new' wr 87 #[u, .int .i64 0, .int .i64 0, .bool false]).kept ((Below.refl _ _).drew)
          refine hK.out _ _ trivial (fun hHeld => ?_)
          clear hK K
          try simp only [Act.put, List.getElem_toArray, List.getElem_cons_succ, List.getElem_cons_zero, List.setIfInBounds_toArray, List.set_cons_zero, List.set_cons_succ]
          refine wpAnyH_ready (rs := [4]) (by kernel_rfl) (by simp) ?_
          refine AllReadyH.cons rfl (fun K hK => ?_) AllReadyH.nil
          have c4 := (kr.kept hB6).cell' (i := 2) rfl
          go_simp
          refine hK.out _ _ trivial (fun hHeld => ?_)
          clear hK K
          try simp only [Act.put, List.getElem_toArray, List.getElem_cons_succ, List.getElem_cons_zero, List.setIfInBounds_toArray, List.set_cons_zero, List.set_cons_succ]
          refine wpAnyH_ready (rs := [7]) (by kernel_rfl) (by simp) ?_
          refine AllReadyH.cons rfl (fun K hK => ?_) AllReadyH.nil
          refine wp_appendRB (w.heap.size + 2) (.tmp 65) (.tmp 67) rfl v i (L.map (·, false)) (u, false) rfl (owns_belowR hrow hB6) (Nat.le_trans hBw hB6.size) _ rfl s6 hu1 (by omega) ?_
          intro p7 c7 w7 hown7 hg7
          have kr7 : Blk w7 (w.heap.size + 1) 85 _ := (kr.kept hB6).same (hg7.block (w.heap.size + 1) (Nat.lt_of_lt_of_le kr.lt hB6.size) (fun e => by have := (hrow.lt _ e.symm).1; omega))
          refine hK.out _ _ trivial (fun hHeld => ?_)
          clear hK K
          try simp only [Act.put, List.getElem_toArray, List.getElem_cons_succ, List.getElem_cons_zero, List.setIfInBounds_toArray, List.set_cons_zero, List.set_cons_succ]
          refine wpAnyH_take (i := 8) (v := ?_) rfl (by kernel_rfl) (by kernel_rfl) (by kernel_rfl) (fun _ _ _ h => h) (Or.inl ⟨by rfl, ?_⟩) hHeld ?_
          rotate_left
          · intro w' hSw; try dsimp only at hSw
            go_simp; try (with_reducible rfl)
          try simp only [Act.put, List.getElem_toArray, List.getElem_cons_succ, List.getElem_cons_zero, List.setIfInBounds_toArray, List.set_cons_zero, List.set_cons_succ]
          refine wpAnyH_take (i := 9) (v := ?_) rfl (by kernel_rfl) (by kernel_rfl) (by kernel_rfl) (fun _ _ _ h => h) (Or.inl ⟨by rfl, ?_⟩) hHeld ?_
          rotate_left
          · intro w' hSw; try dsimp only at hSw
            go_simp; try (with_reducible rfl)
          try simp only [Act.put, List.getElem_toArray, List.getElem_cons_succ, List.getElem_cons_zero, List.setIfInBounds_toArray, List.set_cons_zero, List.set_cons_succ]
          refine wpAnyH_ready (rs := [10]) (by kernel_rfl) (by simp) ?_
          refine AllReadyH.cons rfl (fun K hK => ?_) AllReadyH.nil
          have c10 := kr7.cell' (i := 2) rfl
          have f10 := kr7.frozen 2
          go_simp
          refine hK.out _ _ trivial (fun hHeld => ?_)
          clear hK K
          try simp only [Act.put, List.getElem_toArray, List.getElem_cons_succ, List.getElem_cons_zero, List.setIfInBounds_toArray, List.set_cons_zero, List.set_cons_succ]
          refine wpAnyH_done (by kernel_rfl) ?_ _
          refine NoPanic.normal ?_
          clear hHeld
          have kr8 := kr7.set 2 (.slice p7 (i + 1) c7)
          have tX := Turned.setCell w7 ⟨(w.heap.size + 1), 2, none⟩ (.slice p7 (i + 1) c7)
          have hne7 : ∀ j, v.ownBlock = some j → (w.heap.size + 2) ≤ j := fun j hj => (hrow.lt j hj).1
          have hob : ∀ j, v.ownBlock = some j → ∃ cs, wr.heap[j]? = some (.cells cs 87 (0, 0)) := fun j hj => owns_objR hrow hj
          have hown8 := owns_sameR (w' := w7.setCell ⟨(w.heap.size + 1), 2, none⟩ (.slice p7 (i + 1) c7)) hown7 (fun j hj => tX.block j (by have := (hown7.lt j hj).1; show j ≠ (w.heap.size + 1); omega))
          have hpg : ∀ y, PagesIn wr y (List.replicate np (fillP 255)) → PagesIn (w7.setCell ⟨(w.heap.size + 1), 2, none⟩ (.slice p7 (i + 1) c7)) y (List.replicate np (fillP 255)) := fun y hy => hy.same (fun j hj => by
            obtain ⟨cs, hcs⟩ := owns_objR hy.row hj
            have hjl := hy.lt hj
            refine (tX.block j (by rintro rfl; rw [show wr.heap[(w.heap.size + 1)]? = _ from kr] at hcs; cases hcs)).trans ((hg7.block j (Nat.lt_of_lt_of_le hjl hB6.size) (fun e => ?_)).trans (hB6.block j hjl))
            obtain ⟨cs', hcs'⟩ := hob j e.symm
            rw [hcs] at hcs'
            cases hcs')
          have hPL8 : ∀ y ∈ L ++ [u], PagesIn (w7.setCell ⟨(w.heap.size + 1), 2, none⟩ (.slice p7 (i + 1) c7)) y (List.replicate np (fillP 255)) := fun y hy => by
            rcases List.mem_append.1 hy with h | h
            · exact hpg y (hPLi y h)
            · rw [List.mem_singleton.1 h]; exact hpg u hP
          have hge : w.heap.size ≠ (w.heap.size + 1) := by omega
          have hG8 : Blk (w7.setCell ⟨(w.heap.size + 1), 2, none⟩ (.slice p7 (i + 1) c7)) w.heap.size 23 [.int .i64 (nb : Int), .int .i64 (np : Int)] := ((hGi.kept hB6).same (hg7.block _ (Nat.lt_of_lt_of_le hGi.lt hB6.size) (fun e => by have := hne7 _ e.symm; omega))).turned tX hge
          have hb8 : Below w.heap.size w (w7.setCell ⟨(w.heap.size + 1), 2, none⟩ (.slice p7 (i + 1) c7)) := tX.below ((hwwi.trans (hB6.mono hwwi.size)).grown hg7 (Nat.le_trans hwwi.size hB6.size) (fun j hj => by have := hne7 j hj; omega)) (by show w.heap.size ≤ (w.heap.size + 1); omega)
          have hAP8 := hAP.snoc hPL (g := gb) (by omega) (by omega) hU
          have HL8 : Hid ((L ++ [u]).length = i + 1) := by show _ = _; rw [List.length_append, HL.out]; rfl
          rw [show L.map (fun x => (x, false)) ++ [(u, false)] = (L ++ [u]).map (fun x => (x, false)) from by rw [List.map_append]; rfl] at hown8
          go_wp2
          go_roundw
          case rel => exact ⟨i + 1, L ++ [u], _, by omega, by go_num, HL8, kr8, hown8, hPL8, hAP8, hG8, hb8⟩
          case measure => simp [intOf]; omega
    · obtain rfl : nb = i := by omega
      have hkn : ¬ (nb : Int) < (nb : Int) := by omega
      obtain ⟨gr, cr, hvv⟩ : ∃ gr cr, v = .slice (some ⟨gr, 0, none⟩) nb cr := by
        rcases hrow.2 with ⟨_, h0⟩ | ⟨gr, cap, cur, h1, _⟩
        · omega
        · exact ⟨gr, cap, h1⟩
      subst hvv
      have hgr0 := (hrow.lt gr rfl)
      rw [map_zip_false HL.out] at hrow
      generalize hwA : wr = wA at *
      subst hwA
      go_wp2
      go_loopw [12] (fun t wr => ∃ (k : Nat) (mk : List Bool), k ≤ m ∧ t = .int .i64 (k : Int) ∧ Hid (mk.length = nb) ∧ Hid (markL nb bs (List.replicate nb false) = markL nb (bs.drop k) mk) ∧ Blk wr (w.heap.size + 1) 85 [.int .i64 (nb : Int), .int .i64 (np : Int), .slice (some ⟨gr, 0, none⟩) nb cr, .slice none 0 0, .int .i64 0, .bool true] ∧ wr.ownsRow (w.heap.size + 2) 87 4 (.slice (some ⟨gr, 0, none⟩) nb cr) nb (rcOf (L.zip mk)) ∧ (∀ y ∈ L, PagesIn wr y (List.replicate np (fillP 255))) ∧ Blk wr w.heap.size 23 [.int .i64 (nb : Int), .int .i64 (np : Int)] ∧ Below w.heap.size w wr) (fun t _ => m - (intOf t).toNat)
      case atStart => exact ⟨0, _, Nat.zero_le _, rfl, List.length_replicate, rfl, kr, hrow, hPL, hGr, hww⟩
      case round =>
        clear kr hrow hPL hGr hww gg0 gg1
        obtain ⟨k, mk, hkm, rfl, HML, HMK, kr, hrow, hPL, hGr, hww⟩ := hrel
        have gg0 := hGr.cell' (i := 0) rfl
        have gg1 := hGr.cell' (i := 1) rfl
        have gc2 := kr.cell' (i := 2) rfl
        by_cases hlt : k < m
        · have hki : (k : Int) < (m : Int) := by omega
          have hiw := hi.below hww
          obtain ⟨bb, oo, hpe, hbl, hcc⟩ := hi.at' (by omega)
          subst hpe
          have e0 : wr.cell? ⟨bb, oo + k, none⟩ = some (.int .i64 (eI bs k)) := (hww.cell (p := ⟨bb, oo + k, none⟩) hbl).trans (hcc k hlt)
          have hks : bs[k]? = some (eI bs k) := eI_some (by rw [HBL.out]; exact hlt)
          have HNo : Hid (markOk nb mk (eI bs k) = false → markL nb (bs.drop k) mk = none) := fun h => markL_no hks h
          have HYes : Hid (markOk nb mk (eI bs k) = true → markL nb (bs.drop k) mk = markL nb (bs.drop (k + 1)) (mk.set (eI bs k).toNat true)) := fun h => markL_yes hks h
          clear hcc hks hiw
          generalize eI bs k = b at *
          cases hok : markOk nb mk b with
          | false =>
            have HN : Hid (markL nb bs (List.replicate nb false) = none) := HMK.out.trans (HNo.out hok)
            by_cases h0 : b < 0
            · go_upto_region 16 with fail
              go_quiet (fail)
              go_wp2
              go_ret2
              exact ⟨below_drewNR hww _, .inl ⟨HN.out, rfl⟩⟩
            · by_cases h1 : b ≥ (nb : Int)
              · go_upto_region 16 with fail
                go_quiet (fail)
                go_wp2
                go_ret2
                exact ⟨below_drewNR hww _, .inl ⟨HN.out, rfl⟩⟩
              · obtain ⟨j, hib⟩ := Int.eq_ofNat_of_zero_le (show 0 ≤ b by omega)
                subst hib
                have hil : j < mk.length := by rw [HML.out]; omega
                obtain ⟨bv, hbv⟩ : ∃ bv, mk[j]? = some bv := ⟨_, List.getElem?_eq_getElem hil⟩
                have hbt : bv = true := by
                  cases bv with
                  | true => rfl
                  | false => rw [(markOk_iff HML.out).2 ⟨j, rfl, by omega, hbv⟩] at hok; cases hok
                subst hbt
                have hcm := (rcOf_at (zip_at (HL.out.trans HML.out.symm) hbv)).2.2.2
                have cm := hrow.cells (g := gr) rfl _ _ hcm
                rw [addr_add, Nat.zero_add] at cm
                have hiI : (j : Int) < (nb : Int) := by omega
                clear HNo HYes hok hil hbv h0 hcm
                go_upto_region 16 with fail
                go_quiet (fail)
                go_wp2
                go_ret2
                exact ⟨below_drewNR hww _, .inl ⟨HN.out, rfl⟩⟩
          | true =>
            obtain ⟨j, rfl, hin, hmi⟩ := (markOk_iff HML.out).1 hok
            have hjl : j < mk.length := by rw [HML.out]; exact hin
            have hcm := (rcOf_at (zip_at (HL.out.trans HML.out.symm) hmi)).2.2.2
            have cm := hrow.cells (g := gr) rfl _ _ hcm
            rw [addr_add, Nat.zero_add] at cm
            have hiI : (j : Int) < (nb : Int) := by omega
            have hj0 : ¬ (j : Int) < 0 := by omega
            have hj1 : ¬ (j : Int) ≥ (nb : Int) := by omega
            have HM' : Hid (markL nb bs (List.replicate nb false) = markL nb (bs.drop (k + 1)) (mk.set j true)) := HMK.out.trans (HYes.out hok)
            have HL' : Hid ((mk.set j true).length = nb) := by show _ = _; rw [List.length_set]; exact HML.out
            clear HNo HYes hok hmi hcm
            go_upto_region 16 with fail
            go_quiet (fail)
            go_upto_region 18 with fail
            have hDn := fun k => below_drewNR (Below.refl wr.heap.size wr) k
            generalize hwqe : World.drewN wr _ = wq
            have hDq0 : Below wr.heap.size wr wq := by rw [← hwqe]; exact hDn _
            clear hwqe hDn
            have kq := kr.kept hDq0
            have hrowq := owns_belowR hrow hDq0
            have hGq := hGr.kept hDq0
            have hPLq := fun y hy => (hPL y hy).below hDq0
            have hwq2 := hww.trans (hDq0.mono hww.size)
            have eq0 := (hDq0.cell (p := ⟨bb, oo + k, none⟩) (Nat.lt_of_lt_of_le hbl hww.size)).trans e0
            have cm := (hDq0.cell (p := ⟨gr, j * 4 + 3, none⟩) ((hrow.lt gr rfl).2)).trans cm
            have hbq := Nat.lt_of_lt_of_le hbl hwq2.size
            have hgrq := (hrowq.lt gr rfl).2
            have hgrB := (hrowq.lt gr rfl).1
            have hDq : Below wq.heap.size wq wq.drew := (Below.refl _ _).drew
            refine wp_region_noPanic ?_
            refine wp_region_held_drew (S := (fun Y => Y.cell? ⟨(w.heap.size + 1), 2, none⟩ = some (.slice (some ⟨gr, 0, none⟩) nb cr) ∧ Y.cell? ⟨bb, oo + k, none⟩ = some (.int .i64 (j : Int)))) (by kernel_rfl) ⟨(kq.kept hDq).cell' rfl, by rw [(hDq.cell (p := ⟨bb, oo + k, none⟩) hbq)]; exact eq0⟩ (fun hHeld => ?_)
            refine wpAnyH_take (i := 0) (v := ?_) rfl (by kernel_rfl) (by kernel_rfl) (by kernel_rfl) (fun _ _ _ h => h) (Or.inl ⟨by rfl, ?_⟩) hHeld ?_
            rotate_left
            · intro w' hSw; try dsimp only at hSw
              go_simp; try (with_reducible rfl)
            try simp only [Act.put, List.getElem_toArray, List.getElem_cons_succ, List.getElem_cons_zero, List.setIfInBounds_toArray, List.set_cons_zero, List.set_cons_succ]
            refine wpAnyH_take (i := 1) (v := ?_) rfl (by kernel_rfl) (by kernel_rfl) (by kernel_rfl) (fun _ _ _ h => h) (Or.inl ⟨by rfl, ?_⟩) hHeld ?_
            rotate_left
            · intro w' hSw; try dsimp only at hSw
              go_simp; try (with_reducible rfl)
            try simp only [Act.put, List.getElem_toArray, List.getElem_cons_succ, List.getElem_cons_zero, List.setIfInBounds_toArray, List.set_cons_zero, List.set_cons_succ]
            refine wpAnyH_take (i := 2) (v := ?_) rfl (by kernel_rfl) (by kernel_rfl) (by kernel_rfl) (fun _ _ _ h => h) (Or.inl ⟨by rfl, ?_⟩) hHeld ?_
            rotate_left
            · intro w' hSw; try dsimp only at hSw
              go_simp; try (with_reducible rfl)
            try simp only [Act.put, List.getElem_toArray, List.getElem_cons_succ, List.getElem_cons_zero, List.setIfInBounds_toArray, List.set_cons_zero, List.set_cons_succ]
            refine wpAnyH_take (i := 3) (v := ?_) rfl (by kernel_rfl) (by kernel_rfl) (by kernel_rfl) (fun _ _ _ h => h) (Or.inl ⟨by rfl, ?_⟩) hHeld ?_
            rotate_left
            · intro w' hSw; try dsimp only at hSw
              obtain ⟨z1, z2⟩ := hSw
              go_simp; try (with_reducible rfl)
            try simp only [Act.put, List.getElem_toArray, List.getElem_cons_succ, List.getElem_cons_zero, List.setIfInBounds_toArray, List.set_cons_zero, List.set_cons_succ]
            refine wpAnyH_take (i := 4) (v := ?_) rfl (by kernel_rfl) (by kernel_rfl) (by kernel_rfl) (fun _ _ _ h => h) (Or.inl ⟨by rfl, ?_⟩) hHeld ?_
            rotate_left
            · intro w' hSw; try dsimp only at hSw
              go_simp; try (with_reducible rfl)
            try simp only [Act.put, List.getElem_toArray, List.getElem_cons_succ, List.getElem_cons_zero, List.setIfInBounds_toArray, List.set_cons_zero, List.set_cons_succ]
            refine wpAnyH_take (i := 5) (v := ?_) rfl (by kernel_rfl) (by kernel_rfl) (by kernel_rfl) (fun _ _ _ h => h) (Or.inl ⟨by rfl, ?_⟩) hHeld ?_
            rotate_left
            · intro w' hSw; try dsimp only at hSw
              go_simp; try (with_reducible rfl)
            try simp only [Act.put, List.getElem_toArray, List.getElem_cons_succ, List.getElem_cons_zero, List.setIfInBounds_toArray, List.set_cons_zero, List.set_cons_succ]
            refine wpAnyH_take (i := 6) (v := ?_) rfl (by kernel_rfl) (by kernel_rfl) (by kernel_rfl) (fun _ _ _ h => h) (Or.inl ⟨by rfl, ?_⟩) hHeld ?_
            rotate_left
            · intro w' hSw; try dsimp only at hSw
              go_simp; try (with_reducible rfl)
            try simp only [Act.put, List.getElem_toArray, List.getElem_cons_succ, List.getElem_cons_zero, List.setIfInBounds_toArray, List.set_cons_zero, List.set_cons_succ]
            refine wpAnyH_take (i := 7) (v := ?_) rfl (by kernel_rfl) (by kernel_rfl) (by kernel_rfl) (fun _ _ _ h => h) (Or.inl ⟨by rfl, ?_⟩) hHeld ?_
            rotate_left
            · intro w' hSw; try dsimp only at hSw
              obtain ⟨z1, z2⟩ := hSw
              go_simp; try (with_reducible rfl)
            try simp only [Act.put, List.getElem_toArray, List.getElem_cons_succ, List.getElem_cons_zero, List.setIfInBounds_toArray, List.set_cons_zero, List.set_cons_succ]
            refine wpAnyH_take (i := 8) (v := ?_) rfl (by kernel_rfl) (by kernel_rfl) (by kernel_rfl) (fun _ _ _ h => h) (Or.inl ⟨by rfl, ?_⟩) hHeld ?_
            rotate_left
            · intro w' hSw; try dsimp only at hSw
              go_simp; try (with_reducible rfl)
            try simp only [Act.put, List.getElem_toArray, List.getElem_cons_succ, List.getElem_cons_zero, List.setIfInBounds_toArray, List.set_cons_zero, List.set_cons_succ]
            refine wpAnyH_take (i := 9) (v := ?_) rfl (by kernel_rfl) (by kernel_rfl) (by kernel_rfl) (fun _ _ _ h => h) (Or.inl ⟨by rfl, ?_⟩) hHeld ?_
            rotate_left
            · intro w' hSw; try dsimp only at hSw
              go_simp; try (with_reducible rfl)
            try simp only [Act.put, List.getElem_toArray, List.getElem_cons_succ, List.getElem_cons_zero, List.setIfInBounds_toArray, List.set_cons_zero, List.set_cons_succ]
            refine wpAnyH_take (i := 10) (v := ?_) rfl (by kernel_rfl) (by kernel_rfl) (by kernel_rfl) (fun _ _ _ h => h) (Or.inl ⟨by rfl, ?_⟩) hHeld ?_
            rotate_left
            · intro w' hSw; try dsimp only at hSw
              go_simp; try (with_reducible rfl)
            try simp only [Act.put, List.getElem_toArray, List.getElem_cons_succ, List.getElem_cons_zero, List.setIfInBounds_toArray, List.set_cons_zero, List.set_cons_succ]
            refine wpAnyH_ready (rs := [11]) (by kernel_rfl) (by simp) ?_
            refine AllReadyH.cons rfl (fun K hK => ?_) AllReadyH.nil
            have c11 : wq.drew.cell? ⟨gr, j * 4 + 3, none⟩ = some (.bool false) := (hDq.cell (p := ⟨gr, j * 4 + 3, none⟩) hgrq).trans cm
            have f11 := frozen_row (owns_belowR hrowq hDq) (j * 4 + 3)
            go_simp
            have tX := Turned.setCell wq.drew ⟨gr, j * 4 + 3, none⟩ (.bool true)
            refine hK.out _ _ ⟨(tX.cellR (a := ⟨(w.heap.size + 1), 2, none⟩) (show w.heap.size + 1 ≠ gr by omega)).trans hHeld.1, (tX.cellR (a := ⟨bb, oo + k, none⟩) (show bb ≠ gr by omega)).trans hHeld.2⟩ (fun hHeld => ?_)
            clear hK K
            try simp only [Act.put, List.getElem_toArray, List.getElem_cons_succ, List.getElem_cons_zero, List.setIfInBounds_toArray, List.set_cons_zero, List.set_cons_succ]
            refine wpAnyH_done (by kernel_rfl) ?_ _
            refine NoPanic.normal ?_
            clear hHeld
            have hrow8 := owns_storedR (owns_belowR hrowq hDq) rfl (j * 4 + 3) (.bool true)
            rw [rcOf_set (HL.out.trans HML.out.symm) hjl] at hrow8
            have kr8 := (kq.kept hDq).turned tX (show w.heap.size + 1 ≠ gr by omega)
            have hG8 := (hGq.kept hDq).turned tX (show w.heap.size ≠ gr by omega)
            have hPL8 : ∀ y ∈ L, PagesIn (wq.drew.setCell ⟨gr, j * 4 + 3, none⟩ (.bool true)) y (List.replicate np (fillP 255)) := fun y hy => ((hPLq y hy).below hDq).same (fun jj hj => tX.block jj (by
              intro hjg
              obtain ⟨cs, hcs⟩ := owns_objR ((hPLq y hy).below hDq).row hj
              obtain ⟨cs', hcs'⟩ := owns_objR (owns_belowR hrowq hDq) (i := gr) rfl
              have hjg2 : jj = gr := hjg
              rw [hjg2, hcs'] at hcs
              cases hcs))
            have hb8 : Below w.heap.size w (wq.drew.setCell ⟨gr, j * 4 + 3, none⟩ (.bool true)) := tX.below (hwq2.trans (hDq.mono hwq2.size)) (show w.heap.size ≤ gr by omega)
            have HKM : Hid (k < m) := hlt
            go_wp2
            go_roundw
            case rel => exact ⟨k + 1, _, HKM.out, by go_num, HL', HM', kr8, hrow8, hPL8, hG8, hb8⟩
            case measure => simp [intOf]; have := HKM.out; omega
        · obtain rfl : m = k := by omega
          have hkn : ¬ (m : Int) < (m : Int) := by omega
          have HMK2 : Hid (markL nb bs (List.replicate nb false) = some mk) := by show _ = _; rw [HMK.out, List.drop_eq_nil_of_le (by rw [HBL.out]; exact Nat.le_refl _)]; rfl
          cases hoe : okEvs 0 es with
          | false =>
            rw [hoe] at hrev
            go_wp2_with fail
            refine (hrev _ (hx.below hww)).mono ?_
            rintro e9 w5 ⟨rfl, hw5⟩
            have hw6 := hw5.symm
            subst hw6
            go_wp2
            go_ret2
            exact ⟨hww, .inr (.inl ⟨mk, HMK2.out, hoe, rfl⟩)⟩
          | true =>
            rw [hoe] at hrev
            go_wp2_with fail
            refine (hrev _ (hx.below hww)).mono ?_
            rintro e9 w5 ⟨rfl, hw5⟩
            have hw6 := hw5.symm
            subst hw6
            clear hw5 hrev HMK gg0 gg1 gc2
            have hxr := hx.room
            have HXL : Hid (es.length = n) := hx.len
            go_wp2
            go_loopw [13] (fun t wr => ∃ (k : Nat) (ve : Value) (cs : List Value) (fm : Nat → Option Addr × Nat × Nat), k ≤ n ∧ EvAcc es k w.heap.size cs fm wr ∧ t = .int .i64 (k : Int) ∧ Blk wr (w.heap.size + 1) 85 [.int .i64 (nb : Int), .int .i64 (np : Int), .slice (some ⟨gr, 0, none⟩) nb cr, ve, .int .i64 0, .bool true] ∧ wr.ownsRow (w.heap.size + 2) 72 3 ve k cs ∧ wr.ownsRow (w.heap.size + 2) 87 4 (.slice (some ⟨gr, 0, none⟩) nb cr) nb (rcOf (L.zip mk)) ∧ (∀ y ∈ L, PagesIn wr y (List.replicate np (fillP 255))) ∧ Below w.heap.size w wr) (fun t _ => n - (intOf t).toNat)
            case atStart => exact ⟨0, _, _, fun _ => (none, 0, 0), Nat.zero_le _, EvAcc.zero _ _ _ _, rfl, kr, World.ownsRow_nil _ _ _ _, hrow, hPL, hww⟩
            case round =>
              clear kr hrow hPL hGr hww
              obtain ⟨k, ve, cs, fm, hkn2, hEA, rfl, kr, hev, hrow, hPL, hww⟩ := hrel
              by_cases hlt : k < n
              · have hki : (k : Int) < (n : Int) := by omega
                have hkl : k < es.length := by rw [HXL.out]; exact hlt
                obtain ⟨e, he⟩ : ∃ e, es[k]? = some e := ⟨_, List.getElem?_eq_getElem hkl⟩
                have hxw := hx.below hww
                obtain ⟨eb, eo, hpe, hebl, hec⟩ := hx.at' (by omega)
                subst hpe
                obtain ⟨v0, v1, v2⟩ := evc_get es f k e he
                have g0 := (hww.cell (p := ⟨eb, eo + k * 3, none⟩) hebl).trans (hec _ _ v0)
                have g1 := (hww.cell (p := ⟨eb, eo + (k * 3 + 1), none⟩) hebl).trans (hec _ _ v1)
                have g2 := (hww.cell (p := ⟨eb, eo + (k * 3 + 2), none⟩) hebl).trans (hec _ _ v2)
                have hin := (hx.mask k e he).below hww
                rw [show eo + (k * 3 + 1) = eo + k * 3 + 1 from (Nat.add_assoc _ _ _).symm] at g1
                rw [show eo + (k * 3 + 2) = eo + k * 3 + 2 from (Nat.add_assoc _ _ _).symm] at g2
                have HEk : Hid (es[k]? = some e) := he
                clear hec v0 v1 v2 hxw he hkl
                generalize f k = tt at g2 hin
                obtain ⟨qe, me, de⟩ := tt
                obtain ⟨ea, ek, em⟩ := e
                dsimp only at g0 g1 g2 hin
                have hebw : eb < wr.heap.size := Nat.lt_of_lt_of_le hebl hww.size
                have hD : Below wr.heap.size wr wr.drew := (Below.refl _ _).drew
                have hBw : (w.heap.size + 2) ≤ wr.heap.size := by have := kr.lt; omega
                go_upto_region 24 with fail
                refine wp_region_noPanic ?_
                refine wp_region_held_drew (S := (fun Y => Y.cell? ⟨eb, eo + k * 3, none⟩ = some (.int .i64 ea) ∧ Y.cell? ⟨eb, eo + k * 3 + 1, none⟩ = some (.int .i64 ek) ∧ Y.cell? ⟨eb, eo + k * 3 + 2, none⟩ = some (.slice qe me de))) (by kernel_rfl) ⟨(hD.cell (p := ⟨eb, eo + k * 3, none⟩) hebw).trans g0, (hD.cell (p := ⟨eb, eo + k * 3 + 1, none⟩) hebw).trans g1, (hD.cell (p := ⟨eb, eo + k * 3 + 2, none⟩) hebw).trans g2⟩ (fun hHeld => ?_)
                refine wpAnyH_take (i := 0) (v := ?_) rfl (by kernel_rfl) (by kernel_rfl) (by kernel_rfl) (fun _ _ _ h => h) (Or.inl ⟨by rfl, ?_⟩) hHeld ?_
                rotate_left
                · intro w' hSw; try dsimp only at hSw
                  go_simp; try (with_reducible rfl)
                try simp only [Act.put, List.getElem_toArray, List.getElem_cons_succ, List.getElem_cons_zero, List.setIfInBounds_toArray, List.set_cons_zero, List.set_cons_succ]
                refine wpAnyH_take (i := 1) (v := ?_) rfl (by kernel_rfl) (by kernel_rfl) (by kernel_rfl) (fun _ _ _ h => h) (Or.inl ⟨by rfl, ?_⟩) hHeld ?_
                rotate_left
                · intro w' hSw; try dsimp only at hSw
                  go_simp; try (with_reducible rfl)
                try simp only [Act.put, List.getElem_toArray, List.getElem_cons_succ, List.getElem_cons_zero, List.setIfInBounds_toArray, List.set_cons_zero, List.set_cons_succ]
                refine wpAnyH_take (i := 2) (v := ?_) rfl (by kernel_rfl) (by kernel_rfl) (by kernel_rfl) (fun _ _ _ h => h) (Or.inl ⟨by rfl, ?_⟩) hHeld ?_
                rotate_left
                · intro w' hSw; try dsimp only at hSw
                  go_simp; try (with_reducible rfl)
                try simp only [Act.put, List.getElem_toArray, List.getElem_cons_succ, List.getElem_cons_zero, List.setIfInBounds_toArray, List.set_cons_zero, List.set_cons_succ]
                refine wpAnyH_take (i := 3) (v := ?_) rfl (by kernel_rfl) (by kernel_rfl) (by kernel_rfl) (fun _ _ _ h => h) (Or.inl ⟨by rfl, ?_⟩) hHeld ?_
                rotate_left
                · intro w' hSw; try dsimp only at hSw
                  go_simp; try (with_reducible rfl)
                try simp only [Act.put, List.getElem_toArray, List.getElem_cons_succ, List.getElem_cons_zero, List.setIfInBounds_toArray, List.set_cons_zero, List.set_cons_succ]
                refine wpAnyH_take (i := 5) (v := ?_) rfl (by kernel_rfl) (by kernel_rfl) (by kernel_rfl) (fun _ _ _ h => h) (Or.inl ⟨by rfl, ?_⟩) hHeld ?_
                rotate_left
                · intro w' hSw; try dsimp only at hSw
                  go_simp; try (with_reducible rfl)
                try simp only [Act.put, List.getElem_toArray, List.getElem_cons_succ, List.getElem_cons_zero, List.setIfInBounds_toArray, List.set_cons_zero, List.set_cons_succ]
                refine wpAnyH_take (i := 6) (v := ?_) rfl (by kernel_rfl) (by kernel_rfl) (by kernel_rfl) (fun _ _ _ h => h) (Or.inl ⟨by rfl, ?_⟩) hHeld ?_
                rotate_left
                · intro w' hSw; try dsimp only at hSw
                  go_simp; try (with_reducible rfl)
                try simp only [Act.put, List.getElem_toArray, List.getElem_cons_succ, List.getElem_cons_zero, List.setIfInBounds_toArray, List.set_cons_zero, List.set_cons_succ]
                refine wpAnyH_take (i := 7) (v := ?_) rfl (by kernel_rfl) (by kernel_rfl) (by kernel_rfl) (fun _ _ _ h => h) (Or.inl ⟨by rfl, ?_⟩) hHeld ?_
                rotate_left
                · intro w' hSw; try dsimp only at hSw
                  go_simp; try (with_reducible rfl)
                try simp only [Act.put, List.getElem_toArray, List.getElem_cons_succ, List.getElem_cons_zero, List.setIfInBounds_toArray, List.set_cons_zero, List.set_cons_succ]
                refine wpAnyH_take (i := 8) (v := ?_) rfl (by kernel_rfl) (by kernel_rfl) (by kernel_rfl) (fun _ _ _ h => h) (Or.inl ⟨by rfl, ?_⟩) hHeld ?_
                rotate_left
                · intro w' hSw; try dsimp only at hSw
                  go_simp; try (with_reducible rfl)
                try simp only [Act.put, List.getElem_toArray, List.getElem_cons_succ, List.getElem_cons_zero, List.setIfInBounds_toArray, List.set_cons_zero, List.set_cons_succ]
                refine wpAnyH_take (i := 9) (v := ?_) rfl (by kernel_rfl) (by kernel_rfl) (by kernel_rfl) (fun _ _ _ h => h) (Or.inl ⟨by rfl, ?_⟩) hHeld ?_
                rotate_left
                · intro w' hSw; try dsimp only at hSw
                  obtain ⟨z1, z2, z3⟩ := hSw
                  go_simp; try (with_reducible rfl)
                try simp only [Act.put, List.getElem_toArray, List.getElem_cons_succ, List.getElem_cons_zero, List.setIfInBounds_toArray, List.set_cons_zero, List.set_cons_succ]
                refine wpAnyH_take (i := 10) (v := ?_) rfl (by kernel_rfl) (by kernel_rfl) (by kernel_rfl) (fun _ _ _ h => h) (Or.inl ⟨by rfl, ?_⟩) hHeld ?_
                rotate_left
                · intro w' hSw; try dsimp only at hSw
                  go_simp; try (with_reducible rfl)
                try simp only [Act.put, List.getElem_toArray, List.getElem_cons_succ, List.getElem_cons_zero, List.setIfInBounds_toArray, List.set_cons_zero, List.set_cons_succ]
                refine wpAnyH_take (i := 11) (v := ?_) rfl (by kernel_rfl) (by kernel_rfl) (by kernel_rfl) (fun _ _ _ h => h) (Or.inl ⟨by rfl, ?_⟩) hHeld ?_
                rotate_left
                · intro w' hSw; try dsimp only at hSw
                  go_simp; try (with_reducible rfl)
                try simp only [Act.put, List.getElem_toArray, List.getElem_cons_succ, List.getElem_cons_zero, List.setIfInBounds_toArray, List.set_cons_zero, List.set_cons_succ]
                refine wpAnyH_take (i := 12) (v := ?_) rfl (by kernel_rfl) (by kernel_rfl) (by kernel_rfl) (fun _ _ _ h => h) (Or.inl ⟨by rfl, ?_⟩) hHeld ?_
                rotate_left
                · intro w' hSw; try dsimp only at hSw
                  go_simp; try (with_reducible rfl)
                try simp only [Act.put, List.getElem_toArray, List.getElem_cons_succ, List.getElem_cons_zero, List.setIfInBounds_toArray, List.set_cons_zero, List.set_cons_succ]
                refine wpAnyH_take (i := 13) (v := ?_) rfl (by kernel_rfl) (by kernel_rfl) (by kernel_rfl) (fun _ _ _ h => h) (Or.inl ⟨by rfl, ?_⟩) hHeld ?_
                rotate_left
                · intro w' hSw; try dsimp only at hSw
                  go_simp; try (with_reducible rfl)
                try simp only [Act.put, List.getElem_toArray, List.getElem_cons_succ, List.getElem_cons_zero, List.setIfInBounds_toArray, List.set_cons_zero, List.set_cons_succ]
                refine wpAnyH_take (i := 14) (v := ?_) rfl (by kernel_rfl) (by kernel_rfl) (by kernel_rfl) (fun _ _ _ h => h) (Or.inl ⟨by rfl, ?_⟩) hHeld ?_
                rotate_left
                · intro w' hSw; try dsimp only at hSw
                  obtain ⟨z1, z2, z3⟩ := hSw
                  go_simp; try (with_reducible rfl)
                try simp only [Act.put, List.getElem_toArray, List.getElem_cons_succ, List.getElem_cons_zero, List.setIfInBounds_toArray, List.set_cons_zero, List.set_cons_succ]
                refine wpAnyH_take (i := 15) (v := ?_) rfl (by kernel_rfl) (by kernel_rfl) (by kernel_rfl) (fun _ _ _ h => h) (Or.inl ⟨by rfl, ?_⟩) hHeld ?_
                rotate_left
                · intro w' hSw; try dsimp only at hSw
                  go_simp; try (with_reducible rfl)
                try simp only [Act.put, List.getElem_toArray, List.getElem_cons_succ, List.getElem_cons_zero, List.setIfInBounds_toArray, List.set_cons_zero, List.set_cons_succ]
                refine wpAnyH_take (i := 16) (v := ?_) rfl (by kernel_rfl) (by kernel_rfl) (by kernel_rfl) (fun _ _ _ h => h) (Or.inl ⟨by rfl, ?_⟩) hHeld ?_
                rotate_left
                · intro w' hSw; try dsimp only at hSw
                  go_simp; try (with_reducible rfl)
                try simp only [Act.put, List.getElem_toArray, List.getElem_cons_succ, List.getElem_cons_zero, List.setIfInBounds_toArray, List.set_cons_zero, List.set_cons_succ]
                refine wpAnyH_take (i := 17) (v := ?_) rfl (by kernel_rfl) (by kernel_rfl) (by kernel_rfl) (fun _ _ _ h => h) (Or.inl ⟨by rfl, ?_⟩) hHeld ?_
                rotate_left
                · intro w' hSw; try dsimp only at hSw
                  go_simp; try (with_reducible rfl)
                try simp only [Act.put, List.getElem_toArray, List.getElem_cons_succ, List.getElem_cons_zero, List.setIfInBounds_toArray, List.set_cons_zero, List.set_cons_succ]
                refine wpAnyH_take (i := 18) (v := ?_) rfl (by kernel_rfl) (by kernel_rfl) (by kernel_rfl) (fun _ _ _ h => h) (Or.inl ⟨by rfl, ?_⟩) hHeld ?_
                rotate_left
                · intro w' hSw; try dsimp only at hSw
                  go_simp; try (with_reducible rfl)
                try simp only [Act.put, List.getElem_toArray, List.getElem_cons_succ, List.getElem_cons_zero, List.setIfInBounds_toArray, List.set_cons_zero, List.set_cons_succ]
                refine wpAnyH_take (i := 19) (v := ?_) rfl (by kernel_rfl) (by kernel_rfl) (by kernel_rfl) (fun _ _ _ h => h) (Or.inl ⟨by rfl, ?_⟩) hHeld ?_
                rotate_left
                · intro w' hSw; try dsimp only at hSw
                  obtain ⟨z1, z2, z3⟩ := hSw
                  go_simp; try (with_reducible rfl)
                try simp only [Act.put, List.getElem_toArray, List.getElem_cons_succ, List.getElem_cons_zero, List.setIfInBounds_toArray, List.set_cons_zero, List.set_cons_succ]
                refine wpAnyH_ready (rs := [4, 20]) (by kernel_rfl) (by simp) ?_
                refine AllReadyH.cons rfl (fun K hK => ?_) ?_
                · have c4 := (kr.kept hD).cell' (i := 3) rfl
                  go_simp
                  refine hK.out _ _ ⟨(hD.cell (p := ⟨eb, eo + k * 3, none⟩) hebw).trans g0, (hD.cell (p := ⟨eb, eo + k * 3 + 1, none⟩) hebw).trans g1, (hD.cell (p := ⟨eb, eo + k * 3 + 2, none⟩) hebw).trans g2⟩ (fun hHeld => ?_)
                  clear hK K
                  try simp only [Act.put, List.getElem_toArray, List.getElem_cons_succ, List.getElem_cons_zero, List.setIfInBounds_toArray, List.set_cons_zero, List.set_cons_succ]
                  refine wpAnyH_ready (rs := [20]) (by kernel_rfl) (by simp) ?_
                  refine AllReadyH.cons rfl (fun K hK => ?_) AllReadyH.nil
                  refine wp_appendNilB (.tmp 144) rfl qe me de em rfl (hin.below hD) ?_
                  intro pm mm cm f20 hb20 hinN htyN
                  have hB20 := bt hD hb20
                  refine hK.out _ _ ⟨(hB20.cell (p := ⟨eb, eo + k * 3, none⟩) hebw).trans g0, (hB20.cell (p := ⟨eb, eo + k * 3 + 1, none⟩) hebw).trans g1, (hB20.cell (p := ⟨eb, eo + k * 3 + 2, none⟩) hebw).trans g2⟩ (fun hHeld => ?_)
                  clear hK K
                  try simp only [Act.put, List.getElem_toArray, List.getElem_cons_succ, List.getElem_cons_zero, List.setIfInBounds_toArray, List.set_cons_zero, List.set_cons_succ]
                  refine wpAnyH_take (i := 21) (v := ?_) rfl (by kernel_rfl) (by kernel_rfl) (by kernel_rfl) (fun _ _ _ h => h) (Or.inl ⟨by rfl, ?_⟩) hHeld ?_
                  rotate_left
                  · intro w' hSw; try dsimp only at hSw
                    go_simp; try (with_reducible rfl)
                  try simp only [Act.put, List.getElem_toArray, List.getElem_cons_succ, List.getElem_cons_zero, List.setIfInBounds_toArray, List.set_cons_zero, List.set_cons_succ]
                  refine wpAnyH_ready (rs := [22]) (by kernel_rfl) (by simp) ?_
                  refine AllReadyH.cons rfl (fun K hK => ?_) AllReadyH.nil
                  go_simp
                  have s22 := Blk.new' f20 72 #[.int .i64 ea, .int .i64 ek, .slice pm mm cm]
                  have hB22 := bt hB20 (below_alloc f20 (.cells #[.int .i64 ea, .int .i64 ek, .slice pm mm cm] 72))
                  refine hK.out _ _ ⟨(hB22.cell (p := ⟨eb, eo + k * 3, none⟩) hebw).trans g0, (hB22.cell (p := ⟨eb, eo + k * 3 + 1, none⟩) hebw).trans g1, (hB22.cell (p := ⟨eb, eo + k * 3 + 2, none⟩) hebw).trans g2⟩ (fun hHeld => ?_)
                  clear hK K
                  try simp only [Act.put, List.getElem_toArray, List.getElem_cons_succ, List.getElem_cons_zero, List.setIfInBounds_toArray, List.set_cons_zero, List.set_cons_succ]
                  refine wpAnyH_ready (rs := [23]) (by kernel_rfl) (by simp) ?_
                  refine AllReadyH.cons rfl (fun K hK => ?_) AllReadyH.nil
                  refine wp_appendEvR (w.heap.size + 2) (.tmp 129) (.tmp 147) rfl ve k cs _ _ _ rfl (owns_belowR hev hB22) (Nat.le_trans hBw hB22.size) _ rfl s22 rfl rfl rfl (by omega) ?_
                  intro p7 c7 w7 hown7 hg7
                  have hne7 : ∀ jj, ve.ownBlock = some jj → (w.heap.size + 2) ≤ jj := fun jj hj => (hev.lt jj hj).1
                  have kr7 : Blk w7 (w.heap.size + 1) 85 _ := (kr.kept hB22).same (hg7.block (w.heap.size + 1) (Nat.lt_of_lt_of_le kr.lt hB22.size) (fun e => by have := hne7 _ e.symm; omega))
                  have hE7 : ∀ jj, w7.cell? ⟨eb, jj, none⟩ = wr.cell? ⟨eb, jj, none⟩ := fun jj => World.cell?_of_block (a := ⟨eb, jj, none⟩) ((hg7.block eb (Nat.lt_of_lt_of_le hebw hB22.size) (fun e => by have := hne7 _ e.symm; omega)).trans (hB22.block eb hebw))
                  refine hK.out _ _ ⟨(hE7 _).trans g0, (hE7 _).trans g1, (hE7 _).trans g2⟩ (fun hHeld => ?_)
                  clear hK K
                  try simp only [Act.put, List.getElem_toArray, List.getElem_cons_succ, List.getElem_cons_zero, List.setIfInBounds_toArray, List.set_cons_zero, List.set_cons_succ]
                  refine wpAnyH_take (i := 24) (v := ?_) rfl (by kernel_rfl) (by kernel_rfl) (by kernel_rfl) (fun _ _ _ h => h) (Or.inl ⟨by rfl, ?_⟩) hHeld ?_
                  rotate_left
                  · intro w' hSw; try dsimp only at hSw
                    go_simp; try (with_reducible rfl)
                  try simp only [Act.put, List.getElem_toArray, List.getElem_cons_succ, List.getElem_cons_zero, List.setIfInBounds_toArray, List.set_cons_zero, List.set_cons_succ]
                  refine wpAnyH_take (i := 25) (v := ?_) rfl (by kernel_rfl) (by kernel_rfl) (by kernel_rfl) (fun _ _ _ h => h) (Or.inl ⟨by rfl, ?_⟩) hHeld ?_
                  rotate_left
                  · intro w' hSw; try dsimp only at hSw
                    go_simp; try (with_reducible rfl)
                  try simp only [Act.put, List.getElem_toArray, List.getElem_cons_succ, List.getElem_cons_zero, List.setIfInBounds_toArray, List.set_cons_zero, List.set_cons_succ]
                  refine wpAnyH_ready (rs := [26]) (by kernel_rfl) (by simp) ?_
                  refine AllReadyH.cons rfl (fun K hK => ?_) AllReadyH.nil
                  have c10 := kr7.cell' (i := 3) rfl
                  have f10 := kr7.frozen 3
                  go_simp
                  have tX := Turned.setCell w7 ⟨(w.heap.size + 1), 3, none⟩ (.slice p7 (k + 1) c7)
                  refine hK.out _ _ ⟨(tX.cellR (a := ⟨eb, eo + k * 3, none⟩) (show eb ≠ w.heap.size + 1 by omega)).trans ((hE7 _).trans g0), (tX.cellR (a := ⟨eb, eo + k * 3 + 1, none⟩) (show eb ≠ w.heap.size + 1 by omega)).trans ((hE7 _).trans g1), (tX.cellR (a := ⟨eb, eo + k * 3 + 2, none⟩) (show eb ≠ w.heap.size + 1 by omega)).trans ((hE7 _).trans g2)⟩ (fun hHeld => ?_)
                  clear hK K
                  try simp only [Act.put, List.getElem_toArray, List.getElem_cons_succ, List.getElem_cons_zero, List.setIfInBounds_toArray, List.set_cons_zero, List.set_cons_succ]
                  refine wpAnyH_done (by kernel_rfl) ?_ _
                  refine NoPanic.normal ?_
                  clear hHeld
                  have kr8 := kr7.set 3 (.slice p7 (k + 1) c7)
                  have hev8 := owns_sameR (w' := w7.setCell ⟨(w.heap.size + 1), 3, none⟩ (.slice p7 (k + 1) c7)) hown7 (fun jj hj => tX.block jj (by have := (hown7.lt jj hj).1; show jj ≠ w.heap.size + 1; omega))
                  have hkeep : ∀ jj cs' (t : TypeId), wr.heap[jj]? = some (.cells cs' t (0, 0)) → t ≠ 72 → jj ≠ w.heap.size + 1 → (w7.setCell ⟨(w.heap.size + 1), 3, none⟩ (.slice p7 (k + 1) c7)).heap[jj]? = wr.heap[jj]? := fun jj cs' t hj ht hne => by
                    have hjl := (Array.getElem?_eq_some_iff.1 hj).1
                    refine (tX.block jj hne).trans ((hg7.block jj (Nat.lt_of_lt_of_le hjl hB22.size) (fun e => ?_)).trans (hB22.block jj hjl))
                    obtain ⟨cs2, hcs2⟩ := owns_objR hev e.symm
                    rw [hj] at hcs2
                    cases hcs2
                    exact ht rfl
                  have hrow8 := owns_sameR (w' := w7.setCell ⟨(w.heap.size + 1), 3, none⟩ (.slice p7 (k + 1) c7)) hrow (fun jj hj => by obtain ⟨cs3, hcs3⟩ := owns_objR hrow hj; exact hkeep jj cs3 _ hcs3 (by decide) (by have := (hrow.lt jj hj).1; omega))
                  have hPL8 : ∀ y ∈ L, PagesIn (w7.setCell ⟨(w.heap.size + 1), 3, none⟩ (.slice p7 (k + 1) c7)) y (List.replicate np (fillP 255)) := fun y hy => (hPL y hy).same (fun jj hj => by obtain ⟨cs3, hcs3⟩ := owns_objR (hPL y hy).row hj; exact hkeep jj cs3 _ hcs3 (by decide) (fun e => by subst e; rw [show wr.heap[w.heap.size + 1]? = _ from kr] at hcs3; cases hcs3))
                  have hb8 : Below w.heap.size w (w7.setCell ⟨(w.heap.size + 1), 3, none⟩ (.slice p7 (k + 1) c7)) := tX.below ((hww.trans (hB22.mono hww.size)).grown hg7 (Nat.le_trans hww.size hB22.size) (fun jj hj => by have := hne7 jj hj; omega)) (show w.heap.size ≤ w.heap.size + 1 by omega)
                  have hvl : ∀ jj, ve.ownBlock = some jj → jj < wr.heap.size := fun jj hj => (hev.lt jj hj).2
                  have hs22 := hB22.size
                  have hs7 := hg7.size
                  have htX8 : (w7.setCell ⟨(w.heap.size + 1), 3, none⟩ (.slice p7 (k + 1) c7)).heap.size = w7.heap.size := tX.size
                  have hnk : ∀ jj, wr.heap.size ≤ jj → jj < f20.heap.size → (w7.setCell ⟨(w.heap.size + 1), 3, none⟩ (.slice p7 (k + 1) c7)).heap[jj]? = f20.heap[jj]? := fun jj h1 h2 => by
                    have hrl := kr.lt
                    refine (tX.block jj (by show jj ≠ w.heap.size + 1; omega)).trans ((hg7.block jj (by rw [World.size_alloc]; omega) (fun e => ?_)).trans (Below.heap_alloc _ _ _ h2))
                    have := hvl jj e.symm
                    omega
                  have hEA8 := hEA.snoc (w' := w7.setCell ⟨(w.heap.size + 1), 3, none⟩ (.slice p7 (k + 1) c7)) HEk.out (fun j cs' hj => hkeep j cs' 5 hj (by decide) (fun e => by subst e; rw [show wr.heap[w.heap.size + 1]? = _ from kr] at hj; cases hj))
                    (by rw [htX8]; have : f20.heap.size ≤ w7.heap.size := by (have := hg7.size; rw [World.size_alloc] at this; omega)
                        have := hB20.size; omega)
                    (hinN.same (w' := w7.setCell ⟨(w.heap.size + 1), 3, none⟩ (.slice p7 (k + 1) c7)) (by rw [htX8]; have := hg7.size; rw [World.size_alloc] at this; omega) (fun a ha hqa hl => hnk _ (htyN a ha hqa).1 hl))
                    (fun a ha hqa => by
                      obtain ⟨h1, cs', hcs'⟩ := htyN a ha hqa
                      have h1' : wr.heap.size ≤ a.block := h1
                      have hl := (Array.getElem?_eq_some_iff.1 hcs').1
                      exact ⟨Nat.le_trans hww.size h1', cs', (hnk _ h1' hl).trans hcs'⟩)
                  have HKM : Hid (k < n) := hlt
                  go_wp2
                  go_roundw
                  case rel => exact ⟨k + 1, _, _, _, HKM.out, hEA8, by go_num, kr8, hev8, hrow8, hPL8, hb8⟩
                  case measure => simp [intOf]; have := HKM.out; omega
                refine AllReadyH.cons rfl (fun K hK => ?_) AllReadyH.nil
                refine wp_appendNilB (.tmp 144) rfl qe me de em rfl (hin.below hD) ?_
                intro pm mm cm f20 hb20 hinN htyN
                have hB20 := bt hD hb20
                refine hK.out _ _ ⟨(hB20.cell (p := ⟨eb, eo + k * 3, none⟩) hebw).trans g0, (hB20.cell (p := ⟨eb, eo + k * 3 + 1, none⟩) hebw).trans g1, (hB20.cell (p := ⟨eb, eo + k * 3 + 2, none⟩) hebw).trans g2⟩ (fun hHeld => ?_)
                clear hK K
                try simp only [Act.put, List.getElem_toArray, List.getElem_cons_succ, List.getElem_cons_zero, List.setIfInBounds_toArray, List.set_cons_zero, List.set_cons_succ]
                refine wpAnyH_take (i := 21) (v := ?_) rfl (by kernel_rfl) (by kernel_rfl) (by kernel_rfl) (fun _ _ _ h => h) (Or.inl ⟨by rfl, ?_⟩) hHeld ?_
                rotate_left
                · intro w' hSw; try dsimp only at hSw
                  go_simp; try (with_reducible rfl)
                try simp only [Act.put, List.getElem_toArray, List.getElem_cons_succ, List.getElem_cons_zero, List.setIfInBounds_toArray, List.set_cons_zero, List.set_cons_succ]
                refine wpAnyH_ready (rs := [4, 22]) (by kernel_rfl) (by simp) ?_
                refine AllReadyH.cons rfl (fun K hK => ?_) ?_
                · have c4 := (kr.kept hB20).cell' (i := 3) rfl
                  go_simp
                  refine hK.out _ _ ⟨(hB20.cell (p := ⟨eb, eo + k * 3, none⟩) hebw).trans g0, (hB20.cell (p := ⟨eb, eo + k * 3 + 1, none⟩) hebw).trans g1, (hB20.cell (p := ⟨eb, eo + k * 3 + 2, none⟩) hebw).trans g2⟩ (fun hHeld => ?_)
                  clear hK K
                  try simp only [Act.put, List.getElem_toArray, List.getElem_cons_succ, List.getElem_cons_zero, List.setIfInBounds_toArray, List.set_cons_zero, List.set_cons_succ]
                  refine wpAnyH_ready (rs := [22]) (by kernel_rfl) (by simp) ?_
                  refine AllReadyH.cons rfl (fun K hK => ?_) AllReadyH.nil
                  go_simp
                  have s22 := Blk.new' f20 72 #[.int .i64 ea, .int .i64 ek, .slice pm mm cm]
                  have hB22 := bt hB20 (below_alloc f20 (.cells #[.int .i64 ea, .int .i64 ek, .slice pm mm cm] 72))
                  refine hK.out _ _ ⟨(hB22.cell (p := ⟨eb, eo + k * 3, none⟩) hebw).trans g0, (hB22.cell (p := ⟨eb, eo + k * 3 + 1, none⟩) hebw).trans g1, (hB22.cell (p := ⟨eb, eo + k * 3 + 2, none⟩) hebw).trans g2⟩ (fun hHeld => ?_)
                  clear hK K
                  try simp only [Act.put, List.getElem_toArray, List.getElem_cons_succ, List.getElem_cons_zero, List.setIfInBounds_toArray, List.set_cons_zero, List.set_cons_succ]
                  refine wpAnyH_ready (rs := [23]) (by kernel_rfl) (by simp) ?_
                  refine AllReadyH.cons rfl (fun K hK => ?_) AllReadyH.nil
                  refine wp_appendEvR (w.heap.size + 2) (.tmp 129) (.tmp 147) rfl ve k cs _ _ _ rfl (owns_belowR hev hB22) (Nat.le_trans hBw hB22.size) _ rfl s22 rfl rfl rfl (by omega) ?_
                  intro p7 c7 w7 hown7 hg7
                  have hne7 : ∀ jj, ve.ownBlock = some jj → (w.heap.size + 2) ≤ jj := fun jj hj => (hev.lt jj hj).1
                  have kr7 : Blk w7 (w.heap.size + 1) 85 _ := (kr.kept hB22).same (hg7.block (w.heap.size + 1) (Nat.lt_of_lt_of_le kr.lt hB22.size) (fun e => by have := hne7 _ e.symm; omega))
                  have hE7 : ∀ jj, w7.cell? ⟨eb, jj, none⟩ = wr.cell? ⟨eb, jj, none⟩ := fun jj => World.cell?_of_block (a := ⟨eb, jj, none⟩) ((hg7.block eb (Nat.lt_of_lt_of_le hebw hB22.size) (fun e => by have := hne7 _ e.symm; omega)).trans (hB22.block eb hebw))
                  refine hK.out _ _ ⟨(hE7 _).trans g0, (hE7 _).trans g1, (hE7 _).trans g2⟩ (fun hHeld => ?_)
                  clear hK K
                  try simp only [Act.put, List.getElem_toArray, List.getElem_cons_succ, List.getElem_cons_zero, List.setIfInBounds_toArray, List.set_cons_zero, List.set_cons_succ]
                  refine wpAnyH_take (i := 24) (v := ?_) rfl (by kernel_rfl) (by kernel_rfl) (by kernel_rfl) (fun _ _ _ h => h) (Or.inl ⟨by rfl, ?_⟩) hHeld ?_
                  rotate_left
                  · intro w' hSw; try dsimp only at hSw
                    go_simp; try (with_reducible rfl)
                  try simp only [Act.put, List.getElem_toArray, List.getElem_cons_succ, List.getElem_cons_zero, List.setIfInBounds_toArray, List.set_cons_zero, List.set_cons_succ]
                  refine wpAnyH_take (i := 25) (v := ?_) rfl (by kernel_rfl) (by kernel_rfl) (by kernel_rfl) (fun _ _ _ h => h) (Or.inl ⟨by rfl, ?_⟩) hHeld ?_
                  rotate_left
                  · intro w' hSw; try dsimp only at hSw
                    go_simp; try (with_reducible rfl)
                  try simp only [Act.put, List.getElem_toArray, List.getElem_cons_succ, List.getElem_cons_zero, List.setIfInBounds_toArray, List.set_cons_zero, List.set_cons_succ]
                  refine wpAnyH_ready (rs := [26]) (by kernel_rfl) (by simp) ?_
                  refine AllReadyH.cons rfl (fun K hK => ?_) AllReadyH.nil
                  have c10 := kr7.cell' (i := 3) rfl
                  have f10 := kr7.frozen 3
                  go_simp
                  have tX := Turned.setCell w7 ⟨(w.heap.size + 1), 3, none⟩ (.slice p7 (k + 1) c7)
                  refine hK.out _ _ ⟨(tX.cellR (a := ⟨eb, eo + k * 3, none⟩) (show eb ≠ w.heap.size + 1 by omega)).trans ((hE7 _).trans g0), (tX.cellR (a := ⟨eb, eo + k * 3 + 1, none⟩) (show eb ≠ w.heap.size + 1 by omega)).trans ((hE7 _).trans g1), (tX.cellR (a := ⟨eb, eo + k * 3 + 2, none⟩) (show eb ≠ w.heap.size + 1 by omega)).trans ((hE7 _).trans g2)⟩ (fun hHeld => ?_)
                  clear hK K
                  try simp only [Act.put, List.getElem_toArray, List.getElem_cons_succ, List.getElem_cons_zero, List.setIfInBounds_toArray, List.set_cons_zero, List.set_cons_succ]
                  refine wpAnyH_done (by kernel_rfl) ?_ _
                  refine NoPanic.normal ?_
                  clear hHeld
                  have kr8 := kr7.set 3 (.slice p7 (k + 1) c7)
                  have hev8 := owns_sameR (w' := w7.setCell ⟨(w.heap.size + 1), 3, none⟩ (.slice p7 (k + 1) c7)) hown7 (fun jj hj => tX.block jj (by have := (hown7.lt jj hj).1; show jj ≠ w.heap.size + 1; omega))
                  have hkeep : ∀ jj cs' (t : TypeId), wr.heap[jj]? = some (.cells cs' t (0, 0)) → t ≠ 72 → jj ≠ w.heap.size + 1 → (w7.setCell ⟨(w.heap.size + 1), 3, none⟩ (.slice p7 (k + 1) c7)).heap[jj]? = wr.heap[jj]? := fun jj cs' t hj ht hne => by
                    have hjl := (Array.getElem?_eq_some_iff.1 hj).1
                    refine (tX.block jj hne).trans ((hg7.block jj (Nat.lt_of_lt_of_le hjl hB22.size) (fun e => ?_)).trans (hB22.block jj hjl))
                    obtain ⟨cs2, hcs2⟩ := owns_objR hev e.symm
                    rw [hj] at hcs2
                    cases hcs2
                    exact ht rfl
                  have hrow8 := owns_sameR (w' := w7.setCell ⟨(w.heap.size + 1), 3, none⟩ (.slice p7 (k + 1) c7)) hrow (fun jj hj => by obtain ⟨cs3, hcs3⟩ := owns_objR hrow hj; exact hkeep jj cs3 _ hcs3 (by decide) (by have := (hrow.lt jj hj).1; omega))
                  have hPL8 : ∀ y ∈ L, PagesIn (w7.setCell ⟨(w.heap.size + 1), 3, none⟩ (.slice p7 (k + 1) c7)) y (List.replicate np (fillP 255)) := fun y hy => (hPL y hy).same (fun jj hj => by obtain ⟨cs3, hcs3⟩ := owns_objR (hPL y hy).row hj; exact hkeep jj cs3 _ hcs3 (by decide) (fun e => by subst e; rw [show wr.heap[w.heap.size + 1]? = _ from kr] at hcs3; cases hcs3))
                  have hb8 : Below w.heap.size w (w7.setCell ⟨(w.heap.size + 1), 3, none⟩ (.slice p7 (k + 1) c7)) := tX.below ((hww.trans (hB22.mono hww.size)).grown hg7 (Nat.le_trans hww.size hB22.size) (fun jj hj => by have := hne7 jj hj; omega)) (show w.heap.size ≤ w.heap.size + 1 by omega)
                  have hvl : ∀ jj, ve.ownBlock = some jj → jj < wr.heap.size := fun jj hj => (hev.lt jj hj).2
                  have hs22 := hB22.size
                  have hs7 := hg7.size
                  have htX8 : (w7.setCell ⟨(w.heap.size + 1), 3, none⟩ (.slice p7 (k + 1) c7)).heap.size = w7.heap.size := tX.size
                  have hnk : ∀ jj, wr.heap.size ≤ jj → jj < f20.heap.size → (w7.setCell ⟨(w.heap.size + 1), 3, none⟩ (.slice p7 (k + 1) c7)).heap[jj]? = f20.heap[jj]? := fun jj h1 h2 => by
                    have hrl := kr.lt
                    refine (tX.block jj (by show jj ≠ w.heap.size + 1; omega)).trans ((hg7.block jj (by rw [World.size_alloc]; omega) (fun e => ?_)).trans (Below.heap_alloc _ _ _ h2))
                    have := hvl jj e.symm
                    omega
                  have hEA8 := hEA.snoc (w' := w7.setCell ⟨(w.heap.size + 1), 3, none⟩ (.slice p7 (k + 1) c7)) HEk.out (fun j cs' hj => hkeep j cs' 5 hj (by decide) (fun e => by subst e; rw [show wr.heap[w.heap.size + 1]? = _ from kr] at hj; cases hj))
                    (by rw [htX8]; have : f20.heap.size ≤ w7.heap.size := by (have := hg7.size; rw [World.size_alloc] at this; omega)
                        have := hB20.size; omega)
                    (hinN.same (w' := w7.setCell ⟨(w.heap.size + 1), 3, none⟩ (.slice p7 (k + 1) c7)) (by rw [htX8]; have := hg7.size; rw [World.size_alloc] at this; omega) (fun a ha hqa hl => hnk _ (htyN a ha hqa).1 hl))
                    (fun a ha hqa => by
                      obtain ⟨h1, cs', hcs'⟩ := htyN a ha hqa
                      have h1' : wr.heap.size ≤ a.block := h1
                      have hl := (Array.getElem?_eq_some_iff.1 hcs').1
                      exact ⟨Nat.le_trans hww.size h1', cs', (hnk _ h1' hl).trans hcs'⟩)
                  have HKM : Hid (k < n) := hlt
                  go_wp2
                  go_roundw
                  case rel => exact ⟨k + 1, _, _, _, HKM.out, hEA8, by go_num, kr8, hev8, hrow8, hPL8, hb8⟩
                  case measure => simp [intOf]; have := HKM.out; omega
                refine AllReadyH.cons rfl (fun K hK => ?_) AllReadyH.nil
                go_simp
                have s22 := Blk.new' f20 72 #[.int .i64 ea, .int .i64 ek, .slice pm mm cm]
                have hB22 := bt hB20 (below_alloc f20 (.cells #[.int .i64 ea, .int .i64 ek, .slice pm mm cm] 72))
                refine hK.out _ _ ⟨(hB22.cell (p := ⟨eb, eo + k * 3, none⟩) hebw).trans g0, (hB22.cell (p := ⟨eb, eo + k * 3 + 1, none⟩) hebw).trans g1, (hB22.cell (p := ⟨eb, eo + k * 3 + 2, none⟩) hebw).trans g2⟩ (fun hHeld => ?_)
                clear hK K
                try simp only [Act.put, List.getElem_toArray, List.getElem_cons_succ, List.getElem_cons_zero, List.setIfInBounds_toArray, List.set_cons_zero, List.set_cons_succ]
                refine wpAnyH_ready (rs := [4]) (by kernel_rfl) (by simp) ?_
                refine AllReadyH.cons rfl (fun K hK => ?_) AllReadyH.nil
                have c4 := (kr.kept hB22).cell' (i := 3) rfl
                go_simp
                refine hK.out _ _ ⟨(hB22.cell (p := ⟨eb, eo + k * 3, none⟩) hebw).trans g0, (hB22.cell (p := ⟨eb, eo + k * 3 + 1, none⟩) hebw).trans g1, (hB22.cell (p := ⟨eb, eo + k * 3 + 2, none⟩) hebw).trans g2⟩ (fun hHeld => ?_)
                clear hK K
                try simp only [Act.put, List.getElem_toArray, List.getElem_cons_succ, List.getElem_cons_zero, List.setIfInBounds_toArray, List.set_cons_zero, List.set_cons_succ]
                refine wpAnyH_ready (rs := [23]) (by kernel_rfl) (by simp) ?_
                refine AllReadyH.cons rfl (fun K hK => ?_) AllReadyH.nil
                refine wp_appendEvR (w.heap.size + 2) (.tmp 129) (.tmp 147) rfl ve k cs _ _ _ rfl (owns_belowR hev hB22) (Nat.le_trans hBw hB22.size) _ rfl s22 rfl rfl rfl (by omega) ?_
                intro p7 c7 w7 hown7 hg7
                have hne7 : ∀ jj, ve.ownBlock = some jj → (w.heap.size + 2) ≤ jj := fun jj hj => (hev.lt jj hj).1
                have kr7 : Blk w7 (w.heap.size + 1) 85 _ := (kr.kept hB22).same (hg7.block (w.heap.size + 1) (Nat.lt_of_lt_of_le kr.lt hB22.size) (fun e => by have := hne7 _ e.symm; omega))
                have hE7 : ∀ jj, w7.cell? ⟨eb, jj, none⟩ = wr.cell? ⟨eb, jj, none⟩ := fun jj => World.cell?_of_block (a := ⟨eb, jj, none⟩) ((hg7.block eb (Nat.lt_of_lt_of_le hebw hB22.size) (fun e => by have := hne7 _ e.symm; omega)).trans (hB22.block eb hebw))
                refine hK.out _ _ ⟨(hE7 _).trans g0, (hE7 _).trans g1, (hE7 _).trans g2⟩ (fun hHeld => ?_)
                clear hK K
                try simp only [Act.put, List.getElem_toArray, List.getElem_cons_succ, List.getElem_cons_zero, List.setIfInBounds_toArray, List.set_cons_zero, List.set_cons_succ]
                refine wpAnyH_take (i := 24) (v := ?_) rfl (by kernel_rfl) (by kernel_rfl) (by kernel_rfl) (fun _ _ _ h => h) (Or.inl ⟨by rfl, ?_⟩) hHeld ?_
                rotate_left
                · intro w' hSw; try dsimp only at hSw
                  go_simp; try (with_reducible rfl)
                try simp only [Act.put, List.getElem_toArray, List.getElem_cons_succ, List.getElem_cons_zero, List.setIfInBounds_toArray, List.set_cons_zero, List.set_cons_succ]
                refine wpAnyH_take (i := 25) (v := ?_) rfl (by kernel_rfl) (by kernel_rfl) (by kernel_rfl) (fun _ _ _ h => h) (Or.inl ⟨by rfl, ?_⟩) hHeld ?_
                rotate_left
                · intro w' hSw; try dsimp only at hSw
                  go_simp; try (with_reducible rfl)
                try simp only [Act.put, List.getElem_toArray, List.getElem_cons_succ, List.getElem_cons_zero, List.setIfInBounds_toArray, List.set_cons_zero, List.set_cons_succ]
                refine wpAnyH_ready (rs := [26]) (by kernel_rfl) (by simp) ?_
                refine AllReadyH.cons rfl (fun K hK => ?_) AllReadyH.nil
                have c10 := kr7.cell' (i := 3) rfl
                have f10 := kr7.frozen 3
                go_simp
                have tX := Turned.setCell w7 ⟨(w.heap.size + 1), 3, none⟩ (.slice p7 (k + 1) c7)
                refine hK.out _ _ ⟨(tX.cellR (a := ⟨eb, eo + k * 3, none⟩) (show eb ≠ w.heap.size + 1 by omega)).trans ((hE7 _).trans g0), (tX.cellR (a := ⟨eb, eo + k * 3 + 1, none⟩) (show eb ≠ w.heap.size + 1 by omega)).trans ((hE7 _).trans g1), (tX.cellR (a := ⟨eb, eo + k * 3 + 2, none⟩) (show eb ≠ w.heap.size + 1 by omega)).trans ((hE7 _).trans g2)⟩ (fun hHeld => ?_)
                clear hK K
                try simp only [Act.put, List.getElem_toArray, List.getElem_cons_succ, List.getElem_cons_zero, List.setIfInBounds_toArray, List.set_cons_zero, List.set_cons_succ]
                refine wpAnyH_done (by kernel_rfl) ?_ _
                refine NoPanic.normal ?_
                clear hHeld
                have kr8 := kr7.set 3 (.slice p7 (k + 1) c7)
                have hev8 := owns_sameR (w' := w7.setCell ⟨(w.heap.size + 1), 3, none⟩ (.slice p7 (k + 1) c7)) hown7 (fun jj hj => tX.block jj (by have := (hown7.lt jj hj).1; show jj ≠ w.heap.size + 1; omega))
                have hkeep : ∀ jj cs' (t : TypeId), wr.heap[jj]? = some (.cells cs' t (0, 0)) → t ≠ 72 → jj ≠ w.heap.size + 1 → (w7.setCell ⟨(w.heap.size + 1), 3, none⟩ (.slice p7 (k + 1) c7)).heap[jj]? = wr.heap[jj]? := fun jj cs' t hj ht hne => by
                  have hjl := (Array.getElem?_eq_some_iff.1 hj).1
                  refine (tX.block jj hne).trans ((hg7.block jj (Nat.lt_of_lt_of_le hjl hB22.size) (fun e => ?_)).trans (hB22.block jj hjl))
                  obtain ⟨cs2, hcs2⟩ := owns_objR hev e.symm
                  rw [hj] at hcs2
                  cases hcs2
                  exact ht rfl
                have hrow8 := owns_sameR (w' := w7.setCell ⟨(w.heap.size + 1), 3, none⟩ (.slice p7 (k + 1) c7)) hrow (fun jj hj => by obtain ⟨cs3, hcs3⟩ := owns_objR hrow hj; exact hkeep jj cs3 _ hcs3 (by decide) (by have := (hrow.lt jj hj).1; omega))
                have hPL8 : ∀ y ∈ L, PagesIn (w7.setCell ⟨(w.heap.size + 1), 3, none⟩ (.slice p7 (k + 1) c7)) y (List.replicate np (fillP 255)) := fun y hy => (hPL y hy).same (fun jj hj => by obtain ⟨cs3, hcs3⟩ := owns_objR (hPL y hy).row hj; exact hkeep jj cs3 _ hcs3 (by decide) (fun e => by subst e; rw [show wr.heap[w.heap.size + 1]? = _ from kr] at hcs3; cases hcs3))
                have hb8 : Below w.heap.size w (w7.setCell ⟨(w.heap.size + 1), 3, none⟩ (.slice p7 (k + 1) c7)) := tX.below ((hww.trans (hB22.mono hww.size)).grown hg7 (Nat.le_trans hww.size hB22.size) (fun jj hj => by have := hne7 jj hj; omega)) (show w.heap.size ≤ w.heap.size + 1 by omega)
                have hvl : ∀ jj, ve.ownBlock = some jj → jj < wr.heap.size := fun jj hj => (hev.lt jj hj).2
                have hs22 := hB22.size
                have hs7 := hg7.size
                have htX8 : (w7.setCell ⟨(w.heap.size + 1), 3, none⟩ (.slice p7 (k + 1) c7)).heap.size = w7.heap.size := tX.size
                have hnk : ∀ jj, wr.heap.size ≤ jj → jj < f20.heap.size → (w7.setCell ⟨(w.heap.size + 1), 3, none⟩ (.slice p7 (k + 1) c7)).heap[jj]? = f20.heap[jj]? := fun jj h1 h2 => by
                  have hrl := kr.lt
                  refine (tX.block jj (by show jj ≠ w.heap.size + 1; omega)).trans ((hg7.block jj (by rw [World.size_alloc]; omega) (fun e => ?_)).trans (Below.heap_alloc _ _ _ h2))
                  have := hvl jj e.symm
                  omega
                have hEA8 := hEA.snoc (w' := w7.setCell ⟨(w.heap.size + 1), 3, none⟩ (.slice p7 (k + 1) c7)) HEk.out (fun j cs' hj => hkeep j cs' 5 hj (by decide) (fun e => by subst e; rw [show wr.heap[w.heap.size + 1]? = _ from kr] at hj; cases hj))
                  (by rw [htX8]; have : f20.heap.size ≤ w7.heap.size := by (have := hg7.size; rw [World.size_alloc] at this; omega)
                      have := hB20.size; omega)
                  (hinN.same (w' := w7.setCell ⟨(w.heap.size + 1), 3, none⟩ (.slice p7 (k + 1) c7)) (by rw [htX8]; have := hg7.size; rw [World.size_alloc] at this; omega) (fun a ha hqa hl => hnk _ (htyN a ha hqa).1 hl))
                  (fun a ha hqa => by
                    obtain ⟨h1, cs', hcs'⟩ := htyN a ha hqa
                    have h1' : wr.heap.size ≤ a.block := h1
                    have hl := (Array.getElem?_eq_some_iff.1 hcs').1
                    exact ⟨Nat.le_trans hww.size h1', cs', (hnk _ h1' hl).trans hcs'⟩)
                have HKM : Hid (k < n) := hlt
                go_wp2
                go_roundw
                case rel => exact ⟨k + 1, _, _, _, HKM.out, hEA8, by go_num, kr8, hev8, hrow8, hPL8, hb8⟩
                case measure => simp [intOf]; have := HKM.out; omega
              · obtain rfl : n = k := by omega
                have hkn3 : ¬ (n : Int) < (n : Int) := by omega
                go_wp2
                go_ret2
                obtain ⟨hRN, hfN⟩ := RsIn.new HGE.out HXL.out kr (Nat.le_add_right _ 2) hrow hev hEA hPL hAP HL.out HML.out (Nat.le_add_right _ 1)
                exact ⟨hww, .inr ⟨mk, HMK2.out, rfl, gr, cr, _, hRN, hfN⟩⟩
end Go.Proofs.Ythafcnilhloldaa
