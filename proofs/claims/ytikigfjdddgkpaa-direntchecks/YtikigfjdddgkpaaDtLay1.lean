/-
  What dirent.lay does.
-/
import Derived.Test.YtikigfjdddgkpaaDtPut
namespace Go.Proofs.Ytikigfjdddgkpaa
open Go.RowKit
/-- A record's head and name as bytes. -/
def encN (L I K : Nat) (nm : List UInt8) : List Nat := bytesB 4 I ++ bytesB 2 L ++ [nm.length] ++ [K] ++ ofNm nm
theorem encN_length (L I K : Nat) (nm : List UInt8) : (encN L I K nm).length = 8 + nm.length := by simp [encN, bytesB_length, ofNm_length]; omega
theorem encN_byte {L I K : Nat} {nm : List UInt8} (hn : nm.length < 256) (hK : K < 256) : ∀ x ∈ encN L I K nm, x < 256 := by
  intro x hx
  simp only [encN, List.mem_append, List.mem_singleton] at hx
  rcases hx with (((h | h) | h) | h) | h
  · exact bytesB_byte _ _ x h
  · exact bytesB_byte _ _ x h
  · omega
  · omega
  · exact ofNm_byte _ x h
theorem spl_set2 {xs y : List Nat} {a n k : Nat} (hy : y.length = 6) (h : a + 8 ≤ xs.length) : ((spl xs a y).set (a + 6) n).set (a + 7) k = spl xs a (y ++ [n] ++ [k]) := by
  have e1 : (spl xs a y).set (a + 6) n = spl xs a (y ++ [n]) := by
    rw [spl_set _ (by rw [spl_length (by omega)]; omega), spl_spl (by omega) (by simp; omega)]
  rw [e1, spl_set _ (by rw [spl_length (by simp; omega)]; omega), spl_spl (by simp; omega) (by simp; omega)]
set_option linter.unusedSimpArgs false in
set_option linter.unusedVariables false in
set_option maxRecDepth 100000 in
set_option maxHeartbeats 8000000 in
theorem lay_any (B g C a L I K : Nat) (nm : List UInt8) (xs : List Nat) (w : World) (h : w.ownsRow B 5 1 (.slice (some ⟨g, 0, none⟩) 256 C) 256 (vals xs)) (ha : a + 8 + nm.length ≤ 256) (hL : L < 65536) (hI : I < 4294967296) (hK : K < 256) :
    Calls Try.prog 40 #[.slice (some ⟨g, 0, none⟩) 256 C, (Rc.mk (a : Int) (L : Int) nm (I : Int) (K : Int)).val] w fun e w' => e = .returned (.tuple #[]) ∧ w'.ownsRow B 5 1 (.slice (some ⟨g, 0, none⟩) 256 C) 256 (vals (spl xs a (encN L I K nm))) ∧ Keep (fun k => k = g) w w' := by
  have HXL : Hid (xs.length = 256) := by have := h.1; show _ = _; simpa [vals] using this
  have hgl : g < w.heap.size := (h.lt g rfl).2
  have hcap : 256 ≤ C := by
    rcases h.2 with ⟨hn, _⟩ | ⟨g', cap, cur, hv, _, _, hc, _⟩
    · cases hn
    · cases hv; exact hc
  obtain ⟨C1, hC1⟩ : ∃ C1, C1 = C - a := ⟨_, rfl⟩
  obtain ⟨C4, hC4⟩ : ∃ C4, C4 = C1 - 4 := ⟨_, rfl⟩
  have ha8 : (a : Int) + 8 = ((a + 8 : Nat) : Int) := by omega
  have hsl1 : ∀ W, (Instr.slice 22 (.slice (some ⟨g, 0, none⟩) 256 C) (some (.int .i64 (a : Int))) (some (.int .i64 ((a : Int) + 8))) none).run Try.prog W = .ok (.slice (some ⟨g, a, none⟩) 8 C1) W := fun W => by
    rw [ha8, slice_mid g 0 256 C a (a + 8) (by omega) (by omega) hcap W, hC1, show a + 8 - a = 8 by omega, Nat.zero_add]
  have hsl0 : ∀ W, (Instr.slice 22 (.slice (some ⟨g, a, none⟩) 8 C1) none (some (.int .i64 4)) none).run Try.prog W = .ok (.slice (some ⟨g, a, none⟩) 4 C1) W := fun W => slice_front _ 8 C1 4 (by omega) (by omega) W
  have hsl4 : ∀ W, (Instr.slice 22 (.slice (some ⟨g, a, none⟩) 8 C1) (some (.int .i64 4)) (some (.int .i64 6)) none).run Try.prog W = .ok (.slice (some ⟨g, a + 4, none⟩) 2 C4) W := fun W => by
    have := slice_mid g a 8 C1 4 6 (by omega) (by omega) (by omega) W
    rw [← hC4] at this
    exact this
  have hsl8 : ∃ o8 C8, (∀ W, (Instr.slice 22 (.slice (some ⟨g, 0, none⟩) 256 C) (some (.int .i64 ((a : Int) + 8))) none none).run Try.prog W = .ok (.slice (some ⟨g, o8, none⟩) (256 - (a + 8)) C8) W) ∧ o8 ≤ a + 8 ∧ (1 ≤ nm.length → o8 = a + 8) := by
    rcases Nat.lt_or_ge (a + 8) 256 with h8 | h8
    · refine ⟨a + 8, C - (a + 8), fun W => ?_, Nat.le_refl _, fun _ => rfl⟩
      rw [ha8, slice_back g 0 256 C (a + 8) h8 hcap W, Nat.zero_add]
    · have h9 : a + 8 = 256 := by omega
      refine ⟨if C = 256 then 0 else 256, C - 256, fun W => ?_, by split <;> omega, fun h => by omega⟩
      rw [ha8, h9]
      by_cases hc : C = 256
      · subst hc
        simp [Instr.slice, Instr.sliceBounds, Instr.sliceBound, run_underlying Try.underlying22, asIntOf]
      · simp [Instr.slice, Instr.sliceBounds, Instr.sliceBound, run_underlying Try.underlying22, asIntOf, hc, addr_add]
  obtain ⟨o8, C8, hsl8, ho8, ho8'⟩ := hsl8
  have hb0 := below_alloc w (.cells #[.int .i64 (a : Int), .int .i64 (L : Int), .string ⟨nm.toArray⟩, .int .i64 (I : Int), .int .i64 (K : Int)] 69)
  have k1 := Blk.new' w 69 #[.int .i64 (a : Int), .int .i64 (L : Int), .string ⟨nm.toArray⟩, .int .i64 (I : Int), .int .i64 (K : Int)]
  have h1 := owns_below h hb0
  have hwg : w.heap.size ≠ g := by omega
  have HO8 : Hid (o8 ≤ a + 8 ∧ (1 ≤ nm.length → o8 = a + 8)) := ⟨ho8, ho8'⟩
  clear ha8 hC1 hC4 h ho8 ho8'
  go_enter Try.func40, Try.ntmps40
  go_wp2
  generalize World.alloc w _ = W1 at k1 h1 hb0 ⊢
  refine wp_region_noPanic ?_
  refine wp_region_held_drew (S := fun X => Blk X w.heap.size 69 [.int .i64 (a : Int), .int .i64 (L : Int), .string ⟨nm.toArray⟩, .int .i64 (I : Int), .int .i64 (K : Int)]) (by kernel_rfl) k1.drew (fun hHeld => ?_)
  refine wpAnyH_take (i := 0) (v := ?_) rfl (by kernel_rfl) (by kernel_rfl) (by kernel_rfl) (fun _ _ _ h => h) (Or.inl ⟨by rfl, ?_⟩) hHeld ?_
  rotate_left
  · intro w' hSw; try dsimp only at hSw
    go_simp; try (with_reducible rfl)
  try simp only [Act.put, List.getElem_toArray, List.getElem_cons_succ, List.getElem_cons_zero, List.setIfInBounds_toArray, List.set_cons_zero, List.set_cons_succ]
  refine wpAnyH_take (i := 1) (v := ?_) rfl (by kernel_rfl) (by kernel_rfl) (by kernel_rfl) (fun _ _ _ h => h) (Or.inl ⟨by rfl, ?_⟩) hHeld ?_
  rotate_left
  · intro w' hSw; try dsimp only at hSw
    go_simp; try (with_reducible rfl)
  try simp only [Act.put, List.getElem_toArray, List.getElem_cons_succ, List.getElem_cons_zero, List.setIfInBounds_toArray, List.set_cons_zero, List.set_cons_succ]
  refine wpAnyH_take (i := 2) (v := ?_) rfl (by kernel_rfl) (by kernel_rfl) (by kernel_rfl) (fun _ _ _ h => h) (Or.inl ⟨by rfl, ?_⟩) hHeld ?_
  rotate_left
  · intro w' hSw; try dsimp only at hSw
    go_simp; try (with_reducible rfl)
  try simp only [Act.put, List.getElem_toArray, List.getElem_cons_succ, List.getElem_cons_zero, List.setIfInBounds_toArray, List.set_cons_zero, List.set_cons_succ]
  refine wpAnyH_take (i := 3) (v := ?_) rfl (by kernel_rfl) (by kernel_rfl) (by kernel_rfl) (fun _ _ _ h => h) (Or.inl ⟨by rfl, ?_⟩) hHeld ?_
  rotate_left
  · intro w' hSw; try dsimp only at hSw
    go_simp; try (with_reducible rfl)
  try simp only [Act.put, List.getElem_toArray, List.getElem_cons_succ, List.getElem_cons_zero, List.setIfInBounds_toArray, List.set_cons_zero, List.set_cons_succ]
  refine wpAnyH_take (i := 4) (v := ?_) rfl (by kernel_rfl) (by kernel_rfl) (by kernel_rfl) (fun _ _ _ h => h) (Or.inl ⟨by rfl, ?_⟩) hHeld ?_
  rotate_left
  · intro w' hSw; try dsimp only at hSw
    have d0 := hSw.cell' (i := 0) rfl
    have d1 := hSw.cell' (i := 1) rfl
    have d2 := hSw.cell' (i := 2) rfl
    have d3 := hSw.cell' (i := 3) rfl
    have d4 := hSw.cell' (i := 4) rfl
    go_simp; try (with_reducible rfl)
  try simp only [Act.put, List.getElem_toArray, List.getElem_cons_succ, List.getElem_cons_zero, List.setIfInBounds_toArray, List.set_cons_zero, List.set_cons_succ]
  refine wpAnyH_ready (rs := [5]) (by kernel_rfl) (by simp) ?_
  refine AllReadyH.cons rfl (fun K hK => ?_) AllReadyH.nil
  go_simp
  refine (putNumber_any B g 256 C a 4 C1 I xs _ h1.drew (by omega) (by omega) hI).mono ?_
  rintro e2 w2 ⟨rfl, h2, t2⟩
  refine hK.out _ _ (hHeld.turned t2 (by omega)) (fun hHeld => ?_)
  clear hK K
  try simp only [Act.put, List.getElem_toArray, List.getElem_cons_succ, List.getElem_cons_zero, List.setIfInBounds_toArray, List.set_cons_zero, List.set_cons_succ]
  refine wpAnyH_done (by kernel_rfl) ?_ _
  refine NoPanic.normal ?_
  have k2 := hHeld
  clear hHeld
  go_wp2
  refine wp_region_noPanic ?_
  refine wp_region_held_drew (S := fun X => Blk X w.heap.size 69 [.int .i64 (a : Int), .int .i64 (L : Int), .string ⟨nm.toArray⟩, .int .i64 (I : Int), .int .i64 (K : Int)]) (by kernel_rfl) k2.drew (fun hHeld => ?_)
  refine wpAnyH_take (i := 0) (v := ?_) rfl (by kernel_rfl) (by kernel_rfl) (by kernel_rfl) (fun _ _ _ h => h) (Or.inl ⟨by rfl, ?_⟩) hHeld ?_
  rotate_left
  · intro w' hSw; try dsimp only at hSw
    go_simp; try (with_reducible rfl)
  try simp only [Act.put, List.getElem_toArray, List.getElem_cons_succ, List.getElem_cons_zero, List.setIfInBounds_toArray, List.set_cons_zero, List.set_cons_succ]
  refine wpAnyH_take (i := 1) (v := ?_) rfl (by kernel_rfl) (by kernel_rfl) (by kernel_rfl) (fun _ _ _ h => h) (Or.inl ⟨by rfl, ?_⟩) hHeld ?_
  rotate_left
  · intro w' hSw; try dsimp only at hSw
    go_simp; try (with_reducible rfl)
  try simp only [Act.put, List.getElem_toArray, List.getElem_cons_succ, List.getElem_cons_zero, List.setIfInBounds_toArray, List.set_cons_zero, List.set_cons_succ]
  refine wpAnyH_take (i := 2) (v := ?_) rfl (by kernel_rfl) (by kernel_rfl) (by kernel_rfl) (fun _ _ _ h => h) (Or.inl ⟨by rfl, ?_⟩) hHeld ?_
  rotate_left
  · intro w' hSw; try dsimp only at hSw
    go_simp; try (with_reducible rfl)
  try simp only [Act.put, List.getElem_toArray, List.getElem_cons_succ, List.getElem_cons_zero, List.setIfInBounds_toArray, List.set_cons_zero, List.set_cons_succ]
  refine wpAnyH_take (i := 3) (v := ?_) rfl (by kernel_rfl) (by kernel_rfl) (by kernel_rfl) (fun _ _ _ h => h) (Or.inl ⟨by rfl, ?_⟩) hHeld ?_
  rotate_left
  · intro w' hSw; try dsimp only at hSw
    have d0 := hSw.cell' (i := 0) rfl
    have d1 := hSw.cell' (i := 1) rfl
    have d2 := hSw.cell' (i := 2) rfl
    have d3 := hSw.cell' (i := 3) rfl
    have d4 := hSw.cell' (i := 4) rfl
    go_simp; try (with_reducible rfl)
  try simp only [Act.put, List.getElem_toArray, List.getElem_cons_succ, List.getElem_cons_zero, List.setIfInBounds_toArray, List.set_cons_zero, List.set_cons_succ]
  refine wpAnyH_ready (rs := [4]) (by kernel_rfl) (by simp) ?_
  refine AllReadyH.cons rfl (fun K hK => ?_) AllReadyH.nil
  go_simp
  refine (putNumber_any B g 256 C (a + 4) 2 C4 L _ _ h2.drew (by omega) (by omega) (by omega)).mono ?_
  rintro e3 w3 ⟨rfl, h3, t3⟩
  refine hK.out _ _ (hHeld.turned t3 (by omega)) (fun hHeld => ?_)
  clear hK K
  try simp only [Act.put, List.getElem_toArray, List.getElem_cons_succ, List.getElem_cons_zero, List.setIfInBounds_toArray, List.set_cons_zero, List.set_cons_succ]
  refine wpAnyH_done (by kernel_rfl) ?_ _
  refine NoPanic.normal ?_
  have k3 := hHeld
  clear hHeld
  rw [spl_spl (by rw [bytesB_length]) (by rw [bytesB_length, bytesB_length, HXL.out]; omega)] at h3
  have hy6 : (bytesB 4 I ++ bytesB 2 L).length = 6 := by rw [List.length_append, bytesB_length, bytesB_length]
  have hx3 : (spl xs a (bytesB 4 I ++ bytesB 2 L)).length = 256 := by rw [spl_length (by rw [hy6, HXL.out]; omega), HXL.out]
  have hc6 : ∃ v, w3.cell? ⟨g, a + 6, none⟩ = some v := ⟨_, (h3.cellAt _ (by omega)).trans (vals_get _ _ (by omega))⟩
  obtain ⟨v6, hc6⟩ := hc6
  have hf6 : w3.frozen? ⟨g, a + 6, none⟩ = false := h3.frozenAt _
  have hc7 : ∃ v, w3.cell? ⟨g, a + 7, none⟩ = some v := ⟨_, (h3.cellAt _ (by omega)).trans (vals_get _ _ (by omega))⟩
  obtain ⟨v7, hc7⟩ := hc7
  have hf7 : w3.frozen? ⟨g, a + 7, none⟩ = false := h3.frozenAt _
  have d2 := k3.cell' (i := 2) rfl
  have d4 := k3.cell' (i := 4) rfl
  have HX3 : Hid ((spl xs a (bytesB 4 I ++ bytesB 2 L)).length = 256) := hx3
  have hs := sz nm
  clear hx3 hy6
  go_wp2
  have s6 := h3.stored (a + 6) (.int .u8 (nm.length : Int))
  have s7 := s6.1.stored (a + 7) (.int .u8 (K : Int))
  have h5 := s7.1
  rw [← vals_set1, ← vals_set1, spl_set2 (by rw [List.length_append, bytesB_length, bytesB_length]) (by rw [HXL.out]; omega)] at h5
  have k5 := (k3.setOther ⟨g, a + 6, none⟩ (.int .u8 (nm.length : Int)) hwg).setOther ⟨g, a + 7, none⟩ (.int .u8 (K : Int)) hwg
  have t5 : Turned w3 ((w3.setCell ⟨g, a + 6, none⟩ (.int .u8 (nm.length : Int))).setCell ⟨g, a + 7, none⟩ (.int .u8 (K : Int))) g := (Turned.setCell w3 ⟨g, a + 6, none⟩ _).trans2 (Turned.setCell _ ⟨g, a + 7, none⟩ _)
  generalize (w3.setCell ⟨g, a + 6, none⟩ (.int .u8 (nm.length : Int))).setCell ⟨g, a + 7, none⟩ (.int .u8 (K : Int)) = W5 at h5 k5 t5 ⊢
  clear s6 s7 hc6 hf6 hc7 hf7 d2 d4
  obtain ⟨w6, hcp, h6, t6⟩ : ∃ w6, (Builtin.copy_ #[22, 9] 3 #[.slice (some ⟨g, o8, none⟩) (256 - (a + 8)) C8, .string ⟨nm.toArray⟩]).run Try.prog W5.drew = .ok (.int .i64 (nm.length : Int)) w6 ∧ w6.ownsRow B 5 1 (.slice (some ⟨g, 0, none⟩) 256 C) 256 (vals (spl xs a (encN L I K nm))) ∧ Turned W5.drew w6 g := by
    obtain ⟨w6, q1, q2, q3⟩ := copy_str (o := o8) (m := 256 - (a + 8)) (c := C8) (l := nm) (h := (show W5.drew.ownsRow B 5 1 (.slice (some ⟨g, 0, none⟩) 256 C) 256 _ from h5.drew)) (by have := HO8.out.1; omega) (by omega)
    refine ⟨w6, q1, ?_, q3⟩
    by_cases hn : nm = []
    · subst hn
      rw [show ofNm [] = [] from rfl, spl_nil] at q2
      rw [show encN L I K [] = bytesB 4 I ++ bytesB 2 L ++ [([] : List UInt8).length] ++ [K] from by simp [encN, ofNm]]
      exact q2
    · have hl : 1 ≤ nm.length := by cases nm with | nil => exact absurd rfl hn | cons x t => simp
      rw [HO8.out.2 hl, spl_spl (by simp [bytesB_length]) (by simp [bytesB_length, HXL.out, ofNm_length]; omega)] at q2
      exact q2
  generalize 256 - (a + 8) = M8 at hcp hsl8
  have hwr8 : IntKind.i64.wrap ((a : Int) + 8) = (a : Int) + 8 := wrap_small _ (by omega) (by omega)
  refine wp_region_noPanic ?_
  refine wp_region_held_drew (S := fun X => Blk X w.heap.size 69 [.int .i64 (a : Int), .int .i64 (L : Int), .string ⟨nm.toArray⟩, .int .i64 (I : Int), .int .i64 (K : Int)]) (by kernel_rfl) k5.drew (fun hHeld => ?_)
  refine wpAnyH_take (i := 0) (v := ?_) rfl (by kernel_rfl) (by kernel_rfl) (by kernel_rfl) (fun _ _ _ h => h) (Or.inl ⟨by rfl, ?_⟩) hHeld ?_
  rotate_left
  · intro w' hSw; try dsimp only at hSw
    go_simp; try (with_reducible rfl)
  try simp only [Act.put, List.getElem_toArray, List.getElem_cons_succ, List.getElem_cons_zero, List.setIfInBounds_toArray, List.set_cons_zero, List.set_cons_succ]
  refine wpAnyH_take (i := 1) (v := ?_) rfl (by kernel_rfl) (by kernel_rfl) (by kernel_rfl) (fun _ _ _ h => h) (Or.inl ⟨by rfl, ?_⟩) hHeld ?_
  rotate_left
  · intro w' hSw; try dsimp only at hSw
    go_simp; try (with_reducible rfl)
  try simp only [Act.put, List.getElem_toArray, List.getElem_cons_succ, List.getElem_cons_zero, List.setIfInBounds_toArray, List.set_cons_zero, List.set_cons_succ]
  refine wpAnyH_take (i := 2) (v := ?_) rfl (by kernel_rfl) (by kernel_rfl) (by kernel_rfl) (fun _ _ _ h => h) (Or.inl ⟨by rfl, ?_⟩) hHeld ?_
  rotate_left
  · intro w' hSw; try dsimp only at hSw
    have d0 := hSw.cell' (i := 0) rfl
    have d1 := hSw.cell' (i := 1) rfl
    have d2 := hSw.cell' (i := 2) rfl
    have d3 := hSw.cell' (i := 3) rfl
    have d4 := hSw.cell' (i := 4) rfl
    go_simp; try (with_reducible rfl)
  try simp only [Act.put, List.getElem_toArray, List.getElem_cons_succ, List.getElem_cons_zero, List.setIfInBounds_toArray, List.set_cons_zero, List.set_cons_succ]
  refine wpAnyH_take (i := 3) (v := ?_) rfl (by kernel_rfl) (by kernel_rfl) (by kernel_rfl) (fun _ _ _ h => h) (Or.inl ⟨by rfl, ?_⟩) hHeld ?_
  rotate_left
  · intro w' hSw; try dsimp only at hSw
    go_simp; try (with_reducible rfl)
  try simp only [Act.put, List.getElem_toArray, List.getElem_cons_succ, List.getElem_cons_zero, List.setIfInBounds_toArray, List.set_cons_zero, List.set_cons_succ]
  refine wpAnyH_take (i := 4) (v := ?_) rfl (by kernel_rfl) (by kernel_rfl) (by kernel_rfl) (fun _ _ _ h => h) (Or.inl ⟨by rfl, ?_⟩) hHeld ?_
  rotate_left
  · intro w' hSw; try dsimp only at hSw
    go_simp; try (with_reducible rfl)
  try simp only [Act.put, List.getElem_toArray, List.getElem_cons_succ, List.getElem_cons_zero, List.setIfInBounds_toArray, List.set_cons_zero, List.set_cons_succ]
  refine wpAnyH_take (i := 5) (v := ?_) rfl (by kernel_rfl) (by kernel_rfl) (by kernel_rfl) (fun _ _ _ h => h) (Or.inl ⟨by rfl, ?_⟩) hHeld ?_
  rotate_left
  · intro w' hSw; try dsimp only at hSw
    go_simp; try (with_reducible rfl)
  try simp only [Act.put, List.getElem_toArray, List.getElem_cons_succ, List.getElem_cons_zero, List.setIfInBounds_toArray, List.set_cons_zero, List.set_cons_succ]
  refine wpAnyH_take (i := 6) (v := ?_) rfl (by kernel_rfl) (by kernel_rfl) (by kernel_rfl) (fun _ _ _ h => h) (Or.inl ⟨by rfl, ?_⟩) hHeld ?_
  rotate_left
  · intro w' hSw; try dsimp only at hSw
    go_simp; try (with_reducible rfl)
  try simp only [Act.put, List.getElem_toArray, List.getElem_cons_succ, List.getElem_cons_zero, List.setIfInBounds_toArray, List.set_cons_zero, List.set_cons_succ]
  refine wpAnyH_take (i := 7) (v := ?_) rfl (by kernel_rfl) (by kernel_rfl) (by kernel_rfl) (fun _ _ _ h => h) (Or.inl ⟨by rfl, ?_⟩) hHeld ?_
  rotate_left
  · intro w' hSw; try dsimp only at hSw
    have d0 := hSw.cell' (i := 0) rfl
    have d1 := hSw.cell' (i := 1) rfl
    have d2 := hSw.cell' (i := 2) rfl
    have d3 := hSw.cell' (i := 3) rfl
    have d4 := hSw.cell' (i := 4) rfl
    go_simp; try (with_reducible rfl)
  try simp only [Act.put, List.getElem_toArray, List.getElem_cons_succ, List.getElem_cons_zero, List.setIfInBounds_toArray, List.set_cons_zero, List.set_cons_succ]
  refine wpAnyH_ready (rs := [8]) (by kernel_rfl) (by simp) ?_
  refine AllReadyH.cons rfl (fun K hK => ?_) AllReadyH.nil
  go_simp
  refine hK.out _ _ (k5.drew.turned t6 (by omega)) (fun hHeld => ?_)
  clear hK K
  try simp only [Act.put, List.getElem_toArray, List.getElem_cons_succ, List.getElem_cons_zero, List.setIfInBounds_toArray, List.set_cons_zero, List.set_cons_succ]
  refine wpAnyH_done (by kernel_rfl) ?_ _
  refine NoPanic.normal ?_
  clear hcp
  go_wp2
  go_end0
  refine ⟨rfl, h6, ?_⟩
  have K1 : Keep (fun k => k = g) w W1.drew := Keep.of_below hb0.drew
  have K2 := K1.trans (Keep.drew (Keep.of_turned (S := fun k => k = g) t2 rfl)) (fun _ _ h => h)
  have K3 := K2.trans (Keep.of_turned (S := fun k => k = g) t3 rfl) (fun _ _ h => h)
  have K5 := K3.trans (Keep.drew (Keep.of_turned (S := fun k => k = g) t5 rfl)) (fun _ _ h => h)
  exact K5.trans (Keep.of_turned (S := fun k => k = g) t6 rfl) (fun _ _ h => h)
end Go.Proofs.Ytikigfjdddgkpaa
