/-
  The reference's New of a table.
-/
import Derived.Test.YtfgelncfmopibabSnNewRQ
namespace Go.Proofs.Ytfgelncfmopibab
open Go.RowKit
theorem infoI : (Try.prog.info? 3).map (fun i => (i.zero, i.size, i.bytes)) = some (some (.int .i64 0), 1, 8) := by kernel_rfl
theorem r05new_no (p l k : Int) (w : World) (hok : okSz p l k = false) :
    Calls Try.prog 25 #[.int .i64 p, .int .i64 l, .int .i64 k] w fun e w' => e = .returned (.tuple #[.agg #[.int .i64 0, .int .i64 0, .int .i64 0, .slice none 0 0, .slice none 0 0, .int .i64 0, .int .i64 0, .int .i64 0, .slice none 0 0], .int .i64 1]) ∧ Below w.heap.size w w' := by
  have hb0 := below_alloc w (.cells #[.int .i64 0, .int .i64 0, .int .i64 0, .slice none 0 0, .slice none 0 0, .int .i64 0, .int .i64 0, .int .i64 0, .slice none 0 0] 35)
  have hno : ¬ ((4 ≤ p ∧ p ≤ 32) ∧ (1 ≤ l ∧ l ≤ 256) ∧ (1 ≤ k ∧ k ≤ 8)) := fun h => by rw [okSz_iff.2 h] at hok; cases hok
  by_cases h0 : p < 4
  · clear hno hok
    go_enter Try.func25, Try.ntmps25
    go_wp2
    exact bodyPost_ret (v := .tuple #[.agg #[.int .i64 0, .int .i64 0, .int .i64 0, .slice none 0 0, .slice none 0 0, .int .i64 0, .int .i64 0, .int .i64 0, .slice none 0 0], .int .i64 1]) (by simp [results, Try.results25, go_sem]) rfl ⟨rfl, hb0⟩
  by_cases h1 : 32 < p
  · clear hno hok
    go_enter Try.func25, Try.ntmps25
    go_wp2
    exact bodyPost_ret (v := .tuple #[.agg #[.int .i64 0, .int .i64 0, .int .i64 0, .slice none 0 0, .slice none 0 0, .int .i64 0, .int .i64 0, .int .i64 0, .slice none 0 0], .int .i64 1]) (by simp [results, Try.results25, go_sem]) rfl ⟨rfl, hb0⟩
  by_cases h2 : l < 1
  · clear hno hok
    go_enter Try.func25, Try.ntmps25
    go_wp2
    exact bodyPost_ret (v := .tuple #[.agg #[.int .i64 0, .int .i64 0, .int .i64 0, .slice none 0 0, .slice none 0 0, .int .i64 0, .int .i64 0, .int .i64 0, .slice none 0 0], .int .i64 1]) (by simp [results, Try.results25, go_sem]) rfl ⟨rfl, hb0⟩
  by_cases h3 : 256 < l
  · clear hno hok
    go_enter Try.func25, Try.ntmps25
    go_wp2
    exact bodyPost_ret (v := .tuple #[.agg #[.int .i64 0, .int .i64 0, .int .i64 0, .slice none 0 0, .slice none 0 0, .int .i64 0, .int .i64 0, .int .i64 0, .slice none 0 0], .int .i64 1]) (by simp [results, Try.results25, go_sem]) rfl ⟨rfl, hb0⟩
  by_cases h4 : k < 1
  · clear hno hok
    go_enter Try.func25, Try.ntmps25
    go_wp2
    exact bodyPost_ret (v := .tuple #[.agg #[.int .i64 0, .int .i64 0, .int .i64 0, .slice none 0 0, .slice none 0 0, .int .i64 0, .int .i64 0, .int .i64 0, .slice none 0 0], .int .i64 1]) (by simp [results, Try.results25, go_sem]) rfl ⟨rfl, hb0⟩
  by_cases h5 : 8 < k
  · clear hno hok
    go_enter Try.func25, Try.ntmps25
    go_wp2
    exact bodyPost_ret (v := .tuple #[.agg #[.int .i64 0, .int .i64 0, .int .i64 0, .slice none 0 0, .slice none 0 0, .int .i64 0, .int .i64 0, .int .i64 0, .slice none 0 0], .int .i64 1]) (by simp [results, Try.results25, go_sem]) rfl ⟨rfl, hb0⟩
  exact absurd ⟨⟨by omega, by omega⟩, ⟨by omega, by omega⟩, ⟨by omega, by omega⟩⟩ hno
theorem owns_turnedB {w w' : World} {B g : Nat} {e : TypeId} {s : Nat} {v : Value} {n : Nat} {xs : List Value} (h : w.ownsRow B e s v n xs) (ht : Turned w w' g) (hg : g < B) : w'.ownsRow B e s v n xs := by
  refine ⟨h.1, ?_⟩
  rcases h.2 with h' | ⟨g', cap, cur, hv', hB', hh, hr'⟩
  · exact .inl h'
  · exact .inr ⟨g', cap, cur, hv', hB', (ht.block g' (by omega)).trans hh, hr'⟩
theorem owns_low {w : World} {A B : Nat} {e : TypeId} {s : Nat} {v : Value} {n : Nat} {xs : List Value} (h : w.ownsRow B e s v n xs) (hA : A ≤ B) : w.ownsRow A e s v n xs := by
  refine ⟨h.1, ?_⟩
  rcases h.2 with h' | ⟨g', cap, cur, hv', hB', hh, hr'⟩
  · exact .inl h'
  · exact .inr ⟨g', cap, cur, hv', by omega, hh, hr'⟩
theorem Blk.grown' {w w' : World} {row : Option Nat} {g B : Nat} {t : TypeId} {cs : List Value} (h : Blk w g t cs) (hg : w.grownBy w' row) (hr : ∀ k, row = some k → B ≤ k) (hB : g < B) : Blk w' g t cs :=
  (hg.block g h.lt (fun e => by have := hr g e.symm; omega)).trans h
set_option linter.unusedSimpArgs false in
set_option maxRecDepth 100000 in
set_option maxHeartbeats 8000000 in
theorem r05new_ok (p : Int) (L : Nat) (k : Int) (M : Nat) (w : World) (hok : okSz p (L : Int) k = true) (hm : (L : Int) * p = (M : Int)) :
    Calls Try.prog 25 #[.int .i64 p, .int .i64 (L : Int), .int .i64 k] w fun e w' => ∃ V, e = .returned (.tuple #[.agg (tabA V (newT p L k M)), .int .i64 0]) ∧ OwnT w.heap.size w' V (newT p L k M) [] ∧ V.nd = L ∧ V.nh = M ∧ V.nl = 0 ∧ Below w.heap.size w w' := by
  obtain ⟨⟨r1, r2⟩, ⟨r3, r4⟩, ⟨r5, r6⟩⟩ := okSz_iff.1 hok
  have hM := prod_bd ⟨r3, r4⟩ ⟨r1, r2⟩
  rw [hm] at hM
  have hMb : M ≤ 8192 := by omega
  have hm' : p * (L : Int) = (M : Int) := by rw [Int.mul_comm]; exact hm
  have hw1 : IntKind.i64.wrap (p * (L : Int)) = (M : Int) := by rw [hm']; exact wrapN M (by omega)
  have hw2 : wrap64 (p * (L : Int)) = (M : Int) := (IntWalk.i64_left _).symm.trans hw1
  have hmk := make_bools M (by omega)
  obtain ⟨i0, hi, hz0, hz1, hz2⟩ := info_parts infoI
  have r0 := (Blk.new' w 35 #[.int .i64 0, .int .i64 0, .int .i64 0, .slice none 0 0, .slice none 0 0, .int .i64 0, .int .i64 0, .int .i64 0, .slice none 0 0]).alloc (.cells #[.int .i64 p, .int .i64 (L : Int), .int .i64 k, .slice none 0 0, .slice none 0 0, .int .i64 0, .int .i64 0, .int .i64 0, .slice none 0 0] 35)
  have g0 := Blk.new' (w.alloc (.cells #[.int .i64 0, .int .i64 0, .int .i64 0, .slice none 0 0, .slice none 0 0, .int .i64 0, .int .i64 0, .int .i64 0, .slice none 0 0] 35)) 35 #[.int .i64 p, .int .i64 (L : Int), .int .i64 k, .slice none 0 0, .slice none 0 0, .int .i64 0, .int .i64 0, .int .i64 0, .slice none 0 0]
  have hb0 := bt (below_alloc w (.cells #[.int .i64 0, .int .i64 0, .int .i64 0, .slice none 0 0, .slice none 0 0, .int .i64 0, .int .i64 0, .int .i64 0, .slice none 0 0] 35)) (below_alloc _ (.cells #[.int .i64 p, .int .i64 (L : Int), .int .i64 k, .slice none 0 0, .slice none 0 0, .int .i64 0, .int .i64 0, .int .i64 0, .slice none 0 0] 35))
  rw [World.size_alloc] at g0
  clear hM hm hm' hok
  go_enter Try.func25, Try.ntmps25
  go_upto_region 4 with (fail)
  generalize (w.alloc (.cells #[.int .i64 0, .int .i64 0, .int .i64 0, .slice none 0 0, .slice none 0 0, .int .i64 0, .int .i64 0, .int .i64 0, .slice none 0 0] 35)).alloc (.cells #[.int .i64 p, .int .i64 (L : Int), .int .i64 k, .slice none 0 0, .slice none 0 0, .int .i64 0, .int .i64 0, .int .i64 0, .slice none 0 0] 35) = W0 at *
  go_wp2
  go_loopw [9] (fun i wr => ∃ (j : Nat) (q : Option Addr) (cq : Nat), j ≤ L ∧ i = .int .i64 j ∧ Blk wr (w.heap.size + 1) 35 [.int .i64 p, .int .i64 (L : Int), .int .i64 k, .slice q j cq, .slice none 0 0, .int .i64 0, .int .i64 0, .int .i64 0, .slice none 0 0] ∧ Blk wr w.heap.size 35 [.int .i64 0, .int .i64 0, .int .i64 0, .slice none 0 0, .slice none 0 0, .int .i64 0, .int .i64 0, .int .i64 0, .slice none 0 0] ∧ wr.ownsRow (w.heap.size + 2) 3 1 (.slice q j cq) j (valsI (List.replicate j (-1))) ∧ Below w.heap.size w wr) (fun i _ => L - (intOf i).toNat)
  case atStart => exact ⟨0, none, 0, Nat.zero_le _, rfl, g0, r0, ⟨rfl, .inl ⟨rfl, rfl⟩⟩, hb0⟩
  case round =>
    obtain ⟨j, q, cq, hj, rfl, gj, rj, hown, hbj⟩ := hrel
    clear g0 r0 hb0
    have hsz := gj.lt
    have c0 := gj.cell' (i := 3) rfl
    have f0 := gj.frozen 3
    by_cases hlt : j < L
    · have hji : (j : Int) < (L : Int) := by omega
      have hLi : (L : Int) ≤ 256 := r4
      have ba := below_alloc wr (.cells #[.int .i64 (-1)] 3)
      have bl := Blk.new' wr 3 #[.int .i64 (-1)]
      have hown2 := owns_below hown ba
      have HO : Hid ((wr.alloc (.cells #[.int .i64 (-1)] 3)).ownsRow (w.heap.size + 2) 3 1 (.slice q j cq) j (valsI (List.replicate j (-1)))) := hown2
      have gj2 := gj.kept ba
      have rj2 := rj.kept ba
      clear hown hown2
      go_wp2_with (at_builtin; refine wpList_append_own _ rfl (.tmp 43) (.tmp 44) 29 rfl (w.heap.size + 2) 3 i0 (.int .i64 0) 1 8 Try.underlying29 hi hz0 hz1 hz2 rfl (by decide) (.slice q j cq) j (valsI (List.replicate j (-1))) rfl HO.out ⟨wr.heap.size, 0, none⟩ 1 1 [.int .i64 (-1)] rfl rfl (fun i u hu => by rw [addr_add, Nat.zero_add]; exact bl.cell' hu) (by simp [Value.oneCell']) (by unfold maxLen; omega) (by omega) (by rw [World.size_alloc]; omega) ?_; intro v1 w1 hown1 hgrow1 _; obtain ⟨q', cq', hv⟩ := owns_slice hown1; subst hv; have g3 := gj2.grown' hgrow1 (fun k' hk' => (HO.out.lt k' hk').1) (by omega); have r3' := rj2.grown' hgrow1 (fun k' hk' => (HO.out.lt k' hk').1) (by omega); have hb3 : Below w.heap.size w w1 := (bt hbj ba).grown hgrow1 (by rw [World.size_alloc]; have := hbj.size; omega) (fun k' hk' => by have := (HO.out.lt k' hk').1; omega); have c1 := g3.cell' (i := 3) rfl; have f1 := g3.frozen 3)
      have tn := Turned.setCell w1 ⟨w.heap.size + 1, 3, none⟩ (.slice q' (j + 1) cq')
      dsimp only at tn
      have hs1 : w1.heap.size = (w1.setCell ⟨w.heap.size + 1, 3, none⟩ (.slice q' (j + 1) cq')).heap.size := tn.size.symm
      go_roundw
      case rel =>
        refine ⟨j + 1, q', cq', by omega, by go_num, g3.set 3 _, r3'.turned tn (by omega), ?_, tn.below hb3 (by omega)⟩
        have e : valsI (List.replicate j (-1)) ++ [.int .i64 (-1)] = valsI (List.replicate (j + 1) (-1)) := by rw [List.replicate_succ']; simp [valsI]
        rw [e] at hown1
        refine ⟨hown1.1, ?_⟩
        rcases hown1.2 with h' | ⟨g', cap, cur, hv', hB', hh, hr'⟩
        · exact .inl h'
        · exact .inr ⟨g', cap, cur, hv', hB', (tn.block g' (by omega)).trans hh, hr'⟩
      case measure => simp [intOf]; omega
    · obtain rfl : j = L := by omega
      have HO := hown
      clear hown
      have hm4 := gj.cell' (i := 4) rfl
      have hf4 := gj.frozen 4
      go_upto_region 9 with (fail)
      have tn := Turned.setCell wr ⟨w.heap.size + 1, 4, none⟩ (.slice (some ⟨wr.heap.size, 0, none⟩) M M)
      dsimp only at tn
      have g4 := (gj.set 4 (.slice (some ⟨wr.heap.size, 0, none⟩) M M)).alloc (.cells (valsB (List.replicate M false)).toArray 4)
      have r4' := (rj.turned tn (by omega)).alloc (.cells (valsB (List.replicate M false)).toArray 4)
      have h4 := Blk.new (wr.setCell ⟨w.heap.size + 1, 4, none⟩ (.slice (some ⟨wr.heap.size, 0, none⟩) M M)) 4 (valsB (List.replicate M false))
      rw [tn.size] at h4
      have d4 := owns_below (owns_turnedB HO tn (by omega)) (below_alloc _ (.cells (valsB (List.replicate M false)).toArray 4))
      have hb4 := bt (tn.below hbj (by omega)) (below_alloc _ (.cells (valsB (List.replicate M false)).toArray 4))
      obtain ⟨gh, Hgh⟩ : ∃ g, g = wr.heap.size := ⟨_, rfl⟩
      rw [← Hgh] at g4 r4' h4 d4 hb4 hsz ⊢
      clear tn HO rj gj c0 f0 hm4 hf4 hbj hmk
      generalize (wr.setCell ⟨w.heap.size + 1, 4, none⟩ (.slice (some ⟨gh, 0, none⟩) M M)).alloc (.cells (valsB (List.replicate M false)).toArray 4) = W2 at *
      clear Hgh
      have c5 := g4.cell' (i := 5) rfl
      have f5 := g4.frozen 5
      go_upto_region 10 with (fail)
      have t5 := Turned.setCell W2 ⟨w.heap.size + 1, 5, none⟩ (.int .i64 (-1))
      dsimp only at t5
      have g6 := g4.set 5 (.int .i64 (-1))
      have r6 := r4'.turned t5 (by omega)
      have h6 := h4.turned t5 (by omega)
      have d6 := owns_turnedB d4 t5 (by omega)
      have hb6 := t5.below hb4 (by omega)
      clear c5 f5 t5 g4 r4' h4 d4 hb4
      generalize W2.setCell ⟨w.heap.size + 1, 5, none⟩ (.int .i64 (-1)) = W3 at *
      have c0 := g6.cell' (i := 0) rfl
      have e0 := r6.cell' (i := 0) rfl
      have f0 := r6.frozen 0
      have c1 := g6.cell' (i := 1) rfl
      have e1 := r6.cell' (i := 1) rfl
      have f1 := r6.frozen 1
      have c2 := g6.cell' (i := 2) rfl
      have e2 := r6.cell' (i := 2) rfl
      have f2 := r6.frozen 2
      have c3 := g6.cell' (i := 3) rfl
      have e3 := r6.cell' (i := 3) rfl
      have f3 := r6.frozen 3
      have c4 := g6.cell' (i := 4) rfl
      have e4 := r6.cell' (i := 4) rfl
      have f4 := r6.frozen 4
      have c5 := g6.cell' (i := 5) rfl
      have e5 := r6.cell' (i := 5) rfl
      have f5 := r6.frozen 5
      have c6 := g6.cell' (i := 6) rfl
      have e6 := r6.cell' (i := 6) rfl
      have f6 := r6.frozen 6
      have c7 := g6.cell' (i := 7) rfl
      have e7 := r6.cell' (i := 7) rfl
      have f7 := r6.frozen 7
      have c8 := g6.cell' (i := 8) rfl
      have e8 := r6.cell' (i := 8) rfl
      have f8 := r6.frozen 8
      go_wp2_with fail
      have h9 := (((((((((r6.set 0 (.int .i64 p)).set 1 (.int .i64 (j : Int))).set 2 (.int .i64 k)).set 3 (.slice q j cq)).set 4 (.slice (some ⟨gh, 0, none⟩) M M)).set 5 (.int .i64 (-1))).set 6 (.int .i64 0)).set 7 (.int .i64 0)).set 8 (.slice none 0 0))
      have t9 := (((((((((Turned.setCell W3 ⟨w.heap.size, 0, none⟩ (.int .i64 p)).trans (Turned.setCell _ ⟨w.heap.size, 1, none⟩ (.int .i64 (j : Int)))).trans (Turned.setCell _ ⟨w.heap.size, 2, none⟩ (.int .i64 k))).trans (Turned.setCell _ ⟨w.heap.size, 3, none⟩ (.slice q j cq))).trans (Turned.setCell _ ⟨w.heap.size, 4, none⟩ (.slice (some ⟨gh, 0, none⟩) M M))).trans (Turned.setCell _ ⟨w.heap.size, 5, none⟩ (.int .i64 (-1)))).trans (Turned.setCell _ ⟨w.heap.size, 6, none⟩ (.int .i64 0))).trans (Turned.setCell _ ⟨w.heap.size, 7, none⟩ (.int .i64 0))).trans (Turned.setCell _ ⟨w.heap.size, 8, none⟩ (.slice none 0 0)))
      dsimp only at t9
      refine ret_tabE (V := ⟨q, j, cq, some ⟨gh, 0, none⟩, M, M, none, 0, 0⟩) (T := newT p j k M) Try.results25 rfl h9 rfl rfl ⟨⟨q, j, cq, some ⟨gh, 0, none⟩, M, M, none, 0, 0⟩, rfl, ?_, rfl, rfl, rfl, t9.below hb6 (Nat.le_refl _)⟩
      have e1 := owns_turnedB d6 t9 (by omega)
      have e2 := h6.turned t9 (by omega)
      exact ⟨rfl, owns_low e1 (by omega), owns_of_blkB (by omega) (by simp [newT]) (by show M ≤ maxLen; unfold maxLen; omega) e2, ⟨rfl, .inl ⟨rfl, rfl⟩⟩, fun i r hi => by simp at hi, fun i j r s a b _ hi => by simp at hi, fun i r a b hi => by simp at hi, by show j ≤ _; omega, by show M ≤ _; omega, by show 0 ≤ _; omega, fun i r hi => by simp at hi⟩
end Go.Proofs.Ytfgelncfmopibab
