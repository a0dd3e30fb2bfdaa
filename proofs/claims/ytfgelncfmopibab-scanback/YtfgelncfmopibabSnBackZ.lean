/-
  P7.7, ScanBack: for every table and row of numbers the law answers true, and its arguments read as before. No condition.
-/
import Derived.Test.YtfgelncfmopibabSnRChH
import Derived.Test.YtfgelncfmopibabSnTabPQ
import Derived.Test.YtfgelncfmopibabSnTabQ
import Derived.Test.YtfgelncfmopibabSnLift
namespace Go.Proofs.Ytfgelncfmopibab
open Go.RowKit
theorem owns_sliceB {w : World} {B n : Nat} {v : Value} {xs : List Value} (h : w.ownsRow B 4 1 v n xs) : ∃ p c, v = .slice p n c := by
  rcases h.2 with ⟨rfl, h0⟩ | ⟨g, cap, cur, hv, _⟩
  · exact ⟨none, 0, by rw [h0]⟩
  · exact ⟨_, _, hv⟩
set_option linter.unusedSimpArgs false in
set_option maxRecDepth 100000 in
set_option maxHeartbeats 8000000 in
theorem cloneR (P L K sp sl su : Int) (bd od bh oh : Nat) (pl : Option Addr) (nd cd nh ch cl : Nat) (D : List Int) (H : List Bool) (w : World) (hd : InI w (some ⟨bd, od, none⟩) nd cd D) (hh : InB w (some ⟨bh, oh, none⟩) nh ch H) (hnd : nd ≤ 8192) (hnh : nh ≤ 8192) (hnd1 : 1 ≤ nd) (hnh1 : 1 ≤ nh) :
    Calls Try.prog 13 #[.agg #[.int .i64 P, .int .i64 L, .int .i64 K, .slice (some ⟨bd, od, none⟩) nd cd, .slice (some ⟨bh, oh, none⟩) nh ch, .int .i64 sp, .int .i64 sl, .int .i64 su, .slice pl 0 cl]] w fun e w' => ∃ gD cD gH cH, e = .returned (.agg #[.int .i64 P, .int .i64 L, .int .i64 K, .slice (some ⟨gD, 0, none⟩) nd cD, .slice (some ⟨gH, 0, none⟩) nh cH, .int .i64 sp, .int .i64 sl, .int .i64 su, .slice none 0 0]) ∧ w'.ownsRow w.heap.size 3 1 (.slice (some ⟨gD, 0, none⟩) nd cD) nd (valsI D) ∧ w'.ownsRow w.heap.size 4 1 (.slice (some ⟨gH, 0, none⟩) nh cH) nh (valsB H) ∧ Below w.heap.size w w' := by
  obtain ⟨i0, hi, hz0, hz1, hz2⟩ := info_parts infoI
  obtain ⟨j0, ji, jz0, jz1, jz2⟩ := info_parts info4
  obtain ⟨b1, o1, e1, hbd, hcd⟩ := hd.at' (by omega)
  cases e1
  obtain ⟨b2, o2, e2, hbh, hch⟩ := hh.at' (by omega)
  cases e2
  have hDl : (valsI D).length = nd := by rw [valsI_length, hd.len]
  have hHl : (valsB H).length = nh := by rw [valsB_length, hh.len]
  have a1 := ((Blk.new' w 35 #[.int .i64 P, .int .i64 L, .int .i64 K, .slice (some ⟨bd, od, none⟩) nd cd, .slice (some ⟨bh, oh, none⟩) nh ch, .int .i64 sp, .int .i64 sl, .int .i64 su, .slice pl 0 cl]).alloc (.cells #[.int .i64 0, .int .i64 0, .int .i64 0, .slice none 0 0, .slice none 0 0, .int .i64 0, .int .i64 0, .int .i64 0, .slice none 0 0] 35)).alloc (.cells #[.int .i64 P, .int .i64 L, .int .i64 K, .slice (some ⟨bd, od, none⟩) nd cd, .slice (some ⟨bh, oh, none⟩) nh ch, .int .i64 sp, .int .i64 sl, .int .i64 su, .slice pl 0 cl] 35)
  have a2 := (Blk.new' (w.alloc (.cells #[.int .i64 P, .int .i64 L, .int .i64 K, .slice (some ⟨bd, od, none⟩) nd cd, .slice (some ⟨bh, oh, none⟩) nh ch, .int .i64 sp, .int .i64 sl, .int .i64 su, .slice pl 0 cl] 35)) 35 #[.int .i64 0, .int .i64 0, .int .i64 0, .slice none 0 0, .slice none 0 0, .int .i64 0, .int .i64 0, .int .i64 0, .slice none 0 0]).alloc (.cells #[.int .i64 P, .int .i64 L, .int .i64 K, .slice (some ⟨bd, od, none⟩) nd cd, .slice (some ⟨bh, oh, none⟩) nh ch, .int .i64 sp, .int .i64 sl, .int .i64 su, .slice pl 0 cl] 35)
  have a3 := Blk.new' ((w.alloc (.cells #[.int .i64 P, .int .i64 L, .int .i64 K, .slice (some ⟨bd, od, none⟩) nd cd, .slice (some ⟨bh, oh, none⟩) nh ch, .int .i64 sp, .int .i64 sl, .int .i64 su, .slice pl 0 cl] 35)).alloc (.cells #[.int .i64 0, .int .i64 0, .int .i64 0, .slice none 0 0, .slice none 0 0, .int .i64 0, .int .i64 0, .int .i64 0, .slice none 0 0] 35)) 35 #[.int .i64 P, .int .i64 L, .int .i64 K, .slice (some ⟨bd, od, none⟩) nd cd, .slice (some ⟨bh, oh, none⟩) nh ch, .int .i64 sp, .int .i64 sl, .int .i64 su, .slice pl 0 cl]
  have hbA := bt (bt (below_alloc w (.cells #[.int .i64 P, .int .i64 L, .int .i64 K, .slice (some ⟨bd, od, none⟩) nd cd, .slice (some ⟨bh, oh, none⟩) nh ch, .int .i64 sp, .int .i64 sl, .int .i64 su, .slice pl 0 cl] 35)) (below_alloc _ (.cells #[.int .i64 0, .int .i64 0, .int .i64 0, .slice none 0 0, .slice none 0 0, .int .i64 0, .int .i64 0, .int .i64 0, .slice none 0 0] 35))) (below_alloc _ (.cells #[.int .i64 P, .int .i64 L, .int .i64 K, .slice (some ⟨bd, od, none⟩) nd cd, .slice (some ⟨bh, oh, none⟩) nh ch, .int .i64 sp, .int .i64 sl, .int .i64 su, .slice pl 0 cl] 35))
  rw [World.size_alloc] at a2
  rw [World.size_alloc, World.size_alloc] at a3
  have hsA : (((w.alloc (.cells #[.int .i64 P, .int .i64 L, .int .i64 K, .slice (some ⟨bd, od, none⟩) nd cd, .slice (some ⟨bh, oh, none⟩) nh ch, .int .i64 sp, .int .i64 sl, .int .i64 su, .slice pl 0 cl] 35)).alloc (.cells #[.int .i64 0, .int .i64 0, .int .i64 0, .slice none 0 0, .slice none 0 0, .int .i64 0, .int .i64 0, .int .i64 0, .slice none 0 0] 35)).alloc (.cells #[.int .i64 P, .int .i64 L, .int .i64 K, .slice (some ⟨bd, od, none⟩) nd cd, .slice (some ⟨bh, oh, none⟩) nh ch, .int .i64 sp, .int .i64 sl, .int .i64 su, .slice pl 0 cl] 35)).heap.size = w.heap.size + 3 := by rw [World.size_alloc, World.size_alloc, World.size_alloc]
  have r0 := Blk.new' w 35 #[.int .i64 P, .int .i64 L, .int .i64 K, .slice (some ⟨bd, od, none⟩) nd cd, .slice (some ⟨bh, oh, none⟩) nh ch, .int .i64 sp, .int .i64 sl, .int .i64 su, .slice pl 0 cl]
  go_enter Try.func13, Try.ntmps13
  have fb := (r0.alloc (.cells #[.int .i64 0, .int .i64 0, .int .i64 0, .slice none 0 0, .slice none 0 0, .int .i64 0, .int .i64 0, .int .i64 0, .slice none 0 0] 35))
  have f0 := fb.cell' (i := 0) rfl; have f10 := fb.cell' (i := 1) rfl; have f2 := fb.cell' (i := 2) rfl; have f3 := fb.cell' (i := 3) rfl; have f4 := fb.cell' (i := 4) rfl; have f5 := fb.cell' (i := 5) rfl; have f6 := fb.cell' (i := 6) rfl; have f7 := fb.cell' (i := 7) rfl; have f8 := fb.cell' (i := 8) rfl
  go_upto_region 2 with (fail)
  clear r0 fb f0 f10 f2 f3 f4 f5 f6 f7 f8
  generalize ((w.alloc (.cells #[.int .i64 P, .int .i64 L, .int .i64 K, .slice (some ⟨bd, od, none⟩) nd cd, .slice (some ⟨bh, oh, none⟩) nh ch, .int .i64 sp, .int .i64 sl, .int .i64 su, .slice pl 0 cl] 35)).alloc (.cells #[.int .i64 0, .int .i64 0, .int .i64 0, .slice none 0 0, .slice none 0 0, .int .i64 0, .int .i64 0, .int .i64 0, .slice none 0 0] 35)).alloc (.cells #[.int .i64 P, .int .i64 L, .int .i64 K, .slice (some ⟨bd, od, none⟩) nd cd, .slice (some ⟨bh, oh, none⟩) nh ch, .int .i64 sp, .int .i64 sl, .int .i64 su, .slice pl 0 cl] 35) = W0 at *
  have x3 := a1.cell' (i := 3) rfl
  have y3 := a3.cell' (i := 3) rfl
  have z3 := a3.frozen 3
  have HD : Hid (∀ i u, (valsI D)[i]? = some u → W0.cell? ((⟨bd, od, none⟩ : Addr).add i) = some u) := fun i u hu => by
    have hi' : i < nd := by rw [← hDl]; exact (List.getElem?_eq_some_iff.1 hu).1
    rw [addr_add, hbA.cell (p := ⟨bd, od + i, none⟩) hbd, hcd i hi', ← valsI_get D i (by rw [hd.len]; exact hi')]
    exact hu
  go_upto_region 3 with (at_builtin; refine wpList_append_own _ rfl (.const (.slice none 0 0)) (.tmp 7) 29 rfl (w.heap.size + 3) 3 i0 (.int .i64 0) 1 8 Try.underlying29 hi hz0 hz1 hz2 rfl (by decide) (.slice none 0 0) 0 [] rfl ⟨rfl, .inl ⟨rfl, rfl⟩⟩ ⟨bd, od, none⟩ nd cd (valsI D) rfl (by rw [hDl]; omega) HD.out (by simp [valsI, Value.oneCell']) (by unfold maxLen; omega) (by omega) (by omega) ?_; intro v1 w1 hown1 hgrow1 _; obtain ⟨qD, cD, hv⟩ := owns_slice hown1; subst hv; rw [Nat.zero_add, List.nil_append] at hown1; have g3 := a3.grown' hgrow1 (fun k' hk' => (by simp [Value.ownBlock] at hk')) (Nat.lt_succ_self _); have yy := g3.cell' (i := 3) rfl; have zz := g3.frozen 3)
  obtain ⟨gD, rfl⟩ := own_some hown1 (by omega)
  have hk1 : ∀ j, j < W0.heap.size → w1.heap[j]? = W0.heap[j]? := fun j hj => hgrow1.block j hj (fun e => by simp [Value.ownBlock] at e)
  have tn1 := Turned.setCell w1 ⟨w.heap.size + 1 + 1, 3, none⟩ (.slice (some ⟨gD, 0, none⟩) nd cD)
  dsimp only at tn1
  have hb1 : Below w.heap.size w w1 := hbA.grown hgrow1 (by omega) (fun k hk => by simp [Value.ownBlock] at hk)
  have c1 : Blk (w1.setCell ⟨w.heap.size + 1 + 1, 3, none⟩ (.slice (some ⟨gD, 0, none⟩) nd cD)) w.heap.size 35 _ := Blk.turned ((hk1 _ (by omega)).trans a1) tn1 (by omega)
  have c2 : Blk (w1.setCell ⟨w.heap.size + 1 + 1, 3, none⟩ (.slice (some ⟨gD, 0, none⟩) nd cD)) (w.heap.size + 1) 35 _ := Blk.turned ((hk1 _ (by omega)).trans a2) tn1 (by omega)
  have c3 := g3.set 3 (.slice (some ⟨gD, 0, none⟩) nd cD)
  have rD := owns_turnedB hown1 tn1 (by omega)
  replace hb1 := tn1.below hb1 (by omega)
  have hs1 : w.heap.size + 3 ≤ (w1.setCell ⟨w.heap.size + 1 + 1, 3, none⟩ (.slice (some ⟨gD, 0, none⟩) nd cD)).heap.size := by rw [tn1.size]; have := hgrow1.size; omega
  clear a1 a2 a3 g3 yy zz x3 y3 z3 hown1 hgrow1 hk1 tn1 HD hsA hbA
  generalize w1.setCell ⟨w.heap.size + 1 + 1, 3, none⟩ (.slice (some ⟨gD, 0, none⟩) nd cD) = W1 at *
  dsimp only [List.set_cons_zero, List.set_cons_succ] at c3
  have x4 := c1.cell' (i := 4) rfl
  have HH : Hid (∀ i u, (valsB H)[i]? = some u → W1.cell? ((⟨bh, oh, none⟩ : Addr).add i) = some u) := fun i u hu => by
    have hi' : i < nh := by rw [← hHl]; exact (List.getElem?_eq_some_iff.1 hu).1
    rw [addr_add, hb1.cell (p := ⟨bh, oh + i, none⟩) hbh, hch i hi', ← valsB_get2 H i (by rw [hh.len]; exact hi')]
    exact hu
  go_upto_region 4 with (at_builtin; refine wpList_append_own _ rfl (.const (.slice none 0 0)) (.tmp 11) 30 rfl (w.heap.size + 3) 4 j0 (.bool false) 1 1 Try.underlying30 ji jz0 jz1 jz2 rfl (by decide) (.slice none 0 0) 0 [] rfl ⟨rfl, .inl ⟨rfl, rfl⟩⟩ ⟨bh, oh, none⟩ nh ch (valsB H) rfl (by rw [hHl]; omega) HH.out (fun u hu => by simp only [valsB, List.mem_map] at hu; obtain ⟨b, _, rfl⟩ := hu; rfl) (by unfold maxLen; omega) (by omega) (by omega) ?_; intro v2 w2 hown2 hgrow2 _; obtain ⟨qH, cH, hv⟩ := owns_sliceB hown2; subst hv; rw [Nat.zero_add, List.nil_append] at hown2; have g4 := c3.grown' hgrow2 (fun k' hk' => (by simp [Value.ownBlock] at hk')) (Nat.lt_succ_self _); have yy := g4.cell' (i := 4) rfl; have zz := g4.frozen 4)
  obtain ⟨gH, rfl⟩ := own_some hown2 (by omega)
  have hk2 : ∀ j, j < W1.heap.size → w2.heap[j]? = W1.heap[j]? := fun j hj => hgrow2.block j hj (fun e => by simp [Value.ownBlock] at e)
  have tn2 := Turned.setCell w2 ⟨w.heap.size + 1 + 1, 4, none⟩ (.slice (some ⟨gH, 0, none⟩) nh cH)
  dsimp only at tn2
  have hgD := rD.lt gD rfl
  have hb2 : Below w.heap.size w w2 := hb1.grown hgrow2 (by omega) (fun k hk => by simp [Value.ownBlock] at hk)
  have d1 : Blk (w2.setCell ⟨w.heap.size + 1 + 1, 4, none⟩ (.slice (some ⟨gH, 0, none⟩) nh cH)) w.heap.size 35 _ := Blk.turned ((hk2 _ (by omega)).trans c1) tn2 (by omega)
  have d2 : Blk (w2.setCell ⟨w.heap.size + 1 + 1, 4, none⟩ (.slice (some ⟨gH, 0, none⟩) nh cH)) (w.heap.size + 1) 35 _ := Blk.turned ((hk2 _ (by omega)).trans c2) tn2 (by omega)
  have d3 := g4.set 4 (.slice (some ⟨gH, 0, none⟩) nh cH)
  have rD2 := owns_turnedB (owns_keep rD (hk2 _ hgD.2)) tn2 (by omega)
  have rH := owns_turnedB hown2 tn2 (by omega)
  replace hb2 := tn2.below hb2 (by omega)
  clear c1 c2 c3 g4 yy zz x4 hown2 hgrow2 hk2 tn2 HH hs1 hb1 rD
  generalize w2.setCell ⟨w.heap.size + 1 + 1, 4, none⟩ (.slice (some ⟨gH, 0, none⟩) nh cH) = W2 at *
  dsimp only [List.set_cons_zero, List.set_cons_succ] at d3
  have x8 := d3.cell' (i := 8) rfl
  have f8 := d3.frozen 8
  go_upto_region 5 with (fail)
  have tn3 := Turned.setCell W2 ⟨w.heap.size + 1 + 1, 8, none⟩ (.slice none 0 0)
  dsimp only at tn3
  have e1 := d1.turned tn3 (by omega)
  have e2 := d2.turned tn3 (by omega)
  have e3 := d3.set 8 (.slice none 0 0)
  have rD3 := owns_turnedB rD2 tn3 (by omega)
  have rH3 := owns_turnedB rH tn3 (by omega)
  have hb3 := tn3.below hb2 (by omega)
  clear d1 d2 d3 x8 f8 tn3 rD2 rH hb2
  generalize W2.setCell ⟨w.heap.size + 1 + 1, 8, none⟩ (.slice none 0 0) = W3 at *
  dsimp only [List.set_cons_zero, List.set_cons_succ] at e3
  go_wp2
  go_loopw [4] (fun i wr => i = .int .i64 0 ∧ wr = W3) (fun _ _ => 0)
  case atStart => exact ⟨rfl, rfl⟩
  case round =>
    obtain ⟨rfl, rfl⟩ := hrel
    have z8 := e1.cell' (i := 8) rfl
    have v0 := e3.cell' (i := 0) rfl; have v1 := e3.cell' (i := 1) rfl; have v2 := e3.cell' (i := 2) rfl; have v3 := e3.cell' (i := 3) rfl; have v4 := e3.cell' (i := 4) rfl; have v5 := e3.cell' (i := 5) rfl; have v6 := e3.cell' (i := 6) rfl; have v7 := e3.cell' (i := 7) rfl; have v8 := e3.cell' (i := 8) rfl
    go_wp2_with (guard_target = wpList _ _ _ (Oper.mk _ (Op.store 35 (Operand.tmp 2) _) _ _ _ _ :: _) _ _; refine wpList_store_blk rfl 35 (.tmp 2) (.tmp 41) rfl (w.heap.size + 1) 0 [.int .i64 P, .int .i64 L, .int .i64 K, .slice (some ⟨gD, 0, none⟩) nd cD, .slice (some ⟨gH, 0, none⟩) nh cH, .int .i64 sp, .int .i64 sl, .int .i64 su, .slice none 0 0] rfl rfl e2 (by exact Nat.le_refl _) (by show _ = some 9; kernel_rfl) (by simp [Value.oneCell']) ?_; intro W9 h9 ht9; rw [whole_row (by rfl)] at h9)
    exact ret_tab (V := ⟨some ⟨gD, 0, none⟩, nd, cD, some ⟨gH, 0, none⟩, nh, cH, none, 0, 0⟩) (T := ⟨P, L, K, [], [], sp, sl, su, []⟩) Try.results13 rfl h9 rfl ⟨gD, cD, gH, cH, rfl, owns_low (owns_turnedB rD3 ht9 (by omega)) (by omega), owns_low (owns_turnedB rH3 ht9 (by omega)) (by omega), ht9.below hb3 (by omega)⟩
end Go.Proofs.Ytfgelncfmopibab

namespace Go.Proofs.Ytfgelncfmopibab
open Go.RowKit
/-- What is added to a page's number. -/
def addS (S : List Int) (j : Nat) : Int := if S.length = 0 then 0 else eI S (j % S.length)
/-- What is found where page j stands. -/
def fdAt (P : Nat) (D S : List Int) (j : Nat) : Fd := ⟨eI D (j / P), ((j % P : Nat) : Int), 1, (j : Int), (j : Int) + 1 + addS S j, (j : Int) + 1 + addS S j + ((j / P : Nat) : Int)⟩
def fdTo (P : Nat) (D S : List Int) (H : List Bool) : Nat → List Fd
  | 0 => []
  | k + 1 => if eB H k = true then fdTo P D S H k ++ [fdAt P D S k] else fdTo P D S H k
theorem fdTo_mem {P : Nat} {D S : List Int} {H : List Bool} {k : Nat} {f : Fd} : f ∈ fdTo P D S H k ↔ ∃ j, j < k ∧ eB H j = true ∧ f = fdAt P D S j := by
  induction k with
  | zero => exact ⟨fun h => (by cases h), fun ⟨j, h, _⟩ => (by omega)⟩
  | succ k ih =>
    unfold fdTo
    constructor
    · intro h
      split at h
      · rename_i hk
        rw [List.mem_append, List.mem_singleton] at h
        rcases h with h | h
        · obtain ⟨j, h1, h2⟩ := ih.1 h; exact ⟨j, by omega, h2⟩
        · exact ⟨k, by omega, hk, h⟩
      · obtain ⟨j, h1, h2⟩ := ih.1 h; exact ⟨j, by omega, h2⟩
    · rintro ⟨j, h1, h2, h3⟩
      by_cases e : j = k
      · subst e; rw [if_pos h2, List.mem_append]; exact .inr (by rw [List.mem_singleton]; exact h3)
      · have := ih.2 ⟨j, by omega, h2, h3⟩
        split
        · rw [List.mem_append]; exact .inl this
        · exact this
theorem fdTo_length (P : Nat) (D S : List Int) (H : List Bool) (k : Nat) : (fdTo P D S H k).length ≤ k := by
  induction k with
  | zero => simp [fdTo]
  | succ k ih => unfold fdTo; split
                 · rw [List.length_append, List.length_singleton]; omega
                 · omega
/-- Whether block b has a page among its first k. -/
def someH (H : List Bool) (P b : Nat) : Nat → Bool
  | 0 => false
  | k + 1 => someH H P b k || eB H (b * P + k)
theorem someH_iff {H : List Bool} {P b k : Nat} : someH H P b k = true ↔ ∃ i, i < k ∧ eB H (b * P + i) = true := by
  induction k with
  | zero => exact ⟨fun h => (by cases h), fun ⟨i, h, _⟩ => (by omega)⟩
  | succ k ih =>
    unfold someH
    rw [Bool.or_eq_true, ih]
    constructor
    · rintro (⟨i, h1, h2⟩ | h)
      · exact ⟨i, by omega, h2⟩
      · exact ⟨k, by omega, h⟩
    · rintro ⟨i, h1, h2⟩
      by_cases e : i = k
      · subst e; exact .inr h2
      · exact .inl ⟨i, by omega, h2⟩
/-- The blocks, but for those without a page, of the first k logical ones. -/
def wantTo (H : List Bool) (P : Nat) (D : List Int) : Nat → List Int
  | 0 => D
  | k + 1 => if someH H P k P = true then wantTo H P D k else (wantTo H P D k).set k (-1)
theorem wantTo_length (H : List Bool) (P : Nat) (D : List Int) (k : Nat) : (wantTo H P D k).length = D.length := by
  induction k with
  | zero => rfl
  | succ k ih => unfold wantTo; split <;> simp [ih]
theorem wantTo_at {H : List Bool} {P : Nat} {D : List Int} {b : Nat} (hb : b < D.length) (k : Nat) : eI (wantTo H P D k) b = if b < k ∧ someH H P b P = false then -1 else eI D b := by
  induction k with
  | zero => rw [if_neg (by omega)]; rfl
  | succ k ih =>
    unfold wantTo
    cases hs : someH H P k P with
    | true =>
      rw [if_pos rfl, ih]
      by_cases h : b < k ∧ someH H P b P = false
      · rw [if_pos h, if_pos ⟨by omega, h.2⟩]
      · rw [if_neg h, if_neg (fun h' => h ⟨by
          by_cases e : b = k
          · subst e; rw [hs] at h'; cases h'.2
          · omega, h'.2⟩)]
    | false =>
      rw [if_neg (by simp), eI_set, wantTo_length, ih]
      by_cases e : k = b
      · subst e
        rw [if_pos ⟨rfl, hb⟩, if_pos ⟨by omega, hs⟩]
      · rw [if_neg (fun h => e h.1)]
        by_cases h : b < k ∧ someH H P b P = false
        · rw [if_pos h, if_pos ⟨by omega, h.2⟩]
        · rw [if_neg h, if_neg (fun h' => h ⟨by omega, h'.2⟩)]
/-- Where the pages of a table stand. -/
def zsOf (P : Nat) (D : List Int) (H : List Bool) (n : Nat) : List Pl := (List.range n).map fun j => if eB H j = true then ⟨eI D (j / P), ((j % P : Nat) : Int)⟩ else ⟨-1, 0⟩
theorem zsOf_at {P : Nat} {D : List Int} {H : List Bool} {n j : Nat} (hj : j < n) : eZ (zsOf P D H n) j = if eB H j = true then ⟨eI D (j / P), ((j % P : Nat) : Int)⟩ else ⟨-1, 0⟩ := by
  simp [eZ, zsOf, hj]
/-- What is known of a table without logs that the reference takes. -/
structure Plain (P L n : Nat) (D : List Int) (H : List Bool) : Prop where
  p4 : 4 ≤ P ∧ P ≤ 32
  nl : n = L * P
  dl : D.length = L
  hl : H.length = n
  hv : ∀ j, j < n → eB H j = true → 0 ≤ eI D (j / P) ∧ eI D (j / P) < 256
  ne : ∀ b c, b < L → c < L → b ≠ c → 0 ≤ eI D b → eI D b ≠ eI D c
theorem plain_of {P L : Nat} {K sp sl su : Int} {D : List Int} {H : List Bool} {n : Nat} (hg : Good (P : Int) (L : Int) K sp sl su D H []) (hsp : sp < 0) (hn : n = L * P) : Plain P L n D H := by
  obtain ⟨⟨r1, r2⟩, ⟨r3, r4⟩, _⟩ := okSz_iff.1 hg.ok
  have hdl : D.length = L := by have := hg.dl; omega
  have hhl : H.length = n := by have := hg.hl; rw [hn]; rw [← Int.natCast_mul] at this; omega
  have hU : usesL D sp [] = D.filter fun x => decide (0 ≤ x) := by
    unfold usesL usedTo seqU physTo
    rw [if_neg (by omega), List.take_length]
    simp
  have hnd := hg.nd
  have hlt := hg.lt
  rw [hU] at hnd hlt
  have hm : ∀ x ∈ D.filter (fun x => decide (0 ≤ x)), x < 256 := fun x hx => by
    obtain ⟨i, hi, rfl⟩ := List.mem_iff_getElem.1 hx
    have := hlt i hi
    rwa [show eI (D.filter fun x => decide (0 ≤ x)) i = (D.filter fun x => decide (0 ≤ x))[i] by simp [eI, hi]] at this
  refine ⟨by omega, hn, hdl, hhl, fun j hj hv => ?_, fun b c hb hc hbc h0 e => ?_⟩
  · have h0 := hg.hv j (by omega) hv
    rw [Int.toNat_natCast] at h0
    refine ⟨h0, hm _ ?_⟩
    have hb : j / P < D.length := by rw [hdl]; exact (Nat.div_lt_iff_lt_mul (by omega)).2 (by rw [← hn]; exact hj)
    rw [List.mem_filter]
    exact ⟨by simp [eI, hb], by simpa using h0⟩
  · have hnd2 : List.Pairwise (· ≠ ·) (D.filter fun x => decide (0 ≤ x)) := hnd
    rw [List.pairwise_filter, List.pairwise_iff_getElem] at hnd2
    have key : ∀ b c (hb : b < L) (hc : c < L), b < c → 0 ≤ eI D b → eI D b ≠ eI D c := fun b c hb hc hbc h0 e => by
      have e1 : eI D b = D[b]'(by omega) := by simp [eI, hdl, hb]
      have e2 : eI D c = D[c]'(by omega) := by simp [eI, hdl, hc]
      rw [e1] at h0 e
      rw [e2] at e
      exact hnd2 b c (by omega) (by omega) hbc (by simpa using h0) (by rw [← e]; simpa using h0) e
    rcases Nat.lt_or_gt_of_ne hbc with h | h
    · exact key b c hb hc h h0 e
    · exact key c b hc hb h (by rw [← e]; exact h0) e.symm
theorem zs_isPl {P L n : Nat} {D : List Int} {H : List Bool} (h : Plain P L n D H) {j : Nat} (hj : j < n) : isPl (eZ (zsOf P D H n) j) = eB H j := by
  rw [zsOf_at hj]
  have hp := h.p4
  cases hb : eB H j with
  | false => rfl
  | true =>
    have := h.hv j hj hb
    have hm := Nat.mod_lt j (show 0 < P by omega)
    rw [if_pos rfl]
    unfold isPl onB
    rw [decide_eq_true_eq]
    show 0 ≤ eI D (j / P) ∧ eI D (j / P) < 256 ∧ 0 ≤ ((j % P : Nat) : Int) ∧ ((j % P : Nat) : Int) < 32
    omega
theorem div_of {P b i : Nat} (hi : i < P) : (b * P + i) / P = b ∧ (b * P + i) % P = i := by
  constructor
  · rw [Nat.mul_comm, Nat.mul_add_div (by omega), Nat.div_eq_of_lt hi, Nat.add_zero]
  · rw [Nat.mul_comm, Nat.mul_add_mod, Nat.mod_eq_of_lt hi]
theorem zs_set {P L n : Nat} {D : List Int} {H : List Bool} (h : Plain P L n D H) {b : Nat} (hb : b < L) : setR (zsOf P D H n) P b (b * P) n = if someH H P b P = true then (eI D b, true) else (0, false) := by
  have hp := h.p4
  have hfit : ∀ i, i < P → b * P + i < n := fun i hi => by
    have := Nat.mul_le_mul_right P (show b + 1 ≤ L from hb)
    rw [Nat.succ_mul, ← h.nl] at this
    omega
  have hz : ∀ i, i < P → eB H (b * P + i) = true → eZ (zsOf P D H n) (b * P + i) = ⟨eI D b, (i : Int)⟩ := fun i hi hv => by
    rw [zsOf_at (hfit i hi), if_pos hv, (div_of hi).1, (div_of hi).2]
  have he : ∀ i, i < P → eZ (zsOf P D H n) (b * P + i) = eZ ((zsOf P D H n).drop (b * P)) i := fun i _ => by simp [eZ, List.getElem?_drop]
  have hpl : ∀ i, i < P → (isPl (eZ ((zsOf P D H n).drop (b * P)) i) = true ↔ eB H (b * P + i) = true) := fun i hi => by rw [← he i hi, zs_isPl h (hfit i hi)]
  unfold setR
  rcases refH_spec he P (Nat.le_refl _) with ⟨h1, h2⟩ | ⟨y, hy, h1, h2, h3⟩ | ⟨h1, h2⟩
  · rw [h1]
    have hs : someH H P b P = false := by
      cases hs : someH H P b P with
      | false => rfl
      | true =>
        obtain ⟨i, hi, hv⟩ := someH_iff.1 hs
        exact absurd ⟨i, hi, (hpl i hi).2 hv⟩ h2
    rw [hs]
    rfl
  · rw [h1]
    obtain ⟨i, hi, hv⟩ := h2
    have hv' := (hpl i hi).1 hv
    have hs : someH H P b P = true := someH_iff.2 ⟨i, hi, hv'⟩
    have e1 := (h3 i hi hv).1
    rw [← he i hi, hz i hi hv'] at e1
    have hby : eI D b = y := e1
    subst hby
    dsimp only
    rw [if_neg (by omega), hs, if_pos rfl]
    have hg : refG (zsOf P D H n) P b (eI D b) n = false := by
      cases hg : refG (zsOf P D H n) P b (eI D b) n with
      | false => rfl
      | true =>
        obtain ⟨j, hj, hne, hpj, hph⟩ := refG_iff.1 hg
        rw [zs_isPl h hj] at hpj
        rw [zsOf_at hj, if_pos hpj] at hph
        have hph' : eI D (j / P) = eI D b := hph
        have hjl : j / P < L := (Nat.div_lt_iff_lt_mul (by omega)).2 (by rw [← h.nl]; exact hj)
        exact absurd hph'.symm (h.ne b (j / P) hb hjl (fun e => hne e.symm) hy)
    rw [hg]
    rfl
  · exfalso
    refine h2 ⟨eI D b, fun i hi hv => ?_⟩
    have hv' := (hpl i hi).1 hv
    rw [← he i hi, hz i hi hv']
    exact ⟨rfl, rfl⟩
theorem listI_ext {a b : List Int} (hl : a.length = b.length) (h : ∀ i, i < a.length → eI a i = eI b i) : a = b := by
  apply List.ext_getElem hl
  intro i h1 h2
  have := h i h1
  simpa [eI, h1, h2] using this
theorem listB_ext {a b : List Bool} (hl : a.length = b.length) (h : ∀ i, i < a.length → eB a i = eB b i) : a = b := by
  apply List.ext_getElem hl
  intro i h1 h2
  have := h i h1
  simpa [eB, h1, h2] using this
theorem tt_ext {t : TT} {a : List Int} {b : List Bool} {c : List Int} (h1 : t.d = a) (h2 : t.h = b) (h3 : t.l = c) : t = ⟨a, b, c⟩ := by
  cases t
  dsimp only at h1 h2 h3
  rw [h1, h2, h3]
theorem tab_back {P L n : Nat} {D : List Int} {H : List Bool} (h : Plain P L n D H) : tabTo (zsOf P D H n) P L n L = ⟨wantTo H P D L, H, []⟩ := by
  have hp := h.p4
  have hd : (tabTo (zsOf P D H n) P L n L).d = wantTo H P D L := by
    refine listI_ext (by rw [tabTo_d, wantTo_length, h.dl]) fun b hb => ?_
    rw [tabTo_d] at hb
    rw [tab_d hb, zs_set h hb, wantTo_at (by rw [h.dl]; exact hb)]
    cases hs : someH H P b P with
    | true => simp [hb]
    | false => simp [hb]
  have hh : (tabTo (zsOf P D H n) P L n L).h = H := by
    refine listB_ext (by rw [tabTo_h, h.hl]) fun j hj => ?_
    rw [tabTo_h] at hj
    have hjl : j / P < L := (Nat.div_lt_iff_lt_mul (by omega)).2 (by rw [← h.nl]; exact hj)
    rw [tab_h (by omega) hj, zs_set h hjl, zs_isPl h hj]
    cases hv : eB H j with
    | false => simp
    | true =>
      have hm := Nat.mod_lt j (show 0 < P by omega)
      have hdm := Nat.div_add_mod j P
      rw [Nat.mul_comm] at hdm
      have hs : someH H P (j / P) P = true := someH_iff.2 ⟨j % P, hm, by rw [hdm]; exact hv⟩
      rw [hs]
      simp [hjl]
  have hl : (tabTo (zsOf P D H n) P L n L).l = [] := by
    cases hc : (tabTo (zsOf P D H n) P L n L).l with
    | nil => rfl
    | cons x r =>
      obtain ⟨b, hb, _, h1, h2⟩ := (tab_l (x := x) L).1 (by rw [hc]; simp)
      rw [zs_set h hb] at h1
      obtain ⟨i, hi, hpi⟩ := someTo_iff.1 h2
      have hfit : b * P + i < n := by
        have := Nat.mul_le_mul_right P (show b + 1 ≤ L from hb)
        rw [Nat.succ_mul, ← h.nl] at this
        omega
      rw [zs_isPl h hfit] at hpi
      rw [someH_iff.2 ⟨i, hi, hpi⟩] at h1
      cases h1
  exact tt_ext hd hh hl
/-- The newest of what is found is where the pages stand. -/
theorem newest_back {P L n : Nat} {D S : List Int} {H : List Bool} (h : Plain P L n D H) (hn : n ≤ 8192) (hL : L ≤ 256) (hS : ∀ i, i < S.length → 0 ≤ eI S i ∧ eI S i < 65536) : placesOf (newestL (P : Int) n (fdTo P D S H n)) = zsOf P D H n := by
  have hp := h.p4
  have hadd : ∀ j, 0 ≤ addS S j ∧ addS S j < 65536 := fun j => by
    unfold addS
    split
    · omega
    · exact hS _ (Nat.mod_lt _ (by omega))
  have hcnt : ∀ j, j < n → eB H j = true → cntB (P : Int) (fdAt P D S j) = true := fun j hj hv => by
    have h1 := h.hv j hj hv
    have hm := Nat.mod_lt j (show 0 < P by omega)
    have ha := hadd j
    have hb : j / P < L := (Nat.div_lt_iff_lt_mul (by omega)).2 (by rw [← h.nl]; exact hj)
    unfold cntB chkB onB fdAt
    simp only [Bool.and_eq_true, decide_eq_true_eq]
    generalize j / P = b at *
    generalize j % P = o at *
    generalize addS S j = s at *
    refine ⟨⟨⟨by omega, by omega, by omega, by omega, by omega, by omega, by omega, by omega, .inl trivial⟩, rfl⟩, by omega, by omega, by omega, by omega⟩
  refine extZ (by simp [placesOf, newestL_length, zsOf]) fun j hj => ?_
  have hj' : j < n := by simpa [placesOf, newestL_length] using hj
  rw [placesOf_at _ _ (by rw [newestL_length]; exact hj'), zsOf_at hj']
  have hb := newestL_best (P : Int) n (fdTo P D S H n) j hj'
  generalize (newestL (P : Int) n (fdTo P D S H n)).getD j noneF = r at *
  rcases hb with ⟨hm, hrp, _⟩ | ⟨rfl, hno⟩
  · rw [List.mem_filter] at hm
    obtain ⟨i, hi, hv, rfl⟩ := fdTo_mem.1 hm.1
    have hij : i = j := by have : ((i : Nat) : Int) = (j : Int) := hrp; omega
    subst hij
    rw [if_pos hv]
    rfl
  · cases hv : eB H j with
    | false => rfl
    | true =>
      exact absurd rfl (hno (fdAt P D S j) (List.mem_filter.2 ⟨fdTo_mem.2 ⟨j, hj', hv, rfl⟩, hcnt j hj' hv⟩))
end Go.Proofs.Ytfgelncfmopibab

namespace Go.Proofs.Ytfgelncfmopibab
open Go.RowKit
set_option linter.unusedSimpArgs false in
set_option maxHeartbeats 4000000 in
theorem sameInts_yes (p q : Option Addr) (n c d : Nat) (l : List Int) (w : World) (hp : InI w p n c l) (hq : InI w q n d l) :
    Calls Try.prog 33 #[.slice p n c, .slice q n d] w fun e w' => e = .returned (.bool true) ∧ Below w.heap.size w w' := by
  have hroom := hp.room
  go_enter Try.func33, Try.ntmps33
  go_wp2
  go_loopw [5] (fun i wr => ∃ k : Nat, k ≤ n ∧ i = .int .i64 k ∧ Below w.heap.size w wr) (fun i _ => n - (intOf i).toNat)
  case atStart => exact ⟨0, Nat.zero_le _, rfl, Below.refl _ _⟩
  case round =>
    obtain ⟨k, hk, rfl, hbk⟩ := hrel
    by_cases hlt : k < n
    · obtain ⟨b, o, rfl, _, hc⟩ := (hp.below hbk).at' (by omega)
      obtain ⟨b', o', rfl, _, hd⟩ := (hq.below hbk).at' (by omega)
      have e0 := hc k hlt
      have d0 := hd k hlt
      have hki : (k : Int) < (n : Int) := by omega
      generalize eI l k = R at *
      clear hc hd
      go_wp2_with fail
      go_quiet (fail)
      go_wp2
      go_roundw
      case rel => exact ⟨k + 1, by omega, by go_num, ⟨hbk.os, hbk.tape, hbk.output, hbk.size, hbk.block⟩⟩
      case measure => simp [intOf]; omega
    · obtain rfl : k = n := by omega
      go_wp2
      go_ret
      exact ⟨rfl, hbk⟩

set_option linter.unusedSimpArgs false in
set_option maxRecDepth 100000 in
set_option maxHeartbeats 8000000 in
theorem same_yes (P L K sp sl su : Int) (pd pd' ph ph' pl pl' : Option Addr) (nd cd cd' nh ch ch' cl cl' : Nat) (D : List Int) (H : List Bool) (w : World) (hd : InI w pd nd cd D) (hd' : InI w pd' nd cd' D) (hh : InB w ph nh ch H) (hh' : InB w ph' nh ch' H) :
    Calls Try.prog 14 #[.agg #[.int .i64 P, .int .i64 L, .int .i64 K, .slice pd nd cd, .slice ph nh ch, .int .i64 sp, .int .i64 sl, .int .i64 su, .slice pl 0 cl], .agg #[.int .i64 P, .int .i64 L, .int .i64 K, .slice pd' nd cd', .slice ph' nh ch', .int .i64 sp, .int .i64 sl, .int .i64 su, .slice pl' 0 cl']] w fun e w' => e = .returned (.bool true) ∧ Below w.heap.size w w' := by
  have hroom := hd.room
  have hroom2 := hh.room
  have g1 := (Blk.new' w 35 #[.int .i64 P, .int .i64 L, .int .i64 K, .slice pd nd cd, .slice ph nh ch, .int .i64 sp, .int .i64 sl, .int .i64 su, .slice pl 0 cl]).alloc (.cells #[.int .i64 P, .int .i64 L, .int .i64 K, .slice pd' nd cd', .slice ph' nh ch', .int .i64 sp, .int .i64 sl, .int .i64 su, .slice pl' 0 cl'] 35)
  have g2 := Blk.new' (w.alloc (.cells #[.int .i64 P, .int .i64 L, .int .i64 K, .slice pd nd cd, .slice ph nh ch, .int .i64 sp, .int .i64 sl, .int .i64 su, .slice pl 0 cl] 35)) 35 #[.int .i64 P, .int .i64 L, .int .i64 K, .slice pd' nd cd', .slice ph' nh ch', .int .i64 sp, .int .i64 sl, .int .i64 su, .slice pl' 0 cl']
  rw [World.size_alloc] at g2
  have hb0 := bt (below_alloc w (.cells #[.int .i64 P, .int .i64 L, .int .i64 K, .slice pd nd cd, .slice ph nh ch, .int .i64 sp, .int .i64 sl, .int .i64 su, .slice pl 0 cl] 35)) (below_alloc _ (.cells #[.int .i64 P, .int .i64 L, .int .i64 K, .slice pd' nd cd', .slice ph' nh ch', .int .i64 sp, .int .i64 sl, .int .i64 su, .slice pl' 0 cl'] 35))
  go_enter Try.func14, Try.ntmps14
  go_upto_region 1 with (fail)
  generalize (w.alloc (.cells #[.int .i64 P, .int .i64 L, .int .i64 K, .slice pd nd cd, .slice ph nh ch, .int .i64 sp, .int .i64 sl, .int .i64 su, .slice pl 0 cl] 35)).alloc (.cells #[.int .i64 P, .int .i64 L, .int .i64 K, .slice pd' nd cd', .slice ph' nh ch', .int .i64 sp, .int .i64 sl, .int .i64 su, .slice pl' 0 cl'] 35) = W0 at *
  have ga := g1; have gb := g2
  have x0 := ga.cell' (i := 0) rfl; have y0 := gb.cell' (i := 0) rfl; have x1 := ga.cell' (i := 1) rfl; have y1 := gb.cell' (i := 1) rfl; have x2 := ga.cell' (i := 2) rfl; have y2 := gb.cell' (i := 2) rfl; have x3 := ga.cell' (i := 3) rfl; have y3 := gb.cell' (i := 3) rfl; have x4 := ga.cell' (i := 4) rfl; have y4 := gb.cell' (i := 4) rfl; have x5 := ga.cell' (i := 5) rfl; have y5 := gb.cell' (i := 5) rfl; have x6 := ga.cell' (i := 6) rfl; have y6 := gb.cell' (i := 6) rfl; have x7 := ga.cell' (i := 7) rfl; have y7 := gb.cell' (i := 7) rfl; have x8 := ga.cell' (i := 8) rfl; have y8 := gb.cell' (i := 8) rfl
  have hdI := hd.below hb0
  have hdJ := hd'.below hb0
  go_upto_region 3 with (go_at_call 33; refine (sameInts_yes _ _ _ _ _ _ _ hdI hdJ).mono ?_; rintro e w1 ⟨rfl, hb1⟩; replace ga := ga.kept hb1; replace gb := gb.kept hb1; replace hb0 := bt hb0 hb1; clear hb1 x0 x1 x2 x3 x4 x5 x6 x7 x8 y0 y1 y2 y3 y4 y5 y6 y7 y8; have x0 := ga.cell' (i := 0) rfl; have y0 := gb.cell' (i := 0) rfl; have x1 := ga.cell' (i := 1) rfl; have y1 := gb.cell' (i := 1) rfl; have x2 := ga.cell' (i := 2) rfl; have y2 := gb.cell' (i := 2) rfl; have x3 := ga.cell' (i := 3) rfl; have y3 := gb.cell' (i := 3) rfl; have x4 := ga.cell' (i := 4) rfl; have y4 := gb.cell' (i := 4) rfl; have x5 := ga.cell' (i := 5) rfl; have y5 := gb.cell' (i := 5) rfl; have x6 := ga.cell' (i := 6) rfl; have y6 := gb.cell' (i := 6) rfl; have x7 := ga.cell' (i := 7) rfl; have y7 := gb.cell' (i := 7) rfl; have x8 := ga.cell' (i := 8) rfl; have y8 := gb.cell' (i := 8) rfl)
  clear hdI hdJ g1 g2 x0 x1 x2 x3 x4 x5 x6 x7 x8 y0 y1 y2 y3 y4 y5 y6 y7 y8
  go_wp2
  go_loopw [5] (fun i wr => ∃ k : Nat, k ≤ nh ∧ i = .int .i64 k ∧ Blk wr w.heap.size 35 [.int .i64 P, .int .i64 L, .int .i64 K, .slice pd nd cd, .slice ph nh ch, .int .i64 sp, .int .i64 sl, .int .i64 su, .slice pl 0 cl] ∧ Blk wr (w.heap.size + 1) 35 [.int .i64 P, .int .i64 L, .int .i64 K, .slice pd' nd cd', .slice ph' nh ch', .int .i64 sp, .int .i64 sl, .int .i64 su, .slice pl' 0 cl'] ∧ Below w.heap.size w wr) (fun i _ => nh - (intOf i).toNat)
  case atStart => exact ⟨0, Nat.zero_le _, rfl, ga, gb, hb0⟩
  case round =>
    obtain ⟨k, hk, rfl, ka, kb, hbk⟩ := hrel
    clear ga gb hb0
    have x4 := ka.cell' (i := 4) rfl
    have y4 := kb.cell' (i := 4) rfl
    by_cases hlt : k < nh
    · obtain ⟨b, o, rfl, _, hc⟩ := (hh.below hbk).at' (by omega)
      obtain ⟨b', o', rfl, _, hd⟩ := (hh'.below hbk).at' (by omega)
      have e0 := hc k hlt
      have d0 := hd k hlt
      have hki : (k : Int) < (nh : Int) := by omega
      generalize eB H k = R at *
      clear hc hd
      go_wp2_with fail
      go_quiet (fail)
      go_wp2
      go_roundw
      case rel => exact ⟨k + 1, by omega, by go_num, ka.drew, kb.drew, ⟨hbk.os, hbk.tape, hbk.output, hbk.size, hbk.block⟩⟩
      case measure => simp [intOf]; omega
    · obtain rfl : nh = k := by omega
      have x8 := ka.cell' (i := 8) rfl
      go_wp2
      go_loopw [6] (fun i wr => i = .int .i64 0 ∧ Blk wr w.heap.size 35 [.int .i64 P, .int .i64 L, .int .i64 K, .slice pd nd cd, .slice ph nh ch, .int .i64 sp, .int .i64 sl, .int .i64 su, .slice pl 0 cl] ∧ Below w.heap.size w wr) (fun _ _ => 0)
      case atStart => exact ⟨rfl, ka, hbk⟩
      case round =>
        obtain ⟨rfl, ja, hbj⟩ := hrel
        have z8 := ja.cell' (i := 8) rfl
        go_wp2
        go_ret
        exact ⟨rfl, hbj⟩
end Go.Proofs.Ytfgelncfmopibab

namespace Go.Proofs.Ytfgelncfmopibab
open Go.RowKit
/-- A slice of numbers of 16 bits that lies in a world. -/
structure InU (w : World) (p : Option Addr) (n c : Nat) (xs : List Int) : Prop where
  len : xs.length = n
  room : n ≤ 140737488355328
  at' : 0 < n → ∃ b o, p = some ⟨b, o, none⟩ ∧ b < w.heap.size ∧ ∀ i, i < n → w.cell? ⟨b, o + i, none⟩ = some (.int .u16 (eI xs i))
  rng : ∀ i, i < n → 0 ≤ eI xs i ∧ eI xs i < 65536
theorem InU.below {w w' : World} {p : Option Addr} {n c : Nat} {xs : List Int} (h : InU w p n c xs) (hb : Below w.heap.size w w') : InU w' p n c xs :=
  ⟨h.len, h.room, fun h0 => by
    obtain ⟨b, o, hp, hlt, hc⟩ := h.at' h0
    exact ⟨b, o, hp, Nat.lt_of_lt_of_le hlt hb.size, fun i hi => (hb.cell (p := ⟨b, o + i, none⟩) hlt).trans (hc i hi)⟩, h.rng⟩
structure BLie (w w3 : World) (gD gH gT : Nat) : Prop where
  d : w.heap.size + 1 ≤ gD
  h : w.heap.size + 1 ≤ gH
  dT : gD < gT
  hT : gH < gT
  T3 : gT < w3.heap.size
  ne : gD ≠ gH
structure BS (w w3 wr : World) (CA CB : List Value) (L n gD cD gH cH gT : Nat) (H : List Bool) (wd : List Int) (fl : List Fd) (q : Option Addr) (lq cq : Nat) : Prop where
  arg : Blk wr w.heap.size 35 CA
  tab : Blk wr gT 35 CB
  d : wr.ownsRow (w.heap.size + 1) 3 1 (.slice (some ⟨gD, 0, none⟩) L cD) L (valsI wd)
  h : wr.ownsRow (w.heap.size + 1) 4 1 (.slice (some ⟨gH, 0, none⟩) n cH) n (valsB H)
  l : wr.ownsRow w3.heap.size 50 6 (.slice q lq cq) lq (flatF fl)
  size : w3.heap.size ≤ wr.heap.size
  bel : Below w.heap.size w wr
theorem BS.next {w w3 wr : World} {CA CB : List Value} {L n gD cD gH cH gT : Nat} {H : List Bool} {wd : List Int} {fl : List Fd} {q : Option Addr} {lq cq : Nat} {wr' : World} (h : BS w w3 wr CA CB L n gD cD gH cH gT H wd fl q lq cq) (hb : Below wr.heap.size wr wr') : BS w w3 wr' CA CB L n gD cD gH cH gT H wd fl q lq cq :=
  ⟨h.arg.kept hb, h.tab.kept hb, owns_below h.d hb, owns_below h.h hb, owns_below h.l hb, Nat.le_trans h.size hb.size, bt h.bel hb⟩
theorem BS.setD {w w3 wr : World} {CA CB : List Value} {L n gD cD gH cH gT : Nat} {H : List Bool} {wd : List Int} {fl : List Fd} {q : Option Addr} {lq cq : Nat} (h : BS w w3 wr CA CB L n gD cD gH cH gT H wd fl q lq cq) (o : BLie w w3 gD gH gT) (b : Nat) (x : Int) : BS w w3 (wr.setCell ⟨gD, b, none⟩ (.int .i64 x)) CA CB L n gD cD gH cH gT H (wd.set b x) fl q lq cq := by
  have tn := Turned.setCell wr ⟨gD, b, none⟩ (.int .i64 x)
  dsimp only at tn
  have o1 := o.d; have o2 := o.h; have o3 := o.dT; have o4 := o.hT; have o5 := o.T3
  refine ⟨h.arg.turned tn (by omega), h.tab.turned tn (by omega), ?_, owns_tn2 h.h tn (fun e => o.ne e.symm), owns_turnedB h.l tn (by omega), by rw [tn.size]; exact h.size, tn.below h.bel (by omega)⟩
  have := (h.d.stored b (.int .i64 x)).1
  rwa [valsI_set] at this
theorem BS.app {w w3 wr : World} {CA CB : List Value} {L n gD cD gH cH gT : Nat} {H : List Bool} {wd : List Int} {fl : List Fd} {q : Option Addr} {lq cq : Nat} {w0 w1 : World} {q' : Option Addr} {cq' : Nat} (h : BS w w3 wr CA CB L n gD cD gH cH gT H wd fl q lq cq) (o : BLie w w3 gD gH gT) (r : Fd) (hb : Below wr.heap.size wr w0) (hown : w1.ownsRow w3.heap.size 50 6 (.slice q' (lq + 1) cq') (lq + 1) (flatF fl ++ r.cells)) (hg : w0.grownBy w1 (Value.slice q lq cq).ownBlock) : BS w w3 w1 CA CB L n gD cD gH cH gT H wd (fl ++ [r]) q' (lq + 1) cq' := by
  have h0 := h.next hb
  have o1 := o.d; have o2 := o.h; have o3 := o.dT; have o4 := o.hT; have o5 := o.T3
  have hs0 := h0.size
  have hk : ∀ j, j < w3.heap.size → w1.heap[j]? = w0.heap[j]? := fun j hj => hg.block j (by omega) (fun e => by have := (h0.l.lt j e.symm).1; omega)
  refine ⟨(hk _ (by omega)).trans h0.arg, (hk _ (by omega)).trans h0.tab, owns_keep h0.d (hk _ (by omega)), owns_keep h0.h (hk _ (by omega)), ?_, Nat.le_trans hs0 hg.size, h0.bel.grown hg (by omega) (fun j hj => by have := (h0.l.lt j hj).1; omega)⟩
  rwa [show flatF fl ++ r.cells = flatF (fl ++ [r]) by rw [flatF_append]; simp [flatF]] at hown
theorem dec0 (x : Int) : ((x == 0) = false ∧ x ≠ 0) ∨ x = 0 := by
  by_cases h : x = 0
  · exact .inr h
  · exact .inl ⟨by rw [beq_eq_false_iff_ne]; exact h, h⟩
end Go.Proofs.Ytfgelncfmopibab

namespace Go.Proofs.Ytfgelncfmopibab
open Go.RowKit
set_option linter.unusedSimpArgs false in
set_option maxRecDepth 100000 in
set_option maxHeartbeats 8000000 in
theorem back_no (P0 L0 K sp sl su : Int) (pd ph pl ps : Option Addr) (nd cd nh ch nl cl ns cs : Nat) (w : World) (hck : ∀ W, Below w.heap.size w W → Calls Try.prog 10 #[.agg #[.int .i64 P0, .int .i64 L0, .int .i64 K, .slice pd nd cd, .slice ph nh ch, .int .i64 sp, .int .i64 sl, .int .i64 su, .slice pl nl cl]] W fun e w' => RetI False e ∧ Below W.heap.size W w') :
    Calls Try.prog 4 #[.agg #[.int .i64 P0, .int .i64 L0, .int .i64 K, .slice pd nd cd, .slice ph nh ch, .int .i64 sp, .int .i64 sl, .int .i64 su, .slice pl nl cl], .slice ps ns cs] w fun e w' => e = .returned (.bool true) ∧ Below w.heap.size w w' := by
  have hb0 := below_alloc w (.cells #[.int .i64 P0, .int .i64 L0, .int .i64 K, .slice pd nd cd, .slice ph nh ch, .int .i64 sp, .int .i64 sl, .int .i64 su, .slice pl nl cl] 35)
  have b2 := Blk.new' w 35 #[.int .i64 P0, .int .i64 L0, .int .i64 K, .slice pd nd cd, .slice ph nh ch, .int .i64 sp, .int .i64 sl, .int .i64 su, .slice pl nl cl]
  go_enter Try.func4, Try.ntmps4
  go_upto_region 1 with (fail)
  generalize w.alloc (.cells #[.int .i64 P0, .int .i64 L0, .int .i64 K, .slice pd nd cd, .slice ph nh ch, .int .i64 sp, .int .i64 sl, .int .i64 su, .slice pl nl cl] 35) = W0 at *
  have c0 := b2.cell' (i := 0) rfl; have c1 := b2.cell' (i := 1) rfl; have c2 := b2.cell' (i := 2) rfl; have c3 := b2.cell' (i := 3) rfl; have c4 := b2.cell' (i := 4) rfl; have c5 := b2.cell' (i := 5) rfl; have c6 := b2.cell' (i := 6) rfl; have c7 := b2.cell' (i := 7) rfl; have c8 := b2.cell' (i := 8) rfl
  go_upto_region 3 with (go_at_call 6; refine (live_any _).mono ?_; rintro e w1 ⟨rfl, hbn⟩; replace b2 := b2.kept hbn; replace hb0 := bt hb0 hbn; clear hbn c0 c1 c2 c3 c4 c5 c6 c7 c8; have c0 := b2.cell' (i := 0) rfl; have c1 := b2.cell' (i := 1) rfl; have c2 := b2.cell' (i := 2) rfl; have c3 := b2.cell' (i := 3) rfl; have c4 := b2.cell' (i := 4) rfl; have c5 := b2.cell' (i := 5) rfl; have c6 := b2.cell' (i := 6) rfl; have c7 := b2.cell' (i := 7) rfl; have c8 := b2.cell' (i := 8) rfl)
  go_wp2_with (go_at_call 10; refine (hck _ hb0).mono ?_; rintro e w2 ⟨⟨x, rfl, hx⟩, hbn⟩; replace b2 := b2.kept hbn; replace hb0 := bt hb0 hbn; clear hbn c0 c1 c2 c3 c4 c5 c6 c7 c8; have c0 := b2.cell' (i := 0) rfl; have c1 := b2.cell' (i := 1) rfl; have c2 := b2.cell' (i := 2) rfl; have c3 := b2.cell' (i := 3) rfl; have c4 := b2.cell' (i := 4) rfl; have c5 := b2.cell' (i := 5) rfl; have c6 := b2.cell' (i := 6) rfl; have c7 := b2.cell' (i := 7) rfl; have c8 := b2.cell' (i := 8) rfl; obtain ⟨hne, _⟩ : (x == 0) = false ∧ x ≠ 0 := (dec0 x).resolve_right hx)
  go_ret
  exact ⟨rfl, hb0⟩
set_option linter.unusedSimpArgs false in
set_option maxRecDepth 100000 in
set_option maxHeartbeats 8000000 in
theorem back_early (P0 L0 K sp sl su : Int) (pd ph pl ps : Option Addr) (nd cd nh ch nl cl ns cs : Nat) (Q : Prop) (w : World) (hnh : nh ≤ 140737488355328) (hnl : nl ≤ 140737488355328) (hck : ∀ W, Below w.heap.size w W → Calls Try.prog 10 #[.agg #[.int .i64 P0, .int .i64 L0, .int .i64 K, .slice pd nd cd, .slice ph nh ch, .int .i64 sp, .int .i64 sl, .int .i64 su, .slice pl nl cl]] W fun e w' => RetI Q e ∧ Below W.heap.size W w') (h : 200 < nh ∨ 0 ≤ sp ∨ 0 < nl) :
    Calls Try.prog 4 #[.agg #[.int .i64 P0, .int .i64 L0, .int .i64 K, .slice pd nd cd, .slice ph nh ch, .int .i64 sp, .int .i64 sl, .int .i64 su, .slice pl nl cl], .slice ps ns cs] w fun e w' => e = .returned (.bool true) ∧ Below w.heap.size w w' := by
  by_cases h1 : 200 < (nh : Int)
  · clear h
    have hb0 := below_alloc w (.cells #[.int .i64 P0, .int .i64 L0, .int .i64 K, .slice pd nd cd, .slice ph nh ch, .int .i64 sp, .int .i64 sl, .int .i64 su, .slice pl nl cl] 35)
    have b2 := Blk.new' w 35 #[.int .i64 P0, .int .i64 L0, .int .i64 K, .slice pd nd cd, .slice ph nh ch, .int .i64 sp, .int .i64 sl, .int .i64 su, .slice pl nl cl]
    go_enter Try.func4, Try.ntmps4
    go_upto_region 1 with (fail)
    generalize w.alloc (.cells #[.int .i64 P0, .int .i64 L0, .int .i64 K, .slice pd nd cd, .slice ph nh ch, .int .i64 sp, .int .i64 sl, .int .i64 su, .slice pl nl cl] 35) = W0 at *
    have c0 := b2.cell' (i := 0) rfl; have c1 := b2.cell' (i := 1) rfl; have c2 := b2.cell' (i := 2) rfl; have c3 := b2.cell' (i := 3) rfl; have c4 := b2.cell' (i := 4) rfl; have c5 := b2.cell' (i := 5) rfl; have c6 := b2.cell' (i := 6) rfl; have c7 := b2.cell' (i := 7) rfl; have c8 := b2.cell' (i := 8) rfl
    go_upto_region 3 with (go_at_call 6; refine (live_any _).mono ?_; rintro e w1 ⟨rfl, hbn⟩; replace b2 := b2.kept hbn; replace hb0 := bt hb0 hbn; clear hbn c0 c1 c2 c3 c4 c5 c6 c7 c8; have c0 := b2.cell' (i := 0) rfl; have c1 := b2.cell' (i := 1) rfl; have c2 := b2.cell' (i := 2) rfl; have c3 := b2.cell' (i := 3) rfl; have c4 := b2.cell' (i := 4) rfl; have c5 := b2.cell' (i := 5) rfl; have c6 := b2.cell' (i := 6) rfl; have c7 := b2.cell' (i := 7) rfl; have c8 := b2.cell' (i := 8) rfl)
    go_wp2_with (go_at_call 10; refine (hck _ hb0).mono ?_; rintro e w2 ⟨⟨x, rfl, hx⟩, hbn⟩; replace b2 := b2.kept hbn; replace hb0 := bt hb0 hbn; clear hbn c0 c1 c2 c3 c4 c5 c6 c7 c8; have c0 := b2.cell' (i := 0) rfl; have c1 := b2.cell' (i := 1) rfl; have c2 := b2.cell' (i := 2) rfl; have c3 := b2.cell' (i := 3) rfl; have c4 := b2.cell' (i := 4) rfl; have c5 := b2.cell' (i := 5) rfl; have c6 := b2.cell' (i := 6) rfl; have c7 := b2.cell' (i := 7) rfl; have c8 := b2.cell' (i := 8) rfl; rcases dec0 x with ⟨hne, _⟩ | rfl)
    · go_ret
      exact ⟨rfl, hb0⟩
    · go_ret
      exact ⟨rfl, hb0⟩
  by_cases h2 : 0 ≤ sp
  · clear h
    have hb0 := below_alloc w (.cells #[.int .i64 P0, .int .i64 L0, .int .i64 K, .slice pd nd cd, .slice ph nh ch, .int .i64 sp, .int .i64 sl, .int .i64 su, .slice pl nl cl] 35)
    have b2 := Blk.new' w 35 #[.int .i64 P0, .int .i64 L0, .int .i64 K, .slice pd nd cd, .slice ph nh ch, .int .i64 sp, .int .i64 sl, .int .i64 su, .slice pl nl cl]
    go_enter Try.func4, Try.ntmps4
    go_upto_region 1 with (fail)
    generalize w.alloc (.cells #[.int .i64 P0, .int .i64 L0, .int .i64 K, .slice pd nd cd, .slice ph nh ch, .int .i64 sp, .int .i64 sl, .int .i64 su, .slice pl nl cl] 35) = W0 at *
    have c0 := b2.cell' (i := 0) rfl; have c1 := b2.cell' (i := 1) rfl; have c2 := b2.cell' (i := 2) rfl; have c3 := b2.cell' (i := 3) rfl; have c4 := b2.cell' (i := 4) rfl; have c5 := b2.cell' (i := 5) rfl; have c6 := b2.cell' (i := 6) rfl; have c7 := b2.cell' (i := 7) rfl; have c8 := b2.cell' (i := 8) rfl
    go_upto_region 3 with (go_at_call 6; refine (live_any _).mono ?_; rintro e w1 ⟨rfl, hbn⟩; replace b2 := b2.kept hbn; replace hb0 := bt hb0 hbn; clear hbn c0 c1 c2 c3 c4 c5 c6 c7 c8; have c0 := b2.cell' (i := 0) rfl; have c1 := b2.cell' (i := 1) rfl; have c2 := b2.cell' (i := 2) rfl; have c3 := b2.cell' (i := 3) rfl; have c4 := b2.cell' (i := 4) rfl; have c5 := b2.cell' (i := 5) rfl; have c6 := b2.cell' (i := 6) rfl; have c7 := b2.cell' (i := 7) rfl; have c8 := b2.cell' (i := 8) rfl)
    go_wp2_with (go_at_call 10; refine (hck _ hb0).mono ?_; rintro e w2 ⟨⟨x, rfl, hx⟩, hbn⟩; replace b2 := b2.kept hbn; replace hb0 := bt hb0 hbn; clear hbn c0 c1 c2 c3 c4 c5 c6 c7 c8; have c0 := b2.cell' (i := 0) rfl; have c1 := b2.cell' (i := 1) rfl; have c2 := b2.cell' (i := 2) rfl; have c3 := b2.cell' (i := 3) rfl; have c4 := b2.cell' (i := 4) rfl; have c5 := b2.cell' (i := 5) rfl; have c6 := b2.cell' (i := 6) rfl; have c7 := b2.cell' (i := 7) rfl; have c8 := b2.cell' (i := 8) rfl; rcases dec0 x with ⟨hne, _⟩ | rfl)
    · go_ret
      exact ⟨rfl, hb0⟩
    · go_ret
      exact ⟨rfl, hb0⟩
  have h3 : 0 < (nl : Int) := by omega
  clear h
  have hb0 := below_alloc w (.cells #[.int .i64 P0, .int .i64 L0, .int .i64 K, .slice pd nd cd, .slice ph nh ch, .int .i64 sp, .int .i64 sl, .int .i64 su, .slice pl nl cl] 35)
  have b2 := Blk.new' w 35 #[.int .i64 P0, .int .i64 L0, .int .i64 K, .slice pd nd cd, .slice ph nh ch, .int .i64 sp, .int .i64 sl, .int .i64 su, .slice pl nl cl]
  go_enter Try.func4, Try.ntmps4
  go_upto_region 1 with (fail)
  generalize w.alloc (.cells #[.int .i64 P0, .int .i64 L0, .int .i64 K, .slice pd nd cd, .slice ph nh ch, .int .i64 sp, .int .i64 sl, .int .i64 su, .slice pl nl cl] 35) = W0 at *
  have c0 := b2.cell' (i := 0) rfl; have c1 := b2.cell' (i := 1) rfl; have c2 := b2.cell' (i := 2) rfl; have c3 := b2.cell' (i := 3) rfl; have c4 := b2.cell' (i := 4) rfl; have c5 := b2.cell' (i := 5) rfl; have c6 := b2.cell' (i := 6) rfl; have c7 := b2.cell' (i := 7) rfl; have c8 := b2.cell' (i := 8) rfl
  go_upto_region 3 with (go_at_call 6; refine (live_any _).mono ?_; rintro e w1 ⟨rfl, hbn⟩; replace b2 := b2.kept hbn; replace hb0 := bt hb0 hbn; clear hbn c0 c1 c2 c3 c4 c5 c6 c7 c8; have c0 := b2.cell' (i := 0) rfl; have c1 := b2.cell' (i := 1) rfl; have c2 := b2.cell' (i := 2) rfl; have c3 := b2.cell' (i := 3) rfl; have c4 := b2.cell' (i := 4) rfl; have c5 := b2.cell' (i := 5) rfl; have c6 := b2.cell' (i := 6) rfl; have c7 := b2.cell' (i := 7) rfl; have c8 := b2.cell' (i := 8) rfl)
  go_wp2_with (go_at_call 10; refine (hck _ hb0).mono ?_; rintro e w2 ⟨⟨x, rfl, hx⟩, hbn⟩; replace b2 := b2.kept hbn; replace hb0 := bt hb0 hbn; clear hbn c0 c1 c2 c3 c4 c5 c6 c7 c8; have c0 := b2.cell' (i := 0) rfl; have c1 := b2.cell' (i := 1) rfl; have c2 := b2.cell' (i := 2) rfl; have c3 := b2.cell' (i := 3) rfl; have c4 := b2.cell' (i := 4) rfl; have c5 := b2.cell' (i := 5) rfl; have c6 := b2.cell' (i := 6) rfl; have c7 := b2.cell' (i := 7) rfl; have c8 := b2.cell' (i := 8) rfl; rcases dec0 x with ⟨hne, _⟩ | rfl)
  · go_ret
    exact ⟨rfl, hb0⟩
  · go_ret
    exact ⟨rfl, hb0⟩
end Go.Proofs.Ytfgelncfmopibab

namespace Go.Proofs.Ytfgelncfmopibab
open Go.RowKit
/-- What Table hands out where the sizes fit. -/
def TabOutF (B : Nat) (w' : World) (P L : Nat) (K : Int) (n : Nat) (t : TT) (e : Ending) : Prop := ∃ gd cd gh ch pl cl q cq, e = .returned (.tuple #[.agg (cells9 P L K n gd cd gh ch pl cl).toArray, .slice q t.l.length cq, .int .i64 0]) ∧
  InI w' (some ⟨gd, 0, none⟩) L cd t.d ∧ InB w' (some ⟨gh, 0, none⟩) n ch t.h ∧ InI w' q t.l.length cq t.l ∧ LogsIn w' pl 0 cl [] ∧ B ≤ gd
theorem tabOutF_of {w w3 wr wr' w0 : World} {P L : Nat} {K : Int} {n gd cd gh ch gT : Nat} {pl : Option Addr} {cl : Nat} {t : TT} {q : Option Addr} {lq cq : Nat} (h : TS w w3 wr P L K n gd cd gh ch gT pl cl t q lq cq) (o : Lie w w3 gd gh gT) (ht : Turned wr wr' w.heap.size) (hl : LogsIn w0 pl 0 cl []) (hL : L ≤ 100000000) (hn : n ≤ 100000000) (hlq : lq ≤ 100000000) {e : Ending}
    (he : e = .returned (.tuple #[.agg (cells9 P L K n gd cd gh ch pl cl).toArray, .slice q lq cq, .int .i64 0])) : TabOutF w.heap.size wr' P L K n t e ∧ Below w.heap.size w wr' := by
  have o1 := o.d; have o2 := o.h; have o3 := o.dT; have o4 := o.hT; have o5 := o.T3
  have hlen := h.len
  have hl2 := h.l
  subst hlen
  have hd := owns_tn2 h.d ht (by omega)
  have hh := owns_tn2 h.h ht (by omega)
  have hll := owns_turnedB hl2 ht (by omega)
  obtain ⟨p1, c1, e1, i1⟩ := in_of_ownsI hd (by omega)
  obtain ⟨p2, c2, e2, i2⟩ := in_of_ownsB hh (by omega)
  obtain ⟨p3, c3, e3, i3⟩ := in_of_ownsI hll (by omega)
  cases e1
  cases e2
  cases e3
  exact ⟨⟨gd, _, gh, _, pl, cl, _, _, he, i1, i2, i3, logsNil hl, by omega⟩, ht.below h.bel (Nat.le_refl _)⟩
set_option linter.unusedSimpArgs false in
set_option maxRecDepth 100000 in
set_option maxHeartbeats 8000000 in
theorem table_okF (P L : Nat) (K : Int) (n : Nat) (p : Option Addr) (c : Nat) (zs : List Pl) (w : World) (hz : InZ w p n c zs) (hok : okSz (P : Int) (L : Int) K = true) (HM : Hid (n = L * P)) :
    Calls Try.prog 9 #[.int .i64 (P : Int), .int .i64 (L : Int), .int .i64 K, .slice p n c] w fun e w' => TabOutF w.heap.size w' P L K n (tabTo zs P L n L) e ∧ Below w.heap.size w w' := by
  have hLP : (L : Int) * (P : Int) = (n : Int) := by rw [HM.out]; exact (Int.natCast_mul L P).symm
  have hnew := fun w => new_rows P L K n w hok hLP
  obtain ⟨⟨r1, r2⟩, ⟨r3, r4⟩, _⟩ := okSz_iff.1 hok
  have hnb := prod_bd ⟨r3, r4⟩ ⟨r1, r2⟩
  have hn1 : n ≤ 8192 := by omega
  have hn4 : 4 ≤ n := by omega
  have hnI : (n : Int) ≤ 8192 := by omega
  have hcap := hz.cap
  obtain ⟨bz, oz, rfl, hbz, -⟩ := hz.at' (by omega)
  have hsetE := fun (b : Nat) (hb : b < L) => set_eq (zs := zs) (P := P) (B := b) (a := b * P) (m := L) (n := n) hz.len HM.out rfl (by omega) hb
  clear hok hnb
  have r0 := Blk.new' w 35 #[.int .i64 0, .int .i64 0, .int .i64 0, .slice none 0 0, .slice none 0 0, .int .i64 0, .int .i64 0, .int .i64 0, .slice none 0 0]
  have k0 := below_alloc w (.cells #[.int .i64 0, .int .i64 0, .int .i64 0, .slice none 0 0, .slice none 0 0, .int .i64 0, .int .i64 0, .int .i64 0, .slice none 0 0] 35)
  have hs0 : (w.alloc (.cells #[.int .i64 0, .int .i64 0, .int .i64 0, .slice none 0 0, .slice none 0 0, .int .i64 0, .int .i64 0, .int .i64 0, .slice none 0 0] 35)).heap.size = w.heap.size + 1 := World.size_alloc _ _
  go_enter Try.func9, Try.ntmps9
  go_upto_region 1 with (fail)
  generalize w.alloc (.cells #[.int .i64 0, .int .i64 0, .int .i64 0, .slice none 0 0, .slice none 0 0, .int .i64 0, .int .i64 0, .int .i64 0, .slice none 0 0] 35) = W0 at *
  go_upto_region 2 with (first | (go_at_call 18; refine (hnew _).mono ?_; rintro e w1 ⟨⟨gd, cd, gh, ch, pl, cl, rfl, hd1, hh1, hl1⟩, hb1⟩) | (refine wpList_store_blk rfl 35 (.tmp 11) (.tmp 25) rfl w1.heap.size 0 (cells9 P L K n gd cd gh ch pl cl) rfl rfl (Blk.new' w1 35 #[.int .i64 0, .int .i64 0, .int .i64 0, .slice none 0 0, .slice none 0 0, .int .i64 0, .int .i64 0, .int .i64 0, .slice none 0 0]) (by exact Nat.le_refl _) (size9 _ _ _ _ _ _ _ _ _ _) (one9 _ _ _ _ _ _ _ _ _ _) ?_; intro W4 h4 ht4; rw [whole_row (by rfl)] at h4))
  have k4 : Below w1.heap.size w1 W4 := ht4.below (below_alloc w1 _) (Nat.le_refl _)
  have s4 : w1.heap.size < W4.heap.size := by rw [ht4.size, World.size_alloc]; omega
  rw [hs0] at hd1 hh1
  have hgd := (hd1.lt gd rfl)
  have hgh := (hh1.lt gh rfl)
  have hne : gd ≠ gh := by
    intro e
    subst e
    obtain ⟨c1, e1⟩ := owns_has hd1
    obtain ⟨c2, e2⟩ := owns_has hh1
    rw [e1] at e2
    cases e2
  have d4 := owns_below hd1 k4
  have h4' := owns_below hh1 k4
  have r4' := (r0.kept hb1).kept k4
  have kw4 := bt (bt k0 hb1) k4
  have hz4 := hz.below kw4
  have hhom := homes_any P L bz oz n c zs W4 hz4 (by omega) HM (by omega) (by omega) (by omega)
  have hgl : (homesL zs P (guestsL zs P (List.range L)) (List.range L)).length = L := by simp [homesL]
  have hge : ∀ b, b < L → eI (homesL zs P (guestsL zs P (List.range L)) (List.range L)) b = oneH (guestsL zs P (List.range L)) (homeP (chunkL zs P b)) := fun b hb => by simp [eI, homesL, hb]
  replace hsetE : ∀ b, b < L → Hid (setR zs P b (b * P) n = if eI (homesL zs P (guestsL zs P (List.range L)) (List.range L)) b = -1 then (0, false) else (eI (homesL zs P (guestsL zs P (List.range L)) (List.range L)) b, true)) := fun b hb => by rw [hge b hb]; exact hsetE b hb
  generalize homesL zs P (guestsL zs P (List.range L)) (List.range L) = Hs at *
  obtain ⟨gT, HgT⟩ : ∃ g, g = w1.heap.size := ⟨_, rfl⟩
  rw [← HgT] at h4 s4 hgd hgh ⊢
  clear HgT hge ht4 r0 k0 hb1 hd1 hh1 hz4 hnew hs0
  have hLI : (L : Int) ≤ 256 := r4
  go_wp2_with (go_at_call 22; refine hhom.mono ?_; rintro e w3 ⟨qH, cH, rfl, hoH, hb3⟩; obtain ⟨gH, rfl⟩ := own_some hoH (by omega))
  have s3 := hb3.size
  have hgH := hoH.lt gH rfl
  have hLie : Lie w w3 gd gh gT := ⟨hgd.1, hgh.1, by omega, by omega, by omega, hne⟩
  have hT0 := TS.start zs (r4'.kept hb3) (h4.kept hb3) (owns_below d4 hb3) (owns_below h4' hb3) (bt kw4 hb3)
  clear r4' h4 d4 h4' kw4 k4 hhom
  go_loopw [13, 42] (fun v i wr => ∃ (b : Nat) (q : Option Addr) (lq cq : Nat), b ≤ L ∧ i = .int .i64 b ∧ v = .slice q lq cq ∧ TS w w3 wr P L K n gd cd gh ch gT pl cl (tabTo zs P L n b) q lq cq) (fun _ i _ => L - (intOf i).toNat)
  case atStart => exact ⟨0, none, 0, 0, Nat.zero_le _, rfl, rfl, hT0⟩
  case round =>
    obtain ⟨b, q, lq, cq, hb, rfl, rfl, hT⟩ := hrel
    clear hT0
    have hll := tabTo_l zs P L n b
    have hdl := tabTo_d zs P L n b
    have hhl := tabTo_h zs P L n b
    have hlen := hT.len
    by_cases hlt : b < L
    · have hbI : (b : Int) < (L : Int) := by omega
      obtain ⟨a, HA⟩ : ∃ a, Hid (a = b * P) := ⟨_, rfl⟩
      obtain ⟨x, hx⟩ : ∃ x, x = a + P := ⟨_, rfl⟩
      have hab : (b : Int) * (P : Int) = (a : Int) := by rw [HA.out]; exact (Int.natCast_mul b P).symm
      have hxn : x ≤ n := by rw [hx, HA.out, HM.out, ← Nat.succ_mul]; exact Nat.mul_le_mul_right P hlt
      have hax : (a : Int) + (P : Int) = (x : Int) := by omega
      have haI : (a : Int) ≤ 8192 := by omega
      have hxI : (x : Int) ≤ 8192 := by omega
      have hsl := sliceZ_two bz oz n c a x (by omega) hxn hcap
      rw [show x - a = P by omega] at hsl
      have haP : a + P ≤ n := by omega
      clear hx
      have hHk := hT.keep gH (by omega) (by omega)
      have hcH : wr.cell? ⟨gH, b, none⟩ = some (.int .i64 (eI Hs b)) := by rw [World.cell?_of_block (a := ⟨gH, b, none⟩) hHk, hoH.cellAt b (by omega), valsI_get Hs b (by omega)]
      have HE := hsetE b hlt
      have HT : Hid (tabTo zs P L n (b + 1) = tabStep zs P n b (tabTo zs P L n b)) := rfl
      generalize tabTo zs P L n b = T at *
      generalize eI Hs b = h at *
      have hpart := fun (W : World) (hW : Below w.heap.size w W) => (hz.below hW).part (a := a) (P := P) haP (by omega) (by omega)
      by_cases hh1 : h = -1
      · subst hh1
        have HE' : Hid (setR zs P b (b * P) n = (0, false)) := HE.out.trans (if_pos rfl)
        have hcf := containsFunc_any _ _ _ _ wr (hpart wr hT.bel) (by omega)
        rw [someTo_part (Nat.le_refl P)] at hcf
        clear HE hpart hsetE
        cases hs : someTo zs a P with
        | false =>
          rw [hs] at hcf
          have HT' : Hid (tabTo zs P L n (b + 1) = T) := HT.out.trans (step_no HE'.out (by rw [← HA.out]; exact hs))
          clear HT HE' hs
          go_wp2_with (go_at_call 24; refine hcf.mono ?_; rintro e w5 ⟨rfl, hb5⟩)
          go_roundw
          case rel => exact ⟨b + 1, q, lq, cq, by omega, by go_num, rfl, by rw [HT'.out]; exact hT.next hb5⟩
          case measure => simp [intOf]; omega
        | true =>
          rw [hs] at hcf
          have HT' : Hid (tabTo zs P L n (b + 1) = ⟨T.d, T.h, T.l ++ [(b : Int)]⟩) := HT.out.trans (step_loose HE'.out (by rw [← HA.out]; exact hs))
          clear HT HE' hs
          obtain ⟨i0, hi, hz0, hz1, hz2⟩ := info_parts infoI
          go_wp2_with (first | (go_at_call 24; refine hcf.mono ?_; rintro e w5 ⟨rfl, hb5⟩; have HW : Hid (w5.ownsRow w3.heap.size 3 1 (.slice q lq cq) lq (valsI T.l)) := owns_below hT.l hb5; have hs5 : w3.heap.size ≤ w5.heap.size := Nat.le_trans hT.size hb5.size) | (at_builtin; refine wpList_append_own _ rfl (.tmp 83) (.tmp 85) 29 rfl w3.heap.size 3 i0 (.int .i64 0) 1 8 Try.underlying29 hi hz0 hz1 hz2 rfl (by decide) (.slice q lq cq) lq (valsI T.l) rfl (HW.out.alloc _) ⟨w5.heap.size, 0, none⟩ 1 1 [.int .i64 (b : Int)] rfl rfl (new_one w5 _) (by simp [Value.oneCell']) (by unfold maxLen; omega) (by omega) (by rw [World.size_alloc]; omega) ?_; intro v1 w6 hown1 hgrow1 _; obtain ⟨q', cq', hv⟩ := owns_slice hown1; subst hv))
          go_roundw
          case rel => exact ⟨b + 1, q', lq + 1, cq', by omega, by go_num, rfl, by rw [HT'.out]; exact hT.app hLie (b : Int) (bt hb5 (below_alloc w5 _)) hown1 hgrow1⟩
          case measure => simp [intOf]; omega
      · have hne' : (h == -1) = false := by rw [beq_eq_false_iff_ne]; exact hh1
        have HT' : Hid (tabTo zs P L n (b + 1) = ⟨T.d.set b h, havTo T.h zs a P, T.l⟩) := by
          have := HT.out.trans (step_yes (HE.out.trans (if_neg hh1)))
          rw [← HA.out] at this
          exact this
        clear HE hh1 HT hsetE
        have x3 := hT.tab.cell' (i := 3) rfl
        have hcd := hT.d.cellAt b (by omega)
        rw [valsI_get T.d b (by omega)] at hcd
        have hfd := hT.d.frozenAt b
        have hT5 := hT.setD hLie b h
        go_wp2
        generalize wr.setCell ⟨gd, b, none⟩ (.int .i64 h) = W5 at *
        clear x3 hcd hfd hT hcH hHk
        go_loopw [66] (fun i wr => ∃ k : Nat, k ≤ P ∧ i = .int .i64 k ∧ TS w w3 wr P L K n gd cd gh ch gT pl cl ⟨T.d.set b h, havTo T.h zs a k, T.l⟩ q lq cq) (fun i _ => P - (intOf i).toNat)
        case atStart => exact ⟨0, Nat.zero_le _, rfl, hT5⟩
        case round =>
          obtain ⟨k, hk, rfl, hK⟩ := hrel
          clear hT5
          by_cases hkl : k < P
          · have hkI : (k : Int) < (P : Int) := by omega
            obtain ⟨bz', oz', e', hbz', hc⟩ := (hpart wr hK.bel).at' (by omega)
            cases e'
            obtain ⟨e0, e1⟩ := hc k hkl
            have eqz : eZ ((zs.drop a).take P) k = eZ zs (a + k) := by simp [eZ, List.getElem?_take_of_lt hkl, List.getElem?_drop]
            rw [eqz] at e0 e1
            obtain ⟨j, hj⟩ : ∃ j, j = a + k := ⟨_, rfl⟩
            have hjI : (a : Int) + (k : Int) = (j : Int) := by omega
            have hjn : (j : Int) < (n : Int) := by omega
            have hjb : (j : Int) ≤ 8192 := by omega
            have HV : Hid (havTo T.h zs a (k + 1) = (havTo T.h zs a k).set j (isPl (eZ zs j))) := by rw [hj]; rfl
            rw [← hj] at e0 e1
            clear hj
            have hvl := havTo_length T.h zs a k
            generalize havTo T.h zs a k = V at *
            generalize eZ zs j = z at *
            obtain ⟨zh, zg⟩ := z
            dsimp only at e0 e1 HV
            have ba := below_alloc wr (.cells #[.int .i64 zh, .int .i64 zg] 41)
            have bb := Blk.new' wr 41 #[.int .i64 zh, .int .i64 zg]
            have hK2 := hK.next ba
            have hs9 := hK.size
            clear hc eqz hpart hK
            go_upto_region 17 with (fail)
            obtain ⟨g5, Hg5⟩ : ∃ g, g = wr.heap.size := ⟨_, rfl⟩
            rw [← Hg5] at bb ⊢
            have hg5 : gT < g5 := by rw [Hg5]; have := hLie.T3; omega
            clear ba Hg5
            generalize wr.alloc (.cells #[.int .i64 zh, .int .i64 zg] 41) = W6 at *
            refine wp_region_noPanic ?_
            refine wp_region_held_drew (S := fun X => Blk X g5 41 [.int .i64 zh, .int .i64 zg] ∧ Blk X gT 35 (cells9 P L K n gd cd gh ch pl cl)) (by kernel_rfl) ⟨bb.drew, hK2.tab.drew⟩ (fun hHeld => ?_)
            replace hK2 := hK2.drew
            generalize W6.drew = W6 at *
            have hjw : IntKind.i64.wrap (j : Int) = (j : Int) := wrapN j (by omega)
            refine wpAnyH_take (i := 0) (v := ?_) rfl (by kernel_rfl) (by kernel_rfl) (by kernel_rfl) (fun _ _ _ h => h) (Or.inl ⟨by rfl, ?_⟩) hHeld ?_
            rotate_left
            · intro w' hSw; try dsimp only at hSw
              go_simp; try (with_reducible rfl)
            try simp only [Act.put, List.getElem_toArray, List.getElem_cons_succ, List.getElem_cons_zero, List.setIfInBounds_toArray, List.set_cons_zero, List.set_cons_succ]
            refine wpAnyH_take (i := 1) (v := ?_) rfl (by kernel_rfl) (by kernel_rfl) (by kernel_rfl) (fun _ _ _ h => h) (Or.inl ⟨by rfl, ?_⟩) hHeld ?_
            rotate_left
            · intro w' hSw; try dsimp only at hSw
              obtain ⟨_, y⟩ := hSw
              have y4 := y.cell' (i := 4) rfl
              go_simp; try (with_reducible rfl)
            try simp only [Act.put, List.getElem_toArray, List.getElem_cons_succ, List.getElem_cons_zero, List.setIfInBounds_toArray, List.set_cons_zero, List.set_cons_succ]
            refine wpAnyH_take (i := 2) (v := ?_) rfl (by kernel_rfl) (by kernel_rfl) (by kernel_rfl) (fun _ _ _ h => h) (Or.inl ⟨by rfl, ?_⟩) hHeld ?_
            rotate_left
            · intro w' hSw; try dsimp only at hSw
              go_simp; try (with_reducible rfl)
            try simp only [Act.put, List.getElem_toArray, List.getElem_cons_succ, List.getElem_cons_zero, List.setIfInBounds_toArray, List.set_cons_zero, List.set_cons_succ]
            refine wpAnyH_take (i := 3) (v := ?_) rfl (by kernel_rfl) (by kernel_rfl) (by kernel_rfl) (fun _ _ _ h => h) (Or.inl ⟨by rfl, ?_⟩) hHeld ?_
            rotate_left
            · intro w' hSw; try dsimp only at hSw
              go_simp; try (with_reducible rfl)
            try simp only [Act.put, List.getElem_toArray, List.getElem_cons_succ, List.getElem_cons_zero, List.setIfInBounds_toArray, List.set_cons_zero, List.set_cons_succ]
            refine wpAnyH_take (i := 4) (v := ?_) rfl (by kernel_rfl) (by kernel_rfl) (by kernel_rfl) (fun _ _ _ h => h) (Or.inl ⟨by rfl, ?_⟩) hHeld ?_
            rotate_left
            · intro w' hSw; try dsimp only at hSw
              go_simp; try (with_reducible rfl)
            try simp only [Act.put, List.getElem_toArray, List.getElem_cons_succ, List.getElem_cons_zero, List.setIfInBounds_toArray, List.set_cons_zero, List.set_cons_succ]
            refine wpAnyH_take (i := 5) (v := ?_) rfl (by kernel_rfl) (by kernel_rfl) (by kernel_rfl) (fun _ _ _ h => h) (Or.inl ⟨by rfl, ?_⟩) hHeld ?_
            rotate_left
            · intro w' hSw; try dsimp only at hSw
              obtain ⟨y, _⟩ := hSw
              have y0 := y.cell' (i := 0) rfl; have y1 := y.cell' (i := 1) rfl
              go_simp; try (with_reducible rfl)
            try simp only [Act.put, List.getElem_toArray, List.getElem_cons_succ, List.getElem_cons_zero, List.setIfInBounds_toArray, List.set_cons_zero, List.set_cons_succ]
            refine wpAnyH_ready (rs := [6]) (by kernel_rfl) (by simp) ?_
            refine AllReadyH.cons rfl (fun K hK => ?_) AllReadyH.nil
            go_simp
            refine (isPlace_any _ _ _).mono ?_
            rintro e W7 ⟨rfl, hb7⟩
            try go_wp2_with fail
            refine hK.out _ _ ⟨hHeld.1.kept hb7, hHeld.2.kept hb7⟩ (fun hHeld => ?_)
            clear hK K
            try simp only [Act.put, List.getElem_toArray, List.getElem_cons_succ, List.getElem_cons_zero, List.setIfInBounds_toArray, List.set_cons_zero, List.set_cons_succ]
            replace hK2 := hK2.next hb7
            refine wpAnyH_take (i := 7) (v := ?_) rfl (by kernel_rfl) (by kernel_rfl) (by kernel_rfl) (fun _ _ _ h => h) (Or.inl ⟨by rfl, ?_⟩) hHeld ?_
            rotate_left
            · intro w' hSw; try dsimp only at hSw
              go_simp; try (with_reducible rfl)
            try simp only [Act.put, List.getElem_toArray, List.getElem_cons_succ, List.getElem_cons_zero, List.setIfInBounds_toArray, List.set_cons_zero, List.set_cons_succ]
            refine wpAnyH_ready (rs := [8]) (by kernel_rfl) (by simp) ?_
            refine AllReadyH.cons rfl (fun K hK => ?_) AllReadyH.nil
            rw [if_pos (by rfl)]
            refine wp_store_row 4 (.tmp 78) (.tmp 77) rfl gh j (.bool (isPl ⟨zh, zg⟩)) rfl rfl hK2.h (by omega) (by kernel_rfl) rfl ?_
            intro W8 hh8 ht8
            refine hK.out _ _ ⟨hHeld.1.turned ht8 (by have := hLie.hT; omega), hHeld.2.turned ht8 (by have := hLie.hT; omega)⟩ (fun hHeld => ?_)
            clear hK K
            try simp only [Act.put, List.getElem_toArray, List.getElem_cons_succ, List.getElem_cons_zero, List.setIfInBounds_toArray, List.set_cons_zero, List.set_cons_succ]
            have hK8 := hK2.turnH hLie j _ ht8 hh8
            refine wpAnyH_done (by kernel_rfl) ?_ _
            refine NoPanic.normal ?_
            go_wp2_with fail
            go_roundw
            case rel => exact ⟨_, _, .int .i64 ((k + 1 : Nat) : Int), ⟨k + 1, by omega, rfl, by rw [HV.out]; exact hK8⟩, rfl, rfl, by go_num⟩
            case measure => simp [intOf]; omega
          · obtain rfl : P = k := by omega
            go_wp2
            go_roundw
            case rel => exact ⟨b + 1, q, lq, cq, by omega, by go_num, rfl, by rw [HT'.out]; exact hK⟩
            case measure => simp [intOf]; omega
    · obtain rfl : L = b := by omega
      have hlq : lq ≤ 256 := by omega
      have z0 := hT.tab.cell' (i := 0) rfl; have z1 := hT.tab.cell' (i := 1) rfl; have z2 := hT.tab.cell' (i := 2) rfl; have z3 := hT.tab.cell' (i := 3) rfl; have z4 := hT.tab.cell' (i := 4) rfl; have z5 := hT.tab.cell' (i := 5) rfl; have z6 := hT.tab.cell' (i := 6) rfl; have z7 := hT.tab.cell' (i := 7) rfl; have z8 := hT.tab.cell' (i := 8) rfl
      go_wp2_with (guard_target = wpList _ _ _ (Oper.mk _ (Op.store 35 (Operand.tmp 8) _) _ _ _ _ :: _) _ _; refine wpList_store_blk rfl 35 (.tmp 8) (.tmp 88) rfl w.heap.size 0 (cells9 P L K n gd cd gh ch pl cl) rfl rfl hT.res (by exact Nat.le_refl _) (size9 _ _ _ _ _ _ _ _ _ _) (one9 _ _ _ _ _ _ _ _ _ _) ?_; intro W9 h9 ht9; rw [whole_row (by rfl)] at h9)
      exact ret_tab3 (V := ⟨some ⟨gd, 0, none⟩, L, cd, some ⟨gh, 0, none⟩, n, ch, pl, 0, cl⟩) (T := newT (P : Int) L K n) Try.results9 rfl h9 rfl rfl rfl (tabOutF_of hT hLie ht9 hl1 (by omega) (by omega) (by omega) rfl)
end Go.Proofs.Ytfgelncfmopibab

namespace Go.Proofs.Ytfgelncfmopibab
open Go.RowKit
theorem InB.turnedB {w w' : World} {g b o n c : Nat} {xs : List Bool} (h : InB w (some ⟨b, o, none⟩) n c xs) (ht : Turned w w' g) (hb : b ≠ g) : InB w' (some ⟨b, o, none⟩) n c xs := by
  refine ⟨h.len, h.cap, h.max, h.room, fun h0 => ?_, h.nil⟩
  obtain ⟨b', o', e, hl, hc⟩ := h.at' h0
  cases e
  exact ⟨b, o, rfl, by rw [ht.size]; exact hl, fun i hi => (World.cell?_of_block (a := ⟨b, o + i, none⟩) (ht.block b hb)).trans (hc i hi)⟩
theorem owns_slice6 {w : World} {B e n : Nat} {v : Value} {xs : List Value} (h : w.ownsRow B e 6 v n xs) : ∃ p c, v = .slice p n c := by
  rcases h.2 with ⟨rfl, h0⟩ | ⟨g, cap, cur, hv, _⟩
  · exact ⟨none, 0, by rw [h0]⟩
  · exact ⟨_, _, hv⟩
set_option linter.unusedSimpArgs false in
set_option maxRecDepth 100000 in
set_option maxHeartbeats 16000000 in
theorem back_main (P L n : Nat) (K sp sl su : Int) (bd od bh oh : Nat) (pl ps : Option Addr) (cd ch cl ns cs : Nat) (D S : List Int) (H : List Bool) (w : World) (hd : InI w (some ⟨bd, od, none⟩) L cd D) (hh : InB w (some ⟨bh, oh, none⟩) n ch H) (hs : InU w ps ns cs S)
    (hn2 : n ≤ 200) (hsp : sp < 0) (hok : okSz (P : Int) (L : Int) K = true) (HM : Hid (n = L * P))
    (hck : ∀ W, Below w.heap.size w W → Calls Try.prog 10 #[.agg #[.int .i64 (P : Int), .int .i64 (L : Int), .int .i64 K, .slice (some ⟨bd, od, none⟩) L cd, .slice (some ⟨bh, oh, none⟩) n ch, .int .i64 sp, .int .i64 sl, .int .i64 su, .slice pl 0 cl]] W fun e w' => RetI (Good (P : Int) (L : Int) K sp sl su D H []) e ∧ Below W.heap.size W w') :
    Calls Try.prog 4 #[.agg #[.int .i64 (P : Int), .int .i64 (L : Int), .int .i64 K, .slice (some ⟨bd, od, none⟩) L cd, .slice (some ⟨bh, oh, none⟩) n ch, .int .i64 sp, .int .i64 sl, .int .i64 su, .slice pl 0 cl], .slice ps ns cs] w fun e w' => e = .returned (.bool true) ∧ Below w.heap.size w w' := by
  have hLP : (L : Int) * (P : Int) = (n : Int) := by rw [HM.out]; exact (Int.natCast_mul L P).symm
  obtain ⟨⟨r1, r2⟩, ⟨r3, r4⟩, ⟨r5, r6⟩⟩ := okSz_iff.1 hok
  have hok1 : okSz (P : Int) (L : Int) 1 = true := okSz_iff.2 ⟨⟨r1, r2⟩, ⟨r3, r4⟩, by omega⟩
  have hnb := prod_bd ⟨r3, r4⟩ ⟨r1, r2⟩
  have hn4 : 4 ≤ n := by omega
  have hnI : (n : Int) ≤ 200 := by omega
  have hnI2 : ¬ 200 < (n : Int) := by omega
  have hsp2 : ¬ 0 ≤ sp := by omega
  have hPl := fun hg : Good (P : Int) (L : Int) K sp sl su D H [] => plain_of (n := n) hg hsp HM.out
  have hnR : newR (P : Int) (L : Int) (fdTo P D S H n) = placesOf (newestL (P : Int) n (fdTo P D S H n)) := by unfold newR; rw [hok1, hLP, Int.toNat_natCast]; rfl
  have hcln := fun W (hW : Below w.heap.size w W) => cloneR (P : Int) (L : Int) K sp sl su bd od bh oh pl L cd n ch cl D H W (hd.below hW) (hh.below hW) (by omega) (by omega) (by omega) (by omega)
  have htb := fun pn cn w hz => table_okF P L K n pn cn (zsOf P D H n) w hz hok HM
  have HNR : Hid (newR (P : Int) (L : Int) (fdTo P D S H n) = placesOf (newestL (P : Int) n (fdTo P D S H n))) := hnR
  clear hnR hok1 hnb
  have HOK : Hid (okSz (P : Int) (L : Int) K = true) := hok
  clear hok
  have hb0 := below_alloc w (.cells #[.int .i64 (P : Int), .int .i64 (L : Int), .int .i64 K, .slice (some ⟨bd, od, none⟩) L cd, .slice (some ⟨bh, oh, none⟩) n ch, .int .i64 sp, .int .i64 sl, .int .i64 su, .slice pl 0 cl] 35)
  have b2 := Blk.new' w 35 #[.int .i64 (P : Int), .int .i64 (L : Int), .int .i64 K, .slice (some ⟨bd, od, none⟩) L cd, .slice (some ⟨bh, oh, none⟩) n ch, .int .i64 sp, .int .i64 sl, .int .i64 su, .slice pl 0 cl]
  have hs0 : (w.alloc (.cells #[.int .i64 (P : Int), .int .i64 (L : Int), .int .i64 K, .slice (some ⟨bd, od, none⟩) L cd, .slice (some ⟨bh, oh, none⟩) n ch, .int .i64 sp, .int .i64 sl, .int .i64 su, .slice pl 0 cl] 35)).heap.size = w.heap.size + 1 := World.size_alloc _ _
  go_enter Try.func4, Try.ntmps4
  go_upto_region 1 with (fail)
  generalize w.alloc (.cells #[.int .i64 (P : Int), .int .i64 (L : Int), .int .i64 K, .slice (some ⟨bd, od, none⟩) L cd, .slice (some ⟨bh, oh, none⟩) n ch, .int .i64 sp, .int .i64 sl, .int .i64 su, .slice pl 0 cl] 35) = W0 at *
  have c0 := b2.cell' (i := 0) rfl; have c1 := b2.cell' (i := 1) rfl; have c2 := b2.cell' (i := 2) rfl; have c3 := b2.cell' (i := 3) rfl; have c4 := b2.cell' (i := 4) rfl; have c5 := b2.cell' (i := 5) rfl; have c6 := b2.cell' (i := 6) rfl; have c7 := b2.cell' (i := 7) rfl; have c8 := b2.cell' (i := 8) rfl
  go_upto_region 3 with (go_at_call 6; refine (live_any _).mono ?_; rintro e w1 ⟨rfl, hbn⟩; have hs1 := hbn.size; replace b2 := b2.kept hbn; replace hb0 := bt hb0 hbn; clear hbn c0 c1 c2 c3 c4 c5 c6 c7 c8; have c0 := b2.cell' (i := 0) rfl; have c1 := b2.cell' (i := 1) rfl; have c2 := b2.cell' (i := 2) rfl; have c3 := b2.cell' (i := 3) rfl; have c4 := b2.cell' (i := 4) rfl; have c5 := b2.cell' (i := 5) rfl; have c6 := b2.cell' (i := 6) rfl; have c7 := b2.cell' (i := 7) rfl; have c8 := b2.cell' (i := 8) rfl)
  go_wp2_with (first | (go_at_call 10; refine (hck _ hb0).mono ?_; rintro e w2 ⟨⟨x, rfl, hx⟩, hbn⟩; have hs2 := hbn.size; replace b2 := b2.kept hbn; replace hb0 := bt hb0 hbn; clear hbn c0 c1 c2 c3 c4 c5 c6 c7 c8; have c0 := b2.cell' (i := 0) rfl; have c1 := b2.cell' (i := 1) rfl; have c2 := b2.cell' (i := 2) rfl; have c3 := b2.cell' (i := 3) rfl; have c4 := b2.cell' (i := 4) rfl; have c5 := b2.cell' (i := 5) rfl; have c6 := b2.cell' (i := 6) rfl; have c7 := b2.cell' (i := 7) rfl; have c8 := b2.cell' (i := 8) rfl; rcases dec0 x with ⟨hne, _⟩ | rfl) | (go_at_call 13; refine (hcln _ hb0).mono ?_; rintro e w3 ⟨gD, cD, gH, cH, rfl, rD, rH, hbn⟩; have hs3 := hbn.size; replace b2 := b2.kept hbn; replace hb0 := bt hb0 hbn; clear hbn c0 c1 c2 c3 c4 c5 c6 c7 c8; have c0 := b2.cell' (i := 0) rfl; have c1 := b2.cell' (i := 1) rfl; have c2 := b2.cell' (i := 2) rfl; have c3 := b2.cell' (i := 3) rfl; have c4 := b2.cell' (i := 4) rfl; have c5 := b2.cell' (i := 5) rfl; have c6 := b2.cell' (i := 6) rfl; have c7 := b2.cell' (i := 7) rfl; have c8 := b2.cell' (i := 8) rfl) | (guard_target = wpList _ _ _ (Oper.mk _ (Op.store 35 (Operand.tmp 6) _) _ _ _ _ :: _) _ _; refine wpList_store_blk rfl 35 (.tmp 6) (.tmp 39) rfl w3.heap.size 0 [.int .i64 (P : Int), .int .i64 (L : Int), .int .i64 K, .slice (some ⟨gD, 0, none⟩) L cD, .slice (some ⟨gH, 0, none⟩) n cH, .int .i64 sp, .int .i64 sl, .int .i64 su, .slice none 0 0] rfl rfl (Blk.new' w3 35 #[.int .i64 0, .int .i64 0, .int .i64 0, .slice none 0 0, .slice none 0 0, .int .i64 0, .int .i64 0, .int .i64 0, .slice none 0 0]) (by exact Nat.le_refl _) (by show _ = some 9; kernel_rfl) (by simp [Value.oneCell']) ?_; intro W4 h4 ht4; rw [whole_row (by rfl)] at h4; have h40 := h4.cell' (i := 0) rfl; have h41 := h4.cell' (i := 1) rfl; have h42 := h4.cell' (i := 2) rfl; have h43 := h4.cell' (i := 3) rfl; have h44 := h4.cell' (i := 4) rfl; have h45 := h4.cell' (i := 5) rfl; have h46 := h4.cell' (i := 6) rfl; have h47 := h4.cell' (i := 7) rfl; have h48 := h4.cell' (i := 8) rfl))
  · go_ret
    exact ⟨rfl, hb0⟩
  have hG := hx trivial
  have hPn := hPl hG
  obtain ⟨rfl, rfl, rfl⟩ := hG.sq hsp
  have k4 : Below w3.heap.size w3 W4 := ht4.below (below_alloc w3 _) (Nat.le_refl _)
  have s4 : w3.heap.size < W4.heap.size := by rw [ht4.size, World.size_alloc]; omega
  have hgD := rD.lt gD rfl
  have hgH := rH.lt gH rfl
  have hneq : gD ≠ gH := by
    intro e
    subst e
    obtain ⟨c1', e1'⟩ := owns_has rD
    obtain ⟨c2', e2'⟩ := owns_has rH
    rw [e1'] at e2'
    cases e2'
  have hLie : BLie w W4 gD gH w3.heap.size := ⟨by omega, by omega, by omega, by omega, s4, hneq⟩
  have hB0 : BS w W4 W4 [.int .i64 (P : Int), .int .i64 (L : Int), .int .i64 K, .slice (some ⟨bd, od, none⟩) L cd, .slice (some ⟨bh, oh, none⟩) n ch, .int .i64 (-1), .int .i64 0, .int .i64 0, .slice pl 0 cl] [.int .i64 (P : Int), .int .i64 (L : Int), .int .i64 K, .slice (some ⟨gD, 0, none⟩) L cD, .slice (some ⟨gH, 0, none⟩) n cH, .int .i64 (-1), .int .i64 0, .int .i64 0, .slice none 0 0] L n gD cD gH cH w3.heap.size H (wantTo H P D 0) (fdTo P D S H (0 * P)) none 0 0 := ⟨b2.kept k4, h4, owns_low (owns_below rD k4) (by omega), owns_low (owns_below rH k4) (by omega), by rw [Nat.zero_mul]; exact ⟨rfl, .inl ⟨rfl, rfl⟩⟩, Nat.le_refl _, bt hb0 k4⟩
  obtain ⟨gT, HgT⟩ : ∃ g, g = w3.heap.size := ⟨_, rfl⟩
  rw [← HgT] at hLie hB0 ⊢
  have hrS : ∀ i, i < S.length → 0 ≤ eI S i ∧ eI S i < 65536 := fun i hi => hs.rng i (by rw [← hs.len]; exact hi)
  have hnew := newest_back (S := S) hPn (by omega) (by omega) hrS
  have hHNR := HNR.out.trans hnew
  have HNR2 : Hid (newR (P : Int) (L : Int) (fdTo P D S H n) = zsOf P D H n) := hHNR
  have htab := tab_back hPn
  rw [htab] at htb
  have hns := hs.room
  have hLI : (L : Int) ≤ 256 := r4
  have hPI : (P : Int) ≤ 32 := r2
  have hvP := hPn.hv
  clear hHNR hnew htab HgT k4 s4 hgD hgH hneq rD rH b2 h4 ht4 c0 c1 c2 c3 c4 c5 c6 c7 c8 h40 h41 h42 h43 h44 h45 h46 h47 h48 hx hck hcln hPl hs0 hs1 hs2 hs3 hb0 HNR hG
  go_loopw [5, 43] (fun v i wr => ∃ (b : Nat) (q : Option Addr) (lq cq : Nat), b ≤ L ∧ i = .int .i64 b ∧ v = .slice q lq cq ∧ BS w W4 wr [.int .i64 (P : Int), .int .i64 (L : Int), .int .i64 K, .slice (some ⟨bd, od, none⟩) L cd, .slice (some ⟨bh, oh, none⟩) n ch, .int .i64 (-1), .int .i64 0, .int .i64 0, .slice pl 0 cl] [.int .i64 (P : Int), .int .i64 (L : Int), .int .i64 K, .slice (some ⟨gD, 0, none⟩) L cD, .slice (some ⟨gH, 0, none⟩) n cH, .int .i64 (-1), .int .i64 0, .int .i64 0, .slice none 0 0] L n gD cD gH cH gT H (wantTo H P D b) (fdTo P D S H (b * P)) q lq cq) (fun _ i _ => L - (intOf i).toNat)
  case atStart => exact ⟨0, none, 0, 0, Nat.zero_le _, rfl, rfl, hB0⟩
  case round =>
    obtain ⟨b, q, lq, cq, hb, rfl, rfl, hB⟩ := hrel
    clear hB0
    by_cases hlt : b < L
    · have hbI : (b : Int) < (L : Int) := by omega
      obtain ⟨a, HA⟩ : ∃ a, Hid (a = b * P) := ⟨_, rfl⟩
      have hab : (b : Int) * (P : Int) = (a : Int) := by rw [HA.out]; exact (Int.natCast_mul b P).symm
      have haP : a + P ≤ n := by rw [HA.out, HM.out, ← Nat.succ_mul]; exact Nat.mul_le_mul_right P hlt
      have haI : (a : Int) ≤ 200 := by omega
      have HN1 : Hid (a + P = (b + 1) * P) := by show _ = _; rw [HA.out, Nat.succ_mul]
      rw [← HA.out] at hB
      have x0 := hB.arg.cell' (i := 0) rfl
      go_wp2
      clear x0
      go_loopw [5, 8, 48] (fun v s i wr => ∃ (o : Nat) (q : Option Addr) (lq cq : Nat), o ≤ P ∧ i = .int .i64 o ∧ s = .bool (someH H P b o) ∧ v = .slice q lq cq ∧ BS w W4 wr [.int .i64 (P : Int), .int .i64 (L : Int), .int .i64 K, .slice (some ⟨bd, od, none⟩) L cd, .slice (some ⟨bh, oh, none⟩) n ch, .int .i64 (-1), .int .i64 0, .int .i64 0, .slice pl 0 cl] [.int .i64 (P : Int), .int .i64 (L : Int), .int .i64 K, .slice (some ⟨gD, 0, none⟩) L cD, .slice (some ⟨gH, 0, none⟩) n cH, .int .i64 (-1), .int .i64 0, .int .i64 0, .slice none 0 0] L n gD cD gH cH gT H (wantTo H P D b) (fdTo P D S H (a + o)) q lq cq) (fun _ _ i _ => P - (intOf i).toNat)
      case atStart => exact ⟨0, q, lq, cq, Nat.zero_le _, rfl, rfl, rfl, hB⟩
      case round =>
        obtain ⟨o, q, lq, cq, ho, rfl, rfl, rfl, hC⟩ := hrel
        clear hB
        by_cases hol : o < P
        · have hoI : (o : Int) < (P : Int) := by omega
          obtain ⟨j, hj⟩ : ∃ j, j = a + o := ⟨_, rfl⟩
          have hjI : (a : Int) + (o : Int) = (j : Int) := by omega
          have hjn : (j : Int) < (n : Int) := by omega
          have hjb : (j : Int) ≤ 200 := by omega
          have hjN : j < n := by omega
          have hjd : Hid (j / P = b ∧ j % P = o) := by show _ ∧ _; rw [hj, HA.out]; exact div_of hol
          have HS1 : Hid (someH H P b (o + 1) = (someH H P b o || eB H j)) := by show (someH H P b o || eB H (b * P + o)) = _; rw [hj, HA.out]
          have HF1 : Hid (fdTo P D S H (a + (o + 1)) = if eB H j = true then fdTo P D S H j ++ [fdAt P D S j] else fdTo P D S H j) := by rw [show a + (o + 1) = j + 1 by omega]; rfl
          rw [← hj] at hC
          clear hj
          have hlq : lq ≤ 200 := by
            have h1 := hC.l.1
            rw [flatF_length] at h1
            have h2 := fdTo_length P D S H j
            omega
          have x0 := hC.arg.cell' (i := 0) rfl
          have x3 := hC.arg.cell' (i := 3) rfl
          have x4 := hC.arg.cell' (i := 4) rfl
          obtain ⟨b1, o1, e1, hbl1, hc1⟩ := (hh.below hC.bel).at' (by omega)
          cases e1
          have e0 := hc1 j hjN
          clear hc1
          generalize someH H P b o = so at *
          cases hv : eB H j with
          | false =>
            rw [hv] at e0
            have HS2 : Hid (someH H P b (o + 1) = so) := HS1.out.trans (by rw [hv, Bool.or_false])
            have HF2 : Hid (fdTo P D S H (a + (o + 1)) = fdTo P D S H j) := HF1.out.trans (by rw [hv]; rfl)
            clear HS1 HF1 hv
            go_wp2
            go_roundw
            case rel => exact ⟨o + 1, q, lq, cq, by omega, by go_num, by rw [HS2.out], rfl, by rw [HF2.out]; exact hC⟩
            case measure => simp [intOf]; omega
          | true =>
            rw [hv] at e0
            have HS2 : Hid (someH H P b (o + 1) = true) := HS1.out.trans (by rw [hv, Bool.or_true])
            have HF2 : Hid (fdTo P D S H (a + (o + 1)) = fdTo P D S H j ++ [fdAt P D S j]) := HF1.out.trans (by rw [hv]; rfl)
            clear HS1 HF1 hv
            obtain ⟨b3, o3, e3, hbl3, hc3⟩ := (hd.below hC.bel).at' (by omega)
            cases e3
            have e4 := hc3 b hlt
            clear hc3
            have HFA : Hid (fdAt P D S j = ⟨eI D b, (o : Int), 1, (j : Int), (j : Int) + 1 + addS S j, (j : Int) + 1 + addS S j + (b : Int)⟩) := by show _ = _; unfold fdAt; rw [hjd.out.1, hjd.out.2]
            generalize fdTo P D S H j = F at *
            generalize eI D b = dv at *
            have ba := below_alloc wr (.cells #[.int .i64 dv, .int .i64 (o : Int), .int .i64 1, .int .i64 (j : Int), .int .i64 ((j : Int) + 1), .int .i64 0] 50)
            have bb := Blk.new' wr 50 #[.int .i64 dv, .int .i64 (o : Int), .int .i64 1, .int .i64 (j : Int), .int .i64 ((j : Int) + 1), .int .i64 0]
            go_upto_region 18 with (fail)
            obtain ⟨gF, HgF⟩ : ∃ g, g = wr.heap.size := ⟨_, rfl⟩
            have hbF : Below wr.heap.size wr (wr.alloc (.cells #[.int .i64 dv, .int .i64 (o : Int), .int .i64 1, .int .i64 (j : Int), .int .i64 ((j : Int) + 1), .int .i64 0] 50)) := ba
            have hC5 := hC.next ba
            rw [← HgF] at bb ⊢
            have hgF : wr.heap.size ≤ gF := by omega
            generalize wr.alloc (.cells #[.int .i64 dv, .int .i64 (o : Int), .int .i64 1, .int .i64 (j : Int), .int .i64 ((j : Int) + 1), .int .i64 0] 50) = W5 at *
            clear ba x0 x3 x4 e0 e4 HgF
            obtain ⟨i0, hi, hz0, hz1, hz2⟩ := info_parts infoF
            by_cases hn0 : ns = 0
            · subst hn0
              have HAD : Hid (addS S j = 0) := by show _ = _; unfold addS; rw [hs.len]; rfl
              have hn0I : ¬ 0 < ((0 : Nat) : Int) := by omega
              have s := (j : Int) + 1
              go_upto_region 20 with (fail)
              obtain ⟨sv, Hsv⟩ : ∃ sv : Int, Hid ((j : Int) + 1 = sv) := ⟨_, rfl⟩
              have hsv1 : 0 ≤ sv ∧ sv ≤ 100000 := by rw [← Hsv.out]; omega
              have HSV : Hid ((j : Int) + 1 + addS S j = sv) := by show _ = _; rw [HAD.out, Int.add_zero]; exact Hsv.out
              rw [Hsv.out] at bb
              have v4 := bb.cell' (i := 4) rfl
              have v5 := bb.cell' (i := 5) rfl
              have f5 := bb.frozen 5
              have hbBI : (b : Int) ≤ 256 := by omega
              obtain ⟨hsv2, hsv3⟩ := hsv1
              go_upto_region 21 with (fail)
              have tn := Turned.setCell W5 ⟨gF, 5, none⟩ (.int .i64 (sv + (b : Int)))
              dsimp only at tn
              have bb6 := bb.set 5 (.int .i64 (sv + (b : Int)))
              have hb6 := tn.below hbF hgF
              have hC6 := hC.next hb6
              clear v4 v5 f5 tn bb hbF hC5
              generalize W5.setCell ⟨gF, 5, none⟩ (.int .i64 (sv + (b : Int))) = W6 at *
              dsimp only [List.set_cons_zero, List.set_cons_succ] at bb6
              have u0 := bb6.cell' (i := 0) rfl; have u1 := bb6.cell' (i := 1) rfl; have u2 := bb6.cell' (i := 2) rfl; have u3 := bb6.cell' (i := 3) rfl; have u4 := bb6.cell' (i := 4) rfl; have u5 := bb6.cell' (i := 5) rfl
              have HLIT : Hid ((fdAt P D S j).cells = [.int .i64 dv, .int .i64 (o : Int), .int .i64 1, .int .i64 (j : Int), .int .i64 sv, .int .i64 (sv + (b : Int))]) := by show _ = _; rw [HFA.out, HSV.out]; rfl
              have bl := Blk.new' W6 50 #[.int .i64 dv, .int .i64 (o : Int), .int .i64 1, .int .i64 (j : Int), .int .i64 sv, .int .i64 (sv + (b : Int))]
              have HW : Hid (W6.ownsRow W4.heap.size 50 6 (.slice q lq cq) lq (flatF F)) := hC6.l
              have hs6 := hC6.size
              go_wp2_with (at_builtin; refine wpList_append_own _ rfl (.tmp 99) (.tmp 101) 22 rfl W4.heap.size 50 i0 (.agg #[.int .i64 0, .int .i64 0, .int .i64 0, .int .i64 0, .int .i64 0, .int .i64 0]) 6 48 Try.underlying22 hi hz0 hz1 hz2 rfl (by decide) (.slice q lq cq) lq (flatF F) rfl (HW.out.alloc _) ⟨W6.heap.size, 0, none⟩ 1 1 [.int .i64 dv, .int .i64 (o : Int), .int .i64 1, .int .i64 (j : Int), .int .i64 sv, .int .i64 (sv + (b : Int))] rfl rfl (fun i u hu => by rw [addr_add, Nat.zero_add]; exact bl.cell' hu) (by simp [Value.oneCell']) (by unfold maxLen; omega) (by omega) (by rw [World.size_alloc]; omega) ?_; intro v1 w7 hown1 hgrow1 _; obtain ⟨q', cq', hv⟩ := owns_slice6 hown1; subst hv)
              go_roundw
              case rel =>
                rw [← HLIT.out] at hown1
                exact ⟨_, .bool true, _, _, _, .int .i64 ((o + 1 : Nat) : Int), ⟨o + 1, by omega, rfl, by rw [HS2.out], q', lq + 1, cq', rfl, by rw [HF2.out]; exact hC.app hLie (fdAt P D S j) (bt hb6 (below_alloc W6 _)) hown1 hgrow1⟩, rfl, rfl, rfl, rfl, rfl, by go_num⟩
              case measure => simp [intOf]; omega
            · obtain ⟨bs, os, rfl, hbs, hcs⟩ := hs.at' (by omega)
              obtain ⟨r, Hr⟩ : ∃ r, Hid (r = j % ns) := ⟨_, rfl⟩
              have hrl : r < ns := by rw [Hr.out]; exact Nat.mod_lt _ (by omega)
              have hrI : (r : Int) < (ns : Int) := by omega
              have hns0 : ¬ (ns : Int) = 0 := by omega
              have hns1 : 0 < (ns : Int) := by omega
              have hrem : (j : Int).tmod (ns : Int) = (r : Int) := by rw [Hr.out]; rfl
              have hmod : (j : Int) % (ns : Int) = (r : Int) := by rw [Hr.out]; rfl
              have hrg := hs.rng r hrl
              have c9 := hcs r hrl
              obtain ⟨sq, Hsq⟩ : ∃ sq : Nat, Hid (eI S r = (sq : Int)) := ⟨(eI S r).toNat, by show _ = _; omega⟩
              rw [Hsq.out] at hrg c9
              have HAD : Hid (addS S j = (sq : Int)) := by show _ = _; unfold addS; rw [hs.len, if_neg (by omega), ← Hr.out]; exact Hsq.out
              obtain ⟨sn, hsn⟩ : ∃ sn : Nat, sn = j + 1 + sq := ⟨_, rfl⟩
              have hsum : (j : Int) + 1 + (sq : Int) = (sn : Int) := by omega
              have hsb : sn ≤ 100000 := by omega
              have hw1 : IntKind.i64.wrap (sn : Int) = (sn : Int) := wrapN sn (by omega)
              have hw2 : IntKind.i64.wrap (sq : Int) = (sq : Int) := wrapN sq (by omega)
              have HSV : Hid ((j : Int) + 1 + addS S j = (sn : Int)) := by show _ = _; rw [HAD.out]; exact hsum
              have hsv1 : 0 ≤ (sn : Int) ∧ (sn : Int) ≤ 100000 := by omega
              clear hsn
              have e9 : W5.cell? ⟨bs, os + r, none⟩ = some (.int .u16 (sq : Int)) := (hC5.bel.cell (p := ⟨bs, os + r, none⟩) hbs).trans c9
              have hgF2 : bs ≠ gF := by have := hC.bel.size; omega
              clear hcs c9
              go_upto_region 19 with (fail)
              refine wp_region_noPanic ?_
              refine wp_region_held_drew (S := fun X => X.cell? ⟨bs, os + r, none⟩ = some (.int .u16 (sq : Int))) (by kernel_rfl) e9 (fun hHeld => ?_)
              replace bb := bb.drew
              replace hbF := hbF.drew
              clear e9 hC5
              generalize W5.drew = W5 at *
              refine wpAnyH_take (i := 0) (v := ?_) rfl (by kernel_rfl) (by kernel_rfl) (by kernel_rfl) (fun _ _ _ h => h) (Or.inl ⟨by rfl, ?_⟩) hHeld ?_
              rotate_left
              · intro w' hSw; try dsimp only at hSw
                go_simp; try (with_reducible rfl)
              try simp only [Act.put, List.getElem_toArray, List.getElem_cons_succ, List.getElem_cons_zero, List.setIfInBounds_toArray, List.set_cons_zero, List.set_cons_succ]
              refine wpAnyH_take (i := 1) (v := ?_) rfl (by kernel_rfl) (by kernel_rfl) (by kernel_rfl) (fun _ _ _ h => h) (Or.inl ⟨by rfl, ?_⟩) hHeld ?_
              rotate_left
              · intro w' hSw; try dsimp only at hSw
                go_simp; try (with_reducible rfl)
              try simp only [Act.put, List.getElem_toArray, List.getElem_cons_succ, List.getElem_cons_zero, List.setIfInBounds_toArray, List.set_cons_zero, List.set_cons_succ]
              refine wpAnyH_take (i := 3) (v := ?_) rfl (by kernel_rfl) (by kernel_rfl) (by kernel_rfl) (fun _ _ _ h => h) (Or.inl ⟨by rfl, ?_⟩) hHeld ?_
              rotate_left
              · intro w' hSw; try dsimp only at hSw
                go_simp; try (with_reducible rfl)
              try simp only [Act.put, List.getElem_toArray, List.getElem_cons_succ, List.getElem_cons_zero, List.setIfInBounds_toArray, List.set_cons_zero, List.set_cons_succ]
              refine wpAnyH_take (i := 4) (v := ?_) rfl (by kernel_rfl) (by kernel_rfl) (by kernel_rfl) (fun _ _ _ h => h) (Or.inl ⟨by rfl, ?_⟩) hHeld ?_
              rotate_left
              · intro w' hSw; try dsimp only at hSw
                go_simp; try (with_reducible rfl)
              try simp only [Act.put, List.getElem_toArray, List.getElem_cons_succ, List.getElem_cons_zero, List.setIfInBounds_toArray, List.set_cons_zero, List.set_cons_succ]
              refine wpAnyH_take (i := 5) (v := ?_) rfl (by kernel_rfl) (by kernel_rfl) (by kernel_rfl) (fun _ _ _ h => h) (Or.inl ⟨by rfl, ?_⟩) hHeld ?_
              rotate_left
              · intro w' hSw; try dsimp only at hSw
                go_simp; try (with_reducible rfl)
              try simp only [Act.put, List.getElem_toArray, List.getElem_cons_succ, List.getElem_cons_zero, List.setIfInBounds_toArray, List.set_cons_zero, List.set_cons_succ]
              refine wpAnyH_take (i := 6) (v := ?_) rfl (by kernel_rfl) (by kernel_rfl) (by kernel_rfl) (fun _ _ _ h => h) (Or.inl ⟨by rfl, ?_⟩) hHeld ?_
              rotate_left
              · intro w' hSw; try dsimp only at hSw
                go_simp; try (with_reducible rfl)
              try simp only [Act.put, List.getElem_toArray, List.getElem_cons_succ, List.getElem_cons_zero, List.setIfInBounds_toArray, List.set_cons_zero, List.set_cons_succ]
              refine wpAnyH_take (i := 7) (v := ?_) rfl (by kernel_rfl) (by kernel_rfl) (by kernel_rfl) (fun _ _ _ h => h) (Or.inl ⟨by rfl, ?_⟩) hHeld ?_
              rotate_left
              · intro w' hSw; try dsimp only at hSw
                go_simp; try (with_reducible rfl)
              try simp only [Act.put, List.getElem_toArray, List.getElem_cons_succ, List.getElem_cons_zero, List.setIfInBounds_toArray, List.set_cons_zero, List.set_cons_succ]
              refine wpAnyH_take (i := 8) (v := ?_) rfl (by kernel_rfl) (by kernel_rfl) (by kernel_rfl) (fun _ _ _ h => h) (Or.inl ⟨by rfl, ?_⟩) hHeld ?_
              rotate_left
              · intro w' hSw; try dsimp only at hSw
                go_simp; try (with_reducible rfl)
              try simp only [Act.put, List.getElem_toArray, List.getElem_cons_succ, List.getElem_cons_zero, List.setIfInBounds_toArray, List.set_cons_zero, List.set_cons_succ]
              refine wpAnyH_take (i := 9) (v := ?_) rfl (by kernel_rfl) (by kernel_rfl) (by kernel_rfl) (fun _ _ _ h => h) (Or.inl ⟨by rfl, ?_⟩) hHeld ?_
              rotate_left
              · intro w' hSw; try dsimp only at hSw
                go_simp; try (with_reducible rfl)
              try simp only [Act.put, List.getElem_toArray, List.getElem_cons_succ, List.getElem_cons_zero, List.setIfInBounds_toArray, List.set_cons_zero, List.set_cons_succ]
              refine wpAnyH_take (i := 10) (v := ?_) rfl (by kernel_rfl) (by kernel_rfl) (by kernel_rfl) (fun _ _ _ h => h) (Or.inl ⟨by rfl, ?_⟩) hHeld ?_
              rotate_left
              · intro w' hSw; try dsimp only at hSw
                go_simp; try (with_reducible rfl)
              try simp only [Act.put, List.getElem_toArray, List.getElem_cons_succ, List.getElem_cons_zero, List.setIfInBounds_toArray, List.set_cons_zero, List.set_cons_succ]
              refine wpAnyH_ready (rs := [2]) (by kernel_rfl) (by simp) ?_
              refine AllReadyH.cons rfl (fun K hK => ?_) AllReadyH.nil
              have v4 := bb.cell' (i := 4) rfl
              go_simp
              clear v4
              refine hK.out _ _ hHeld (fun hHeld => ?_)
              clear hK K
              try simp only [Act.put, List.getElem_toArray, List.getElem_cons_succ, List.getElem_cons_zero, List.setIfInBounds_toArray, List.set_cons_zero, List.set_cons_succ]
              refine wpAnyH_take (i := 11) (v := ?_) rfl (by kernel_rfl) (by kernel_rfl) (by kernel_rfl) (fun _ _ _ h => h) (Or.inl ⟨by rfl, ?_⟩) hHeld ?_
              rotate_left
              · intro w' hSw; try dsimp only at hSw
                go_simp; try (with_reducible rfl)
              try simp only [Act.put, List.getElem_toArray, List.getElem_cons_succ, List.getElem_cons_zero, List.setIfInBounds_toArray, List.set_cons_zero, List.set_cons_succ]
              refine wpAnyH_take (i := 12) (v := ?_) rfl (by kernel_rfl) (by kernel_rfl) (by kernel_rfl) (fun _ _ _ h => h) (Or.inl ⟨by rfl, ?_⟩) hHeld ?_
              rotate_left
              · intro w' hSw; try dsimp only at hSw
                go_simp; try (with_reducible rfl)
              try simp only [Act.put, List.getElem_toArray, List.getElem_cons_succ, List.getElem_cons_zero, List.setIfInBounds_toArray, List.set_cons_zero, List.set_cons_succ]
              refine wpAnyH_take (i := 13) (v := ?_) rfl (by kernel_rfl) (by kernel_rfl) (by kernel_rfl) (fun _ _ _ h => h) (Or.inl ⟨by rfl, ?_⟩) hHeld ?_
              rotate_left
              · intro w' hSw; try dsimp only at hSw
                go_simp; try (with_reducible rfl)
              try simp only [Act.put, List.getElem_toArray, List.getElem_cons_succ, List.getElem_cons_zero, List.setIfInBounds_toArray, List.set_cons_zero, List.set_cons_succ]
              refine wpAnyH_ready (rs := [14]) (by kernel_rfl) (by simp) ?_
              refine AllReadyH.cons rfl (fun K hK => ?_) AllReadyH.nil
              rw [if_pos (by rfl)]
              refine wp_store_cell 2 (.tmp 91) (.tmp 89) rfl gF 4 (.int .i64 (sn : Int)) rfl rfl bb (by exact (by decide : 4 < 6)) (by kernel_rfl) rfl ?_
              intro W8 hb8 ht8
              refine hK.out _ _ ((World.cell?_of_block (a := ⟨bs, os + r, none⟩) (ht8.block bs hgF2)).trans hHeld) (fun hHeld => ?_)
              clear hK K
              try simp only [Act.put, List.getElem_toArray, List.getElem_cons_succ, List.getElem_cons_zero, List.setIfInBounds_toArray, List.set_cons_zero, List.set_cons_succ]
              replace hbF := ht8.below hbF hgF
              have hC5 := hC.next hbF
              clear bb
              have bb := hb8
              dsimp only [List.set_cons_zero, List.set_cons_succ] at bb
              clear hb8 ht8
              refine wpAnyH_done (by kernel_rfl) ?_ _
              refine NoPanic.normal ?_
              go_upto_region 20 with (fail)
              obtain ⟨sv, Hsv⟩ : ∃ sv : Int, Hid ((sn : Int) = sv) := ⟨_, rfl⟩
              rw [Hsv.out] at bb HSV hsv1 ⊢
              have v4 := bb.cell' (i := 4) rfl
              have v5 := bb.cell' (i := 5) rfl
              have f5 := bb.frozen 5
              have hbBI : (b : Int) ≤ 256 := by omega
              obtain ⟨hsv2, hsv3⟩ := hsv1
              go_upto_region 21 with (fail)
              have tn := Turned.setCell W8 ⟨gF, 5, none⟩ (.int .i64 (sv + (b : Int)))
              dsimp only at tn
              have bb6 := bb.set 5 (.int .i64 (sv + (b : Int)))
              have hb6 := tn.below hbF hgF
              have hC6 := hC.next hb6
              clear v4 v5 f5 tn bb hbF hC5
              generalize W8.setCell ⟨gF, 5, none⟩ (.int .i64 (sv + (b : Int))) = W6 at *
              dsimp only [List.set_cons_zero, List.set_cons_succ] at bb6
              have u0 := bb6.cell' (i := 0) rfl; have u1 := bb6.cell' (i := 1) rfl; have u2 := bb6.cell' (i := 2) rfl; have u3 := bb6.cell' (i := 3) rfl; have u4 := bb6.cell' (i := 4) rfl; have u5 := bb6.cell' (i := 5) rfl
              have HLIT : Hid ((fdAt P D S j).cells = [.int .i64 dv, .int .i64 (o : Int), .int .i64 1, .int .i64 (j : Int), .int .i64 sv, .int .i64 (sv + (b : Int))]) := by show _ = _; rw [HFA.out, HSV.out]; rfl
              have bl := Blk.new' W6 50 #[.int .i64 dv, .int .i64 (o : Int), .int .i64 1, .int .i64 (j : Int), .int .i64 sv, .int .i64 (sv + (b : Int))]
              have HW : Hid (W6.ownsRow W4.heap.size 50 6 (.slice q lq cq) lq (flatF F)) := hC6.l
              have hs6 := hC6.size
              go_wp2_with (at_builtin; refine wpList_append_own _ rfl (.tmp 99) (.tmp 101) 22 rfl W4.heap.size 50 i0 (.agg #[.int .i64 0, .int .i64 0, .int .i64 0, .int .i64 0, .int .i64 0, .int .i64 0]) 6 48 Try.underlying22 hi hz0 hz1 hz2 rfl (by decide) (.slice q lq cq) lq (flatF F) rfl (HW.out.alloc _) ⟨W6.heap.size, 0, none⟩ 1 1 [.int .i64 dv, .int .i64 (o : Int), .int .i64 1, .int .i64 (j : Int), .int .i64 sv, .int .i64 (sv + (b : Int))] rfl rfl (fun i u hu => by rw [addr_add, Nat.zero_add]; exact bl.cell' hu) (by simp [Value.oneCell']) (by unfold maxLen; omega) (by omega) (by rw [World.size_alloc]; omega) ?_; intro v1 w7 hown1 hgrow1 _; obtain ⟨q', cq', hv⟩ := owns_slice6 hown1; subst hv)
              go_roundw
              case rel =>
                rw [← HLIT.out] at hown1
                exact ⟨_, .bool true, _, _, _, .int .i64 ((o + 1 : Nat) : Int), ⟨o + 1, by omega, rfl, by rw [HS2.out], q', lq + 1, cq', rfl, by rw [HF2.out]; exact hC.app hLie (fdAt P D S j) (bt hb6 (below_alloc W6 _)) hown1 hgrow1⟩, rfl, rfl, rfl, rfl, rfl, by go_num⟩
              case measure => simp [intOf]; omega
        · obtain rfl : P = o := by omega
          rw [HN1.out] at hC
          have y3 := hC.tab.cell' (i := 3) rfl
          cases hso : someH H P b P with
          | true =>
            have HW1 : Hid (wantTo H P D (b + 1) = wantTo H P D b) := by show (if someH H P b P = true then _ else _) = _; rw [hso]; rfl
            clear hso
            go_wp2
            go_roundw
            case rel => exact ⟨b + 1, q, lq, cq, by omega, by go_num, rfl, by rw [HW1.out]; exact hC⟩
            case measure => simp [intOf]; omega
          | false =>
            have HW1 : Hid (wantTo H P D (b + 1) = (wantTo H P D b).set b (-1)) := by show (if someH H P b P = true then _ else _) = _; rw [hso]; rfl
            clear hso
            have hwl : (wantTo H P D b).length = L := by rw [wantTo_length, hd.len]
            have hcd := hC.d.cellAt b (by omega)
            rw [valsI_get _ b (by omega)] at hcd
            have hfd := hC.d.frozenAt b
            have hC6 := hC.setD hLie b (-1)
            go_wp2
            go_roundw
            case rel => exact ⟨b + 1, q, lq, cq, by omega, by go_num, rfl, by rw [HW1.out]; exact hC6⟩
            case measure => simp [intOf]; omega
    · obtain rfl : L = b := by omega
      rw [← HM.out] at hB
      have hlq : lq ≤ 200 := by
        have h1 := hB.l.1
        rw [flatF_length] at h1
        have h2 := fdTo_length P D S H n
        omega
      obtain ⟨pF, cF, eF, hF⟩ := in_of_ownsF hB.l (by omega)
      cases eF
      obtain ⟨pW, cW, eW, hWD⟩ := in_of_ownsI hB.d (by omega)
      cases eW
      obtain ⟨pH, cHh, eH, hWH⟩ := in_of_ownsB hB.h (by omega)
      cases eH
      have hzl : (zsOf P D H n).length = n := by simp [zsOf]
      go_upto_region 26 with (fail)
      refine wp_region_noPanic ?_
      refine wp_region_held_drew (S := fun X => Below wr.heap.size wr X) (by kernel_rfl) ⟨rfl, rfl, rfl, Nat.le_refl _, fun _ _ => rfl⟩ (fun hHeld => ?_)
      generalize wr.drew = Y0 at *
      refine wpAnyH_take (i := 0) (v := ?_) rfl (by kernel_rfl) (by kernel_rfl) (by kernel_rfl) (fun _ _ _ h => h) (Or.inl ⟨by rfl, ?_⟩) hHeld ?_
      rotate_left
      · intro w' hSw; try dsimp only at hSw
        go_simp; try (with_reducible rfl)
      try simp only [Act.put, List.getElem_toArray, List.getElem_cons_succ, List.getElem_cons_zero, List.setIfInBounds_toArray, List.set_cons_zero, List.set_cons_succ]
      refine wpAnyH_take (i := 1) (v := ?_) rfl (by kernel_rfl) (by kernel_rfl) (by kernel_rfl) (fun _ _ _ h => h) (Or.inl ⟨by rfl, ?_⟩) hHeld ?_
      rotate_left
      · intro w' hSw; try dsimp only at hSw
        have y := hB.arg.kept hSw
        have y0 := y.cell' (i := 0) rfl; have y1 := y.cell' (i := 1) rfl; have y2 := y.cell' (i := 2) rfl
        go_simp; try (with_reducible rfl)
      try simp only [Act.put, List.getElem_toArray, List.getElem_cons_succ, List.getElem_cons_zero, List.setIfInBounds_toArray, List.set_cons_zero, List.set_cons_succ]
      refine wpAnyH_take (i := 2) (v := ?_) rfl (by kernel_rfl) (by kernel_rfl) (by kernel_rfl) (fun _ _ _ h => h) (Or.inl ⟨by rfl, ?_⟩) hHeld ?_
      rotate_left
      · intro w' hSw; try dsimp only at hSw
        go_simp; try (with_reducible rfl)
      try simp only [Act.put, List.getElem_toArray, List.getElem_cons_succ, List.getElem_cons_zero, List.setIfInBounds_toArray, List.set_cons_zero, List.set_cons_succ]
      refine wpAnyH_take (i := 3) (v := ?_) rfl (by kernel_rfl) (by kernel_rfl) (by kernel_rfl) (fun _ _ _ h => h) (Or.inl ⟨by rfl, ?_⟩) hHeld ?_
      rotate_left
      · intro w' hSw; try dsimp only at hSw
        have y := hB.arg.kept hSw
        have y0 := y.cell' (i := 0) rfl; have y1 := y.cell' (i := 1) rfl; have y2 := y.cell' (i := 2) rfl
        go_simp; try (with_reducible rfl)
      try simp only [Act.put, List.getElem_toArray, List.getElem_cons_succ, List.getElem_cons_zero, List.setIfInBounds_toArray, List.set_cons_zero, List.set_cons_succ]
      refine wpAnyH_take (i := 4) (v := ?_) rfl (by kernel_rfl) (by kernel_rfl) (by kernel_rfl) (fun _ _ _ h => h) (Or.inl ⟨by rfl, ?_⟩) hHeld ?_
      rotate_left
      · intro w' hSw; try dsimp only at hSw
        go_simp; try (with_reducible rfl)
      try simp only [Act.put, List.getElem_toArray, List.getElem_cons_succ, List.getElem_cons_zero, List.setIfInBounds_toArray, List.set_cons_zero, List.set_cons_succ]
      refine wpAnyH_take (i := 5) (v := ?_) rfl (by kernel_rfl) (by kernel_rfl) (by kernel_rfl) (fun _ _ _ h => h) (Or.inl ⟨by rfl, ?_⟩) hHeld ?_
      rotate_left
      · intro w' hSw; try dsimp only at hSw
        have y := hB.arg.kept hSw
        have y0 := y.cell' (i := 0) rfl; have y1 := y.cell' (i := 1) rfl; have y2 := y.cell' (i := 2) rfl
        go_simp; try (with_reducible rfl)
      try simp only [Act.put, List.getElem_toArray, List.getElem_cons_succ, List.getElem_cons_zero, List.setIfInBounds_toArray, List.set_cons_zero, List.set_cons_succ]
      refine wpAnyH_take (i := 6) (v := ?_) rfl (by kernel_rfl) (by kernel_rfl) (by kernel_rfl) (fun _ _ _ h => h) (Or.inl ⟨by rfl, ?_⟩) hHeld ?_
      rotate_left
      · intro w' hSw; try dsimp only at hSw
        go_simp; try (with_reducible rfl)
      try simp only [Act.put, List.getElem_toArray, List.getElem_cons_succ, List.getElem_cons_zero, List.setIfInBounds_toArray, List.set_cons_zero, List.set_cons_succ]
      refine wpAnyH_take (i := 7) (v := ?_) rfl (by kernel_rfl) (by kernel_rfl) (by kernel_rfl) (fun _ _ _ h => h) (Or.inl ⟨by rfl, ?_⟩) hHeld ?_
      rotate_left
      · intro w' hSw; try dsimp only at hSw
        have y := hB.arg.kept hSw
        have y0 := y.cell' (i := 0) rfl; have y1 := y.cell' (i := 1) rfl; have y2 := y.cell' (i := 2) rfl
        go_simp; try (with_reducible rfl)
      try simp only [Act.put, List.getElem_toArray, List.getElem_cons_succ, List.getElem_cons_zero, List.setIfInBounds_toArray, List.set_cons_zero, List.set_cons_succ]
      refine wpAnyH_take (i := 8) (v := ?_) rfl (by kernel_rfl) (by kernel_rfl) (by kernel_rfl) (fun _ _ _ h => h) (Or.inl ⟨by rfl, ?_⟩) hHeld ?_
      rotate_left
      · intro w' hSw; try dsimp only at hSw
        go_simp; try (with_reducible rfl)
      try simp only [Act.put, List.getElem_toArray, List.getElem_cons_succ, List.getElem_cons_zero, List.setIfInBounds_toArray, List.set_cons_zero, List.set_cons_succ]
      refine wpAnyH_take (i := 9) (v := ?_) rfl (by kernel_rfl) (by kernel_rfl) (by kernel_rfl) (fun _ _ _ h => h) (Or.inl ⟨by rfl, ?_⟩) hHeld ?_
      rotate_left
      · intro w' hSw; try dsimp only at hSw
        have y := hB.arg.kept hSw
        have y0 := y.cell' (i := 0) rfl; have y1 := y.cell' (i := 1) rfl; have y2 := y.cell' (i := 2) rfl
        go_simp; try (with_reducible rfl)
      try simp only [Act.put, List.getElem_toArray, List.getElem_cons_succ, List.getElem_cons_zero, List.setIfInBounds_toArray, List.set_cons_zero, List.set_cons_succ]
      refine wpAnyH_take (i := 10) (v := ?_) rfl (by kernel_rfl) (by kernel_rfl) (by kernel_rfl) (fun _ _ _ h => h) (Or.inl ⟨by rfl, ?_⟩) hHeld ?_
      rotate_left
      · intro w' hSw; try dsimp only at hSw
        go_simp; try (with_reducible rfl)
      try simp only [Act.put, List.getElem_toArray, List.getElem_cons_succ, List.getElem_cons_zero, List.setIfInBounds_toArray, List.set_cons_zero, List.set_cons_succ]
      refine wpAnyH_ready (rs := [11, 17]) (by kernel_rfl) (by simp) ?_
      refine AllReadyH.cons rfl (fun K hK => ?_) ?_
      · go_simp
        have hx1 := hF.below hHeld
        refine (newest_all (P : Int) (L : Int) _ _ _ _ _ hx1).mono ?_
        rintro e Y2 ⟨pn, mn, rfl, hzn, hbn⟩
        rw [HNR2.out] at hzn
        obtain rfl : n = mn := hzl.symm.trans hzn.len
        try go_wp2_with fail
        refine hK.out _ _ (bt hHeld hbn) (fun hHeld => ?_)
        clear hK K
        try simp only [Act.put, List.getElem_toArray, List.getElem_cons_succ, List.getElem_cons_zero, List.setIfInBounds_toArray, List.set_cons_zero, List.set_cons_succ]
        refine wpAnyH_ready (rs := [12, 17]) (by kernel_rfl) (by simp) ?_
        refine AllReadyH.cons rfl (fun K hK => ?_) ?_
        · go_simp
          have hgN : Y2.heap.size ≤ Y2.heap.size := Nat.le_refl _
          refine (htb pn _ _ hzn).mono ?_
          rintro e Y3 ⟨⟨gd', cd', gh', ch', pl', cl', ql, cql, rfl, i1, i2, i3, i4, i5⟩, hbt⟩
          try go_wp2_with fail
          refine hK.out _ _ (bt hHeld hbt) (fun hHeld => ?_)
          clear hK K
          try simp only [Act.put, List.getElem_toArray, List.getElem_cons_succ, List.getElem_cons_zero, List.setIfInBounds_toArray, List.set_cons_zero, List.set_cons_succ]
          obtain ⟨_, _, e8, hgdl, _⟩ := i1.at' (by omega)
          cases e8
          obtain ⟨_, _, e8, hghl, _⟩ := i2.at' (by omega)
          cases e8
          refine wpAnyH_take (i := 13) (v := ?_) rfl (by kernel_rfl) (by kernel_rfl) (by kernel_rfl) (fun _ _ _ h => h) (Or.inl ⟨by rfl, ?_⟩) hHeld ?_
          rotate_left
          · intro w' hSw; try dsimp only at hSw
            go_simp; try (with_reducible rfl)
          try simp only [Act.put, List.getElem_toArray, List.getElem_cons_succ, List.getElem_cons_zero, List.setIfInBounds_toArray, List.set_cons_zero, List.set_cons_succ]
          refine wpAnyH_take (i := 14) (v := ?_) rfl (by kernel_rfl) (by kernel_rfl) (by kernel_rfl) (fun _ _ _ h => h) (Or.inl ⟨by rfl, ?_⟩) hHeld ?_
          rotate_left
          · intro w' hSw; try dsimp only at hSw
            go_simp; try (with_reducible rfl)
          try simp only [Act.put, List.getElem_toArray, List.getElem_cons_succ, List.getElem_cons_zero, List.setIfInBounds_toArray, List.set_cons_zero, List.set_cons_succ]
          refine wpAnyH_take (i := 15) (v := ?_) rfl (by kernel_rfl) (by kernel_rfl) (by kernel_rfl) (fun _ _ _ h => h) (Or.inl ⟨by rfl, ?_⟩) hHeld ?_
          rotate_left
          · intro w' hSw; try dsimp only at hSw
            go_simp; try (with_reducible rfl)
          try simp only [Act.put, List.getElem_toArray, List.getElem_cons_succ, List.getElem_cons_zero, List.setIfInBounds_toArray, List.set_cons_zero, List.set_cons_succ]
          refine wpAnyH_take (i := 16) (v := ?_) rfl (by kernel_rfl) (by kernel_rfl) (by kernel_rfl) (fun _ _ _ h => h) (Or.inl ⟨by rfl, ?_⟩) hHeld ?_
          rotate_left
          · intro w' hSw; try dsimp only at hSw
            go_simp; try (with_reducible rfl)
          try simp only [Act.put, List.getElem_toArray, List.getElem_cons_succ, List.getElem_cons_zero, List.setIfInBounds_toArray, List.set_cons_zero, List.set_cons_succ]
          refine wpAnyH_ready (rs := [17]) (by kernel_rfl) (by simp) ?_
          refine AllReadyH.cons rfl (fun K hK => ?_) AllReadyH.nil
          go_simp
          have hHeld0 := hHeld
          have i1b := i1.below (below_alloc Y3 (.cells #[.int .i64 0, .int .i64 0, .int .i64 0, .slice none 0 0, .slice none 0 0, .int .i64 0, .int .i64 0, .int .i64 0, .slice none 0 0] 35))
          have i2b := i2.below (below_alloc Y3 (.cells #[.int .i64 0, .int .i64 0, .int .i64 0, .slice none 0 0, .slice none 0 0, .int .i64 0, .int .i64 0, .int .i64 0, .slice none 0 0] 35))
          refine hK.out _ _ (bt hHeld (below_alloc _ _)) (fun hHeld => ?_)
          clear hK K
          try simp only [Act.put, List.getElem_toArray, List.getElem_cons_succ, List.getElem_cons_zero, List.setIfInBounds_toArray, List.set_cons_zero, List.set_cons_succ]
          have bN := Blk.new' Y3 35 #[.int .i64 0, .int .i64 0, .int .i64 0, .slice none 0 0, .slice none 0 0, .int .i64 0, .int .i64 0, .int .i64 0, .slice none 0 0]
          obtain ⟨g12, Hg12⟩ : ∃ g, g = Y3.heap.size := ⟨_, rfl⟩
          rw [← Hg12] at bN ⊢
          have hg12 : wr.heap.size ≤ g12 ∧ Y3.heap.size ≤ g12 := ⟨by rw [Hg12]; exact hHeld0.size, by omega⟩
          clear Hg12
          generalize Y3.alloc (.cells #[.int .i64 0, .int .i64 0, .int .i64 0, .slice none 0 0, .slice none 0 0, .int .i64 0, .int .i64 0, .int .i64 0, .slice none 0 0] 35) = Y3b at *
          have hg13 := hg12.2
          replace hg12 := hg12.1
          replace i1 := i1b
          replace i2 := i2b
          have hgd : gd' ≠ g12 := by omega
          have hgh : gh' ≠ g12 := by omega
          refine wpAnyH_ready (rs := [18]) (by kernel_rfl) (by simp) ?_
          refine AllReadyH.cons rfl (fun K hK => ?_) AllReadyH.nil
          rw [if_pos (by rfl)]
          refine wp_store_blk 35 (.tmp 12) (.tmp 125) rfl g12 0 (cells9 P L _ n gd' cd' gh' ch' pl' cl') rfl rfl bN (by exact Nat.le_refl _) (size9 _ _ _ _ _ _ _ _ _ _) (one9 _ _ _ _ _ _ _ _ _ _) ?_
          intro Y9 h12 ht12
          rw [whole_row (by rfl)] at h12
          refine hK.out _ _ (ht12.below hHeld hg12) (fun hHeld => ?_)
          clear hK K
          try simp only [Act.put, List.getElem_toArray, List.getElem_cons_succ, List.getElem_cons_zero, List.setIfInBounds_toArray, List.set_cons_zero, List.set_cons_succ]
          refine wpAnyH_take (i := 19) (v := ?_) rfl (by kernel_rfl) (by kernel_rfl) (by kernel_rfl) (fun _ _ _ h => h) (Or.inl ⟨by rfl, ?_⟩) hHeld ?_
          rotate_left
          · intro w' hSw; try dsimp only at hSw
            go_simp; try (with_reducible rfl)
          try simp only [Act.put, List.getElem_toArray, List.getElem_cons_succ, List.getElem_cons_zero, List.setIfInBounds_toArray, List.set_cons_zero, List.set_cons_succ]
          refine wpAnyH_take (i := 20) (v := ?_) rfl (by kernel_rfl) (by kernel_rfl) (by kernel_rfl) (fun _ _ _ h => h) (Or.inl ⟨by rfl, ?_⟩) hHeld ?_
          rotate_left
          · intro w' hSw; try dsimp only at hSw
            go_simp; try (with_reducible rfl)
          try simp only [Act.put, List.getElem_toArray, List.getElem_cons_succ, List.getElem_cons_zero, List.setIfInBounds_toArray, List.set_cons_zero, List.set_cons_succ]
          have j1 : InI Y9 (some ⟨gd', 0, none⟩) L cd' (wantTo H P D L) := i1.turnedI ht12 hgd
          have j2 : InB Y9 (some ⟨gh', 0, none⟩) n ch' H := i2.turnedB ht12 hgh
          have m1 := hWD.below hHeld
          have m2 := hWH.below hHeld
          have t6 := hB.tab.kept hHeld
          have q12 : Blk Y9 g12 35 [.int .i64 (P : Int), .int .i64 (L : Int), .int .i64 K, .slice (some ⟨gd', 0, none⟩) L cd', .slice (some ⟨gh', 0, none⟩) n ch', .int .i64 (-1), .int .i64 0, .int .i64 0, .slice pl' 0 cl'] := h12
          have a0 := q12.cell' (i := 0) rfl; have a1 := q12.cell' (i := 1) rfl; have a2 := q12.cell' (i := 2) rfl; have a3 := q12.cell' (i := 3) rfl; have a4 := q12.cell' (i := 4) rfl; have a5 := q12.cell' (i := 5) rfl; have a6 := q12.cell' (i := 6) rfl; have a7 := q12.cell' (i := 7) rfl; have a8 := q12.cell' (i := 8) rfl
          have b0 := t6.cell' (i := 0) rfl; have b1 := t6.cell' (i := 1) rfl; have b2 := t6.cell' (i := 2) rfl; have b3 := t6.cell' (i := 3) rfl; have b4 := t6.cell' (i := 4) rfl; have b5 := t6.cell' (i := 5) rfl; have b6 := t6.cell' (i := 6) rfl; have b7 := t6.cell' (i := 7) rfl; have b8 := t6.cell' (i := 8) rfl
          refine wpAnyH_done (by kernel_rfl) ?_ _
          refine NoPanic.normal ?_
          go_wp2_with (go_at_call 14; refine (same_yes (P : Int) (L : Int) K (-1) 0 0 _ _ _ _ _ _ _ _ _ _ _ _ _ _ _ _ _ j1 m1 j2 m2).mono ?_; rintro e YF ⟨rfl, hbY⟩)
          go_ret
          exact ⟨rfl, bt (bt hB.bel hHeld) hbY⟩
        refine AllReadyH.cons rfl (fun K hK => ?_) AllReadyH.nil
        go_simp
        have hHeld0 := hHeld
        have hzn2 := hzn.below (below_alloc Y2 (.cells #[.int .i64 0, .int .i64 0, .int .i64 0, .slice none 0 0, .slice none 0 0, .int .i64 0, .int .i64 0, .int .i64 0, .slice none 0 0] 35))
        refine hK.out _ _ (bt hHeld (below_alloc _ _)) (fun hHeld => ?_)
        clear hK K
        try simp only [Act.put, List.getElem_toArray, List.getElem_cons_succ, List.getElem_cons_zero, List.setIfInBounds_toArray, List.set_cons_zero, List.set_cons_succ]
        have bN := Blk.new' Y2 35 #[.int .i64 0, .int .i64 0, .int .i64 0, .slice none 0 0, .slice none 0 0, .int .i64 0, .int .i64 0, .int .i64 0, .slice none 0 0]
        obtain ⟨g12, Hg12⟩ : ∃ g, g = Y2.heap.size := ⟨_, rfl⟩
        rw [← Hg12] at bN ⊢
        have hg12 : wr.heap.size ≤ g12 ∧ g12 < (Y2.alloc (.cells #[.int .i64 0, .int .i64 0, .int .i64 0, .slice none 0 0, .slice none 0 0, .int .i64 0, .int .i64 0, .int .i64 0, .slice none 0 0] 35)).heap.size := by rw [World.size_alloc]; exact ⟨by rw [Hg12]; exact hHeld0.size, by omega⟩
        clear Hg12
        generalize Y2.alloc (.cells #[.int .i64 0, .int .i64 0, .int .i64 0, .slice none 0 0, .slice none 0 0, .int .i64 0, .int .i64 0, .int .i64 0, .slice none 0 0] 35) = Y2b at *
        have hg13 := hg12.2
        replace hg12 := hg12.1
        replace hzn := hzn2
        refine wpAnyH_ready (rs := [12]) (by kernel_rfl) (by simp) ?_
        refine AllReadyH.cons rfl (fun K hK => ?_) AllReadyH.nil
        go_simp
        have hgN : Y2b.heap.size ≤ Y2b.heap.size := Nat.le_refl _
        refine (htb pn _ _ hzn).mono ?_
        rintro e Y3 ⟨⟨gd', cd', gh', ch', pl', cl', ql, cql, rfl, i1, i2, i3, i4, i5⟩, hbt⟩
        try go_wp2_with fail
        refine hK.out _ _ (bt hHeld hbt) (fun hHeld => ?_)
        clear hK K
        try simp only [Act.put, List.getElem_toArray, List.getElem_cons_succ, List.getElem_cons_zero, List.setIfInBounds_toArray, List.set_cons_zero, List.set_cons_succ]
        replace bN := bN.kept hbt
        have hgd : gd' ≠ g12 := by omega
        have hgh : gh' ≠ g12 := fun e => by subst e; obtain ⟨b9, o9, e9, _, c9⟩ := i2.at' (by omega); cases e9; have := c9 0 (by omega); rw [bN.cell' (i := 0) rfl] at this; cases this
        refine wpAnyH_take (i := 13) (v := ?_) rfl (by kernel_rfl) (by kernel_rfl) (by kernel_rfl) (fun _ _ _ h => h) (Or.inl ⟨by rfl, ?_⟩) hHeld ?_
        rotate_left
        · intro w' hSw; try dsimp only at hSw
          go_simp; try (with_reducible rfl)
        try simp only [Act.put, List.getElem_toArray, List.getElem_cons_succ, List.getElem_cons_zero, List.setIfInBounds_toArray, List.set_cons_zero, List.set_cons_succ]
        refine wpAnyH_take (i := 14) (v := ?_) rfl (by kernel_rfl) (by kernel_rfl) (by kernel_rfl) (fun _ _ _ h => h) (Or.inl ⟨by rfl, ?_⟩) hHeld ?_
        rotate_left
        · intro w' hSw; try dsimp only at hSw
          go_simp; try (with_reducible rfl)
        try simp only [Act.put, List.getElem_toArray, List.getElem_cons_succ, List.getElem_cons_zero, List.setIfInBounds_toArray, List.set_cons_zero, List.set_cons_succ]
        refine wpAnyH_take (i := 15) (v := ?_) rfl (by kernel_rfl) (by kernel_rfl) (by kernel_rfl) (fun _ _ _ h => h) (Or.inl ⟨by rfl, ?_⟩) hHeld ?_
        rotate_left
        · intro w' hSw; try dsimp only at hSw
          go_simp; try (with_reducible rfl)
        try simp only [Act.put, List.getElem_toArray, List.getElem_cons_succ, List.getElem_cons_zero, List.setIfInBounds_toArray, List.set_cons_zero, List.set_cons_succ]
        refine wpAnyH_take (i := 16) (v := ?_) rfl (by kernel_rfl) (by kernel_rfl) (by kernel_rfl) (fun _ _ _ h => h) (Or.inl ⟨by rfl, ?_⟩) hHeld ?_
        rotate_left
        · intro w' hSw; try dsimp only at hSw
          go_simp; try (with_reducible rfl)
        try simp only [Act.put, List.getElem_toArray, List.getElem_cons_succ, List.getElem_cons_zero, List.setIfInBounds_toArray, List.set_cons_zero, List.set_cons_succ]
        refine wpAnyH_ready (rs := [18]) (by kernel_rfl) (by simp) ?_
        refine AllReadyH.cons rfl (fun K hK => ?_) AllReadyH.nil
        rw [if_pos (by rfl)]
        refine wp_store_blk 35 (.tmp 12) (.tmp 125) rfl g12 0 (cells9 P L _ n gd' cd' gh' ch' pl' cl') rfl rfl bN (by exact Nat.le_refl _) (size9 _ _ _ _ _ _ _ _ _ _) (one9 _ _ _ _ _ _ _ _ _ _) ?_
        intro Y9 h12 ht12
        rw [whole_row (by rfl)] at h12
        refine hK.out _ _ (ht12.below hHeld hg12) (fun hHeld => ?_)
        clear hK K
        try simp only [Act.put, List.getElem_toArray, List.getElem_cons_succ, List.getElem_cons_zero, List.setIfInBounds_toArray, List.set_cons_zero, List.set_cons_succ]
        refine wpAnyH_take (i := 19) (v := ?_) rfl (by kernel_rfl) (by kernel_rfl) (by kernel_rfl) (fun _ _ _ h => h) (Or.inl ⟨by rfl, ?_⟩) hHeld ?_
        rotate_left
        · intro w' hSw; try dsimp only at hSw
          go_simp; try (with_reducible rfl)
        try simp only [Act.put, List.getElem_toArray, List.getElem_cons_succ, List.getElem_cons_zero, List.setIfInBounds_toArray, List.set_cons_zero, List.set_cons_succ]
        refine wpAnyH_take (i := 20) (v := ?_) rfl (by kernel_rfl) (by kernel_rfl) (by kernel_rfl) (fun _ _ _ h => h) (Or.inl ⟨by rfl, ?_⟩) hHeld ?_
        rotate_left
        · intro w' hSw; try dsimp only at hSw
          go_simp; try (with_reducible rfl)
        try simp only [Act.put, List.getElem_toArray, List.getElem_cons_succ, List.getElem_cons_zero, List.setIfInBounds_toArray, List.set_cons_zero, List.set_cons_succ]
        have j1 : InI Y9 (some ⟨gd', 0, none⟩) L cd' (wantTo H P D L) := i1.turnedI ht12 hgd
        have j2 : InB Y9 (some ⟨gh', 0, none⟩) n ch' H := i2.turnedB ht12 hgh
        have m1 := hWD.below hHeld
        have m2 := hWH.below hHeld
        have t6 := hB.tab.kept hHeld
        have q12 : Blk Y9 g12 35 [.int .i64 (P : Int), .int .i64 (L : Int), .int .i64 K, .slice (some ⟨gd', 0, none⟩) L cd', .slice (some ⟨gh', 0, none⟩) n ch', .int .i64 (-1), .int .i64 0, .int .i64 0, .slice pl' 0 cl'] := h12
        have a0 := q12.cell' (i := 0) rfl; have a1 := q12.cell' (i := 1) rfl; have a2 := q12.cell' (i := 2) rfl; have a3 := q12.cell' (i := 3) rfl; have a4 := q12.cell' (i := 4) rfl; have a5 := q12.cell' (i := 5) rfl; have a6 := q12.cell' (i := 6) rfl; have a7 := q12.cell' (i := 7) rfl; have a8 := q12.cell' (i := 8) rfl
        have b0 := t6.cell' (i := 0) rfl; have b1 := t6.cell' (i := 1) rfl; have b2 := t6.cell' (i := 2) rfl; have b3 := t6.cell' (i := 3) rfl; have b4 := t6.cell' (i := 4) rfl; have b5 := t6.cell' (i := 5) rfl; have b6 := t6.cell' (i := 6) rfl; have b7 := t6.cell' (i := 7) rfl; have b8 := t6.cell' (i := 8) rfl
        refine wpAnyH_done (by kernel_rfl) ?_ _
        refine NoPanic.normal ?_
        go_wp2_with (go_at_call 14; refine (same_yes (P : Int) (L : Int) K (-1) 0 0 _ _ _ _ _ _ _ _ _ _ _ _ _ _ _ _ _ j1 m1 j2 m2).mono ?_; rintro e YF ⟨rfl, hbY⟩)
        go_ret
        exact ⟨rfl, bt (bt hB.bel hHeld) hbY⟩
      refine AllReadyH.cons rfl (fun K hK => ?_) AllReadyH.nil
      go_simp
      have hHeld0 := hHeld
      refine hK.out _ _ (bt hHeld (below_alloc _ _)) (fun hHeld => ?_)
      clear hK K
      try simp only [Act.put, List.getElem_toArray, List.getElem_cons_succ, List.getElem_cons_zero, List.setIfInBounds_toArray, List.set_cons_zero, List.set_cons_succ]
      have bN := Blk.new' Y0 35 #[.int .i64 0, .int .i64 0, .int .i64 0, .slice none 0 0, .slice none 0 0, .int .i64 0, .int .i64 0, .int .i64 0, .slice none 0 0]
      obtain ⟨g12, Hg12⟩ : ∃ g, g = Y0.heap.size := ⟨_, rfl⟩
      rw [← Hg12] at bN ⊢
      have hg12 : wr.heap.size ≤ g12 ∧ g12 < (Y0.alloc (.cells #[.int .i64 0, .int .i64 0, .int .i64 0, .slice none 0 0, .slice none 0 0, .int .i64 0, .int .i64 0, .int .i64 0, .slice none 0 0] 35)).heap.size := by rw [World.size_alloc]; exact ⟨by rw [Hg12]; exact hHeld0.size, by omega⟩
      clear Hg12
      generalize Y0.alloc (.cells #[.int .i64 0, .int .i64 0, .int .i64 0, .slice none 0 0, .slice none 0 0, .int .i64 0, .int .i64 0, .int .i64 0, .slice none 0 0] 35) = Y1 at *
      have hg13 := hg12.2
      replace hg12 := hg12.1
      refine wpAnyH_ready (rs := [11]) (by kernel_rfl) (by simp) ?_
      refine AllReadyH.cons rfl (fun K hK => ?_) AllReadyH.nil
      go_simp
      have hx1 := hF.below hHeld
      refine (newest_all (P : Int) (L : Int) _ _ _ _ _ hx1).mono ?_
      rintro e Y2 ⟨pn, mn, rfl, hzn, hbn⟩
      rw [HNR2.out] at hzn
      obtain rfl : n = mn := hzl.symm.trans hzn.len
      try go_wp2_with fail
      refine hK.out _ _ (bt hHeld hbn) (fun hHeld => ?_)
      clear hK K
      try simp only [Act.put, List.getElem_toArray, List.getElem_cons_succ, List.getElem_cons_zero, List.setIfInBounds_toArray, List.set_cons_zero, List.set_cons_succ]
      replace bN := bN.kept hbn
      have hs12 := hbn.size
      refine wpAnyH_ready (rs := [12]) (by kernel_rfl) (by simp) ?_
      refine AllReadyH.cons rfl (fun K hK => ?_) AllReadyH.nil
      go_simp
      have hgN : Y2.heap.size ≤ Y2.heap.size := Nat.le_refl _
      refine (htb pn _ _ hzn).mono ?_
      rintro e Y3 ⟨⟨gd', cd', gh', ch', pl', cl', ql, cql, rfl, i1, i2, i3, i4, i5⟩, hbt⟩
      try go_wp2_with fail
      refine hK.out _ _ (bt hHeld hbt) (fun hHeld => ?_)
      clear hK K
      try simp only [Act.put, List.getElem_toArray, List.getElem_cons_succ, List.getElem_cons_zero, List.setIfInBounds_toArray, List.set_cons_zero, List.set_cons_succ]
      replace bN := bN.kept hbt
      have hgd : gd' ≠ g12 := by omega
      have hgh : gh' ≠ g12 := fun e => by subst e; obtain ⟨b9, o9, e9, _, c9⟩ := i2.at' (by omega); cases e9; have := c9 0 (by omega); rw [bN.cell' (i := 0) rfl] at this; cases this
      refine wpAnyH_take (i := 13) (v := ?_) rfl (by kernel_rfl) (by kernel_rfl) (by kernel_rfl) (fun _ _ _ h => h) (Or.inl ⟨by rfl, ?_⟩) hHeld ?_
      rotate_left
      · intro w' hSw; try dsimp only at hSw
        go_simp; try (with_reducible rfl)
      try simp only [Act.put, List.getElem_toArray, List.getElem_cons_succ, List.getElem_cons_zero, List.setIfInBounds_toArray, List.set_cons_zero, List.set_cons_succ]
      refine wpAnyH_take (i := 14) (v := ?_) rfl (by kernel_rfl) (by kernel_rfl) (by kernel_rfl) (fun _ _ _ h => h) (Or.inl ⟨by rfl, ?_⟩) hHeld ?_
      rotate_left
      · intro w' hSw; try dsimp only at hSw
        go_simp; try (with_reducible rfl)
      try simp only [Act.put, List.getElem_toArray, List.getElem_cons_succ, List.getElem_cons_zero, List.setIfInBounds_toArray, List.set_cons_zero, List.set_cons_succ]
      refine wpAnyH_take (i := 15) (v := ?_) rfl (by kernel_rfl) (by kernel_rfl) (by kernel_rfl) (fun _ _ _ h => h) (Or.inl ⟨by rfl, ?_⟩) hHeld ?_
      rotate_left
      · intro w' hSw; try dsimp only at hSw
        go_simp; try (with_reducible rfl)
      try simp only [Act.put, List.getElem_toArray, List.getElem_cons_succ, List.getElem_cons_zero, List.setIfInBounds_toArray, List.set_cons_zero, List.set_cons_succ]
      refine wpAnyH_take (i := 16) (v := ?_) rfl (by kernel_rfl) (by kernel_rfl) (by kernel_rfl) (fun _ _ _ h => h) (Or.inl ⟨by rfl, ?_⟩) hHeld ?_
      rotate_left
      · intro w' hSw; try dsimp only at hSw
        go_simp; try (with_reducible rfl)
      try simp only [Act.put, List.getElem_toArray, List.getElem_cons_succ, List.getElem_cons_zero, List.setIfInBounds_toArray, List.set_cons_zero, List.set_cons_succ]
      refine wpAnyH_ready (rs := [18]) (by kernel_rfl) (by simp) ?_
      refine AllReadyH.cons rfl (fun K hK => ?_) AllReadyH.nil
      rw [if_pos (by rfl)]
      refine wp_store_blk 35 (.tmp 12) (.tmp 125) rfl g12 0 (cells9 P L _ n gd' cd' gh' ch' pl' cl') rfl rfl bN (by exact Nat.le_refl _) (size9 _ _ _ _ _ _ _ _ _ _) (one9 _ _ _ _ _ _ _ _ _ _) ?_
      intro Y9 h12 ht12
      rw [whole_row (by rfl)] at h12
      refine hK.out _ _ (ht12.below hHeld hg12) (fun hHeld => ?_)
      clear hK K
      try simp only [Act.put, List.getElem_toArray, List.getElem_cons_succ, List.getElem_cons_zero, List.setIfInBounds_toArray, List.set_cons_zero, List.set_cons_succ]
      refine wpAnyH_take (i := 19) (v := ?_) rfl (by kernel_rfl) (by kernel_rfl) (by kernel_rfl) (fun _ _ _ h => h) (Or.inl ⟨by rfl, ?_⟩) hHeld ?_
      rotate_left
      · intro w' hSw; try dsimp only at hSw
        go_simp; try (with_reducible rfl)
      try simp only [Act.put, List.getElem_toArray, List.getElem_cons_succ, List.getElem_cons_zero, List.setIfInBounds_toArray, List.set_cons_zero, List.set_cons_succ]
      refine wpAnyH_take (i := 20) (v := ?_) rfl (by kernel_rfl) (by kernel_rfl) (by kernel_rfl) (fun _ _ _ h => h) (Or.inl ⟨by rfl, ?_⟩) hHeld ?_
      rotate_left
      · intro w' hSw; try dsimp only at hSw
        go_simp; try (with_reducible rfl)
      try simp only [Act.put, List.getElem_toArray, List.getElem_cons_succ, List.getElem_cons_zero, List.setIfInBounds_toArray, List.set_cons_zero, List.set_cons_succ]
      have j1 : InI Y9 (some ⟨gd', 0, none⟩) L cd' (wantTo H P D L) := i1.turnedI ht12 hgd
      have j2 : InB Y9 (some ⟨gh', 0, none⟩) n ch' H := i2.turnedB ht12 hgh
      have m1 := hWD.below hHeld
      have m2 := hWH.below hHeld
      have t6 := hB.tab.kept hHeld
      have q12 : Blk Y9 g12 35 [.int .i64 (P : Int), .int .i64 (L : Int), .int .i64 K, .slice (some ⟨gd', 0, none⟩) L cd', .slice (some ⟨gh', 0, none⟩) n ch', .int .i64 (-1), .int .i64 0, .int .i64 0, .slice pl' 0 cl'] := h12
      have a0 := q12.cell' (i := 0) rfl; have a1 := q12.cell' (i := 1) rfl; have a2 := q12.cell' (i := 2) rfl; have a3 := q12.cell' (i := 3) rfl; have a4 := q12.cell' (i := 4) rfl; have a5 := q12.cell' (i := 5) rfl; have a6 := q12.cell' (i := 6) rfl; have a7 := q12.cell' (i := 7) rfl; have a8 := q12.cell' (i := 8) rfl
      have b0 := t6.cell' (i := 0) rfl; have b1 := t6.cell' (i := 1) rfl; have b2 := t6.cell' (i := 2) rfl; have b3 := t6.cell' (i := 3) rfl; have b4 := t6.cell' (i := 4) rfl; have b5 := t6.cell' (i := 5) rfl; have b6 := t6.cell' (i := 6) rfl; have b7 := t6.cell' (i := 7) rfl; have b8 := t6.cell' (i := 8) rfl
      refine wpAnyH_done (by kernel_rfl) ?_ _
      refine NoPanic.normal ?_
      go_wp2_with (go_at_call 14; refine (same_yes (P : Int) (L : Int) K (-1) 0 0 _ _ _ _ _ _ _ _ _ _ _ _ _ _ _ _ _ j1 m1 j2 m2).mono ?_; rintro e YF ⟨rfl, hbY⟩)
      go_ret
      exact ⟨rfl, bt (bt hB.bel hHeld) hbY⟩
end Go.Proofs.Ytfgelncfmopibab

namespace Go.Proofs.Ytfgelncfmopibab
open Go.ChangeShapes Go.WideShapes Go.ChangeAt Go.RowKit Go.Joins
theorem bytesOf3 : Try.prog.bytesOf 3 = 8 := by kernel_rfl
theorem cellsOf4 : Try.prog.cellsOf 4 = 1 := by kernel_rfl
theorem bytesOf4 : Try.prog.bytesOf 4 = 1 := by kernel_rfl
theorem cellsOfT : Try.prog.cellsOf 35 = 9 := by kernel_rfl
theorem cellsOfSq : Try.prog.cellsOf 32 = 3 := by kernel_rfl
theorem cellsOfIs : Try.prog.cellsOf 29 = 1 := by kernel_rfl
theorem cellsOfBs : Try.prog.cellsOf 30 = 1 := by kernel_rfl
theorem cellsOfLs : Try.prog.cellsOf 33 = 1 := by kernel_rfl
theorem cellsOfLg : Try.prog.cellsOf 73 = 2 := by kernel_rfl
theorem bytesOfLg : Try.prog.bytesOf 73 = 32 := by kernel_rfl
theorem cellsOfU : Try.prog.cellsOf 51 = 1 := by kernel_rfl
theorem bytesOfU : Try.prog.bytesOf 51 = 2 := by kernel_rfl
/-- A slice of numbers of kind i64, by its reading and its weights. -/
theorem openI {H : Type} {enc : TypeId × Value → H} {W : World} {t e : TypeId} {fuel : Nat} {v : Value} {y : DataW H × List MemPlace} (ht : Try.prog.underlying t = some (.slice e)) (he : Try.prog.underlying e = some (.int .i64)) (hc1 : Try.prog.cellsOf e = 1) (hb : Try.prog.bytesOf e = 8)
    (hf : DataW.trod enc Try.prog W 0 (fun _ => true) true fuel t [v] = some y) (hs : ∀ n ∈ y.1.weights Try.prog t, n ≤ reachBytes) : ∃ p n c xs, v = .slice p n c ∧ InI W p n c xs := by
  rcases open_ints ht he hc1 hf with ⟨hcs, _⟩ | ⟨x, l, c, zs, hcs, _, hl, hm, hz, hx, hcell, hwz⟩
  · simp only [List.cons.injEq, and_true] at hcs
    subst hcs
    exact ⟨none, 0, 0, [], rfl, InI.empty W⟩
  · simp only [List.cons.injEq, and_true] at hcs
    subst hcs
    have hzl : zs.length = c := by simpa using hz
    subst hx
    have hw := hs (((zs.take l).length + (zs.drop l).length) * 8) (by simp [DataW.weights, ht, hb, lits])
    simp only [List.length_take, List.length_drop, reachBytes, hzl] at hw
    refine ⟨some x, l, c, zs.take l, rfl, by rw [List.length_take]; omega, hl, hm, by omega, fun h0 => ?_, fun h => by cases h⟩
    have hc0 := hcell 0 (by omega)
    obtain ⟨b, o, s⟩ := x
    have hsp : s = none := by simpa [Addr.add] using World.cell?_spot hc0
    subst hsp
    refine ⟨b, o, rfl, block_lt_of_cell hc0, fun i hi => ?_⟩
    have hci := hcell i (by omega)
    rw [addr_add] at hci
    rw [hci]
    have e' : eI (zs.take l) i = zs.getD i 0 := by simp [eI, List.getElem?_take_of_lt hi]
    rw [e']
theorem openBo {H : Type} {enc : TypeId × Value → H} {W : World} {t e : TypeId} {fuel : Nat} {v : Value} {y : DataW H × List MemPlace} (ht : Try.prog.underlying t = some (.slice e)) (he : Try.prog.underlying e = some .bool) (hc1 : Try.prog.cellsOf e = 1) (hb : Try.prog.bytesOf e = 1)
    (hf : DataW.trod enc Try.prog W 0 (fun _ => true) true fuel t [v] = some y) (hs : ∀ n ∈ y.1.weights Try.prog t, n ≤ reachBytes) : ∃ p n c xs, v = .slice p n c ∧ InB W p n c xs := by
  rcases Go.Deep.open_bools ht he hc1 hf with ⟨hcs, _⟩ | ⟨x, l, c, Bf, hcs, _, hl, hm, hx, hcell⟩
  · simp only [List.cons.injEq, and_true] at hcs
    subst hcs
    exact ⟨none, 0, 0, [], rfl, InB.empty W⟩
  · simp only [List.cons.injEq, and_true] at hcs
    subst hcs
    subst hx
    have hw := hs ((l + (c - l)) * 1) (by simp [DataW.weights, Go.Deep.boolRow, ht, hb])
    simp only [reachBytes] at hw
    refine ⟨some x, l, c, (List.range l).map Bf, rfl, by simp, hl, hm, by omega, fun h0 => ?_, fun h => by cases h⟩
    have hc0 := hcell 0 (by omega)
    obtain ⟨b, o, s⟩ := x
    have hsp : s = none := by simpa [Addr.add] using World.cell?_spot hc0
    subst hsp
    refine ⟨b, o, rfl, block_lt_of_cell hc0, fun i hi => ?_⟩
    have hci := hcell i (by omega)
    rw [addr_add] at hci
    rw [hci]
    have e' : eB ((List.range l).map Bf) i = Bf i := by simp [eB, hi]
    rw [e']
theorem mem_weightsAll {H : Type} {P : Program} {e : TypeId} {n : Nat} {D : DataW H} (hn : n ∈ D.weights P e) : ∀ {l : List (DataW H)}, D ∈ l → n ∈ DataW.weightsAll P e l
  | [], h => by simp at h
  | d :: r, h => by
    simp only [DataW.weightsAll, List.mem_append]
    rcases List.mem_cons.1 h with rfl | h
    · exact .inl hn
    · exact .inr (mem_weightsAll hn h)
structure LgAt where
  l : LogS
  q : Option Addr
  m : Nat
  d : Nat
set_option linter.unusedSimpArgs false in
set_option maxRecDepth 100000 in
theorem openLogs {H : Type} {enc : TypeId × Value → H} {W : World} {v : Value} {fuel : Nat} {y : DataW H × List MemPlace} (hf : DataW.trod enc Try.prog W 0 (fun _ => true) true fuel 33 [v] = some y) (hall : ∀ n ∈ y.1.weights Try.prog 33, n ≤ reachBytes) : ∃ p n c l, v = .slice p n c ∧ LogsIn W p n c l := by
  rcases Go.Deep.open_slice Try.underlying33 hf with ⟨hcs, _⟩ | ⟨x, len, cap, m, n, D, Pl', hcs, _, hl, hm, hmm, hxx, hx⟩
  · simp only [List.cons.injEq, and_true] at hcs
    subst hcs
    exact ⟨none, 0, 0, [], rfl, ⟨rfl, Nat.le_refl _, Nat.zero_le _, Nat.zero_le _, fun h => by omega, fun _ => rfl⟩⟩
  · simp only [List.cons.injEq, and_true] at hcs
    subst hcs
    simp only [if_true] at hmm
    subst hmm
    subst hxx
    have hs := hall ((len + (m - len)) * 32) (by simp [DataW.weights, Try.underlying33, bytesOfLg])
    simp only [reachBytes] at hs
    have hsp : 0 < len → x.spot = none := by
      intro h0
      obtain ⟨cs', h1, _⟩ := hx 0 (by omega)
      rw [cellsOfLg] at h1
      obtain ⟨_, hlen, hcell⟩ := World.cells?_some h1
      have c0 := hcell 0 (by omega)
      rw [Nat.zero_mul, Go.Deep.add_add, List.getElem?_eq_getElem (by omega)] at c0
      simpa [Addr.add] using World.cell?_spot c0
    have each : ∀ i, i < len → ∃ g : LgAt, x.spot = none ∧ x.block < W.heap.size ∧ InI W g.q g.m g.d g.l.pages ∧ W.cell? ⟨x.block, x.off + i * 2, none⟩ = some (.int .i64 g.l.phys) ∧ W.cell? ⟨x.block, x.off + i * 2 + 1, none⟩ = some (.slice g.q g.m g.d) := by
      intro i hi
      obtain ⟨cs', h1, h2⟩ := hx i (by omega)
      rw [cellsOfLg] at h1
      obtain ⟨_, hlen, hcell⟩ := World.cells?_some h1
      obtain ⟨xs, k, hk, hxy, _, hxl, hfl⟩ := DataW.trod_struct Try.underlying73 h2
      simp only [Prod.mk.injEq] at hxy
      match xs, hxl, cs', hlen with
      | [y0, y1], _, [v0, v1], _ =>
        have g0 := hfl 0 _ rfl
        have g1 := hfl 1 _ rfl
        simp [cellsOf3, cellsOfIs] at g0 g1
        obtain ⟨z0, e0, _, _⟩ := DataW.trod_int Try.underlying3 g0
        obtain ⟨q, mm, dd, ms, e1, hin⟩ := openI Try.underlying29 Try.underlying3 cellsOf3 bytesOf3 g1 (fun n hn => hall n (by
          have hDi : n ∈ (D i).weights Try.prog 73 := by
            rw [hxy.1]
            simp only [DataW.weights, Try.underlying73, List.map_cons, List.map_nil, DataW.weightsEach, List.mem_append]
            exact .inr (.inl hn)
          have := mem_weightsAll (l := (List.range len).map D) hDi (List.mem_map.2 ⟨i, List.mem_range.2 hi, rfl⟩)
          simp only [DataW.weights, Try.underlying33, List.mem_cons, List.mem_append]
          exact .inr (.inl this)))
        cases e0; cases e1
        have c0 := hcell 0 (by omega)
        have c1 := hcell 1 (by omega)
        rw [Go.Deep.add_add] at c0 c1
        have hs := hsp (by omega)
        obtain ⟨xb, xo, xs'⟩ := x
        dsimp only at hs
        subst hs
        rw [addr_add] at c0 c1
        have hlt := block_lt_of_cell (c0.trans (by rfl))
        exact ⟨⟨⟨z0, ms⟩, q, mm, dd⟩, rfl, hlt, hin, by simpa using c0, by simpa [Nat.add_assoc] using c1⟩
    obtain ⟨g, hg⟩ := @Go.Deep.choose_lt LgAt ⟨⟨⟨0, []⟩, none, 0, 0⟩⟩ _ _ each
    refine ⟨some x, len, m, (List.range len).map (fun i => (g i).l), rfl, ⟨by simp, hl, hm, by omega, fun h0 => ?_, fun h => by cases h⟩⟩
    have h00 := hg 0 h0
    obtain ⟨xb, xo, xs'⟩ := x
    have hs : xs' = none := h00.1
    subst hs
    refine ⟨xb, xo, rfl, h00.2.1, fun i l hi => ?_⟩
    have hil : i < len := by have := (List.getElem?_eq_some_iff.1 hi).1; simpa using this
    obtain ⟨_, _, hin, hc0, hc1⟩ := hg i hil
    obtain rfl : (g i).l = l := by simpa [hil] using hi
    exact ⟨_, _, _, hc0, hc1, hin⟩
set_option maxRecDepth 100000 in
/-- How a table came in. -/
theorem openTab {H : Type} {enc : TypeId × Value → H} {W : World} {r : Reach} {b0 : Nat} {v : Value} {d : DataW H} {p : List MemPlace} {ts : List TypeId} {ds : List (DataW H)} {j : Nat} (hv : Value.okWide Try.prog W r b0 35 v)
    (h : DataW.Trod enc Try.prog W 0 (fun _ => true) true 35 v d p) (hsz : (DataW.weightsEach Try.prog ts ds).all (· ≤ reachBytes) = true) (ht : ts[j]? = some 35) (hd : ds[j]? = some d) :
    ∃ (P L K sp sl su : Int) (pd : Option Addr) (nd cd : Nat) (D : List Int) (ph : Option Addr) (nh ch : Nat) (Hv : List Bool) (pl : Option Addr) (nl cl : Nat) (lg : List LogS), v = .agg #[.int .i64 P, .int .i64 L, .int .i64 K, .slice pd nd cd, .slice ph nh ch, .int .i64 sp, .int .i64 sl, .int .i64 su, .slice pl nl cl] ∧ InI W pd nd cd D ∧ InB W ph nh ch Hv ∧ LogsIn W pl nl cl lg := by
  obtain ⟨cs, rfl, hcs⟩ := okWide_struct Try.underlying35 hv
  rw [cellsOfT] at hcs
  obtain ⟨c0, c1, c2, c3, c4, c5, c6, c7, c8, rfl⟩ : ∃ c0 c1 c2 c3 c4 c5 c6 c7 c8, cs = #[c0, c1, c2, c3, c4, c5, c6, c7, c8] := by
    obtain ⟨l⟩ := cs
    match l, hcs with
    | [c0, c1, c2, c3, c4, c5, c6, c7, c8], _ => exact ⟨c0, c1, c2, c3, c4, c5, c6, c7, c8, rfl⟩
  obtain ⟨fuel, hf⟩ := h
  obtain ⟨xs, k, hk, hxy, _, hxl, hfl⟩ := DataW.trod_struct Try.underlying35 hf
  simp only [Prod.mk.injEq] at hxy
  match xs, hxl with
  | [y0, y1, y2, y3, y4, y5, y6], _ =>
    have hall : ∀ n ∈ d.weights Try.prog 35, n ≤ reachBytes := fun n hn => by simpa using List.all_eq_true.1 hsz _ (DataW.weights_mem_each ht hd n hn)
    obtain ⟨rfl, _⟩ := hxy
    have g0 := hfl 0 _ rfl
    have g1 := hfl 1 _ rfl
    have g2 := hfl 2 _ rfl
    have g3 := hfl 3 _ rfl
    have g4 := hfl 4 _ rfl
    have g5 := hfl 5 _ rfl
    have g6 := hfl 6 _ rfl
    simp [Value.cells, cellsOf3, cellsOfIs, cellsOfBs, cellsOfSq, cellsOfLs] at g0 g1 g2 g3 g4 g5 g6
    obtain ⟨z0, e0, _, _⟩ := DataW.trod_int Try.underlying3 g0
    obtain ⟨z1, e1, _, _⟩ := DataW.trod_int Try.underlying3 g1
    obtain ⟨z2, e2, _, _⟩ := DataW.trod_int Try.underlying3 g2
    obtain ⟨us, k5, _, _, _, hul, hfu⟩ := DataW.trod_struct Try.underlying32 g5
    obtain ⟨u0, u1, u2, rfl⟩ : ∃ u0 u1 u2, us = [u0, u1, u2] := by
      match us, hul with
      | [a0, a1, a2], _ => exact ⟨a0, a1, a2, rfl⟩
    have s0 := hfu 0 _ rfl
    have s1 := hfu 1 _ rfl
    have s2 := hfu 2 _ rfl
    simp [cellsOf3] at s0 s1 s2
    obtain ⟨z5, e5, _, _⟩ := DataW.trod_int Try.underlying3 s0
    obtain ⟨z6, e6, _, _⟩ := DataW.trod_int Try.underlying3 s1
    obtain ⟨z7, e7, _, _⟩ := DataW.trod_int Try.underlying3 s2
    cases e0; cases e1; cases e2; cases e5; cases e6; cases e7
    have w3 : ∀ n ∈ y3.1.weights Try.prog 29, n ≤ reachBytes := fun n hn => hall n (by
      simp only [DataW.weights, Try.underlying35, List.map_cons, List.map_nil, DataW.weightsEach, List.mem_append]
      exact .inr (.inr (.inr (.inl hn))))
    have w4 : ∀ n ∈ y4.1.weights Try.prog 30, n ≤ reachBytes := fun n hn => hall n (by
      simp only [DataW.weights, Try.underlying35, List.map_cons, List.map_nil, DataW.weightsEach, List.mem_append]
      exact .inr (.inr (.inr (.inr (.inl hn)))))
    have w6 : ∀ n ∈ y6.1.weights Try.prog 33, n ≤ reachBytes := fun n hn => hall n (by
      simp only [DataW.weights, Try.underlying35, List.map_cons, List.map_nil, DataW.weightsEach, List.mem_append]
      exact .inr (.inr (.inr (.inr (.inr (.inr (.inl hn)))))))
    obtain ⟨pd, nd, cd, D, rfl, hD⟩ := openI Try.underlying29 Try.underlying3 cellsOf3 bytesOf3 g3 w3
    obtain ⟨ph, nh, ch, Hv, rfl, hH⟩ := openBo Try.underlying30 Try.underlying4 cellsOf4 bytesOf4 g4 w4
    obtain ⟨pl, nl, cl, lg, rfl, hL⟩ := openLogs g6 w6
    exact ⟨z0, z1, z2, z5, z6, z7, pd, nd, cd, D, ph, nh, ch, Hv, pl, nl, cl, lg, rfl, hD, hH, hL⟩
theorem bounds_u16 {z : Int} (h : (Lit.int .u16 z).wf = true) : 0 ≤ z ∧ z < 65536 := by
  simp [Lit.wf, IntKind.min, IntKind.max, IntKind.signed, IntKind.bits] at h
  omega
set_option maxRecDepth 100000 in
/-- How a slice of numbers of 16 bits came in. -/
theorem openU {H : Type} {enc : TypeId × Value → H} {W : World} {v : Value} {d : DataW H} {p : List MemPlace} {ts : List TypeId} {ds : List (DataW H)} {j : Nat} (hv : ∃ a l c, v = .slice a l c)
    (h : DataW.Trod enc Try.prog W 0 (fun _ => true) true 45 v d p) (hsz : (DataW.weightsEach Try.prog ts ds).all (· ≤ reachBytes) = true) (ht : ts[j]? = some 45) (hd : ds[j]? = some d) : ∃ p n c xs, v = .slice p n c ∧ InU W p n c xs := by
  obtain ⟨a, l0, c0, rfl⟩ := hv
  obtain ⟨fuel, hf⟩ := h
  have hall : ∀ n ∈ d.weights Try.prog 45, n ≤ reachBytes := fun n hn => by simpa using List.all_eq_true.1 hsz _ (DataW.weights_mem_each ht hd n hn)
  rcases open_ints Try.underlying45 Try.underlying51 cellsOfU hf with ⟨hcs, _⟩ | ⟨x, l, c, zs, hcs, _, hl, hm, hz, hx, hcell, hwz⟩
  · simp [Value.cells] at hcs
    obtain ⟨rfl, rfl, rfl⟩ := hcs
    exact ⟨none, 0, 0, [], rfl, ⟨rfl, Nat.zero_le _, fun h => by omega, fun i hi => by omega⟩⟩
  · simp [Value.cells] at hcs
    obtain ⟨rfl, rfl, rfl⟩ := hcs
    have hzl : zs.length = c0 := by simpa using hz
    simp only [Prod.mk.injEq] at hx
    obtain ⟨hx1, _⟩ := hx
    rw [hx1] at hall
    have hw := hall (((zs.take l0).length + (zs.drop l0).length) * 2) (by simp [DataW.weights, Try.underlying45, bytesOfU, lits])
    simp only [List.length_take, List.length_drop, reachBytes, hzl] at hw
    have hrng : ∀ i, i < l0 → 0 ≤ eI (zs.take l0) i ∧ eI (zs.take l0) i < 65536 := fun i hi => by
      have hil : i < zs.length := by omega
      have := bounds_u16 (hwz zs[i] (List.getElem_mem hil))
      simpa [eI, List.getElem?_take_of_lt hi, hil] using this
    refine ⟨some x, l0, c0, zs.take l0, rfl, by rw [List.length_take]; omega, by omega, fun h0 => ?_, hrng⟩
    have hc0 := hcell 0 (by omega)
    obtain ⟨b, o, s⟩ := x
    have hsp : s = none := by simpa [Addr.add] using World.cell?_spot hc0
    subst hsp
    refine ⟨b, o, rfl, block_lt_of_cell hc0, fun i hi => ?_⟩
    have hci := hcell i (by omega)
    rw [addr_add] at hci
    rw [hci]
    have e' : eI (zs.take l0) i = zs.getD i 0 := by simp [eI, List.getElem?_take_of_lt hi]
    rw [e']
end Go.Proofs.Ytfgelncfmopibab

namespace Go.Proofs.Ytfgelncfmopibab
open Go.ChangeShapes Go.WideShapes Go.ChangeAt Go.RowKit Go.Joins
theorem scanBack_true (P0 L0 K sp sl su : Int) (pd ph pl ps : Option Addr) (nd cd nh ch nl cl ns cs : Nat) (D S : List Int) (H : List Bool) (logs : List LogS) (w : World) (hd : InI w pd nd cd D) (hh : InB w ph nh ch H) (hl : LogsIn w pl nl cl logs) (hs : InU w ps ns cs S) :
    Calls Try.prog 4 #[.agg #[.int .i64 P0, .int .i64 L0, .int .i64 K, .slice pd nd cd, .slice ph nh ch, .int .i64 sp, .int .i64 sl, .int .i64 su, .slice pl nl cl], .slice ps ns cs] w fun e w' => e = .returned (.bool true) ∧ Below w.heap.size w w' := by
  cases hok : okSz P0 L0 K with
  | false => exact back_no P0 L0 K sp sl su pd ph pl ps nd cd nh ch nl cl ns cs w (fun W _ => checkG_sz P0 L0 K sp sl su pd ph pl nd cd nh ch nl cl False W hok)
  | true =>
    obtain ⟨r1, r2, r3⟩ := okSz_iff.1 hok
    obtain ⟨P, rfl⟩ : ∃ P : Nat, P0 = (P : Int) := ⟨P0.toNat, by omega⟩
    obtain ⟨L, rfl⟩ : ∃ L : Nat, L0 = (L : Int) := ⟨L0.toNat, by omega⟩
    have hnb := prod_bd r2 r1
    obtain ⟨n, hn⟩ : ∃ n : Nat, n = L * P := ⟨_, rfl⟩
    have hnI : (L : Int) * (P : Int) = (n : Int) := by rw [hn]; exact (Int.natCast_mul L P).symm
    have hck := fun W (hW : Below w.heap.size w W) => checkG_ok P L K sp sl su pd ph pl nd cd nh ch nl cl n D H logs W (hd.below hW) (hh.below hW) (hl.below hW) hok hn
    by_cases hbad : 200 < nh ∨ 0 ≤ sp ∨ 0 < nl
    · exact back_early (P : Int) (L : Int) K sp sl su pd ph pl ps nd cd nh ch nl cl ns cs _ w hh.room hl.room hck hbad
    · obtain rfl : nl = 0 := by omega
      obtain rfl : logs = [] := List.eq_nil_of_length_eq_zero hl.len
      by_cases hlen : nd = L ∧ nh = n
      · obtain ⟨rfl, rfl⟩ := hlen
        obtain ⟨bd, od, rfl, _⟩ := hd.at' (by omega)
        obtain ⟨bh, oh, rfl, _⟩ := hh.at' (by omega)
        exact back_main P nd nh K sp sl su bd od bh oh pl ps cd ch cl ns cs D S H w hd hh hs (by omega) (by omega) hok hn hck
      · refine back_no (P : Int) (L : Int) K sp sl su pd ph pl ps nd cd nh ch 0 cl ns cs w (fun W hW => (hck W hW).mono ?_)
        rintro e w' ⟨⟨x, hx, hg⟩, hb⟩
        refine ⟨⟨x, hx, fun h0 => hlen ?_⟩, hb⟩
        have h1 := (hg h0).dl
        have h2 := (hg h0).hl
        rw [hd.len] at h1
        rw [hh.len, hnI] at h2
        omega
set_option maxRecDepth 100000 in
theorem back_lifted (os : Os) (started : os.Started) (H : Type) (enc : TypeId × Value → H) :
    ReturnsInHanded {} Try.checked os 4 .any (Rows.scanBackSpec.pre6 enc Try.prog Try.f4 Rows.scanBackRow.domain false) (Rows.scanBackSpec.post enc Try.prog Try.f4 false true false false) := by
  refine returnsInHanded_of_change_sized (C := Try.checked) own started (by kernel_rfl) Try.func4
    (ChangeSpec.witness6 (enc := enc) (C := Try.checked) false ⟨#[], #[.agg #[.int .i64 0, .int .i64 0, .int .i64 0, .slice none 0 0, .slice none 0 0, .int .i64 0, .int .i64 0, .int .i64 0, .slice none 0 0], .slice none 0 0], []⟩ 8 (by kernel_rfl) (by kernel_rfl) (by kernel_rfl) (by kernel_rfl)) ?_
  intro W base args ds gs before hval0 hW hcnd hsz0 _
  have hval : ∀ (j : Nat) t v, Try.f4.params[j]? = some t → args[j]? = some v → Value.okWide Try.prog W .any base t v := hval0
  have hsz : (DataW.weightsEach Try.prog (Try.f4.params.toList ++ Rows.scanBackSpec.plain.varTypes Try.prog) (ds ++ gs)).all (· ≤ reachBytes) = true := hsz0
  have hW' := hW
  obtain ⟨p, q, hA0, hV, rfl, hfz, hnd⟩ := hW
  have hA : DataW.TrodAll enc Try.prog W 0 (fun _ => true) true Try.f4.params.toList args.toList ds p := hA0
  rw [Try.params4] at hA hval hsz
  obtain ⟨v0, vs0, d0, ds0, p0, q0, hargs, rfl, rfl, h0, r0⟩ := trodAll_cons hA
  obtain ⟨v1, vs1, d1, ds1, p1, q1, rfl, rfl, rfl, h1, r1⟩ := trodAll_cons r0
  obtain ⟨rfl, rfl, rfl⟩ := trodAll_nil r1
  obtain rfl : args = #[v0, v1] := by cases args; simp_all
  obtain ⟨rfl, rfl⟩ := trodVars_none hV
  have lt0 : ∀ x ∈ p0, x.block < W.heap.size := by obtain ⟨m, hm⟩ := h0; exact DataW.trod_lt m _ _ _ hm
  have lt1 : ∀ x ∈ p1, x.block < W.heap.size := by obtain ⟨m, hm⟩ := h1; exact DataW.trod_lt m _ _ _ hm
  obtain ⟨P, L, K, sp, sl, su, pd, nd, cd, D, ph, nh, ch, Hv, pl, nl, cl, lg, hv0, hD, hH, hL⟩ := openTab (hval 0 35 v0 rfl rfl) h0 hsz (j := 0) rfl rfl
  subst hv0
  obtain ⟨ps, ns, cs, S, hv1, hS⟩ := openU (okWide_slice Try.underlying45 (hval 1 45 v1 rfl rfl)) h1 hsz (j := 1) rfl rfl
  subst hv1
  clear hA0 hval0 hsz0
  refine (scanBack_true P L K sp sl su pd ph pl ps nd cd nh ch nl cl ns cs D S Hv lg W hD hH hL hS).mono fun e W' ⟨he, bel⟩ => ?_
  subst he
  exact ⟨_, rfl, _, _, _, [], _, [], hW', trodAll_mk1 (shut_bool Try.underlying4 _), (trodAll_cons_mk (Below.trod laidOut (by kernel_rfl) (of_decide_eq_true (by kernel_rfl)) h0 bel lt0) (trodAll_cons_mk (Below.trod laidOut (by kernel_rfl) (of_decide_eq_true (by kernel_rfl)) h1 bel lt1) trodAll_mk0)), rfl, bel.frame _, fun h => by cases h⟩
theorem scanBack_holds : Rows.ScanBackSaid :=
  OpenClaim.holds_of_wide 4 Try.f4 rfl rfl rfl rfl rfl rfl rfl ⟨rfl, rfl, rfl, rfl, rfl⟩ rfl rfl rfl rfl rfl (by kernel_rfl) Try.func4 (by kernel_rfl)
    (of_decide_eq_true (by kernel_rfl)) (by unfold Func.isWrapper; first | (rw [if_pos (by decide +kernel)]; kernel_rfl) | (rw [if_neg (by decide +kernel)]; exact ⟨rfl, rfl⟩))
    (fun os started H enc _ => back_lifted os started H enc)
#print axioms scanBack_holds
end Go.Proofs.Ytfgelncfmopibab
