/-
  The reference's list of any table.
-/
import Derived.Test.YtfgelncfmopibabSnRChG
namespace Go.Proofs.Ytfgelncfmopibab
open Go.RowKit
def usedTo (D : List Int) (k : Nat) : List Int := (D.take k).filter fun x => decide (0 ≤ x)
def physTo (logs : List LogS) (k : Nat) : List Int := (logs.take k).map (·.phys)
def seqU (sp : Int) : List Int := if 0 ≤ sp then [sp] else []
/-- The blocks that a table uses, as the reference tells them. -/
def usesL (D : List Int) (sp : Int) (logs : List LogS) : List Int := usedTo D D.length ++ seqU sp ++ physTo logs logs.length
theorem usedTo_le (D : List Int) (k : Nat) : (usedTo D k).length ≤ k := by
  have h1 := List.length_filter_le (fun x : Int => decide (0 ≤ x)) (D.take k)
  have h2 := List.length_take_le k D
  unfold usedTo; omega
theorem usedTo_yes {D : List Int} {k : Nat} (h : k < D.length) (hx : 0 ≤ eI D k) : usedTo D (k + 1) = usedTo D k ++ [eI D k] := by
  unfold usedTo
  rw [takeI_succ D k h, List.filter_append]
  simp [hx]
theorem usedTo_no {D : List Int} {k : Nat} (h : k < D.length) (hx : ¬ 0 ≤ eI D k) : usedTo D (k + 1) = usedTo D k := by
  unfold usedTo
  rw [takeI_succ D k h, List.filter_append]
  simp [hx]
theorem uses_pos {D : List Int} {sp : Int} {logs : List LogS} (h : ∀ (i : Nat) (l : LogS), logs[i]? = some l → 0 ≤ l.phys) : ∀ x ∈ usesL D sp logs, 0 ≤ x := by
  intro x hx
  unfold usesL at hx
  rw [List.mem_append, List.mem_append] at hx
  rcases hx with (hx | hx) | hx
  · unfold usedTo at hx; rw [List.mem_filter] at hx; simpa using hx.2
  · unfold seqU at hx; split at hx
    · rw [List.mem_singleton] at hx; omega
    · cases hx
  · unfold physTo at hx
    rw [List.take_length, List.mem_map] at hx
    obtain ⟨l, hl, rfl⟩ := hx
    obtain ⟨i, hi, rfl⟩ := List.mem_iff_getElem.1 hl
    exact h i _ (List.getElem?_eq_getElem hi)
set_option linter.unusedSimpArgs false in
set_option maxRecDepth 100000 in
set_option maxHeartbeats 8000000 in
theorem listG (P L : Nat) (K sp sl su : Int) (pd ph pl : Option Addr) (nd cd nh ch nl cl : Nat) (D : List Int) (logs : List LogS) (w : World) (hd : InI w pd nd cd D) (h : LogsIn w pl nl cl logs) (hnd : nd ≤ 256) (hnl : nl ≤ 8) :
    Calls Try.prog 28 #[.agg #[.int .i64 (P : Int), .int .i64 (L : Int), .int .i64 K, .slice pd nd cd, .slice ph nh ch, .int .i64 sp, .int .i64 sl, .int .i64 su, .slice pl nl cl]] w fun e w' => ∃ q lq cq, e = .returned (.slice q lq cq) ∧ w'.ownsRow w.heap.size 3 1 (.slice q lq cq) lq (valsI (usesL D sp logs)) ∧ lq ≤ 1000 ∧ Below w.heap.size w w' := by
  obtain ⟨i0, hi, hz0, hz1, hz2⟩ := info_parts infoI
  have g0 := Blk.new' w 35 #[.int .i64 (P : Int), .int .i64 (L : Int), .int .i64 K, .slice pd nd cd, .slice ph nh ch, .int .i64 sp, .int .i64 sl, .int .i64 su, .slice pl nl cl]
  have hb0 := below_alloc w (.cells #[.int .i64 (P : Int), .int .i64 (L : Int), .int .i64 K, .slice pd nd cd, .slice ph nh ch, .int .i64 sp, .int .i64 sl, .int .i64 su, .slice pl nl cl] 35)
  have hLI : (nd : Int) ≤ 256 := by omega
  have hnlI : (nl : Int) ≤ 8 := by omega
  have HUL : Hid (usesL D sp logs = usedTo D nd ++ seqU sp ++ physTo logs nl) := by show _ = _; unfold usesL; rw [hd.len, h.len]
  go_enter Try.func28, Try.ntmps28
  go_upto_region 1 with (fail)
  generalize w.alloc (.cells #[.int .i64 (P : Int), .int .i64 (L : Int), .int .i64 K, .slice pd nd cd, .slice ph nh ch, .int .i64 sp, .int .i64 sl, .int .i64 su, .slice pl nl cl] 35) = W0 at *
  go_wp2
  go_loopw [3, 4] (fun v i wr => ∃ (k : Nat) (q : Option Addr) (lq cq : Nat), k ≤ nd ∧ i = .int .i64 k ∧ v = .slice q lq cq ∧ lq ≤ k ∧ Hid (wr.ownsRow (w.heap.size + 1) 3 1 (.slice q lq cq) lq (valsI (usedTo D k))) ∧ Blk wr w.heap.size 35 [.int .i64 (P : Int), .int .i64 (L : Int), .int .i64 K, .slice pd nd cd, .slice ph nh ch, .int .i64 sp, .int .i64 sl, .int .i64 su, .slice pl nl cl] ∧ Below w.heap.size w wr) (fun _ i _ => nd - (intOf i).toNat)
  case atStart => exact ⟨0, none, 0, 0, Nat.zero_le _, rfl, rfl, Nat.le_refl _, by show World.ownsRow _ _ _ _ _ _ _; rw [show usedTo D 0 = [] by simp [usedTo]]; exact ⟨rfl, .inl ⟨rfl, rfl⟩⟩, g0, hb0⟩
  case round =>
    obtain ⟨k, q, lq, cq, hk, rfl, rfl, hle, HW, ga, hbk⟩ := hrel
    clear g0 hb0
    have x3 := ga.cell' (i := 3) rfl
    have hgl := ga.lt
    by_cases hlt : k < nd
    · have hki : (k : Int) < (nd : Int) := by omega
      obtain ⟨b, o, rfl, hbl, hc⟩ := (hd.below hbk).at' (by omega)
      have e0 := hc k hlt
      have hyes := fun h => usedTo_yes (D := D) (k := k) (by rw [hd.len]; exact hlt) h
      have hno := fun h => usedTo_no (D := D) (k := k) (by rw [hd.len]; exact hlt) h
      generalize eI D k = x at *
      clear hc
      by_cases h1 : 0 ≤ x
      · have HS : Hid (usedTo D (k + 1) = usedTo D k ++ [x]) := hyes h1
        clear hyes hno
        generalize usedTo D k = U at *
        go_wp2_with (at_builtin; refine wpList_append_own _ rfl (.tmp 19) (.tmp 25) 29 rfl (w.heap.size + 1) 3 i0 (.int .i64 0) 1 8 Try.underlying29 hi hz0 hz1 hz2 rfl (by decide) (.slice q lq cq) lq (valsI U) rfl (HW.out.alloc _) ⟨wr.heap.size, 0, none⟩ 1 1 [.int .i64 x] rfl rfl (new_one wr _) (by simp [Value.oneCell']) (by unfold maxLen; omega) (by omega) (by rw [World.size_alloc]; omega) ?_; intro v1 w1 hown1 hgrow1 _; obtain ⟨q', cq', hv⟩ := owns_slice hown1; subst hv)
        go_roundw
        case rel =>
          have hb3 : Below w.heap.size w w1 := (bt hbk (below_alloc wr _)).grown hgrow1 (by rw [World.size_alloc]; have := hbk.size; omega) (fun k' hk' => by have := (HW.out.lt k' hk').1; omega)
          have g3 := (ga.kept (below_alloc wr (.cells #[.int .i64 x] 3))).grown' hgrow1 (fun k' hk' => (HW.out.lt k' hk').1) (by omega)
          have e : valsI U ++ [.int .i64 x] = valsI (usedTo D (k + 1)) := by rw [HS.out]; simp [valsI]
          rw [e] at hown1
          exact ⟨k + 1, q', lq + 1, cq', by omega, by go_num, rfl, by omega, hown1, g3, hb3⟩
        case measure => simp [intOf]; omega
      · have HS : Hid (usedTo D (k + 1) = usedTo D k) := hno h1
        clear hyes hno
        go_wp2
        go_roundw
        case rel => exact ⟨k + 1, q, lq, cq, by omega, by go_num, rfl, by omega, by show World.ownsRow _ _ _ _ _ _ _; rw [HS.out]; exact HW.out, ga, hbk⟩
        case measure => simp [intOf]; omega
    · obtain rfl : nd = k := by omega
      have x5 := ga.cell' (i := 5) rfl
      by_cases hs : 0 ≤ sp
      · have HQ : Hid (seqU sp = [sp]) := if_pos hs
        generalize usedTo D nd = U at *
        go_upto_region 9 with (at_builtin; refine wpList_append_own _ rfl (.tmp 31) (.tmp 35) 29 rfl (w.heap.size + 1) 3 i0 (.int .i64 0) 1 8 Try.underlying29 hi hz0 hz1 hz2 rfl (by decide) (.slice q lq cq) lq (valsI U) rfl (HW.out.alloc _) ⟨wr.heap.size, 0, none⟩ 1 1 [.int .i64 sp] rfl rfl (new_one wr _) (by simp [Value.oneCell']) (by unfold maxLen; omega) (by omega) (by rw [World.size_alloc]; omega) ?_; intro v1 w1 hown1 hgrow1 _; obtain ⟨q', cq', hv⟩ := owns_slice hown1; subst hv)
        have hb3 : Below w.heap.size w w1 := (bt hbk (below_alloc wr _)).grown hgrow1 (by rw [World.size_alloc]; have := hbk.size; omega) (fun k' hk' => by have := (HW.out.lt k' hk').1; omega)
        have g3 := (ga.kept (below_alloc wr (.cells #[.int .i64 sp] 3))).grown' hgrow1 (fun k' hk' => (HW.out.lt k' hk').1) (by omega)
        have HW3 : Hid (w1.ownsRow (w.heap.size + 1) 3 1 (.slice q' (lq + 1) cq') (lq + 1) (valsI (U ++ seqU sp))) := by rw [HQ.out]; show World.ownsRow _ _ _ _ _ _ _; rw [valsI_append]; exact hown1
        clear hown1 HW hgrow1 ga hbk x3 x5 HQ
        obtain ⟨l1, hl1⟩ : ∃ l1, l1 = lq + 1 := ⟨_, rfl⟩
        rw [← hl1] at HW3 ⊢
        have hle1 : l1 ≤ 300 := by omega
        clear hl1 hle
        go_wp2
        go_loopw [3, 5] (fun v i wr => ∃ (k : Nat) (q : Option Addr) (lq cq : Nat), k ≤ nl ∧ i = .int .i64 k ∧ v = .slice q lq cq ∧ lq ≤ 300 + k ∧ Hid (wr.ownsRow (w.heap.size + 1) 3 1 (.slice q lq cq) lq (valsI (U ++ seqU sp ++ physTo logs k))) ∧ Blk wr w.heap.size 35 [.int .i64 (P : Int), .int .i64 (L : Int), .int .i64 K, .slice pd nd cd, .slice ph nh ch, .int .i64 sp, .int .i64 sl, .int .i64 su, .slice pl nl cl] ∧ Below w.heap.size w wr) (fun _ i _ => nl - (intOf i).toNat)
        case atStart => exact ⟨0, q', l1, cq', Nat.zero_le _, rfl, rfl, by omega, by show World.ownsRow _ _ _ _ _ _ _; rw [show physTo logs 0 = [] by simp [physTo], List.append_nil]; exact HW3.out, g3, hb3⟩
        case round =>
          obtain ⟨k, q2, l2, c2, hk2, rfl, rfl, hle2, HW2, ga2, hbk2⟩ := hrel
          clear g3 hb3 HW3
          have y8 := ga2.cell' (i := 8) rfl
          have hgl2 := ga2.lt
          by_cases hlt2 : k < nl
          · have hki2 : (k : Int) < (nl : Int) := by omega
            have hjl : k < logs.length := by rw [h.len]; exact hlt2
            obtain ⟨b0, o0, e00, hbl0, hc0⟩ := h.at' (by omega)
            obtain ⟨q3, m3, d3, c0, c1, -⟩ := hc0 k _ (List.getElem?_eq_getElem hjl)
            subst e00
            have e0 := (hbk2.cell (p := ⟨b0, o0 + k * 2, none⟩) hbl0).trans c0
            have HS : Hid (physTo logs (k + 1) = physTo logs k ++ [logs[k].phys]) := by show _ = _; unfold physTo; rw [List.take_succ_eq_append_getElem hjl, List.map_append]; rfl
            generalize logs[k] = lg at *
            obtain ⟨phys, pages⟩ := lg
            dsimp only at c0 e0 HS
            clear hc0 c0 c1
            generalize hX : U ++ seqU sp ++ physTo logs k = X at *
            have HX : Hid (U ++ seqU sp ++ physTo logs k = X) := hX
            clear hX
            go_wp2_with (at_builtin; refine wpList_append_own _ rfl (.tmp 44) (.tmp 51) 29 rfl (w.heap.size + 1) 3 i0 (.int .i64 0) 1 8 Try.underlying29 hi hz0 hz1 hz2 rfl (by decide) (.slice q2 l2 c2) l2 (valsI X) rfl (HW2.out.alloc _) ⟨wr.heap.size, 0, none⟩ 1 1 [.int .i64 phys] rfl rfl (new_one wr _) (by simp [Value.oneCell']) (by unfold maxLen; omega) (by omega) (by rw [World.size_alloc]; omega) ?_; intro v2 w2 hown2 hgrow2 _; obtain ⟨q4, c4, hv⟩ := owns_slice hown2; subst hv)
            go_roundw
            case rel =>
              have hb5 : Below w.heap.size w w2 := (bt hbk2 (below_alloc wr _)).grown hgrow2 (by rw [World.size_alloc]; have := hbk2.size; omega) (fun k' hk' => by have := (HW2.out.lt k' hk').1; omega)
              have g5 := (ga2.kept (below_alloc wr (.cells #[.int .i64 phys] 3))).grown' hgrow2 (fun k' hk' => (HW2.out.lt k' hk').1) (by omega)
              have e : valsI X ++ [.int .i64 phys] = valsI (U ++ seqU sp ++ physTo logs (k + 1)) := by rw [HS.out, ← List.append_assoc, HX.out]; simp [valsI]
              rw [e] at hown2
              exact ⟨k + 1, q4, l2 + 1, c4, by omega, by go_num, rfl, by omega, hown2, g5, hb5⟩
            case measure => simp [intOf]; omega
          · obtain rfl : nl = k := by omega
            go_wp2
            go_ret
            exact ⟨q2, l2, c2, rfl, by rw [HUL.out]; exact owns_low HW2.out (Nat.le_succ _), by omega, hbk2⟩
      · have HQ : Hid (seqU sp = []) := if_neg hs
        have HW3 : Hid (wr.ownsRow (w.heap.size + 1) 3 1 (.slice q lq cq) lq (valsI (usedTo D nd ++ seqU sp))) := by rw [HQ.out, List.append_nil]; exact HW
        clear HW HQ
        generalize usedTo D nd = U at *
        have g3 := ga
        have hb3 := hbk
        obtain ⟨l1, hl1⟩ : ∃ l1, l1 = lq := ⟨_, rfl⟩
        obtain ⟨q', hq'⟩ : ∃ q', q' = q := ⟨_, rfl⟩
        obtain ⟨cq', hcq'⟩ : ∃ c', c' = cq := ⟨_, rfl⟩
        obtain ⟨w1, hw1⟩ : ∃ W, W = wr := ⟨_, rfl⟩
        go_upto_region 9 with (fail)
        rw [← hl1, ← hq', ← hcq', ← hw1] at HW3 ⊢
        rw [← hw1] at g3 hb3
        have hle1 : l1 ≤ 300 := by omega
        clear hl1 hq' hcq' hw1 ga hbk x3 x5 hgl hle
        go_wp2
        go_loopw [3, 5] (fun v i wr => ∃ (k : Nat) (q : Option Addr) (lq cq : Nat), k ≤ nl ∧ i = .int .i64 k ∧ v = .slice q lq cq ∧ lq ≤ 300 + k ∧ Hid (wr.ownsRow (w.heap.size + 1) 3 1 (.slice q lq cq) lq (valsI (U ++ seqU sp ++ physTo logs k))) ∧ Blk wr w.heap.size 35 [.int .i64 (P : Int), .int .i64 (L : Int), .int .i64 K, .slice pd nd cd, .slice ph nh ch, .int .i64 sp, .int .i64 sl, .int .i64 su, .slice pl nl cl] ∧ Below w.heap.size w wr) (fun _ i _ => nl - (intOf i).toNat)
        case atStart => exact ⟨0, q', l1, cq', Nat.zero_le _, rfl, rfl, by omega, by show World.ownsRow _ _ _ _ _ _ _; rw [show physTo logs 0 = [] by simp [physTo], List.append_nil]; exact HW3.out, g3, hb3⟩
        case round =>
          obtain ⟨k, q2, l2, c2, hk2, rfl, rfl, hle2, HW2, ga2, hbk2⟩ := hrel
          clear g3 hb3 HW3
          have y8 := ga2.cell' (i := 8) rfl
          have hgl2 := ga2.lt
          by_cases hlt2 : k < nl
          · have hki2 : (k : Int) < (nl : Int) := by omega
            have hjl : k < logs.length := by rw [h.len]; exact hlt2
            obtain ⟨b0, o0, e00, hbl0, hc0⟩ := h.at' (by omega)
            obtain ⟨q3, m3, d3, c0, c1, -⟩ := hc0 k _ (List.getElem?_eq_getElem hjl)
            subst e00
            have e0 := (hbk2.cell (p := ⟨b0, o0 + k * 2, none⟩) hbl0).trans c0
            have HS : Hid (physTo logs (k + 1) = physTo logs k ++ [logs[k].phys]) := by show _ = _; unfold physTo; rw [List.take_succ_eq_append_getElem hjl, List.map_append]; rfl
            generalize logs[k] = lg at *
            obtain ⟨phys, pages⟩ := lg
            dsimp only at c0 e0 HS
            clear hc0 c0 c1
            generalize hX : U ++ seqU sp ++ physTo logs k = X at *
            have HX : Hid (U ++ seqU sp ++ physTo logs k = X) := hX
            clear hX
            go_wp2_with (at_builtin; refine wpList_append_own _ rfl (.tmp 44) (.tmp 51) 29 rfl (w.heap.size + 1) 3 i0 (.int .i64 0) 1 8 Try.underlying29 hi hz0 hz1 hz2 rfl (by decide) (.slice q2 l2 c2) l2 (valsI X) rfl (HW2.out.alloc _) ⟨wr.heap.size, 0, none⟩ 1 1 [.int .i64 phys] rfl rfl (new_one wr _) (by simp [Value.oneCell']) (by unfold maxLen; omega) (by omega) (by rw [World.size_alloc]; omega) ?_; intro v2 w2 hown2 hgrow2 _; obtain ⟨q4, c4, hv⟩ := owns_slice hown2; subst hv)
            go_roundw
            case rel =>
              have hb5 : Below w.heap.size w w2 := (bt hbk2 (below_alloc wr _)).grown hgrow2 (by rw [World.size_alloc]; have := hbk2.size; omega) (fun k' hk' => by have := (HW2.out.lt k' hk').1; omega)
              have g5 := (ga2.kept (below_alloc wr (.cells #[.int .i64 phys] 3))).grown' hgrow2 (fun k' hk' => (HW2.out.lt k' hk').1) (by omega)
              have e : valsI X ++ [.int .i64 phys] = valsI (U ++ seqU sp ++ physTo logs (k + 1)) := by rw [HS.out, ← List.append_assoc, HX.out]; simp [valsI]
              rw [e] at hown2
              exact ⟨k + 1, q4, l2 + 1, c4, by omega, by go_num, rfl, by omega, hown2, g5, hb5⟩
            case measure => simp [intOf]; omega
          · obtain rfl : nl = k := by omega
            go_wp2
            go_ret
            exact ⟨q2, l2, c2, rfl, by rw [HUL.out]; exact owns_low HW2.out (Nat.le_succ _), by omega, hbk2⟩
end Go.Proofs.Ytfgelncfmopibab
