/-
  The blocks that a table uses, and whether they may be.
-/
import Derived.Test.YthibaefoioeghaaPlTwice
namespace Go.Proofs.Ythibaefoioeghaa
open Go.RowKit
theorem new_oneB (W : World) (o : Obj) (z : Int) : ∀ j u, [Value.int .i64 z][j]? = some u → ((W.alloc o).alloc (.cells #[.int .i64 z] 3)).cell? ((⟨W.heap.size + 1, 0, none⟩ : Addr).add j) = some u := by
  have := new_one (W.alloc o) z
  rwa [World.size_alloc] at this
def dataTo (D : List Int) (k : Nat) : List Int := (D.take k).filter fun x => x != -1
theorem dataTo_le (D : List Int) (k : Nat) : (dataTo D k).length ≤ k := by
  have h1 := List.length_filter_le (fun x : Int => x != -1) (D.take k)
  have h2 := List.length_take_le k D
  unfold dataTo; omega
theorem dataTo_yes {D : List Int} {k : Nat} (h : k < D.length) (hx : eI D k ≠ -1) : dataTo D (k + 1) = dataTo D k ++ [eI D k] := by
  have hx' : (eI D k != -1) = true := by simpa using hx
  unfold dataTo
  rw [takeI_succ D k h, List.filter_append]
  simp [hx']
theorem dataTo_no {D : List Int} {k : Nat} (h : k < D.length) (hx : eI D k = -1) : dataTo D (k + 1) = dataTo D k := by
  unfold dataTo
  rw [takeI_succ D k h, List.filter_append]
  simp [hx]
theorem dataTo_all {D : List Int} {k : Nat} (h : D.length ≤ k) : dataTo D k = D.filter fun x => x != -1 := by unfold dataTo; rw [List.take_of_length_le h]
def seqL (T : Tab) : List Int := if T.sp = -1 then [] else [T.sp]
/-- The blocks that a table uses. -/
def blocksL (T : Tab) : List Int := (T.data.filter fun x => x != -1) ++ seqL T ++ T.logs.map (·.phys)
theorem physTo_succ {L : List LogS} {k : Nat} {l : LogS} (h : L[k]? = some l) : (L.take (k + 1)).map (·.phys) = (L.take k).map (·.phys) ++ [l.phys] := by
  have hk := (List.getElem?_eq_some_iff.1 h)
  rw [List.take_succ_eq_append_getElem hk.1, List.map_append, hk.2]
  rfl
set_option linter.unusedSimpArgs false in
set_option maxRecDepth 100000 in
set_option maxHeartbeats 4000000 in
theorem blocksOf_any (V : TabV) (T : Tab) (w : World) (h : TabIn w V T) (hn : V.nd ≤ 100000) (hm : V.nl ≤ 100000) :
    Calls Try.prog 68 #[.agg (tabA V T)] w fun e w' => ∃ p c, e = .returned (.slice p (blocksL T).length c) ∧ w'.ownsRow w.heap.size 3 1 (.slice p (blocksL T).length c) (blocksL T).length (valsI (blocksL T)) ∧ Below w.heap.size w w' := by
  obtain ⟨i0, hi, hz0, hz1, hz2⟩ := info_parts info3
  have hb0 := below_alloc w (.cells (tabA V T) 28)
  have b0 := Blk.new' w 28 (tabA V T)
  have hlt0 := b0.lt
  have hT := h.below hb0
  have hs := fun w => hasSeq_any V T w
  unfold tabA at hs hb0 b0 hT hlt0 ⊢
  have HLD : Hid (T.data.length = V.nd) := hT.data.len
  have HLL : Hid (T.logs.length = V.nl) := hT.logs.len
  go_enter Try.func68, Try.ntmps68
  go_upto_region 2 with fail
  generalize hW : w.alloc (.cells #[.int .i64 T.pages, .int .i64 T.logical, .int .i64 T.k, .slice V.pd V.nd V.cd, .slice V.ph V.nh V.ch, .int .i64 T.sp, .int .i64 T.sl, .int .i64 T.su, .slice V.pl V.nl V.cl] 28) = W at *
  clear hW
  have z3 := b0.cell' (i := 3) rfl
  go_wp2_with fail
  have HWS : Hid (w.heap.size ≤ W.heap.size) := hb0.size
  generalize hB0 : W.heap.size = B0 at *
  go_loopw [3, 11] (fun v i wr => ∃ (k : Nat) (pv : Option Addr) (cv : Nat), k ≤ V.nd ∧ i = .int .i64 k ∧ v = .slice pv (dataTo T.data k).length cv ∧ wr.ownsRow B0 3 1 (.slice pv (dataTo T.data k).length cv) (dataTo T.data k).length (valsI (dataTo T.data k)) ∧ Below B0 W wr) (fun _ i _ => V.nd - (intOf i).toNat)
  case atStart => exact ⟨0, none, 0, Nat.zero_le _, rfl, rfl, World.ownsRow_nil _ _ _ _, Below.refl _ _⟩
  case round =>
    obtain ⟨k, pv, cv, hk, rfl, rfl, hown, hbk⟩ := hrel
    have hle := dataTo_le T.data k
    obtain ⟨L, hL⟩ : ∃ L, (dataTo T.data k).length = L := ⟨_, rfl⟩
    rw [hL] at hown hle ⊢
    have HL2 : Hid ((dataTo T.data k).length = L) := hL
    clear hL z3
    by_cases hlt : k < V.nd
    · have hD := hT.data.below (hbk.mono (Nat.le_of_eq hB0))
      obtain ⟨bp, op, hp, hltp, hcp⟩ := hD.at' (by omega)
      have ck := hcp k hlt
      have hk1 : (k : Int) < (V.nd : Int) := by omega
      rw [hp]
      clear hp hcp hD
      by_cases hx : eI T.data k = -1
      · have HI : Hid (dataTo T.data (k + 1) = dataTo T.data k) := dataTo_no (by rw [HLD.out]; exact hlt) hx
        rw [hx] at ck
        clear hx
        go_wp2_with fail
        go_roundw
        case rel => exact ⟨k + 1, pv, cv, by omega, by go_num, by rw [HI.out, HL2.out], by rw [HI.out, HL2.out]; exact hown, hbk⟩
        case measure => simp [intOf]; omega
      · have HI : Hid (dataTo T.data (k + 1) = dataTo T.data k ++ [eI T.data k]) := dataTo_yes (by rw [HLD.out]; exact hlt) hx
        have hx' : (eI T.data k != -1) = true := by simpa using hx
        clear hx
        generalize eI T.data k = x at *
        go_wp2_with (at_builtin; refine wpList_append_own _ rfl (.tmp 17) (.tmp 19) 22 rfl B0 3 i0 (.int .i64 0) 1 8 Try.underlying22 hi hz0 hz1 hz2 rfl (by decide) (.slice pv L cv) L (valsI (dataTo T.data k)) rfl (hown.alloc _) ⟨wr.heap.size, 0, none⟩ 1 1 [.int .i64 x] rfl rfl (new_one _ _) (by simp [Value.oneCell']) (by unfold maxLen; omega) (by omega) (by have := hbk.size; rw [World.size_alloc]; omega) ?_; intro v1 w2 hown2 hgrow2 _; obtain ⟨p2, c2, rfl⟩ := snoc_form hown2 (by omega))
        have hbn : Below B0 W w2 := (hbk.alloc (by have := hbk.size; omega) _).grown hgrow2 (by have := hbk.size; rw [World.size_alloc]; omega) (fun j hj => (hown.lt j hj).1)
        rw [valsI_snoc] at hown2
        go_roundw
        case rel => exact ⟨k + 1, p2, c2, by omega, by go_num, by rw [HI.out, List.length_append, HL2.out]; rfl, by rw [HI.out, List.length_append, HL2.out]; exact hown2, hbn⟩
        case measure => simp [intOf]; omega
    · obtain rfl : k = V.nd := by omega
      have HDA : Hid (dataTo T.data V.nd = T.data.filter fun x => x != -1) := dataTo_all (by rw [HLD.out]; exact Nat.le_refl _)
      have HS1 : Hid ((dataTo T.data V.nd ++ seqL T).length ≤ V.nd + 1) := by show _ ≤ _; rw [List.length_append, HL2.out]; unfold seqL; split <;> simp <;> omega
      have b1 := b0.below hbk (by omega)
      have z0 := b1.cell' (i := 0) rfl; have z1 := b1.cell' (i := 1) rfl; have z2 := b1.cell' (i := 2) rfl; have z3 := b1.cell' (i := 3) rfl; have z4 := b1.cell' (i := 4) rfl; have z5 := b1.cell' (i := 5) rfl; have z6 := b1.cell' (i := 6) rfl; have z7 := b1.cell' (i := 7) rfl; have z8 := b1.cell' (i := 8) rfl
      go_upto_if 23 with (go_at_call 57; refine (hs _).mono ?_; rintro e w1 ⟨rfl, hb1⟩)
      have hb1' := hbk.trans (hb1.mono (by have := hbk.size; omega))
      have hown1 := owns_below hown hb1
      have b2 := b1.kept hb1
      clear hown hbk b1 hb1 hs z0 z1 z2 z3 z4 z5 z6 z7 z8
      go_cut [3] from 8 to 43 (fun v wc => ∃ pv cv, v = .slice pv (dataTo T.data V.nd ++ seqL T).length cv ∧ wc.ownsRow B0 3 1 (.slice pv (dataTo T.data V.nd ++ seqL T).length cv) (dataTo T.data V.nd ++ seqL T).length (valsI (dataTo T.data V.nd ++ seqL T)) ∧ Below B0 W wc)
      case first =>
        by_cases hx : T.sp = -1
        · have HE : Hid (dataTo T.data V.nd ++ seqL T = dataTo T.data V.nd) := by show _ = _; unfold seqL; rw [if_pos hx, List.append_nil]
          have hx' : (T.sp != -1) = false := by simpa using hx
          clear hx
          go_wp2_with fail
          go_meet
          case rel => exact ⟨pv, cv, by rw [HE.out, HL2.out], by rw [HE.out, HL2.out]; exact hown1, hb1'⟩
        · have HE : Hid (dataTo T.data V.nd ++ seqL T = dataTo T.data V.nd ++ [T.sp]) := by show _ = _; unfold seqL; rw [if_neg hx]
          have hx' : (T.sp != -1) = true := by simpa using hx
          have y5 := b2.cell' (i := 5) rfl
          clear hx
          generalize dataTo T.data V.nd = DD at *
          go_wp2_with (at_builtin; refine wpList_append_own _ rfl (.tmp 24) (.tmp 28) 22 rfl B0 3 i0 (.int .i64 0) 1 8 Try.underlying22 hi hz0 hz1 hz2 rfl (by decide) (.slice pv L cv) L (valsI DD) rfl (hown1.alloc _) ⟨w1.heap.size, 0, none⟩ 1 1 [.int .i64 T.sp] rfl rfl (new_one _ _) (by simp [Value.oneCell']) (by unfold maxLen; omega) (by omega) (by have := hb1'.size; rw [World.size_alloc]; omega) ?_; intro v1 w2 hown2 hgrow2 _; obtain ⟨p2, c2, rfl⟩ := snoc_form hown2 (by omega))
          have hbn : Below B0 W w2 := (hb1'.alloc (by have := hb1'.size; omega) _).grown hgrow2 (by have := hb1'.size; rw [World.size_alloc]; omega) (fun j hj => (hown1.lt j hj).1)
          rw [valsI_snoc] at hown2
          go_meet
          case rel => exact ⟨p2, c2, by rw [HE.out, List.length_append, HL2.out]; rfl, by rw [HE.out, List.length_append, HL2.out]; exact hown2, hbn⟩
      case rest =>
        obtain ⟨pv, cv, rfl, hown, hbk⟩ := hcut
        clear hown1 hb1' b2
        obtain ⟨DD, hDDe⟩ : ∃ DD, dataTo T.data V.nd ++ seqL T = DD := ⟨_, rfl⟩
        have HDD : Hid (dataTo T.data V.nd ++ seqL T = DD) := hDDe
        rw [hDDe] at hown HS1 ⊢
        clear hDDe
        have b1 := b0.below hbk (by omega)
        have z8 := b1.cell' (i := 8) rfl
        go_wp2_with fail
        go_loopw [3, 33] (fun v i wr => ∃ (k : Nat) (pv : Option Addr) (cv : Nat), k ≤ V.nl ∧ i = .int .i64 k ∧ v = .slice pv (DD.length + k) cv ∧ wr.ownsRow B0 3 1 (.slice pv (DD.length + k) cv) (DD.length + k) (valsI (DD ++ (T.logs.take k).map (·.phys))) ∧ Below B0 W wr) (fun _ i _ => V.nl - (intOf i).toNat)
        case atStart => exact ⟨0, pv, cv, Nat.zero_le _, rfl, rfl, by simpa using hown, hbk⟩
        case round =>
          clear hown hbk b1 z8
          obtain ⟨k, pv, cv, hk, rfl, rfl, hown, hbk⟩ := hrel
          have hDD := HS1.out
          obtain ⟨L, hL⟩ : ∃ L, DD.length + k = L := ⟨_, rfl⟩
          rw [hL] at hown ⊢
          have HL3 : Hid (DD.length + k = L) := hL
          have hLn : L ≤ 300000 := by omega
          clear hL hDD
          by_cases hlt : k < V.nl
          · have hLg := hT.logs.below (hbk.mono (Nat.le_of_eq hB0))
            obtain ⟨bp, op, hp, hltp, hcp⟩ := hLg.at' (by omega)
            obtain ⟨l, hl⟩ : ∃ l, T.logs[k]? = some l := ⟨_, List.getElem?_eq_getElem (by rw [HLL.out]; exact hlt)⟩
            obtain ⟨q, m, d, c0, c1, -⟩ := hcp k l hl
            have HI : Hid (DD ++ (T.logs.take (k + 1)).map (·.phys) = DD ++ (T.logs.take k).map (·.phys) ++ [l.phys]) := by show _ = _; rw [physTo_succ hl, List.append_assoc]
            have hk1 : (k : Int) < (V.nl : Int) := by omega
            rw [hp]
            clear hp hcp hLg hl
            generalize l.phys = x at *
            generalize DD ++ (T.logs.take k).map (·.phys) = EE at *
            go_wp2_with (at_builtin; refine wpList_append_own _ rfl (.tmp 37) (.tmp 40) 22 rfl B0 3 i0 (.int .i64 0) 1 8 Try.underlying22 hi hz0 hz1 hz2 rfl (by decide) (.slice pv L cv) L (valsI EE) rfl ((hown.alloc _).alloc _) ⟨(wr.heap.size + 1), 0, none⟩ 1 1 [.int .i64 x] rfl rfl (new_oneB _ _ _) (by simp [Value.oneCell']) (by unfold maxLen; omega) (by omega) (by have := hbk.size; rw [World.size_alloc, World.size_alloc]; omega) ?_; intro v1 w2 hown2 hgrow2 _; obtain ⟨p2, c2, rfl⟩ := snoc_form hown2 (by omega))
            have hbn : Below B0 W w2 := ((hbk.alloc (by have := hbk.size; omega) _).alloc (by have := hbk.size; rw [World.size_alloc]; omega) _).grown hgrow2 (by have := hbk.size; rw [World.size_alloc, World.size_alloc]; omega) (fun j hj => (hown.lt j hj).1)
            rw [valsI_snoc] at hown2
            go_roundw
            case rel => exact ⟨k + 1, p2, c2, by omega, by go_num, by rw [← Nat.add_assoc, HL3.out], by rw [← Nat.add_assoc, HL3.out, HI.out]; exact hown2, hbn⟩
            case measure => simp [intOf]; omega
          · obtain rfl : k = V.nl := by omega
            have HR : Hid (DD ++ (T.logs.take V.nl).map (·.phys) = blocksL T ∧ L = (blocksL T).length) := by
              have e : DD ++ (T.logs.take V.nl).map (·.phys) = blocksL T := by
                unfold blocksL
                rw [← HDA.out, HDD.out, List.take_of_length_le (by rw [HLL.out]; exact Nat.le_refl _)]
              refine ⟨e, ?_⟩
              rw [← e, ← HL3.out, List.length_append, List.length_map, List.length_take, HLL.out, Nat.min_self]
            go_wp2_with fail
            go_ret
            rw [HR.out.1] at hown
            have e2 := HR.out.2
            rw [e2] at hown ⊢
            exact ⟨pv, cv, rfl, owns_mono hown HWS.out, hb0.trans ((hbk.mono (by omega)))⟩
/-- Whether all are numbers of blocks. -/
def okBl (T : Tab) : Bool := (blocksL T).all fun x => decide (0 ≤ x) && decide (x ≤ 255)
def okBlocks (T : Tab) : Bool := okBl T && !twice (blocksL T)
set_option linter.unusedSimpArgs false in
set_option maxRecDepth 100000 in
set_option maxHeartbeats 4000000 in
theorem blocksMayBe_any (V : TabV) (T : Tab) (w : World) (h : TabIn w V T) (hn : V.nd ≤ 100000) (hm : V.nl ≤ 100000) :
    Calls Try.prog 48 #[.agg (tabA V T)] w fun e w' => e = .returned (.bool (okBlocks T)) ∧ Below w.heap.size w w' := by
  have hb0 := below_alloc w (.cells (tabA V T) 28)
  have hbl := blocksOf_any V T _ (h.below hb0) hn hm
  have HLN : Hid ((blocksL T).length ≤ 300000) := by
    show _ ≤ _
    have h1 := List.length_filter_le (fun x : Int => x != -1) T.data
    have h2 := h.data.len
    have h3 := h.logs.len
    have h4 : (seqL T).length ≤ 1 := by unfold seqL; split <;> simp
    unfold blocksL
    rw [List.length_append, List.length_append, List.length_map]
    omega
  have HQ : Hid (okBlocks T = ((blocksL T).all (fun x => decide (0 ≤ x) && decide (x ≤ 255)) && !twice (blocksL T))) := rfl
  unfold tabA at hb0 hbl ⊢
  generalize blocksL T = xs at *
  obtain ⟨n, hxn⟩ : ∃ n, xs.length = n := ⟨_, rfl⟩
  rw [hxn] at hbl HLN
  have HX : Hid (xs.length = n) := hxn
  have hn3 := HLN.out
  clear hxn
  go_enter Try.func48, Try.ntmps48
  go_upto_region 2 with (go_at_call 68; refine hbl.mono ?_; rintro e w1 ⟨p, c, rfl, hown, hb1⟩)
  have hB1 := bt hb0 hb1
  obtain ⟨p', c', hpp, hin⟩ := in_of_ownsI hown (by omega)
  injection hpp with e1 _ e2
  subst e1 e2
  have htw := hasTwice_any _ p n c xs w1 hown (by omega) hb1.size
  have HSZ : Hid (w.heap.size ≤ (w.alloc (.cells #[.int .i64 T.pages, .int .i64 T.logical, .int .i64 T.k, .slice V.pd V.nd V.cd, .slice V.ph V.nh V.ch, .int .i64 T.sp, .int .i64 T.sl, .int .i64 T.su, .slice V.pl V.nl V.cl] 28)).heap.size) := hb0.size
  generalize (w.alloc (.cells #[.int .i64 T.pages, .int .i64 T.logical, .int .i64 T.k, .slice V.pd V.nd V.cd, .slice V.ph V.nh V.ch, .int .i64 T.sp, .int .i64 T.sl, .int .i64 T.su, .slice V.pl V.nl V.cl] 28)).heap.size = B at *
  clear hb1
  go_wp2_with fail
  go_loopw [10] (fun i wr => ∃ k : Nat, k ≤ n ∧ i = .int .i64 k ∧ wr = w1 ∧ ∀ j, j < k → (decide (0 ≤ eI xs j) && decide (eI xs j ≤ 255)) = true) (fun i _ => n - (intOf i).toNat)
  case atStart => exact ⟨0, Nat.zero_le _, rfl, rfl, fun j h => by omega⟩
  case round =>
    obtain ⟨k, hk, rfl, hwr, hall⟩ := hrel
    subst hwr
    have HA : Hid (∀ j, j < k → (decide (0 ≤ eI xs j) && decide (eI xs j ≤ 255)) = true) := hall
    clear hall
    by_cases hlt : k < n
    · obtain ⟨b, o, rfl, hb, hc⟩ := hin.at' (by omega)
      have ck := hc k hlt
      have hk1 : (k : Int) < (n : Int) := by omega
      have hw := fun w => within_any (eI xs k) 0 255 w
      cases hq : (decide (0 ≤ eI xs k) && decide (eI xs k ≤ 255)) with
      | true =>
        rw [hq] at hw
        have HK : Hid ((decide (0 ≤ eI xs k) && decide (eI xs k ≤ 255)) = true) := hq
        clear hq hc
        go_wp2_with (go_at_call 66; refine (hw _).mono ?_; rintro e w' ⟨rfl, hw'⟩; have hw2 := hw'.symm; subst hw2; clear hw')
        go_roundw
        case rel =>
          refine ⟨k + 1, by omega, by go_num, trivial, fun j hj => ?_⟩
          rcases Nat.lt_succ_iff_lt_or_eq.1 hj with h' | h'
          · exact HA.out j h'
          · rw [h']; exact HK.out
        case measure => simp [intOf]; omega
      | false =>
        rw [hq] at hw
        have HN : Hid (okBlocks T = false) := by
          show _ = _
          rw [HQ.out, all_of_not (f := fun x => decide (0 ≤ x) && decide (x ≤ 255)) (by rw [HX.out]; exact hlt) hq]; rfl
        clear hq hc
        go_wp2_with (go_at_call 66; refine (hw _).mono ?_; rintro e w' ⟨rfl, hw'⟩; have hw2 := hw'.symm; subst hw2; clear hw')
        go_ret
        exact ⟨ret_bool HN.out.symm, hB1⟩
    · obtain rfl : k = n := by omega
      have HN : Hid (okBlocks T = !twice xs) := by
        show _ = _
        rw [HQ.out, eI_all.2 (fun j hj => HA.out j (by rw [HX.out] at hj; exact hj))]; simp
      go_wp2_with (go_at_call 75; refine htw.mono ?_; rintro e w2 ⟨rfl, hb2⟩)
      go_ret
      exact ⟨ret_bool HN.out.symm, hB1.trans (hb2.mono HSZ.out)⟩
end Go.Proofs.Ythibaefoioeghaa
