/-
  What the reference's Diff answers where both may be and the second covers the first.
-/
import Derived.Test.YtpikaagdiafieaaMjDiff
namespace Go.Proofs.Ytpikaagdiafieaa
open Go.RowKit
set_option linter.unusedSimpArgs false in
set_option maxRecDepth 100000 in
set_option maxHeartbeats 8000000 in
theorem rdiff_ok (p : Option Addr) (n c : Nat) (q : Option Addr) (d : Nat) (p' : Option Addr) (c' : Nat) (q' : Option Addr) (d' : Nat) (a b : MS) (w : World) (ha : InS w ⟨p, n, c, q, n, d⟩ a) (hb : InS w ⟨p', n, c', q', n, d'⟩ b) (hoa : okMS a = true) (hob : okMS b = true) (hcov : coversB b a = true) :
    Calls Try.prog 23 #[SV.val ⟨p, n, c, q, n, d⟩ a, SV.val ⟨p', n, c', q', n, d'⟩ b] w (ResR w (diffR a b)) := by
  have h0 := B2.start w ⟨p, n, c, q, n, d⟩ ⟨p', n, c', q', n, d'⟩ a b
  have hca := rcheck_any _ a _ (ha.below h0.bel)
  rw [chkE_ok hoa] at hca
  have hcb := fun W' h' => rcheck_any _ b W' (hb.below h')
  rw [chkE_ok hob] at hcb
  have hcv := fun W' h' => rcovers_any _ _ b a W' (hb.below h') (ha.below h')
  rw [hcov] at hcv
  have HLa : Hid (a.bad.length = n) := ha.b.len
  have HLb : Hid (b.bad.length = n) := hb.b.len
  obtain ⟨⟨ka1, ka2⟩, -⟩ := okMS_iff.1 hoa
  rw [HLa.out] at ka1 ka2
  have E : Hid (diffR a b = (diffTo a b n, 0)) := by
    show _ = _
    unfold diffR
    rw [hoa, hob, hcov, HLb.out]; rfl
  have HLEN : Hid (∀ k, (diffTo a b k).length ≤ 1 + 2 * k) := diffTo_len a b
  obtain ⟨x0, x1, x2⟩ := h0.ba.cells3
  obtain ⟨y0, y1, y2⟩ := h0.bb.cells3
  clear hoa hob hcov
  dsimp only [SV.val] at *
  obtain ⟨gab, oab, rfl, gabl, cab⟩ := ha.b.at' (by dsimp only; omega)
  obtain ⟨gaw, oaw, rfl, gawl, caw⟩ := ha.v.at' (by dsimp only; omega)
  obtain ⟨gbb, obb, rfl, gbbl, cbb⟩ := hb.b.at' (by dsimp only; omega)
  obtain ⟨gbw, obw, rfl, gbwl, cbw⟩ := hb.v.at' (by dsimp only; omega)
  dsimp only at cab caw cbb cbw
  have HF0 : Hid (∀ W, Below w.heap.size w W → ∀ k, k < n → W.cell? ⟨gab, oab + k, none⟩ = some (.bool (eB a.bad k)) ∧ W.cell? ⟨gaw, oaw + k, none⟩ = some (.int .i64 (eI a.wear k)) ∧ W.cell? ⟨gbb, obb + k, none⟩ = some (.bool (eB b.bad k)) ∧ W.cell? ⟨gbw, obw + k, none⟩ = some (.int .i64 (eI b.wear k))) := fun W hW k hk =>
    ⟨(hW.cell (p := ⟨gab, oab + k, none⟩) gabl).trans (cab k hk), (hW.cell (p := ⟨gaw, oaw + k, none⟩) gawl).trans (caw k hk), (hW.cell (p := ⟨gbb, obb + k, none⟩) gbbl).trans (cbb k hk), (hW.cell (p := ⟨gbw, obw + k, none⟩) gbwl).trans (cbw k hk)⟩
  clear cab caw cbb cbw gabl gawl gbbl gbwl
  by_cases hseq : b.seq > a.seq
  · have HD0 : Hid (diffTo a b 0 = [] ++ [⟨3, 0, b.seq⟩]) := by show _ = _; unfold diffTo; rw [if_pos hseq]; rfl
    go_enter Try.func23, Try.ntmps23
    go_wp2_with (first
      | (go_at_call 16; refine hca.mono ?_; rintro e w0 ⟨rfl, hb0⟩; have hh := h0.next hb0; obtain ⟨x0, x1, x2⟩ := hh.ba.cells3; obtain ⟨y0, y1, y2⟩ := hh.bb.cells3; clear hca h0 hb0)
      | (go_at_call 16; refine (hcb _ hh.bel).mono ?_; rintro e w0' ⟨rfl, hb0'⟩; have hg := hh.next hb0'; obtain ⟨x0, x1, x2⟩ := hg.ba.cells3; obtain ⟨y0, y1, y2⟩ := hg.bb.cells3; clear hcb hh hb0')
      | (go_at_call 18; refine (hcv _ hg.bel).mono ?_; rintro e w1 ⟨rfl, hb1⟩; have h1 := hg.next hb1; obtain ⟨x0, x1, x2⟩ := h1.ba.cells3; obtain ⟨y0, y1, y2⟩ := h1.bb.cells3; clear hcv hg hb1)
      | (at_builtin; refine wpList_append_rec rfl (.tmp 25) (.tmp 29) rfl w1.heap.size _ [] ⟨3, 0, b.seq⟩ _ rfl (nilR _ _) rfl (by simp) (Nat.le_refl _) ?_; intro v2 w2 own2 hb2; have hh2 := h1.next hb2; obtain ⟨x0, x1, x2⟩ := hh2.ba.cells3; obtain ⟨y0, y1, y2⟩ := hh2.bb.cells3))
    have HF : Hid (∀ W, Below w1.heap.size w1 W → ∀ k, k < n → W.cell? ⟨gab, oab + k, none⟩ = some (.bool (eB a.bad k)) ∧ W.cell? ⟨gaw, oaw + k, none⟩ = some (.int .i64 (eI a.wear k)) ∧ W.cell? ⟨gbb, obb + k, none⟩ = some (.bool (eB b.bad k)) ∧ W.cell? ⟨gbw, obw + k, none⟩ = some (.int .i64 (eI b.wear k))) := fun W hW => HF0.out W (bt h1.bel hW)
    go_loopw [6, 7] (fun lv i wr => ∃ k : Nat, k ≤ n ∧ i = .int .i64 k ∧ ∃ v, lv = v ∧ wr.ownsRow w1.heap.size 65 3 v (diffTo a b k).length (flatM (diffTo a b k)) ∧ Below w1.heap.size w1 wr) (fun _ i _ => n - (intOf i).toNat)
    case atStart => exact ⟨0, Nat.zero_le _, rfl, _, rfl, by rw [HD0.out]; exact own2, hb2⟩
    case round =>
      obtain ⟨k, hk, rfl, v, hv, hown, hbel⟩ := hrel
      have hv2 := hv.symm
      clear hv
      subst hv2
      have HOWN : Hid (wr.ownsRow w1.heap.size 65 3 v (diffTo a b k).length (flatM (diffTo a b k))) := hown
      clear hown
      have hw := h1.next hbel
      obtain ⟨x0, x1, x2⟩ := hw.ba.cells3
      obtain ⟨y0, y1, y2⟩ := hw.bb.cells3
      have hszr := hbel.size
      by_cases hlt : k < n
      · obtain ⟨f1, f2, f3, f4⟩ := HF.out wr hbel k hlt
        have hki : (k : Int) < (n : Int) := by omega
        by_cases hgt : eI b.wear k > eI a.wear k
        · cases hbk : eB b.bad k with
          | true =>
            rw [hbk] at f3
            cases hak : eB a.bad k with
            | true =>
              rw [hak] at f1
              have HD : Hid (diffTo a b (k + 1) = (diffTo a b k ++ []) ++ [(⟨2, (k : Int), eI b.wear k⟩ : MR)]) := by show _ = _; rw [diffTo_succ, List.append_assoc]; congr 1; unfold diffAt; rw [hbk, hak, if_pos hgt]; rfl
              clear hbk hak
              go_upto_region 13 with fail
              have HOWN5 : Hid (wr.ownsRow w1.heap.size 65 3 v (diffTo a b k ++ []).length (flatM (diffTo a b k ++ []))) := by show World.ownsRow _ _ _ _ _ _ _; rw [List.append_nil]; exact HOWN.out
              have hbel5 := hbel
              have hsz5 := hbel5.size
              clear HOWN
              go_quiet (fail)
              go_wp2_with (at_builtin; refine wpList_append_rec rfl (.tmp 74) (.tmp 82) rfl w1.heap.size _ (diffTo a b k ++ []) ⟨2, (k : Int), eI b.wear k⟩ _ rfl (owns_below HOWN5.out (below_drewN (Below.refl _ _) _)) rfl (by have := HLEN.out k; rw [List.length_append]; simp; omega) hsz5 ?_; intro v6 w6 own6 hb6)
              have HOWN6 : Hid (w6.ownsRow w1.heap.size 65 3 v6 ((diffTo a b k ++ []) ++ [(⟨2, (k : Int), eI b.wear k⟩ : MR)]).length (flatM ((diffTo a b k ++ []) ++ [(⟨2, (k : Int), eI b.wear k⟩ : MR)]))) := own6
              clear own6
              go_roundw
              case rel =>
                refine ⟨k + 1, by omega, by go_num, v6, rfl, ?_, (below_drewN hbel5 _).trans hb6⟩
                rw [HD.out]; exact HOWN6.out
              case measure => simp [intOf]; omega
            | false =>
              rw [hak] at f1
              have HD : Hid (diffTo a b (k + 1) = (diffTo a b k ++ [(⟨1, (k : Int), 0⟩ : MR)]) ++ [(⟨2, (k : Int), eI b.wear k⟩ : MR)]) := by show _ = _; rw [diffTo_succ, List.append_assoc]; congr 1; unfold diffAt; rw [hbk, hak, if_pos hgt]; rfl
              clear hbk hak
              go_upto_region 13 with (at_builtin; refine wpList_append_rec rfl (.tmp 58) (.tmp 61) rfl w1.heap.size _ (diffTo a b k) ⟨1, (k : Int), 0⟩ _ rfl HOWN.out rfl (by have := HLEN.out k; omega) hszr ?_; intro v5 w5 own5 hb5)
              have HOWN5 : Hid (w5.ownsRow w1.heap.size 65 3 v5 (diffTo a b k ++ [(⟨1, (k : Int), 0⟩ : MR)]).length (flatM (diffTo a b k ++ [(⟨1, (k : Int), 0⟩ : MR)]))) := own5
              have hbel5 := hbel.trans hb5
              have hsz5 := hbel5.size
              obtain ⟨f1, f2, f3, f4⟩ := HF.out w5 hbel5 k hlt
              have h5 := h1.next hbel5
              obtain ⟨x0, x1, x2⟩ := h5.ba.cells3; obtain ⟨y0, y1, y2⟩ := h5.bb.cells3
              clear own5 HOWN
              go_quiet (fail)
              go_wp2_with (at_builtin; refine wpList_append_rec rfl (.tmp 74) (.tmp 82) rfl w1.heap.size _ (diffTo a b k ++ [(⟨1, (k : Int), 0⟩ : MR)]) ⟨2, (k : Int), eI b.wear k⟩ _ rfl (owns_below HOWN5.out (below_drewN (Below.refl _ _) _)) rfl (by have := HLEN.out k; rw [List.length_append]; simp; omega) hsz5 ?_; intro v6 w6 own6 hb6)
              have HOWN6 : Hid (w6.ownsRow w1.heap.size 65 3 v6 ((diffTo a b k ++ [(⟨1, (k : Int), 0⟩ : MR)]) ++ [(⟨2, (k : Int), eI b.wear k⟩ : MR)]).length (flatM ((diffTo a b k ++ [(⟨1, (k : Int), 0⟩ : MR)]) ++ [(⟨2, (k : Int), eI b.wear k⟩ : MR)]))) := own6
              clear own6
              go_roundw
              case rel =>
                refine ⟨k + 1, by omega, by go_num, v6, rfl, ?_, (below_drewN hbel5 _).trans hb6⟩
                rw [HD.out]; exact HOWN6.out
              case measure => simp [intOf]; omega
          | false =>
            rw [hbk] at f3
            cases hak : eB a.bad k with
            | true =>
              rw [hak] at f1
              have HD : Hid (diffTo a b (k + 1) = (diffTo a b k ++ []) ++ [(⟨2, (k : Int), eI b.wear k⟩ : MR)]) := by show _ = _; rw [diffTo_succ, List.append_assoc]; congr 1; unfold diffAt; rw [hbk, hak, if_pos hgt]; rfl
              clear hbk hak
              go_upto_region 13 with fail
              have HOWN5 : Hid (wr.ownsRow w1.heap.size 65 3 v (diffTo a b k ++ []).length (flatM (diffTo a b k ++ []))) := by show World.ownsRow _ _ _ _ _ _ _; rw [List.append_nil]; exact HOWN.out
              have hbel5 := hbel
              have hsz5 := hbel5.size
              clear HOWN
              go_quiet (fail)
              go_wp2_with (at_builtin; refine wpList_append_rec rfl (.tmp 74) (.tmp 82) rfl w1.heap.size _ (diffTo a b k ++ []) ⟨2, (k : Int), eI b.wear k⟩ _ rfl (owns_below HOWN5.out (below_drewN (Below.refl _ _) _)) rfl (by have := HLEN.out k; rw [List.length_append]; simp; omega) hsz5 ?_; intro v6 w6 own6 hb6)
              have HOWN6 : Hid (w6.ownsRow w1.heap.size 65 3 v6 ((diffTo a b k ++ []) ++ [(⟨2, (k : Int), eI b.wear k⟩ : MR)]).length (flatM ((diffTo a b k ++ []) ++ [(⟨2, (k : Int), eI b.wear k⟩ : MR)]))) := own6
              clear own6
              go_roundw
              case rel =>
                refine ⟨k + 1, by omega, by go_num, v6, rfl, ?_, (below_drewN hbel5 _).trans hb6⟩
                rw [HD.out]; exact HOWN6.out
              case measure => simp [intOf]; omega
            | false =>
              rw [hak] at f1
              have HD : Hid (diffTo a b (k + 1) = (diffTo a b k ++ []) ++ [(⟨2, (k : Int), eI b.wear k⟩ : MR)]) := by show _ = _; rw [diffTo_succ, List.append_assoc]; congr 1; unfold diffAt; rw [hbk, hak, if_pos hgt]; rfl
              clear hbk hak
              go_upto_region 13 with fail
              have HOWN5 : Hid (wr.ownsRow w1.heap.size 65 3 v (diffTo a b k ++ []).length (flatM (diffTo a b k ++ []))) := by show World.ownsRow _ _ _ _ _ _ _; rw [List.append_nil]; exact HOWN.out
              have hbel5 := hbel
              have hsz5 := hbel5.size
              clear HOWN
              go_quiet (fail)
              go_wp2_with (at_builtin; refine wpList_append_rec rfl (.tmp 74) (.tmp 82) rfl w1.heap.size _ (diffTo a b k ++ []) ⟨2, (k : Int), eI b.wear k⟩ _ rfl (owns_below HOWN5.out (below_drewN (Below.refl _ _) _)) rfl (by have := HLEN.out k; rw [List.length_append]; simp; omega) hsz5 ?_; intro v6 w6 own6 hb6)
              have HOWN6 : Hid (w6.ownsRow w1.heap.size 65 3 v6 ((diffTo a b k ++ []) ++ [(⟨2, (k : Int), eI b.wear k⟩ : MR)]).length (flatM ((diffTo a b k ++ []) ++ [(⟨2, (k : Int), eI b.wear k⟩ : MR)]))) := own6
              clear own6
              go_roundw
              case rel =>
                refine ⟨k + 1, by omega, by go_num, v6, rfl, ?_, (below_drewN hbel5 _).trans hb6⟩
                rw [HD.out]; exact HOWN6.out
              case measure => simp [intOf]; omega
        · cases hbk : eB b.bad k with
          | true =>
            rw [hbk] at f3
            cases hak : eB a.bad k with
            | true =>
              rw [hak] at f1
              have HD : Hid (diffTo a b (k + 1) = (diffTo a b k ++ []) ++ []) := by show _ = _; rw [diffTo_succ, List.append_assoc]; congr 1; unfold diffAt; rw [hbk, hak, if_neg hgt]; rfl
              clear hbk hak
              go_upto_region 13 with fail
              have HOWN5 : Hid (wr.ownsRow w1.heap.size 65 3 v (diffTo a b k ++ []).length (flatM (diffTo a b k ++ []))) := by show World.ownsRow _ _ _ _ _ _ _; rw [List.append_nil]; exact HOWN.out
              have hbel5 := hbel
              have hsz5 := hbel5.size
              clear HOWN
              go_quiet (fail)
              go_wp2
              go_roundw
              case rel =>
                refine ⟨k + 1, by omega, by go_num, v, rfl, ?_, below_drewN hbel5 _⟩
                rw [HD.out, List.append_nil]; exact owns_below HOWN5.out (below_drewN (Below.refl _ _) _)
              case measure => simp [intOf]; omega
            | false =>
              rw [hak] at f1
              have HD : Hid (diffTo a b (k + 1) = (diffTo a b k ++ [(⟨1, (k : Int), 0⟩ : MR)]) ++ []) := by show _ = _; rw [diffTo_succ, List.append_assoc]; congr 1; unfold diffAt; rw [hbk, hak, if_neg hgt]; rfl
              clear hbk hak
              go_upto_region 13 with (at_builtin; refine wpList_append_rec rfl (.tmp 58) (.tmp 61) rfl w1.heap.size _ (diffTo a b k) ⟨1, (k : Int), 0⟩ _ rfl HOWN.out rfl (by have := HLEN.out k; omega) hszr ?_; intro v5 w5 own5 hb5)
              have HOWN5 : Hid (w5.ownsRow w1.heap.size 65 3 v5 (diffTo a b k ++ [(⟨1, (k : Int), 0⟩ : MR)]).length (flatM (diffTo a b k ++ [(⟨1, (k : Int), 0⟩ : MR)]))) := own5
              have hbel5 := hbel.trans hb5
              have hsz5 := hbel5.size
              obtain ⟨f1, f2, f3, f4⟩ := HF.out w5 hbel5 k hlt
              have h5 := h1.next hbel5
              obtain ⟨x0, x1, x2⟩ := h5.ba.cells3; obtain ⟨y0, y1, y2⟩ := h5.bb.cells3
              clear own5 HOWN
              go_quiet (fail)
              go_wp2
              go_roundw
              case rel =>
                refine ⟨k + 1, by omega, by go_num, v5, rfl, ?_, below_drewN hbel5 _⟩
                rw [HD.out, List.append_nil]; exact owns_below HOWN5.out (below_drewN (Below.refl _ _) _)
              case measure => simp [intOf]; omega
          | false =>
            rw [hbk] at f3
            cases hak : eB a.bad k with
            | true =>
              rw [hak] at f1
              have HD : Hid (diffTo a b (k + 1) = (diffTo a b k ++ []) ++ []) := by show _ = _; rw [diffTo_succ, List.append_assoc]; congr 1; unfold diffAt; rw [hbk, hak, if_neg hgt]; rfl
              clear hbk hak
              go_upto_region 13 with fail
              have HOWN5 : Hid (wr.ownsRow w1.heap.size 65 3 v (diffTo a b k ++ []).length (flatM (diffTo a b k ++ []))) := by show World.ownsRow _ _ _ _ _ _ _; rw [List.append_nil]; exact HOWN.out
              have hbel5 := hbel
              have hsz5 := hbel5.size
              clear HOWN
              go_quiet (fail)
              go_wp2
              go_roundw
              case rel =>
                refine ⟨k + 1, by omega, by go_num, v, rfl, ?_, below_drewN hbel5 _⟩
                rw [HD.out, List.append_nil]; exact owns_below HOWN5.out (below_drewN (Below.refl _ _) _)
              case measure => simp [intOf]; omega
            | false =>
              rw [hak] at f1
              have HD : Hid (diffTo a b (k + 1) = (diffTo a b k ++ []) ++ []) := by show _ = _; rw [diffTo_succ, List.append_assoc]; congr 1; unfold diffAt; rw [hbk, hak, if_neg hgt]; rfl
              clear hbk hak
              go_upto_region 13 with fail
              have HOWN5 : Hid (wr.ownsRow w1.heap.size 65 3 v (diffTo a b k ++ []).length (flatM (diffTo a b k ++ []))) := by show World.ownsRow _ _ _ _ _ _ _; rw [List.append_nil]; exact HOWN.out
              have hbel5 := hbel
              have hsz5 := hbel5.size
              clear HOWN
              go_quiet (fail)
              go_wp2
              go_roundw
              case rel =>
                refine ⟨k + 1, by omega, by go_num, v, rfl, ?_, below_drewN hbel5 _⟩
                rw [HD.out, List.append_nil]; exact owns_below HOWN5.out (below_drewN (Below.refl _ _) _)
              case measure => simp [intOf]; omega
      · have hkn : k = n := by omega
        subst hkn
        go_wp2
        go_ret2
        rw [E.out]
        exact ⟨_, rfl, owns_mono HOWN.out h1.bel.size, hw.bel⟩
  · have HD0 : Hid (diffTo a b 0 = []) := by show _ = _; unfold diffTo; rw [if_neg hseq]; rfl
    go_enter Try.func23, Try.ntmps23
    go_wp2_with (first
      | (go_at_call 16; refine hca.mono ?_; rintro e w0 ⟨rfl, hb0⟩; have hh := h0.next hb0; obtain ⟨x0, x1, x2⟩ := hh.ba.cells3; obtain ⟨y0, y1, y2⟩ := hh.bb.cells3; clear hca h0 hb0)
      | (go_at_call 16; refine (hcb _ hh.bel).mono ?_; rintro e w0' ⟨rfl, hb0'⟩; have hg := hh.next hb0'; obtain ⟨x0, x1, x2⟩ := hg.ba.cells3; obtain ⟨y0, y1, y2⟩ := hg.bb.cells3; clear hcb hh hb0')
      | (go_at_call 18; refine (hcv _ hg.bel).mono ?_; rintro e w1 ⟨rfl, hb1⟩; have h1 := hg.next hb1; obtain ⟨x0, x1, x2⟩ := h1.ba.cells3; obtain ⟨y0, y1, y2⟩ := h1.bb.cells3; clear hcv hg hb1))
    have HF : Hid (∀ W, Below w1.heap.size w1 W → ∀ k, k < n → W.cell? ⟨gab, oab + k, none⟩ = some (.bool (eB a.bad k)) ∧ W.cell? ⟨gaw, oaw + k, none⟩ = some (.int .i64 (eI a.wear k)) ∧ W.cell? ⟨gbb, obb + k, none⟩ = some (.bool (eB b.bad k)) ∧ W.cell? ⟨gbw, obw + k, none⟩ = some (.int .i64 (eI b.wear k))) := fun W hW => HF0.out W (bt h1.bel hW)
    go_loopw [6, 7] (fun lv i wr => ∃ k : Nat, k ≤ n ∧ i = .int .i64 k ∧ ∃ v, lv = v ∧ wr.ownsRow w1.heap.size 65 3 v (diffTo a b k).length (flatM (diffTo a b k)) ∧ Below w1.heap.size w1 wr) (fun _ i _ => n - (intOf i).toNat)
    case atStart => exact ⟨0, Nat.zero_le _, rfl, _, rfl, by rw [HD0.out]; exact nilR _ _, Below.refl _ _⟩
    case round =>
      obtain ⟨k, hk, rfl, v, hv, hown, hbel⟩ := hrel
      have hv2 := hv.symm
      clear hv
      subst hv2
      have HOWN : Hid (wr.ownsRow w1.heap.size 65 3 v (diffTo a b k).length (flatM (diffTo a b k))) := hown
      clear hown
      have hw := h1.next hbel
      obtain ⟨x0, x1, x2⟩ := hw.ba.cells3
      obtain ⟨y0, y1, y2⟩ := hw.bb.cells3
      have hszr := hbel.size
      by_cases hlt : k < n
      · obtain ⟨f1, f2, f3, f4⟩ := HF.out wr hbel k hlt
        have hki : (k : Int) < (n : Int) := by omega
        by_cases hgt : eI b.wear k > eI a.wear k
        · cases hbk : eB b.bad k with
          | true =>
            rw [hbk] at f3
            cases hak : eB a.bad k with
            | true =>
              rw [hak] at f1
              have HD : Hid (diffTo a b (k + 1) = (diffTo a b k ++ []) ++ [(⟨2, (k : Int), eI b.wear k⟩ : MR)]) := by show _ = _; rw [diffTo_succ, List.append_assoc]; congr 1; unfold diffAt; rw [hbk, hak, if_pos hgt]; rfl
              clear hbk hak
              go_upto_region 13 with fail
              have HOWN5 : Hid (wr.ownsRow w1.heap.size 65 3 v (diffTo a b k ++ []).length (flatM (diffTo a b k ++ []))) := by show World.ownsRow _ _ _ _ _ _ _; rw [List.append_nil]; exact HOWN.out
              have hbel5 := hbel
              have hsz5 := hbel5.size
              clear HOWN
              go_quiet (fail)
              go_wp2_with (at_builtin; refine wpList_append_rec rfl (.tmp 74) (.tmp 82) rfl w1.heap.size _ (diffTo a b k ++ []) ⟨2, (k : Int), eI b.wear k⟩ _ rfl (owns_below HOWN5.out (below_drewN (Below.refl _ _) _)) rfl (by have := HLEN.out k; rw [List.length_append]; simp; omega) hsz5 ?_; intro v6 w6 own6 hb6)
              have HOWN6 : Hid (w6.ownsRow w1.heap.size 65 3 v6 ((diffTo a b k ++ []) ++ [(⟨2, (k : Int), eI b.wear k⟩ : MR)]).length (flatM ((diffTo a b k ++ []) ++ [(⟨2, (k : Int), eI b.wear k⟩ : MR)]))) := own6
              clear own6
              go_roundw
              case rel =>
                refine ⟨k + 1, by omega, by go_num, v6, rfl, ?_, (below_drewN hbel5 _).trans hb6⟩
                rw [HD.out]; exact HOWN6.out
              case measure => simp [intOf]; omega
            | false =>
              rw [hak] at f1
              have HD : Hid (diffTo a b (k + 1) = (diffTo a b k ++ [(⟨1, (k : Int), 0⟩ : MR)]) ++ [(⟨2, (k : Int), eI b.wear k⟩ : MR)]) := by show _ = _; rw [diffTo_succ, List.append_assoc]; congr 1; unfold diffAt; rw [hbk, hak, if_pos hgt]; rfl
              clear hbk hak
              go_upto_region 13 with (at_builtin; refine wpList_append_rec rfl (.tmp 58) (.tmp 61) rfl w1.heap.size _ (diffTo a b k) ⟨1, (k : Int), 0⟩ _ rfl HOWN.out rfl (by have := HLEN.out k; omega) hszr ?_; intro v5 w5 own5 hb5)
              have HOWN5 : Hid (w5.ownsRow w1.heap.size 65 3 v5 (diffTo a b k ++ [(⟨1, (k : Int), 0⟩ : MR)]).length (flatM (diffTo a b k ++ [(⟨1, (k : Int), 0⟩ : MR)]))) := own5
              have hbel5 := hbel.trans hb5
              have hsz5 := hbel5.size
              obtain ⟨f1, f2, f3, f4⟩ := HF.out w5 hbel5 k hlt
              have h5 := h1.next hbel5
              obtain ⟨x0, x1, x2⟩ := h5.ba.cells3; obtain ⟨y0, y1, y2⟩ := h5.bb.cells3
              clear own5 HOWN
              go_quiet (fail)
              go_wp2_with (at_builtin; refine wpList_append_rec rfl (.tmp 74) (.tmp 82) rfl w1.heap.size _ (diffTo a b k ++ [(⟨1, (k : Int), 0⟩ : MR)]) ⟨2, (k : Int), eI b.wear k⟩ _ rfl (owns_below HOWN5.out (below_drewN (Below.refl _ _) _)) rfl (by have := HLEN.out k; rw [List.length_append]; simp; omega) hsz5 ?_; intro v6 w6 own6 hb6)
              have HOWN6 : Hid (w6.ownsRow w1.heap.size 65 3 v6 ((diffTo a b k ++ [(⟨1, (k : Int), 0⟩ : MR)]) ++ [(⟨2, (k : Int), eI b.wear k⟩ : MR)]).length (flatM ((diffTo a b k ++ [(⟨1, (k : Int), 0⟩ : MR)]) ++ [(⟨2, (k : Int), eI b.wear k⟩ : MR)]))) := own6
              clear own6
              go_roundw
              case rel =>
                refine ⟨k + 1, by omega, by go_num, v6, rfl, ?_, (below_drewN hbel5 _).trans hb6⟩
                rw [HD.out]; exact HOWN6.out
              case measure => simp [intOf]; omega
          | false =>
            rw [hbk] at f3
            cases hak : eB a.bad k with
            | true =>
              rw [hak] at f1
              have HD : Hid (diffTo a b (k + 1) = (diffTo a b k ++ []) ++ [(⟨2, (k : Int), eI b.wear k⟩ : MR)]) := by show _ = _; rw [diffTo_succ, List.append_assoc]; congr 1; unfold diffAt; rw [hbk, hak, if_pos hgt]; rfl
              clear hbk hak
              go_upto_region 13 with fail
              have HOWN5 : Hid (wr.ownsRow w1.heap.size 65 3 v (diffTo a b k ++ []).length (flatM (diffTo a b k ++ []))) := by show World.ownsRow _ _ _ _ _ _ _; rw [List.append_nil]; exact HOWN.out
              have hbel5 := hbel
              have hsz5 := hbel5.size
              clear HOWN
              go_quiet (fail)
              go_wp2_with (at_builtin; refine wpList_append_rec rfl (.tmp 74) (.tmp 82) rfl w1.heap.size _ (diffTo a b k ++ []) ⟨2, (k : Int), eI b.wear k⟩ _ rfl (owns_below HOWN5.out (below_drewN (Below.refl _ _) _)) rfl (by have := HLEN.out k; rw [List.length_append]; simp; omega) hsz5 ?_; intro v6 w6 own6 hb6)
              have HOWN6 : Hid (w6.ownsRow w1.heap.size 65 3 v6 ((diffTo a b k ++ []) ++ [(⟨2, (k : Int), eI b.wear k⟩ : MR)]).length (flatM ((diffTo a b k ++ []) ++ [(⟨2, (k : Int), eI b.wear k⟩ : MR)]))) := own6
              clear own6
              go_roundw
              case rel =>
                refine ⟨k + 1, by omega, by go_num, v6, rfl, ?_, (below_drewN hbel5 _).trans hb6⟩
                rw [HD.out]; exact HOWN6.out
              case measure => simp [intOf]; omega
            | false =>
              rw [hak] at f1
              have HD : Hid (diffTo a b (k + 1) = (diffTo a b k ++ []) ++ [(⟨2, (k : Int), eI b.wear k⟩ : MR)]) := by show _ = _; rw [diffTo_succ, List.append_assoc]; congr 1; unfold diffAt; rw [hbk, hak, if_pos hgt]; rfl
              clear hbk hak
              go_upto_region 13 with fail
              have HOWN5 : Hid (wr.ownsRow w1.heap.size 65 3 v (diffTo a b k ++ []).length (flatM (diffTo a b k ++ []))) := by show World.ownsRow _ _ _ _ _ _ _; rw [List.append_nil]; exact HOWN.out
              have hbel5 := hbel
              have hsz5 := hbel5.size
              clear HOWN
              go_quiet (fail)
              go_wp2_with (at_builtin; refine wpList_append_rec rfl (.tmp 74) (.tmp 82) rfl w1.heap.size _ (diffTo a b k ++ []) ⟨2, (k : Int), eI b.wear k⟩ _ rfl (owns_below HOWN5.out (below_drewN (Below.refl _ _) _)) rfl (by have := HLEN.out k; rw [List.length_append]; simp; omega) hsz5 ?_; intro v6 w6 own6 hb6)
              have HOWN6 : Hid (w6.ownsRow w1.heap.size 65 3 v6 ((diffTo a b k ++ []) ++ [(⟨2, (k : Int), eI b.wear k⟩ : MR)]).length (flatM ((diffTo a b k ++ []) ++ [(⟨2, (k : Int), eI b.wear k⟩ : MR)]))) := own6
              clear own6
              go_roundw
              case rel =>
                refine ⟨k + 1, by omega, by go_num, v6, rfl, ?_, (below_drewN hbel5 _).trans hb6⟩
                rw [HD.out]; exact HOWN6.out
              case measure => simp [intOf]; omega
        · cases hbk : eB b.bad k with
          | true =>
            rw [hbk] at f3
            cases hak : eB a.bad k with
            | true =>
              rw [hak] at f1
              have HD : Hid (diffTo a b (k + 1) = (diffTo a b k ++ []) ++ []) := by show _ = _; rw [diffTo_succ, List.append_assoc]; congr 1; unfold diffAt; rw [hbk, hak, if_neg hgt]; rfl
              clear hbk hak
              go_upto_region 13 with fail
              have HOWN5 : Hid (wr.ownsRow w1.heap.size 65 3 v (diffTo a b k ++ []).length (flatM (diffTo a b k ++ []))) := by show World.ownsRow _ _ _ _ _ _ _; rw [List.append_nil]; exact HOWN.out
              have hbel5 := hbel
              have hsz5 := hbel5.size
              clear HOWN
              go_quiet (fail)
              go_wp2
              go_roundw
              case rel =>
                refine ⟨k + 1, by omega, by go_num, v, rfl, ?_, below_drewN hbel5 _⟩
                rw [HD.out, List.append_nil]; exact owns_below HOWN5.out (below_drewN (Below.refl _ _) _)
              case measure => simp [intOf]; omega
            | false =>
              rw [hak] at f1
              have HD : Hid (diffTo a b (k + 1) = (diffTo a b k ++ [(⟨1, (k : Int), 0⟩ : MR)]) ++ []) := by show _ = _; rw [diffTo_succ, List.append_assoc]; congr 1; unfold diffAt; rw [hbk, hak, if_neg hgt]; rfl
              clear hbk hak
              go_upto_region 13 with (at_builtin; refine wpList_append_rec rfl (.tmp 58) (.tmp 61) rfl w1.heap.size _ (diffTo a b k) ⟨1, (k : Int), 0⟩ _ rfl HOWN.out rfl (by have := HLEN.out k; omega) hszr ?_; intro v5 w5 own5 hb5)
              have HOWN5 : Hid (w5.ownsRow w1.heap.size 65 3 v5 (diffTo a b k ++ [(⟨1, (k : Int), 0⟩ : MR)]).length (flatM (diffTo a b k ++ [(⟨1, (k : Int), 0⟩ : MR)]))) := own5
              have hbel5 := hbel.trans hb5
              have hsz5 := hbel5.size
              obtain ⟨f1, f2, f3, f4⟩ := HF.out w5 hbel5 k hlt
              have h5 := h1.next hbel5
              obtain ⟨x0, x1, x2⟩ := h5.ba.cells3; obtain ⟨y0, y1, y2⟩ := h5.bb.cells3
              clear own5 HOWN
              go_quiet (fail)
              go_wp2
              go_roundw
              case rel =>
                refine ⟨k + 1, by omega, by go_num, v5, rfl, ?_, below_drewN hbel5 _⟩
                rw [HD.out, List.append_nil]; exact owns_below HOWN5.out (below_drewN (Below.refl _ _) _)
              case measure => simp [intOf]; omega
          | false =>
            rw [hbk] at f3
            cases hak : eB a.bad k with
            | true =>
              rw [hak] at f1
              have HD : Hid (diffTo a b (k + 1) = (diffTo a b k ++ []) ++ []) := by show _ = _; rw [diffTo_succ, List.append_assoc]; congr 1; unfold diffAt; rw [hbk, hak, if_neg hgt]; rfl
              clear hbk hak
              go_upto_region 13 with fail
              have HOWN5 : Hid (wr.ownsRow w1.heap.size 65 3 v (diffTo a b k ++ []).length (flatM (diffTo a b k ++ []))) := by show World.ownsRow _ _ _ _ _ _ _; rw [List.append_nil]; exact HOWN.out
              have hbel5 := hbel
              have hsz5 := hbel5.size
              clear HOWN
              go_quiet (fail)
              go_wp2
              go_roundw
              case rel =>
                refine ⟨k + 1, by omega, by go_num, v, rfl, ?_, below_drewN hbel5 _⟩
                rw [HD.out, List.append_nil]; exact owns_below HOWN5.out (below_drewN (Below.refl _ _) _)
              case measure => simp [intOf]; omega
            | false =>
              rw [hak] at f1
              have HD : Hid (diffTo a b (k + 1) = (diffTo a b k ++ []) ++ []) := by show _ = _; rw [diffTo_succ, List.append_assoc]; congr 1; unfold diffAt; rw [hbk, hak, if_neg hgt]; rfl
              clear hbk hak
              go_upto_region 13 with fail
              have HOWN5 : Hid (wr.ownsRow w1.heap.size 65 3 v (diffTo a b k ++ []).length (flatM (diffTo a b k ++ []))) := by show World.ownsRow _ _ _ _ _ _ _; rw [List.append_nil]; exact HOWN.out
              have hbel5 := hbel
              have hsz5 := hbel5.size
              clear HOWN
              go_quiet (fail)
              go_wp2
              go_roundw
              case rel =>
                refine ⟨k + 1, by omega, by go_num, v, rfl, ?_, below_drewN hbel5 _⟩
                rw [HD.out, List.append_nil]; exact owns_below HOWN5.out (below_drewN (Below.refl _ _) _)
              case measure => simp [intOf]; omega
      · have hkn : k = n := by omega
        subst hkn
        go_wp2
        go_ret2
        rw [E.out]
        exact ⟨_, rfl, owns_mono HOWN.out h1.bel.size, hw.bel⟩
end Go.Proofs.Ytpikaagdiafieaa
