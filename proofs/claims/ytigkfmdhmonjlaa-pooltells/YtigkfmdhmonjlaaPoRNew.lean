/-
  What the reference's New answers.
-/
import Derived.Test.YtigkfmdhmonjlaaPoNew
import Derived.Test.YtigkfmdhmonjlaaPoAll
namespace Go.Proofs.Ytigkfmdhmonjlaa
open Go.RowKit
/-- What the reference's New holds: the result's block, the box, two rows. -/
structure RS (w : World) (p1 : Option Addr) (n c1 : Nat) (p2 : Option Addr) (m c2 : Nat) (R V : List Int) (W : World) : Prop where
  bel : Below w.heap.size w W
  res : ∃ x y, Blk W w.heap.size 25 [x, y]
  box : Blk W (w.heap.size + 1) 25 [.slice p1 n c1, .slice p2 m c2]
  np : NewP (w.heap.size + 2) W p1 n c1 p2 m c2 R V
/-- Rows of two types lie apart. -/
theorem types_apart {w : World} {B B' e e' n m c d : Nat} {p q : Option Addr} {xs ys : List Value} (h : w.ownsRow B e 1 (.slice p n c) n xs) (h' : w.ownsRow B' e' 1 (.slice q m d) m ys) (hee : e ≠ e') : ∀ a b, p = some a → q = some b → a.block ≠ b.block := by
  intro a b ha hb hab
  subst ha hb
  rcases h.2 with ⟨h1, _⟩ | ⟨g, cap, cur, hv, _, hg, _⟩
  · simp at h1
  · rcases h'.2 with ⟨h1, _⟩ | ⟨g', cap', cur', hv', _, hg', _⟩
    · simp at h1
    · simp only [Value.slice.injEq, Option.some.injEq] at hv hv'
      obtain ⟨rfl, _, _⟩ := hv
      obtain ⟨rfl, _, _⟩ := hv'
      simp only at hab
      subst hab
      rw [hg] at hg'
      simp at hg'
      exact hee hg'.2
theorem RS.appR {w W w2 : World} {p1 p2 p1' : Option Addr} {n c1 m c2 c1' : Nat} {R V : List Int} {z : Int} (h : RS w p1 n c1 p2 m c2 R V W) (hn : n + 1 ≤ 1000000) (hown : w2.ownsRow (w.heap.size + 2) 3 1 (.slice p1' (n + 1) c1') (n + 1) (valsI R ++ [.int .i64 z]))
    (hg : (W.alloc (.cells #[.int .i64 z] 3)).grownBy w2 (Value.slice p1 n c1).ownBlock) : Blk w2 (w.heap.size + 1) 25 [.slice p1 n c1, .slice p2 m c2] ∧ RS w p1' (n + 1) c1' p2 m c2 (R ++ [z]) V (w2.setCell ⟨w.heap.size + 1, 0, none⟩ (.slice p1' (n + 1) c1')) := by
  have hlt := h.box.lt
  have hr1 : ∀ k, (Value.slice p1 n c1).ownBlock = some k → w.heap.size + 2 ≤ k := fun k hk => (h.np.r.lt k hk).1
  obtain ⟨x, y, hres⟩ := h.res
  have hb2 : Blk w2 (w.heap.size + 1) 25 [.slice p1 n c1, .slice p2 m c2] := (hg.block _ (by rw [World.size_alloc]; omega) (fun e => by have := hr1 _ e.symm; omega)).trans (h.box.alloc _)
  have hv2 : w2.ownsRow (w.heap.size + 2) 2 1 (.slice p2 m c2) m (valsI V) := (h.np.v.alloc _).kept hg (by
    cases p2 with
    | none => exact .inl rfl
    | some a =>
      cases p1 with
      | none => exact .inr (by simp [Value.ownBlock])
      | some a' => exact .inr (fun e => h.np.ne a' a rfl rfl (by have := Option.some.inj e; exact this.symm)))
  have hr2 : Blk w2 w.heap.size 25 [x, y] := (hg.block _ (by rw [World.size_alloc]; omega) (fun e => by have := hr1 _ e.symm; omega)).trans (hres.alloc _)
  have hbel : Below w.heap.size w w2 := (h.bel.alloc h.bel.size _).grown hg (by rw [World.size_alloc]; have := h.bel.size; omega) (fun k hk => by have := hr1 k hk; omega)
  have t2 := Turned.setCell w2 ⟨w.heap.size + 1, 0, none⟩ (.slice p1' (n + 1) c1')
  have e1 : valsI R ++ [Value.int .i64 z] = valsI (R ++ [z]) := by rw [valsI_append]; rfl
  rw [e1] at hown
  refine ⟨hb2, t2.below hbel (by show w.heap.size ≤ w.heap.size + 1; omega), ⟨x, y, hr2.turned t2 (by show w.heap.size ≠ w.heap.size + 1; omega)⟩, hb2.set 0 _, ⟨owns_turned hown t2 (fun a e => ?_), owns_turned hv2 t2 (fun a e => ?_), by omega, h.np.hm, types_apart hown hv2 (by decide)⟩⟩
  · subst e; have := (hown.lt a.block rfl).1; show a.block ≠ w.heap.size + 1; omega
  · subst e; have := (hv2.lt a.block rfl).1; show a.block ≠ w.heap.size + 1; omega
theorem RS.appW {w W w2 : World} {p1 p2 p2' : Option Addr} {n c1 m c2 c2' : Nat} {R V : List Int} {z : Int} (h : RS w p1 n c1 p2 m c2 R V W) (hm : m + 1 ≤ 1000000) (hown : w2.ownsRow (w.heap.size + 2) 2 1 (.slice p2' (m + 1) c2') (m + 1) (valsI V ++ [.int .i64 z]))
    (hg : (W.alloc (.cells #[.int .i64 z] 2)).grownBy w2 (Value.slice p2 m c2).ownBlock) : Blk w2 (w.heap.size + 1) 25 [.slice p1 n c1, .slice p2 m c2] ∧ RS w p1 n c1 p2' (m + 1) c2' R (V ++ [z]) (w2.setCell ⟨w.heap.size + 1, 1, none⟩ (.slice p2' (m + 1) c2')) := by
  have hlt := h.box.lt
  have hr1 : ∀ k, (Value.slice p2 m c2).ownBlock = some k → w.heap.size + 2 ≤ k := fun k hk => (h.np.v.lt k hk).1
  obtain ⟨x, y, hres⟩ := h.res
  have hb2 : Blk w2 (w.heap.size + 1) 25 [.slice p1 n c1, .slice p2 m c2] := (hg.block _ (by rw [World.size_alloc]; omega) (fun e => by have := hr1 _ e.symm; omega)).trans (h.box.alloc _)
  have hv2 : w2.ownsRow (w.heap.size + 2) 3 1 (.slice p1 n c1) n (valsI R) := (h.np.r.alloc _).kept hg (by
    cases p1 with
    | none => exact .inl rfl
    | some a =>
      cases p2 with
      | none => exact .inr (by simp [Value.ownBlock])
      | some a' => exact .inr (fun e => h.np.ne a a' rfl rfl (by have := Option.some.inj e; exact this)))
  have hr2 : Blk w2 w.heap.size 25 [x, y] := (hg.block _ (by rw [World.size_alloc]; omega) (fun e => by have := hr1 _ e.symm; omega)).trans (hres.alloc _)
  have hbel : Below w.heap.size w w2 := (h.bel.alloc h.bel.size _).grown hg (by rw [World.size_alloc]; have := h.bel.size; omega) (fun k hk => by have := hr1 k hk; omega)
  have t2 := Turned.setCell w2 ⟨w.heap.size + 1, 1, none⟩ (.slice p2' (m + 1) c2')
  have e1 : valsI V ++ [Value.int .i64 z] = valsI (V ++ [z]) := by rw [valsI_append]; rfl
  rw [e1] at hown
  refine ⟨hb2, t2.below hbel (by show w.heap.size ≤ w.heap.size + 1; omega), ⟨x, y, hr2.turned t2 (by show w.heap.size ≠ w.heap.size + 1; omega)⟩, hb2.set 1 _, ⟨owns_turned hv2 t2 (fun a e => ?_), owns_turned hown t2 (fun a e => ?_), h.np.hn, by omega, types_apart hv2 hown (by decide)⟩⟩
  · subst e; have := (hv2.lt a.block rfl).1; show a.block ≠ w.heap.size + 1; omega
  · subst e; have := (hown.lt a.block rfl).1; show a.block ≠ w.heap.size + 1; omega
theorem new_oneL (W : World) (z : Int) : ∀ j u, [Value.int .i64 z][j]? = some u → (W.alloc (.cells #[.int .i64 z] 2)).cell? ((⟨W.heap.size, 0, none⟩ : Addr).add j) = some u := by
  intro j u hu
  have hj : j = 0 := by
    rcases Nat.eq_zero_or_pos j with h | h
    · exact h
    · rw [List.getElem?_eq_none (by simp; omega)] at hu; cases hu
  subst hj
  rw [addr_add]
  exact (Blk.new' W 2 #[.int .i64 z]).cell' hu
theorem RS.far {w W W' : World} {p1 p2 : Option Addr} {n c1 m c2 g : Nat} {R R' V : List Int} (h : RS w p1 n c1 p2 m c2 R V W) (ht : Turned W W' g) (hg : w.heap.size + 2 ≤ g) (hnp : NewP (w.heap.size + 2) W' p1 n c1 p2 m c2 R' V) : RS w p1 n c1 p2 m c2 R' V W' := by
  obtain ⟨x, y, hr⟩ := h.res
  exact ⟨ht.below h.bel (by omega), ⟨x, y, hr.turned ht (by omega)⟩, h.box.turned ht (by omega), hnp⟩
theorem snoc_form {w : World} {B e n : Nat} {v : Value} {R : List Int} {z : Int} (h : w.ownsRow B e 1 v (n + 1) (valsI R ++ [.int .i64 z])) (hn : n + 1 ≤ 1000000) : ∃ p c, v = .slice p (n + 1) c := by
  have e1 : valsI R ++ [Value.int .i64 z] = valsI (R ++ [z]) := by rw [valsI_append]; rfl
  rw [e1] at h
  obtain ⟨p, c, h', _⟩ := in_of_ownsI h (by omega)
  exact ⟨p, c, h'⟩
theorem rep_snoc (k : Nat) (z : Int) : List.replicate k z ++ [z] = List.replicate (k + 1) z := by rw [List.replicate_succ']
set_option linter.unusedSimpArgs false in
set_option maxHeartbeats 4000000 in
theorem rnew_any (blocks : Int) (s : Option Addr) (r e : Nat) (bad : List Int) (w : World) (hl : InI w s r e bad) :
    Calls Try.prog 10 #[.int .i64 blocks, .slice s r e] w (PoolRes w (newS blocks bad)) := by
  obtain ⟨i3, hi3, hz30, hz31, hz32⟩ := info_parts info3
  obtain ⟨i2, hi2, hz20, hz21, hz22⟩ := info_parts info2
  have HLl : Hid (bad.length = r) := hl.len
  have hr47 := hl.room
  have res0 := Blk.new' w 25 #[.slice none 0 0, .slice none 0 0]
  have bel0 := below_alloc w (.cells #[.slice none 0 0, .slice none 0 0] 25)
  by_cases hb1 : blocks < 16
  · have HS : Hid (newS blocks bad = ([], [], 20)) := by show _ = _; unfold newS; rw [if_neg (by omega)]
    go_enter Try.func10, Try.ntmps10
    go_wp2_with (refine wpList_store_blk rfl 25 (.tmp 4) (.tmp 15) rfl _ _ [.slice none 0 0, .slice none 0 0] rfl rfl res0 (by simp) (poolSize _ _) one2 ?_; intro w8 h8 ht8; replace h8 : Blk w8 w.heap.size 25 [.slice none 0 0, .slice none 0 0] := h8)
    rw [HS.out]
    exact ret_poolE Try.results10 rfl h8 rfl rfl ⟨_, _, _, _, _, _, rfl, NewP.zero _ _, ht8.below bel0 (Nat.le_refl _)⟩
  · by_cases hb2 : 256 < blocks
    · have HS : Hid (newS blocks bad = ([], [], 20)) := by show _ = _; unfold newS; rw [if_neg (by omega)]
      go_enter Try.func10, Try.ntmps10
      go_wp2_with (refine wpList_store_blk rfl 25 (.tmp 4) (.tmp 15) rfl _ _ [.slice none 0 0, .slice none 0 0] rfl rfl res0 (by simp) (poolSize _ _) one2 ?_; intro w8 h8 ht8; replace h8 : Blk w8 w.heap.size 25 [.slice none 0 0, .slice none 0 0] := h8)
      rw [HS.out]
      exact ret_poolE Try.results10 rfl h8 rfl rfl ⟨_, _, _, _, _, _, rfl, NewP.zero _ _, ht8.below bel0 (Nat.le_refl _)⟩
    · obtain ⟨n, rfl⟩ : ∃ n : Nat, blocks = (n : Int) := ⟨blocks.toNat, by omega⟩
      have hn256 : n ≤ 256 := by omega
      have hn16 : 16 ≤ n := by omega
      have HS : Hid (newS (n : Int) bad = (match badTo (List.replicate n 1) bad with | some R => (R, List.replicate n 0, 0) | none => ([], [], 22))) := by show _ = _; unfold newS; rw [if_pos (show 16 ≤ (n : Int) ∧ (n : Int) ≤ 256 from ⟨by omega, by omega⟩), Int.toNat_natCast]; cases badTo (List.replicate n 1) bad <;> rfl
      have hR0 : RS w none 0 0 none 0 0 [] [] ((w.alloc (.cells #[.slice none 0 0, .slice none 0 0] 25)).alloc (.cells #[.slice none 0 0, .slice none 0 0] 25)) := by
        refine ⟨bt bel0 (below_alloc _ _), ⟨_, _, res0.alloc _⟩, ?_, NewP.zero _ _⟩
        have := Blk.new' (w.alloc (.cells #[.slice none 0 0, .slice none 0 0] 25)) 25 #[.slice none 0 0, .slice none 0 0]
        rwa [World.size_alloc] at this
      clear res0 bel0
      go_enter Try.func10, Try.ntmps10
      go_upto_region 4 with (fail)
      generalize ((w.alloc (.cells #[.slice none 0 0, .slice none 0 0] 25)).alloc (.cells #[.slice none 0 0, .slice none 0 0] 25)) = W0 at *
      go_wp2_with fail
      go_loopw [7] (fun i wr => ∃ (k : Nat) (p1 p2 : Option Addr) (c1 c2 : Nat), k ≤ n ∧ i = .int .i64 k ∧ RS w p1 k c1 p2 k c2 (List.replicate k 1) (List.replicate k 0) wr) (fun i _ => n - (intOf i).toNat)
      case atStart => exact ⟨0, none, none, 0, 0, Nat.zero_le _, rfl, hR0⟩
      case round =>
        obtain ⟨k, p1, p2, c1, c2, hk, rfl, hR⟩ := hrel
        clear hR0
        by_cases hlt : k < n
        · have c0 := hR.box.cell' (i := 0) rfl
          have hbs := hR.bel.size
          have hbl := hR.box.lt
          have HR := hR.np.r
          have hk1 : (k : Int) < (n : Int) := by omega
          go_upto_region 8 with (at_builtin; refine wpList_append_own _ rfl (.tmp 23) (.tmp 24) 22 rfl (w.heap.size + 2) 3 i3 (.int .i64 0) 1 8 Try.underlying22 hi3 hz30 hz31 hz32 rfl (by decide) (.slice p1 k c1) k (valsI (List.replicate k 1)) rfl (HR.alloc _) ⟨wr.heap.size, 0, none⟩ 1 1 [.int .i64 1] rfl rfl (new_one wr 1) (by simp [Value.oneCell']) (by unfold maxLen; omega) (by omega) (by rw [World.size_alloc]; omega) ?_; intro v1 w2 hown2 hgrow2 _; obtain ⟨p1', c1', rfl⟩ := snoc_form hown2 (by omega); obtain ⟨hbx, hRS⟩ := hR.appR (by omega) hown2 hgrow2; have e0 := hbx.cell' (i := 0) rfl; have f0 := hbx.frozen 0)
          clear c0 HR hown2 hgrow2 hbx e0 f0 hR hbs hbl
          rw [rep_snoc] at hRS
          generalize w2.setCell ⟨w.heap.size + 1, 0, none⟩ (.slice p1' (k + 1) c1') = W2 at *
          have c1x := hRS.box.cell' (i := 1) rfl
          have hbs := hRS.bel.size
          have hbl := hRS.box.lt
          have HR := hRS.np.v
          go_wp2_with (at_builtin; refine wpList_append_own _ rfl (.tmp 28) (.tmp 29) 23 rfl (w.heap.size + 2) 2 i2 (.int .i64 0) 1 8 Try.underlying23 hi2 hz20 hz21 hz22 rfl (by decide) (.slice p2 k c2) k (valsI (List.replicate k 0)) rfl (HR.alloc _) ⟨W2.heap.size, 0, none⟩ 1 1 [.int .i64 0] rfl rfl (new_oneL W2 0) (by simp [Value.oneCell']) (by unfold maxLen; omega) (by omega) (by rw [World.size_alloc]; omega) ?_; intro v1 w3 hown2 hgrow2 _; obtain ⟨p2', c2', rfl⟩ := snoc_form hown2 (by omega); obtain ⟨hbx, hRS2⟩ := hRS.appW (by omega) hown2 hgrow2; have e0 := hbx.cell' (i := 1) rfl; have f0 := hbx.frozen 1)
          rw [rep_snoc] at hRS2
          go_roundw
          case rel => exact ⟨k + 1, p1', p2', c1', c2', by omega, by go_num, hRS2⟩
          case measure => simp [intOf]; omega
        · have hkn : k = n := by omega
          subst hkn
          obtain ⟨g1, rfl, hg1⟩ := owns_at hR.np.r (by omega)
          clear hlt hk
          go_wp2_with fail
          go_loopw [8] (fun i wr => ∃ (j : Nat) (R : List Int), j ≤ r ∧ i = .int .i64 j ∧ R.length = k ∧ badTo R (bad.drop j) = badTo (List.replicate k 1) bad ∧ RS w (some ⟨g1, 0, none⟩) k c1 p2 k c2 R (List.replicate k 0) wr) (fun i _ => r - (intOf i).toNat)
          case atStart => exact ⟨0, _, Nat.zero_le _, rfl, by simp, by simp, hR⟩
          case round =>
            obtain ⟨j, R, hj, rfl, hRl, hbad, hN⟩ := hrel
            have HRl : Hid (R.length = k) := hRl
            have HB : Hid (badTo R (bad.drop j) = badTo (List.replicate k 1) bad) := hbad
            clear hR hRl hbad
            obtain ⟨x, y, hres⟩ := hN.res
            have c0 := hN.box.cell' (i := 0) rfl
            have c1x := hN.box.cell' (i := 1) rfl
            by_cases hlt : j < r
            · obtain ⟨bl, ol, rfl, hbl, hcl⟩ := (hl.below hN.bel).at' (by omega)
              have fl := hcl j hlt
              have hj1 : (j : Int) < (r : Int) := by omega
              clear hcl
              have HC := badTo_cons (R := R) (bad := bad) (k := j) (by rw [HLl.out]; exact hlt)
              rw [HB.out] at HC
              have HC' : Hid _ := HC
              clear HC HB
              generalize eI bad j = bb at *
              by_cases hneg : bb < 0
              · have HF : Hid (badTo (List.replicate k 1) bad = none) := by
                  have : isB R bb = false := by unfold isB; rw [HRl.out, Bool.and_eq_false_iff, decide_eq_false_iff_not, decide_eq_false_iff_not]; omega
                  show _ = _; rw [HC'.out, this]; rfl
                clear HC'
                have hd1 : decide (bb < 0) = true := decide_eq_true hneg
                go_wp2_with fail
                go_quiet (fail)
                go_wp2_with (refine wpList_store_blk rfl 25 (.tmp 4) (.tmp 62) rfl _ _ [.slice none 0 0, .slice none 0 0] rfl rfl (hres.drewN nq) (by simp) (poolSize _ _) one2 ?_; intro w8 h8 ht8; replace h8 : Blk w8 w.heap.size 25 [.slice none 0 0, .slice none 0 0] := h8)
                rw [HS.out, HF.out]
                exact ret_poolE Try.results10 rfl h8 rfl rfl ⟨_, _, _, _, _, _, rfl, NewP.zero _ _, ht8.below (below_drewN hN.bel nq) (Nat.le_refl _)⟩
              · have hd1 : decide (bb < 0) = false := decide_eq_false hneg
                by_cases hge : (k : Int) ≤ bb
                · have HF : Hid (badTo (List.replicate k 1) bad = none) := by
                    have : isB R bb = false := by unfold isB; rw [HRl.out, Bool.and_eq_false_iff, decide_eq_false_iff_not, decide_eq_false_iff_not]; omega
                    show _ = _; rw [HC'.out, this]; rfl
                  clear HC'
                  have hd2 : decide ((k : Int) ≤ bb) = true := decide_eq_true hge
                  go_wp2_with fail
                  go_quiet (fail)
                  go_wp2_with (refine wpList_store_blk rfl 25 (.tmp 4) (.tmp 62) rfl _ _ [.slice none 0 0, .slice none 0 0] rfl rfl (hres.drewN nq) (by simp) (poolSize _ _) one2 ?_; intro w8 h8 ht8; replace h8 : Blk w8 w.heap.size 25 [.slice none 0 0, .slice none 0 0] := h8)
                  rw [HS.out, HF.out]
                  exact ret_poolE Try.results10 rfl h8 rfl rfl ⟨_, _, _, _, _, _, rfl, NewP.zero _ _, ht8.below (below_drewN hN.bel nq) (Nat.le_refl _)⟩
                · have hd2 : decide ((k : Int) ≤ bb) = false := decide_eq_false hge
                  obtain ⟨i, rfl⟩ : ∃ i : Nat, bb = (i : Int) := ⟨bb.toNat, by omega⟩
                  have hi : i < k := by omega
                  have hi1 : (i : Int) < (k : Int) := by omega
                  have HJ : Hid (isB R (i : Int) = true) := by show _ = _; rw [isB_iff, HRl.out]; omega
                  have fi := hN.np.r.cellAt i (by omega)
                  rw [valsI_get R i (by rw [HRl.out]; exact hi)] at fi
                  by_cases h6 : eI R i = 6
                  · have HF : Hid (badTo (List.replicate k 1) bad = none) := by show _ = _; rw [HC'.out, HJ.out, Int.toNat_natCast, decide_eq_false (fun h => h h6)]; rfl
                    clear HC'
                    rw [h6] at fi
                    go_wp2_with fail
                    go_quiet (fail)
                    go_wp2_with (refine wpList_store_blk rfl 25 (.tmp 4) (.tmp 62) rfl _ _ [.slice none 0 0, .slice none 0 0] rfl rfl (hres.drewN nq) (by simp) (poolSize _ _) one2 ?_; intro w8 h8 ht8; replace h8 : Blk w8 w.heap.size 25 [.slice none 0 0, .slice none 0 0] := h8)
                    rw [HS.out, HF.out]
                    exact ret_poolE Try.results10 rfl h8 rfl rfl ⟨_, _, _, _, _, _, rfl, NewP.zero _ _, ht8.below (below_drewN hN.bel nq) (Nat.le_refl _)⟩
                  · have HF : Hid (badTo (R.set i 6) (bad.drop (j + 1)) = badTo (List.replicate k 1) bad) := by show _ = _; rw [HC'.out, HJ.out, Int.toNat_natCast, decide_eq_true h6]; rfl
                    clear HC'
                    have h6b : (eI R i == 6) = false := by simpa using h6
                    clear h6
                    go_wp2_with fail
                    go_quiet (fail)
                    go_wp2_with fail
                    refine wp_region_noPanic ?_
                    refine wp_region_held_drew (S := fun X => Blk X (w.heap.size + 1) 25 [.slice (some ⟨g1, 0, none⟩) k c1, .slice p2 k c2]) (by kernel_rfl) (hN.box.drewN nq).drew (fun hHeld => ?_)
                    refine wpAnyH_take (i := 0) (v := ?_) rfl (by kernel_rfl) (by kernel_rfl) (by kernel_rfl) (fun _ _ _ h => h) (Or.inl ⟨by rfl, ?_⟩) hHeld ?_
                    rotate_left
                    · intro w' hSw; try dsimp only at hSw
                      go_simp; try (with_reducible rfl)
                    try simp only [Act.put, List.getElem_toArray, List.getElem_cons_succ, List.getElem_cons_zero, List.setIfInBounds_toArray, List.set_cons_zero, List.set_cons_succ]
                    refine wpAnyH_take (i := 1) (v := ?_) rfl (by kernel_rfl) (by kernel_rfl) (by kernel_rfl) (fun _ _ _ h => h) (Or.inl ⟨by rfl, ?_⟩) hHeld ?_
                    rotate_left
                    · intro w' hSw; try dsimp only at hSw
                      have z0 := hSw.cell' (i := 0) rfl
                      go_simp; try (with_reducible rfl)
                    try simp only [Act.put, List.getElem_toArray, List.getElem_cons_succ, List.getElem_cons_zero, List.setIfInBounds_toArray, List.set_cons_zero, List.set_cons_succ]
                    refine wpAnyH_take (i := 2) (v := ?_) rfl (by kernel_rfl) (by kernel_rfl) (by kernel_rfl) (fun _ _ _ h => h) (Or.inl ⟨by rfl, ?_⟩) hHeld ?_
                    rotate_left
                    · intro w' hSw; try dsimp only at hSw
                      go_simp; try (with_reducible rfl)
                    try simp only [Act.put, List.getElem_toArray, List.getElem_cons_succ, List.getElem_cons_zero, List.setIfInBounds_toArray, List.set_cons_zero, List.set_cons_succ]
                    refine wpAnyH_take (i := 3) (v := ?_) rfl (by kernel_rfl) (by kernel_rfl) (by kernel_rfl) (fun _ _ _ h => h) (Or.inl ⟨by rfl, ?_⟩) hHeld ?_
                    rotate_left
                    · intro w' hSw; try dsimp only at hSw
                      go_simp; try (with_reducible rfl)
                    try simp only [Act.put, List.getElem_toArray, List.getElem_cons_succ, List.getElem_cons_zero, List.setIfInBounds_toArray, List.set_cons_zero, List.set_cons_succ]
                    refine wpAnyH_take (i := 4) (v := ?_) rfl (by kernel_rfl) (by kernel_rfl) (by kernel_rfl) (fun _ _ _ h => h) (Or.inl ⟨by rfl, ?_⟩) hHeld ?_
                    rotate_left
                    · intro w' hSw; try dsimp only at hSw
                      go_simp; try (with_reducible rfl)
                    try simp only [Act.put, List.getElem_toArray, List.getElem_cons_succ, List.getElem_cons_zero, List.setIfInBounds_toArray, List.set_cons_zero, List.set_cons_succ]
                    refine wpAnyH_ready (rs := [5]) (by kernel_rfl) (by simp) ?_
                    refine AllReadyH.cons rfl (fun K hK => ?_) AllReadyH.nil
                    go_simp
                    refine hK.out _ _ hHeld (fun hHeld => ?_)
                    clear hK K
                    try simp only [Act.put, List.getElem_toArray, List.getElem_cons_succ, List.getElem_cons_zero, List.setIfInBounds_toArray, List.set_cons_zero, List.set_cons_succ]
                    refine wpAnyH_take (i := 6) (v := ?_) rfl (by kernel_rfl) (by kernel_rfl) (by kernel_rfl) (fun _ _ _ h => h) (Or.inl ⟨by rfl, ?_⟩) hHeld ?_
                    rotate_left
                    · intro w' hSw; try dsimp only at hSw
                      go_simp; try (with_reducible rfl)
                    try simp only [Act.put, List.getElem_toArray, List.getElem_cons_succ, List.getElem_cons_zero, List.setIfInBounds_toArray, List.set_cons_zero, List.set_cons_succ]
                    refine wpAnyH_ready (rs := [7]) (by kernel_rfl) (by simp) ?_
                    refine AllReadyH.cons rfl (fun K hK => ?_) AllReadyH.nil
                    rw [if_pos (by rfl)]
                    refine wp_store_own 3 _ _ rfl g1 i 6 rfl rfl (hN.np.r : (World.drew (World.drewN wr nq)).ownsRow _ _ _ _ _ _) hi size3 ?_
                    intro w6 ho6 ht6
                    refine hK.out _ _ (hHeld.turned ht6 (by omega)) (fun hHeld => ?_)
                    clear hK K
                    try simp only [Act.put, List.getElem_toArray, List.getElem_cons_succ, List.getElem_cons_zero, List.setIfInBounds_toArray, List.set_cons_zero, List.set_cons_succ]
                    refine wpAnyH_done (by kernel_rfl) ?_ _
                    refine NoPanic.normal ?_
                    have hN6 : RS w (some ⟨g1, 0, none⟩) k c1 p2 k c2 (R.set i 6) (List.replicate k 0) w6 := RS.far (W := (wr.drewN nq).drew) ⟨(below_drewN hN.bel nq).drew, hN.res, hN.box, ⟨hN.np.r, hN.np.v, hN.np.hn, hN.np.hm, hN.np.ne⟩⟩ ht6 (by omega) ⟨ho6, owns_turned (w := (wr.drewN nq).drew) hN.np.v ht6 (fun a e h => hN.np.ne _ a rfl e h.symm), hN.np.hn, hN.np.hm, hN.np.ne⟩
                    clear ht6 ho6 hHeld
                    go_wp2_with fail
                    go_roundw
                    case rel => exact ⟨j + 1, R.set i 6, by omega, by go_num, by rw [List.length_set]; exact HRl.out, HF.out, hN6⟩
                    case measure => simp [intOf]; omega
            · have hjr : j = r := by omega
              subst hjr
              have HF : Hid (badTo (List.replicate k 1) bad = some R) := by show _ = _; rw [← HB.out, List.drop_of_length_le (by rw [HLl.out]; exact Nat.le_refl _)]; rfl
              go_wp2_with (refine wpList_store_blk rfl 25 (.tmp 4) (.tmp 70) rfl _ _ [.slice (some ⟨g1, 0, none⟩) k c1, .slice p2 k c2] rfl rfl hres (by simp) (poolSize _ _) one2 ?_; intro w8 h8 ht8; replace h8 : Blk w8 w.heap.size 25 [.slice (some ⟨g1, 0, none⟩) k c1, .slice p2 k c2] := h8)
              rw [HS.out, HF.out]
              exact ret_poolE Try.results10 rfl h8 rfl rfl ⟨_, _, _, _, _, _, rfl, (hN.np.turned ht8 (hN.np.far (by omega))).low (by omega), ht8.below hN.bel (Nat.le_refl _)⟩
end Go.Proofs.Ytigkfmdhmonjlaa
