/-
  What the reference's Punch and Put answer.
-/
import Derived.Test.YtmboohadindlfaaXtRM
namespace Go.Proofs.Ytmboohadindlfaa
open Go.RowKit
def prt (a b : Int) (e : Ext) : List Ext := if partB a b e = true then [partE a b e] else []
/-- What is left, extent by extent. -/
def intL (f t : Int) (l : List Ext) : List Ext := l.flatMap fun e => prt 0 f e ++ prt t 65536 e
theorem int_snoc (f t : Int) (l : List Ext) (e : Ext) : intL f t (l ++ [e]) = intL f t l ++ (prt 0 f e ++ prt t 65536 e) := by simp [intL]
theorem runs_prt (f t : Int) (l : List Ext) : runsL f t l = l.flatMap (prt f t) := by
  induction l with
  | nil => rfl
  | cons e l ih =>
    unfold runsL prt at *
    cases h : partB f t e with
    | true => simp [h, ih]
    | false => simp [h, ih]
theorem runs_snoc (f t : Int) (l : List Ext) (e : Ext) : runsL f t (l ++ [e]) = runsL f t l ++ prt f t e := by simp [runs_prt]
theorem int_perm (f t : Int) (l : List Ext) : (leftL f t l).Perm (intL f t l) := by
  unfold leftL intL
  rw [runs_prt, runs_prt]
  induction l with
  | nil => exact List.Perm.refl _
  | cons e l ih =>
    simp only [List.flatMap_cons]
    refine List.Perm.trans ?_ (List.Perm.append_left _ ih)
    rw [List.append_assoc, List.append_assoc]
    refine List.Perm.append_left _ ?_
    rw [← List.append_assoc, ← List.append_assoc]
    exact List.Perm.append_right _ List.perm_append_comm
def Ap (a b : Value) : Prop := a.ownBlock = none ∨ b.ownBlock = none ∨ a.ownBlock ≠ b.ownBlock
/-- Both rows of a punch under way. -/
structure PR (w1 W : World) (vl vg : Value) (nl ng : Nat) (L G : List Ext) : Prop where
  oL : W.ownsRow w1.heap.size 31 3 vl nl (flatE L)
  oG : W.ownsRow w1.heap.size 31 3 vg ng (flatE G)
  ap : Ap vl vg
  hb : Below w1.heap.size w1 W
theorem PR.below {w1 W W' : World} {vl vg : Value} {nl ng : Nat} {L G : List Ext} (h : PR w1 W vl vg nl ng L G) (hb : Below W.heap.size W W') : PR w1 W' vl vg nl ng L G :=
  ⟨owns_below h.oL hb, owns_below h.oG hb, h.ap, h.hb.trans (hb.mono h.hb.size)⟩
theorem own_lt9 {w : World} {B : Nat} {e : TypeId} {z : Nat} {v : Value} {n : Nat} {xs : List Value} (h : w.ownsRow B e z v n xs) {g : Nat} (hg : v.ownBlock = some g) : g < w.heap.size := by
  rcases h.2 with ⟨rfl, _⟩ | ⟨g', cap, cur, rfl, _, hh, _⟩
  · simp [Value.ownBlock] at hg
  · simp only [Value.ownBlock, Option.some.injEq] at hg
    subst hg
    exact (Array.getElem?_eq_some_iff.1 hh).1
theorem PR.appL {w1 W W' : World} {vl vg v : Value} {nl ng : Nat} {L G : List Ext} {o : Obj} {y : Ext} (h : PR w1 W vl vg nl ng L G) (hown : W'.ownsRow w1.heap.size 31 3 v (nl + 1) (flatE L ++ [.int .i64 y.lo, .int .i64 y.ln, .int .i64 y.ph])) (hg : (W.alloc o).grownBy W' vl.ownBlock) (hat : v.ownBlock = vl.ownBlock ∨ v.ownBlock = some (W.alloc o).heap.size) : PR w1 W' v vg (nl + 1) ng (L ++ [y]) G := by
  rw [flatE_snoc] at hown
  refine ⟨hown, (h.oG.alloc o).kept hg ?_, ?_, below_appP h.hb (Nat.le_refl _) h.oL hg⟩
  · rcases h.ap with e | e | e
    · rw [e]; cases hv : vg.ownBlock with
      | none => exact .inl rfl
      | some g => exact .inr (by simp)
    · exact .inl e
    · exact .inr (fun e' => e e'.symm)
  · rcases hat with e | e
    · unfold Ap; rw [e]; exact h.ap
    · unfold Ap
      rw [e]
      cases hv : vg.ownBlock with
      | none => exact .inr (.inl rfl)
      | some g =>
        have := own_lt9 h.oG hv
        refine .inr (.inr (fun e' => ?_))
        simp only [Option.some.injEq, World.size_alloc] at e'
        omega
theorem PR.appG {w1 W W' : World} {vl vg v : Value} {nl ng : Nat} {L G : List Ext} {o : Obj} {y : Ext} (h : PR w1 W vl vg nl ng L G) (hown : W'.ownsRow w1.heap.size 31 3 v (ng + 1) (flatE G ++ [.int .i64 y.lo, .int .i64 y.ln, .int .i64 y.ph])) (hg : (W.alloc o).grownBy W' vg.ownBlock) (hat : v.ownBlock = vg.ownBlock ∨ v.ownBlock = some (W.alloc o).heap.size) : PR w1 W' vl v nl (ng + 1) L (G ++ [y]) := by
  rw [flatE_snoc] at hown
  refine ⟨(h.oL.alloc o).kept hg ?_, hown, ?_, below_appP h.hb (Nat.le_refl _) h.oG hg⟩
  · rcases h.ap with e | e | e
    · exact .inl e
    · rw [e]; cases hv : vl.ownBlock with
      | none => exact .inl rfl
      | some g => exact .inr (by simp)
    · exact .inr e
  · rcases hat with e | e
    · unfold Ap; rw [e]; exact h.ap
    · unfold Ap
      rw [e]
      cases hv : vl.ownBlock with
      | none => exact .inl rfl
      | some g =>
        have := own_lt9 h.oL hv
        refine .inr (.inr (fun e' => ?_))
        simp only [Option.some.injEq, World.size_alloc] at e'
        omega
theorem owns_apart9 {w w' : World} {B : Nat} {e e' : TypeId} {z z' : Nat} {v v' : Value} {n n' : Nat} {xs xs' : List Value} (h : w'.ownsRow w.heap.size e z v n xs) (k : w.ownsRow B e' z' v' n' xs') : v'.ownBlock = none ∨ v'.ownBlock ≠ v.ownBlock := by
  rcases owns_apart h k with h' | h'
  · rw [h']
    cases v'.ownBlock with
    | none => exact .inl rfl
    | some g => exact .inr (by simp)
  · exact .inr (fun e => h' e.symm)
/-- An extent of what came in lies as it lay. -/
theorem PR.keepH {w1 W W' : World} {vl vg u : Value} {nl ng nu : Nat} {L G : List Ext} {o : Obj} {b q : Nat} {x : Ext} {xs : List Value} (h : PR w1 W vl vg nl ng L G) (hg : (W.alloc o).grownBy W' u.ownBlock) (hx : Has W b q x) (hu : b < w1.heap.size ∧ W.ownsRow w1.heap.size 31 3 u nu xs) : Has W' b q x := by
  have hb := below_appP h.hb (Nat.le_refl _) hu.2 hg
  have e1 := h.hb.block b hu.1
  have e2 := hb.block b hu.1
  have e : W'.heap[b]? = W.heap[b]? := e2.trans e1.symm
  have hs : W.heap.size ≤ W'.heap.size := by have := hg.size; rw [World.size_alloc] at this; omega
  exact ⟨Nat.lt_of_lt_of_le hx.1 hs, (World.cell?_of_block (a := ⟨b, q, none⟩) e).trans hx.2.1, (World.cell?_of_block (a := ⟨b, q + 1, none⟩) e).trans hx.2.2.1, (World.cell?_of_block (a := ⟨b, q + 2, none⟩) e).trans hx.2.2.2⟩
set_option linter.unusedSimpArgs false in
set_option linter.unusedVariables false in
set_option maxRecDepth 100000 in
set_option maxHeartbeats 4000000 in
theorem rpunch_ok (p : Option Addr) (n c : Nat) (l : List Ext) (f m : Int) (w : World) (h : InE w p n c l) (hn : n ≤ 100000) (hc : chkB l = true) (hf0 : 0 ≤ f) (hf1 : f ≤ 65536) (hm : 0 ≤ m) :
    Calls Try.prog 28 #[.slice p n c, .int .i64 f, .int .i64 m] w fun e w' => ∃ v1 v2, e = .returned (.tuple #[v1, v2, .int .i64 0]) ∧ w'.ownsRow w.heap.size 31 3 v1 (normL (leftL f (toI f m) l)).length (flatE (normL (leftL f (toI f m) l))) ∧ w'.ownsRow w.heap.size 31 3 v2 (runsL f (toI f m) l).length (flatE (runsL f (toI f m) l)) ∧ (v2.ownBlock = none ∨ v2.ownBlock ≠ v1.ownBlock) ∧ Below w.heap.size w w' := by
  obtain ⟨i0, hi, hz0, hz1, hz2⟩ := info_parts infoE
  have hk := rcheck_any p n c l w h
  rw [chkE_ok hc] at hk
  have hord := chkB_ord hc
  have HL : Hid (l.length = n) := h.len
  obtain ⟨M, hM⟩ : ∃ M, min m (65536 - f) = M := ⟨_, rfl⟩
  obtain ⟨T, hT⟩ : ∃ T, toI f m = T := ⟨_, rfl⟩
  have hTM : f + M = T := by rw [← hM, ← hT]; rfl
  have hfT : f ≤ T := by omega
  have hwT : IntKind.i64.wrap (f + M) = T := by rw [IntKind.wrap_i64]; omega
  have hn1 : ¬ f < 0 := by omega
  have hn2 : ¬ f > 65536 := by omega
  have hn3 : ¬ m < 0 := by omega
  rw [hT]
  have HLO : Hid (Ord (leftL f T l)) := hord.left hfT
  have HO1 : Hid (∀ e ∈ l, oneB e = true) := hord.one
  clear hT hc hord hTM
  go_enter Try.func28, Try.ntmps28
  go_wp2_with fail
  refine hk.mono ?_
  rintro e9 w1 ⟨rfl, hb1⟩
  have h1 := h.below hb1
  clear hk
  go_wp2
  go_loopw [11, 12, 13] (fun vl vg i wr => ∃ (k nl ng : Nat), k ≤ n ∧ i = .int .i64 k ∧ nl ≤ 2 * k ∧ ng ≤ k ∧ PR w1 wr vl vg nl ng (intL f T (l.take k)) (runsL f T (l.take k))) (fun _ _ i _ => n - (intOf i).toNat)
  case atStart => exact ⟨0, 0, 0, Nat.zero_le _, rfl, Nat.zero_le _, Nat.zero_le _, ⟨World.ownsRow_nil _ _ _ _, World.ownsRow_nil _ _ _ _, .inl rfl, Below.refl _ _⟩⟩
  case round =>
    obtain ⟨k, nl, ng, hkn, rfl, hnl, hng, hPR⟩ := hrel
    by_cases hlt : k < n
    · have hki : (k : Int) < (n : Int) := by omega
      have hlw := h1.lt (by omega)
      obtain ⟨b, o, hpe, hbl, hcc⟩ := (h1.below hPR.hb).at' (by omega)
      subst hpe
      have hlowb : b < w1.heap.size := hlw _ rfl
      have hks : k < l.length := by rw [HL.out]; exact hlt
      have hin : Has wr b (o + k * 3) (eE l k) := ⟨hbl, hcc k hlt⟩
      have HIL : Hid (intL f T (l.take (k + 1)) = intL f T (l.take k) ++ (prt 0 f (eE l k) ++ prt T 65536 (eE l k))) := by show _ = _; rw [takeE_succ l k hks, int_snoc]
      have HRL : Hid (runsL f T (l.take (k + 1)) = runsL f T (l.take k) ++ prt f T (eE l k)) := by show _ = _; rw [takeE_succ l k hks, runs_snoc]
      have HOE : Hid (oneB (eE l k) = true) := HO1.out _ (eE_mem hks)
      have hq0 := hin.2.1
      have hq1 := hin.2.2.1
      have hq2 := hin.2.2.2
      clear hcc hbl hlw
      generalize eE l k = e at *
      cases hp1 : partB 0 f e with
      | true =>
        have hr1 := fun W => rpart_any e 0 f W HOE.out
        simp only [hp1] at hr1
        have HP1 : Hid (prt 0 f e = [partE 0 f e]) := by show _ = _; unfold prt; rw [if_pos hp1]
        generalize partE 0 f e = y1 at *
        clear hp1
        go_wp2_with fail
        refine (hr1 _).mono ?_
        rintro e9 wa1 ⟨rfl, hb9⟩
        replace hin := hin.below (bt hb9 (below_alloc _ (.cells #[.int .i64 y1.lo, .int .i64 y1.ln, .int .i64 y1.ph] 31)))
        replace hPR := hPR.below (bt hb9 (below_alloc _ (.cells #[.int .i64 y1.lo, .int .i64 y1.ln, .int .i64 y1.ph] 31)))
        clear hb9 hr1
        have q1a := (hin.2.1)
        have q1b := (hin.2.2.1)
        have q1c := (hin.2.2.2)
        have kb1 := Blk.new' wa1 31 #[.int .i64 y1.lo, .int .i64 y1.ln, .int .i64 y1.ph]
        go_upto_region 13 with fail
        generalize World.alloc wa1 _ = wc1 at *
        have zz0 := kb1.cell' (i := 0) rfl
        have zz1 := kb1.cell' (i := 1) rfl
        have zz2 := kb1.cell' (i := 2) rfl
        have hs1 := hPR.hb.size
        have hw1 := hPR.oL
        go_wp2_with (at_builtin; refine wpList_append_own_at _ rfl (.tmp 57) (.tmp 59) 22 rfl w1.heap.size 31 i0 (.agg #[.int .i64 0, .int .i64 0, .int .i64 0]) 3 24 Try.underlying22 hi hz0 hz1 hz2 rfl (by decide) _ (nl) _ rfl (hw1.alloc _) ⟨_, 0, none⟩ 1 1 [.int .i64 y1.lo, .int .i64 y1.ln, .int .i64 y1.ph] rfl rfl (new_three _ _ _ _) (by simp [Value.oneCell']) (by unfold maxLen; omega) (by omega) (by rw [World.size_alloc]; exact Nat.le_succ_of_le hs1) ?_; intro v1 wb1 hown9 hgrow9 _ hat9; replace hin := hPR.keepH hgrow9 hin ⟨hlowb, hw1⟩; replace hPR := hPR.appL hown9 hgrow9 hat9; have p1a := hin.2.1; have p1b := hin.2.2.1; have p1c := hin.2.2.2; clear hown9 hgrow9 hat9 hw1 hs1 zz0 zz1 zz2 kb1)
        cases hp2 : partB f T e with
        | true =>
          have hr2 := fun W => rpart_any e f T W HOE.out
          simp only [hp2] at hr2
          have HP2 : Hid (prt f T e = [partE f T e]) := by show _ = _; unfold prt; rw [if_pos hp2]
          generalize partE f T e = y2 at *
          clear hp2
          go_wp2_with fail
          refine (hr2 _).mono ?_
          rintro e9 wa2 ⟨rfl, hb9⟩
          replace hin := hin.below (bt hb9 (below_alloc _ (.cells #[.int .i64 y2.lo, .int .i64 y2.ln, .int .i64 y2.ph] 31)))
          replace hPR := hPR.below (bt hb9 (below_alloc _ (.cells #[.int .i64 y2.lo, .int .i64 y2.ln, .int .i64 y2.ph] 31)))
          clear hb9 hr2
          have q2a := (hin.2.1)
          have q2b := (hin.2.2.1)
          have q2c := (hin.2.2.2)
          have kb2 := Blk.new' wa2 31 #[.int .i64 y2.lo, .int .i64 y2.ln, .int .i64 y2.ph]
          go_upto_region 16 with fail
          generalize World.alloc wa2 _ = wc2 at *
          have zz0 := kb2.cell' (i := 0) rfl
          have zz1 := kb2.cell' (i := 1) rfl
          have zz2 := kb2.cell' (i := 2) rfl
          have hs2 := hPR.hb.size
          have hw2 := hPR.oG
          go_wp2_with (at_builtin; refine wpList_append_own_at _ rfl (.tmp 72) (.tmp 74) 22 rfl w1.heap.size 31 i0 (.agg #[.int .i64 0, .int .i64 0, .int .i64 0]) 3 24 Try.underlying22 hi hz0 hz1 hz2 rfl (by decide) _ (ng) _ rfl (hw2.alloc _) ⟨_, 0, none⟩ 1 1 [.int .i64 y2.lo, .int .i64 y2.ln, .int .i64 y2.ph] rfl rfl (new_three _ _ _ _) (by simp [Value.oneCell']) (by unfold maxLen; omega) (by omega) (by rw [World.size_alloc]; exact Nat.le_succ_of_le hs2) ?_; intro v2 wb2 hown9 hgrow9 _ hat9; replace hin := hPR.keepH hgrow9 hin ⟨hlowb, hw2⟩; replace hPR := hPR.appG hown9 hgrow9 hat9; have p2a := hin.2.1; have p2b := hin.2.2.1; have p2c := hin.2.2.2; clear hown9 hgrow9 hat9 hw2 hs2 zz0 zz1 zz2 kb2)
          cases hp3 : partB T 65536 e with
          | true =>
            have hr3 := fun W => rpart_any e T 65536 W HOE.out
            simp only [hp3] at hr3
            have HP3 : Hid (prt T 65536 e = [partE T 65536 e]) := by show _ = _; unfold prt; rw [if_pos hp3]
            generalize partE T 65536 e = y3 at *
            clear hp3
            go_wp2_with fail
            refine (hr3 _).mono ?_
            rintro e9 wa3 ⟨rfl, hb9⟩
            replace hin := hin.below (bt hb9 (below_alloc _ (.cells #[.int .i64 y3.lo, .int .i64 y3.ln, .int .i64 y3.ph] 31)))
            replace hPR := hPR.below (bt hb9 (below_alloc _ (.cells #[.int .i64 y3.lo, .int .i64 y3.ln, .int .i64 y3.ph] 31)))
            clear hb9 hr3
            have q3a := (hin.2.1)
            have q3b := (hin.2.2.1)
            have q3c := (hin.2.2.2)
            have kb3 := Blk.new' wa3 31 #[.int .i64 y3.lo, .int .i64 y3.ln, .int .i64 y3.ph]
            go_upto_region 19 with fail
            generalize World.alloc wa3 _ = wc3 at *
            have zz0 := kb3.cell' (i := 0) rfl
            have zz1 := kb3.cell' (i := 1) rfl
            have zz2 := kb3.cell' (i := 2) rfl
            have hs3 := hPR.hb.size
            have hw3 := hPR.oL
            go_wp2_with (at_builtin; refine wpList_append_own_at _ rfl (.tmp 86) (.tmp 88) 22 rfl w1.heap.size 31 i0 (.agg #[.int .i64 0, .int .i64 0, .int .i64 0]) 3 24 Try.underlying22 hi hz0 hz1 hz2 rfl (by decide) _ (nl + 1) _ rfl (hw3.alloc _) ⟨_, 0, none⟩ 1 1 [.int .i64 y3.lo, .int .i64 y3.ln, .int .i64 y3.ph] rfl rfl (new_three _ _ _ _) (by simp [Value.oneCell']) (by unfold maxLen; omega) (by omega) (by rw [World.size_alloc]; exact Nat.le_succ_of_le hs3) ?_; intro v3 wb3 hown9 hgrow9 _ hat9; replace hin := hPR.keepH hgrow9 hin ⟨hlowb, hw3⟩; replace hPR := hPR.appL hown9 hgrow9 hat9; have p3a := hin.2.1; have p3b := hin.2.2.1; have p3c := hin.2.2.2; clear hown9 hgrow9 hat9 hw3 hs3 zz0 zz1 zz2 kb3)
            go_wp2
            go_roundw
            case rel => exact ⟨k + 1, nl + 1 + 1, ng + 1, by omega, by go_num, by omega, by omega, by rw [HIL.out, HP1.out, HP3.out, HRL.out, HP2.out]; simpa only [List.append_nil, List.nil_append, List.append_assoc, List.cons_append] using hPR⟩
            case measure => simp [intOf]; omega
          | false =>
            have hr3 := fun W => rpart_any e T 65536 W HOE.out
            simp only [partE_no hp3, hp3] at hr3
            have HP3 : Hid (prt T 65536 e = []) := by show _ = _; unfold prt; rw [if_neg (by rw [hp3]; decide)]
            clear hp3
            go_wp2_with fail
            refine (hr3 _).mono ?_
            rintro e9 wa3 ⟨rfl, hb9⟩
            replace hin := hin.below (bt hb9 (below_alloc _ (.cells #[.int .i64 0, .int .i64 0, .int .i64 0] 31)))
            replace hPR := hPR.below (bt hb9 (below_alloc _ (.cells #[.int .i64 0, .int .i64 0, .int .i64 0] 31)))
            clear hb9 hr3
            have q3a := (hin.2.1)
            have q3b := (hin.2.2.1)
            have q3c := (hin.2.2.2)
            go_wp2
            go_roundw
            case rel => exact ⟨k + 1, nl + 1, ng + 1, by omega, by go_num, by omega, by omega, by rw [HIL.out, HP1.out, HP3.out, HRL.out, HP2.out]; simpa only [List.append_nil, List.nil_append, List.append_assoc, List.cons_append] using hPR⟩
            case measure => simp [intOf]; omega
        | false =>
          have hr2 := fun W => rpart_any e f T W HOE.out
          simp only [partE_no hp2, hp2] at hr2
          have HP2 : Hid (prt f T e = []) := by show _ = _; unfold prt; rw [if_neg (by rw [hp2]; decide)]
          clear hp2
          go_wp2_with fail
          refine (hr2 _).mono ?_
          rintro e9 wa2 ⟨rfl, hb9⟩
          replace hin := hin.below (bt hb9 (below_alloc _ (.cells #[.int .i64 0, .int .i64 0, .int .i64 0] 31)))
          replace hPR := hPR.below (bt hb9 (below_alloc _ (.cells #[.int .i64 0, .int .i64 0, .int .i64 0] 31)))
          clear hb9 hr2
          have q2a := (hin.2.1)
          have q2b := (hin.2.2.1)
          have q2c := (hin.2.2.2)
          cases hp3 : partB T 65536 e with
          | true =>
            have hr3 := fun W => rpart_any e T 65536 W HOE.out
            simp only [hp3] at hr3
            have HP3 : Hid (prt T 65536 e = [partE T 65536 e]) := by show _ = _; unfold prt; rw [if_pos hp3]
            generalize partE T 65536 e = y3 at *
            clear hp3
            go_wp2_with fail
            refine (hr3 _).mono ?_
            rintro e9 wa3 ⟨rfl, hb9⟩
            replace hin := hin.below (bt hb9 (below_alloc _ (.cells #[.int .i64 y3.lo, .int .i64 y3.ln, .int .i64 y3.ph] 31)))
            replace hPR := hPR.below (bt hb9 (below_alloc _ (.cells #[.int .i64 y3.lo, .int .i64 y3.ln, .int .i64 y3.ph] 31)))
            clear hb9 hr3
            have q3a := (hin.2.1)
            have q3b := (hin.2.2.1)
            have q3c := (hin.2.2.2)
            have kb3 := Blk.new' wa3 31 #[.int .i64 y3.lo, .int .i64 y3.ln, .int .i64 y3.ph]
            go_upto_region 19 with fail
            generalize World.alloc wa3 _ = wc3 at *
            have zz0 := kb3.cell' (i := 0) rfl
            have zz1 := kb3.cell' (i := 1) rfl
            have zz2 := kb3.cell' (i := 2) rfl
            have hs3 := hPR.hb.size
            have hw3 := hPR.oL
            go_wp2_with (at_builtin; refine wpList_append_own_at _ rfl (.tmp 86) (.tmp 88) 22 rfl w1.heap.size 31 i0 (.agg #[.int .i64 0, .int .i64 0, .int .i64 0]) 3 24 Try.underlying22 hi hz0 hz1 hz2 rfl (by decide) _ (nl + 1) _ rfl (hw3.alloc _) ⟨_, 0, none⟩ 1 1 [.int .i64 y3.lo, .int .i64 y3.ln, .int .i64 y3.ph] rfl rfl (new_three _ _ _ _) (by simp [Value.oneCell']) (by unfold maxLen; omega) (by omega) (by rw [World.size_alloc]; exact Nat.le_succ_of_le hs3) ?_; intro v3 wb3 hown9 hgrow9 _ hat9; replace hin := hPR.keepH hgrow9 hin ⟨hlowb, hw3⟩; replace hPR := hPR.appL hown9 hgrow9 hat9; have p3a := hin.2.1; have p3b := hin.2.2.1; have p3c := hin.2.2.2; clear hown9 hgrow9 hat9 hw3 hs3 zz0 zz1 zz2 kb3)
            go_wp2
            go_roundw
            case rel => exact ⟨k + 1, nl + 1 + 1, ng, by omega, by go_num, by omega, by omega, by rw [HIL.out, HP1.out, HP3.out, HRL.out, HP2.out]; simpa only [List.append_nil, List.nil_append, List.append_assoc, List.cons_append] using hPR⟩
            case measure => simp [intOf]; omega
          | false =>
            have hr3 := fun W => rpart_any e T 65536 W HOE.out
            simp only [partE_no hp3, hp3] at hr3
            have HP3 : Hid (prt T 65536 e = []) := by show _ = _; unfold prt; rw [if_neg (by rw [hp3]; decide)]
            clear hp3
            go_wp2_with fail
            refine (hr3 _).mono ?_
            rintro e9 wa3 ⟨rfl, hb9⟩
            replace hin := hin.below (bt hb9 (below_alloc _ (.cells #[.int .i64 0, .int .i64 0, .int .i64 0] 31)))
            replace hPR := hPR.below (bt hb9 (below_alloc _ (.cells #[.int .i64 0, .int .i64 0, .int .i64 0] 31)))
            clear hb9 hr3
            have q3a := (hin.2.1)
            have q3b := (hin.2.2.1)
            have q3c := (hin.2.2.2)
            go_wp2
            go_roundw
            case rel => exact ⟨k + 1, nl + 1, ng, by omega, by go_num, by omega, by omega, by rw [HIL.out, HP1.out, HP3.out, HRL.out, HP2.out]; simpa only [List.append_nil, List.nil_append, List.append_assoc, List.cons_append] using hPR⟩
            case measure => simp [intOf]; omega
      | false =>
        have hr1 := fun W => rpart_any e 0 f W HOE.out
        simp only [partE_no hp1, hp1] at hr1
        have HP1 : Hid (prt 0 f e = []) := by show _ = _; unfold prt; rw [if_neg (by rw [hp1]; decide)]
        clear hp1
        go_wp2_with fail
        refine (hr1 _).mono ?_
        rintro e9 wa1 ⟨rfl, hb9⟩
        replace hin := hin.below (bt hb9 (below_alloc _ (.cells #[.int .i64 0, .int .i64 0, .int .i64 0] 31)))
        replace hPR := hPR.below (bt hb9 (below_alloc _ (.cells #[.int .i64 0, .int .i64 0, .int .i64 0] 31)))
        clear hb9 hr1
        have q1a := (hin.2.1)
        have q1b := (hin.2.2.1)
        have q1c := (hin.2.2.2)
        cases hp2 : partB f T e with
        | true =>
          have hr2 := fun W => rpart_any e f T W HOE.out
          simp only [hp2] at hr2
          have HP2 : Hid (prt f T e = [partE f T e]) := by show _ = _; unfold prt; rw [if_pos hp2]
          generalize partE f T e = y2 at *
          clear hp2
          go_wp2_with fail
          refine (hr2 _).mono ?_
          rintro e9 wa2 ⟨rfl, hb9⟩
          replace hin := hin.below (bt hb9 (below_alloc _ (.cells #[.int .i64 y2.lo, .int .i64 y2.ln, .int .i64 y2.ph] 31)))
          replace hPR := hPR.below (bt hb9 (below_alloc _ (.cells #[.int .i64 y2.lo, .int .i64 y2.ln, .int .i64 y2.ph] 31)))
          clear hb9 hr2
          have q2a := (hin.2.1)
          have q2b := (hin.2.2.1)
          have q2c := (hin.2.2.2)
          have kb2 := Blk.new' wa2 31 #[.int .i64 y2.lo, .int .i64 y2.ln, .int .i64 y2.ph]
          go_upto_region 16 with fail
          generalize World.alloc wa2 _ = wc2 at *
          have zz0 := kb2.cell' (i := 0) rfl
          have zz1 := kb2.cell' (i := 1) rfl
          have zz2 := kb2.cell' (i := 2) rfl
          have hs2 := hPR.hb.size
          have hw2 := hPR.oG
          go_wp2_with (at_builtin; refine wpList_append_own_at _ rfl (.tmp 72) (.tmp 74) 22 rfl w1.heap.size 31 i0 (.agg #[.int .i64 0, .int .i64 0, .int .i64 0]) 3 24 Try.underlying22 hi hz0 hz1 hz2 rfl (by decide) _ (ng) _ rfl (hw2.alloc _) ⟨_, 0, none⟩ 1 1 [.int .i64 y2.lo, .int .i64 y2.ln, .int .i64 y2.ph] rfl rfl (new_three _ _ _ _) (by simp [Value.oneCell']) (by unfold maxLen; omega) (by omega) (by rw [World.size_alloc]; exact Nat.le_succ_of_le hs2) ?_; intro v2 wb2 hown9 hgrow9 _ hat9; replace hin := hPR.keepH hgrow9 hin ⟨hlowb, hw2⟩; replace hPR := hPR.appG hown9 hgrow9 hat9; have p2a := hin.2.1; have p2b := hin.2.2.1; have p2c := hin.2.2.2; clear hown9 hgrow9 hat9 hw2 hs2 zz0 zz1 zz2 kb2)
          cases hp3 : partB T 65536 e with
          | true =>
            have hr3 := fun W => rpart_any e T 65536 W HOE.out
            simp only [hp3] at hr3
            have HP3 : Hid (prt T 65536 e = [partE T 65536 e]) := by show _ = _; unfold prt; rw [if_pos hp3]
            generalize partE T 65536 e = y3 at *
            clear hp3
            go_wp2_with fail
            refine (hr3 _).mono ?_
            rintro e9 wa3 ⟨rfl, hb9⟩
            replace hin := hin.below (bt hb9 (below_alloc _ (.cells #[.int .i64 y3.lo, .int .i64 y3.ln, .int .i64 y3.ph] 31)))
            replace hPR := hPR.below (bt hb9 (below_alloc _ (.cells #[.int .i64 y3.lo, .int .i64 y3.ln, .int .i64 y3.ph] 31)))
            clear hb9 hr3
            have q3a := (hin.2.1)
            have q3b := (hin.2.2.1)
            have q3c := (hin.2.2.2)
            have kb3 := Blk.new' wa3 31 #[.int .i64 y3.lo, .int .i64 y3.ln, .int .i64 y3.ph]
            go_upto_region 19 with fail
            generalize World.alloc wa3 _ = wc3 at *
            have zz0 := kb3.cell' (i := 0) rfl
            have zz1 := kb3.cell' (i := 1) rfl
            have zz2 := kb3.cell' (i := 2) rfl
            have hs3 := hPR.hb.size
            have hw3 := hPR.oL
            go_wp2_with (at_builtin; refine wpList_append_own_at _ rfl (.tmp 86) (.tmp 88) 22 rfl w1.heap.size 31 i0 (.agg #[.int .i64 0, .int .i64 0, .int .i64 0]) 3 24 Try.underlying22 hi hz0 hz1 hz2 rfl (by decide) _ (nl) _ rfl (hw3.alloc _) ⟨_, 0, none⟩ 1 1 [.int .i64 y3.lo, .int .i64 y3.ln, .int .i64 y3.ph] rfl rfl (new_three _ _ _ _) (by simp [Value.oneCell']) (by unfold maxLen; omega) (by omega) (by rw [World.size_alloc]; exact Nat.le_succ_of_le hs3) ?_; intro v3 wb3 hown9 hgrow9 _ hat9; replace hin := hPR.keepH hgrow9 hin ⟨hlowb, hw3⟩; replace hPR := hPR.appL hown9 hgrow9 hat9; have p3a := hin.2.1; have p3b := hin.2.2.1; have p3c := hin.2.2.2; clear hown9 hgrow9 hat9 hw3 hs3 zz0 zz1 zz2 kb3)
            go_wp2
            go_roundw
            case rel => exact ⟨k + 1, nl + 1, ng + 1, by omega, by go_num, by omega, by omega, by rw [HIL.out, HP1.out, HP3.out, HRL.out, HP2.out]; simpa only [List.append_nil, List.nil_append, List.append_assoc, List.cons_append] using hPR⟩
            case measure => simp [intOf]; omega
          | false =>
            have hr3 := fun W => rpart_any e T 65536 W HOE.out
            simp only [partE_no hp3, hp3] at hr3
            have HP3 : Hid (prt T 65536 e = []) := by show _ = _; unfold prt; rw [if_neg (by rw [hp3]; decide)]
            clear hp3
            go_wp2_with fail
            refine (hr3 _).mono ?_
            rintro e9 wa3 ⟨rfl, hb9⟩
            replace hin := hin.below (bt hb9 (below_alloc _ (.cells #[.int .i64 0, .int .i64 0, .int .i64 0] 31)))
            replace hPR := hPR.below (bt hb9 (below_alloc _ (.cells #[.int .i64 0, .int .i64 0, .int .i64 0] 31)))
            clear hb9 hr3
            have q3a := (hin.2.1)
            have q3b := (hin.2.2.1)
            have q3c := (hin.2.2.2)
            go_wp2
            go_roundw
            case rel => exact ⟨k + 1, nl, ng + 1, by omega, by go_num, by omega, by omega, by rw [HIL.out, HP1.out, HP3.out, HRL.out, HP2.out]; simpa only [List.append_nil, List.nil_append, List.append_assoc, List.cons_append] using hPR⟩
            case measure => simp [intOf]; omega
        | false =>
          have hr2 := fun W => rpart_any e f T W HOE.out
          simp only [partE_no hp2, hp2] at hr2
          have HP2 : Hid (prt f T e = []) := by show _ = _; unfold prt; rw [if_neg (by rw [hp2]; decide)]
          clear hp2
          go_wp2_with fail
          refine (hr2 _).mono ?_
          rintro e9 wa2 ⟨rfl, hb9⟩
          replace hin := hin.below (bt hb9 (below_alloc _ (.cells #[.int .i64 0, .int .i64 0, .int .i64 0] 31)))
          replace hPR := hPR.below (bt hb9 (below_alloc _ (.cells #[.int .i64 0, .int .i64 0, .int .i64 0] 31)))
          clear hb9 hr2
          have q2a := (hin.2.1)
          have q2b := (hin.2.2.1)
          have q2c := (hin.2.2.2)
          cases hp3 : partB T 65536 e with
          | true =>
            have hr3 := fun W => rpart_any e T 65536 W HOE.out
            simp only [hp3] at hr3
            have HP3 : Hid (prt T 65536 e = [partE T 65536 e]) := by show _ = _; unfold prt; rw [if_pos hp3]
            generalize partE T 65536 e = y3 at *
            clear hp3
            go_wp2_with fail
            refine (hr3 _).mono ?_
            rintro e9 wa3 ⟨rfl, hb9⟩
            replace hin := hin.below (bt hb9 (below_alloc _ (.cells #[.int .i64 y3.lo, .int .i64 y3.ln, .int .i64 y3.ph] 31)))
            replace hPR := hPR.below (bt hb9 (below_alloc _ (.cells #[.int .i64 y3.lo, .int .i64 y3.ln, .int .i64 y3.ph] 31)))
            clear hb9 hr3
            have q3a := (hin.2.1)
            have q3b := (hin.2.2.1)
            have q3c := (hin.2.2.2)
            have kb3 := Blk.new' wa3 31 #[.int .i64 y3.lo, .int .i64 y3.ln, .int .i64 y3.ph]
            go_upto_region 19 with fail
            generalize World.alloc wa3 _ = wc3 at *
            have zz0 := kb3.cell' (i := 0) rfl
            have zz1 := kb3.cell' (i := 1) rfl
            have zz2 := kb3.cell' (i := 2) rfl
            have hs3 := hPR.hb.size
            have hw3 := hPR.oL
            go_wp2_with (at_builtin; refine wpList_append_own_at _ rfl (.tmp 86) (.tmp 88) 22 rfl w1.heap.size 31 i0 (.agg #[.int .i64 0, .int .i64 0, .int .i64 0]) 3 24 Try.underlying22 hi hz0 hz1 hz2 rfl (by decide) _ (nl) _ rfl (hw3.alloc _) ⟨_, 0, none⟩ 1 1 [.int .i64 y3.lo, .int .i64 y3.ln, .int .i64 y3.ph] rfl rfl (new_three _ _ _ _) (by simp [Value.oneCell']) (by unfold maxLen; omega) (by omega) (by rw [World.size_alloc]; exact Nat.le_succ_of_le hs3) ?_; intro v3 wb3 hown9 hgrow9 _ hat9; replace hin := hPR.keepH hgrow9 hin ⟨hlowb, hw3⟩; replace hPR := hPR.appL hown9 hgrow9 hat9; have p3a := hin.2.1; have p3b := hin.2.2.1; have p3c := hin.2.2.2; clear hown9 hgrow9 hat9 hw3 hs3 zz0 zz1 zz2 kb3)
            go_wp2
            go_roundw
            case rel => exact ⟨k + 1, nl + 1, ng, by omega, by go_num, by omega, by omega, by rw [HIL.out, HP1.out, HP3.out, HRL.out, HP2.out]; simpa only [List.append_nil, List.nil_append, List.append_assoc, List.cons_append] using hPR⟩
            case measure => simp [intOf]; omega
          | false =>
            have hr3 := fun W => rpart_any e T 65536 W HOE.out
            simp only [partE_no hp3, hp3] at hr3
            have HP3 : Hid (prt T 65536 e = []) := by show _ = _; unfold prt; rw [if_neg (by rw [hp3]; decide)]
            clear hp3
            go_wp2_with fail
            refine (hr3 _).mono ?_
            rintro e9 wa3 ⟨rfl, hb9⟩
            replace hin := hin.below (bt hb9 (below_alloc _ (.cells #[.int .i64 0, .int .i64 0, .int .i64 0] 31)))
            replace hPR := hPR.below (bt hb9 (below_alloc _ (.cells #[.int .i64 0, .int .i64 0, .int .i64 0] 31)))
            clear hb9 hr3
            have q3a := (hin.2.1)
            have q3b := (hin.2.2.1)
            have q3c := (hin.2.2.2)
            go_wp2
            go_roundw
            case rel => exact ⟨k + 1, nl, ng, by omega, by go_num, by omega, by omega, by rw [HIL.out, HP1.out, HP3.out, HRL.out, HP2.out]; simpa only [List.append_nil, List.nil_append, List.append_assoc, List.cons_append] using hPR⟩
            case measure => simp [intOf]; omega
    · obtain rfl : k = n := by omega
      have hkn : ¬ (k : Int) < (k : Int) := by omega
      rw [List.take_of_length_le (by rw [HL.out]; exact Nat.le_refl _)] at hPR
      obtain ⟨p9, c9, hv9, hi9⟩ := in_of_ownsE hPR.oL (by omega)
      subst hv9
      obtain ⟨pg, cg, rfl⟩ := owns_slice hPR.oG
      have hoo : ∀ e ∈ intL f T l, oneB e = true := fun e he => HLO.out.one e ((int_perm f T l).mem_iff.2 he)
      have hN := rnorm_any p9 nl c9 (intL f T l) wr hi9 (by omega) hoo
      have HG : Hid (ng = (runsL f T l).length) := by show _ = _; have := hPR.oG.1; rw [flatE_length] at this; omega
      clear hoo hi9
      go_wp2_with fail
      refine hN.mono ?_
      rintro e9 w5 ⟨s, v5, hp, hs, rfl, ho5, hb5⟩
      have HS : Hid (normL s = normL (leftL f T l)) := by
        show _ = _
        rw [HLO.out.unique (hp.trans (int_perm f T l).symm) hs]
      have hap := owns_apart9 ho5 hPR.oG
      have ho6 := owns_below hPR.oG hb5
      have hb6 := hPR.hb.trans (hb5.mono hPR.hb.size)
      have hsr := hPR.hb.size
      have hsw := hb1.size
      have hb7 := hb1.trans (hb6.mono hsw)
      clear hN hp hs hb5 hPR
      go_wp2
      go_ret3
      exact ⟨v5, .slice pg ng cg, rfl, by rw [← HS.out]; exact owns_base ho5 (by omega), by rw [← HG.out]; exact owns_base ho6 hsw, hap, hb7⟩
end Go.Proofs.Ytmboohadindlfaa
