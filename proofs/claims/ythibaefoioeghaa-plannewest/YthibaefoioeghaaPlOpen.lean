/-
  A fresh block as a log.
-/
import Derived.Test.YthibaefoioeghaaPlSkip
namespace Go.Proofs.Ythibaefoioeghaa
open Go.RowKit
def openE (T : Tab) (kind blk phys : Int) : Int :=
  if freshE T phys = 0 then (if kind = 3 ∧ hasBk T blk = true ∧ T.sp = -1 then 0 else if kind = 4 ∧ (T.logs.length : Int) < T.k ∧ room T = false then 0 else 51) else freshE T phys
def openT (T : Tab) (kind blk phys : Int) : Tab := if kind = 3 then { T with sp := phys, sl := blk, su := 0 } else { T with logs := T.logs ++ [⟨phys, []⟩] }
theorem sizeSq (a b c : Value) : (Try.prog.info? 25).map (·.size) = some [a, b, c].length := by show _ = some 3; kernel_rfl
theorem one3 (a b c : Int) : ∀ v ∈ [Value.int .i64 a, Value.int .i64 b, Value.int .i64 c], v.oneCell' = true := by simp [Value.oneCell']
/-- A turn in a table's box leaves the rows of an own table. -/
theorem OwnT.turnedTab {B g : Nat} {w w' : World} {V : TabV} {T : Tab} {R : List LR} {cs : List Value} (h : OwnT B w V T R) (hb : Blk w g 28 cs) (ht : Turned w w' g) : OwnT B w' V T R :=
  ⟨h.logs, owns_turned h.d ht (fun a ha e => blk_ne hb h.d (by decide) a ha e.symm), owns_turned h.h ht (fun a ha e => blk_ne hb h.h (by decide) a ha e.symm), owns_turned h.l ht (fun a ha e => blk_ne hb h.l (by decide) a ha e.symm), fun i r hr => owns_turned (h.r i r hr) ht (fun a ha e => blk_ne hb (h.r i r hr) (by decide) a ha e.symm), h.ap, h.ad, h.sm⟩
theorem wpList_store_cell {ops : Array Oper} {rest : List Oper} {op : Oper} {a : Act} {w : World} {Q : Exit → Act → World → Prop} (hgd : op.guard = none) (ty : TypeId) (x y : Operand) (ho : op.op = .store ty x y)
    (g i : Nat) (v : Value) (hx : a.eval x = .pointer (some ⟨g, i, none⟩)) (hy : a.eval y = v) {t : TypeId} {cs : List Value} (h : Blk w g t cs) (hi : i < cs.length)
    (hz : (Try.prog.info? ty).map (·.size) = some 1) (hv : v.oneCell' = true)
    (hK : ∀ w', Blk w' g t (cs.set i v) → Turned w w' g → wpList Try.prog ops Q rest (a.put op.dst undef) w') (hc : v.cells = #[v] := by rfl) : wpList Try.prog ops Q (op :: rest) a w :=
  wpList_plain hgd fun _ hKK => wp_store_cell ty x y ho g i v hx hy h hi hz hv (fun w' h1 h2 => hKK _ _ (hK w' h1 h2)) hc
theorem tab_grown {w w' : World} {g : Nat} {cs : List Value} {B n c : Nat} {p : Option Addr} {xs : List Value} (hb : Blk w g 28 cs) (h : w.ownsRow B 61 2 (.slice p n c) n xs) (hg : w.grownBy w' (Value.slice p n c).ownBlock) : Blk w' g 28 cs := by
  refine (hg.block g hb.lt ?_).trans hb
  intro e
  cases p with
  | none => cases e
  | some a => exact blk_ne hb h (by decide) a rfl (Option.some.inj e)
theorem freshE_ok {T : Tab} {x : Int} (h : freshE T x = 0) : okT T = true := by
  unfold freshE at h
  cases hok : okT T with
  | true => rfl
  | false => rw [hok] at h; simp at h
set_option linter.unusedSimpArgs false in
set_option maxRecDepth 100000 in
set_option maxHeartbeats 8000000 in
theorem open_any (V : TabV) (T : Tab) (kind blk phys : Int) (w : World) (h : TabIn w V T) :
    Calls Try.prog 12 #[.agg (tabA V T), .agg #[.int .i64 kind, .int .i64 blk], .int .i64 phys] w fun e w' => (∃ V' T' R', e = .returned (.tuple #[.agg (tabA V' T'), .int .i64 (openE T kind blk phys)]) ∧ (openE T kind blk phys = 0 → T' = openT T kind blk phys ∧ OwnT w.heap.size w' V' T' R')) ∧ Below w.heap.size w w' := by
  have hb0 := bt (bt (below_alloc w (.cells (tabA V T) 28)) (below_alloc _ (.cells #[.int .i64 kind, .int .i64 blk] 30))) (below_alloc _ (.cells #[.int .i64 0, .int .i64 0, .int .i64 0, .slice none 0 0, .slice none 0 0, .int .i64 0, .int .i64 0, .int .i64 0, .slice none 0 0] 28))
  have b0 := ((Blk.new' w 28 (tabA V T)).alloc (.cells #[.int .i64 kind, .int .i64 blk] 30)).alloc (.cells #[.int .i64 0, .int .i64 0, .int .i64 0, .slice none 0 0, .slice none 0 0, .int .i64 0, .int .i64 0, .int .i64 0, .slice none 0 0] 28)
  have s0 := (Blk.new' (w.alloc (.cells (tabA V T) 28)) 30 #[.int .i64 kind, .int .i64 blk]).alloc (.cells #[.int .i64 0, .int .i64 0, .int .i64 0, .slice none 0 0, .slice none 0 0, .int .i64 0, .int .i64 0, .int .i64 0, .slice none 0 0] 28)
  have r0 := Blk.new' ((w.alloc (.cells (tabA V T) 28)).alloc (.cells #[.int .i64 kind, .int .i64 blk] 30)) 28 #[.int .i64 0, .int .i64 0, .int .i64 0, .slice none 0 0, .slice none 0 0, .int .i64 0, .int .i64 0, .int .i64 0, .slice none 0 0]
  rw [World.size_alloc] at s0
  rw [World.size_alloc, World.size_alloc] at r0
  have hT := h.below hb0
  have hc := reachFresh_any V T phys _ hT
  by_cases hfr : freshE T phys = 0
  · have hok := freshE_ok hfr
    obtain ⟨P, L, hF⟩ := okT_facts hok hT
    have HE : Hid (openE T kind blk phys = if kind = 3 ∧ hasBk T blk = true ∧ T.sp = -1 then 0 else if kind = 4 ∧ (V.nl : Int) < T.k ∧ room T = false then 0 else 51) := by show _ = _; unfold openE; rw [if_pos hfr, hT.logs.len]
    have HMA : Hid (∀ w', TabIn w' V T → Calls Try.prog 31 #[.agg (tabA V T), .int .i64 kind] w' fun e w'' => e = .returned (.bool (mayP T P kind)) ∧ Below w'.heap.size w' w'') := fun w' hT' => may_any V T P kind w' hT' hF.pg hF.p0 hF.po hF.nl
    have hhb := fun w' => hasBlock_any V T blk w' (by have := hF.lg; have := hF.l0; omega)
    have hcp2 := fun w' (hT' : TabIn w' V T) => copied_any V T w' hT' (by have := hF.nd; have := hF.l0; omega) (by have := hF.nh; have := Nat.mul_le_mul hF.l0.2 hF.p0.2; omega) (by have := hF.nl; omega) (fun i l hl => by have := hF.len i l hl; have := hF.p0; omega)
    have hnl8 := hF.nl
    have HT : Hid (TabIn w V T) := h
    have HM3 : Hid (kind = 3 → mayP T P kind = !(T.sp != -1)) := fun e => by rw [e]; simp [mayP]
    have HM4 : Hid (kind = 4 → mayP T P kind = (decide ((V.nl : Int) < T.k) && !room T)) := fun e => by rw [e, ← hT.logs.len]; simp [mayP]
    rw [hfr] at hc
    unfold tabA at hb0 b0 s0 r0 hc hhb hcp2 ⊢
    clear hfr hok hF hT h
    go_enter Try.func12, Try.ntmps12
    go_upto_region 4 with (go_at_call 37; refine hc.mono ?_; rintro e w1 ⟨rfl, hb1⟩; have b1 := b0.kept hb1; have s1 := s0.kept hb1; have r1 := r0.kept hb1; have t0 := s1.cell' (i := 0) rfl; have t1 := s1.cell' (i := 1) rfl; have y0 := b1.cell' (i := 0) rfl; have y1 := b1.cell' (i := 1) rfl; have y2 := b1.cell' (i := 2) rfl; have y3 := b1.cell' (i := 3) rfl; have y4 := b1.cell' (i := 4) rfl; have y5 := b1.cell' (i := 5) rfl; have y6 := b1.cell' (i := 6) rfl; have y7 := b1.cell' (i := 7) rfl; have y8 := b1.cell' (i := 8) rfl)
    have hbel := bt hb0 hb1
    have hcp := hcp2 w1 (HT.out.below hbel)
    clear hcp2 hc hb0 b0 s0 r0
    go_upto_region 6 with (first | (go_at_call 38; refine hcp.mono ?_; rintro e w3 ⟨V1, R1, rfl, -, -, hnl1, hown, k3⟩; have hnl2 : Hid (V1.nl = V.nl) := hnl1; clear hnl1) | (refine wpList_store_blk rfl 28 (.tmp 9) (.tmp 18) rfl w3.heap.size 0 (tabC V1 T) rfl rfl (Blk.new' w3 28 #[.int .i64 0, .int .i64 0, .int .i64 0, .slice none 0 0, .slice none 0 0, .int .i64 0, .int .i64 0, .int .i64 0, .slice none 0 0]) (by exact Nat.le_refl _) (tabSize _ _) (tabOne _ _) ?_; intro W4 h4 ht4; rw [whole_row (by rfl)] at h4))
    have k4 : Below w3.heap.size w3 W4 := ht4.below (below_alloc w3 _) (Nat.le_refl _)
    replace hown := hown.next k4
    have b4 := (b1.kept k3).kept k4
    have s4 := (s1.kept k3).kept k4
    have r4 := (r1.kept k3).kept k4
    have hbel4 := bt (bt hbel k3) k4
    have hr1 := r1.lt
    have hg9 := k3.size
    have hg9l := h4.lt
    have hbsz := hbel.size
    have hma4 := HMA.out W4 (HT.out.below hbel4)
    have HMA5 : Hid (∀ w5, Below W4.heap.size W4 w5 → Calls Try.prog 31 #[.agg (tabA V T), .int .i64 kind] w5 fun e w'' => e = .returned (.bool (mayP T P kind)) ∧ Below w5.heap.size w5 w'') := fun w5 hb => HMA.out w5 (HT.out.below (bt hbel4 hb))
    unfold tabA at hma4
    unfold tabC at h4
    clear HMA hcp b1 s1 r1 y0 y1 y2 y3 y4 y5 y6 y7 y8 t0 t1 k3 k4 ht4 hbel hb1
    generalize w3.heap.size = g9 at *
    have t0 := s4.cell' (i := 0) rfl
    have t1 := s4.cell' (i := 1) rfl
    have y0 := b4.cell' (i := 0) rfl; have y1 := b4.cell' (i := 1) rfl; have y2 := b4.cell' (i := 2) rfl; have y3 := b4.cell' (i := 3) rfl; have y4 := b4.cell' (i := 4) rfl; have y5 := b4.cell' (i := 5) rfl; have y6 := b4.cell' (i := 6) rfl; have y7 := b4.cell' (i := 7) rfl; have y8 := b4.cell' (i := 8) rfl
    by_cases hk3 : kind = 3
    · have hm := HM3.out hk3
      have HMAY : Hid (∀ w5, Below W4.heap.size W4 w5 → Calls Try.prog 31 #[.agg (tabA V T), .int .i64 kind] w5 fun e w'' => e = .returned (.bool (!(T.sp != -1))) ∧ Below w5.heap.size w5 w'') := fun w5 hb => by have := HMA5.out w5 hb; rw [hm] at this; exact this
      clear hma4 HMA5 hm HM4
      subst hk3
      cases hbk : hasBk T blk with
      | false =>
        have HE2 : Hid (openE T 3 blk phys = 51) := by show _ = _; rw [HE.out, if_neg (fun h' => by rw [hbk] at h'; cases h'.2.1), if_neg (fun h' => by cases h'.1)]
        rw [hbk] at hhb
        clear hbk
        go_wp2_with (first | (go_at_call 39; refine (hhb _).mono ?_; rintro e w5 ⟨rfl, k5⟩; have b5 := b4.kept k5; have s5 := s4.kept k5; have r5 := r4.kept k5; have h5 := h4.kept k5; have u0 := s5.cell' (i := 0) rfl; have u1 := s5.cell' (i := 1) rfl; have v0 := b5.cell' (i := 0) rfl; have v1 := b5.cell' (i := 1) rfl; have v2 := b5.cell' (i := 2) rfl; have v3 := b5.cell' (i := 3) rfl; have v4 := b5.cell' (i := 4) rfl; have v5 := b5.cell' (i := 5) rfl; have v6 := b5.cell' (i := 6) rfl; have v7 := b5.cell' (i := 7) rfl; have v8 := b5.cell' (i := 8) rfl) | (guard_target = wpList _ _ _ (Oper.mk _ (Op.store 28 (Operand.tmp 6) _) _ _ _ _ :: _) _ _; refine wpList_store_blk rfl 28 (.tmp 6) (.tmp 19) rfl (w.heap.size + 2) 0 (tabC ⟨none, 0, 0, none, 0, 0, none, 0, 0⟩ zeroT) rfl rfl r5 (by exact Nat.le_refl _) (tabSize _ _) (tabOne _ _) ?_; intro W9 h9 ht9; rw [whole_row (by rfl)] at h9))
        refine ret_tabE Try.results12 rfl h9 rfl rfl ⟨⟨_, _, [], by rw [HE2.out]; rfl, fun h' => by rw [HE2.out] at h'; cases h'⟩, ht9.below (bt hbel4 k5) (by omega)⟩
      | true =>
        rw [hbk] at hhb
        by_cases hsp : T.sp = -1
        · have HE2 : Hid (openE T 3 blk phys = 0) := by show _ = _; rw [HE.out, if_pos ⟨rfl, hbk, hsp⟩]
          have hma := fun w5 hb => HMAY.out w5 hb
          rw [show (!(T.sp != -1)) = true from by simp [hsp]] at hma
          unfold tabA at hma
          clear hbk HMAY hsp
          go_upto_region 7 with (first | (go_at_call 39; refine (hhb _).mono ?_; rintro e w5 ⟨rfl, k5⟩; have b5 := b4.kept k5; have s5 := s4.kept k5; have r5 := r4.kept k5; have h5 := h4.kept k5; have u0 := s5.cell' (i := 0) rfl; have u1 := s5.cell' (i := 1) rfl; have v0 := b5.cell' (i := 0) rfl; have v1 := b5.cell' (i := 1) rfl; have v2 := b5.cell' (i := 2) rfl; have v3 := b5.cell' (i := 3) rfl; have v4 := b5.cell' (i := 4) rfl; have v5 := b5.cell' (i := 5) rfl; have v6 := b5.cell' (i := 6) rfl; have v7 := b5.cell' (i := 7) rfl; have v8 := b5.cell' (i := 8) rfl) | (go_at_call 31; refine (hma _ k5).mono ?_; rintro e w6 ⟨rfl, k6⟩; have b6 := b5.kept k6; have s6 := s5.kept k6; have r6 := r5.kept k6; have h6 := h5.kept k6; have x0 := s6.cell' (i := 0) rfl; have x1 := s6.cell' (i := 1) rfl))
          have h7' : Blk w6 g9 28 (tabC V1 T) := h6
          go_upto_region 10 with (refine wpList_store_blk rfl 25 (.tmp 40) (.tmp 39) rfl g9 5 [.int .i64 phys, .int .i64 blk, .int .i64 0] rfl rfl h7' (by exact (by decide : 5 + 3 ≤ 9)) (sizeSq _ _ _) (one3 _ _ _) ?_; intro W7 h7 ht7)
          have h8 : Blk W7 g9 28 (tabC V1 (openT T 3 blk phys)) := h7
          have r8 := r6.turned ht7 (by omega)
          have HOW : Hid (OwnT w1.heap.size W7 V1 (openT T 3 blk phys) R1) := by
            have o6 := (hown.next (bt k5 k6))
            have o7 := o6.turnedTab h6 ht7
            exact ⟨o7.logs, o7.d, o7.h, o7.l, o7.r, o7.ap, o7.ad, o7.sm⟩
          obtain ⟨TO, hTO⟩ : ∃ TO, TO = openT T 3 blk phys := ⟨_, rfl⟩
          rw [← hTO] at h8 HOW
          have HTO : Hid (TO = openT T 3 blk phys) := hTO
          clear hTO
          have z0 := h8.cell' (i := 0) rfl; have z1 := h8.cell' (i := 1) rfl; have z2 := h8.cell' (i := 2) rfl; have z3 := h8.cell' (i := 3) rfl; have z4 := h8.cell' (i := 4) rfl; have z5 := h8.cell' (i := 5) rfl; have z6 := h8.cell' (i := 6) rfl; have z7 := h8.cell' (i := 7) rfl; have z8 := h8.cell' (i := 8) rfl
          go_wp2_with (guard_target = wpList _ _ _ (Oper.mk _ (Op.store 28 (Operand.tmp 6) _) _ _ _ _ :: _) _ _; refine wpList_store_blk rfl 28 (.tmp 6) (.tmp 58) rfl (w.heap.size + 2) 0 (tabC V1 TO) rfl rfl r8 (by exact Nat.le_refl _) (tabSize _ _) (tabOne _ _) ?_; intro W9 h9 ht9; rw [whole_row (by rfl)] at h9)
          refine ret_tabE Try.results12 rfl h9 rfl rfl ⟨⟨V1, TO, R1, by rw [HE2.out]; rfl, fun _ => ⟨HTO.out, (HOW.out.turnedAt ht9 (by omega)).low (by omega)⟩⟩, ht9.below (ht7.below (bt (bt hbel4 k5) k6) (by omega)) (by omega)⟩
        · have HE2 : Hid (openE T 3 blk phys = 51) := by show _ = _; rw [HE.out, if_neg (fun h' => hsp h'.2.2), if_neg (fun h' => by cases h'.1)]
          have hma := fun w5 hb => HMAY.out w5 hb
          rw [show (!(T.sp != -1)) = false from by simp [hsp]] at hma
          unfold tabA at hma
          clear hbk HMAY hsp
          go_wp2_with (first | (go_at_call 39; refine (hhb _).mono ?_; rintro e w5 ⟨rfl, k5⟩; have b5 := b4.kept k5; have s5 := s4.kept k5; have r5 := r4.kept k5; have h5 := h4.kept k5; have u0 := s5.cell' (i := 0) rfl; have u1 := s5.cell' (i := 1) rfl; have v0 := b5.cell' (i := 0) rfl; have v1 := b5.cell' (i := 1) rfl; have v2 := b5.cell' (i := 2) rfl; have v3 := b5.cell' (i := 3) rfl; have v4 := b5.cell' (i := 4) rfl; have v5 := b5.cell' (i := 5) rfl; have v6 := b5.cell' (i := 6) rfl; have v7 := b5.cell' (i := 7) rfl; have v8 := b5.cell' (i := 8) rfl) | (go_at_call 31; refine (hma _ k5).mono ?_; rintro e w6 ⟨rfl, k6⟩; have b6 := b5.kept k6; have s6 := s5.kept k6; have r6 := r5.kept k6; have h6 := h5.kept k6; have x0 := s6.cell' (i := 0) rfl; have x1 := s6.cell' (i := 1) rfl) | (guard_target = wpList _ _ _ (Oper.mk _ (Op.store 28 (Operand.tmp 6) _) _ _ _ _ :: _) _ _; refine wpList_store_blk rfl 28 (.tmp 6) (.tmp 19) rfl (w.heap.size + 2) 0 (tabC ⟨none, 0, 0, none, 0, 0, none, 0, 0⟩ zeroT) rfl rfl r6 (by exact Nat.le_refl _) (tabSize _ _) (tabOne _ _) ?_; intro W9 h9 ht9; rw [whole_row (by rfl)] at h9))
          refine ret_tabE Try.results12 rfl h9 rfl rfl ⟨⟨_, _, [], by rw [HE2.out]; rfl, fun h' => by rw [HE2.out] at h'; cases h'⟩, ht9.below (bt (bt hbel4 k5) k6) (by omega)⟩
    · have e3 : (kind == 3) = false := by simpa using hk3
      by_cases hk4 : kind = 4
      · have hm := HM4.out hk4
        rw [hm] at hma4
        clear HMA5 hm HM3 hhb
        subst hk4
        cases hmy : (decide ((V.nl : Int) < T.k) && !room T) with
        | false =>
          have HE2 : Hid (openE T 4 blk phys = 51) := by show _ = _; rw [HE.out, if_neg (fun h' => by cases h'.1), if_neg (fun h' => by rw [decide_eq_true h'.2.1, h'.2.2] at hmy; cases hmy)]
          rw [hmy] at hma4
          clear hmy
          go_wp2_with (first | (go_at_call 31; refine hma4.mono ?_; rintro e w6 ⟨rfl, k6⟩; have b6 := b4.kept k6; have s6 := s4.kept k6; have r6 := r4.kept k6; have h6 := h4.kept k6; have x0 := s6.cell' (i := 0) rfl; have x1 := s6.cell' (i := 1) rfl) | (guard_target = wpList _ _ _ (Oper.mk _ (Op.store 28 (Operand.tmp 6) _) _ _ _ _ :: _) _ _; refine wpList_store_blk rfl 28 (.tmp 6) (.tmp 19) rfl (w.heap.size + 2) 0 (tabC ⟨none, 0, 0, none, 0, 0, none, 0, 0⟩ zeroT) rfl rfl r6 (by exact Nat.le_refl _) (tabSize _ _) (tabOne _ _) ?_; intro W9 h9 ht9; rw [whole_row (by rfl)] at h9))
          refine ret_tabE Try.results12 rfl h9 rfl rfl ⟨⟨_, _, [], by rw [HE2.out]; rfl, fun h' => by rw [HE2.out] at h'; cases h'⟩, ht9.below (bt hbel4 k6) (by omega)⟩
        | true =>
          have HE2 : Hid (openE T 4 blk phys = 0) := by
            show _ = _
            simp only [Bool.and_eq_true, decide_eq_true_eq, Bool.not_eq_true'] at hmy
            rw [HE.out, if_neg (fun h' => by cases h'.1), if_pos ⟨rfl, hmy.1, hmy.2⟩]
          rw [hmy] at hma4
          clear hmy
          obtain ⟨i0, hi, hz0, hz1, hz2⟩ := info_parts infoLog
          go_upto_region 9 with (go_at_call 31; refine hma4.mono ?_; rintro e w6 ⟨rfl, k6⟩; have b6 := b4.kept k6; have s6 := s4.kept k6; have r6 := r4.kept k6; have h6 := h4.kept k6; have x0 := s6.cell' (i := 0) rfl; have x1 := s6.cell' (i := 1) rfl)
          have hown6 := hown.next k6
          have hnl9 : V1.nl ≤ 8 := by rw [hnl2.out]; exact hnl8
          have HOW6 : Hid (OwnT w1.heap.size w6 V1 T R1) := hown6
          have hw6 : w1.heap.size ≤ w6.heap.size := by have := h6.lt; omega
          have HLA : Hid (World.ownsRow _ w1.heap.size 61 2 (.slice V1.pl V1.nl V1.cl) V1.nl (flatR R1)) := owns_below hown6.l (below_alloc w6 (.cells #[.int .i64 phys, .slice none 0 0] 61))
          have z0 := h6.cell' (i := 0) rfl; have z1 := h6.cell' (i := 1) rfl; have z2 := h6.cell' (i := 2) rfl; have z3 := h6.cell' (i := 3) rfl; have z4 := h6.cell' (i := 4) rfl; have z5 := h6.cell' (i := 5) rfl; have z6 := h6.cell' (i := 6) rfl; have z7 := h6.cell' (i := 7) rfl; have z8 := h6.cell' (i := 8) rfl
          clear hown6 hown
          go_upto_region 10 with (first | (at_builtin; refine wpList_append_own _ rfl (.tmp 52) (.tmp 55) 26 rfl w1.heap.size 61 i0 (.agg #[.int .i64 0, .slice none 0 0]) 2 32 Try.underlying26 hi hz0 hz1 hz2 rfl (by decide) (.slice V1.pl V1.nl V1.cl) V1.nl (flatR R1) rfl HLA.out ⟨w6.heap.size, 0, none⟩ 1 1 [.int .i64 phys, .slice none 0 0] rfl rfl (fun j u hj => by rw [addr_add, Nat.zero_add]; exact (Blk.new' w6 61 #[.int .i64 phys, .slice none 0 0]).cell' hj) (by simp [Value.oneCell']) (by unfold maxLen; omega) (by omega) (by rw [World.size_alloc]; omega) ?_; intro v7 w7 hown7 hgrow7 _; obtain ⟨p7, c7, rfl⟩ := owns_slice hown7; have h7 := tab_grown (h6.alloc (.cells #[.int .i64 phys, .slice none 0 0] 61)) HLA.out hgrow7) | (refine wpList_store_cell rfl 26 (.tmp 57) (.tmp 56) rfl g9 8 (.slice p7 (V1.nl + 1) c7) rfl rfl h7 (by exact (by decide : 8 < 9)) (by kernel_rfl) rfl ?_; intro W8 h8' ht8))
          obtain ⟨VO, hVO⟩ : ∃ VO : TabV, VO = ⟨V1.pd, V1.nd, V1.cd, V1.ph, V1.nh, V1.ch, p7, V1.nl + 1, c7⟩ := ⟨_, rfl⟩
          obtain ⟨TO, hTO⟩ : ∃ TO, TO = openT T 4 blk phys := ⟨_, rfl⟩
          have h8 : Blk W8 g9 28 (tabC VO TO) := by rw [hVO, hTO]; exact h8'
          have r8 := (tab_grown (r6.alloc (.cells #[.int .i64 phys, .slice none 0 0] 61)) HLA.out hgrow7).turned ht8 (by omega)
          have HOW : Hid (OwnT w1.heap.size W8 VO TO (R1 ++ [⟨phys, none, 0, []⟩])) := by
            have o6 := HOW6.out.next (below_alloc w6 (.cells #[.int .i64 phys, .slice none 0 0] 61))
            have hl : w7.ownsRow w1.heap.size 61 2 (.slice p7 (V1.nl + 1) c7) (V1.nl + 1) (flatR (R1 ++ [⟨phys, none, 0, []⟩])) := by rw [flatR_append]; exact hown7
            have o7 : OwnT w1.heap.size w7 VO TO (R1 ++ [⟨phys, none, 0, []⟩]) := by
              rw [hVO, hTO]
              refine ⟨?_, o6.d.kept hgrow7 (own_apart (owns_ne (by decide) o6.d HLA.out)), o6.h.kept hgrow7 (own_apart (owns_ne (by decide) o6.h HLA.out)), hl, fun i r hi => ?_, fun i j r s a b hij hi hj ha hb => ?_, fun i r a b hi ha hb => ?_, o6.sm.1, o6.sm.2.1, by show V1.nl + 1 ≤ _; omega, fun i r hi => ?_⟩
              · show T.logs ++ [⟨phys, []⟩] = _
                rw [List.map_append, ← o6.logs]; rfl
              · rcases snoc_get hi with ⟨hi1, _⟩ | ⟨_, rfl⟩
                · exact (o6.r i r hi1).kept hgrow7 (own_apart (owns_ne (by decide) (o6.r i r hi1) HLA.out))
                · exact ⟨rfl, .inl ⟨rfl, rfl⟩⟩
              · rcases snoc_get hi with ⟨hi1, _⟩ | ⟨_, e1⟩
                · rcases snoc_get hj with ⟨hj1, _⟩ | ⟨_, e2⟩
                  · exact o6.ap i j r s a b hij hi1 hj1 ha hb
                  · rw [e2] at hb; cases hb
                · rw [e1] at ha; cases ha
              · rcases snoc_get hi with ⟨hi1, _⟩ | ⟨_, e1⟩
                · exact o6.ad i r a b hi1 ha hb
                · rw [e1] at ha; cases ha
              · rcases snoc_get hi with ⟨hi1, _⟩ | ⟨_, e1⟩
                · exact o6.sm.2.2.2 i r hi1
                · rw [e1]; exact Nat.zero_le _
            exact o7.turnedTab h7 ht8
          have HTO : Hid (TO = openT T 4 blk phys) := hTO
          have HBL : Hid (Below w.heap.size w W8) := ht8.below (((bt hbel4 k6).alloc (by omega) _).grown hgrow7 (by rw [World.size_alloc]; omega) (fun j hj => by have := (HLA.out.lt j hj).1; omega)) (by omega)
          clear hTO hVO h8' ht8 hgrow7 hown7 h7 z0 z1 z2 z3 z4 z5 z6 z7 z8
          have z0 := h8.cell' (i := 0) rfl; have z1 := h8.cell' (i := 1) rfl; have z2 := h8.cell' (i := 2) rfl; have z3 := h8.cell' (i := 3) rfl; have z4 := h8.cell' (i := 4) rfl; have z5 := h8.cell' (i := 5) rfl; have z6 := h8.cell' (i := 6) rfl; have z7 := h8.cell' (i := 7) rfl; have z8 := h8.cell' (i := 8) rfl
          go_wp2_with (guard_target = wpList _ _ _ (Oper.mk _ (Op.store 28 (Operand.tmp 6) _) _ _ _ _ :: _) _ _; refine wpList_store_blk rfl 28 (.tmp 6) (.tmp 58) rfl (w.heap.size + 2) 0 (tabC VO TO) rfl rfl r8 (by exact Nat.le_refl _) (tabSize _ _) (tabOne _ _) ?_; intro W9 h9 ht9; rw [whole_row (by rfl)] at h9)
          refine ret_tabE Try.results12 rfl h9 rfl rfl ⟨⟨VO, TO, _, by rw [HE2.out]; rfl, fun _ => ⟨HTO.out, (HOW.out.turnedAt ht9 (by omega)).low (by omega)⟩⟩, ht9.below HBL.out (by omega)⟩
      · have e4 : (kind == 4) = false := by simpa using hk4
        have HE2 : Hid (openE T kind blk phys = 51) := by show _ = _; rw [HE.out, if_neg (fun h' => hk3 h'.1), if_neg (fun h' => hk4 h'.1)]
        go_wp2_with (guard_target = wpList _ _ _ (Oper.mk _ (Op.store 28 (Operand.tmp 6) _) _ _ _ _ :: _) _ _; refine wpList_store_blk rfl 28 (.tmp 6) (.tmp 19) rfl (w.heap.size + 2) 0 (tabC ⟨none, 0, 0, none, 0, 0, none, 0, 0⟩ zeroT) rfl rfl r4 (by exact Nat.le_refl _) (tabSize _ _) (tabOne _ _) ?_; intro W9 h9 ht9; rw [whole_row (by rfl)] at h9)
        refine ret_tabE Try.results12 rfl h9 rfl rfl ⟨⟨_, _, [], by rw [HE2.out]; rfl, fun h' => by rw [HE2.out] at h'; cases h'⟩, ht9.below hbel4 (by omega)⟩
  · have HE : Hid (openE T kind blk phys = freshE T phys) := by show _ = _; unfold openE; rw [if_neg hfr]
    have HNZ : Hid (¬ freshE T phys = 0) := hfr
    unfold tabA at hb0 b0 s0 r0 hc ⊢
    have hfr' : (freshE T phys == 0) = false := by simpa using hfr
    generalize freshE T phys = fe at *
    go_enter Try.func12, Try.ntmps12
    go_wp2_with (first | (go_at_call 37; refine hc.mono ?_; rintro e w1 ⟨rfl, hb1⟩; have b1 := b0.kept hb1; have s1 := s0.kept hb1; have r1 := r0.kept hb1; have t0 := s1.cell' (i := 0) rfl; have t1 := s1.cell' (i := 1) rfl; have y0 := b1.cell' (i := 0) rfl; have y1 := b1.cell' (i := 1) rfl; have y2 := b1.cell' (i := 2) rfl; have y3 := b1.cell' (i := 3) rfl; have y4 := b1.cell' (i := 4) rfl; have y5 := b1.cell' (i := 5) rfl; have y6 := b1.cell' (i := 6) rfl; have y7 := b1.cell' (i := 7) rfl; have y8 := b1.cell' (i := 8) rfl) | (guard_target = wpList _ _ _ (Oper.mk _ (Op.store 28 (Operand.tmp 6) _) _ _ _ _ :: _) _ _; refine wpList_store_blk rfl 28 (.tmp 6) (.tmp 15) rfl (w.heap.size + 2) 0 (tabC ⟨none, 0, 0, none, 0, 0, none, 0, 0⟩ zeroT) rfl rfl r1 (by exact Nat.le_refl _) (tabSize _ _) (tabOne _ _) ?_; intro W9 h9 ht9; rw [whole_row (by rfl)] at h9))
    refine ret_tabE Try.results12 rfl h9 rfl rfl ⟨⟨_, _, [], by rw [HE.out]; rfl, fun h' => by rw [HE.out] at h'; exact absurd h' HNZ.out⟩, ht9.below (bt hb0 hb1) (by omega)⟩
end Go.Proofs.Ythibaefoioeghaa
