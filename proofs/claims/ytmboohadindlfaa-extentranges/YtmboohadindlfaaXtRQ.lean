/-
  What the reference's Put answers; Punch, Put and Norm of both sides in one form.
-/
import Derived.Test.YtmboohadindlfaaXtRP
namespace Go.Proofs.Ytmboohadindlfaa
open Go.RowKit
theorem rpunch_no (p : Option Addr) (n c : Nat) (l : List Ext) (f m : Int) (w : World) (h : InE w p n c l) (hc : chkB l = false) :
    Calls Try.prog 28 #[.slice p n c, .int .i64 f, .int .i64 m] w fun e w' => e = .returned (.tuple #[.slice none 0 0, .slice none 0 0, .int .i64 130]) ∧ Below w.heap.size w w' := by
  have hk := rcheck_any p n c l w h
  rw [chkE_no hc] at hk
  go_enter Try.func28, Try.ntmps28
  go_wp2_with fail
  refine hk.mono ?_
  rintro e9 w1 ⟨rfl, hb1⟩
  go_wp2
  go_ret3
  exact ⟨rfl, hb1⟩
theorem rpunch_arg (p : Option Addr) (n c : Nat) (l : List Ext) (f m : Int) (w : World) (h : InE w p n c l) (hc : chkB l = true) (hf : f < 0 ∨ f > 65536 ∨ m < 0) :
    Calls Try.prog 28 #[.slice p n c, .int .i64 f, .int .i64 m] w fun e w' => e = .returned (.tuple #[.slice none 0 0, .slice none 0 0, .int .i64 1]) ∧ Below w.heap.size w w' := by
  have hk := rcheck_any p n c l w h
  rw [chkE_ok hc] at hk
  by_cases h1 : f < 0
  · go_enter Try.func28, Try.ntmps28
    go_wp2_with fail
    refine hk.mono ?_
    rintro e9 w1 ⟨rfl, hb1⟩
    clear hf
    go_wp2
    go_ret3
    exact ⟨rfl, hb1⟩
  · by_cases h2 : f > 65536
    · go_enter Try.func28, Try.ntmps28
      go_wp2_with fail
      refine hk.mono ?_
      rintro e9 w1 ⟨rfl, hb1⟩
      clear hf
      go_wp2
      go_ret3
      exact ⟨rfl, hb1⟩
    · have h3 : m < 0 := by omega
      go_enter Try.func28, Try.ntmps28
      go_wp2_with fail
      refine hk.mono ?_
      rintro e9 w1 ⟨rfl, hb1⟩
      clear hf
      go_wp2
      go_ret3
      exact ⟨rfl, hb1⟩
theorem rput_no (p : Option Addr) (n c : Nat) (l : List Ext) (e : Ext) (w : World) (h : InE w p n c l) (hc : chkB l = false ∨ oneB e = false) :
    Calls Try.prog 30 #[.slice p n c, e.val] w fun x w' => x = .returned (.tuple #[.slice none 0 0, .slice none 0 0, .int .i64 130]) ∧ Below w.heap.size w w' := by
  have hb0 := below_alloc w (.cells #[.int .i64 e.lo, .int .i64 e.ln, .int .i64 e.ph] 31)
  have k0 := Blk.new' w 31 #[.int .i64 e.lo, .int .i64 e.ln, .int .i64 e.ph]
  have hk := rcheck_any p n c l _ (h.below hb0)
  cases hq : chkB l with
  | false =>
    rw [chkE_no hq] at hk
    clear hc hq
    go_enter Try.func30, Try.ntmps30
    go_wp2_with fail
    refine hk.mono ?_
    rintro e9 w1 ⟨rfl, hb1⟩
    go_wp2
    go_ret3
    exact ⟨rfl, bt hb0 hb1⟩
  | true =>
    rw [chkE_ok hq] at hk
    have h1 : oneB e = false := by rcases hc with h | h; rw [h] at hq; cases hq; exact h
    have hone := fun W => rone_any e W
    simp only [oneE_no h1] at hone
    clear hc hq h1
    go_enter Try.func30, Try.ntmps30
    go_wp2_with fail
    refine hk.mono ?_
    rintro e9 w1 ⟨rfl, hb1⟩
    have k1 := k0.kept hb1
    have c0 := k1.cell' (i := 0) rfl
    have c1 := k1.cell' (i := 1) rfl
    have c2 := k1.cell' (i := 2) rfl
    go_wp2_with (go_at_call 19; refine (hone _).mono ?_; rintro e9 w2 ⟨rfl, hb2⟩)
    go_ret3
    exact ⟨rfl, bt (bt hb0 hb1) hb2⟩
set_option linter.unusedSimpArgs false in
set_option linter.unusedVariables false in
set_option maxRecDepth 100000 in
set_option maxHeartbeats 4000000 in
theorem rput_yes (p : Option Addr) (n c : Nat) (l : List Ext) (e : Ext) (w : World) (h : InE w p n c l) (hn : n ≤ 100000) (hc : chkB l = true) (he : oneB e = true) :
    Calls Try.prog 30 #[.slice p n c, e.val] w fun x w' => ∃ v1 v2, x = .returned (.tuple #[v1, v2, .int .i64 0]) ∧ w'.ownsRow w.heap.size 31 3 v1 (putL e l).length (flatE (putL e l)) ∧ w'.ownsRow w.heap.size 31 3 v2 (runsL e.lo (endI e) l).length (flatE (runsL e.lo (endI e) l)) ∧ Below w.heap.size w w' := by
  obtain ⟨i0, hi, hz0, hz1, hz2⟩ := info_parts infoE
  have hb0 := below_alloc w (.cells #[.int .i64 e.lo, .int .i64 e.ln, .int .i64 e.ph] 31)
  have k0 := Blk.new' w 31 #[.int .i64 e.lo, .int .i64 e.ln, .int .i64 e.ph]
  have hk := rcheck_any p n c l _ (h.below hb0)
  rw [chkE_ok hc] at hk
  have hone := fun W => rone_any e W
  simp only [oneE_ok he] at hone
  have he' := oneB_iff.1 he
  have hto : toI e.lo e.ln = endI e := by unfold toI endI; omega
  have hpk := put_ok (chkB_ord hc) he
  have hlr := runsL_len 0 e.lo l
  have hlr2 := runsL_len (endI e) 65536 l
  have hll := h.len
  have hln : (normL (leftL e.lo (endI e) l)).length ≤ 200000 := by
    have := normL_len (leftL e.lo (endI e) l)
    unfold leftL at *
    rw [List.length_append] at this
    omega
  go_enter Try.func30, Try.ntmps30
  go_wp2_with fail
  refine hk.mono ?_
  rintro e9 w1 ⟨rfl, hb1⟩
  have k1 := k0.kept hb1
  have b1 := bt hb0 hb1
  have c0 := k1.cell' (i := 0) rfl
  have c1 := k1.cell' (i := 1) rfl
  have c2 := k1.cell' (i := 2) rfl
  clear hk k0 hb1
  go_wp2_with fail
  refine (hone _).mono ?_
  rintro e9 w2 ⟨rfl, hb2⟩
  have k2 := k1.kept hb2
  have b2 := bt b1 hb2
  have d0 := k2.cell' (i := 0) rfl
  have d1 := k2.cell' (i := 1) rfl
  have d2 := k2.cell' (i := 2) rfl
  have hpu := rpunch_ok p n c l e.lo e.ln w2 (h.below b2) hn hc (by omega) (by omega) (by omega)
  rw [hto] at hpu
  clear hone k1 b1 hb2 c0 c1 c2
  go_wp2_with fail
  refine hpu.mono ?_
  rintro e9 w3 ⟨v1, v2, rfl, ho1, ho2, hap, hb3⟩
  have k3 := k2.kept hb3
  have b3 := bt b2 hb3
  have f0 := k3.cell' (i := 0) rfl
  have f1 := k3.cell' (i := 1) rfl
  have f2 := k3.cell' (i := 2) rfl
  obtain ⟨p1, q1, rfl⟩ := owns_slice ho1
  obtain ⟨p2, q2, rfl⟩ := owns_slice ho2
  have HP : Hid (okR (normL (leftL e.lo (endI e) l) ++ [e]) = true ∧ putL e l = normR (normL (leftL e.lo (endI e) l) ++ [e])) := ⟨hpk, rfl⟩
  clear k2 d0 d1 d2 hpu hpk hlr hlr2 he' hto hc
  generalize normL (leftL e.lo (endI e) l) = L at *
  obtain ⟨R, hR⟩ : ∃ R, runsL e.lo (endI e) l = R := ⟨_, rfl⟩
  have HR : Hid (runsL e.lo (endI e) l = R) := hR
  rw [hR] at ho2 hap ⊢
  clear hR
  obtain ⟨TL, hTL⟩ : ∃ TL, L.length = TL := ⟨_, rfl⟩
  obtain ⟨TR, hTR⟩ : ∃ TR, R.length = TR := ⟨_, rfl⟩
  have HTL : Hid (L.length = TL) := hTL
  rw [hTL] at ho1 hln ⊢
  rw [hTR] at ho2 ⊢
  rw [hTL, hTR] at hap
  have HTR : Hid (R.length = TR) := hTR
  clear hTL hTR
  have hs3 := hb3.size
  have hs2 := b2.size
  go_wp2_with (at_builtin; refine wpList_append_own _ rfl (.tmp 32) (.tmp 34) 22 rfl w2.heap.size 31 i0 (.agg #[.int .i64 0, .int .i64 0, .int .i64 0]) 3 24 Try.underlying22 hi hz0 hz1 hz2 rfl (by decide) _ TL _ rfl (ho1.alloc _) ⟨_, 0, none⟩ 1 1 [.int .i64 e.lo, .int .i64 e.ln, .int .i64 e.ph] rfl rfl (new_three _ _ _ _) (by simp [Value.oneCell']) (by unfold maxLen; omega) (by omega) (by simp; omega) ?_; intro v4 w4 hown4 hgrow4 _)
  rw [flatE_snoc] at hown4
  have hb4 : Below w2.heap.size w2 w4 := below_appP hb3 (Nat.le_refl _) ho1 hgrow4
  have ho24 := (ho2.alloc _).kept hgrow4 hap
  obtain ⟨p4, q4, rfl⟩ := owns_slice hown4
  obtain ⟨p9, q9, hv9, hin4⟩ := in_of_ownsE hown4 (by omega)
  cases hv9
  have hN := rnorm_any _ _ _ _ w4 hin4 (by omega) (okR_iff.1 HP.out.1).1
  obtain ⟨T4, hT4⟩ : ∃ T4, TL + 1 = T4 := ⟨_, rfl⟩
  rw [hT4] at hN ⊢
  clear hin4 hT4 hown4 ho1 hgrow4 hap ho2 hb3 f0 f1 f2 k3
  go_wp2_with fail
  refine hN.mono ?_
  rintro e9 w5 ⟨s5, v5, hp5, hs5, rfl, ho5, hb5⟩
  rw [(norm_spec hp5 hs5).2 HP.out.1, ← HP.out.2] at ho5
  clear hp5 hs5
  have ho25 := owns_below ho24 hb5
  have b4 := b2.trans (hb4.mono b2.size)
  have hs4 := b4.size
  have ho5 := owns_base ho5 hs4
  have ho25 := owns_base ho25 hs2
  have b5 := b4.trans (hb5.mono hs4)
  clear hN
  go_wp2
  go_ret3
  exact ⟨v5, .slice p2 TR q2, rfl, ho5, by rw [HR.out, HTR.out]; exact ho25, b5⟩
/-- Two lists and an error are answered. -/
def Ans3 (w' : World) (A B : List Ext) (er : Int) (e : Ending) : Prop := ∃ p1 n1 c1 p2 n2 c2, e = .returned (.tuple #[.slice p1 n1 c1, .slice p2 n2 c2, .int .i64 er]) ∧ InE w' p1 n1 c1 A ∧ InE w' p2 n2 c2 B
def Ans2 (w' : World) (A : List Ext) (er : Int) (e : Ending) : Prop := ∃ p1 n1 c1, e = .returned (.tuple #[.slice p1 n1 c1, .int .i64 er]) ∧ InE w' p1 n1 c1 A
theorem ans3_nil (w' : World) (er : Int) : Ans3 w' [] [] er (.returned (.tuple #[.slice none 0 0, .slice none 0 0, .int .i64 er])) := ⟨none, 0, 0, none, 0, 0, rfl, InE.empty _, InE.empty _⟩
theorem ans3_own {w' : World} {B : Nat} {v1 v2 : Value} {l1 l2 : List Ext} (h1 : w'.ownsRow B 31 3 v1 l1.length (flatE l1)) (h2 : w'.ownsRow B 31 3 v2 l2.length (flatE l2)) (hl1 : l1.length ≤ 1000000) (hl2 : l2.length ≤ 1000000) (er : Int) : Ans3 w' l1 l2 er (.returned (.tuple #[v1, v2, .int .i64 er])) := by
  obtain ⟨p1, c1, rfl, i1⟩ := in_of_ownsE h1 (by omega)
  obtain ⟨p2, c2, rfl, i2⟩ := in_of_ownsE h2 (by omega)
  exact ⟨p1, _, c1, p2, _, c2, rfl, i1, i2⟩
theorem left_len (f t : Int) (l : List Ext) : (normL (leftL f t l)).length ≤ 2 * l.length := by
  have h1 := normL_len (leftL f t l)
  have h2 := runsL_len 0 f l
  have h3 := runsL_len t 65536 l
  unfold leftL at *
  rw [List.length_append] at h1
  omega
def punA (l : List Ext) (f m : Int) : List Ext := if chkB l = true ∧ 0 ≤ f ∧ f ≤ 65536 ∧ 0 ≤ m then normL (leftL f (toI f m) l) else []
def punB (l : List Ext) (f m : Int) : List Ext := if chkB l = true ∧ 0 ≤ f ∧ f ≤ 65536 ∧ 0 ≤ m then runsL f (toI f m) l else []
def punE (l : List Ext) (f m : Int) : Int := if chkB l = true then (if 0 ≤ f ∧ f ≤ 65536 ∧ 0 ≤ m then 0 else 1) else 130
def putA (l : List Ext) (e : Ext) : List Ext := if chkB l = true ∧ oneB e = true then putL e l else []
def putB (l : List Ext) (e : Ext) : List Ext := if chkB l = true ∧ oneB e = true then runsL e.lo (endI e) l else []
def putE (l : List Ext) (e : Ext) : Int := if chkB l = true ∧ oneB e = true then 0 else 130
def norA (l : List Ext) : List Ext := if okR l = true then normR l else []
def norE (l : List Ext) : Int := if okR l = true then 0 else 130
theorem normR_len (l : List Ext) : (normR l).length ≤ l.length := by
  have := normL_len (srt l)
  rw [(srt_perm l).length_eq] at this
  exact this
theorem punchU (p : Option Addr) (n c : Nat) (l : List Ext) (f m : Int) (w : World) (h : InE w p n c l) (hn : n ≤ 100000) :
    Calls Try.prog 27 #[.slice p n c, .int .i64 f, .int .i64 m] w fun e w' => Ans3 w' (punA l f m) (punB l f m) (punE l f m) e ∧ Below w.heap.size w w' := by
  have hl := h.len
  cases hc : chkB l with
  | false =>
    rw [show punA l f m = [] by simp [punA, hc], show punB l f m = [] by simp [punB, hc], show punE l f m = 130 by simp [punE, hc]]
    refine (punch_no p n c l f m w h hc).mono ?_
    rintro e w' ⟨rfl, hb⟩
    exact ⟨ans3_nil _ _, hb⟩
  | true =>
    by_cases ha : 0 ≤ f ∧ f ≤ 65536 ∧ 0 ≤ m
    · rw [show punA l f m = normL (leftL f (toI f m) l) by simp [punA, hc, ha], show punB l f m = runsL f (toI f m) l by simp [punB, hc, ha], show punE l f m = 0 by simp [punE, hc, ha]]
      have h1 := left_len f (toI f m) l
      have h2 := runsL_len f (toI f m) l
      refine (punch_ok p n c l f m w h hn hc ha.1 ha.2.1 ha.2.2).mono ?_
      rintro e w' ⟨v1, v2, rfl, ho1, ho2, -, hb⟩
      exact ⟨ans3_own ho1 ho2 (by omega) (by omega) _, hb⟩
    · rw [show punA l f m = [] by simp [punA, ha], show punB l f m = [] by simp [punB, ha], show punE l f m = 1 by simp [punE, hc, ha]]
      refine (punch_arg p n c l f m w h hc (by omega)).mono ?_
      rintro e w' ⟨rfl, hb⟩
      exact ⟨ans3_nil _ _, hb⟩
theorem putU (p : Option Addr) (n c : Nat) (l : List Ext) (e : Ext) (w : World) (h : InE w p n c l) (hn : n ≤ 100000) :
    Calls Try.prog 29 #[.slice p n c, e.val] w fun x w' => Ans3 w' (putA l e) (putB l e) (putE l e) x ∧ Below w.heap.size w w' := by
  have hl := h.len
  by_cases ha : chkB l = true ∧ oneB e = true
  · rw [show putA l e = putL e l by simp [putA, ha], show putB l e = runsL e.lo (endI e) l by simp [putB, ha], show putE l e = 0 by simp [putE, ha]]
    have h1 := put_len (l := l) (e := e)
    have h2 := runsL_len e.lo (endI e) l
    refine (put_yes p n c l e w h hn ha.1 ha.2).mono ?_
    rintro x w' ⟨v1, v2, rfl, ho1, ho2, hb⟩
    exact ⟨ans3_own ho1 ho2 (by omega) (by omega) _, hb⟩
  · rw [show putA l e = [] by simp [putA, ha], show putB l e = [] by simp [putB, ha], show putE l e = 130 by simp [putE, ha]]
    refine (put_no p n c l e w h ?_).mono ?_
    · cases h1 : chkB l with
      | false => exact .inl rfl
      | true => cases h2 : oneB e with
        | false => exact .inr rfl
        | true => exact absurd ⟨h1, h2⟩ ha
    · rintro x w' ⟨rfl, hb⟩
      exact ⟨ans3_nil _ _, hb⟩
theorem rpunchU (p : Option Addr) (n c : Nat) (l : List Ext) (f m : Int) (w : World) (h : InE w p n c l) (hn : n ≤ 100000) :
    Calls Try.prog 28 #[.slice p n c, .int .i64 f, .int .i64 m] w fun e w' => Ans3 w' (punA l f m) (punB l f m) (punE l f m) e ∧ Below w.heap.size w w' := by
  have hl := h.len
  cases hc : chkB l with
  | false =>
    rw [show punA l f m = [] by simp [punA, hc], show punB l f m = [] by simp [punB, hc], show punE l f m = 130 by simp [punE, hc]]
    refine (rpunch_no p n c l f m w h hc).mono ?_
    rintro e w' ⟨rfl, hb⟩
    exact ⟨ans3_nil _ _, hb⟩
  | true =>
    by_cases ha : 0 ≤ f ∧ f ≤ 65536 ∧ 0 ≤ m
    · rw [show punA l f m = normL (leftL f (toI f m) l) by simp [punA, hc, ha], show punB l f m = runsL f (toI f m) l by simp [punB, hc, ha], show punE l f m = 0 by simp [punE, hc, ha]]
      have h1 := left_len f (toI f m) l
      have h2 := runsL_len f (toI f m) l
      refine (rpunch_ok p n c l f m w h hn hc ha.1 ha.2.1 ha.2.2).mono ?_
      rintro e w' ⟨v1, v2, rfl, ho1, ho2, -, hb⟩
      exact ⟨ans3_own ho1 ho2 (by omega) (by omega) _, hb⟩
    · rw [show punA l f m = [] by simp [punA, ha], show punB l f m = [] by simp [punB, ha], show punE l f m = 1 by simp [punE, hc, ha]]
      refine (rpunch_arg p n c l f m w h hc (by omega)).mono ?_
      rintro e w' ⟨rfl, hb⟩
      exact ⟨ans3_nil _ _, hb⟩
theorem rputU (p : Option Addr) (n c : Nat) (l : List Ext) (e : Ext) (w : World) (h : InE w p n c l) (hn : n ≤ 100000) :
    Calls Try.prog 30 #[.slice p n c, e.val] w fun x w' => Ans3 w' (putA l e) (putB l e) (putE l e) x ∧ Below w.heap.size w w' := by
  have hl := h.len
  by_cases ha : chkB l = true ∧ oneB e = true
  · rw [show putA l e = putL e l by simp [putA, ha], show putB l e = runsL e.lo (endI e) l by simp [putB, ha], show putE l e = 0 by simp [putE, ha]]
    have h1 := put_len (l := l) (e := e)
    have h2 := runsL_len e.lo (endI e) l
    refine (rput_yes p n c l e w h hn ha.1 ha.2).mono ?_
    rintro x w' ⟨v1, v2, rfl, ho1, ho2, hb⟩
    exact ⟨ans3_own ho1 ho2 (by omega) (by omega) _, hb⟩
  · rw [show putA l e = [] by simp [putA, ha], show putB l e = [] by simp [putB, ha], show putE l e = 130 by simp [putE, ha]]
    refine (rput_no p n c l e w h ?_).mono ?_
    · cases h1 : chkB l with
      | false => exact .inl rfl
      | true => cases h2 : oneB e with
        | false => exact .inr rfl
        | true => exact absurd ⟨h1, h2⟩ ha
    · rintro x w' ⟨rfl, hb⟩
      exact ⟨ans3_nil _ _, hb⟩
theorem normU (p : Option Addr) (n c : Nat) (l : List Ext) (w : World) (h : InE w p n c l) (hn : n ≤ 100000) :
    Calls Try.prog 31 #[.slice p n c] w fun e w' => Ans2 w' (norA l) (norE l) e ∧ Below w.heap.size w w' := by
  have hl := h.len
  have hnl := normR_len l
  cases ho : okR l with
  | true =>
    rw [show norA l = normR l by simp [norA, ho], show norE l = 0 by simp [norE, ho]]
    refine (norm_ok p n c l w h (by omega) ho).mono ?_
    rintro e w' ⟨v, rfl, ho1, hb⟩
    obtain ⟨p1, c1, rfl, i1⟩ := in_of_ownsE ho1 (by omega)
    exact ⟨⟨p1, _, c1, rfl, i1⟩, hb⟩
  | false =>
    rw [show norA l = [] by simp [norA, ho], show norE l = 130 by simp [norE, ho]]
    refine (norm_no p n c l w h (by omega) ho).mono ?_
    rintro e w' ⟨rfl, hb⟩
    exact ⟨⟨none, 0, 0, rfl, InE.empty _⟩, hb⟩
theorem rnormU (p : Option Addr) (n c : Nat) (l : List Ext) (w : World) (h : InE w p n c l) (hn : n ≤ 100000) :
    Calls Try.prog 32 #[.slice p n c] w fun e w' => Ans2 w' (norA l) (norE l) e ∧ Below w.heap.size w w' := by
  have hl := h.len
  have hnl := normR_len l
  refine (rNorm_any p n c l w h (by omega)).mono ?_
  rintro e w' ⟨⟨ho, v, rfl, ho1⟩ | ⟨ho, rfl⟩, hb⟩
  · rw [show norA l = normR l by simp [norA, ho], show norE l = 0 by simp [norE, ho]]
    obtain ⟨p1, c1, rfl, i1⟩ := in_of_ownsE ho1 (by omega)
    exact ⟨⟨p1, _, c1, rfl, i1⟩, hb⟩
  · rw [show norA l = [] by simp [norA, ho], show norE l = 130 by simp [norE, ho]]
    exact ⟨⟨none, 0, 0, rfl, InE.empty _⟩, hb⟩
end Go.Proofs.Ytmboohadindlfaa
