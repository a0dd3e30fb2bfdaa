/-
  What Norm, Punch and Put answer, by the plain functions.
-/
import Derived.Test.YtmboohadindlfaaXtN
import Derived.Test.YtmboohadindlfaaXtH
namespace Go.Proofs.Ytmboohadindlfaa
open Go.RowKit
theorem norm_ok (p : Option Addr) (n c : Nat) (l : List Ext) (w : World) (h : InE w p n c l) (hn : n ≤ 1000000) (hok : okR l = true) :
    Calls Try.prog 31 #[.slice p n c] w fun e w' => ∃ v, e = .returned (.tuple #[v, .int .i64 0]) ∧ w'.ownsRow w.heap.size 31 3 v (normR l).length (flatE (normR l)) ∧ Below w.heap.size w w' :=
  (norm_any p n c l w h hn).mono fun e w' ⟨s, h1, h2, h3, h4⟩ => by
    obtain ⟨a, b⟩ := norm_spec h1 h2
    rcases h3 with ⟨_, v, e1, e2⟩ | ⟨h5, _⟩
    · rw [b hok] at e2
      exact ⟨v, e1, e2, h4⟩
    · rw [a, hok] at h5; cases h5
theorem norm_no (p : Option Addr) (n c : Nat) (l : List Ext) (w : World) (h : InE w p n c l) (hn : n ≤ 1000000) (hok : okR l = false) :
    Calls Try.prog 31 #[.slice p n c] w fun e w' => e = .returned (.tuple #[.slice none 0 0, .int .i64 130]) ∧ Below w.heap.size w w' :=
  (norm_any p n c l w h hn).mono fun e w' ⟨s, h1, h2, h3, h4⟩ => by
    obtain ⟨a, b⟩ := norm_spec h1 h2
    rcases h3 with ⟨h5, _⟩ | ⟨_, h5⟩
    · rw [a, hok] at h5; cases h5
    · exact ⟨h5, h4⟩
/-- A row that is younger than a world lies apart from what lay there. -/
theorem owns_apart {w w' : World} {B : Nat} {e e' : TypeId} {z z' : Nat} {v v' : Value} {n n' : Nat} {xs xs' : List Value} (h : w'.ownsRow w.heap.size e z v n xs) (k : w.ownsRow B e' z' v' n' xs') : v.ownBlock = none ∨ v.ownBlock ≠ v'.ownBlock := by
  rcases h.2 with ⟨rfl, _⟩ | ⟨g, cap, cur, rfl, hg, _⟩
  · exact .inl rfl
  · refine .inr fun he => ?_
    rcases k.2 with ⟨rfl, _⟩ | ⟨g', cap', cur', rfl, _, hh, _⟩
    · simp [Value.ownBlock] at he
    · simp only [Value.ownBlock, Option.some.injEq] at he
      subst he
      have := (Array.getElem?_eq_some_iff.1 hh).1
      omega
/-- Where a punch ends. -/
def toI (f n : Int) : Int := f + min n (65536 - f)
theorem punch_no (p : Option Addr) (n c : Nat) (l : List Ext) (f m : Int) (w : World) (h : InE w p n c l) (hc : chkB l = false) :
    Calls Try.prog 27 #[.slice p n c, .int .i64 f, .int .i64 m] w fun e w' => e = .returned (.tuple #[.slice none 0 0, .slice none 0 0, .int .i64 130]) ∧ Below w.heap.size w w' := by
  have hk := check_any p n c l w h
  rw [chkE_no hc] at hk
  go_enter Try.func27, Try.ntmps27
  go_wp2_with fail
  refine hk.mono ?_
  rintro e9 w1 ⟨rfl, hb1⟩
  go_wp2
  go_ret3
  exact ⟨rfl, hb1⟩
theorem punch_arg (p : Option Addr) (n c : Nat) (l : List Ext) (f m : Int) (w : World) (h : InE w p n c l) (hc : chkB l = true) (hf : f < 0 ∨ f > 65536 ∨ m < 0) :
    Calls Try.prog 27 #[.slice p n c, .int .i64 f, .int .i64 m] w fun e w' => e = .returned (.tuple #[.slice none 0 0, .slice none 0 0, .int .i64 1]) ∧ Below w.heap.size w w' := by
  have hk := check_any p n c l w h
  rw [chkE_ok hc] at hk
  by_cases h1 : f < 0
  · go_enter Try.func27, Try.ntmps27
    go_wp2_with fail
    refine hk.mono ?_
    rintro e9 w1 ⟨rfl, hb1⟩
    clear hf
    go_wp2
    go_ret3
    exact ⟨rfl, hb1⟩
  · by_cases h2 : f > 65536
    · go_enter Try.func27, Try.ntmps27
      go_wp2_with fail
      refine hk.mono ?_
      rintro e9 w1 ⟨rfl, hb1⟩
      clear hf
      go_wp2
      go_ret3
      exact ⟨rfl, hb1⟩
    · have h3 : m < 0 := by omega
      go_enter Try.func27, Try.ntmps27
      go_wp2_with fail
      refine hk.mono ?_
      rintro e9 w1 ⟨rfl, hb1⟩
      clear hf
      go_wp2
      go_ret3
      exact ⟨rfl, hb1⟩
set_option linter.unusedSimpArgs false in
set_option linter.unusedVariables false in
set_option maxRecDepth 100000 in
set_option maxHeartbeats 4000000 in
theorem punch_ok (p : Option Addr) (n c : Nat) (l : List Ext) (f m : Int) (w : World) (h : InE w p n c l) (hn : n ≤ 100000) (hc : chkB l = true) (hf0 : 0 ≤ f) (hf1 : f ≤ 65536) (hm : 0 ≤ m) :
    Calls Try.prog 27 #[.slice p n c, .int .i64 f, .int .i64 m] w fun e w' => ∃ v1 v2, e = .returned (.tuple #[v1, v2, .int .i64 0]) ∧ w'.ownsRow w.heap.size 31 3 v1 (normL (leftL f (toI f m) l)).length (flatE (normL (leftL f (toI f m) l))) ∧ w'.ownsRow w.heap.size 31 3 v2 (runsL f (toI f m) l).length (flatE (runsL f (toI f m) l)) ∧ (v2.ownBlock = none ∨ v2.ownBlock ≠ v1.ownBlock) ∧ Below w.heap.size w w' := by
  have hk := check_any p n c l w h
  rw [chkE_ok hc] at hk
  have hord := chkB_ord hc
  have hone := hord.one
  have hlow := h.lt
  have hll := h.len
  obtain ⟨M, hM⟩ : ∃ M, min m (65536 - f) = M := ⟨_, rfl⟩
  obtain ⟨T, hT⟩ : ∃ T, toI f m = T := ⟨_, rfl⟩
  have hTM : f + M = T := by rw [← hM, ← hT]; rfl
  have hfT : f ≤ T := by omega
  have hwT : IntKind.i64.wrap (f + M) = T := by rw [IntKind.wrap_i64]; omega
  have hn1 : ¬ f < 0 := by omega
  have hn2 : ¬ f > 65536 := by omega
  have hn3 : ¬ m < 0 := by omega
  rw [hT]
  have HLO : Hid (Ord (leftL f T l)) := hord.left hfT
  clear hT hc hord hTM
  go_enter Try.func27, Try.ntmps27
  go_wp2_with fail
  refine hk.mono ?_
  rintro e9 w1 ⟨rfl, hb1⟩
  go_wp2_with fail
  refine (parts_call p n c 0 f w1).mono ?_
  rintro e9 w2 ⟨rfl, hw2⟩
  have hP2 := partsIn_new 0 f (h.below hb1) hone
  have hb2 : Below w.heap.size w w2 := by rw [hw2]; exact below_al (below_al (below_al hb1 _) _) _
  rw [← hw2] at hP2
  clear hw2 hk
  go_wp2_with fail
  refine (appendSeq_any w.heap.size n w1.heap.size (w1.heap.size + 1) (w1.heap.size + 2) p c 0 f l (.slice none 0 0) [] w2 hP2 hb2.size (World.ownsRow_nil _ _ _ _) hlow (by simp; omega)).mono ?_
  rintro e9 w3 ⟨v3, rfl, ho3, hb3⟩
  rw [List.nil_append] at ho3
  have hb3 := hb2.trans hb3
  clear hP2 hb2
  go_wp2_with fail
  refine (parts_call p n c T 65536 w3).mono ?_
  rintro e9 w4 ⟨rfl, hw4⟩
  have hP4 := partsIn_new T 65536 (h.below hb3) hone
  have hb34 : Below w3.heap.size w3 w4 := by rw [hw4]; exact below_al (below_al (below_al (Below.refl _ _) _) _) _
  have hb4 := hb3.trans (hb34.mono hb3.size)
  have ho4 := owns_below ho3 hb34
  rw [← hw4] at hP4
  clear hw4 ho3 hb34
  have hrl := runsL_len 0 f l
  have hrl2 := runsL_len T 65536 l
  go_wp2_with fail
  refine (appendSeq_any w.heap.size n w3.heap.size (w3.heap.size + 1) (w3.heap.size + 2) p c T 65536 l v3 (runsL 0 f l) w4 hP4 hb4.size ho4 hlow (by omega)).mono ?_
  rintro e9 w5 ⟨v5, rfl, ho5, hb5⟩
  have hb5 := hb4.trans hb5
  change w5.ownsRow w.heap.size 31 3 v5 (leftL f T l).length (flatE (leftL f T l)) at ho5
  have hll5 : (leftL f T l).length ≤ 1000000 := by unfold leftL; rw [List.length_append]; omega
  obtain ⟨p5, c5, hv5, hin5⟩ := in_of_ownsE ho5 (by omega)
  subst hv5
  obtain ⟨hok5, hnr5⟩ := ord_norm HLO.out (List.Perm.refl _)
  have hN := norm_ok p5 (leftL f T l).length c5 (leftL f T l) w5 hin5 hll5 hok5
  rw [hnr5] at hN
  obtain ⟨T5, hT5⟩ : ∃ T5, (leftL f T l).length = T5 := ⟨_, rfl⟩
  rw [hT5] at hN ⊢
  clear hP4 ho4 hb4 ho5 hin5 hok5 hnr5 hT5 hll5 hb3
  go_wp2_with fail
  refine hN.mono ?_
  rintro e9 w6 ⟨v6, rfl, ho6, hb6⟩
  have hb56 := hb5.trans (hb6.mono hb5.size)
  have ho6 := owns_base ho6 hb5.size
  clear hN hb6
  go_wp2_with fail
  refine (parts_call p n c f T w6).mono ?_
  rintro e9 w7 ⟨rfl, hw7⟩
  have hP7 := partsIn_new f T (h.below hb56) hone
  have hb67 : Below w6.heap.size w6 w7 := by rw [hw7]; exact below_al (below_al (below_al (Below.refl _ _) _) _) _
  have hb7 := hb56.trans (hb67.mono hb56.size)
  have ho7 := owns_below ho6 hb67
  have hs7 := hb7.size
  rw [← hw7] at hP7
  clear hw7 ho6 hb67
  go_wp2_with fail
  refine (collect_any w7.heap.size n w6.heap.size (w6.heap.size + 1) (w6.heap.size + 2) p c f T l w7 hP7 (Nat.le_refl _) (fun h0 a e => Nat.lt_of_lt_of_le (hlow h0 a e) hs7) (by omega)).mono ?_
  rintro e9 w8 ⟨v8, rfl, ho8, hb8⟩
  have ho9 := owns_below ho7 hb8
  have hb9 := hb7.trans (hb8.mono hs7)
  have hap := owns_apart ho8 ho7
  have ho8 := owns_base ho8 hs7
  clear hP7 ho7 hb7 hb8
  go_wp2
  go_ret3
  exact ⟨v6, v8, rfl, ho9, ho8, hap, hb9⟩
theorem put_no (p : Option Addr) (n c : Nat) (l : List Ext) (e : Ext) (w : World) (h : InE w p n c l) (hc : chkB l = false ∨ oneB e = false) :
    Calls Try.prog 29 #[.slice p n c, e.val] w fun x w' => x = .returned (.tuple #[.slice none 0 0, .slice none 0 0, .int .i64 130]) ∧ Below w.heap.size w w' := by
  have hb0 := below_alloc w (.cells #[.int .i64 e.lo, .int .i64 e.ln, .int .i64 e.ph] 31)
  have k0 := Blk.new' w 31 #[.int .i64 e.lo, .int .i64 e.ln, .int .i64 e.ph]
  have hk := check_any p n c l _ (h.below hb0)
  cases hq : chkB l with
  | false =>
    rw [chkE_no hq] at hk
    clear hc hq
    go_enter Try.func29, Try.ntmps29
    go_wp2_with fail
    refine hk.mono ?_
    rintro e9 w1 ⟨rfl, hb1⟩
    go_wp2
    go_ret3
    exact ⟨rfl, bt hb0 hb1⟩
  | true =>
    rw [chkE_ok hq] at hk
    have h1 : oneB e = false := by rcases hc with h | h; rw [h] at hq; cases hq; exact h
    have hone := fun W => one_any e W
    simp only [oneE_no h1] at hone
    clear hc hq h1
    go_enter Try.func29, Try.ntmps29
    go_wp2_with fail
    refine hk.mono ?_
    rintro e9 w1 ⟨rfl, hb1⟩
    have k1 := k0.kept hb1
    have c0 := k1.cell' (i := 0) rfl
    have c1 := k1.cell' (i := 1) rfl
    have c2 := k1.cell' (i := 2) rfl
    go_wp2_with (go_at_call 18; refine (hone _).mono ?_; rintro e9 w2 ⟨rfl, hb2⟩)
    go_ret3
    exact ⟨rfl, bt (bt hb0 hb1) hb2⟩
/-- What a put makes. -/
def putL (e : Ext) (l : List Ext) : List Ext := normR (normL (leftL e.lo (endI e) l) ++ [e])
set_option linter.unusedSimpArgs false in
set_option linter.unusedVariables false in
set_option maxRecDepth 100000 in
set_option maxHeartbeats 4000000 in
theorem put_yes (p : Option Addr) (n c : Nat) (l : List Ext) (e : Ext) (w : World) (h : InE w p n c l) (hn : n ≤ 100000) (hc : chkB l = true) (he : oneB e = true) :
    Calls Try.prog 29 #[.slice p n c, e.val] w fun x w' => ∃ v1 v2, x = .returned (.tuple #[v1, v2, .int .i64 0]) ∧ w'.ownsRow w.heap.size 31 3 v1 (putL e l).length (flatE (putL e l)) ∧ w'.ownsRow w.heap.size 31 3 v2 (runsL e.lo (endI e) l).length (flatE (runsL e.lo (endI e) l)) ∧ Below w.heap.size w w' := by
  obtain ⟨i0, hi, hz0, hz1, hz2⟩ := info_parts infoE
  have hb0 := below_alloc w (.cells #[.int .i64 e.lo, .int .i64 e.ln, .int .i64 e.ph] 31)
  have k0 := Blk.new' w 31 #[.int .i64 e.lo, .int .i64 e.ln, .int .i64 e.ph]
  have hk := check_any p n c l _ (h.below hb0)
  rw [chkE_ok hc] at hk
  have hone := fun W => one_any e W
  simp only [oneE_ok he] at hone
  have he' := oneB_iff.1 he
  have hto : toI e.lo e.ln = endI e := by unfold toI endI; omega
  have hpk := put_ok (chkB_ord hc) he
  have hlr := runsL_len 0 e.lo l
  have hlr2 := runsL_len (endI e) 65536 l
  have hll := h.len
  have hln : (normL (leftL e.lo (endI e) l)).length ≤ 200000 := by
    have := normL_len (leftL e.lo (endI e) l)
    unfold leftL at *
    rw [List.length_append] at this
    omega
  go_enter Try.func29, Try.ntmps29
  go_wp2_with fail
  refine hk.mono ?_
  rintro e9 w1 ⟨rfl, hb1⟩
  have k1 := k0.kept hb1
  have b1 := bt hb0 hb1
  have c0 := k1.cell' (i := 0) rfl
  have c1 := k1.cell' (i := 1) rfl
  have c2 := k1.cell' (i := 2) rfl
  clear hk k0 hb1
  go_wp2_with fail
  refine (hone _).mono ?_
  rintro e9 w2 ⟨rfl, hb2⟩
  have k2 := k1.kept hb2
  have b2 := bt b1 hb2
  have d0 := k2.cell' (i := 0) rfl
  have d1 := k2.cell' (i := 1) rfl
  have d2 := k2.cell' (i := 2) rfl
  have hpu := punch_ok p n c l e.lo e.ln w2 (h.below b2) hn hc (by omega) (by omega) (by omega)
  rw [hto] at hpu
  clear hone k1 b1 hb2 c0 c1 c2
  go_wp2_with fail
  refine hpu.mono ?_
  rintro e9 w3 ⟨v1, v2, rfl, ho1, ho2, hap, hb3⟩
  have k3 := k2.kept hb3
  have b3 := bt b2 hb3
  have f0 := k3.cell' (i := 0) rfl
  have f1 := k3.cell' (i := 1) rfl
  have f2 := k3.cell' (i := 2) rfl
  obtain ⟨p1, q1, rfl⟩ := owns_slice ho1
  obtain ⟨p2, q2, rfl⟩ := owns_slice ho2
  have HP : Hid (okR (normL (leftL e.lo (endI e) l) ++ [e]) = true ∧ putL e l = normR (normL (leftL e.lo (endI e) l) ++ [e])) := ⟨hpk, rfl⟩
  clear k2 d0 d1 d2 hpu hpk hlr hlr2 he' hto hc
  generalize normL (leftL e.lo (endI e) l) = L at *
  obtain ⟨R, hR⟩ : ∃ R, runsL e.lo (endI e) l = R := ⟨_, rfl⟩
  have HR : Hid (runsL e.lo (endI e) l = R) := hR
  rw [hR] at ho2 hap ⊢
  clear hR
  obtain ⟨TL, hTL⟩ : ∃ TL, L.length = TL := ⟨_, rfl⟩
  obtain ⟨TR, hTR⟩ : ∃ TR, R.length = TR := ⟨_, rfl⟩
  have HTL : Hid (L.length = TL) := hTL
  rw [hTL] at ho1 hln ⊢
  rw [hTR] at ho2 ⊢
  rw [hTL, hTR] at hap
  have HTR : Hid (R.length = TR) := hTR
  clear hTL hTR
  have hs3 := hb3.size
  have hs2 := b2.size
  go_wp2_with (at_builtin; refine wpList_append_own _ rfl (.tmp 31) (.tmp 33) 22 rfl w2.heap.size 31 i0 (.agg #[.int .i64 0, .int .i64 0, .int .i64 0]) 3 24 Try.underlying22 hi hz0 hz1 hz2 rfl (by decide) _ TL _ rfl (ho1.alloc _) ⟨_, 0, none⟩ 1 1 [.int .i64 e.lo, .int .i64 e.ln, .int .i64 e.ph] rfl rfl (new_three _ _ _ _) (by simp [Value.oneCell']) (by unfold maxLen; omega) (by omega) (by simp; omega) ?_; intro v4 w4 hown4 hgrow4 _)
  rw [flatE_snoc] at hown4
  have hb4 : Below w2.heap.size w2 w4 := below_appP hb3 (Nat.le_refl _) ho1 hgrow4
  have ho24 := (ho2.alloc _).kept hgrow4 hap
  obtain ⟨p4, q4, rfl⟩ := owns_slice hown4
  obtain ⟨p9, q9, hv9, hin4⟩ := in_of_ownsE hown4 (by omega)
  cases hv9
  have hN := norm_ok _ _ _ _ w4 hin4 (by omega) HP.out.1
  rw [← HP.out.2] at hN
  obtain ⟨T4, hT4⟩ : ∃ T4, TL + 1 = T4 := ⟨_, rfl⟩
  rw [hT4] at hN ⊢
  clear hin4 hT4 hown4 ho1 hgrow4 hap ho2 hb3 f0 f1 f2 k3
  go_wp2_with fail
  refine hN.mono ?_
  rintro e9 w5 ⟨v5, rfl, ho5, hb5⟩
  have ho25 := owns_below ho24 hb5
  have b4 := b2.trans (hb4.mono b2.size)
  have hs4 := b4.size
  have ho5 := owns_base ho5 hs4
  have ho25 := owns_base ho25 hs2
  have b5 := b4.trans (hb5.mono hs4)
  clear hN
  go_wp2
  go_ret3
  exact ⟨v5, .slice p2 TR q2, rfl, ho5, by rw [HR.out, HTR.out]; exact ho25, b5⟩
end Go.Proofs.Ytmboohadindlfaa
