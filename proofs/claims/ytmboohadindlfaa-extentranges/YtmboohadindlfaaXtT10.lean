/-
  Holes: what its iterator gives.
-/
import Derived.Test.YtmboohadindlfaaXtT9
import Derived.Test.YtmboohadindlfaaRg3
namespace Go.Proofs.Ytmboohadindlfaa
open Go.RowKit Go.Shelf
attribute [local go_sem] Oper.semAt_some
/-- Objects that the iterator may turn: what holds no cells, and boxes of ints. -/
def CH (o : Obj) : Prop := o.isCells = false ∨ ∃ cs, o = .cells cs 3 (0, 0)
theorem CH.no (o : Obj) (h : o.isCells = false) : CH o := .inl h
/-- All blocks but l and those of T lie as they lay. -/
structure KpO (T : Nat → Obj → Prop) (l : Nat) (A B : World) : Prop where
  size : A.heap.size ≤ B.heap.size
  same : ∀ k o, A.heap[k]? = some o → k ≠ l → ¬ T k o → B.heap[k]? = some o
theorem KpO.trans {T : Nat → Obj → Prop} {l : Nat} {A B C : World} (h : KpO T l A B) (k : KpO T l B C) : KpO T l A C :=
  ⟨Nat.le_trans h.size k.size, fun j o ho e ht => k.same j o (h.same j o ho e ht) e ht⟩
theorem KpO.put (T : Nat → Obj → Prop) (W : World) (l : Nat) (o' : Obj) : KpO T l W (W.putObj l o') :=
  ⟨by rw [World.putObj_size]; exact Nat.le_refl _, fun _ _ ho e _ => (World.putObj_heap_other e).trans ho⟩
def encH (x : Hol) : Array Value := #[.int .i64 x.a, .int .i64 x.l]
theorem holesTo_app (a : Int) (l m : List Ext) : holesTo a (l ++ m) = holesTo a l ++ holesTo (nextTo a l) m := by
  induction l generalizing a with
  | nil => rfl
  | cons x l ih => simp only [List.cons_append, holesTo, nextTo, ih, List.append_assoc]
theorem holes_prefix {a b : Int} {l m : List Ext} (h : l <+: m) : holesTo a l <+: holesL b a m := by
  obtain ⟨t, rfl⟩ := h
  rw [holesL_eq, holesTo_app, List.append_assoc]
  exact List.prefix_append _ _
def FH (Bf Bp Bt N B1 : Nat) (p : Option Addr) (k : Nat) : Prop := k = Bf ∨ k = Bp ∨ k = Bt ∨ FP N B1 (B1 + 1) (B1 + 2) p k
set_option linter.unusedSimpArgs false in
set_option linter.unusedVariables false in
set_option maxRecDepth 100000 in
set_option maxHeartbeats 8000000 in
theorem holes_feeds (nf : Nat) (hn : 4 ≤ nf) (T : Nat → Obj → Prop) (Bf Bp Bt N B1 : Nat) (p : Option Addr) (c : Nat) (a b : Int) (xs : List Ext) (w : World) (hbf : Blk w Bf 3 [.int .i64 a]) (hbp : Blk w Bp 63 [.func (.func 53) #[] #[.pointer (some ⟨B1, 0, none⟩), .pointer (some ⟨B1 + 1, 0, none⟩), .pointer (some ⟨B1 + 2, 0, none⟩)]]) (hbt : Blk w Bt 3 [.int .i64 b]) (hP : PartsIn w N B1 (B1 + 1) (B1 + 2) p c a b xs)
    (ha : 0 ≤ a) (hb : b ≤ 65536) (hT1 : ∀ k o, FH Bf Bp Bt N B1 p k → ¬ T k o) (hT2 : ∀ k o, w.heap.size ≤ k → T k o → ∃ cs, o = .cells cs 38 (0, 0)) :
    Feeds3 CH Try.prog nf 52 #[.pointer (some ⟨Bf, 0, none⟩), .pointer (some ⟨Bp, 0, none⟩), .pointer (some ⟨Bt, 0, none⟩)] encH (fun _ _ => True) (KpO T) (fun ys => ys = holesL b a (runsL a b xs)) (fun pre => pre <+: holesL b a (runsL a b xs)) w := by
  intro l J Jx W hW hwl hlW hJ hJx hY h0
  have h1 : 1 ≤ nf := by omega
  have hws := hW.size
  have hfl : ∀ k, FH Bf Bp Bt N B1 p k → k < w.heap.size := fun k hk => by
    rcases hk with rfl | rfl | rfl | hk
    · exact hbf.lt
    · exact hbp.lt
    · exact hbt.lt
    · exact FP.lt hP hk
  have hbfW := hbf.below hW hbf.lt
  have hbpW := hbp.below hW hbp.lt
  have hbtW := hbt.below hW hbt.lt
  have hPW := hP.below hW
  have hRV := runsV_val (f := a) (t := b) hP.one
  have k1 := below_alloc W (.cells #[.func (.yield l) #[] #[]] 75)
  have y1 := Blk.new' W 75 #[.func (.yield l) #[] #[]]
  have d1 := (hbfW.alloc (.cells #[.func (.yield l) #[] #[]] 75)).cell' (i := 0) rfl
  have k2 := below_alloc (W.alloc (.cells #[.func (.yield l) #[] #[]] 75)) (.cells #[.int .i64 a] 3)
  have n2 := Blk.new' (W.alloc (.cells #[.func (.yield l) #[] #[]] 75)) 3 #[.int .i64 a]
  rw [show (W.alloc (.cells #[.func (.yield l) #[] #[]] 75)).heap.size = W.heap.size + 1 from World.size_alloc _ _] at n2
  have y2 := y1.kept k2
  have hB := bt k1 k2
  have d2 := (hbpW.kept hB).cell' (i := 0) rfl
  have hP2 := hPW.below hB
  have hsz : ((W.alloc (.cells #[.func (.yield l) #[] #[]] 75)).alloc (.cells #[.int .i64 a] 3)).heap.size = W.heap.size + 2 := by simp
  have hJ0 := hJ _ _ _ none h0 (grown_of hB) (fun r e => by cases e)
  have bt2 := hbtW.kept hB
  refine callsIn_of_wp_marks Try.func52 rfl trivial ?_ rfl
  simp only [Try.ntmps52, List.size_toArray, List.length_cons, List.length_nil, Nat.reduceAdd, Nat.reduceSub, Array.replicate_succ, Array.replicate_zero, List.push_toArray, List.append_toArray, List.nil_append, List.cons_append]
  gi_wp2
  clear k1 k2 y1 d1 d2
  generalize (W.alloc (.cells #[.func (.yield l) #[] #[]] 75)).alloc (.cells #[.int .i64 a] 3) = V at *
  refine range_feeds2 (α := VE) h1 (gf := 53) (lb := #[.pointer (some ⟨B1, 0, none⟩), .pointer (some ⟨B1 + 1, 0, none⟩), .pointer (some ⟨B1 + 2, 0, none⟩)]) rfl (enters_of Try.func53 (by kernel_rfl) rfl)
    (parts_feeds (nf - 1) (by omega) N B1 (B1 + 1) (B1 + 2) p c a b xs V hP2) (fun _ => rfl) (fun h k => h.trans k) (fun W l o' => KpF.put _ W l o') (fun _ _ _ _ _ _ _ _ => trivial)
    (fun ys X => J (holesTo a (ys.map (·.1))) X ∧ Blk X W.heap.size 75 [.func (.yield l) #[] #[]] ∧ Blk X (W.heap.size + 1) 3 [.int .i64 (nextTo a (ys.map (·.1)))] ∧ Blk X Bt 3 [.int .i64 b])
    (fun ys X => ∃ zs, zs <+: holesL b a (runsL a b xs) ∧ Jx zs X)
    (fun ys X Y row hs hg hr => by
      obtain ⟨e1, e2, e3, e4⟩ := hs
      have hk : ∀ k, k < V.heap.size → Y.heap[k]? = X.heap[k]? ∨ X.heap.size ≤ k := fun k hk => by
        rcases Nat.lt_or_ge k X.heap.size with h | h
        · exact .inl (hg.block k h (fun e => by have := (hr _ e.symm).1; omega))
        · exact .inr h
      have hq : ∀ k t cs, k < V.heap.size → Blk X k t cs → Blk Y k t cs := fun k t cs hk' h => h.same ((hk k hk').resolve_right (by have := h.lt; omega))
      exact ⟨hJ _ _ _ _ e1 hg (fun r e => ⟨by have := (hr r e).1; omega, by obtain ⟨o, ho, hc⟩ := (hr r e).2; exact ⟨o, ho, CH.no o hc⟩⟩), hq _ _ _ (by omega) e2, hq _ _ _ (by omega) e3, hq _ _ _ (by have := hbt.lt; omega) e4⟩)
    (fun ys X Y row hs hg hr => by
      obtain ⟨zs, e1, e2⟩ := hs
      exact ⟨zs, e1, hJx _ _ _ _ e2 hg (fun r e => ⟨by have := (hr r e).1; omega, by obtain ⟨o, ho, hc⟩ := (hr r e).2; exact ⟨o, ho, CH.no o hc⟩⟩)⟩)
    ⟨hJ0, y2, n2, bt2⟩
    (fun x a' X => ∃ eb, V.heap.size ≤ eb ∧ Blk X eb 31 [.int .i64 x.1.lo, .int .i64 x.1.ln, .int .i64 x.1.ph] ∧ a' = { tmps := #[.func (.yield l) #[] #[], .pointer (some ⟨Bf, 0, none⟩), .pointer (some ⟨Bp, 0, none⟩), .pointer (some ⟨Bt, 0, none⟩), .pointer (some ⟨W.heap.size, 0, none⟩), .pointer (some ⟨W.heap.size + 1, 0, none⟩), .pointer (some ⟨eb, 0, none⟩), .int .i64 a, .func (.func 53) #[] #[.pointer (some ⟨B1, 0, none⟩), .pointer (some ⟨B1 + 1, 0, none⟩), .pointer (some ⟨B1 + 2, 0, none⟩)], x.1.val, undef, undef, undef, undef, undef, undef, undef, undef, undef, undef, undef, undef, undef, undef, undef, undef, undef, undef, undef, undef, undef, undef, undef, undef, undef], defers := [] })
    (fun x a' _ X Y row hs hg hr => by
      obtain ⟨gx, h1, h2, h3⟩ := hs
      exact ⟨gx, h1, h2.same (hg.block _ h2.lt (fun e => by obtain ⟨_, o, ho, hc⟩ := hr _ e.symm; rw [show X.heap[gx]? = _ from h2] at ho; cases ho; cases hc)), h3⟩)
    ?assign ?body ?done ?stop
  case assign =>
    rintro l2 pre ⟨⟨lo, ln, ph⟩, hone⟩ X K hl2 hX hI hG hK
    dsimp only [encV, Ext.val]
    have k1 := below_alloc X (.cells #[.int .i64 lo, .int .i64 ln, .int .i64 ph] 31)
    gi_wp2
    exact hK _ _ ⟨k1.size, fun k _ _ hk _ => (k1.block k (Array.getElem?_eq_some_iff.1 hk).1).trans hk⟩ ⟨k1.size, fun k hk _ => k1.block k (Nat.lt_of_lt_of_le (FP.lt hP2 hk) hX)⟩ ⟨hJ _ _ _ none hI.1 (grown_of k1) (fun r e => by cases e), hI.2.1.kept k1, hI.2.2.1.kept k1, hI.2.2.2.kept k1⟩ trivial ⟨X.heap.size, hX, Blk.new' X 31 #[.int .i64 lo, .int .i64 ln, .int .i64 ph], rfl⟩
  case stop =>
    rintro D ys X hD hSp ⟨zs, hz, hJz⟩ hdef
    gi_wp2
    refine ⟨by simp, .inl ⟨_, _, rfl, run_takeDeferred hdef, ?_⟩⟩
    simp [LeavesInM, LeavesIn, settle, results, Try.results52, go_sem]
    exact .inr ⟨zs, hz, (hJx.own CH.no).putObj _ hJz (by omega) hdef rfl⟩
  case done =>
    rintro D ys X hD rfl ⟨i1, i2, i3, i4⟩ hdef
    rw [hRV] at i1 i3
    have hDl : D < X.heap.size := (Array.getElem?_eq_some_iff.1 hdef).1
    have HE : Hid (holesL b a (runsL a b xs) = holesTo a (runsL a b xs) ++ holIf (nextTo a (runsL a b xs)) b) := holesL_eq b a _
    have hq0 : 0 ≤ nextTo a (runsL a b xs) := nextTo_low ha (fun e he => runs_one hP.one e he)
    generalize nextTo a (runsL a b xs) = q at *
    generalize holesTo a (runsL a b xs) = zs at *
    have n0 := i3.cell' (i := 0) rfl
    have t0 := i4.cell' (i := 0) rfl
    have y0 := i2.cell' (i := 0) rfl
    by_cases hqb : q < b
    · have HZ : Hid (holesL b a (runsL a b xs) = zs ++ [⟨q, b - q⟩]) := by show _ = _; rw [HE.out, holIf_yes hqb]
      have hyy := hY zs ⟨q, b - q⟩ X i1 trivial (by omega) (by rw [HZ.out]; exact List.prefix_refl _)
      obtain ⟨fn, tmps, assign, body, hy, hR⟩ := hyy
      dsimp only [encH] at hy
      gi_wp2
      refine hR.mono ?_
      rintro e X5 (⟨rfl, hJ5, hk5⟩ | ⟨rfl, hJx5, hk5⟩)
      · have hdef5 := hk5.same D _ hdef (by omega) (fun h => by obtain ⟨cs, hc⟩ := hT2 _ _ (by omega) h; cases hc)
        gi_wp2
        refine ⟨by simp, .inl ⟨_, _, rfl, run_takeDeferred hdef5, ?_⟩⟩
        simp [LeavesInM, LeavesIn, settle, results, Try.results52, go_sem]
        exact .inl (by rw [HZ.out]; exact (hJ.own CH.no).putObj _ hJ5 (by omega) hdef5 rfl)
      · have hdef5 := hk5.same D _ hdef (by omega) (fun h => by obtain ⟨cs, hc⟩ := hT2 _ _ (by omega) h; cases hc)
        gi_wp2
        refine ⟨by simp, .inl ⟨_, _, rfl, run_takeDeferred hdef5, ?_⟩⟩
        simp [LeavesInM, LeavesIn, settle, results, Try.results52, go_sem]
        exact .inr ⟨_, by rw [HZ.out]; exact List.prefix_refl _, (hJx.own CH.no).putObj _ hJx5 (by omega) hdef5 rfl⟩
    · have HZ : Hid (holesL b a (runsL a b xs) = zs) := by show _ = _; rw [HE.out, holIf_no hqb, List.append_nil]
      gi_wp2
      refine ⟨by simp, .inl ⟨_, _, rfl, run_takeDeferred hdef, ?_⟩⟩
      simp [LeavesInM, LeavesIn, settle, results, Try.results52, go_sem]
      exact .inl (by rw [HZ.out]; exact (hJ.own CH.no).putObj _ i1 (by omega) hdef rfl)
  case body =>
    rintro l2 pre ⟨⟨lo, ln, ph⟩, hone⟩ a' X hl2 hl2X hX ⟨i1, i2, i3, i4⟩ - ⟨eb, heb, beb, rfl⟩ hSp
    dsimp only at beb
    have HU : Hid (holesTo a ((pre ++ [(⟨⟨lo, ln, ph⟩, hone⟩ : VE)]).map (·.1)) = holesTo a (pre.map (·.1)) ++ holIf (nextTo a (pre.map (·.1))) lo) := by show _ = _; rw [List.map_append]; exact holesTo_snoc a _ _
    have HN : Hid (nextTo a ((pre ++ [(⟨⟨lo, ln, ph⟩, hone⟩ : VE)]).map (·.1)) = lo + ln) := by show _ = _; rw [List.map_append]; exact nextTo_snoc a _ _
    have HPr : Hid (holesTo a ((pre ++ [(⟨⟨lo, ln, ph⟩, hone⟩ : VE)]).map (·.1)) <+: holesL b a (runsL a b xs)) := by
      show _ <+: _
      rw [← hRV]
      exact holes_prefix (hSp.map _)
    have hq0 : 0 ≤ nextTo a (pre.map (·.1)) := nextTo_low ha (fun e he => by obtain ⟨v, _, rfl⟩ := List.mem_map.1 he; exact v.2)
    have hbd := oneB_iff.1 hone
    dsimp only at hbd
    obtain ⟨g1, g2, g3, g4, g5, g6⟩ : 0 ≤ lo ∧ lo ≤ 65535 ∧ 1 ≤ ln ∧ ln ≤ 4096 ∧ 0 ≤ lo + ln ∧ lo + ln ≤ 65536 := by omega
    have hNn : ∀ k o, w.heap.size ≤ k → (∀ cs, o ≠ .cells cs 38 (0, 0)) → ¬ T k o := fun k o hk hne h => by obtain ⟨cs, hc⟩ := hT2 k o hk h; exact hne cs hc
    have hbtl := hbt.lt
    have fin : ∀ (X5 : World) (L : List Hol), X.heap.size ≤ X5.heap.size → (∀ k o, X.heap[k]? = some o → k ≠ l → ¬ T k o → X5.heap[k]? = some o) → J L X5 → holesTo a ((pre ++ [(⟨⟨lo, ln, ph⟩, hone⟩ : VE)]).map (·.1)) = L →
        FeedEnd2 V.heap.size (KpF (FP N B1 (B1 + 1) (B1 + 2) p) l2)
          (fun ys X => J (holesTo a (ys.map (·.1))) X ∧ Blk X W.heap.size 75 [.func (.yield l) #[] #[]] ∧ Blk X (W.heap.size + 1) 3 [.int .i64 (nextTo a (ys.map (·.1)))] ∧ Blk X Bt 3 [.int .i64 b])
          (fun ys X => ∃ zs, zs <+: holesL b a (runsL a b xs) ∧ Jx zs X) (pre ++ [(⟨⟨lo, ln, ph⟩, hone⟩ : VE)]) X .normal { tmps := #[], defers := [] } ((X5.alloc (.cells #[.int .i64 lo, .int .i64 ln, .int .i64 ph] 31)).setCell ⟨W.heap.size + 1, 0, none⟩ (.int .i64 (lo + ln))) := fun X5 L hs hkk hJ5 hL => by
      have n5 : Blk X5 (W.heap.size + 1) 3 _ := hkk _ _ i3 (by omega) (hNn _ _ (by omega) (fun cs h => by cases h))
      have y5 : Blk X5 W.heap.size 75 _ := hkk _ _ i2 (by omega) (hNn _ _ (by omega) (fun cs h => by cases h))
      have t5 : Blk X5 Bt 3 _ := hkk _ _ i4 (by omega) (hT1 _ _ (.inr (.inr (.inl rfl))))
      have tX := Turned.setCell (X5.alloc (.cells #[.int .i64 lo, .int .i64 ln, .int .i64 ph] 31)) ⟨W.heap.size + 1, 0, none⟩ (.int .i64 (lo + ln))
      have ba := below_alloc X5 (.cells #[.int .i64 lo, .int .i64 ln, .int .i64 ph] 31)
      have hto : ∀ k o, X5.heap[k]? = some o → k ≠ W.heap.size + 1 → ((X5.alloc (.cells #[.int .i64 lo, .int .i64 ln, .int .i64 ph] 31)).setCell ⟨W.heap.size + 1, 0, none⟩ (.int .i64 (lo + ln))).heap[k]? = some o := fun k o ho hne => (tX.block k hne).trans ((ba.block k (Array.getElem?_eq_some_iff.1 ho).1).trans ho)
      have hsz2 := ba.size
      refine ⟨⟨by rw [tX.size]; omega, fun k o hk ho hc => hto k o (hkk k o ho (by omega) (hNn _ _ (by omega) (fun cs h => by rw [h] at hc; cases hc))) (by omega)⟩, ⟨by rw [tX.size]; omega, fun k hk _ => ?_⟩, ?_, ?_, ?_, ?_⟩
      · have hkl := FP.lt hP hk
        obtain ⟨o, ho⟩ : ∃ o, X.heap[k]? = some o := ⟨_, Array.getElem?_eq_getElem (by omega)⟩
        rw [ho]
        exact hto k o (hkk k o ho (by omega) (hT1 _ _ (.inr (.inr (.inr hk))))) (by omega)
      · rw [hL]
        refine hJ _ _ _ (some (W.heap.size + 1)) (hJ _ _ _ none hJ5 (grown_of ba) (fun r e => by cases e)) ⟨tX.os, tX.tape, tX.output, by rw [tX.size]; exact Nat.le_refl _, fun k _ hne => tX.block k (fun e => hne (by rw [e]))⟩ (fun r e => ?_)
        cases e
        exact ⟨by omega, _, n5.alloc _, .inr ⟨_, rfl⟩⟩
      · exact hto _ _ y5 (by omega)
      · rw [HN.out]; exact (n5.alloc _).set 0 _
      · exact hto _ _ t5 (by omega)
    have hQ : ∀ {e : Exit} {a1 a2 : Act} {Y : World} {ys : List VE}, FeedEnd2 V.heap.size (KpF (FP N B1 (B1 + 1) (B1 + 2) p) l2)
          (fun ys X => J (holesTo a (ys.map (·.1))) X ∧ Blk X W.heap.size 75 [.func (.yield l) #[] #[]] ∧ Blk X (W.heap.size + 1) 3 [.int .i64 (nextTo a (ys.map (·.1)))] ∧ Blk X Bt 3 [.int .i64 b])
          (fun ys X => ∃ zs, zs <+: holesL b a (runsL a b xs) ∧ Jx zs X) ys X e a1 Y → FeedEnd2 V.heap.size (KpF (FP N B1 (B1 + 1) (B1 + 2) p) l2)
          (fun ys X => J (holesTo a (ys.map (·.1))) X ∧ Blk X W.heap.size 75 [.func (.yield l) #[] #[]] ∧ Blk X (W.heap.size + 1) 3 [.int .i64 (nextTo a (ys.map (·.1)))] ∧ Blk X Bt 3 [.int .i64 b])
          (fun ys X => ∃ zs, zs <+: holesL b a (runsL a b xs) ∧ Jx zs X) ys X e a2 Y := fun {e} {a1} {a2} {Y} {ys} h => by cases e <;> exact h
    have hend := fun W => end_any ⟨lo, ln, ph⟩ W hone
    dsimp only [Ext.val, endI] at hend
    have e0 := beb.cell' (i := 0) rfl
    have e1 := beb.cell' (i := 1) rfl
    have e2 := beb.cell' (i := 2) rfl
    have n0 := i3.cell' (i := 0) rfl
    have y0 := i2.cell' (i := 0) rfl
    have hX2 : V.heap.size ≤ X.heap.size := hX
    generalize hgq : nextTo a (pre.map (·.1)) = q at *
    by_cases hql : q < lo
    · have HZ : Hid (holesTo a ((pre ++ [(⟨⟨lo, ln, ph⟩, hone⟩ : VE)]).map (·.1)) = holesTo a (pre.map (·.1)) ++ [⟨q, lo - q⟩]) := by show _ = _; rw [HU.out, holIf_yes hql]
      have hyy := YieldAt.within2 (l' := l2) (m' := nf - 1 - 1 - 1) (hY (holesTo a (pre.map (·.1))) ⟨q, lo - q⟩ X i1 trivial (by omega) (by rw [← HZ.out]; exact HPr.out))
      obtain ⟨fn, tmps, assign, body, hy, hR⟩ := hyy
      dsimp only [encH] at hy
      gi_wp2
      refine ⟨fun _ => by omega, ?_⟩
      refine hR.mono ?_
      rintro e X5 (⟨rfl, hJ5, hk5⟩ | ⟨rfl, hJx5, hk5⟩)
      · have hf := fin X5 _ hk5.size hk5.same hJ5 HZ.out
        have b5 : Blk X5 eb 31 _ := hk5.same _ _ beb (by omega) (hNn _ _ (by omega) (fun cs h => by cases h))
        have n5 : Blk X5 (W.heap.size + 1) 3 _ := hk5.same _ _ i3 (by omega) (hNn _ _ (by omega) (fun cs h => by cases h))
        clear e0 e1 e2 n0 y0
        have e0 := b5.cell' (i := 0) rfl
        have e1 := b5.cell' (i := 1) rfl
        have e2 := b5.cell' (i := 2) rfl
        gi_wp2
        refine ⟨trivial, fun _ => by omega, ?_⟩
        refine (CallsIn.inRound l2 (callsIn_wide.2 (hend _))).mono ?_
        rintro e w6 ⟨rfl, rfl⟩
        have n6 := n5.alloc (.cells #[.int .i64 lo, .int .i64 ln, .int .i64 ph] 31)
        have m0 := n6.cell' (i := 0) rfl
        have mf := n6.frozen 0
        clear fin HU HN HPr HZ
        gi_wp2
        exact hQ hf
      · gi_wp2
        refine ⟨⟨hk5.size, fun k o hk ho hc => hk5.same k o ho (by omega) (hNn _ _ (by omega) (fun cs h => by rw [h] at hc; cases hc))⟩, ⟨hk5.size, fun k hk _ => ?_⟩, ⟨_, by rw [← HZ.out]; exact HPr.out, hJx5⟩⟩
        have hkl := FP.lt hP hk
        obtain ⟨o, ho⟩ : ∃ o, X.heap[k]? = some o := ⟨_, Array.getElem?_eq_getElem (by omega)⟩
        rw [ho]
        exact hk5.same k o ho (by omega) (hT1 _ _ (.inr (.inr (.inr hk))))
    · have HZ : Hid (holesTo a ((pre ++ [(⟨⟨lo, ln, ph⟩, hone⟩ : VE)]).map (·.1)) = holesTo a (pre.map (·.1))) := by show _ = _; rw [HU.out, holIf_no hql, List.append_nil]
      have hf := fin X _ (Nat.le_refl _) (fun k o ho _ _ => ho) i1 HZ.out
      clear fin HU HN HPr HZ
      gi_wp2_with (guard_target = (∀ f : FuncId, none = some f → Fence.wide.fn f) ∧ _; refine And.intro (fun _ _ => trivial) ?_)
      refine ⟨trivial, fun _ => by omega, ?_⟩
      refine (CallsIn.inRound l2 (callsIn_wide.2 (hend _))).mono ?_
      rintro e w6 ⟨rfl, rfl⟩
      have n6 := i3.alloc (.cells #[.int .i64 lo, .int .i64 ln, .int .i64 ph] 31)
      have m0 := n6.cell' (i := 0) rfl
      have mf := n6.frozen 0
      gi_wp2
      exact hQ hf
end Go.Proofs.Ytmboohadindlfaa
