/-
  A page more in the last random log.
-/
import Derived.Test.YthibaefoioeghaaPlWhere
import Derived.Test.YthibaefoioeghaaPlCopy
import Derived.Maps.AppendAt
namespace Go.Proofs.Ythibaefoioeghaa
open Go.RowKit
/-- A table with other logs. -/
def Tab.with (T : Tab) (R : List LR) : Tab := { T with logs := R.map LR.log }
theorem own_apart {p q : Option Addr} {n c m d : Nat} (h : ∀ a b, p = some a → q = some b → a.block ≠ b.block) : (Value.slice p n c).ownBlock = none ∨ (Value.slice p n c).ownBlock ≠ (Value.slice q m d).ownBlock := by
  cases p with
  | none => exact .inl rfl
  | some a =>
    refine .inr ?_
    cases q with
    | none => intro e; cases e
    | some b => intro e; exact h a b rfl rfl (Option.some.inj e)
theorem wpList_store_row {ops : Array Oper} {rest : List Oper} {op : Oper} {a : Act} {w : World} {Q : Exit → Act → World → Prop} (hgd : op.guard = none) (ty : TypeId) (x y : Operand) (ho : op.op = .store ty x y)
    (g i : Nat) (v : Value) (hx : a.eval x = .pointer (some ⟨g, i, none⟩)) (hy : a.eval y = v) {B e s n c : Nat} {cs : List Value} (h : w.ownsRow B e s (.slice (some ⟨g, 0, none⟩) n c) n cs) (hi : i < n * s)
    (hz : (Try.prog.info? ty).map (·.size) = some 1) (hv : v.oneCell' = true)
    (hK : ∀ w', w'.ownsRow B e s (.slice (some ⟨g, 0, none⟩) n c) n (cs.set i v) → Turned w w' g → wpList Try.prog ops Q rest (a.put op.dst undef) w') (hc : v.cells = #[v] := by rfl) : wpList Try.prog ops Q (op :: rest) a w :=
  wpList_plain hgd fun _ hKK => wp_store_row ty x y ho g i v hx hy h hi hz hv (fun w' h1 h2 => hKK _ _ (hK w' h1 h2)) hc
theorem at_apart {p q : Option Addr} {n c m d N bb : Nat} (hat : (Value.slice p n c).ownBlock = (Value.slice q m d).ownBlock ∨ (Value.slice p n c).ownBlock = some N) (h1 : ∀ a, q = some a → a.block ≠ bb) (h2 : bb < N) : ∀ a, p = some a → a.block ≠ bb := by
  intro a ha
  subst ha
  rcases hat with e | e
  · cases q with
    | none => cases e
    | some a' =>
      have e' : a.block = a'.block := Option.some.inj e
      rw [e']; exact h1 a' rfl
  · have e' : a.block = N := Option.some.inj e
    omega
theorem blk_ne {w : World} {g : Nat} {t : TypeId} {cs : List Value} {B e s n c : Nat} {p : Option Addr} {xs : List Value} (hb : Blk w g t cs) (h : w.ownsRow B e s (.slice p n c) n xs) (hte : t ≠ e) : ∀ a, p = some a → g ≠ a.block := by
  intro a ha hg
  subst ha
  rcases h.2 with ⟨h0, _⟩ | ⟨k, cap, cur, hv, _, hh, _⟩
  · simp at h0
  · simp only [Value.slice.injEq, Option.some.injEq] at hv
    rw [hv.1] at hg
    have hg : g = k := hg
    rw [Blk, hg, hh] at hb
    simp only [Option.some.injEq, Obj.cells.injEq] at hb
    exact hte hb.2.1.symm
/-- Pages of one log turned. -/
theorem OwnT.setAt {B : Nat} {w w2 w3 : World} {V : TabV} {T : Tab} {R : List LR} {k g : Nat} {r x : LR} (h : OwnT B w V T R) (hr : R[k]? = some r) (hph : x.phys = r.phys) (hlen : x.pages.length ≤ 1000000)
    (hd : w2.ownsRow B 3 1 (.slice V.pd V.nd V.cd) V.nd (valsI T.data)) (hh : w2.ownsRow B 4 1 (.slice V.ph V.nh V.ch) V.nh (valsB T.have'))
    (hro : ∀ (i : Nat) (s : LR), i ≠ k → R[i]? = some s → w2.ownsRow B 3 1 s.v s.pages.length (valsI s.pages))
    (hx : w2.ownsRow B 3 1 x.v x.pages.length (valsI x.pages))
    (hap : ∀ (j : Nat) (s : LR) (a b : Addr), j ≠ k → R[j]? = some s → x.p = some a → s.p = some b → a.block ≠ b.block) (had : ∀ (a b : Addr), x.p = some a → V.pd = some b → a.block ≠ b.block)
    (hpl : V.pl = some ⟨g, 0, none⟩) (hl2 : w2.ownsRow B 61 2 (.slice V.pl V.nl V.cl) V.nl (flatR R)) (ht : Turned w2 w3 g) (hl : w3.ownsRow B 61 2 (.slice V.pl V.nl V.cl) V.nl ((flatR R).set (k * 2 + 1) x.v)) :
    OwnT B w3 V (T.with (R.set k x)) (R.set k x) := by
  have hk := (List.getElem?_eq_some_iff.1 hr).1
  have far3 : ∀ (p : Option Addr) (B' n c : Nat) (xs : List Value), w2.ownsRow B' 3 1 (.slice p n c) n xs → ∀ a, p = some a → a.block ≠ g := fun p B' n c xs hq a ha => owns_ne (by decide) hq hl2 a _ ha hpl
  have get : ∀ (i : Nat) (s : LR), (R.set k x)[i]? = some s → (i = k ∧ s = x) ∨ (i ≠ k ∧ R[i]? = some s) := by
    intro i s hs
    by_cases e : k = i
    · subst e
      rw [List.getElem?_set_self hk] at hs
      exact .inl ⟨rfl, (Option.some.inj hs).symm⟩
    · rw [List.getElem?_set_ne e] at hs
      exact .inr ⟨fun h' => e h'.symm, hs⟩
  refine ⟨rfl, owns_turned hd ht (far3 _ _ _ _ _ hd), owns_turned hh ht (fun a ha => owns_ne (by decide) hh hl2 a _ ha hpl), by rw [flatR_set r x hr hph] at hl; exact hl, fun i s hs => ?_, fun i j s u a b hij hs hu ha hb => ?_, fun i s a b hs ha hb => ?_, h.sm.1, h.sm.2.1, h.sm.2.2.1, fun i s hs => ?_⟩
  · rcases get i s hs with ⟨_, rfl⟩ | ⟨hi, hs'⟩
    · exact owns_turned hx ht (far3 _ _ _ _ _ hx)
    · exact owns_turned (hro i s hi hs') ht (far3 _ _ _ _ _ (hro i s hi hs'))
  · rcases get i s hs with ⟨e1, e2⟩ | ⟨hi, hs'⟩
    · rcases get j u hu with ⟨e3, _⟩ | ⟨hj, hu'⟩
      · omega
      · rw [e2] at ha; exact hap j u a b hj hu' ha hb
    · rcases get j u hu with ⟨e3, e4⟩ | ⟨hj, hu'⟩
      · rw [e4] at hb; exact fun e => hap i s b a hi hs' hb ha e.symm
      · exact h.ap i j s u a b hij hs' hu' ha hb
  · rcases get i s hs with ⟨_, e2⟩ | ⟨hi, hs'⟩
    · rw [e2] at ha; exact had a b ha hb
    · exact h.ad i s a b hs' ha hb
  · rcases get i s hs with ⟨_, rfl⟩ | ⟨hi, hs'⟩
    · exact hlen
    · exact h.sm.2.2.2 i s hs'
set_option linter.unusedSimpArgs false in
set_option maxRecDepth 100000 in
set_option maxHeartbeats 8000000 in
theorem appendPage_any (B : Nat) (V : TabV) (T : Tab) (R : List LR) (n : Nat) (r : LR) (x : Int) (w : World) (hB : B ≤ w.heap.size) (h : OwnT B w V T R) (hn : V.nl = n + 1) (hn8 : V.nl ≤ 8) (hr : R[n]? = some r) (hrl : r.pages.length ≤ 1000) :
    Calls Try.prog 44 #[.agg (tabA V T), .int .i64 x] w fun e w' => ∃ p c, e = .returned (.tuple #[]) ∧ OwnT B w' V (T.with (R.set n ⟨r.phys, p, c, r.pages ++ [x]⟩)) (R.set n ⟨r.phys, p, c, r.pages ++ [x]⟩) ∧ Below B w w' ∧ ∀ (g' : Nat) (cs : List Value), Blk w g' 28 cs → Blk w' g' 28 cs := by
  obtain ⟨i0, hi, hz0, hz1, hz2⟩ := info_parts info3
  have hb0 := below_alloc w (.cells (tabA V T) 28)
  have b0 := Blk.new' w 28 (tabA V T)
  obtain ⟨g, hpl⟩ : ∃ g, V.pl = some ⟨g, 0, none⟩ := by
    rcases h.l.2 with ⟨_, h0⟩ | ⟨g, cap, cur, hv, _⟩
    · omega
    · simp only [Value.slice.injEq] at hv
      exact ⟨g, hv.1⟩
  have h1 := h.next hb0
  have q1 := h1.l
  rw [hpl] at q1
  have hl := h.l.1
  rw [flatR_length] at hl
  have c1 := q1.cellAt (n * 2 + 1) (by omega)
  rw [(flatR_at hr).2, LR.v] at c1
  have hrow := h1.r n r hr
  have hnn : (n : Int) < ((n + 1 : Nat) : Int) := by omega
  have hn1 : IntKind.i64.wrap (((n + 1 : Nat) : Int) - 1) = (n : Int) := by rw [show ((n + 1 : Nat) : Int) - 1 = (n : Int) from by omega]; exact wrapN _ (by omega)
  have hn2 : wrap64 (((n + 1 : Nat) : Int) - 1) = (n : Int) := (IntWalk.i64_left _).symm.trans hn1
  rw [← hn] at hnn hn1 hn2
  unfold tabA at hb0 b0 h1 hrow c1 q1 ⊢
  rw [hpl] at hb0 b0 h1 hrow c1 q1 ⊢
  obtain ⟨m, hm⟩ : ∃ m, r.pages.length = m := ⟨_, rfl⟩
  rw [hm] at c1 hrl
  have HM : Hid (r.pages.length = m) := hm
  have HH : Hid (OwnT B w V T R) := h
  have hnlt : n * 2 + 1 < V.nl * 2 := by omega
  have hnp : 0 < V.nl := by omega
  clear h hm hl hn
  go_enter Try.func44, Try.ntmps44
  go_upto_region 1 with fail
  generalize hW : w.alloc (.cells #[.int .i64 T.pages, .int .i64 T.logical, .int .i64 T.k, .slice V.pd V.nd V.cd, .slice V.ph V.nh V.ch, .int .i64 T.sp, .int .i64 T.sl, .int .i64 T.su, .slice (some ⟨g, 0, none⟩) V.nl V.cl] 28) = W0 at *
  clear hW
  have z8 := b0.cell' (i := 8) rfl
  go_upto_region 2 with fail
  have h2 := h1.next (below_alloc W0 (.cells #[.int .i64 x] 3))
  have hrow2 := owns_below hrow (below_alloc W0 (.cells #[.int .i64 x] 3))
  rw [LR.v, HM.out] at hrow2
  have hBW : B ≤ W0.heap.size := Nat.le_trans hB hb0.size
  have HH2 : Hid (OwnT B _ V T R) := h2
  have HRW : Hid (World.ownsRow _ B 3 1 (.slice r.p m r.c) m (valsI r.pages)) := hrow2
  have HPL : Hid (V.pl = some ⟨g, 0, none⟩) := hpl
  clear h2 hrow2 h1 hrow q1 z8 hpl hn1 hn2
  go_wp2_with (first | (at_builtin; refine wpList_append_own_at _ rfl (.tmp 16) (.tmp 18) 22 rfl B 3 i0 (.int .i64 0) 1 8 Try.underlying22 hi hz0 hz1 hz2 rfl (by decide) (.slice r.p m r.c) m (valsI r.pages) rfl HRW.out ⟨W0.heap.size, 0, none⟩ 1 1 [.int .i64 x] rfl rfl (new_one _ _) (by simp [Value.oneCell']) (by unfold maxLen; omega) (by omega) (by rw [World.size_alloc]; omega) ?_; intro v1 w4 hown4 hgrow4 _ hat4; obtain ⟨p4, c4, rfl⟩ := snoc_form hown4 (by omega); have hl4 := HH2.out.l.kept hgrow4 (own_apart (owns_ne (by decide) HH2.out.l HRW.out)); rw [HPL.out] at hl4) | (refine wpList_store_row rfl 22 (.tmp 21) (.tmp 19) rfl g (n * 2 + 1) (.slice p4 (m + 1) c4) rfl rfl hl4 hnlt (by kernel_rfl) rfl ?_; intro w5 hl5 ht5))
  go_end0
  have hd4 := HH2.out.d.kept hgrow4 (own_apart (fun a b ha hb e => HH2.out.ad n r b a hr hb ha e.symm))
  have hh4 := HH2.out.h.kept hgrow4 (own_apart (owns_ne (by decide) HH2.out.h HRW.out))
  rw [valsI_snoc] at hown4
  have hl6 : (r.pages ++ [x]).length = m + 1 := by rw [List.length_append, HM.out]; rfl
  have hg := (hl4.lt g rfl).1
  refine ⟨rfl, ⟨p4, c4, HH2.out.setAt (x := ⟨r.phys, p4, c4, r.pages ++ [x]⟩) (w2 := w4) hr rfl (by show (r.pages ++ [x]).length ≤ _; omega) hd4 hh4 (fun i s hi hs => (HH2.out.r i s hs).kept hgrow4 (own_apart (fun a b ha hb => HH2.out.ap i n s r a b hi hs hr ha hb))) ?_ (fun j s a b hj hs ha hb => ?_) (fun a b ha hb => ?_) HPL.out (by rw [HPL.out]; exact hl4) ht5 ?_⟩, ht5.below (((hb0.mono hB).alloc hBW _).grown hgrow4 (by rw [World.size_alloc]; omega) (fun j hj => (HRW.out.lt j hj).1)) hg, fun g' cs hbk => ?_⟩
  · show w4.ownsRow B 3 1 (.slice p4 (r.pages ++ [x]).length c4) (r.pages ++ [x]).length _
    rw [hl6]; exact hown4
  · exact at_apart hat4 (fun a' ha' => HH2.out.ap n j r s a' b (fun h' => hj h'.symm) hr hs ha' hb) ((HH2.out.r j s hs).lt b.block (by rw [LR.v, hb]; rfl)).2 a ha
  · exact at_apart hat4 (fun a' ha' => HH2.out.ad n r a' b hr ha' hb) (HH2.out.d.lt b.block (by rw [hb]; rfl)).2 a ha
  · rw [HPL.out]; show w5.ownsRow B 61 2 _ _ ((flatR R).set (n * 2 + 1) (.slice p4 (r.pages ++ [x]).length c4))
    rw [hl6]; exact hl5
  · have e2 := (hbk.kept hb0).alloc (.cells #[.int .i64 x] 3)
    have e3 : Blk w4 g' 28 cs := (hgrow4.block g' e2.lt (by
      intro e
      cases hrp : r.p with
      | none => rw [hrp] at e; cases e
      | some a =>
        rw [hrp] at e
        exact blk_ne e2 HRW.out (by decide) a hrp (Option.some.inj e))).trans e2
    exact e3.turned ht5 (blk_ne e3 hl4 (by decide) _ rfl)
end Go.Proofs.Ythibaefoioeghaa
