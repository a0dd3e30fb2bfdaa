/-
  What join answers: a page's bytes.
-/
import Derived.Test.YtfgelncfmopibaaXPgParts
namespace Go.Proofs.Ytfgelncfmopibaa.Pg
open Go.RowKit Go.Shelf
attribute [local go_sem] Oper.semAt_some
theorem wpListIn_load_mid {F : Fence} {n : Nat} {ops : Array Oper} {rest : List Oper} {op : Oper} {a : Act} {w : World} {Q : Exit → Act → World → Prop} (hgd : op.guard = none) (ty : TypeId) (x : Operand) (ho : op.op = .load ty x)
    (b o : Nat) (hx : a.eval x = .pointer (some ⟨b, o, none⟩)) (cs : List Value) (d : TypeDesc) (hc : w.rangeAt b o cs)
    (hu : Try.prog.underlying ty = some d) (hd : d.isRow = true) (hi : (Try.prog.info? ty).map (·.size) = some cs.length)
    (h : wpListIn F n Try.prog ops Q rest (a.put op.dst (.agg cs.toArray)) w) : wpListIn F n Try.prog ops Q (op :: rest) a w := by
  refine wpListIn_plain hgd fun K hK => ?_
  unfold Oper.wpIn
  refine ⟨?_, ?_⟩
  · simp [Oper.about, ho]
  · rw [Oper.semAt_plain F _ _ (by rw [ho]; intro c hc'; cases hc')]
    simp only [execOp, ho, hx, Instr.loadAt, Instr.sureAddr, Sem.run_bind, Sem.run_pure, Result.andThen_ok, run_loadVar_mid w b o ty cs d hc hu hd hi]
    exact hK _ _ h
/-- A store of a whole value into a block that is known whole, inside a fence. -/
theorem wpListIn_store_blk {F : Fence} {n : Nat} {ops : Array Oper} {rest : List Oper} {op : Oper} {a : Act} {w : World} {Q : Exit → Act → World → Prop} (hgd : op.guard = none) (ty : TypeId) (x y : Operand) (ho : op.op = .store ty x y)
    (g o : Nat) (xs : List Value) (hx : a.eval x = .pointer (some ⟨g, o, none⟩)) (hy : a.eval y = .agg xs.toArray) {t : TypeId} {cs : List Value} (h : Blk w g t cs) (hle : o + xs.length ≤ cs.length)
    (hi : (Try.prog.info? ty).map (·.size) = some xs.length) (h1 : ∀ v ∈ xs, v.oneCell' = true)
    (hK : ∀ w', Blk w' g t (cs.take o ++ xs ++ cs.drop (o + xs.length)) → Turned w w' g → wpListIn F n Try.prog ops Q rest (a.put op.dst undef) w') : wpListIn F n Try.prog ops Q (op :: rest) a w := by
  have hst := h.store o xs hle h1
  have hrun : (storeVar ty ⟨g, o, none⟩ (.agg xs.toArray)).run Try.prog w = .ok () (w.setRow g (cs.take o ++ xs ++ cs.drop (o + xs.length)).toArray) := by
    cases hq : Try.prog.info? ty with
    | none => simp [hq] at hi
    | some i =>
      have hs : xs.length = i.size := by simp [hq] at hi; omega
      simp only [storeVar, sizeOf, typeInfo, Sem.run_bind, Value.cells]
      simp [hs, hq, hst]
  refine wpListIn_plain hgd fun K hKK => ?_
  unfold Oper.wpIn
  refine ⟨?_, ?_⟩
  · simp [Oper.about, ho]
  · rw [Oper.semAt_plain F _ _ (by rw [ho]; intro c hc'; cases hc')]
    simp only [execOp, ho, hx, hy, Instr.storeAt, Instr.sureAddr, Sem.run_bind, Sem.run_pure, Result.andThen_ok, hrun]
    exact hKK _ _ (hK _ (h.setRow _) (Turned.setRow _ _ _))
theorem ownsRow_same {w w' : World} {B : Nat} {e : TypeId} {s : Nat} {v : Value} {n : Nat} {xs : List Value} (h : w.ownsRow B e s v n xs) (hb : ∀ k, v.ownBlock = some k → w'.heap[k]? = w.heap[k]?) : w'.ownsRow B e s v n xs := by
  refine ⟨h.1, ?_⟩
  rcases h.2 with h' | ⟨g, cap, cur, rfl, hg, hh, hr⟩
  · exact .inl h'
  · exact .inr ⟨g, cap, cur, rfl, hg, (hb g rfl).trans hh, hr⟩
theorem owns_slice {w : World} {B n : Nat} {e : TypeId} {z : Nat} {v : Value} {xs : List Value} (h : w.ownsRow B e z v n xs) : ∃ p c, v = .slice p n c := by
  rcases h.2 with ⟨rfl, rfl⟩ | ⟨g, cap, cur, rfl, _⟩
  · exact ⟨none, 0, rfl⟩
  · exact ⟨_, cap, rfl⟩
theorem bytesTake {w : World} {g : Nat} {t : TypeId} {xs : List Nat} {n : Nat} (h : Blk w g t (vals xs)) : ∀ j u, (vals (xs.take n))[j]? = some u → w.cell? ((⟨g, 0, none⟩ : Addr).add j) = some u := by
  intro j u hu
  rw [addr_add, Nat.zero_add]
  refine h.cell' ?_
  rw [vals_take] at hu
  have hj : j < n := by
    rcases Nat.lt_or_ge j n with h' | h'
    · exact h'
    · rw [List.getElem?_eq_none (by rw [List.length_take]; omega)] at hu; simp at hu
  rwa [List.getElem?_take_of_lt hj] at hu
theorem bytesDrop {w : World} {g : Nat} {t : TypeId} {xs : List Nat} {n : Nat} (h : Blk w g t (vals xs)) : ∀ j u, (vals (xs.drop n))[j]? = some u → w.cell? ((⟨g, n, none⟩ : Addr).add j) = some u := by
  intro j u hu
  rw [addr_add]
  refine h.cell' ?_
  rwa [vals_drop, List.getElem?_drop] at hu
theorem blk_own {β : Type} (B : Nat) (t : TypeId) (f : β → List Value) : Own (fun s W => Blk W B t (f s)) := fun s X Y row hs hg hrow =>
  Blk.grown hs hg (fun e' => by obtain ⟨o, ho, hc⟩ := hrow B e'.symm; rw [show X.heap[B]? = _ from hs] at ho; cases ho; cases hc)
theorem Blk.not_row {W : World} {B : Nat} {t e : TypeId} {cs : List Value} (h : Blk W B t cs) (hte : t ≠ e) {base size k : Nat} {v : Value} {xs : List Value} (hr : W.ownsRow base e size v k xs) : some B ≠ v.ownBlock := by
  rcases hr.2 with ⟨rfl, _⟩ | ⟨g, cap, cur, rfl, _, hg, _⟩
  · simp [Value.ownBlock]
  · intro e'
    simp only [Value.ownBlock, Option.some.injEq] at e'
    subst e'
    rw [Blk] at h
    rw [h] at hg
    simp at hg
    exact hte hg.2
/-- The bytes of a part. -/
def partQ (P : List Nat) : Bool → List Nat
  | false => P.take 256
  | true => P.drop 256
/-- The bytes of parts, one behind the other. -/
def flatQ (P : List Nat) (pre : List Bool) : List Nat := (pre.map (partQ P)).flatten
theorem flatQ_snoc (P : List Nat) (pre : List Bool) (b : Bool) : flatQ P (pre ++ [b]) = flatQ P pre ++ partQ P b := by simp [flatQ]
theorem flatQ_all (P : List Nat) : flatQ P [false, true] = P := by simp [flatQ, partQ]
theorem flatQ_le {P : List Nat} (h : P.length = 288) (pre : List Bool) : (flatQ P pre).length ≤ pre.length * 288 := by
  induction pre with
  | nil => simp [flatQ]
  | cons b r ih =>
    have : (partQ P b).length ≤ 288 := by cases b <;> simp [partQ, h]
    simp [flatQ] at ih ⊢
    omega
/-- Bytes appended to a slice whose variable lies in a box: what stands in memory behind it. -/
theorem app_step {W w1 : World} {N Ba Bs G : Nat} {va v1 u : Value} {k L : Nat} {ys zs x : List Nat} (hN : N ≤ Ba) (hva : Boxed W Ba 75 va) (hrow : W.ownsRow N 5 1 va k (vals ys)) (hX : Blk W G 74 (vals x)) (hG : G ≠ Ba) (hs : Boxed W Bs 141 u) (hBs : Bs ≠ Ba) (hg : W.grownBy w1 va.ownBlock)
    (hown : w1.ownsRow N 5 1 v1 L (vals (ys ++ zs))) : Boxed (w1.setCell ⟨Ba, 0, none⟩ v1) Ba 75 v1 ∧ (w1.setCell ⟨Ba, 0, none⟩ v1).ownsRow N 5 1 v1 L (vals (ys ++ zs)) ∧ Blk (w1.setCell ⟨Ba, 0, none⟩ v1) G 74 (vals x) ∧
      Boxed (w1.setCell ⟨Ba, 0, none⟩ v1) Bs 141 u ∧ Below N W (w1.setCell ⟨Ba, 0, none⟩ v1) ∧ KeepsOthers W (w1.setCell ⟨Ba, 0, none⟩ v1) := by
  have hva1 : Boxed w1 Ba 75 va := hva.kept hg (hva.not_row (by decide) hrow)
  have hX1 : Blk w1 G 74 (vals x) := Blk.grown hX hg (hX.not_row (by decide) hrow)
  have hs1 : Boxed w1 Bs 141 u := hs.kept hg (hs.not_row (by decide) hrow)
  have hne := hva1.not_row (by decide) hown
  refine ⟨hva1.set _, ownsRow_same hown (fun k hk => heap_setCell_other _ _ _ _ (fun e => hne (by rw [hk, e]))), hX1.setOther _ _ hG, hs1.other hBs _, ?_, ?_⟩
  · exact ((Below.refl N W).grown hg (Nat.le_trans hN (Nat.le_of_lt hva.lt)) (fun k hk => (hrow.lt k hk).1)).setCell hN _
  · refine (KeepsOthers.of_grownBy hg (fun j o hj ho => ?_)).trans (KeepsOthers.setCell _ _ _)
    rcases hrow.2 with ⟨rfl, _⟩ | ⟨g, cap, cur, rfl, _, hh, _⟩
    · simp [Value.ownBlock] at hj
    · simp only [Value.ownBlock, Option.some.injEq] at hj
      subst hj
      rw [hh] at ho
      cases ho
      rfl
set_option maxRecDepth 100000 in
set_option maxHeartbeats 4000000 in
theorem join_in (n : Nat) (hn : 4 ≤ n) (P : List Nat) (hP : IsP P) (w : World) :
    CallsIn Fence.wide n Try.prog 57 #[.agg (vals P).toArray] w fun e w' => ∃ p c, e = .returned (.slice p 288 c) ∧ In w' p 288 c P ∧ Below w.heap.size w w' := by
  obtain ⟨i0, hi, hz0, hz1, hz2⟩ := info_parts info5
  have h1 : 1 ≤ n := by omega
  refine callsIn_of_wp_marks Try.func57 rfl trivial ?_ rfl
  simp only [Try.ntmps57, List.size_toArray, List.length_cons, List.length_nil, Nat.reduceAdd, Nat.reduceSub, Array.replicate_succ, Array.replicate_zero, List.push_toArray, List.append_toArray, List.nil_append, List.cons_append]
  gi_wp2_with (first
    | (gi_at_make; refine wpListIn_make_own _ rfl _ _ 75 rfl w.heap.size 5 i0 (.int .u8 0) 1 Try.underlying75 hi hz0 hz1 .i64 .i64 _ 288 rfl rfl (by rfl) (by rw [hz2]; omega) (by unfold maxLen; omega) (by simp) ?_; intro w1 hown1 hgrow1)
    | (refine ⟨trivial, ?_⟩; gi_at_call 86; refine (callsIn_wide.2 (parts_any _ _)).mono ?_; rintro e w2 ⟨rfl, hw2⟩))
  clear hw2
  have hG1 : Blk w1 w.heap.size 74 (vals P) := (Blk.new w 74 (vals P)).grown hgrow1 (by simp)
  have hbel1 : Below w.heap.size w w1 := (below_alloc w _).grown hgrow1 (by simp) (fun k hk => by cases hk)
  rw [World.size_alloc] at hown1
  have hva2 := (Boxed.new w1 75 (.slice (some ⟨w.heap.size + 1, 0, none⟩) 0 288)).alloc (.cells #[.pointer (some ⟨w.heap.size, 0, none⟩)] 141)
  have hbs2 := Boxed.new (w1.alloc (.cells #[.slice (some ⟨w.heap.size + 1, 0, none⟩) 0 288] 75)) 141 (.pointer (some ⟨w.heap.size, 0, none⟩))
  rw [World.size_alloc] at hbs2
  have hG2 := (hG1.alloc (.cells #[.slice (some ⟨w.heap.size + 1, 0, none⟩) 0 288] 75)).alloc (.cells #[.pointer (some ⟨w.heap.size, 0, none⟩)] 141)
  have hown2 := (hown1.alloc (.cells #[.slice (some ⟨w.heap.size + 1, 0, none⟩) 0 288] 75)).alloc (.cells #[.pointer (some ⟨w.heap.size, 0, none⟩)] 141)
  have hlt1 : w.heap.size < w1.heap.size := hG1.lt
  have hbel2 : Below w.heap.size w ((w1.alloc (.cells #[.slice (some ⟨w.heap.size + 1, 0, none⟩) 0 288] 75)).alloc (.cells #[.pointer (some ⟨w.heap.size, 0, none⟩)] 141)) := (hbel1.alloc (by omega) _).alloc (by simp; omega) _
  have hsz2 : ((w1.alloc (.cells #[.slice (some ⟨w.heap.size + 1, 0, none⟩) 0 288] 75)).alloc (.cells #[.pointer (some ⟨w.heap.size, 0, none⟩)] 141)).heap.size = w1.heap.size + 2 := by simp
  generalize ((w1.alloc (.cells #[.slice (some ⟨w.heap.size + 1, 0, none⟩) 0 288] 75)).alloc (.cells #[.pointer (some ⟨w.heap.size, 0, none⟩)] 141)) = W0 at *
  clear hown1 hgrow1 hG1 hbel1
  generalize w1.heap.size = Ba at *
  refine wpIn_rangeFunc_ownF rfl h1 (gf := 111) (lb := #[.pointer (some ⟨Ba + 1, 0, none⟩)]) rfl trivial (enters_of Try.func111 (by kernel_rfl) rfl)
    (parts1_stops Fence.wide (n - 1) trivial rfl (by omega) (Ba + 1) w.heap.size W0 hbs2) (fun h k => k.trans h) (fun W l o o' hl _ _ _ => World.putObj_heap_other (by omega)) (Below.refl _ _) (fun _ => rfl)
    (fun pre W => (∃ v, Boxed W Ba 75 v ∧ W.ownsRow w.heap.size 5 1 v (flatQ P pre).length (vals (flatQ P pre)) ∧ True) ∧ Blk W w.heap.size 74 (vals P) ∧ Boxed W (Ba + 1) 141 (.pointer (some ⟨w.heap.size, 0, none⟩)) ∧ Below w.heap.size w W)
    (fun _ _ _ => False)
    (OwnFrom.and (Own.from (holdsRow_own w.heap.size Ba 75 5 1 (fun pre : List Bool => (flatQ P pre).length) (fun pre => vals (flatQ P pre)) (fun _ _ => True)) _) (OwnFrom.and (Own.from (blk_own w.heap.size 74 (fun _ : List Bool => vals P)) _) (OwnFrom.and (Own.from (boxed_own (Ba + 1) 141 (fun _ : List Bool => Value.pointer (some ⟨w.heap.size, 0, none⟩))) _) (ownFrom_below (Nat.le_refl _) (by omega)))))
    (fun _ _ _ _ _ hs _ _ => hs)
    ⟨⟨_, hva2, hown2, trivial⟩, hG2, hbs2, hbel2⟩
    (fun x => { tmps := #[.agg (vals P).toArray, .pointer (some ⟨w.heap.size, 0, none⟩), .slice none 0 0, .pointer (some ⟨Ba, 0, none⟩), encV w.heap.size x, .slice (some ⟨w.heap.size + 1, 0, none⟩) 0 288, .func (.func 111) #[] #[.pointer (some ⟨Ba + 1, 0, none⟩)], encV w.heap.size x, undef, undef, undef, undef], defers := [] })
    ?assign ?body ?done ?stop
  case assign =>
    intro l x W K hK
    dsimp only [encQ]
    gi_wp2
    exact hK
  case body =>
    rintro l pre x W ⟨⟨va, hva, hrow, _⟩, hX, hS, hB⟩ hlen
    have hc0 := hva.cell
    have hf0 := hva.frozen
    have hle := flatQ_le hP.1 pre
    obtain ⟨k, hk⟩ : ∃ k, (flatQ P pre).length = k := ⟨_, rfl⟩
    rw [hk] at hrow hle
    have Hk : Hid ((flatQ P pre).length = k) := hk
    clear hk
    cases x with
    | false =>
      dsimp only [encV]
      gi_wp2_with (gi_at_builtin; refine wpListIn_append_own _ rfl (.tmp 8) (.tmp 9) 75 rfl w.heap.size 5 i0 (.int .u8 0) 1 1 Try.underlying75 hi hz0 hz1 hz2 rfl (by decide) va k (vals (flatQ P pre)) rfl hrow ⟨w.heap.size, 0, none⟩ 256 256 (vals (P.take 256)) rfl (by rw [vals_length, List.length_take, hP.1]; rfl) (bytesTake hX) (vals_one _) (by unfold maxLen; omega) (by omega) hB.size ?_; intro v1 w2 hown3 hgrow3 _; rw [← vals_append] at hown3; obtain ⟨p1, c1, rfl⟩ := owns_slice hown3; obtain ⟨s1, s2, s3, s4, s5, s6⟩ := app_step (by omega) hva hrow hX (by omega) hS (by omega) hgrow3 hown3; have hva3 : Boxed w2 Ba 75 va := hva.kept hgrow3 (hva.not_row (by decide) hrow); have hc1 := hva3.cell; have hf1 := hva3.frozen)
      refine ⟨s6, s4.trans hS.symm, ⟨_, s1, ?_, trivial⟩, s3, s4, hB.trans s5⟩
      rw [flatQ_snoc, List.length_append, Hk.out, show (partQ P false).length = 256 from by simp [partQ, hP.1]]
      exact s2
    | true =>
      dsimp only [encV]
      gi_wp2_with (gi_at_builtin; refine wpListIn_append_own _ rfl (.tmp 8) (.tmp 9) 75 rfl w.heap.size 5 i0 (.int .u8 0) 1 1 Try.underlying75 hi hz0 hz1 hz2 rfl (by decide) va k (vals (flatQ P pre)) rfl hrow ⟨w.heap.size, 256, none⟩ 32 32 (vals (P.drop 256)) rfl (by rw [vals_length, List.length_drop, hP.1]) (bytesDrop hX) (vals_one _) (by unfold maxLen; omega) (by omega) hB.size ?_; intro v1 w2 hown3 hgrow3 _; rw [← vals_append] at hown3; obtain ⟨p1, c1, rfl⟩ := owns_slice hown3; obtain ⟨s1, s2, s3, s4, s5, s6⟩ := app_step (by omega) hva hrow hX (by omega) hS (by omega) hgrow3 hown3; have hva3 : Boxed w2 Ba 75 va := hva.kept hgrow3 (hva.not_row (by decide) hrow); have hc1 := hva3.cell; have hf1 := hva3.frozen)
      refine ⟨s6, s4.trans hS.symm, ⟨_, s1, ?_, trivial⟩, s3, s4, hB.trans s5⟩
      rw [flatQ_snoc, List.length_append, Hk.out, show (partQ P true).length = 32 from by simp [partQ, hP.1]]
      exact s2
  case done =>
    rintro D ys W hD rfl ⟨⟨va, hva, hrow, _⟩, hX, hS, hB⟩ hK
    rw [flatQ_all, hP.1] at hrow
    obtain ⟨p0, c0, rfl, hin0⟩ := in_of_owns hrow hP.2 (by omega)
    have hc0 := hva.cell
    gi_wp2
    refine ⟨by simp, .inl ⟨_, _, rfl, run_takeDeferred hK, ?_⟩⟩
    have hbD : Below w.heap.size W (W.putObj D (.deferred none)) := belowK_b (w := w) (Nat.le_refl _) W D _ _ (by omega) hK rfl rfl
    refine ⟨_, results_tmp rfl _ _ _, p0, c0, rfl, ?_, hB.trans hbD⟩
    have hrow' := ownsRow_putObj hrow (.deferred none) hK rfl
    obtain ⟨p9, c9, h9, hin9⟩ := in_of_owns hrow' hP.2 (by omega)
    cases h9
    exact hin9
  case stop =>
    rintro D c pre W _ _ h _
    exact h.elim
theorem join_any (P : List Nat) (hP : IsP P) (w : World) :
    Calls Try.prog 57 #[.agg (vals P).toArray] w fun e w' => ∃ p c, e = .returned (.slice p 288 c) ∧ In w' p 288 c P ∧ Below w.heap.size w w' :=
  (callsIn_wide (n := 4)).1 (join_in 4 (Nat.le_refl _) P hP w)
end Go.Proofs.Ytfgelncfmopibaa.Pg
