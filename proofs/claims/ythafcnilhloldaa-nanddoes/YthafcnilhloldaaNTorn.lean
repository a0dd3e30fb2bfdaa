/-
  What torn answers: pages with a mask over their bytes.
-/
import Derived.Test.YthafcnilhloldaaNIter
import Derived.RegionIn
namespace Go.Proofs.Ythafcnilhloldaa
open Go.RowKit Go.Shelf
attribute [local go_sem] Oper.semAt_some
/-- The bytes of pages, one behind the other. -/
def flatOf (pre : List (Nat × PageT)) : List Nat := (pre.map (·.2.1)).flatten
theorem flatOf_snoc (pre : List (Nat × PageT)) (x : Nat × PageT) : flatOf (pre ++ [x]) = flatOf pre ++ x.2.1 := by simp [flatOf]
theorem flatOf_byte (pre : List (Nat × PageT)) : ∀ y ∈ flatOf pre, y < 256 := by
  intro y hy
  simp only [flatOf, List.mem_flatten, List.mem_map] at hy
  obtain ⟨l, ⟨x, _, rfl⟩, hy⟩ := hy
  exact x.2.2.2 y hy
theorem flatOf_length (pre : List (Nat × PageT)) : (flatOf pre).length = pre.length * 288 := by
  have := flat_length (ps := pre.map (·.2.1)) (fun p hp => by obtain ⟨x, _, rfl⟩ := List.mem_map.1 hp; exact x.2.2)
  rw [List.length_map] at this
  exact this
theorem bytesTake {w : World} {g : Nat} {t : TypeId} {xs : List Nat} {n : Nat} (h : Blk w g t (vals xs)) : ∀ j u, (vals (xs.take n))[j]? = some u → w.cell? ((⟨g, 0, none⟩ : Addr).add j) = some u := by
  intro j u hu
  rw [addr_add, Nat.zero_add]
  refine h.cell' ?_
  rw [vals_take] at hu
  have hj : j < n := by
    rcases Nat.lt_or_ge j n with h' | h'
    · exact h'
    · rw [List.getElem?_eq_none (by rw [List.length_take]; omega)] at hu; simp at hu
  rwa [List.getElem?_take_of_lt hj] at hu
theorem bytesDrop {w : World} {g : Nat} {t : TypeId} {xs : List Nat} {n : Nat} (h : Blk w g t (vals xs)) : ∀ j u, (vals (xs.drop n))[j]? = some u → w.cell? ((⟨g, n, none⟩ : Addr).add j) = some u := by
  intro j u hu
  rw [addr_add]
  refine h.cell' ?_
  rwa [vals_drop, List.getElem?_drop] at hu
theorem flatOf_upto (ps : List PageT) : flatOf (upto ps ps.length) = (ps.map (·.1)).flatten := by
  unfold flatOf upto
  rw [List.take_length]
  congr 1
  apply List.ext_getElem?
  intro i
  simp
/-- An append of bytes inside a fence: the operation. -/
theorem wpIn_appendBytes {F : Fence} {n : Nat} {o : Oper} {a : Act} {w : World} {K : Act → World → Prop} {Q : Exit → Act → World → Prop} (s x : Operand) (ho : o.op = .call { callee := .builtin .append, args := #[s, x], argTypes := #[70, 70] }) (base : Nat) (v : Value) (k : Nat) (ys : List Nat) (hs : a.eval s = v) (hp : w.ownsRow base 5 1 v k (vals ys))
    (ad : Addr) (m c : Nat) (zs : List Nat) (hx : a.eval x = .slice (some ad) m c) (hz : zs.length = m) (hnews : ∀ j u, (vals zs)[j]? = some u → w.cell? (ad.add j) = some u) (hlen : k + m < 1000000) (hb : base ≤ w.heap.size)
    (h : ∀ p1 c1 L w', Hid (L = k + m) → w'.ownsRow base 5 1 (.slice p1 L c1) L (vals (ys ++ zs)) → w.grownBy w' v.ownBlock → K (a.put o.dst (.slice p1 L c1)) w') : o.wpIn F n Try.prog a w K Q := by
  obtain ⟨i0, hi, hz0, hz1, hz2⟩ := info_parts info5
  obtain ⟨v', w', hr, h2, h3, _, _⟩ := run_append_own_at (P := Try.prog) w base 70 o.type 5 i0 _ 1 1 Try.underlying70 hi hz0 hz1 hz2 rfl (by decide) v k (vals ys) hp ad m c (vals zs) (by rw [vals_length, hz, Nat.mul_one]) hnews (vals_one _) (by unfold maxLen; omega) (by omega) hb
  rw [← vals_append] at h2
  obtain ⟨p1, c1, rfl⟩ := owns_slice h2
  unfold Oper.wpIn
  refine ⟨?_, ?_⟩
  · simp [Oper.about, ho, resolve, Target.leads, Sem.run_pure]
  · rw [Oper.semAt_plain F _ _ (by rw [ho]; intro c hc'; cases hc')]
    simp only [execOp, ho, resolve, invoke, builtin, Sem.run_bind, Sem.run_pure, Result.andThen_ok, List.map_toArray, List.map_cons, List.map_nil, hs, hx, hr]
    exact h p1 c1 _ w' rfl h2 h3
theorem blk_own {β : Type} (B : Nat) (t : TypeId) (f : β → List Value) : Own (fun s W => Blk W B t (f s)) := fun s X Y row hs hg hrow =>
  Blk.grown hs hg (fun e' => by obtain ⟨o, ho, hc⟩ := hrow B e'.symm; rw [show X.heap[B]? = _ from hs] at ho; cases ho; cases hc)
theorem Blk.not_row {W : World} {B : Nat} {t e : TypeId} {cs : List Value} (h : Blk W B t cs) (hte : t ≠ e) {base size k : Nat} {v : Value} {xs : List Value} (hr : W.ownsRow base e size v k xs) : some B ≠ v.ownBlock := by
  rcases hr.2 with ⟨rfl, _⟩ | ⟨g, cap, cur, rfl, _, hg, _⟩
  · simp [Value.ownBlock]
  · intro e'
    simp only [Value.ownBlock, Option.some.injEq] at e'
    subst e'
    rw [Blk] at h
    rw [h] at hg
    simp at hg
    exact hte hg.2
/-- Bytes appended to a slice whose variable lies in a box: what stands in memory behind it. -/
theorem app_step {W w1 : World} {N Bx : Nat} {va v1 : Value} {k L : Nat} {ys zs x : List Nat} (hva : Boxed W N 70 va) (hrow : W.ownsRow N 5 1 va k (vals ys)) (hX : Blk W Bx 46 (vals x)) (hNB : Bx ≠ N) (hg : W.drew.grownBy w1 va.ownBlock)
    (hown : w1.ownsRow N 5 1 v1 L (vals (ys ++ zs))) : Boxed (w1.setCell ⟨N, 0, none⟩ v1) N 70 v1 ∧ (w1.setCell ⟨N, 0, none⟩ v1).ownsRow N 5 1 v1 L (vals (ys ++ zs)) ∧ Blk (w1.setCell ⟨N, 0, none⟩ v1) Bx 46 (vals x) ∧
      Below N W (w1.setCell ⟨N, 0, none⟩ v1) ∧ KeepsOthers W (w1.setCell ⟨N, 0, none⟩ v1) := by
  have hva1 : Boxed w1 N 70 va := hva.kept (W := W.drew) hg (hva.not_row (by decide) hrow)
  have hX1 : Blk w1 Bx 46 (vals x) := Blk.grown hX.drew hg (hX.not_row (by decide) hrow)
  have hne := hva1.not_row (by decide) hown
  refine ⟨hva1.set _, ownsRow_same hown (fun k hk => heap_setCell_other _ _ _ _ (fun e => hne (by rw [hk, e]))), hX1.setOther _ _ hNB, ?_, ?_⟩
  · exact (((Below.refl N W).drew).grown hg (Nat.le_of_lt hva.lt) (fun k hk => (hrow.lt k hk).1)).setCell (Nat.le_refl _) _
  · refine (KeepsOthers.drew W).trans ((KeepsOthers.of_grownBy hg (fun j o hj ho => ?_)).trans (KeepsOthers.setCell _ _ _))
    rcases hrow.2 with ⟨rfl, _⟩ | ⟨g, cap, cur, rfl, _, hh, _⟩
    · simp [Value.ownBlock] at hj
    · simp only [Value.ownBlock, Option.some.injEq] at hj
      subst hj
      rw [show W.drew.heap[g]? = W.heap[g]? from rfl, hh] at ho
      cases ho
      rfl
theorem made_zero (n : Nat) : (madeCells (Value.agg (vals (fillP 0)).toArray).cells (n * 288)).toList = vals (List.replicate (n * 288) 0) := by
  apply List.ext_getElem?
  intro i
  by_cases hi : i < n * 288
  · have h288 : i % 288 < (fillP 0).length := by rw [fillP_length]; exact Nat.mod_lt _ (by omega)
    have hget := vals_get (fillP 0) (i % 288) h288
    have hz : el (fillP 0) (i % 288) = 0 := by
      simp only [el, List.getD_eq_getElem?_getD, fillP]
      rw [List.getElem?_replicate]
      split <;> rfl
    rw [hz] at hget
    have e : (Value.agg (vals (fillP 0)).toArray).cells[i % (Value.agg (vals (fillP 0)).toArray).cells.size]! = Value.int .u8 0 := by
      simp only [Value.cells, List.size_toArray, vals_length, fillP_length]
      simp [hget]
    rw [madeCells, Array.toList_map, Array.toList_range, List.getElem?_map, List.getElem?_range hi]
    simp only [Option.map_some, e]
    simp [vals, hi]
  · rw [List.getElem?_eq_none (by simp [madeCells]; omega), List.getElem?_eq_none (by simp [vals]; omega)]
/-- 'make([]api.Page, n)' inside a fence. -/
theorem wpListIn_makePages {F : Fence} {n : Nat} (w : World) {ops : Array Oper} {rest : List Oper} {o : Oper} {a : Act} {Q : Exit → Act → World → Prop} (hg : o.guard = none) (l c : Operand) (hop : o.op = Op.makeSlice 58 l c)
    (L C : Int) (m : Nat) (hl : a.eval l = .int .i64 L) (hc : a.eval c = .int .i64 C) (hL : L = (m : Int)) (hC : C = (m : Int)) (b : m ≤ 1000000)
    (hK : ∀ w', Blk w' w.heap.size 46 (vals (List.replicate (m * 288) 0)) → Below w.heap.size w w' → wpListIn F n Try.prog ops Q rest (a.put o.dst (.slice (some ⟨w.heap.size, 0, none⟩) m m)) w') :
    wpListIn F n Try.prog ops Q (o :: rest) a w := by
  obtain ⟨i0, hi, hz0, hz1, hz2⟩ := info_parts infoPage
  refine wpListIn_plain hg fun K hK' => ?_
  obtain ⟨w', hrun, r1, r2⟩ := run_make_full (P := Try.prog) w 0 58 46 i0 _ 288 Try.underlying58 hi hz0 hz1 .i64 .i64 m (by rw [hz2]; omega) (by unfold maxLen; omega) (Nat.zero_le _)
  rw [made_zero] at r1
  subst hL
  subst hC
  have hblk : Blk w' w.heap.size 46 (vals (List.replicate (m * 288) 0)) := by
    rcases r1.2 with ⟨h', _⟩ | ⟨g, cap, cur, h', _, hh, _, _, hs, ht⟩
    · simp at h'
    · simp only [Value.slice.injEq, Option.some.injEq, Addr.mk.injEq, and_true, true_and] at h'
      obtain ⟨rfl, rfl⟩ := h'
      rw [List.take_of_length_le (by simp [hs])] at ht
      rw [Blk, hh, ← ht]
  unfold Oper.wpIn
  refine ⟨?_, ?_⟩
  · simp [Oper.about, hop]
  · rw [Oper.semAt_plain F _ _ (by rw [hop]; intro c hc'; cases hc')]
    simp [execOp, hop, hl, hc, hrun, Result.andThen]
    exact hK' _ _ (hK w' hblk (below_grown0 r2))
/-- Bytes copied into a block that is known whole. -/
theorem copy_blk {w : World} {g : Nat} {t : TypeId} {cur zs : List Nat} {o L b so sLen sCap : Nat} (h : Blk w g t (vals cur)) (hz : zs.length = L) (hsrc : ∀ j u, (vals zs)[j]? = some u → w.cell? ((⟨b, so, none⟩ : Addr).add j) = some u) (hs : L ≤ sLen) (hfit : o + L ≤ cur.length) :
    ∃ w', (Builtin.copy_ #[70, 70] 3 #[.slice (some ⟨g, o, none⟩) L L, .slice (some ⟨b, so, none⟩) sLen sCap]).run Try.prog w = .ok (.int .i64 (L : Int)) w' ∧ Blk w' g t (vals (cur.take o ++ zs ++ cur.drop (o + L))) ∧ Turned w w' g := by
  have hr := run_copy_row (P := Try.prog) w 70 70 3 5 g o L L ⟨b, so, none⟩ sLen sCap (vals cur).toArray t (vals zs) Try.underlying70 size5 h (by rw [vals_length, hz]; exact (Nat.min_eq_right hs).symm) hsrc (by rw [vals_length, hz, List.size_toArray, vals_length]; exact hfit) (vals_one _)
  rw [vals_length, hz] at hr
  refine ⟨_, hr, ?_, Turned.setRow _ _ _⟩
  have e : vals (cur.take o ++ zs ++ cur.drop (o + L)) = (vals cur).take o ++ vals zs ++ (vals cur).drop (o + L) := by rw [vals_append, vals_append, vals_take, vals_drop]
  rw [e]
  exact h.setRow _
/-- The first j of the bytes, then zeros. -/
def curK (M : List Nat) (T j : Nat) : List Nat := M.take j ++ List.replicate (T - j) 0
theorem curK_step (M : List Nat) (T j L : Nat) (hM : M.length = T) (h : j + L ≤ T) : (curK M T j).take j ++ (M.drop j).take L ++ (curK M T j).drop (j + L) = curK M T (j + L) := by
  have hj : (M.take j).length = j := by rw [List.length_take]; omega
  have e1 : (curK M T j).take j = M.take j := by unfold curK; rw [List.take_append_of_le_length (by omega), List.take_of_length_le (by omega)]
  have e2 : (curK M T j).drop (j + L) = List.replicate (T - (j + L)) 0 := by
    unfold curK
    rw [List.drop_append, List.drop_of_length_le (by omega), List.nil_append, hj, show j + L - j = L from by omega, List.drop_replicate, show T - j - L = T - (j + L) from by omega]
  rw [e1, e2, ← List.take_add]
  rfl
theorem curK_length (M : List Nat) (T j : Nat) (hM : M.length = T) (h : j ≤ T) : (curK M T j).length = T := by
  unfold curK; rw [List.length_append, List.length_take, List.length_replicate]; omega
theorem curK_zero (M : List Nat) (T : Nat) : curK M T 0 = List.replicate T 0 := by simp [curK]
theorem curK_all (M : List Nat) (T : Nat) (hM : M.length = T) : curK M T T = M := by unfold curK; rw [Nat.sub_self, List.replicate_zero, List.append_nil, List.take_of_length_le (by omega)]
theorem in_not_box {w : World} {p : Option Addr} {n c : Nat} {xs : List Nat} {N : Nat} {t : TypeId} {q : Option Addr} {m d : Nat} (h : In w p n c xs) (hb : Boxed w N t (.slice q m d)) (h0 : 0 < n) {o : Nat} {sp : Option Nat} (hp : p = some ⟨N, o, sp⟩) : False := by
  obtain ⟨b, o', hp', _, hc⟩ := h.at' h0
  rw [hp] at hp'
  cases hp'
  have h1 := hc 0 h0
  simp only [World.cell?, Nat.add_zero] at h1
  rw [show w.heap[N]? = _ from hb] at h1
  cases o with
  | zero => simp at h1
  | succ o => simp at h1
theorem slice_at (b o T c k : Nat) (hk : k * 288 < T) (hc : T ≤ c) (W : World) : (Instr.slice 70 (.slice (some ⟨b, o, none⟩) T c) (some (.int .i64 ((k : Int) * 288))) none none).run Try.prog W = .ok (.slice (some ⟨b, o + k * 288, none⟩) (T - k * 288) (c - k * 288)) W := by
  have h1 : ¬ c = k * 288 := by omega
  have h2 : ((k : Int) * 288).toNat = k * 288 := by omega
  have h3 : 0 ≤ (k : Int) * 288 ∧ (k : Int) * 288 ≤ (T : Int) := by omega
  simp [Instr.slice, Instr.sliceBounds, Instr.sliceBound, run_underlying Try.underlying70, asIntOf, h1, h2, h3, addr_add]
theorem slice_256 (b o T c : Nat) (hk : 256 < T) (hc : T ≤ c) (W : World) : (Instr.slice 70 (.slice (some ⟨b, o, none⟩) T c) (some (.int .i64 256)) none none).run Try.prog W = .ok (.slice (some ⟨b, o + 256, none⟩) (T - 256) (c - 256)) W := by
  have h1 : ¬ c = 256 := by omega
  have h3 : (256 : Int) ≤ (T : Int) := by omega
  simp [Instr.slice, Instr.sliceBounds, Instr.sliceBound, run_underlying Try.underlying70, asIntOf, h1, h3, addr_add]
set_option linter.unusedSimpArgs false in
set_option maxRecDepth 100000 in
set_option maxHeartbeats 4000000 in
theorem torn_in (n : Nat) (hn : 4 ≤ n) (Bs : Nat) (v : Value) (ps : List PageT) (q : Option Addr) (m d : Nat) (ms : List Nat) (w : World) (hBs : w.cell? ⟨Bs, 0, none⟩ = some v) (hp : PagesIn w v (ps.map (·.1))) (hm : In w q m d ms) (hl : ps.length ≤ 32) :
    CallsIn Fence.wide n Try.prog 40 #[.func (.func 56) #[] #[.pointer (some ⟨Bs, 0, none⟩)], .slice q m d] w fun e w' => ∃ g, e = .returned (.slice (some ⟨g, 0, none⟩) ps.length ps.length) ∧ w.heap.size ≤ g ∧ Blk w' g 46 (vals (maskL (ps.map (·.1)).flatten ms)) ∧ Below w.heap.size w w' := by
  have hz := zeroPage
  have h1 : 1 ≤ n := by omega
  have hlt : Bs < w.heap.size := block_lt_of_cell hBs
  refine callsIn_of_wp_marks Try.func40 rfl trivial ?_ rfl
  simp only [Try.ntmps40, List.size_toArray, List.length_cons, List.length_nil, Nat.reduceAdd, Nat.reduceSub, Array.replicate_succ, Array.replicate_zero, List.push_toArray, List.append_toArray, List.nil_append, List.cons_append]
  gi_wp2
  have hbel := below_alloc w (.cells #[.slice none 0 0] 70)
  have hbox := Boxed.new w 70 (.slice none 0 0)
  have hsz : (w.alloc (.cells #[.slice none 0 0] 70)).heap.size = w.heap.size + 1 := by simp
  have hlow : PagesLow w.heap.size (w.alloc (.cells #[.slice none 0 0] 70)) v ps := ⟨hp.below hbel, fun k hk => hp.lt hk⟩
  have hBs' := (hbel.cell (p := ⟨Bs, 0, none⟩) hlt).trans hBs
  obtain ⟨W0, hW0⟩ : ∃ W0, w.alloc (.cells #[.slice none 0 0] 70) = W0 := ⟨_, rfl⟩
  rw [hW0] at hbel hbox hsz hlow hBs' ⊢
  clear hW0
  have owns0 : W0.ownsRow w.heap.size 5 1 (.slice none 0 0) (([] : List (Nat × PageT)).length * 288) (vals (flatOf [])) := by rw [List.length_nil, Nat.zero_mul]; exact World.ownsRow_nil _ _ _ _
  refine wpIn_rangeFunc_ownH rfl h1 (gf := 56) (lb := #[.pointer (some ⟨Bs, 0, none⟩)]) rfl trivial (enters_of Try.func56 (by kernel_rfl) rfl)
    (all_stops Fence.wide (n - 1) trivial rfl (by omega) Bs w.heap.size v ps W0 (by omega) (by omega) hBs' hlow (by omega)) belowK_t (belowK_b (by omega)) (Below.refl _ _) (fun _ => rfl)
    (fun pre W => (∃ va, Boxed W w.heap.size 70 va ∧ W.ownsRow w.heap.size 5 1 va (pre.length * 288) (vals (flatOf pre)) ∧ True) ∧ Below w.heap.size w W)
    (fun _ _ _ => False)
    (OwnFrom.and (Own.from (holdsRow_own w.heap.size w.heap.size 70 5 1 (fun pre : List (Nat × PageT) => pre.length * 288) (fun pre => vals (flatOf pre)) (fun _ _ => True)) _) (ownFrom_below (Nat.le_refl _) (by omega)))
    (fun _ _ _ _ _ hs _ _ => hs)
    ⟨⟨_, hbox, owns0, trivial⟩, hbel⟩
    (fun x a' W => ∃ Bx, w.heap.size < Bx ∧ Blk W Bx 46 (vals x.2.1) ∧ a' = { tmps := #[.func (.func 56) #[] #[.pointer (some ⟨Bs, 0, none⟩)], .slice q m d, undef, undef, .slice none 0 0, .pointer (some ⟨w.heap.size, 0, none⟩), undef, .pointer (some ⟨Bx, 0, none⟩), undef, undef, undef, .func (.func 56) #[] #[.pointer (some ⟨Bs, 0, none⟩)], .int .i64 (x.1 : Int), .agg (vals x.2.1).toArray, undef, undef, undef, undef, undef, undef, undef, undef, undef, undef, undef, undef, undef, undef, undef, undef, undef, undef, undef, undef, undef, undef, undef, undef, undef, undef, undef, undef, undef, undef, undef, undef, undef, undef, undef, undef, undef, undef, undef, undef, undef], defers := [] })
    (fun x a' s X Y row ⟨Bx, h1, h2, h3⟩ hg hr => ⟨Bx, h1, (blk_own (β := Unit) Bx 46 (fun _ => vals x.2.1)).from w.heap.size () X Y row h2 hg (fun r e => ⟨by have := (hr r e).1; omega, (hr r e).2⟩), h3⟩)
    ?assign ?body ?done ?stop
  case assign =>
    rintro l pre x W K ⟨⟨va, hva, hrow, _⟩, hB⟩ hK
    dsimp only [encP]
    gi_wp2_with (refine wpListIn_store_new rfl 46 (.tmp 7) (.tmp 13) rfl (vals (fillP 0)) (vals x.2.1) rfl rfl (sizeP x.2.2.1) (by rw [vals_length, vals_length, x.2.2.1, fillP_length]) (vals_one _) ?_)
    exact hK _ _ ((KeepsOthers.alloc _ _).from _) ((Below.refl _ W).alloc hB.size _) ⟨⟨va, hva.alloc _, hrow.alloc _, trivial⟩, hB.alloc hB.size _⟩ ⟨W.heap.size, hva.lt, Blk.new _ _ _, rfl⟩
  case body =>
    rintro l pre x a' W hl2 ⟨r, hr⟩ ⟨⟨va, hva, hrow, _⟩, hB⟩ ⟨Bx, hBx, hX, rfl⟩ hlen
    have hc0 := hva.cell
    have hf0 := hva.frozen
    gi_wp2
    refine wpIn_region_any (by kernel_rfl) ?_
    change wpAnyIn _ _ _ _ _ _ _ _ _ (World.drew _)
    refine wpAnyIn_ready (rs := [0, 1]) (by kernel_rfl) (by simp) ?_
    refine AllReadyIn.cons rfl (fun K hK => ?_) ?_
    · go_simp
      refine hK _ _ ?_
      clear hK K
      try simp only [Act.put, List.setIfInBounds_toArray, List.set_cons_zero, List.set_cons_succ]
      refine wpAnyIn_ready (rs := [1]) (by kernel_rfl) (by simp) ?_
      refine AllReadyIn.cons rfl (fun K hK => ?_) AllReadyIn.nil
      go_simp
      refine hK _ _ ?_
      clear hK K
      try simp only [Act.put, List.setIfInBounds_toArray, List.set_cons_zero, List.set_cons_succ]
      refine wpAnyIn_ready (rs := [2]) (by kernel_rfl) (by simp) ?_
      refine AllReadyIn.cons rfl (fun K hK => ?_) AllReadyIn.nil
      go_simp
      refine hK _ _ ?_
      clear hK K
      try simp only [Act.put, List.setIfInBounds_toArray, List.set_cons_zero, List.set_cons_succ]
      refine wpAnyIn_ready (rs := [3]) (by kernel_rfl) (by simp) ?_
      refine AllReadyIn.cons rfl (fun K hK => ?_) AllReadyIn.nil
      rw [if_pos (by rfl)]
      refine wpIn_appendBytes (.tmp 14) (.tmp 16) rfl w.heap.size va _ (flatOf pre) rfl hrow.drew ⟨Bx, 0, none⟩ 256 256 (x.2.1.take 256) rfl (by rw [List.length_take, x.2.2.1]; rfl) (bytesTake hX) (by omega) hB.size ?_
      intro p1 c1 L1 w1 hL1 hown1 hg1
      obtain ⟨s1, s2, s3, s4, s5⟩ := app_step hva hrow hX (by omega) hg1 hown1
      have hva1 : Boxed w1 w.heap.size 70 va := hva.kept (W := W.drew) hg1 (hva.not_row (by decide) hrow)
      have hc1 := hva1.cell
      have hf1 := hva1.frozen
      refine hK _ _ ?_
      clear hK K
      try simp only [Act.put, List.setIfInBounds_toArray, List.set_cons_zero, List.set_cons_succ]
      refine wpAnyIn_ready (rs := [4]) (by kernel_rfl) (by simp) ?_
      refine AllReadyIn.cons rfl (fun K hK => ?_) AllReadyIn.nil
      go_simp
      refine hK _ _ ?_
      clear hK K
      try simp only [Act.put, List.setIfInBounds_toArray, List.set_cons_zero, List.set_cons_succ]
      refine wpAnyIn_done (by kernel_rfl) ?_ _
      generalize w1.setCell ⟨w.heap.size, 0, none⟩ (.slice p1 L1 c1) = W2 at *
      have hB2 := hB.trans s4
      have hc2 := s1.cell
      have hf2 := s1.frozen
      clear hva1 hc1 hf1 hown1 hg1 hc0 hf0 hva hrow hX
      gi_wp2
      refine wpIn_region_any (by kernel_rfl) ?_
      change wpAnyIn _ _ _ _ _ _ _ _ _ (World.drew _)
      refine wpAnyIn_ready (rs := [0, 1]) (by kernel_rfl) (by simp) ?_
      refine AllReadyIn.cons rfl (fun K hK => ?_) ?_
      · go_simp
        refine hK _ _ ?_
        clear hK K
        try simp only [Act.put, List.setIfInBounds_toArray, List.set_cons_zero, List.set_cons_succ]
        refine wpAnyIn_ready (rs := [1]) (by kernel_rfl) (by simp) ?_
        refine AllReadyIn.cons rfl (fun K hK => ?_) AllReadyIn.nil
        go_simp
        refine hK _ _ ?_
        clear hK K
        try simp only [Act.put, List.setIfInBounds_toArray, List.set_cons_zero, List.set_cons_succ]
        refine wpAnyIn_ready (rs := [2]) (by kernel_rfl) (by simp) ?_
        refine AllReadyIn.cons rfl (fun K hK => ?_) AllReadyIn.nil
        go_simp
        refine hK _ _ ?_
        clear hK K
        try simp only [Act.put, List.setIfInBounds_toArray, List.set_cons_zero, List.set_cons_succ]
        refine wpAnyIn_ready (rs := [3]) (by kernel_rfl) (by simp) ?_
        refine AllReadyIn.cons rfl (fun K hK => ?_) AllReadyIn.nil
        rw [if_pos (by rfl)]
        refine wpIn_appendBytes (.tmp 18) (.tmp 20) rfl w.heap.size (.slice p1 L1 c1) _ (flatOf pre ++ x.2.1.take 256) rfl s2.drew ⟨Bx, 256, none⟩ 32 32 (x.2.1.drop 256) rfl (by rw [List.length_drop, x.2.2.1]) (bytesDrop s3) (by have := hL1.out; omega) hB2.size ?_
        intro p3 c3 L3 w3 hL3 hown3 hg3
        obtain ⟨t1, t2, t3, t4, t5⟩ := app_step s1 s2 s3 (by omega) hg3 hown3
        have hva3 : Boxed w3 w.heap.size 70 _ := s1.kept (W := W2.drew) hg3 (s1.not_row (by decide) s2)
        have hc3 := hva3.cell
        have hf3 := hva3.frozen
        refine hK _ _ ?_
        clear hK K
        try simp only [Act.put, List.setIfInBounds_toArray, List.set_cons_zero, List.set_cons_succ]
        refine wpAnyIn_ready (rs := [4]) (by kernel_rfl) (by simp) ?_
        refine AllReadyIn.cons rfl (fun K hK => ?_) AllReadyIn.nil
        go_simp
        refine hK _ _ ?_
        clear hK K
        try simp only [Act.put, List.setIfInBounds_toArray, List.set_cons_zero, List.set_cons_succ]
        refine wpAnyIn_done (by kernel_rfl) ?_ _
        gi_wp2
        rw [List.append_assoc, List.take_append_drop, ← flatOf_snoc] at t2
        have eL : (pre ++ [x]).length * 288 = L3 := by have := hL1.out; have := hL3.out; rw [List.length_append, List.length_singleton]; omega
        exact ⟨((s5.trans t5).from _), s4.trans t4, ⟨⟨_, t1, by rw [eL]; exact t2, trivial⟩, (hB.trans s4).trans t4⟩⟩
      refine AllReadyIn.cons rfl (fun K hK => ?_) AllReadyIn.nil
      go_simp
      refine hK _ _ ?_
      clear hK K
      try simp only [Act.put, List.setIfInBounds_toArray, List.set_cons_zero, List.set_cons_succ]
      refine wpAnyIn_ready (rs := [0, 2]) (by kernel_rfl) (by simp) ?_
      refine AllReadyIn.cons rfl (fun K hK => ?_) ?_
      · go_simp
        refine hK _ _ ?_
        clear hK K
        try simp only [Act.put, List.setIfInBounds_toArray, List.set_cons_zero, List.set_cons_succ]
        refine wpAnyIn_ready (rs := [2]) (by kernel_rfl) (by simp) ?_
        refine AllReadyIn.cons rfl (fun K hK => ?_) AllReadyIn.nil
        go_simp
        refine hK _ _ ?_
        clear hK K
        try simp only [Act.put, List.setIfInBounds_toArray, List.set_cons_zero, List.set_cons_succ]
        refine wpAnyIn_ready (rs := [3]) (by kernel_rfl) (by simp) ?_
        refine AllReadyIn.cons rfl (fun K hK => ?_) AllReadyIn.nil
        rw [if_pos (by rfl)]
        refine wpIn_appendBytes (.tmp 18) (.tmp 20) rfl w.heap.size (.slice p1 L1 c1) _ (flatOf pre ++ x.2.1.take 256) rfl s2.drew ⟨Bx, 256, none⟩ 32 32 (x.2.1.drop 256) rfl (by rw [List.length_drop, x.2.2.1]) (bytesDrop s3) (by have := hL1.out; omega) hB2.size ?_
        intro p3 c3 L3 w3 hL3 hown3 hg3
        obtain ⟨t1, t2, t3, t4, t5⟩ := app_step s1 s2 s3 (by omega) hg3 hown3
        have hva3 : Boxed w3 w.heap.size 70 _ := s1.kept (W := W2.drew) hg3 (s1.not_row (by decide) s2)
        have hc3 := hva3.cell
        have hf3 := hva3.frozen
        refine hK _ _ ?_
        clear hK K
        try simp only [Act.put, List.setIfInBounds_toArray, List.set_cons_zero, List.set_cons_succ]
        refine wpAnyIn_ready (rs := [4]) (by kernel_rfl) (by simp) ?_
        refine AllReadyIn.cons rfl (fun K hK => ?_) AllReadyIn.nil
        go_simp
        refine hK _ _ ?_
        clear hK K
        try simp only [Act.put, List.setIfInBounds_toArray, List.set_cons_zero, List.set_cons_succ]
        refine wpAnyIn_done (by kernel_rfl) ?_ _
        gi_wp2
        rw [List.append_assoc, List.take_append_drop, ← flatOf_snoc] at t2
        have eL : (pre ++ [x]).length * 288 = L3 := by have := hL1.out; have := hL3.out; rw [List.length_append, List.length_singleton]; omega
        exact ⟨((s5.trans t5).from _), s4.trans t4, ⟨⟨_, t1, by rw [eL]; exact t2, trivial⟩, (hB.trans s4).trans t4⟩⟩
      refine AllReadyIn.cons rfl (fun K hK => ?_) AllReadyIn.nil
      go_simp
      refine hK _ _ ?_
      clear hK K
      try simp only [Act.put, List.setIfInBounds_toArray, List.set_cons_zero, List.set_cons_succ]
      refine wpAnyIn_ready (rs := [0]) (by kernel_rfl) (by simp) ?_
      refine AllReadyIn.cons rfl (fun K hK => ?_) AllReadyIn.nil
      go_simp
      refine hK _ _ ?_
      clear hK K
      try simp only [Act.put, List.setIfInBounds_toArray, List.set_cons_zero, List.set_cons_succ]
      refine wpAnyIn_ready (rs := [3]) (by kernel_rfl) (by simp) ?_
      refine AllReadyIn.cons rfl (fun K hK => ?_) AllReadyIn.nil
      rw [if_pos (by rfl)]
      refine wpIn_appendBytes (.tmp 18) (.tmp 20) rfl w.heap.size (.slice p1 L1 c1) _ (flatOf pre ++ x.2.1.take 256) rfl s2.drew ⟨Bx, 256, none⟩ 32 32 (x.2.1.drop 256) rfl (by rw [List.length_drop, x.2.2.1]) (bytesDrop s3) (by have := hL1.out; omega) hB2.size ?_
      intro p3 c3 L3 w3 hL3 hown3 hg3
      obtain ⟨t1, t2, t3, t4, t5⟩ := app_step s1 s2 s3 (by omega) hg3 hown3
      have hva3 : Boxed w3 w.heap.size 70 _ := s1.kept (W := W2.drew) hg3 (s1.not_row (by decide) s2)
      have hc3 := hva3.cell
      have hf3 := hva3.frozen
      refine hK _ _ ?_
      clear hK K
      try simp only [Act.put, List.setIfInBounds_toArray, List.set_cons_zero, List.set_cons_succ]
      refine wpAnyIn_ready (rs := [4]) (by kernel_rfl) (by simp) ?_
      refine AllReadyIn.cons rfl (fun K hK => ?_) AllReadyIn.nil
      go_simp
      refine hK _ _ ?_
      clear hK K
      try simp only [Act.put, List.setIfInBounds_toArray, List.set_cons_zero, List.set_cons_succ]
      refine wpAnyIn_done (by kernel_rfl) ?_ _
      gi_wp2
      rw [List.append_assoc, List.take_append_drop, ← flatOf_snoc] at t2
      have eL : (pre ++ [x]).length * 288 = L3 := by have := hL1.out; have := hL3.out; rw [List.length_append, List.length_singleton]; omega
      exact ⟨((s5.trans t5).from _), s4.trans t4, ⟨⟨_, t1, by rw [eL]; exact t2, trivial⟩, (hB.trans s4).trans t4⟩⟩
    refine AllReadyIn.cons rfl (fun K hK => ?_) AllReadyIn.nil
    go_simp
    refine hK _ _ ?_
    clear hK K
    try simp only [Act.put, List.setIfInBounds_toArray, List.set_cons_zero, List.set_cons_succ]
    refine wpAnyIn_ready (rs := [0, 2]) (by kernel_rfl) (by simp) ?_
    refine AllReadyIn.cons rfl (fun K hK => ?_) ?_
    · go_simp
      refine hK _ _ ?_
      clear hK K
      try simp only [Act.put, List.setIfInBounds_toArray, List.set_cons_zero, List.set_cons_succ]
      refine wpAnyIn_ready (rs := [2]) (by kernel_rfl) (by simp) ?_
      refine AllReadyIn.cons rfl (fun K hK => ?_) AllReadyIn.nil
      go_simp
      refine hK _ _ ?_
      clear hK K
      try simp only [Act.put, List.setIfInBounds_toArray, List.set_cons_zero, List.set_cons_succ]
      refine wpAnyIn_ready (rs := [3]) (by kernel_rfl) (by simp) ?_
      refine AllReadyIn.cons rfl (fun K hK => ?_) AllReadyIn.nil
      rw [if_pos (by rfl)]
      refine wpIn_appendBytes (.tmp 14) (.tmp 16) rfl w.heap.size va _ (flatOf pre) rfl hrow.drew ⟨Bx, 0, none⟩ 256 256 (x.2.1.take 256) rfl (by rw [List.length_take, x.2.2.1]; rfl) (bytesTake hX) (by omega) hB.size ?_
      intro p1 c1 L1 w1 hL1 hown1 hg1
      obtain ⟨s1, s2, s3, s4, s5⟩ := app_step hva hrow hX (by omega) hg1 hown1
      have hva1 : Boxed w1 w.heap.size 70 va := hva.kept (W := W.drew) hg1 (hva.not_row (by decide) hrow)
      have hc1 := hva1.cell
      have hf1 := hva1.frozen
      refine hK _ _ ?_
      clear hK K
      try simp only [Act.put, List.setIfInBounds_toArray, List.set_cons_zero, List.set_cons_succ]
      refine wpAnyIn_ready (rs := [4]) (by kernel_rfl) (by simp) ?_
      refine AllReadyIn.cons rfl (fun K hK => ?_) AllReadyIn.nil
      go_simp
      refine hK _ _ ?_
      clear hK K
      try simp only [Act.put, List.setIfInBounds_toArray, List.set_cons_zero, List.set_cons_succ]
      refine wpAnyIn_done (by kernel_rfl) ?_ _
      generalize w1.setCell ⟨w.heap.size, 0, none⟩ (.slice p1 L1 c1) = W2 at *
      have hB2 := hB.trans s4
      have hc2 := s1.cell
      have hf2 := s1.frozen
      clear hva1 hc1 hf1 hown1 hg1 hc0 hf0 hva hrow hX
      gi_wp2
      refine wpIn_region_any (by kernel_rfl) ?_
      change wpAnyIn _ _ _ _ _ _ _ _ _ (World.drew _)
      refine wpAnyIn_ready (rs := [0, 1]) (by kernel_rfl) (by simp) ?_
      refine AllReadyIn.cons rfl (fun K hK => ?_) ?_
      · go_simp
        refine hK _ _ ?_
        clear hK K
        try simp only [Act.put, List.setIfInBounds_toArray, List.set_cons_zero, List.set_cons_succ]
        refine wpAnyIn_ready (rs := [1]) (by kernel_rfl) (by simp) ?_
        refine AllReadyIn.cons rfl (fun K hK => ?_) AllReadyIn.nil
        go_simp
        refine hK _ _ ?_
        clear hK K
        try simp only [Act.put, List.setIfInBounds_toArray, List.set_cons_zero, List.set_cons_succ]
        refine wpAnyIn_ready (rs := [2]) (by kernel_rfl) (by simp) ?_
        refine AllReadyIn.cons rfl (fun K hK => ?_) AllReadyIn.nil
        go_simp
        refine hK _ _ ?_
        clear hK K
        try simp only [Act.put, List.setIfInBounds_toArray, List.set_cons_zero, List.set_cons_succ]
        refine wpAnyIn_ready (rs := [3]) (by kernel_rfl) (by simp) ?_
        refine AllReadyIn.cons rfl (fun K hK => ?_) AllReadyIn.nil
        rw [if_pos (by rfl)]
        refine wpIn_appendBytes (.tmp 18) (.tmp 20) rfl w.heap.size (.slice p1 L1 c1) _ (flatOf pre ++ x.2.1.take 256) rfl s2.drew ⟨Bx, 256, none⟩ 32 32 (x.2.1.drop 256) rfl (by rw [List.length_drop, x.2.2.1]) (bytesDrop s3) (by have := hL1.out; omega) hB2.size ?_
        intro p3 c3 L3 w3 hL3 hown3 hg3
        obtain ⟨t1, t2, t3, t4, t5⟩ := app_step s1 s2 s3 (by omega) hg3 hown3
        have hva3 : Boxed w3 w.heap.size 70 _ := s1.kept (W := W2.drew) hg3 (s1.not_row (by decide) s2)
        have hc3 := hva3.cell
        have hf3 := hva3.frozen
        refine hK _ _ ?_
        clear hK K
        try simp only [Act.put, List.setIfInBounds_toArray, List.set_cons_zero, List.set_cons_succ]
        refine wpAnyIn_ready (rs := [4]) (by kernel_rfl) (by simp) ?_
        refine AllReadyIn.cons rfl (fun K hK => ?_) AllReadyIn.nil
        go_simp
        refine hK _ _ ?_
        clear hK K
        try simp only [Act.put, List.setIfInBounds_toArray, List.set_cons_zero, List.set_cons_succ]
        refine wpAnyIn_done (by kernel_rfl) ?_ _
        gi_wp2
        rw [List.append_assoc, List.take_append_drop, ← flatOf_snoc] at t2
        have eL : (pre ++ [x]).length * 288 = L3 := by have := hL1.out; have := hL3.out; rw [List.length_append, List.length_singleton]; omega
        exact ⟨((s5.trans t5).from _), s4.trans t4, ⟨⟨_, t1, by rw [eL]; exact t2, trivial⟩, (hB.trans s4).trans t4⟩⟩
      refine AllReadyIn.cons rfl (fun K hK => ?_) AllReadyIn.nil
      go_simp
      refine hK _ _ ?_
      clear hK K
      try simp only [Act.put, List.setIfInBounds_toArray, List.set_cons_zero, List.set_cons_succ]
      refine wpAnyIn_ready (rs := [0, 2]) (by kernel_rfl) (by simp) ?_
      refine AllReadyIn.cons rfl (fun K hK => ?_) ?_
      · go_simp
        refine hK _ _ ?_
        clear hK K
        try simp only [Act.put, List.setIfInBounds_toArray, List.set_cons_zero, List.set_cons_succ]
        refine wpAnyIn_ready (rs := [2]) (by kernel_rfl) (by simp) ?_
        refine AllReadyIn.cons rfl (fun K hK => ?_) AllReadyIn.nil
        go_simp
        refine hK _ _ ?_
        clear hK K
        try simp only [Act.put, List.setIfInBounds_toArray, List.set_cons_zero, List.set_cons_succ]
        refine wpAnyIn_ready (rs := [3]) (by kernel_rfl) (by simp) ?_
        refine AllReadyIn.cons rfl (fun K hK => ?_) AllReadyIn.nil
        rw [if_pos (by rfl)]
        refine wpIn_appendBytes (.tmp 18) (.tmp 20) rfl w.heap.size (.slice p1 L1 c1) _ (flatOf pre ++ x.2.1.take 256) rfl s2.drew ⟨Bx, 256, none⟩ 32 32 (x.2.1.drop 256) rfl (by rw [List.length_drop, x.2.2.1]) (bytesDrop s3) (by have := hL1.out; omega) hB2.size ?_
        intro p3 c3 L3 w3 hL3 hown3 hg3
        obtain ⟨t1, t2, t3, t4, t5⟩ := app_step s1 s2 s3 (by omega) hg3 hown3
        have hva3 : Boxed w3 w.heap.size 70 _ := s1.kept (W := W2.drew) hg3 (s1.not_row (by decide) s2)
        have hc3 := hva3.cell
        have hf3 := hva3.frozen
        refine hK _ _ ?_
        clear hK K
        try simp only [Act.put, List.setIfInBounds_toArray, List.set_cons_zero, List.set_cons_succ]
        refine wpAnyIn_ready (rs := [4]) (by kernel_rfl) (by simp) ?_
        refine AllReadyIn.cons rfl (fun K hK => ?_) AllReadyIn.nil
        go_simp
        refine hK _ _ ?_
        clear hK K
        try simp only [Act.put, List.setIfInBounds_toArray, List.set_cons_zero, List.set_cons_succ]
        refine wpAnyIn_done (by kernel_rfl) ?_ _
        gi_wp2
        rw [List.append_assoc, List.take_append_drop, ← flatOf_snoc] at t2
        have eL : (pre ++ [x]).length * 288 = L3 := by have := hL1.out; have := hL3.out; rw [List.length_append, List.length_singleton]; omega
        exact ⟨((s5.trans t5).from _), s4.trans t4, ⟨⟨_, t1, by rw [eL]; exact t2, trivial⟩, (hB.trans s4).trans t4⟩⟩
      refine AllReadyIn.cons rfl (fun K hK => ?_) AllReadyIn.nil
      go_simp
      refine hK _ _ ?_
      clear hK K
      try simp only [Act.put, List.setIfInBounds_toArray, List.set_cons_zero, List.set_cons_succ]
      refine wpAnyIn_ready (rs := [0]) (by kernel_rfl) (by simp) ?_
      refine AllReadyIn.cons rfl (fun K hK => ?_) AllReadyIn.nil
      go_simp
      refine hK _ _ ?_
      clear hK K
      try simp only [Act.put, List.setIfInBounds_toArray, List.set_cons_zero, List.set_cons_succ]
      refine wpAnyIn_ready (rs := [3]) (by kernel_rfl) (by simp) ?_
      refine AllReadyIn.cons rfl (fun K hK => ?_) AllReadyIn.nil
      rw [if_pos (by rfl)]
      refine wpIn_appendBytes (.tmp 18) (.tmp 20) rfl w.heap.size (.slice p1 L1 c1) _ (flatOf pre ++ x.2.1.take 256) rfl s2.drew ⟨Bx, 256, none⟩ 32 32 (x.2.1.drop 256) rfl (by rw [List.length_drop, x.2.2.1]) (bytesDrop s3) (by have := hL1.out; omega) hB2.size ?_
      intro p3 c3 L3 w3 hL3 hown3 hg3
      obtain ⟨t1, t2, t3, t4, t5⟩ := app_step s1 s2 s3 (by omega) hg3 hown3
      have hva3 : Boxed w3 w.heap.size 70 _ := s1.kept (W := W2.drew) hg3 (s1.not_row (by decide) s2)
      have hc3 := hva3.cell
      have hf3 := hva3.frozen
      refine hK _ _ ?_
      clear hK K
      try simp only [Act.put, List.setIfInBounds_toArray, List.set_cons_zero, List.set_cons_succ]
      refine wpAnyIn_ready (rs := [4]) (by kernel_rfl) (by simp) ?_
      refine AllReadyIn.cons rfl (fun K hK => ?_) AllReadyIn.nil
      go_simp
      refine hK _ _ ?_
      clear hK K
      try simp only [Act.put, List.setIfInBounds_toArray, List.set_cons_zero, List.set_cons_succ]
      refine wpAnyIn_done (by kernel_rfl) ?_ _
      gi_wp2
      rw [List.append_assoc, List.take_append_drop, ← flatOf_snoc] at t2
      have eL : (pre ++ [x]).length * 288 = L3 := by have := hL1.out; have := hL3.out; rw [List.length_append, List.length_singleton]; omega
      exact ⟨((s5.trans t5).from _), s4.trans t4, ⟨⟨_, t1, by rw [eL]; exact t2, trivial⟩, (hB.trans s4).trans t4⟩⟩
    refine AllReadyIn.cons rfl (fun K hK => ?_) AllReadyIn.nil
    go_simp
    refine hK _ _ ?_
    clear hK K
    try simp only [Act.put, List.setIfInBounds_toArray, List.set_cons_zero, List.set_cons_succ]
    refine wpAnyIn_ready (rs := [0]) (by kernel_rfl) (by simp) ?_
    refine AllReadyIn.cons rfl (fun K hK => ?_) AllReadyIn.nil
    go_simp
    refine hK _ _ ?_
    clear hK K
    try simp only [Act.put, List.setIfInBounds_toArray, List.set_cons_zero, List.set_cons_succ]
    refine wpAnyIn_ready (rs := [3]) (by kernel_rfl) (by simp) ?_
    refine AllReadyIn.cons rfl (fun K hK => ?_) AllReadyIn.nil
    rw [if_pos (by rfl)]
    refine wpIn_appendBytes (.tmp 14) (.tmp 16) rfl w.heap.size va _ (flatOf pre) rfl hrow.drew ⟨Bx, 0, none⟩ 256 256 (x.2.1.take 256) rfl (by rw [List.length_take, x.2.2.1]; rfl) (bytesTake hX) (by omega) hB.size ?_
    intro p1 c1 L1 w1 hL1 hown1 hg1
    obtain ⟨s1, s2, s3, s4, s5⟩ := app_step hva hrow hX (by omega) hg1 hown1
    have hva1 : Boxed w1 w.heap.size 70 va := hva.kept (W := W.drew) hg1 (hva.not_row (by decide) hrow)
    have hc1 := hva1.cell
    have hf1 := hva1.frozen
    refine hK _ _ ?_
    clear hK K
    try simp only [Act.put, List.setIfInBounds_toArray, List.set_cons_zero, List.set_cons_succ]
    refine wpAnyIn_ready (rs := [4]) (by kernel_rfl) (by simp) ?_
    refine AllReadyIn.cons rfl (fun K hK => ?_) AllReadyIn.nil
    go_simp
    refine hK _ _ ?_
    clear hK K
    try simp only [Act.put, List.setIfInBounds_toArray, List.set_cons_zero, List.set_cons_succ]
    refine wpAnyIn_done (by kernel_rfl) ?_ _
    generalize w1.setCell ⟨w.heap.size, 0, none⟩ (.slice p1 L1 c1) = W2 at *
    have hB2 := hB.trans s4
    have hc2 := s1.cell
    have hf2 := s1.frozen
    clear hva1 hc1 hf1 hown1 hg1 hc0 hf0 hva hrow hX
    gi_wp2
    refine wpIn_region_any (by kernel_rfl) ?_
    change wpAnyIn _ _ _ _ _ _ _ _ _ (World.drew _)
    refine wpAnyIn_ready (rs := [0, 1]) (by kernel_rfl) (by simp) ?_
    refine AllReadyIn.cons rfl (fun K hK => ?_) ?_
    · go_simp
      refine hK _ _ ?_
      clear hK K
      try simp only [Act.put, List.setIfInBounds_toArray, List.set_cons_zero, List.set_cons_succ]
      refine wpAnyIn_ready (rs := [1]) (by kernel_rfl) (by simp) ?_
      refine AllReadyIn.cons rfl (fun K hK => ?_) AllReadyIn.nil
      go_simp
      refine hK _ _ ?_
      clear hK K
      try simp only [Act.put, List.setIfInBounds_toArray, List.set_cons_zero, List.set_cons_succ]
      refine wpAnyIn_ready (rs := [2]) (by kernel_rfl) (by simp) ?_
      refine AllReadyIn.cons rfl (fun K hK => ?_) AllReadyIn.nil
      go_simp
      refine hK _ _ ?_
      clear hK K
      try simp only [Act.put, List.setIfInBounds_toArray, List.set_cons_zero, List.set_cons_succ]
      refine wpAnyIn_ready (rs := [3]) (by kernel_rfl) (by simp) ?_
      refine AllReadyIn.cons rfl (fun K hK => ?_) AllReadyIn.nil
      rw [if_pos (by rfl)]
      refine wpIn_appendBytes (.tmp 18) (.tmp 20) rfl w.heap.size (.slice p1 L1 c1) _ (flatOf pre ++ x.2.1.take 256) rfl s2.drew ⟨Bx, 256, none⟩ 32 32 (x.2.1.drop 256) rfl (by rw [List.length_drop, x.2.2.1]) (bytesDrop s3) (by have := hL1.out; omega) hB2.size ?_
      intro p3 c3 L3 w3 hL3 hown3 hg3
      obtain ⟨t1, t2, t3, t4, t5⟩ := app_step s1 s2 s3 (by omega) hg3 hown3
      have hva3 : Boxed w3 w.heap.size 70 _ := s1.kept (W := W2.drew) hg3 (s1.not_row (by decide) s2)
      have hc3 := hva3.cell
      have hf3 := hva3.frozen
      refine hK _ _ ?_
      clear hK K
      try simp only [Act.put, List.setIfInBounds_toArray, List.set_cons_zero, List.set_cons_succ]
      refine wpAnyIn_ready (rs := [4]) (by kernel_rfl) (by simp) ?_
      refine AllReadyIn.cons rfl (fun K hK => ?_) AllReadyIn.nil
      go_simp
      refine hK _ _ ?_
      clear hK K
      try simp only [Act.put, List.setIfInBounds_toArray, List.set_cons_zero, List.set_cons_succ]
      refine wpAnyIn_done (by kernel_rfl) ?_ _
      gi_wp2
      rw [List.append_assoc, List.take_append_drop, ← flatOf_snoc] at t2
      have eL : (pre ++ [x]).length * 288 = L3 := by have := hL1.out; have := hL3.out; rw [List.length_append, List.length_singleton]; omega
      exact ⟨((s5.trans t5).from _), s4.trans t4, ⟨⟨_, t1, by rw [eL]; exact t2, trivial⟩, (hB.trans s4).trans t4⟩⟩
    refine AllReadyIn.cons rfl (fun K hK => ?_) AllReadyIn.nil
    go_simp
    refine hK _ _ ?_
    clear hK K
    try simp only [Act.put, List.setIfInBounds_toArray, List.set_cons_zero, List.set_cons_succ]
    refine wpAnyIn_ready (rs := [0, 2]) (by kernel_rfl) (by simp) ?_
    refine AllReadyIn.cons rfl (fun K hK => ?_) ?_
    · go_simp
      refine hK _ _ ?_
      clear hK K
      try simp only [Act.put, List.setIfInBounds_toArray, List.set_cons_zero, List.set_cons_succ]
      refine wpAnyIn_ready (rs := [2]) (by kernel_rfl) (by simp) ?_
      refine AllReadyIn.cons rfl (fun K hK => ?_) AllReadyIn.nil
      go_simp
      refine hK _ _ ?_
      clear hK K
      try simp only [Act.put, List.setIfInBounds_toArray, List.set_cons_zero, List.set_cons_succ]
      refine wpAnyIn_ready (rs := [3]) (by kernel_rfl) (by simp) ?_
      refine AllReadyIn.cons rfl (fun K hK => ?_) AllReadyIn.nil
      rw [if_pos (by rfl)]
      refine wpIn_appendBytes (.tmp 18) (.tmp 20) rfl w.heap.size (.slice p1 L1 c1) _ (flatOf pre ++ x.2.1.take 256) rfl s2.drew ⟨Bx, 256, none⟩ 32 32 (x.2.1.drop 256) rfl (by rw [List.length_drop, x.2.2.1]) (bytesDrop s3) (by have := hL1.out; omega) hB2.size ?_
      intro p3 c3 L3 w3 hL3 hown3 hg3
      obtain ⟨t1, t2, t3, t4, t5⟩ := app_step s1 s2 s3 (by omega) hg3 hown3
      have hva3 : Boxed w3 w.heap.size 70 _ := s1.kept (W := W2.drew) hg3 (s1.not_row (by decide) s2)
      have hc3 := hva3.cell
      have hf3 := hva3.frozen
      refine hK _ _ ?_
      clear hK K
      try simp only [Act.put, List.setIfInBounds_toArray, List.set_cons_zero, List.set_cons_succ]
      refine wpAnyIn_ready (rs := [4]) (by kernel_rfl) (by simp) ?_
      refine AllReadyIn.cons rfl (fun K hK => ?_) AllReadyIn.nil
      go_simp
      refine hK _ _ ?_
      clear hK K
      try simp only [Act.put, List.setIfInBounds_toArray, List.set_cons_zero, List.set_cons_succ]
      refine wpAnyIn_done (by kernel_rfl) ?_ _
      gi_wp2
      rw [List.append_assoc, List.take_append_drop, ← flatOf_snoc] at t2
      have eL : (pre ++ [x]).length * 288 = L3 := by have := hL1.out; have := hL3.out; rw [List.length_append, List.length_singleton]; omega
      exact ⟨((s5.trans t5).from _), s4.trans t4, ⟨⟨_, t1, by rw [eL]; exact t2, trivial⟩, (hB.trans s4).trans t4⟩⟩
    refine AllReadyIn.cons rfl (fun K hK => ?_) AllReadyIn.nil
    go_simp
    refine hK _ _ ?_
    clear hK K
    try simp only [Act.put, List.setIfInBounds_toArray, List.set_cons_zero, List.set_cons_succ]
    refine wpAnyIn_ready (rs := [0]) (by kernel_rfl) (by simp) ?_
    refine AllReadyIn.cons rfl (fun K hK => ?_) AllReadyIn.nil
    go_simp
    refine hK _ _ ?_
    clear hK K
    try simp only [Act.put, List.setIfInBounds_toArray, List.set_cons_zero, List.set_cons_succ]
    refine wpAnyIn_ready (rs := [3]) (by kernel_rfl) (by simp) ?_
    refine AllReadyIn.cons rfl (fun K hK => ?_) AllReadyIn.nil
    rw [if_pos (by rfl)]
    refine wpIn_appendBytes (.tmp 18) (.tmp 20) rfl w.heap.size (.slice p1 L1 c1) _ (flatOf pre ++ x.2.1.take 256) rfl s2.drew ⟨Bx, 256, none⟩ 32 32 (x.2.1.drop 256) rfl (by rw [List.length_drop, x.2.2.1]) (bytesDrop s3) (by have := hL1.out; omega) hB2.size ?_
    intro p3 c3 L3 w3 hL3 hown3 hg3
    obtain ⟨t1, t2, t3, t4, t5⟩ := app_step s1 s2 s3 (by omega) hg3 hown3
    have hva3 : Boxed w3 w.heap.size 70 _ := s1.kept (W := W2.drew) hg3 (s1.not_row (by decide) s2)
    have hc3 := hva3.cell
    have hf3 := hva3.frozen
    refine hK _ _ ?_
    clear hK K
    try simp only [Act.put, List.setIfInBounds_toArray, List.set_cons_zero, List.set_cons_succ]
    refine wpAnyIn_ready (rs := [4]) (by kernel_rfl) (by simp) ?_
    refine AllReadyIn.cons rfl (fun K hK => ?_) AllReadyIn.nil
    go_simp
    refine hK _ _ ?_
    clear hK K
    try simp only [Act.put, List.setIfInBounds_toArray, List.set_cons_zero, List.set_cons_succ]
    refine wpAnyIn_done (by kernel_rfl) ?_ _
    gi_wp2
    rw [List.append_assoc, List.take_append_drop, ← flatOf_snoc] at t2
    have eL : (pre ++ [x]).length * 288 = L3 := by have := hL1.out; have := hL3.out; rw [List.length_append, List.length_singleton]; omega
    exact ⟨((s5.trans t5).from _), s4.trans t4, ⟨⟨_, t1, by rw [eL]; exact t2, trivial⟩, (hB.trans s4).trans t4⟩⟩
  case done =>
    rintro D ys W hD rfl ⟨⟨va, hva, hrow, _⟩, hB⟩ hK
    rw [flatOf_upto, upto_length (Nat.le_refl _)] at hrow
    have hall : (ps.map (·.1)).flatten.length = ps.length * 288 := by
      have := flat_length (ps := ps.map (·.1)) (fun p hp => by obtain ⟨x, _, rfl⟩ := List.mem_map.1 hp; exact x.2)
      rwa [List.length_map] at this
    obtain ⟨p0, c0, rfl, hin0⟩ := in_of_owns hrow (by intro y hy; simp only [List.mem_flatten, List.mem_map] at hy; obtain ⟨l, ⟨x, _, rfl⟩, hy⟩ := hy; exact x.2.2 y hy) (by omega)
    have hm' := hm.below (w' := W) (by exact hB)
    have hc0 := hva.cell
    have hf0 := hva.frozen
    obtain ⟨A, hA0⟩ : ∃ A, (ps.map (·.1)).flatten = A := ⟨_, rfl⟩
    rw [hA0] at hin0 hrow hall
    have HA : Hid ((ps.map (·.1)).flatten = A) := hA0
    clear hA0
    obtain ⟨T, hT⟩ : ∃ T, ps.length * 288 = T := ⟨_, rfl⟩
    rw [hT] at hin0 hrow hall hc0 hva
    have HT : Hid (ps.length * 288 = T) := hT
    clear hT
    have hq : wrap64 ((T : Int) / 288) = (ps.length : Int) := by have := HT.out; unfold wrap64; omega
    gi_wp2_with (first
      | (refine ⟨trivial, ?_⟩; gi_at_call 55; refine (callsIn_wide.2 (mask_any p0 q T c0 m d A ms _ hin0 hm')).mono ?_; rintro e w1 ⟨p1, c1, rfl, hin1, hb1⟩; have hva1 : Boxed w1 w.heap.size 70 (.slice p0 T c0) := (hb1.block _ hva.lt).trans hva; have hc1 := hva1.cell; have hf1 := hva1.frozen)
      | (gi_at_make; refine wpListIn_makePages _ rfl (.tmp 27) (.tmp 27) rfl _ _ ps.length rfl rfl hq hq (by omega) ?_; intro w3 hB3 hb3))
    have hva2 := hva1.set (.slice p1 T c1)
    have hB1 : Below w.heap.size w (w1.setCell ⟨w.heap.size, 0, none⟩ (.slice p1 T c1)) := (hB.trans (hb1.mono hB.size)).setCell (Nat.le_refl _) _
    have hk1 : (w1.setCell ⟨w.heap.size, 0, none⟩ (.slice p1 T c1)).heap[D]? = some (.deferred (some [])) := by
      rw [heap_setCell_other _ _ _ _ (by simp; omega), hb1.block D (Array.getElem?_eq_some_iff.1 hK).1]; exact hK
    have hin2 : In (w1.setCell ⟨w.heap.size, 0, none⟩ (.slice p1 T c1)) p1 T c1 (maskL A ms) :=
      hin1.same (by rw [(Turned.setCell w1 ⟨w.heap.size, 0, none⟩ (.slice p1 T c1)).size]; exact Nat.le_refl _) (fun a h0 ha _ => heap_setCell_other _ _ _ _ (fun e => by obtain ⟨ab, ao, ax⟩ := a; simp only at e; subst e; exact in_not_box hin1 hva1 h0 ha))
    have hsz2 : (w1.setCell ⟨w.heap.size, 0, none⟩ (.slice p1 T c1)).heap.size = w1.heap.size := (Turned.setCell w1 ⟨w.heap.size, 0, none⟩ (.slice p1 T c1)).size
    have hM : (maskL A ms).length = T := by rw [maskL_length]; exact hall
    generalize w1.setCell ⟨w.heap.size, 0, none⟩ (.slice p1 T c1) = W2 at *
    obtain ⟨M, hM0⟩ : ∃ M, maskL A ms = M := ⟨_, rfl⟩
    rw [hM0] at hin2 hM
    have HM : Hid (maskL A ms = M) := hM0
    clear hM0
    rw [hsz2] at hB3 hb3
    have hGN : w.heap.size < w1.heap.size := by have := hva2.lt; omega
    generalize w1.heap.size = G at *
    have hva3 : Boxed w3 w.heap.size 70 (.slice p1 T c1) := (hb3.block _ hGN).trans hva2
    have hin3 : In w3 p1 T c1 M := hin2.same (by have := hb3.size; omega) (fun a _ _ hl => hb3.block _ (by omega))
    have hBel3 : Below w.heap.size w w3 := hB1.trans (hb3.mono (by omega))
    have hk3 : w3.heap[D]? = some (.deferred (some [])) := (hb3.block D (by have := (Array.getElem?_eq_some_iff.1 hk1).1; omega)).trans hk1
    have hDG : D < G := by have := (Array.getElem?_eq_some_iff.1 hk1).1; omega
    have hlow3 : ∀ a, 0 < T → p1 = some a → a.block < G := fun a h0 ha => by obtain ⟨b', o', hp', hl', _⟩ := hin2.at' h0; rw [ha] at hp'; cases hp'; show b' < G; omega
    clear hva1 hc1 hf1 hc0 hf0 hin0 hin1 hb1 hrow hva hK hm' hbox hlow hBs' owns0 hq hin2 hva2 hB1 hk1 hB hb3
    gi_loopw [31] (fun i wr => ∃ k : Nat, k ≤ ps.length ∧ i = .int .i64 k ∧ Blk wr G 46 (vals (curK M T (k * 288))) ∧ Below G w3 wr ∧ Below w.heap.size w wr) (fun i _ => ps.length - (intOf i).toNat)
    case atStart => exact ⟨0, Nat.zero_le _, rfl, by rw [Nat.zero_mul, curK_zero, ← HT.out]; exact hB3, Below.refl _ _, hBel3⟩
    case round =>
      obtain ⟨k, hk, rfl, hBk, hbk, hbw⟩ := hrel
      by_cases hlt2 : k < ps.length
      · have hTk : k * 288 + 288 ≤ T := by have := HT.out; omega
        have hcap := hin3.cap
        obtain ⟨b, o, rfl, hb, hcell⟩ := hin3.at' (by omega)
        have hbG : b < G := hlow3 _ (by omega) rfl
        have hc5 : wr.cell? ⟨w.heap.size, 0, none⟩ = some (.slice (some ⟨b, o, none⟩) T c1) := (hbk.cell (p := ⟨w.heap.size, 0, none⟩) hGN).trans hva3.cell
        have hsrc : ∀ (f L : Nat), f + L ≤ T → ∀ j u, (vals ((M.drop f).take L))[j]? = some u → w3.cell? ((⟨b, o + f, none⟩ : Addr).add j) = some u := by
          intro f L hfL j u hu
          obtain ⟨hj, rfl⟩ := vals_get_inv hu
          have hjL : j < L := by rw [List.length_take] at hj; omega
          have := hcell (f + j) (by omega)
          rw [addr_add, show o + f + j = o + (f + j) from by omega, this]
          congr 2
          simp [el, List.getD_eq_getElem?_getD, List.getElem?_take_of_lt hjL]
        obtain ⟨w4, hcp1, hB4, ht4⟩ := copy_blk (sCap := c1 - k * 288) (sLen := T - k * 288) (o := k * 288) hBk (zs := (M.drop (k * 288)).take 256) (L := 256) (b := b) (so := o + k * 288) (by rw [List.length_take, List.length_drop, hM]; omega) (fun j u hu => (hbk.cell (p := (⟨b, o + k * 288, none⟩ : Addr).add j) (by rw [addr_add]; exact hbG)).trans (hsrc _ _ (by omega) j u hu)) (by omega) (by rw [curK_length _ _ _ hM (by omega)]; omega)
        rw [curK_step M T (k * 288) 256 hM (by omega)] at hB4
        have hbel4 : Below G w3 w4 := ht4.below hbk (Nat.le_refl _)
        obtain ⟨w5, hcp2, hB5, ht5⟩ := copy_blk (w := w4.drew) (sCap := c1 - k * 288 - 256) (sLen := T - k * 288 - 256) (o := k * 288 + 256) hB4.drew (zs := (M.drop (k * 288 + 256)).take 32) (L := 32) (b := b) (so := o + k * 288 + 256) (by rw [List.length_take, List.length_drop, hM]; omega) (fun j u hu => (hbel4.cell (p := (⟨b, o + k * 288 + 256, none⟩ : Addr).add j) (by rw [addr_add]; exact hbG)).trans (by rw [Nat.add_assoc]; exact hsrc _ _ (by omega) j u hu)) (by omega) (by rw [curK_length _ _ _ hM (by omega)]; omega)
        rw [curK_step M T (k * 288 + 256) 32 hM (by omega)] at hB5
        have hs1 := slice_at b o T c1 k (by omega) hcap
        have hs2 := slice_256 b (o + k * 288) (T - k * 288) (c1 - k * 288) (by omega) (by omega)
        clear hsrc hcell
        gi_wp2
        gi_region
        gi_wp2
        go_roundw
        case rel => exact ⟨k + 1, by omega, by simp, by rw [show (k + 1) * 288 = k * 288 + 256 + 32 from by omega]; exact hB5, ht5.below (hbel4.drew) (Nat.le_refl _), ht5.below (ht4.below hbw (by omega)).drew (by omega)⟩
        case measure => simp [intOf]; omega
      · obtain rfl : k = ps.length := by omega
        gi_wp2
        have hDr : wr.heap[D]? = some (.deferred (some [])) := (hbk.block D hDG).trans hk3
        refine ⟨by simp, .inl ⟨_, _, rfl, run_takeDeferred hDr, ?_⟩⟩
        refine ⟨_, results_tmp rfl _ _ _, G, rfl, by omega, ?_, hbw.trans (belowK_b (w := w) (Nat.le_refl _) wr D _ _ (by omega) hDr rfl rfl)⟩
        have hfin := hBk
        rw [HT.out, curK_all M T hM, ← HM.out, ← HA.out] at hfin
        exact hfin.grown (grownBy_putObj' wr D _) (fun e => by cases e; omega)
  case stop =>
    rintro D c pre W _ _ h _
    exact h.elim
end Go.Proofs.Ythafcnilhloldaa
