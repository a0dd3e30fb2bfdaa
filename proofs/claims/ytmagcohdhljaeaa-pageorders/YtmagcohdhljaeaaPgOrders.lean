/-
  For every list l of headers: the call of PageOrders returns true (page.Order tells the places of the first 60 of them, the newest header's first, as the document says), and l reads afterwards as it read before. No condition.
-/
import Derived.Test.YtmagcohdhljaeaaPgValues
import Derived.Test.YtmagcohdhljaeaaPgROrd
import Derived.Test.YtmagcohdhljaeaaPgLift
import Derived.Deep.Slices
namespace Go.Proofs.Ytmagcohdhljaeaa
open Go.ChangeShapes Go.WideShapes Go.ChangeAt Go.RowKit Go.Shelf
attribute [local go_sem] Oper.semAt_some
theorem eq_listI (xs ys : List Int) (hl : xs.length = ys.length) (h : ∀ i, i < xs.length → eI xs i = eI ys i) : xs = ys := by
  apply List.ext_getElem hl
  intro i h1 h2
  have := h i h1
  simpa [eI, h1, h2] using this
theorem ne_listI {xs ys : List Int} {k : Nat} (h : (eI xs k != eI ys k) = true) : (xs == ys) = false := by
  rw [beq_eq_false_iff_ne]
  intro e
  subst e
  simp at h
theorem ne_listL {xs ys : List Int} {n m : Nat} (h1 : xs.length = n) (h2 : ys.length = m) (h : ¬ n = m) : (xs == ys) = false := by
  rw [beq_eq_false_iff_ne]
  intro e
  subst e
  omega
theorem ret_bool' {a b : Bool} (h : a = b) : Ending.returned (.bool a) = Ending.returned (.bool b) := by rw [h]
theorem below_drewN' {w w' : World} {B : Nat} (h : Below B w w') (n : Nat) : Below B w (w'.drewN n) := ⟨h.os, h.tape, h.output, h.size, h.block⟩
theorem equalI_any (p q : Option Addr) (n c m d : Nat) (xs ys : List Int) (w : World) (hx : InI w p n c xs) (hy : InI w q m d ys) :
    Calls Try.prog 24 #[.slice p n c, .slice q m d] w fun e w' => e = .returned (.bool (xs == ys)) ∧ Below w.heap.size w w' := by
  have hroom := hx.room
  have HX : Hid (xs.length = n) := hx.len
  have HY : Hid (ys.length = m) := hy.len
  by_cases hnm : n = m
  · subst hnm
    go_enter Try.func24, Try.ntmps24
    go_wp2
    go_loopw [13] (fun i wr => ∃ k : Nat, k ≤ n ∧ i = .int .i64 k ∧ (∃ j, wr = w.drewN j) ∧ ∀ i, i < k → eI xs i = eI ys i) (fun i _ => n - (intOf i).toNat)
    case atStart => exact ⟨0, Nat.zero_le _, rfl, ⟨0, rfl⟩, fun i h => by omega⟩
    case round =>
      obtain ⟨k, hk, rfl, ⟨j, rfl⟩, hall⟩ := hrel
      have HA : Hid (∀ i, i < k → eI xs i = eI ys i) := hall
      clear hall
      by_cases hlt : k < n
      · obtain ⟨b, o, rfl, hb, hc⟩ := hx.at' (by omega)
        obtain ⟨b', o', rfl, hb', hc'⟩ := hy.at' (by omega)
        have hck := hc k hlt
        have hck' := hc' k hlt
        clear hc hc'
        cases hq : (eI xs k != eI ys k) with
        | true =>
          have HN : Hid ((xs == ys) = false) := ne_listI hq
          go_wp2
          go_quiet (fail)
          go_wp2
          go_ret
          exact ⟨ret_bool' HN.out.symm, below_drewN' (below_drewN' (Below.refl _ _) _) _⟩
        | false =>
          have HE : Hid (eI xs k = eI ys k) := WalkArith.int_eq' hq
          go_wp2
          go_quiet (fail)
          go_wp2
          go_roundw
          case rel =>
            refine ⟨k + 1, by omega, by go_num, ⟨_, rfl⟩, fun i hi => ?_⟩
            rcases Nat.lt_succ_iff_lt_or_eq.1 hi with h | h
            · exact HA.out i h
            · rw [h]; exact HE.out
          case measure => simp [intOf]; omega
      · go_wp2
        go_ret
        refine ⟨ret_bool' ?_, below_drewN' (Below.refl _ _) _⟩
        rw [eq_listI xs ys (by rw [HX.out, HY.out]) (fun i hi => HA.out i (by have := HX.out; omega))]
        simp
  · have hne : ((n : Int) != (m : Int)) = true := by rw [bne_iff_ne]; omega
    have HN : Hid ((xs == ys) = false) := ne_listL HX.out HY.out hnm
    clear hnm
    go_enter Try.func24, Try.ntmps24
    go_wp2
    go_ret
    exact ⟨ret_bool' HN.out.symm, Below.refl _ _⟩

/-- page.Order of no headers. -/
theorem order_zero (p : Option Addr) (c : Nat) (w : World) :
    Calls Try.prog 23 #[.slice p 0 c] w fun e w' => ∃ Bs p1 c1, e = .returned (.func (.func 63) #[] #[.pointer (some ⟨Bs, 0, none⟩)]) ∧ Blk w' Bs 46 [.slice p1 0 c1] ∧ InI w' p1 0 c1 [] ∧ (∀ a, p1 = some a → a.block < w'.heap.size) ∧ Below w.heap.size w w' := by
  obtain ⟨i0, hi, hz0, hz1, hz2⟩ := info_parts info3
  have hb0 := below_alloc w (.cells #[.slice p 0 c] 42)
  have b0 := Blk.new' w 42 #[.slice p 0 c]
  have hS := fun (q : Option Addr) (d : Nat) (fv : Value) (W : World) => AnyF.slices_SortFunc_none (P := Try.prog) (ρ := sortL_ren) { sortL with } q d fv W
  change ∀ q d fv W, Calls Try.prog 45 _ _ _ at hS
  go_enter Try.func23, Try.ntmps23
  go_upto_region 2 with (at_make; refine wpList_make_full _ rfl _ _ 46 rfl (w.heap.size + 1) 3 i0 (.int .i64 0) 1 Try.underlying46 hi hz0 hz1 .i64 .i64 _ _ 0 rfl rfl rfl rfl (by rw [hz2]; omega) (by unfold maxLen; omega) (by simp) ?_; intro w1 hown1 hgrow1)
  simp only [World.size_alloc] at hown1
  try simp only [World.size_alloc]
  have hb1 := bt hb0 (below_grown0 hgrow1)
  have hgl : w.heap.size + 1 < w1.heap.size := (hown1.lt _ rfl).2
  clear hgrow1 b0 hb0 hown1
  generalize w.heap.size + 1 = g at *
  go_wp2_with fail
  go_loopw [10] (fun i wr => i = .int .i64 0 ∧ wr = w1) (fun _ _ => 0)
  case atStart => exact ⟨rfl, rfl⟩
  case round =>
    obtain ⟨rfl, rfl⟩ := hrel
    go_wp2_with (first
      | (go_at_call 45; refine (hS _ _ _ _).mono ?_; rintro e w2 ⟨rfl, rfl⟩)
      | (go_at_call 48; refine (values_any _ _ _ _).mono ?_; rintro e w3 ⟨rfl, hw3⟩))
    go_ret
    subst hw3
    exact ⟨w2.heap.size, some ⟨g, 0, none⟩, 0, rfl, Blk.new' w2 46 #[_], ⟨rfl, Nat.le_refl _, Nat.zero_le _, Nat.zero_le _, fun h => by omega⟩, fun a e => by cases e; show g < _; rw [World.size_alloc]; omega, bt hb1 (below_alloc w2 _)⟩
theorem sortedO_zero (H : List HdS) : (sortedO H 0) = [] := List.eq_nil_of_length_eq_zero (sortedO_length H 0)
theorem order_all (p : Option Addr) (n c : Nat) (H : List HdS) (w : World) (hH : HdrsIn w p n c H) (hn : n ≤ 60) :
    Calls Try.prog 23 #[.slice p n c] w fun e w' => ∃ Bs p1 c1, e = .returned (.func (.func 63) #[] #[.pointer (some ⟨Bs, 0, none⟩)]) ∧ Blk w' Bs 46 [.slice p1 n c1] ∧ InI w' p1 n c1 (natsI ((sortedO H n).map fun k => k.1)) ∧ (∀ a, p1 = some a → a.block < w'.heap.size) ∧ Below w.heap.size w w' := by
  rcases Nat.eq_zero_or_pos n with rfl | h
  · rw [sortedO_zero]
    exact order_zero p c w
  · exact order_any p n c H w hH hn h
theorem hdrsPre (p : Option Addr) (n c k : Nat) (h : k ≤ n) (hc : n ≤ c) (W : World) : (Instr.slice 42 (.slice p n c) none (some (.int .i64 (k : Int))) none).run Try.prog W = .ok (.slice p k c) W := by
  simp [Instr.slice, Instr.sliceBounds, Instr.sliceBound, run_underlying Try.underlying42, asIntOf]
  rw [if_pos (by omega)]
  have : (Option.map (fun x : Addr => x.add 0) p) = p := by
    cases p with
    | none => rfl
    | some a => simp [Addr.add]
  simp [this]
theorem min_two (n M : Nat) (z : Int) (hz : z = (M : Int)) : ∃ k, k ≤ n ∧ k ≤ M ∧ ∀ W, (Builtin.min_ #[3, 3] 3 #[Value.int IntKind.i64 (n : Int), Value.int IntKind.i64 z]).run Try.prog W = .ok (.int .i64 (k : Int)) W := by
  subst hz
  by_cases h : (M : Int) < (n : Int)
  · exact ⟨M, by omega, Nat.le_refl _, fun W => by rw [run_min_int2]; simp only [if_pos h]⟩
  · exact ⟨n, Nat.le_refl _, by omega, fun W => by rw [run_min_int2]; simp only [if_neg h]⟩
theorem HdrsIn.pre {w : World} {p : Option Addr} {n c k : Nat} {H : List HdS} (h : HdrsIn w p n c H) (hk : k ≤ n) : HdrsIn w p k c (H.take k) := by
  refine ⟨by rw [List.length_take, h.len]; omega, Nat.le_trans hk h.cap, h.max, h.nil, fun h0 => ?_⟩
  obtain ⟨b, o, hp, hl, hc⟩ := h.at' (by omega)
  refine ⟨b, o, hp, hl, fun i hi => ?_⟩
  have e : hAt (H.take k) i = hAt H i := by simp [hAt, List.getD_eq_getElem?_getD, List.getElem?_take_of_lt hi]
  rw [e]
  exact hc i (by omega)
theorem seq_nil (w : World) (f : Fn) (a b : Array Value) : (binOp .eql 44 (.func f a b) .nilFunc).run Try.prog w = .ok (.bool false) w := by
  have h : ∀ d : Nat, (Op.equalIn (d + 1) 44 (.func f a b) .nilFunc).run Try.prog w = .ok false w := fun d => by
    simp [Op.equalIn]
  simp only [binOp]
  simp [Op.equal, Op.maxDepth, h 9999]
theorem valsK_snoc {N : Nat} (pre : List (IdxT N)) (x : IdxT N) : valsI (valsK (pre ++ [x])) = valsI (valsK pre) ++ [.int .i64 (x.1 : Int)] := by simp [valsK, valsI]
theorem valsK_nats {N : Nat} (ks : List (IdxT N)) : natsI (ks.map fun k => k.1) = valsK ks := by simp [valsK, natsI]
theorem KpK.of_below {Bs : Nat} {p : Option Addr} {A B : World} {m : Nat} (h : Below m A B) (h1 : Bs < m) (h2 : ∀ a, p = some a → a.block < m) : KpK Bs p A B := ⟨⟨h.block Bs h1, h.size⟩, fun a e => h.block _ (h2 a e)⟩
/-- What the list holds. -/
def GotI {N : Nat} (n₀ g : Nat) (w : World) (pre : List (IdxT N)) (W : World) : Prop :=
  (∃ v, Boxed W g 46 v ∧ W.ownsRow g 3 1 v pre.length (valsI (valsK pre)) ∧ True) ∧ (Below n₀ w W ∧ pre.length ≤ 60)
set_option linter.unusedSimpArgs false in
set_option maxRecDepth 100000 in
set_option maxHeartbeats 4000000 in
theorem orders_in (nf : Nat) (hnf : 4 ≤ nf) (p : Option Addr) (n c : Nat) (H : List HdS) (w : World) (hH : HdrsIn w p n c H) :
    CallsIn Fence.wide nf Try.prog 5 #[.slice p n c] w fun e w' => e = .returned (.bool true) ∧ Below w.heap.size w w' := by
  obtain ⟨i0, hi, hz0, hz1, hz2⟩ := info_parts info3
  obtain ⟨k, hk, hk60, hmin⟩ := min_two n 60 60 rfl
  have hsl := hdrsPre p n c k hk hH.cap
  have h1 : 1 ≤ nf := by omega
  have hHk := hH.pre hk
  generalize H.take k = HK at *
  have hfn := fun W a b => seq_nil W (.func 63) a b
  refine callsIn_of_wp_marks Try.func5 rfl trivial ?_ rfl
  simp only [Try.ntmps5, List.size_toArray, List.length_cons, List.length_nil, Nat.reduceAdd, Nat.reduceSub, Array.replicate_succ, Array.replicate_zero, List.push_toArray, List.append_toArray, List.nil_append, List.cons_append]
  gi_wp2_with (first
    | (refine ⟨trivial, ?_⟩; gi_at_call 9; refine (callsIn_wide.2 (plive_any _)).mono ?_; rintro e w1 ⟨rfl, hb1⟩)
    | (refine ⟨trivial, ?_⟩; gi_at_call 23; refine (callsIn_wide.2 (order_all p k c HK _ (hHk.below hb1) hk60)).mono ?_; rintro e w2 ⟨Bs, p1, c1, rfl, hbs, hin, hlow, hb2⟩))
  have hB2 := bt hb1 hb2
  have hltb := hbs.lt
  have b5 := Boxed.new w2 46 (.slice none 0 0)
  have hb3 := below_alloc w2 (.cells #[.slice none 0 0] 46)
  have hB3 := bt hB2 hb3
  have hcb := (hbs.kept hb3).cell' (i := 0) rfl
  rw [valsK_nats] at hin
  have hin0 := hin.below hb3
  have HSL : Hid ((sortedO HK k).length = k) := sortedO_length HK k
  have HSO : Hid (OrdL HK k ((sortedO HK k).map fun k => k.1)) := sortedO_ord HK k
  generalize sortedO HK k = ks at *
  have hsz : w2.heap.size + 1 ≤ (w2.alloc (.cells #[.slice none 0 0] 46)).heap.size := by rw [World.size_alloc]; omega
  have hlow2 : ∀ a, p1 = some a → a.block < w2.heap.size := hlow
  generalize hV0 : w2.alloc (.cells #[.slice none 0 0] 46) = V0 at *
  have hOB : OwnFrom V0.heap.size (fun (_ : List (IdxT k)) W' => Below w.heap.size w W') := ownFrom_below (Nat.le_refl _) hB3.size
  have hcb' : V0.cell? ⟨Bs, 0, none⟩ = some (.slice p1 ks.length c1) := by rw [HSL.out]; exact hcb
  have hin' : InI V0 p1 ks.length c1 (valsK ks) := by rw [HSL.out]; exact hin0
  refine wpIn_rangeFunc_ownF rfl h1 (gf := 63) (lb := #[.pointer (some ⟨Bs, 0, none⟩)]) rfl trivial (enters_of Try.func63 (by kernel_rfl) rfl)
    (values_stops Fence.wide (nf - 1) trivial rfl (by omega) Bs c1 p1 ks V0 (by omega) hcb' hin') (fun h k => h.trans k) (fun W' l o o' hl _ _ _ => ⟨⟨World.putObj_heap_other (by omega), by simp [World.putObj]⟩, fun a e => World.putObj_heap_other (by have := hlow2 a e; omega)⟩) (Below.refl _ _) (fun _ => rfl)
    (fun pre W' => GotI w.heap.size w2.heap.size w pre W')
    (fun _ _ _ => False)
    (OwnFrom.and (Own.from (holdsRow_own w2.heap.size w2.heap.size 46 3 1 (fun pre : List (IdxT k) => pre.length) (fun pre => valsI (valsK pre)) (fun _ _ => True)) _) (fun s A B row hs hg hr => ⟨hOB s A B row hs.1 hg hr, hs.2⟩))
    (fun _ _ _ _ _ hs _ _ => hs)
    ⟨⟨_, b5, World.ownsRow_nil _ _ _ _, trivial⟩, hB3, Nat.zero_le _⟩
    (fun x => { tmps := #[.slice p k c, undef, .bool false, .func (.func 63) #[] #[.pointer (some ⟨Bs, 0, none⟩)], .pointer (some ⟨w2.heap.size, 0, none⟩), .int .i64 (x.1 : Int), .bool true, .bool false, .slice p n c, .slice p n c, .int .i64 (n : Int), .int .i64 (k : Int), .slice p k c, .slice p k c, .func (.func 63) #[] #[.pointer (some ⟨Bs, 0, none⟩)], .func (.func 63) #[] #[.pointer (some ⟨Bs, 0, none⟩)], .bool false, .func (.func 63) #[] #[.pointer (some ⟨Bs, 0, none⟩)], .int .i64 (x.1 : Int), undef, undef, undef, undef, undef, undef, undef, undef], defers := [] })
    ?assign ?body ?done ?stop
  case assign =>
    intro l x W' K hK
    dsimp only [encK]
    gi_wp2
    exact hK
  case body =>
    rintro l pre x W' ⟨⟨v, h5, hrow, _⟩, hB, hle⟩ hlen
    obtain ⟨j, hj⟩ : ∃ j, pre.length = j := ⟨_, rfl⟩
    have HJ : Hid (pre.length = j) := hj
    rw [hj] at hrow hle hlen
    clear hj
    have hj60 : j < 60 := by have := HSL.out; omega
    obtain ⟨pv, cv, rfl, hinv⟩ := in_of_ownsI hrow (by omega)
    clear hinv
    have g5 := h5.cell
    have l5 := h5.lt
    have hs5 := hB.size
    gi_wp2_with (gi_at_builtin; refine wpListIn_append_own _ rfl (.tmp 19) (.tmp 21) 46 rfl w2.heap.size 3 i0 (.int .i64 0) 1 8 Try.underlying46 hi hz0 hz1 hz2 rfl (by decide) (.slice pv j cv) j (valsI (valsK pre)) rfl (hrow.alloc _) ⟨W'.heap.size, 0, none⟩ 1 1 [.int .i64 (x.1 : Int)] rfl rfl (new_one W' _) (by simp [Value.oneCell']) (by unfold maxLen; omega) (by omega) (by rw [World.size_alloc]; omega) ?_; intro v1 w1' hown1 hgrow1 _; obtain ⟨g', cap', rfl⟩ := ownsRow_succ hown1; obtain ⟨hv1, hv2, hr2, hk2, hbb2⟩ := h5.appended (by decide) hrow (by omega) (Nat.le_refl _) hown1 hgrow1; have hc1 := hv1.cell; have hf1 := hv1.frozen)
    rw [← valsK_snoc] at hr2
    refine ⟨hk2, KpK.of_below hbb2 hltb hlow2, ⟨_, hv2, by rw [List.length_append, HJ.out]; exact hr2, trivial⟩, hB.trans (hbb2.mono hB2.size), by rw [List.length_append, HJ.out]; show j + 1 ≤ 60; omega⟩
  case stop =>
    rintro D cc pre W' _ _ h _
    exact h.elim
  case done =>
    rintro D ys W' hD rfl ⟨⟨v, h5, hrow, _⟩, hB, hle⟩ hK
    rw [HSL.out] at hrow
    obtain ⟨pv, cv, rfl, hinv⟩ := in_of_ownsI hrow (by omega)
    have l5 := h5.lt
    have g5 := h5.cell
    have hHw := hH.below hB
    have hHk' : HdrsIn W' p k c HK := by exact (hHk.below hB)
    gi_wp2_with fail
    refine wpIn_wide.2 ?_
    refine wp_region_noPanic ?_
    refine wp_region_held_drew (S := fun w' => Below W'.heap.size W' w') (by kernel_rfl) ((Below.refl _ _).drew) (fun hHeld => ?_)
    refine wpAnyH_take (i := 0) (v := ?_) rfl (by kernel_rfl) (by kernel_rfl) (by kernel_rfl) (fun _ _ _ h => h) (Or.inl ⟨by rfl, ?_⟩) hHeld ?_
    rotate_left
    · intro w' hSw; try dsimp only at hSw
      have z := (hSw.cell (p := ⟨w2.heap.size, 0, none⟩) l5).trans g5
      go_simp; try (with_reducible rfl)
    try simp only [Act.put, List.getElem_toArray, List.getElem_cons_succ, List.getElem_cons_zero, List.setIfInBounds_toArray, List.set_cons_zero, List.set_cons_succ]
    refine wpAnyH_take (i := 1) (v := ?_) rfl (by kernel_rfl) (by kernel_rfl) (by kernel_rfl) (fun _ _ _ h => h) (Or.inl ⟨by rfl, ?_⟩) hHeld ?_
    rotate_left
    · intro w' hSw; try dsimp only at hSw
      go_simp; try (with_reducible rfl)
    try simp only [Act.put, List.getElem_toArray, List.getElem_cons_succ, List.getElem_cons_zero, List.setIfInBounds_toArray, List.set_cons_zero, List.set_cons_succ]
    refine wpAnyH_ready (rs := [2]) (by kernel_rfl) (by simp) ?_
    refine AllReadyH.cons rfl (fun K hK => ?_) AllReadyH.nil
    go_simp
    refine (rord_any p k c HK _ (hHk'.below hHeld) hk60).mono ?_
    rintro e Z1 ⟨p7, c7, M7, rfl, hM7, hin7, hz1⟩
    try go_wp2_with fail
    refine hK.out _ _ (hHeld.trans (hz1.mono hHeld.size)) (fun hHeld => ?_)
    clear hK K
    try simp only [Act.put, List.getElem_toArray, List.getElem_cons_succ, List.getElem_cons_zero, List.setIfInBounds_toArray, List.set_cons_zero, List.set_cons_succ]
    have hME : M7 = ys.map fun k => k.1 := hM7.unique HSO.out
    rw [hME, valsK_nats] at hin7
    clear hME hM7
    refine wpAnyH_ready (rs := [3]) (by kernel_rfl) (by simp) ?_
    refine AllReadyH.cons rfl (fun K hK => ?_) AllReadyH.nil
    go_simp
    refine (equalI_any _ _ _ _ _ _ _ _ _ (hinv.below hHeld) hin7).mono ?_
    rintro e Z2 ⟨rfl, hz2'⟩
    rw [show (valsK ys == valsK ys) = true from by simp]
    try go_wp2_with fail
    refine hK.out _ _ (hHeld.trans (hz2'.mono hHeld.size)) (fun hHeld => ?_)
    clear hK K
    try simp only [Act.put, List.getElem_toArray, List.getElem_cons_succ, List.getElem_cons_zero, List.setIfInBounds_toArray, List.set_cons_zero, List.set_cons_succ]
    refine wpAnyH_take (i := 4) (v := ?_) rfl (by kernel_rfl) (by kernel_rfl) (by kernel_rfl) (fun _ _ _ h => h) (Or.inl ⟨by rfl, ?_⟩) hHeld ?_
    rotate_left
    · intro w' hSw; try dsimp only at hSw
      go_simp; try (with_reducible rfl)
    try simp only [Act.put, List.getElem_toArray, List.getElem_cons_succ, List.getElem_cons_zero, List.setIfInBounds_toArray, List.set_cons_zero, List.set_cons_succ]
    refine wpAnyH_done (by kernel_rfl) ?_ _
    refine NoPanic.normal ?_
    gi_wp2
    refine ⟨by simp, .inl ⟨_, _, rfl, run_takeDeferred (by rw [hHeld.block D (Array.getElem?_eq_some_iff.1 hK).1]; exact hK), ?_⟩⟩
    refine ⟨_, results_tmp Try.results5 _ _ _, rfl, ?_⟩
    have hBB := hB.trans (hHeld.mono hB.size)
    exact hBB.trans (belowK_b (w := w) (Nat.le_refl _) _ D _ _ (by have := hB3.size; omega) (by rw [hHeld.block D (Array.getElem?_eq_some_iff.1 hK).1]; exact hK) rfl rfl)
theorem orders_any (p : Option Addr) (n c : Nat) (H : List HdS) (w : World) (hH : HdrsIn w p n c H) :
    Calls Try.prog 5 #[.slice p n c] w fun e w' => e = .returned (.bool true) ∧ Below w.heap.size w w' :=
  (callsIn_wide (n := 4)).1 (orders_in 4 (Nat.le_refl _) p n c H w hH)
theorem cells3 : Try.prog.cellsOf 3 = 1 := by kernel_rfl
theorem cells2 : Try.prog.cellsOf 2 = 1 := by kernel_rfl
theorem block_lt_of_cell' {W : World} {b o : Nat} {v : Value} (h : W.cell? ⟨b, o, none⟩ = some v) : b < W.heap.size := by
  rcases Nat.lt_or_ge b W.heap.size with h' | h'
  · exact h'
  · simp [World.cell?, Array.getElem?_eq_none h'] at h
set_option maxRecDepth 100000 in
theorem openHdrs {K : Type} {enc : TypeId × Value → K} {W : World} {a : Option Addr} {len cap : Nat} {d : DataW K} {p : List MemPlace}
    (h : DataW.Trod enc Try.prog W 0 (fun _ => true) true 42 (.slice a len cap) d p) : ∃ H, HdrsIn W a len cap H := by
  obtain ⟨fuel, hf⟩ := h
  rcases Go.Deep.open_slice Try.underlying42 hf with ⟨hcs, _⟩ | ⟨x, l, c, m, n, D, Pl, hcs, _, hl, hm, hmm, _, hx⟩
  · simp [Value.cells] at hcs
    obtain ⟨rfl, rfl, rfl⟩ := hcs
    exact ⟨[], rfl, Nat.le_refl _, Nat.zero_le _, fun _ => rfl, fun h => by omega⟩
  · simp [Value.cells] at hcs
    obtain ⟨rfl, rfl, rfl⟩ := hcs
    simp only [if_true] at hmm
    subst hmm
    have hsp : 0 < len → x.spot = none := by
      intro h0
      obtain ⟨cs', h1, _⟩ := hx 0 (by omega)
      rw [cellsH] at h1
      obtain ⟨_, hlen, hcell⟩ := World.cells?_some h1
      have c0 := hcell 0 (by omega)
      rw [Nat.zero_mul, Go.Deep.add_add, List.getElem?_eq_getElem (by omega)] at c0
      simpa [Addr.add] using World.cell?_spot c0
    have each : ∀ i, i < len → ∃ q : HdS, x.spot = none ∧ x.block < W.heap.size ∧ W.cell? ⟨x.block, x.off + i * 4, none⟩ = some (.int .i64 q.k) ∧ W.cell? ⟨x.block, x.off + i * 4 + 1, none⟩ = some (.int .i64 q.g) ∧ W.cell? ⟨x.block, x.off + i * 4 + 2, none⟩ = some (.int .i64 q.s) ∧ W.cell? ⟨x.block, x.off + i * 4 + 3, none⟩ = some (.int .i64 q.t) := by
      intro i hi
      obtain ⟨cs', h1, h2⟩ := hx i (by omega)
      rw [cellsH] at h1
      obtain ⟨_, hlen, hcell⟩ := World.cells?_some h1
      obtain ⟨xs, k, hk, hxy, _, hxl, hfl⟩ := DataW.trod_struct Try.underlying23 h2
      match xs, hxl, cs', hlen with
      | [y0, y1, y2, y3], _, [v0, v1, v2, v3], _ =>
        have g0 := hfl 0 _ rfl
        have g1 := hfl 1 _ rfl
        have g2 := hfl 2 _ rfl
        have g3 := hfl 3 _ rfl
        simp [cells3, cells2] at g0 g1 g2 g3
        obtain ⟨z0, e0, _, _⟩ := DataW.trod_int Try.underlying3 g0
        obtain ⟨z1, e1, _, _⟩ := DataW.trod_int Try.underlying3 g1
        obtain ⟨z2, e2, _, _⟩ := DataW.trod_int Try.underlying2 g2
        obtain ⟨z3, e3, _, _⟩ := DataW.trod_int Try.underlying2 g3
        cases e0; cases e1; cases e2; cases e3
        have c0 := hcell 0 (by omega)
        have c1 := hcell 1 (by omega)
        have c2 := hcell 2 (by omega)
        have c3 := hcell 3 (by omega)
        rw [Go.Deep.add_add] at c0 c1 c2 c3
        have hs := hsp (by omega)
        obtain ⟨xb, xo, xs'⟩ := x
        dsimp only at hs
        subst hs
        rw [addr_add] at c0 c1 c2 c3
        have hlt := block_lt_of_cell' (c0.trans (by rfl))
        refine ⟨⟨z0, z1, z2, z3⟩, rfl, hlt, ?_, ?_, ?_, ?_⟩
        · simpa using c0
        · simpa [Nat.add_assoc] using c1
        · simpa [Nat.add_assoc] using c2
        · simpa [Nat.add_assoc] using c3
    obtain ⟨q, hq⟩ := @Go.Deep.choose_lt HdS ⟨⟨0, 0, 0, 0⟩⟩ _ _ each
    refine ⟨(List.range len).map q, by simp, hl, hm, fun h => (by cases h), fun h0 => ?_⟩
    have h00 := hq 0 h0
    obtain ⟨xb, xo, xs'⟩ := x
    have hs : xs' = none := h00.1
    subst hs
    refine ⟨xb, xo, rfl, h00.2.1, fun i hi => ?_⟩
    have e : hAt ((List.range len).map q) i = q i := by simp [hAt, List.getD_eq_getElem?_getD, hi]
    rw [e]
    exact (hq i hi).2.2
set_option maxRecDepth 100000 in
theorem orders_lifted (os : Os) (started : os.Started) (H : Type) (enc : TypeId × Value → H) :
    ReturnsInHanded {} Try.checked os 5 .any (Rows.pageOrdersSpec.pre6 enc Try.prog Try.f5 Rows.pageOrdersRow.domain false) (Rows.pageOrdersSpec.post enc Try.prog Try.f5 false true false false) := by
  refine returnsInHanded_of_change_sized (C := Try.checked) own started (by kernel_rfl) Try.func5
    (ChangeSpec.witness6 (enc := enc) (C := Try.checked) false ⟨#[], #[.slice none 0 0], []⟩ 8 (by kernel_rfl) (by kernel_rfl) (by kernel_rfl) (by kernel_rfl)) ?_
  intro W base args ds gs before hval0 hW hcnd hsz0 _
  have hval : ∀ (j : Nat) t v, Try.f5.params[j]? = some t → args[j]? = some v → Value.okWide Try.prog W .any base t v := hval0
  have hW' := hW
  obtain ⟨p, q, hA0, hV, rfl, hfz, hnd⟩ := hW
  have hA : DataW.TrodAll enc Try.prog W 0 (fun _ => true) true Try.f5.params.toList args.toList ds p := hA0
  rw [Try.params5] at hA hval
  obtain ⟨v0, vs0, d0, ds0, p0, q0, hargs, rfl, rfl, h0, r0⟩ := trodAll_cons hA
  obtain ⟨rfl, rfl, rfl⟩ := trodAll_nil r0
  obtain rfl : args = #[v0] := by cases args; simp_all
  obtain ⟨rfl, rfl⟩ := trodVars_none hV
  obtain ⟨a1, len1, cap1, rfl⟩ := okWide_slice Try.underlying42 (hval 0 42 v0 rfl rfl)
  have lt0 : ∀ x ∈ p0, x.block < W.heap.size := by obtain ⟨m, hm⟩ := h0; exact DataW.trod_lt m _ _ _ hm
  obtain ⟨Hs, ho1⟩ := openHdrs h0
  clear hA0 hval0 hsz0
  refine (orders_any a1 len1 cap1 Hs W ho1).mono fun e W' ⟨he, bel⟩ => ?_
  subst he
  exact ⟨_, rfl, _, _, _, [], _, [], hW', trodAll_mk1 (shut_bool Try.underlying4 _), (trodAll_cons_mk (Below.trod laidOut (by kernel_rfl) (of_decide_eq_true (by kernel_rfl)) h0 bel lt0) trodAll_mk0), rfl, bel.frame _, fun h => by cases h⟩
theorem pageOrders_holds : Rows.PageOrdersSaid :=
  OpenClaim.holds_of_wide 5 Try.f5 rfl rfl rfl rfl rfl rfl rfl ⟨rfl, rfl, rfl, rfl, rfl⟩ rfl rfl rfl rfl rfl (by kernel_rfl) Try.func5 (by kernel_rfl)
    (of_decide_eq_true (by kernel_rfl)) (by unfold Func.isWrapper; first | (rw [if_pos (by decide +kernel)]; kernel_rfl) | (rw [if_neg (by decide +kernel)]; exact ⟨rfl, rfl⟩))
    (fun os started H enc _ => orders_lifted os started H enc)
#print axioms pageOrders_holds
end Go.Proofs.Ytmagcohdhljaeaa
