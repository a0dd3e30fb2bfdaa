/-
  What slices.Grow of nothing and slices.Concat of two slices of pages answer.
-/
import Derived.Test.YtpikaagdiafieabMjRevP
import Derived.Lib.AppendZeros
namespace Go.Proofs.Ytpikaagdiafieab
open Go.RowKit
theorem nilQ (B : Nat) (w : World) : w.ownsRow B 34 7 (.slice none 0 0) 0 (flatQ []) := ⟨rfl, .inl ⟨rfl, rfl⟩⟩
theorem sliceQ_none0 (W : World) : (Instr.slice 22 (.slice none 0 0) none (some (.int .i64 0)) none).run Try.prog W = .ok (.slice none 0 0) W := by
  obtain ⟨i0, hi, _, _, _⟩ := info_parts infoQ
  simp [Instr.slice, Instr.sliceBounds, Instr.sliceBound, run_underlying Try.underlying22, asIntOf, sizeOf, typeInfo, hi]
theorem sliceQ_zero (g n c : Nat) (W : World) : (Instr.slice 22 (.slice (some ⟨g, 0, none⟩) n c) none (some (.int .i64 0)) none).run Try.prog W = .ok (.slice (some ⟨g, 0, none⟩) 0 c) W := by
  simp [Instr.slice, Instr.sliceBounds, Instr.sliceBound, run_underlying Try.underlying22, asIntOf]
  intro _
  simp [Addr.add]
set_option maxRecDepth 100000 in
set_option maxHeartbeats 1000000 in
theorem growP_any (N : Nat) (hN : N ≤ 100000000) (w : World) : Calls Try.prog 24 #[.slice none 0 0, .int .i64 (N : Int)] w fun e w' => ∃ v, e = .returned v ∧ w'.ownsRow w.heap.size 34 7 v 0 (flatQ []) ∧ Below w.heap.size w w' := by
  obtain ⟨i0, hi, hz0, hz1, hz2⟩ := info_parts infoQ
  by_cases h0 : N = 0
  · subst h0
    go_enter Try.func24, Try.ntmps24
    go_wp2
    go_ret
    exact ⟨_, rfl, nilQ _ _, Below.refl _ _⟩
  · have hpos : (0 : Int) < (N : Int) := by omega
    have happ := Lib.run_append_nil_zeros (P := Try.prog) w 22 3 22 34 i0 (.agg #[.int .i64 0, .int .i64 0, .int .i64 0, .int .i64 0, .slice none 0 0, .slice none 0 0, .slice none 0 0]) .i64 .i64 Try.underlying22 Try.underlying3 hi hz0 N (by omega) (by omega) (by omega) (by rw [hz2]; omega)
    have hcapge : N ≤ grownCap w N 0 34 := grownCap_ge w _ 0 34
    have hcaple : grownCap w N 0 34 ≤ maxLen := grownCap_le_maxLen w _ 0 34 (by unfold maxLen; omega)
    generalize grownCap w N 0 34 = cap at *
    generalize hZ : (Builtin.zeroCells (Value.agg #[.int .i64 0, .int .i64 0, .int .i64 0, .int .i64 0, .slice none 0 0, .slice none 0 0, .slice none 0 0]).cells N ++ Builtin.zeroCells (Value.agg #[.int .i64 0, .int .i64 0, .int .i64 0, .int .i64 0, .slice none 0 0, .slice none 0 0, .slice none 0 0]).cells (cap - N)) = Z at *
    have hZs : Z.size = cap * 7 := by rw [← hZ]; simp [size_zeroCells, Value.cells]; omega
    have HA : Hid ((Builtin.append_ #[22, 3] 22 #[.slice none 0 0, .int .i64 (N : Int)]).run Try.prog w = .ok (.slice (some ⟨w.heap.size, 0, none⟩) N cap) (w.drew.alloc (.cells Z 34))) := happ
    have hb : Below w.heap.size w (w.drew.alloc (.cells Z 34)) := (Below.refl _ _).drew.alloc (Nat.le_refl _) _
    have hs1 := sliceQ_none0
    have hs2 := sliceQ_zero w.heap.size N cap
    clear happ hZ
    go_enter Try.func24, Try.ntmps24
    go_wp2_with (at_builtin; refine Lib.wpList_append_run _ rfl _ _ _ _ rfl _ _ rfl rfl _ _ HA.out ?_)
    go_ret
    refine ⟨_, rfl, ⟨rfl, .inr ⟨w.heap.size, cap, Z, rfl, Nat.le_refl _, ?_, Nat.zero_le _, hcaple, hZs, rfl⟩⟩, hb⟩
    exact heap_alloc_new w _
theorem wpList_append_pages {ops : Array Oper} {rest : List Oper} {o : Oper} {a : Act} {w : World} {Q : Exit → Act → World → Prop} (hgd : o.guard = none) (s x : Operand)
    (ho : o.op = .call { callee := .builtin .append, args := #[s, x], argTypes := #[22, 22] }) (B : Nat) (v : Value) (m : Nat) (l : List QP) (hs : a.eval s = v) (hown : w.ownsRow B 34 7 v m (flatQ l)) (p : Option Addr) (n c : Nat) (k : List QP) (hx : a.eval x = .slice p n c) (hin : InQ w p n c k)
    (hmn : m + n ≤ 100000000) (hB : B ≤ w.heap.size)
    (h : ∀ v' w', w'.ownsRow B 34 7 v' (m + n) (flatQ (l ++ k)) → Below B w w' → wpList Try.prog ops Q rest (a.put o.dst v') w') : wpList Try.prog ops Q (o :: rest) a w := by
  obtain ⟨i0, hi, hz0, hz1, hz2⟩ := info_parts infoQ
  cases p with
  | none =>
    have h1 := hin.nil rfl
    have h2 := hin.cap
    have h3 : n = 0 := by omega
    subst h1
    subst h3
    have h4 : k = [] := List.eq_nil_of_length_eq_zero hin.length
    subst h4
    have hrun := run_append_owned_none (P := Try.prog) (w := w) B 22 o.type 34 i0 7 Try.underlying22 hi v m (flatQ l) hown
    refine wpList_plain hgd fun K hK => ?_
    unfold Oper.wp
    simp [execOp, ho, resolve, invoke, builtin, hs, hx, hrun, Result.andThen]
    exact hK _ _ (h v w (by rw [List.append_nil]; exact hown) (Below.refl _ _))
  | some ad =>
    refine wpList_append_own _ hgd s x 22 ho B 34 i0 (.agg #[.int .i64 0, .int .i64 0, .int .i64 0, .int .i64 0, .slice none 0 0, .slice none 0 0, .slice none 0 0]) 7 104 Try.underlying22 hi hz0 hz1 hz2 rfl (by decide) v m (flatQ l) hs hown ad n c (flatQ k) hx (by rw [flatQ_length, hin.length]) (hin.flat rfl) (flatQ_one k) (by unfold maxLen; omega) (by omega) hB ?_
    intro v' w' hown' hgrow _
    rw [← flatQ_append] at hown'
    exact h v' w' hown' ((Below.refl _ _).grown hgrow hB (fun j hj => (hown.lt j hj).1))
set_option linter.unusedSimpArgs false in
set_option maxRecDepth 100000 in
set_option maxHeartbeats 2000000 in
theorem concatP_any (gs : Nat) (p1 p2 : Option Addr) (n1 c1 n2 c2 : Nat) (l1 l2 : List QP) (w : World) (hgs : gs < w.heap.size) (x0 : w.cell? ⟨gs, 0, none⟩ = some (.slice p1 n1 c1)) (x1 : w.cell? ⟨gs, 1, none⟩ = some (.slice p2 n2 c2))
    (h1 : InQ w p1 n1 c1 l1) (h2 : InQ w p2 n2 c2 l2) (hn : n1 + n2 ≤ 10000000) :
    Calls Try.prog 9 #[.slice (some ⟨gs, 0, none⟩) 2 2] w fun e w' => ∃ v, e = .returned v ∧ w'.ownsRow w.heap.size 34 7 v (n1 + n2) (flatQ (l1 ++ l2)) ∧ Below w.heap.size w w' := by
  go_enter Try.func9, Try.ntmps9
  go_wp2
  go_loop [3, 11] (fun z i => (z = .int .i64 0 ∧ i = .int .i64 0) ∨ (z = .int .i64 (n1 : Int) ∧ i = .int .i64 1) ∨ (z = .int .i64 ((n1 + n2 : Nat) : Int) ∧ i = .int .i64 2)) (fun _ i => 2 - (intOf i).toNat)
  case atStart => exact .inl ⟨rfl, rfl⟩
  case round =>
    rcases hrel with ⟨rfl, rfl⟩ | ⟨rfl, rfl⟩ | ⟨rfl, rfl⟩
    · go_wp2
      go_round
      case rel => exact .inr (.inl ⟨val_int (by omega), rfl⟩)
      case measure => simp [intOf]
    · go_wp2
      go_round
      case rel => exact .inr (.inr ⟨val_int (by omega), rfl⟩)
      case measure => simp [intOf]
    · obtain ⟨N, HN⟩ : ∃ N : Nat, Hid (N = n1 + n2) := ⟨_, (rfl : n1 + n2 = n1 + n2)⟩
      rw [← HN.out]
      go_wp2_with (go_at_call 24; refine (growP_any N (by rw [HN.out]; omega) _).mono ?_; rintro e w1 ⟨v0, rfl, ho1, hb1⟩)
      go_loopw [6, 27] (fun lv i wr => Below w.heap.size w wr ∧ ((wr.ownsRow w.heap.size 34 7 lv 0 (flatQ []) ∧ i = .int .i64 0) ∨ (wr.ownsRow w.heap.size 34 7 lv (0 + n1) (flatQ ([] ++ l1)) ∧ i = .int .i64 1) ∨ (wr.ownsRow w.heap.size 34 7 lv (0 + n1 + n2) (flatQ (([] ++ l1) ++ l2)) ∧ i = .int .i64 2))) (fun _ i _ => 2 - (intOf i).toNat)
      case atStart => exact ⟨hb1, .inl ⟨ho1, rfl⟩⟩
      case round =>
        obtain ⟨hbel, hrel⟩ := hrel
        have y0 := (hbel.cell (p := ⟨gs, 0, none⟩) hgs).trans x0
        have y1 := (hbel.cell (p := ⟨gs, 1, none⟩) hgs).trans x1
        have g1 := h1.below hbel
        have g2 := h2.below hbel
        rcases hrel with ⟨hown, rfl⟩ | ⟨hown, rfl⟩ | ⟨hown, rfl⟩
        · have HO : Hid (wr.ownsRow w.heap.size 34 7 _ 0 (flatQ [])) := hown
          clear hown
          go_wp2_with (at_builtin; refine wpList_append_pages rfl (.tmp 31) (.tmp 32) rfl w.heap.size _ 0 [] rfl HO.out p1 n1 c1 l1 rfl g1 (by omega) hbel.size ?_; intro v5 w5 ho5 hb5)
          go_roundw
          case rel => exact ⟨hbel.trans hb5, .inr (.inl ⟨ho5, rfl⟩)⟩
          case measure => simp [intOf]
        · have HO : Hid (wr.ownsRow w.heap.size 34 7 _ (0 + n1) (flatQ ([] ++ l1))) := hown
          clear hown
          go_wp2_with (at_builtin; refine wpList_append_pages rfl (.tmp 31) (.tmp 32) rfl w.heap.size _ (0 + n1) ([] ++ l1) rfl HO.out p2 n2 c2 l2 rfl g2 (by omega) hbel.size ?_; intro v5 w5 ho5 hb5)
          go_roundw
          case rel => exact ⟨hbel.trans hb5, .inr (.inr ⟨ho5, rfl⟩)⟩
          case measure => simp [intOf]
        · have HO : Hid (wr.ownsRow w.heap.size 34 7 _ (0 + n1 + n2) (flatQ (([] ++ l1) ++ l2))) := hown
          clear hown
          go_wp2
          go_ret
          have := HO.out
          rw [List.nil_append, Nat.zero_add] at this
          exact ⟨_, rfl, this, hbel⟩
end Go.Proofs.Ytpikaagdiafieab
