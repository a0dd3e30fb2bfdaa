/-
  What slices.Grow of nothing and slices.Concat of two slices of writes answer.
-/
import Derived.Test.YtbnnekpglnnneaaDkClone
import Derived.Test.YtbnnekpglnnneaaDkSmall
import Derived.Lib.AppendZeros
namespace Go.Proofs.Ytbnnekpglnnneaa
open Go.RowKit
structure InW (w : World) (p : Option Addr) (n c : Nat) (l : List (Nat × List Nat)) : Prop where
  len : l.length = n
  ok : ∀ x ∈ l, Is x.2
  at' : ∀ a, p = some a → 0 < n → a.block < w.heap.size ∧ ∀ j u, (flatW l)[j]? = some u → w.cell? (a.add j) = some u
  nil : p = none → n = 0 ∧ c = 0
theorem InW.below {w w' : World} {B : Nat} {p : Option Addr} {n c : Nat} {l : List (Nat × List Nat)} (h : InW w p n c l) (hb : Below B w w') (hB : w.heap.size ≤ B) : InW w' p n c l :=
  ⟨h.len, h.ok, fun a ha h0 => by
    obtain ⟨h1, h2⟩ := h.at' a ha h0
    refine ⟨Nat.lt_of_lt_of_le h1 hb.size, fun j u hj => ?_⟩
    have hbl : (a.add j).block = a.block := by simp [Addr.add]; split <;> rfl
    exact (hb.cell (p := a.add j) (by rw [hbl]; omega)).trans (h2 j u hj), h.nil⟩
theorem InW.flat {w : World} {p : Option Addr} {n c : Nat} {l : List (Nat × List Nat)} (h : InW w p n c l) {a : Addr} (ha : p = some a) : ∀ j u, (flatW l)[j]? = some u → w.cell? (a.add j) = some u := by
  intro j u hu
  rcases Nat.eq_zero_or_pos n with h0 | h0
  · have hl := h.len
    rw [h0] at hl
    rw [List.eq_nil_of_length_eq_zero hl] at hu
    simp [flatW] at hu
  · exact (h.at' a ha h0).2 j u hu
theorem flatW_append (a b : List (Nat × List Nat)) : flatW (a ++ b) = flatW a ++ flatW b := by simp [flatW]
theorem zeroW : (Value.agg (wrV (0, z256)).toArray).cells.size = 257 := by rw [Value.cells, List.size_toArray]; exact wrV_length z256_length
theorem slice_none0 (W : World) : (Instr.slice 63 (.slice none 0 0) none (some (.int .i64 0)) none).run Try.prog W = .ok (.slice none 0 0) W := by
  obtain ⟨i0, hi, _, _, _⟩ := info_parts infoWr
  simp [Instr.slice, Instr.sliceBounds, Instr.sliceBound, run_underlying Try.underlying63, asIntOf, sizeOf, typeInfo, hi]
theorem slice_zero (g n c : Nat) (W : World) : (Instr.slice 63 (.slice (some ⟨g, 0, none⟩) n c) none (some (.int .i64 0)) none).run Try.prog W = .ok (.slice (some ⟨g, 0, none⟩) 0 c) W := by
  simp [Instr.slice, Instr.sliceBounds, Instr.sliceBound, run_underlying Try.underlying63, asIntOf]
  intro _
  simp [Addr.add]
set_option maxRecDepth 100000 in
set_option maxHeartbeats 1000000 in
theorem growW_any (N : Nat) (hN : N ≤ 1000000) (w : World) : Calls Try.prog 64 #[.slice none 0 0, .int .i64 (N : Int)] w fun e w' => ∃ v, e = .returned v ∧ w'.ownsRow w.heap.size 87 257 v 0 (flatW []) ∧ Below w.heap.size w w' := by
  obtain ⟨i0, hi, hz0, hz1, hz2⟩ := info_parts infoWr
  by_cases h0 : N = 0
  · subst h0
    go_enter Try.func64, Try.ntmps64
    go_wp2
    go_ret
    exact ⟨_, rfl, World.ownsRow_nil _ _ _ _, Below.refl _ _⟩
  · have hpos : (0 : Int) < (N : Int) := by omega
    have hz1' := zeroW
    generalize Value.agg (wrV (0, z256)).toArray = zv at *
    have happ := Lib.run_append_nil_zeros (P := Try.prog) w 63 3 63 87 i0 zv .i64 .i64 Try.underlying63 Try.underlying3 hi hz0 N (by omega) (by omega) (by omega) (by rw [hz2]; omega)
    have hcapge : N ≤ grownCap w N 0 87 := grownCap_ge w _ 0 87
    have hcaple : grownCap w N 0 87 ≤ maxLen := grownCap_le_maxLen w _ 0 87 (by unfold maxLen; omega)
    generalize grownCap w N 0 87 = cap at *
    generalize hZ : (Builtin.zeroCells zv.cells N ++ Builtin.zeroCells zv.cells (cap - N)) = Z at *
    have hZs : Z.size = cap * 257 := by rw [← hZ]; simp [size_zeroCells, hz1']; omega
    have HA : Hid ((Builtin.append_ #[63, 3] 63 #[.slice none 0 0, .int .i64 (N : Int)]).run Try.prog w = .ok (.slice (some ⟨w.heap.size, 0, none⟩) N cap) (w.drew.alloc (.cells Z 87))) := happ
    have hb : Below w.heap.size w (w.drew.alloc (.cells Z 87)) := (Below.refl _ _).drew.alloc (Nat.le_refl _) _
    have hs1 := slice_none0
    have hs2 := slice_zero w.heap.size N cap
    clear happ hZ
    go_enter Try.func64, Try.ntmps64
    go_wp2_with (at_builtin; refine Lib.wpList_append_run _ rfl _ _ _ _ rfl _ _ rfl rfl _ _ HA.out ?_)
    go_ret
    refine ⟨_, rfl, ⟨rfl, .inr ⟨w.heap.size, cap, Z, rfl, Nat.le_refl _, ?_, Nat.zero_le _, hcaple, hZs, rfl⟩⟩, hb⟩
    exact heap_alloc_new w _
theorem wpList_append_wrs {ops : Array Oper} {rest : List Oper} {o : Oper} {a : Act} {w : World} {Q : Exit → Act → World → Prop} (hgd : o.guard = none) (s x : Operand)
    (ho : o.op = .call { callee := .builtin .append, args := #[s, x], argTypes := #[63, 63] }) (B : Nat) (v : Value) (m : Nat) (l : List (Nat × List Nat)) (hs : a.eval s = v) (hown : w.ownsRow B 87 257 v m (flatW l)) (p : Option Addr) (n c : Nat) (k : List (Nat × List Nat)) (hx : a.eval x = .slice p n c) (hin : InW w p n c k)
    (hmn : m + n ≤ 1000000) (hB : B ≤ w.heap.size)
    (h : ∀ v' w', w'.ownsRow B 87 257 v' (m + n) (flatW (l ++ k)) → Below B w w' → wpList Try.prog ops Q rest (a.put o.dst v') w') : wpList Try.prog ops Q (o :: rest) a w := by
  obtain ⟨i0, hi, hz0, hz1, hz2⟩ := info_parts infoWr
  cases p with
  | none =>
    obtain ⟨h3, h1⟩ := hin.nil rfl
    subst h1
    subst h3
    have h4 : k = [] := List.eq_nil_of_length_eq_zero hin.len
    subst h4
    have hrun := run_append_owned_none (P := Try.prog) (w := w) B 63 o.type 87 i0 257 Try.underlying63 hi v m (flatW l) hown
    refine wpList_plain hgd fun K hK => ?_
    unfold Oper.wp
    simp [execOp, ho, resolve, invoke, builtin, hs, hx, hrun, Result.andThen]
    exact hK _ _ (h v w (by rw [List.append_nil]; exact hown) (Below.refl _ _))
  | some ad =>
    refine wpList_append_own _ hgd s x 63 ho B 87 i0 _ 257 264 Try.underlying63 hi hz0 hz1 hz2 zeroW (by decide) v m (flatW l) hs hown ad n c (flatW k) hx (by rw [flatW_length hin.ok, hin.len]) (hin.flat rfl) (flatW_one k) (by unfold maxLen; omega) (by omega) hB ?_
    intro v' w' hown' hgrow _
    rw [← flatW_append] at hown'
    exact h v' w' hown' ((Below.refl _ _).grown hgrow hB (fun j hj => (hown.lt j hj).1))
set_option linter.unusedSimpArgs false in
set_option maxRecDepth 100000 in
set_option maxHeartbeats 2000000 in
theorem concatW_any (gs : Nat) (p1 p2 : Option Addr) (n1 c1 n2 c2 : Nat) (l1 l2 : List (Nat × List Nat)) (w : World) (hgs : gs < w.heap.size) (x0 : w.cell? ⟨gs, 0, none⟩ = some (.slice p1 n1 c1)) (x1 : w.cell? ⟨gs, 1, none⟩ = some (.slice p2 n2 c2))
    (h1 : InW w p1 n1 c1 l1) (h2 : InW w p2 n2 c2 l2) (hn : n1 + n2 ≤ 100000) :
    Calls Try.prog 62 #[.slice (some ⟨gs, 0, none⟩) 2 2] w fun e w' => ∃ v, e = .returned v ∧ w'.ownsRow w.heap.size 87 257 v (n1 + n2) (flatW (l1 ++ l2)) ∧ Below w.heap.size w w' := by
  go_enter Try.func62, Try.ntmps62
  go_wp2
  go_loop [3, 11] (fun z i => (z = .int .i64 0 ∧ i = .int .i64 0) ∨ (z = .int .i64 (n1 : Int) ∧ i = .int .i64 1) ∨ (z = .int .i64 ((n1 + n2 : Nat) : Int) ∧ i = .int .i64 2)) (fun _ i => 2 - (intOf i).toNat)
  case atStart => exact .inl ⟨rfl, rfl⟩
  case round =>
    rcases hrel with ⟨rfl, rfl⟩ | ⟨rfl, rfl⟩ | ⟨rfl, rfl⟩
    · go_wp2
      go_round
      case rel => exact .inr (.inl ⟨val_int (by omega), rfl⟩)
      case measure => simp [intOf]
    · go_wp2
      go_round
      case rel => exact .inr (.inr ⟨val_int (by omega), rfl⟩)
      case measure => simp [intOf]
    · obtain ⟨N, HN⟩ : ∃ N : Nat, Hid (N = n1 + n2) := ⟨_, (rfl : n1 + n2 = n1 + n2)⟩
      rw [← HN.out]
      go_wp2_with (go_at_call 64; refine (growW_any N (by rw [HN.out]; omega) _).mono ?_; rintro e w1 ⟨v0, rfl, ho1, hb1⟩)
      go_loopw [6, 27] (fun lv i wr => Below w.heap.size w wr ∧ ((wr.ownsRow w.heap.size 87 257 lv 0 (flatW []) ∧ i = .int .i64 0) ∨ (wr.ownsRow w.heap.size 87 257 lv (0 + n1) (flatW ([] ++ l1)) ∧ i = .int .i64 1) ∨ (wr.ownsRow w.heap.size 87 257 lv (0 + n1 + n2) (flatW (([] ++ l1) ++ l2)) ∧ i = .int .i64 2))) (fun _ i _ => 2 - (intOf i).toNat)
      case atStart => exact ⟨hb1, .inl ⟨ho1, rfl⟩⟩
      case round =>
        obtain ⟨hbel, hrel⟩ := hrel
        have y0 := (hbel.cell (p := ⟨gs, 0, none⟩) hgs).trans x0
        have y1 := (hbel.cell (p := ⟨gs, 1, none⟩) hgs).trans x1
        have g1 := h1.below hbel (Nat.le_refl _)
        have g2 := h2.below hbel (Nat.le_refl _)
        rcases hrel with ⟨hown, rfl⟩ | ⟨hown, rfl⟩ | ⟨hown, rfl⟩
        · have HO : Hid (wr.ownsRow w.heap.size 87 257 _ 0 (flatW [])) := hown
          clear hown
          go_wp2_with (at_builtin; refine wpList_append_wrs rfl (.tmp 31) (.tmp 32) rfl w.heap.size _ 0 [] rfl HO.out p1 n1 c1 l1 rfl g1 (by omega) hbel.size ?_; intro v5 w5 ho5 hb5)
          go_roundw
          case rel => exact ⟨hbel.trans hb5, .inr (.inl ⟨ho5, rfl⟩)⟩
          case measure => simp [intOf]
        · have HO : Hid (wr.ownsRow w.heap.size 87 257 _ (0 + n1) (flatW ([] ++ l1))) := hown
          clear hown
          go_wp2_with (at_builtin; refine wpList_append_wrs rfl (.tmp 31) (.tmp 32) rfl w.heap.size _ (0 + n1) ([] ++ l1) rfl HO.out p2 n2 c2 l2 rfl g2 (by omega) hbel.size ?_; intro v5 w5 ho5 hb5)
          go_roundw
          case rel => exact ⟨hbel.trans hb5, .inr (.inr ⟨ho5, rfl⟩)⟩
          case measure => simp [intOf]
        · have HO : Hid (wr.ownsRow w.heap.size 87 257 _ (0 + n1 + n2) (flatW (([] ++ l1) ++ l2))) := hown
          clear hown
          go_wp2
          go_ret
          have := HO.out
          rw [List.nil_append, Nat.zero_add] at this
          exact ⟨_, rfl, this, hbel⟩
end Go.Proofs.Ytbnnekpglnnneaa
