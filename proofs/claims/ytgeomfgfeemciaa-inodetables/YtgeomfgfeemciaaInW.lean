/-
  What inode.widths answers.
-/
import Derived.Test.YtgeomfgfeemciaaInK
namespace Go.Proofs.Ytgeomfgfeemciaa
open Go.RowKit
theorem ret_arrI {fn : Func} {p : Tmp} (h : fn.results = #[.cell p 52]) {R : Ending → World → Prop} {a : Act} {w : World} {g : Nat} {t : TypeId} {cs : List Value} (hp : a.tmps.getD p undef = .pointer (some ⟨g, 0, none⟩))
    (hb : Blk w g t cs) (hl : cs.length = 20) (hd : a.defers = []) (hR : R (.returned (.agg cs.toArray)) w) : bodyPost Try.prog fn R .ret a w :=
  bodyPost_ret (results_cell_row h _ _ g t cs.toArray (0, 0) _ hp hb Try.underlying52 rfl (by rw [List.size_toArray, hl]; kernel_rfl)) hd hR
/-- The widths as far as k of the four. -/
def wsK (k : Nat) : List Int := hW ++ (List.range 4).flatMap fun j => if j < k then rW else [0, 0, 0]
def wcK (k : Nat) : List Value := (wsK k).map (Value.int .i64)
theorem wcK_len (k : Nat) : (wcK k).length = 20 := by
  unfold wcK wsK
  rw [List.length_map, List.length_append]
  have : ((List.range 4).flatMap fun j => if j < k then rW else [0, 0, 0]).length = 12 := by
    show (((if 0 < k then rW else [0, 0, 0]) ++ ((if 1 < k then rW else [0, 0, 0]) ++ ((if 2 < k then rW else [0, 0, 0]) ++ ((if 3 < k then rW else [0, 0, 0]) ++ [])))) : List Int).length = 12
    have h3 : ∀ (b : Prop) [Decidable b], (if b then rW else [0, 0, 0] : List Int).length = 3 := fun b _ => by split <;> rfl
    simp only [List.length_append, h3, List.length_nil]
  rw [this]; rfl
theorem wcK_set (k : Nat) (h : k < 4) : (((wcK k).set (8 + 3 * k) (.int .i64 24)).set (8 + 3 * k + 1) (.int .i64 16)).set (8 + 3 * k + 2) (.int .i64 32) = wcK (k + 1) := by
  match k, h with
  | 0, _ => rfl
  | 1, _ => rfl
  | 2, _ => rfl
  | 3, _ => rfl
theorem wcK_four : wcK 4 = wsI.map (Value.int .i64) := rfl
theorem wcK_one (k : Nat) : ∀ v ∈ wcK k, v.oneCell' = true := by
  intro v hv
  unfold wcK at hv
  obtain ⟨x, _, rfl⟩ := List.mem_map.1 hv
  rfl
theorem size_arrI {cs : List Value} (h : cs.length = 20) : (Try.prog.info? 52).map (·.size) = some cs.length := by rw [h]; kernel_rfl
theorem size_int : (Try.prog.info? 3).map (·.size) = some 1 := by kernel_rfl
set_option linter.unusedSimpArgs false in
set_option linter.unusedVariables false in
set_option maxRecDepth 100000 in
set_option maxHeartbeats 4000000 in
theorem widths_any (w : World) : Calls Try.prog 28 #[] w fun e w' => e = .returned (.agg (wsI.map (Value.int .i64)).toArray) ∧ Below w.heap.size w w' := by
  have hb0 := below_alloc w (.cells #[.int .i64 0, .int .i64 0, .int .i64 0, .int .i64 0, .int .i64 0, .int .i64 0, .int .i64 0, .int .i64 0, .int .i64 0, .int .i64 0, .int .i64 0, .int .i64 0, .int .i64 0, .int .i64 0, .int .i64 0, .int .i64 0, .int .i64 0, .int .i64 0, .int .i64 0, .int .i64 0] 52)
  have r0 := Blk.new' w 52 #[.int .i64 0, .int .i64 0, .int .i64 0, .int .i64 0, .int .i64 0, .int .i64 0, .int .i64 0, .int .i64 0, .int .i64 0, .int .i64 0, .int .i64 0, .int .i64 0, .int .i64 0, .int .i64 0, .int .i64 0, .int .i64 0, .int .i64 0, .int .i64 0, .int .i64 0, .int .i64 0]
  go_enter Try.func28, Try.ntmps28
  go_upto_region 1 with fail
  generalize hG : w.heap.size = G at *
  generalize w.alloc (.cells #[.int .i64 0, .int .i64 0, .int .i64 0, .int .i64 0, .int .i64 0, .int .i64 0, .int .i64 0, .int .i64 0, .int .i64 0, .int .i64 0, .int .i64 0, .int .i64 0, .int .i64 0, .int .i64 0, .int .i64 0, .int .i64 0, .int .i64 0, .int .i64 0, .int .i64 0, .int .i64 0] 52) = W at *
  have r1 := Blk.new' W 52 #[.int .i64 0, .int .i64 0, .int .i64 0, .int .i64 0, .int .i64 0, .int .i64 0, .int .i64 0, .int .i64 0, .int .i64 0, .int .i64 0, .int .i64 0, .int .i64 0, .int .i64 0, .int .i64 0, .int .i64 0, .int .i64 0, .int .i64 0, .int .i64 0, .int .i64 0, .int .i64 0]
  have hb1 := below_alloc W (.cells #[.int .i64 0, .int .i64 0, .int .i64 0, .int .i64 0, .int .i64 0, .int .i64 0, .int .i64 0, .int .i64 0, .int .i64 0, .int .i64 0, .int .i64 0, .int .i64 0, .int .i64 0, .int .i64 0, .int .i64 0, .int .i64 0, .int .i64 0, .int .i64 0, .int .i64 0, .int .i64 0] 52)
  have r01 := r0.kept hb1
  go_upto_region 2 with (guard_target = wpList _ _ _ (Oper.mk _ (Op.store 52 _ _) _ _ _ _ :: _) _ _; refine wpList_store_blk rfl 52 (.tmp 1) (.tmp 3) rfl _ 0 (wcK 0) rfl rfl r1 (by simp [wcK_len]) (size_arrI (wcK_len 0)) (wcK_one 0) ?_; intro w2 b2 t2)
  rw [whole_row (by rw [wcK_len]; rfl)] at b2
  have q0 := r01.turned t2 (Nat.ne_of_lt r0.lt)
  have hGW : G < W.heap.size := r0.lt
  have hB2 := t2.below (hb0.trans (hb1.mono (Nat.le_of_lt hGW))) (Nat.le_of_lt hGW)
  clear r1 hb1 r01 t2
  generalize W.heap.size = G1 at *
  go_wp2
  go_loopw [2] (fun i wr => ∃ k q : Nat, k ≤ 4 ∧ Hid (q = 8 + 3 * k) ∧ i = .int .i64 (q : Int) ∧ Blk wr G1 52 (wcK k) ∧ Blk wr G 52 #[.int .i64 0, .int .i64 0, .int .i64 0, .int .i64 0, .int .i64 0, .int .i64 0, .int .i64 0, .int .i64 0, .int .i64 0, .int .i64 0, .int .i64 0, .int .i64 0, .int .i64 0, .int .i64 0, .int .i64 0, .int .i64 0, .int .i64 0, .int .i64 0, .int .i64 0, .int .i64 0].toList ∧ Below G w wr) (fun i _ => 30 - (intOf i).toNat)
  case atStart => exact ⟨0, 8, by omega, rfl, rfl, b2, q0, hB2⟩
  case round =>
    obtain ⟨k, q, hk, hq, rfl, hb, hz, hbel⟩ := hrel
    by_cases hlt : k < 4
    · have hq1 : (q : Int) < 20 := by have := hq.out; omega
      have hq2 : (q : Int) + 1 < 20 := by have := hq.out; omega
      have hq3 : (q : Int) + 2 < 20 := by have := hq.out; omega
      have hn1 : q < 20 := by omega
      have hn2 : q + 1 < 20 := by omega
      have hn3 : q + 2 < 20 := by omega
      go_wp2_with (first
        | (guard_target = wpList _ _ _ (Oper.mk _ (Op.store 3 (Operand.tmp 13) _) _ _ _ _ :: _) _ _; refine wpList_store_cell rfl 3 (.tmp 13) (.const (.int .i64 24)) rfl G1 q (.int .i64 24) rfl rfl hb (by rw [wcK_len]; omega) size_int rfl ?_ rfl; intro w5 b5 t5)
        | (guard_target = wpList _ _ _ (Oper.mk _ (Op.store 3 (Operand.tmp 14) _) _ _ _ _ :: _) _ _; refine wpList_store_cell rfl 3 (.tmp 14) (.const (.int .i64 16)) rfl G1 (q + 1) (.int .i64 16) rfl rfl b5 (by rw [List.length_set, wcK_len]; omega) size_int rfl ?_ rfl; intro w6 b6 t6)
        | (guard_target = wpList _ _ _ (Oper.mk _ (Op.store 3 (Operand.tmp 15) _) _ _ _ _ :: _) _ _; refine wpList_store_cell rfl 3 (.tmp 15) (.const (.int .i64 32)) rfl G1 (q + 2) (.int .i64 32) rfl rfl b6 (by rw [List.length_set, List.length_set, wcK_len]; omega) size_int rfl ?_ rfl; intro w7 b7 t7))
      have hs := wcK_set k hlt
      rw [← hq.out] at hs
      rw [hs] at b7
      go_roundw
      case rel => exact ⟨k + 1, q + 3, by omega, by have := hq.out; show _ = _; omega, by go_num, b7, ((hz.turned t5 (by omega)).turned t6 (by omega)).turned t7 (by omega), t7.below (t6.below (t5.below hbel (by omega)) (by omega)) (by omega)⟩
      case measure => simp [intOf]; omega
    · have hq1 : ¬ (q : Int) < 20 := by have := hq.out; omega
      have hk4 : k = 4 := by omega
      rw [hk4] at hb
      clear hk4 hlt hq
      go_wp2_with (first
        | (guard_target = wpList _ _ _ (Oper.mk _ (Op.load 52 (Operand.tmp 1)) _ _ _ _ :: _) _ _; refine wpList_load_mid rfl 52 (.tmp 1) rfl G1 0 rfl (wcK 4) _ (hb.range 0 20 _ (by rw [List.drop_zero, List.take_of_length_le (Nat.le_of_eq (wcK_len 4))])) Try.underlying52 rfl (size_arrI (wcK_len 4)) ?_)
        | (guard_target = wpList _ _ _ (Oper.mk _ (Op.store 52 (Operand.tmp 0) _) _ _ _ _ :: _) _ _; refine wpList_store_blk rfl 52 (.tmp 0) (.tmp 16) rfl _ 0 (wcK 4) rfl rfl hz (by simp [wcK_len]) (size_arrI (wcK_len 4)) (wcK_one 4) ?_; intro w8 b8 t8))
      rw [whole_row (by rw [wcK_len]; rfl)] at b8
      refine ret_arrI rfl rfl b8 (wcK_len 4) rfl ⟨?_, ?_⟩
      · rw [wcK_four]
      · exact t8.below hbel (Nat.le_refl _)
end Go.Proofs.Ytgeomfgfeemciaa
