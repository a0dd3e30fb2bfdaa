/-
  layout.All: what its iterator gives.
-/
import Derived.Test.YtbimcdaplnmjdaaLyRound
namespace Go.Proofs.Ytbimcdaplnmjdaa
open Go.RowKit Go.Shelf
attribute [local go_sem] Oper.semAt_some
theorem grown_of {w w' : World} (h : Below w.heap.size w w') : w.grownBy w' none := ⟨h.os, h.tape, h.output, h.size, fun k hk _ => h.block k hk⟩
/-- How many groups, as a natural number. -/
def gNn (b j : Int) : Nat := (grpsN b j).toNat
theorem gNn_cast (b j : Int) : grpsN b j = (gNn b j : Int) ∧ gNn b j ≤ 64 := by
  have := grpsN_rng b j
  unfold gNn
  omega
/-- The groups' numbers. -/
def gs (b j : Int) : List (Fin 64) := (List.finRange 64).take (gNn b j)
theorem gs_length (b j : Int) : (gs b j).length = gNn b j := by
  have := (gNn_cast b j).2
  simp [gs]
  omega
theorem fin_take (k : Nat) (h : k < 64) : (List.finRange 64).take (k + 1) = (List.finRange 64).take k ++ [⟨k, h⟩] := by
  rw [List.take_succ_eq_append_getElem (by simpa using h)]
  simp
/-- What yield is handed. -/
def encG (b j : Int) (x : Fin 64) : Array Value := #[.int .i64 ((x.1 : Nat) : Int), .agg (grpA b j ((x.1 : Nat) : Int))]
/-- The box of the shape lies as it lay. -/
def KpG (B1 : Nat) (A B : World) : Prop := B.heap[B1]? = A.heap[B1]? ∧ A.heap.size ≤ B.heap.size
theorem KpG.refl (B1 : Nat) (A : World) : KpG B1 A A := ⟨rfl, Nat.le_refl _⟩
theorem KpG.trans {B1 : Nat} {A B C : World} (h : KpG B1 A B) (k : KpG B1 B C) : KpG B1 A C := ⟨k.1.trans h.1, Nat.le_trans h.2 k.2⟩
theorem KpG.below {B1 : Nat} {A B : World} (h : Below A.heap.size A B) (h1 : B1 < A.heap.size) : KpG B1 A B := ⟨h.block _ h1, h.size⟩
theorem KpG.turned {B1 g : Nat} {A B : World} (h : Turned A B g) (h1 : B1 ≠ g) : KpG B1 A B := ⟨h.block _ h1, Nat.le_of_eq h.size.symm⟩
theorem all_any (b j : Int) (w : World) :
    Calls Try.prog 42 #[.agg #[.int .i64 b, .int .i64 j]] w fun e w' => e = .returned (.func (.func 66) #[] #[.pointer (some ⟨w.heap.size, 0, none⟩)]) ∧ w' = w.alloc (.cells #[.int .i64 b, .int .i64 j] 24) := by
  go_enter Try.func42, Try.ntmps42
  go_wp2
  go_ret
  exact ⟨rfl, rfl⟩
set_option linter.unusedSimpArgs false in
set_option maxRecDepth 100000 in
set_option maxHeartbeats 4000000 in
/-- All's closure, for every loop body that keeps its box. -/
theorem all1_in (n : Nat) (hn : 2 ≤ n) (l B1 : Nat) (b j : Int) (J Jx : List (Fin 64) → World → Prop) (W : World)
    (hJ : AbidesFrom W.heap.size J)
    (hY : ∀ pre x W, J pre W → pre.length < (gs b j).length → YieldAt Fence.wide (n - 1) Try.prog l (encG b j x) W fun e W' =>
      (e = .returned (.bool true) ∧ J (pre ++ [x]) W' ∧ KpG B1 W W') ∨ (e = .returned (.bool false) ∧ Jx (pre ++ [x]) W'))
    (h1 : Blk W B1 24 [.int .i64 b, .int .i64 j]) (h0 : J [] W) :
    CallsIn Fence.wide n Try.prog 66 #[.func (.yield l) #[] #[], .pointer (some ⟨B1, 0, none⟩)] W fun e W' => (∃ v, e = .returned v) ∧
      ((∃ ys, ys = gs b j ∧ J ys W') ∨ (∃ pre, pre <+: gs b j ∧ Jx pre W')) := by
  have hn1 : 1 ≤ n := by omega
  have hgr := fun w => grps_any b j w
  have HL : Hid ((gs b j).length = gNn b j) := gs_length b j
  have hN64 := (gNn_cast b j).2
  rw [(gNn_cast b j).1] at hgr
  have hok : 0 < gNn b j → okS b j = true := fun h => by
    cases hq : okS b j with
    | true => rfl
    | false => have := (gNn_cast b j).1; unfold grpsN at this; rw [hq] at this; simp at this; omega
  have HS : Hid (∀ _ : Nat, gs b j = (List.finRange 64).take (gNn b j)) := fun _ => rfl
  generalize gNn b j = N at *
  have g1 := h1.lt
  have c0 := h1.cell' (i := 0) rfl
  have c1 := h1.cell' (i := 1) rfl
  refine callsIn_of_wp Try.func66 rfl trivial ?_ rfl
  simp only [Try.ntmps66, List.size_toArray, List.length_cons, List.length_nil, Nat.reduceAdd, Nat.reduceSub, Array.replicate_succ, Array.replicate_zero, List.push_toArray, List.append_toArray, List.nil_append, List.cons_append]
  gi_wp2_with (first | (refine ⟨trivial, ?_⟩; gi_at_call 16; refine (callsIn_wide.2 (hgr _)).mono ?_; rintro e w1 ⟨rfl, hb1⟩))
  have hJ1 : J ((List.finRange 64).take 0) w1 := hJ _ _ _ none h0 (grown_of hb1) (fun r e => by cases e)
  have hK1 := KpG.below hb1 g1
  clear hb1 c0 c1
  gi_loopw [6] (fun i wr => ∃ k : Nat, k ≤ N ∧ i = .int .i64 k ∧ J ((List.finRange 64).take k) wr ∧ KpG B1 W wr) (fun i _ => N - (intOf i).toNat)
  case atStart => exact ⟨0, Nat.zero_le _, rfl, hJ1, hK1⟩
  case round =>
    obtain ⟨k, hk, rfl, hJs, hnx⟩ := hrel
    by_cases hlt : k < N
    · have h2 : Blk wr B1 24 [.int .i64 b, .int .i64 j] := h1.same hnx.1
      have c0 := h2.cell' (i := 0) rfl
      have c1 := h2.cell' (i := 1) rfl
      obtain ⟨r1, r2, r3, r4, -⟩ := okS_iff.1 (hok (by omega))
      have hk64 : k < 64 := by omega
      have HU : Hid ((List.finRange 64).take (k + 1) = (List.finRange 64).take k ++ [⟨k, hk64⟩]) := fin_take k hk64
      have HLen : Hid (((List.finRange 64).take k).length < (gs b j).length) := by
        show _ < _
        rw [HL.out]
        simp
        omega
      have hpl := fun w => place_any b j (k : Int) w r1 r2 r3 r4 (by omega) (by omega)
      have hJ2 : ∀ W', Below wr.heap.size wr W' → J ((List.finRange 64).take k) W' := fun W' hb => hJ _ _ _ none hJs (grown_of hb) (fun r e => by cases e)
      have hK2 : ∀ W', Below wr.heap.size wr W' → KpG B1 W W' := fun W' hb => hnx.trans (KpG.below hb h2.lt)
      clear hJs hJ1 hK1
      gi_wp2_with (first | (refine ⟨trivial, ?_⟩; gi_at_call 46; refine (callsIn_wide.2 (hpl _)).mono ?_; rintro e w2 ⟨rfl, hb2⟩; have hr1 := hK2 _ hb2; obtain ⟨fn, tmps, assign, body, hy, hR⟩ := hY _ ⟨k, hk64⟩ _ (hJ2 _ hb2) HLen.out; clear hY; dsimp only [encG] at hy))
      refine hR.mono ?_
      rintro e W3 (⟨rfl, hJ3, hk3⟩ | ⟨rfl, hJx3⟩)
      · gi_wp2
        go_roundw
        case rel => exact ⟨k + 1, by omega, by simp, by rw [HU.out]; exact hJ3, hr1.trans hk3⟩
        case measure => simp [intOf]; omega
      · gi_wp2
        refine bodyPost_ret (results_none rfl _ _ _) rfl ?_
        exact ⟨⟨_, rfl⟩, .inr ⟨_, by rw [← HU.out, HS.out 0]; exact List.take_prefix_take_left (by omega), hJx3⟩⟩
    · obtain rfl : k = N := by omega
      gi_wp2
      go_end0
      exact ⟨⟨_, rfl⟩, .inl ⟨_, (HS.out 0).symm, hJs⟩⟩
theorem all_stops (n : Nat) (hn : 2 ≤ n) (B1 : Nat) (b j : Int) (w : World) (h1 : Blk w B1 24 [.int .i64 b, .int .i64 j]) :
    SeqStopsK Fence.wide n Try.prog 66 #[.pointer (some ⟨B1, 0, none⟩)] (encG b j) (KpG B1) (fun ys => ys = gs b j) (fun pre => pre <+: gs b j) (gs b j).length w := fun l J Jx W hW hJ _ hY h0 =>
  all1_in n hn l B1 b j J Jx W hJ hY (h1.kept hW) h0
end Go.Proofs.Ytbimcdaplnmjdaa
