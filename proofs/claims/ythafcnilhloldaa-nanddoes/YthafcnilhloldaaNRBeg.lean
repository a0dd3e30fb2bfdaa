/-
  How an operation of the reference begins and ends.
-/
import Derived.Test.YthafcnilhloldaaNRTell
namespace Go.Proofs.Ythafcnilhloldaa
open Go.RowKit
set_option linter.unusedSimpArgs false in
set_option linter.unusedVariables false in
set_option maxRecDepth 100000 in
set_option maxHeartbeats 4000000 in
theorem begins_any (r nb np : Nat) (bs : Value) (ep : Option Addr) (el ec ops : Nat) (on : Bool) (es : List Ev) (S : Nat → Prop) (w : World) (hB : Blk w r 85 (chipCells nb np bs (.slice ep el ec) ops on)) (hE : EvsIn S w ep el ec es) (hS : S r) (ho : ops < 4611686018427387904) :
    Calls Try.prog 58 #[.pointer (some ⟨r, 0, none⟩)] w fun e w' => ∃ q m d, e = .returned (evVal (nextEv es (ops + 1)) q m d) ∧ In w' q m d (nextEv es (ops + 1)).mask ∧ (∀ a, 0 < m → q = some a → ¬ S a.block) ∧ Keep (fun k => k = r) w w' ∧
      ∃ ep' el' ec', Blk w' r 85 (chipCells nb np bs (.slice ep' el' ec') (ops + 1) on) ∧ EvsIn S w' ep' el' ec' (restEv es (ops + 1)) := by
  have hz := zeroEv
  have hbe : ∀ W : World, (Instr.build 72 #[]).run Try.prog W = .ok (.agg #[.int .i64 0, .int .i64 0, .slice none 0 0]) W := fun W => run_build W 72 #[] _ (by kernel_rfl)
  have hlt := hB.lt
  have hB0 := hB.alloc (.cells #[.int .i64 0, .int .i64 0, .slice none 0 0] 72)
  have hc4 := hB0.cell' (i := 4) rfl
  have hf4 := hB0.frozen 4
  have hK1 := ((Keep.refl (fun k => k = r) w).setCell ⟨r, 4, none⟩ (.int .i64 ((ops : Int) + 1)) rfl).alloc (.cells #[.int .i64 0, .int .i64 0, .slice none 0 0] 72)
  have hB1 : Blk ((w.setCell ⟨r, 4, none⟩ (.int .i64 ((ops : Int) + 1))).alloc (.cells #[.int .i64 0, .int .i64 0, .slice none 0 0] 72)) r 85 (chipCells nb np bs (.slice ep el ec) (ops + 1) on) := (hB.set 4 _).alloc _
  have hN1 : Blk ((w.setCell ⟨r, 4, none⟩ (.int .i64 ((ops : Int) + 1))).alloc (.cells #[.int .i64 0, .int .i64 0, .slice none 0 0] 72)) w.heap.size 72 [.int .i64 0, .int .i64 0, .slice none 0 0] := by
    have := Blk.new' (w.setCell ⟨r, 4, none⟩ (.int .i64 ((ops : Int) + 1))) 72 #[.int .i64 0, .int .i64 0, .slice none 0 0]
    rwa [(Turned.setCell w ⟨r, 4, none⟩ (.int .i64 ((ops : Int) + 1))).size] at this
  have hE1 := hE.keep hK1 (fun k _ e => e ▸ hS)
  cases es with
  | nil =>
    have hl : el = 0 := hE.len.symm
    subst hl
    go_enter Try.func58, Try.ntmps58
    go_wp2
    generalize (w.setCell ⟨r, 4, none⟩ (.int .i64 ((ops : Int) + 1))).alloc (.cells #[.int .i64 0, .int .i64 0, .slice none 0 0] 72) = w1 at *
    have hc3 := hB1.cell' (i := 3) rfl
    clear hB hB0 hc4 hf4
    go_quiet (fail)
    go_wp2_with (refine wpList_store_blk rfl 72 _ _ rfl _ _ [.int .i64 0, .int .i64 0, .slice none 0 0] rfl rfl (hN1.drewN _) (Nat.le_refl _) sizeEv evs_one ?_; intro w2 h2 ht2)
    have k2 : Keep (fun k => k = r) w w2 := (hK1.drewN _).fresh (Keep.of_turned (S := fun k => k = w.heap.size) ht2 rfl) (fun j hj e => by omega)
    exact ret_ev Try.results58 rfl h2 rfl ⟨none, 0, 0, rfl, In.empty _, fun a h0 => by omega, k2, ep, 0, ec, (hB1.drewN _).turned ht2 (by omega), hE.keep k2 (fun k _ e => e ▸ hS)⟩
  | cons e t =>
    have hl0 : 0 < el := by have := hE.len; simp at this; omega
    have hle := hE.cap
    have hmx := hE.max
    obtain ⟨b, o, q, m, d, rfl, hb0, hSb, p1, p2, p3, p4, g5⟩ := hE.head
    have hbc := hK1.block b hb0 (fun e => hSb (e ▸ hS))
    have g1 := (World.cell?_of_block (a := ⟨b, o, none⟩) hbc).trans p1
    have g2 := (World.cell?_of_block (a := ⟨b, o + 1, none⟩) hbc).trans p2
    have g3 := (World.cell?_of_block (a := ⟨b, o + 2, none⟩) hbc).trans p3
    clear p1 p2 p3 hbc
    by_cases hat : e.at' = (ops : Int) + 1
    · have n1 : nextEv (e :: t) (ops + 1) = e := by simp [nextEv, hat]
      have n2 : restEv (e :: t) (ops + 1) = t := by simp [restEv, hat]
      rw [n1, n2]
      have hne : (e.at' == (ops : Int) + 1) = true := by simp [hat]
      have hel : (el : Int) > 0 := by omega
      clear n1 n2
      go_enter Try.func58, Try.ntmps58
      go_wp2
      generalize (w.setCell ⟨r, 4, none⟩ (.int .i64 ((ops : Int) + 1))).alloc (.cells #[.int .i64 0, .int .i64 0, .slice none 0 0] 72) = w1 at *
      have hc3 := hB1.cell' (i := 3) rfl
      have hc4' := hB1.cell' (i := 4) rfl
      have hc4'' : w1.cell? ⟨r, 4, none⟩ = some (.int .i64 ((ops : Int) + 1)) := hc4'
      clear hB hB0 hc4 hf4 hc4'
      go_quiet (fail)
      obtain ⟨A, hA0⟩ : ∃ A, (if ec = 1 then some (⟨b, o, none⟩ : Addr) else some ⟨b, o + 3, none⟩) = A := ⟨_, rfl⟩
      have hsl := slice_evs b o el ec hl0
      simp only [hA0] at hsl
      have hA : Hid ((if ec = 1 then some (⟨b, o, none⟩ : Addr) else some ⟨b, o + 3, none⟩) = A) := hA0
      clear hA0
      have hB1' := hB1.drewN nq
      have hN1' := hN1.drewN nq
      have hK1' := hK1.drewN nq
      have g1' : (w1.drewN nq).cell? ⟨b, o, none⟩ = some (.int .i64 e.at') := g1
      have g2' : (w1.drewN nq).cell? ⟨b, o + 1, none⟩ = some (.int .i64 e.kind) := g2
      have g3' : (w1.drewN nq).cell? ⟨b, o + 2, none⟩ = some (.slice q m d) := g3
      generalize w1.drewN nq = w2 at *
      clear hB1 hN1 hE1 hK1 hc3 g1 g2 g3 hc4'' hne hel hat
      have hcN : r ≠ w.heap.size := by omega
      have hN2 : w.heap.size < w2.heap.size := hN1'.lt
      have hc2 : r < w2.heap.size := hB1'.lt
      have c3 := hB1'.cell' (i := 3) rfl
      have f3 := hB1'.frozen 3
      have n0 := hN1'.cell' (i := 0) rfl
      have n1 := hN1'.cell' (i := 1) rfl
      have n2 := hN1'.cell' (i := 2) rfl
      have m0 := hN1'.frozen 0
      have m1 := hN1'.frozen 1
      have m2 := hN1'.frozen 2
      go_wp2
      have k5 := ((((hK1'.setCell ⟨r, 3, none⟩ (.slice A (el - 1) (ec - 1)) rfl).fresh (Keep.of_turned (S := fun k => k = w.heap.size) (Turned.setCell _ ⟨w.heap.size, 0, none⟩ (.int .i64 e.at')) rfl) (fun j hj e => by omega)).fresh (Keep.of_turned (S := fun k => k = w.heap.size) (Turned.setCell _ ⟨w.heap.size, 1, none⟩ (.int .i64 e.kind)) rfl) (fun j hj e => by omega)).fresh (Keep.of_turned (S := fun k => k = w.heap.size) (Turned.setCell _ ⟨w.heap.size, 2, none⟩ (.slice q m d)) rfl) (fun j hj e => by omega)).alloc (.cells #[.int .i64 e.at', .int .i64 e.kind, .slice q m d] 72)
      have hBf := ((((hB1'.set 3 (.slice A (el - 1) (ec - 1))).setOther ⟨w.heap.size, 0, none⟩ (.int .i64 e.at') hcN).setOther ⟨w.heap.size, 1, none⟩ (.int .i64 e.kind) hcN).setOther ⟨w.heap.size, 2, none⟩ (.slice q m d) hcN).alloc (.cells #[.int .i64 e.at', .int .i64 e.kind, .slice q m d] 72)
      have hNf := ((((hN1'.setOther ⟨r, 3, none⟩ (.slice A (el - 1) (ec - 1)) hcN.symm).set 0 (.int .i64 e.at')).set 1 (.int .i64 e.kind)).set 2 (.slice q m d)).alloc (.cells #[.int .i64 e.at', .int .i64 e.kind, .slice q m d] 72)
      have hcb : ∀ k, k = r → S k := fun k e => e ▸ hS
      have hEf := (hE.keep k5 (fun k _ e => hcb k e)).tail
      rw [hA.out] at hEf
      have hmask := p4.same k5.size (fun a h0 ha hl => k5.block _ hl (fun e => g5 a h0 ha (hcb _ e)))
      have hNf' : Blk _ w.heap.size 72 [.int .i64 e.at', .int .i64 e.kind, .slice q m d] := hNf
      exact ret_ev Try.results58 rfl hNf' rfl ⟨q, m, d, rfl, hmask, g5, k5, A, _, _, hBf, hEf⟩
    · have n1 : nextEv (e :: t) (ops + 1) = noEv := by simp [nextEv]; intro h; exact absurd h hat
      have n2 : restEv (e :: t) (ops + 1) = e :: t := by simp [restEv]; intro h; exact absurd h hat
      rw [n1, n2]
      have hne : (e.at' == (ops : Int) + 1) = false := by simpa using hat
      have hel : (el : Int) > 0 := by omega
      clear n1 n2
      go_enter Try.func58, Try.ntmps58
      go_wp2
      generalize (w.setCell ⟨r, 4, none⟩ (.int .i64 ((ops : Int) + 1))).alloc (.cells #[.int .i64 0, .int .i64 0, .slice none 0 0] 72) = w1 at *
      have hc3 := hB1.cell' (i := 3) rfl
      have hc4' := hB1.cell' (i := 4) rfl
      have hc4'' : w1.cell? ⟨r, 4, none⟩ = some (.int .i64 ((ops : Int) + 1)) := hc4'
      clear hB hB0 hc4 hf4 hc4' hat
      go_quiet (fail)
      go_wp2_with (refine wpList_store_blk rfl 72 _ _ rfl _ _ [.int .i64 0, .int .i64 0, .slice none 0 0] rfl rfl (hN1.drewN _) (Nat.le_refl _) sizeEv evs_one ?_; intro w2 h2 ht2)
      have k2 : Keep (fun k => k = r) w w2 := (hK1.drewN _).fresh (Keep.of_turned (S := fun k => k = w.heap.size) ht2 rfl) (fun j hj e => by omega)
      exact ret_ev Try.results58 rfl h2 rfl ⟨none, 0, 0, rfl, In.empty _, fun a h0 => by omega, k2, _, el, ec, (hB1.drewN _).turned ht2 (by omega), hE.keep k2 (fun k _ e => e ▸ hS)⟩
set_option linter.unusedSimpArgs false in
set_option linter.unusedVariables false in
set_option maxRecDepth 100000 in
set_option maxHeartbeats 4000000 in
theorem ends_any (r nb np : Nat) (bs es : Value) (ops : Nat) (on : Bool) (e : Ev) (q : Option Addr) (m d : Nat) (w : World) (hB : Blk w r 85 (chipCells nb np bs es ops on)) (hk : e.kind = 0 ∨ e.kind = 1 ∨ e.kind = 2) :
    Calls Try.prog 60 #[.pointer (some ⟨r, 0, none⟩), evVal e q m d] w fun x w' => x = .returned (.int .i64 (outE e.kind)) ∧ Blk w' r 85 (chipCells nb np bs es ops (if e.kind = 2 then false else on)) ∧ Keep (fun k => k = r) w w' := by
  have hB0 := hB.alloc (.cells #[.int .i64 e.at', .int .i64 e.kind, .slice q m d] 72)
  have bx := Blk.new' w 72 #[.int .i64 e.at', .int .i64 e.kind, .slice q m d]
  have x1 := bx.cell' (i := 1) rfl
  have hK0 := (Keep.refl (fun k => k = r) w).alloc (.cells #[.int .i64 e.at', .int .i64 e.kind, .slice q m d] 72)
  have c4 := hB0.cell' (i := 5) rfl
  have f4 := hB0.frozen 5
  unfold evVal
  obtain ⟨ea, ek, em⟩ := e
  dsimp only at *
  rcases hk with rfl | rfl | rfl
  · go_enter Try.func60, Try.ntmps60
    go_wp2
    go_ret
    exact ⟨rfl, hB0, hK0⟩
  · go_enter Try.func60, Try.ntmps60
    go_wp2
    go_ret
    exact ⟨rfl, hB0, hK0⟩
  · go_enter Try.func60, Try.ntmps60
    go_wp2
    go_ret
    exact ⟨rfl, hB0.set 5 _, hK0.setCell _ _ rfl⟩
end Go.Proofs.Ythafcnilhloldaa
