/-
  The iterator over what a disk's reads come to.
-/
import Derived.Test.YtbnnekpglnnneaaDkFeed
namespace Go.Proofs.Ytbnnekpglnnneaa
open Go.RowKit Go.Shelf
attribute [local go_sem] Oper.semAt_some
/-- A value that the iterator yields: a slice of these bytes, and an error. -/
structure Fed where
  p : Option Addr
  c : Nat
  D : List Nat
  E : Int
def encF (x : Fed) : Array Value := #[.slice x.p x.D.length x.c, .int .i64 x.E]
def GvF (x : Fed) (W : World) : Prop := In W x.p x.D.length x.c x.D
/-- What reads of the first k sectors answer. -/
def rdL (s : DS) (k : Nat) : List (List Nat × Int) := (List.range k).map fun i : Nat => (readD s (i : Int), readE s (i : Int))
theorem rdL_succ (s : DS) (k : Nat) : rdL s (k + 1) = rdL s k ++ [(readD s (k : Int), readE s (k : Int))] := by simp [rdL, List.range_succ]
/-- The blocks that the iterator reads lie as they lay. -/
structure KpR (d sb : Nat) (lv : Value) (Bs : Nat) (W W' : World) : Prop where
  same : ∀ k, fpD d sb lv k ∨ k = Bs → W'.heap[k]? = W.heap[k]?
  size : W.heap.size ≤ W'.heap.size
theorem KpR.refl (d sb : Nat) (lv : Value) (Bs : Nat) (W : World) : KpR d sb lv Bs W W := ⟨fun _ _ => rfl, Nat.le_refl _⟩
theorem KpR.trans {d sb : Nat} {lv : Value} {Bs : Nat} {A B C : World} (h : KpR d sb lv Bs A B) (k : KpR d sb lv Bs B C) : KpR d sb lv Bs A C := ⟨fun j hj => (k.same j hj).trans (h.same j hj), Nat.le_trans h.size k.size⟩
theorem grown_below {w w' : World} (h : Below w.heap.size w w') : w.grownBy w' none := ⟨h.os, h.tape, h.output, h.size, fun k hk _ => h.block k hk⟩
def ramI (d : Nat) : Value := .iface 24 (.pointer (some ⟨d, 0, none⟩))
set_option linter.unusedSimpArgs false in
set_option maxRecDepth 100000 in
set_option maxHeartbeats 2000000 in
theorem reads1_in (nf : Nat) (hn : 2 ≤ nf) (l Bs d sb : Nat) (lv : Value) (s : DS) (J Jx : List Fed → World → Prop) (W : World) (hJ : AbidesFrom W.heap.size J) (hD : DiskIn W d sb lv s) (hBs : W.cell? ⟨Bs, 0, none⟩ = some (ramI d)) (hlt : Bs < W.heap.size)
    (hY : ∀ pre x W1, J pre W1 → GvF x W1 → W.heap.size ≤ W1.heap.size → pre.length < s.secs.length → YieldAt Fence.wide (nf - 1) Try.prog l (encF x) W1 fun e W' =>
      (e = .returned (.bool true) ∧ J (pre ++ [x]) W' ∧ KpR d sb lv Bs W1 W') ∨ (e = .returned (.bool false) ∧ Jx (pre ++ [x]) W')) (h0 : J [] W) :
    CallsIn Fence.wide nf Try.prog 63 #[.func (.yield l) #[] #[], .pointer (some ⟨Bs, 0, none⟩)] W fun e W' => (∃ v, e = .returned v) ∧
      ((∃ ys, ys.map (fun x => (x.D, x.E)) = rdL s s.secs.length ∧ J ys W') ∨ (∃ pre, (∃ k, k < s.secs.length ∧ pre.map (fun x => (x.D, x.E)) = rdL s (k + 1)) ∧ Jx pre W')) := by
  have hn1 : 1 ≤ nf := by omega
  have hz := size_any hD
  have hn2 : (s.secs.length : Int) ≤ 8192 := by have := hD.n2; omega
  refine callsIn_of_wp Try.func63 rfl trivial ?_ rfl
  simp only [Try.ntmps63, List.size_toArray, List.length_cons, List.length_nil, Nat.reduceAdd, Nat.reduceSub, Array.replicate_succ, Array.replicate_zero, List.push_toArray, List.append_toArray, List.nil_append, List.cons_append]
  unfold ramI at hBs
  have hm1 : ∀ W : World, (method 224 24 (.pointer (some ⟨d, 0, none⟩)) "Size").run Try.prog W = .ok (13, .pointer (some ⟨d, 0, none⟩)) W := fun _ => by kernel_rfl
  have hm2 : ∀ W : World, (method 224 24 (.pointer (some ⟨d, 0, none⟩)) "Read").run Try.prog W = .ok (29, .pointer (some ⟨d, 0, none⟩)) W := fun _ => by kernel_rfl
  gi_wp2_with (refine ⟨trivial, ?_⟩; refine (callsIn_wide.2 hz).mono ?_; rintro e w' ⟨rfl, hw'⟩; have hw2 := hw'.symm; subst hw2; clear hw')
  clear hz
  gi_loopw [6] (fun i wr => ∃ (k : Nat) (pre : List Fed), k ≤ s.secs.length ∧ i = .int .i64 (k : Int) ∧ Hid (pre.map (fun x => (x.D, x.E)) = rdL s k) ∧ J pre wr ∧ KpR d sb lv Bs W wr) (fun i _ => s.secs.length - (intOf i).toNat)
  case atStart => exact ⟨0, [], Nat.zero_le _, rfl, rfl, h0, KpR.refl _ _ _ _ _⟩
  case round =>
    obtain ⟨k, pre, hk, rfl, hpre, hJs, hkr⟩ := hrel
    have D1 : DiskIn wr d sb lv s := hD.same (fun j hj => hkr.same j (.inl hj))
    have b1 : wr.cell? ⟨Bs, 0, none⟩ = some (.iface 24 (.pointer (some ⟨d, 0, none⟩))) := (World.cell?_of_block (a := ⟨Bs, 0, none⟩) (hkr.same Bs (.inr rfl))).trans hBs
    by_cases hkn : k < s.secs.length
    · have hki : (k : Int) < (s.secs.length : Int) := by omega
      have hrd := read_any D1 (k : Int)
      have hlen : pre.length < s.secs.length := by have := congrArg List.length hpre.out; rw [List.length_map, rdL, List.length_map, List.length_range] at this; omega
      have HU : Hid (rdL s (k + 1) = rdL s k ++ [(readD s (k : Int), readE s (k : Int))]) := rdL_succ s k
      generalize readD s (k : Int) = D at *
      generalize readE s (k : Int) = E at *
      gi_wp2_with (refine ⟨trivial, ?_⟩; refine (callsIn_wide.2 hrd).mono ?_; rintro e w3 ⟨p3, c3, rfl, hin3, hb3, _⟩; obtain ⟨fn, tmps, assign, body, hy, hR⟩ := hY pre ⟨p3, c3, D, E⟩ w3 (hJ _ _ _ none hJs (grown_below hb3) (fun r e => by cases e)) hin3 (Nat.le_trans hkr.size hb3.size) hlen; dsimp only [encF] at hy)
      refine hR.mono ?_
      have hk3 : KpR d sb lv Bs wr w3 := ⟨fun j hj => hb3.block j (hj.elim (fun h => D1.lt h) (fun h => by rw [h]; exact Nat.lt_of_lt_of_le hlt hkr.size)), hb3.size⟩
      rintro e W3 (⟨rfl, hJ3, hk4⟩ | ⟨rfl, hJx3⟩)
      · gi_wp2
        go_roundw
        case rel => exact ⟨k + 1, _, by omega, by simp, by show _ = _; rw [List.map_append, hpre.out, HU.out]; rfl, hJ3, (hkr.trans hk3).trans hk4⟩
        case measure => simp [intOf]; omega
      · gi_wp2
        refine bodyPost_ret (results_none rfl _ _ _) rfl ?_
        exact ⟨⟨_, rfl⟩, .inr ⟨_, ⟨k, hkn, by rw [List.map_append, hpre.out, HU.out]; rfl⟩, hJx3⟩⟩
    · obtain rfl : k = s.secs.length := by omega
      gi_wp2
      go_end0
      exact ⟨⟨_, rfl⟩, .inl ⟨_, hpre.out, hJs⟩⟩
theorem reads_feeds (nf : Nat) (hn : 2 ≤ nf) (Bs d sb : Nat) (lv : Value) (s : DS) (w : World) (hD : DiskIn w d sb lv s) (hBs : w.cell? ⟨Bs, 0, none⟩ = some (ramI d)) (hlt : Bs < w.heap.size) :
    Feeds Try.prog nf 63 #[.pointer (some ⟨Bs, 0, none⟩)] encF GvF (KpR d sb lv Bs) (fun ys => ys.map (fun x => (x.D, x.E)) = rdL s s.secs.length) (fun pre => ∃ k, k < s.secs.length ∧ pre.map (fun x => (x.D, x.E)) = rdL s (k + 1)) s.secs.length w := fun l J Jx W hW hJ hY h0 =>
  reads1_in nf hn l Bs d sb lv s J Jx W hJ (hD.below hW) ((hW.cell (p := ⟨Bs, 0, none⟩) hlt).trans hBs) (Nat.lt_of_lt_of_le hlt hW.size) hY h0
end Go.Proofs.Ytbnnekpglnnneaa
