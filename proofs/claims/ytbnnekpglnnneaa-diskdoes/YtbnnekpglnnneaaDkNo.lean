/-
  A disk that no call made, and no disk at all: what the calls answer.
-/
import Derived.Test.YtbnnekpglnnneaaDkLive
import Derived.RangeFuncNested
import Derived.RangeFuncBound
import Derived.RangeFuncCalls
import Derived.RangeFuncLeaves
import Derived.Shelf.Abstract
import Derived.Shelf.RegionOpen
import Derived.OwnWalkIn
import Derived.TacticsInMore
import Derived.LoopNIn
import Derived.LoopIn
import Derived.Recover
import Derived.Defers
namespace Go.Proofs.Ytbnnekpglnnneaa
open Go.RowKit Go.Shelf
attribute [local go_sem] Oper.semAt_some
/-- No call made this disk: nil, or without sectors. -/
def NoDisk (w : World) (v : Value) : Prop := v = .pointer none ∨ ∃ d, v = .pointer (some ⟨d, 0, none⟩) ∧ w.cell? ⟨d, 0, none⟩ = some (.slice none 0 0) ∧ d < w.heap.size
theorem NoDisk.below {w w' : World} {v : Value} (h : NoDisk w v) (hb : Below w.heap.size w w') : NoDisk w' v := by
  rcases h with h | ⟨d, h, h2, h3⟩
  · exact .inl h
  · exact .inr ⟨d, h, (hb.cell (p := ⟨d, 0, none⟩) h3).trans h2, Nat.lt_of_lt_of_le h3 hb.size⟩
theorem made_no {w : World} {v : Value} (h : NoDisk w v) : Calls Try.prog 40 #[v] w fun e w' => e = .returned (.bool false) ∧ w' = w := by
  rcases h with rfl | ⟨d, rfl, h2, _⟩
  · exact made_none w
  · exact made_any d none 0 0 w h2
theorem power_no {w : World} {v : Value} (h : NoDisk w v) : Calls Try.prog 43 #[v] w fun e w' => e = .returned (.int .i64 2) ∧ w' = w := by
  have hm := made_no h
  go_enter Try.func43, Try.ntmps43
  go_wp2_with (go_at_call 40; refine hm.mono ?_; rintro e w' ⟨rfl, rfl⟩)
  go_ret
  exact ⟨rfl, rfl⟩
theorem read_no {w : World} {v : Value} (h : NoDisk w v) (i : Int) : Calls Try.prog 29 #[v, .int .i64 i] w fun e w' => e = .returned (.tuple #[.slice none 0 0, .int .i64 2]) ∧ w' = w := by
  have hm := power_no h
  go_enter Try.func29, Try.ntmps29
  go_wp2_with (go_at_call 43; refine hm.mono ?_; rintro e w' ⟨rfl, rfl⟩)
  go_ret2
  exact ⟨rfl, rfl⟩
theorem write_no {w : World} {v : Value} (h : NoDisk w v) (i : Int) (p : Option Addr) (n c : Nat) : Calls Try.prog 20 #[v, .int .i64 i, .slice p n c] w fun e w' => e = .returned (.int .i64 2) ∧ w' = w := by
  have hm := power_no h
  go_enter Try.func20, Try.ntmps20
  go_wp2_with (go_at_call 43; refine hm.mono ?_; rintro e w' ⟨rfl, rfl⟩)
  go_ret
  exact ⟨rfl, rfl⟩
theorem flush_no {w : World} {v : Value} (h : NoDisk w v) : Calls Try.prog 32 #[v] w fun e w' => e = .returned (.int .i64 2) ∧ w' = w := by
  have hm := power_no h
  go_enter Try.func32, Try.ntmps32
  go_wp2_with (go_at_call 43; refine hm.mono ?_; rintro e w' ⟨rfl, rfl⟩)
  go_ret
  exact ⟨rfl, rfl⟩
theorem hurt_no {w : World} {v : Value} (h : NoDisk w v) (i : Int) : Calls Try.prog 33 #[v, .int .i64 i] w fun e w' => e = .returned (.int .i64 2) ∧ w' = w := by
  have hm := made_no h
  go_enter Try.func33, Try.ntmps33
  go_wp2_with (go_at_call 40; refine hm.mono ?_; rintro e w' ⟨rfl, rfl⟩)
  go_ret
  exact ⟨rfl, rfl⟩
theorem size_no {w : World} {v : Value} (h : NoDisk w v) : Calls Try.prog 13 #[v] w fun e w' => e = .returned (.int .i64 0) ∧ w' = w := by
  have hm := made_no h
  go_enter Try.func13, Try.ntmps13
  go_wp2_with (go_at_call 40; refine hm.mono ?_; rintro e w' ⟨rfl, rfl⟩)
  go_ret
  exact ⟨rfl, rfl⟩
theorem writes_no {w : World} {v : Value} (h : NoDisk w v) : Calls Try.prog 12 #[v] w fun e w' => e = .returned (.int .i64 0) ∧ w' = w := by
  have hm := made_no h
  go_enter Try.func12, Try.ntmps12
  go_wp2_with (go_at_call 40; refine hm.mono ?_; rintro e w' ⟨rfl, rfl⟩)
  go_ret
  exact ⟨rfl, rfl⟩
theorem on_no {w : World} {v : Value} (h : NoDisk w v) : Calls Try.prog 11 #[v] w fun e w' => e = .returned (.bool false) ∧ w' = w := by
  have hm := made_no h
  go_enter Try.func11, Try.ntmps11
  go_wp2_with (go_at_call 40; refine hm.mono ?_; rintro e w' ⟨rfl, rfl⟩)
  go_ret
  exact ⟨rfl, rfl⟩
theorem cut_no {w : World} {v : Value} (h : NoDisk w v) (i : Int) : Calls Try.prog 19 #[v, .int .i64 i] w fun e w' => (∃ u, e = .returned u) ∧ w' = w := by
  have hm := made_no h
  go_enter Try.func19, Try.ntmps19
  go_wp2_with (go_at_call 40; refine hm.mono ?_; rintro e w' ⟨rfl, rfl⟩)
  go_end0
  exact ⟨⟨_, rfl⟩, rfl⟩
theorem restart_no {w : World} {v : Value} (h : NoDisk w v) : Calls Try.prog 23 #[v] w fun e w' => (∃ u, e = .returned u) ∧ w' = w := by
  have hm := made_no h
  go_enter Try.func23, Try.ntmps23
  go_wp2_with (go_at_call 40; refine hm.mono ?_; rintro e w' ⟨rfl, rfl⟩)
  go_end0
  exact ⟨⟨_, rfl⟩, rfl⟩
theorem clone_no {w : World} {v : Value} (h : NoDisk w v) : Calls Try.prog 26 #[v] w fun e w' => e = .returned (.pointer none) ∧ w' = w := by
  have hm := made_no h
  go_enter Try.func26, Try.ntmps26
  go_wp2_with (go_at_call 40; refine hm.mono ?_; rintro e w' ⟨rfl, rfl⟩)
  go_ret
  exact ⟨rfl, rfl⟩
theorem last_no {w : World} {v : Value} (h : NoDisk w v) : Calls Try.prog 54 #[v] w fun e w' => e = .returned (.slice none 0 0) ∧ w' = w := by
  have hm := made_no h
  go_enter Try.func54, Try.ntmps54
  go_wp2_with (go_at_call 40; refine hm.mono ?_; rintro e w' ⟨rfl, rfl⟩)
  go_ret
  exact ⟨rfl, rfl⟩
theorem log_no {w : World} {v : Value} (h : NoDisk w v) : Calls Try.prog 31 #[v] w fun e w' => ∃ Bs, e = .returned (.func (.func 55) #[] #[.pointer (some ⟨Bs, 0, none⟩)]) ∧ w'.cell? ⟨Bs, 0, none⟩ = some (.slice none 0 0) ∧ Below w.heap.size w w' := by
  have hm := last_no h
  have hmf : ∀ (fn : Fn) (first cap : Array Value) (w : World), (Instr.makeFunc fn first cap).run Try.prog w = .ok (.func fn first cap) w := fun _ _ _ _ => rfl
  go_enter Try.func31, Try.ntmps31
  go_wp2_with (go_at_call 54; refine hm.mono ?_; rintro e w' ⟨rfl, rfl⟩)
  go_ret
  exact ⟨_, rfl, (Boxed.new _ _ _).cell, below_alloc _ _⟩
set_option maxRecDepth 100000 in
set_option maxHeartbeats 1000000 in
theorem log1_nil_in (F : Fence) (n : Nat) (h8 : F.fn 55) (hro : F.round = none) (l Bs : Nat) (J : World → Prop) (W : World) (hBs : W.cell? ⟨Bs, 0, none⟩ = some (.slice none 0 0)) (h0 : J W) :
    CallsIn F n Try.prog 55 #[.func (.yield l) #[] #[], .pointer (some ⟨Bs, 0, none⟩)] W fun e W' => (∃ v, e = .returned v) ∧ J W' := by
  refine callsIn_of_wp Try.func55 rfl h8 ?_ hro
  simp only [Try.ntmps55, List.size_toArray, List.length_cons, List.length_nil, Nat.reduceAdd, Nat.reduceSub, Array.replicate_succ, Array.replicate_zero, List.push_toArray, List.append_toArray, List.nil_append, List.cons_append]
  gi_wp2
  gi_loopw [7] (fun i wr => i = .int .i64 0 ∧ J wr) (fun _ _ => 0)
  case atStart => exact ⟨rfl, h0⟩
  case round =>
    obtain ⟨rfl, hJs⟩ := hrel
    gi_wp2
    go_end0
    exact ⟨⟨_, rfl⟩, hJs⟩
theorem log_none (F : Fence) (n : Nat) (h8 : F.fn 55) (hro : F.round = none) (Bs : Nat) (Kp : World → World → Prop) (w : World) (hc : w.cell? ⟨Bs, 0, none⟩ = some (.slice none 0 0)) :
    SeqStopsK F n Try.prog 55 #[.pointer (some ⟨Bs, 0, none⟩)] (fun x : Empty => x.elim) Kp (fun ys => ys = []) (fun _ => False) 0 w := fun l J Jx W hW hJ _ hY h0 => by
  have hc' := (hW.cell (p := ⟨Bs, 0, none⟩) (block_lt_of_cell hc)).trans hc
  exact (log1_nil_in F n h8 hro l Bs (fun W => J [] W) W hc' h0).mono fun e W' ⟨he, hj⟩ => ⟨he, .inl ⟨_, rfl, hj⟩⟩
theorem func_nil (w : World) (f : Fn) (a b : Array Value) : (binOp .eql 68 (.func f a b) .nilFunc).run Try.prog w = .ok (.bool false) w := by
  have h : ∀ d : Nat, (Op.equalIn (d + 1) 68 (.func f a b) .nilFunc).run Try.prog w = .ok false w := fun d => by
    simp [Op.equalIn]
  simp only [binOp]
  simp [Op.equal, Op.maxDepth, h 9999]
/-- The deferred function of gather, where nothing panicked. -/
theorem catch_idle (a b : Addr) (w : World) : CallsD Try.prog 56 #[.pointer (some a), .pointer (some b)] .returning w fun e u' w' => e = .returned (.tuple #[]) ∧ u' = .returning ∧ w' = w := by
  refine callsD_of_wpS Try.func56 rfl fun c₀ cs hu => ?_
  apply wpS_seq
  apply wpS_region
  simp [wpOpsS, go_sem, recoverD, hu, Try.ntmps56, Exit.thenS]
  refine wpS_cond (t := false) (by simp [Act.eval, Array.replicate]) ?_
  simp only [Bool.false_eq_true, if_false]
  refine wpS_of_wp (wp_skip ?_)
  cases c₀
  simp_all [bodyPostS, results, Try.results56]
theorem missing_nil (w : World) : Calls Try.prog 57 #[.nilIface] w fun e w' => e = .returned (.bool true) ∧ w' = w := by
  go_enter Try.func57, Try.ntmps57
  go_wp2
  go_ret
  exact ⟨rfl, rfl⟩
theorem gather_nil (w : World) : Calls Try.prog 41 #[.nilIface] w fun e w' => e = .returned (.tuple #[.slice none 0 0, .int .i64 2]) ∧ Below w.heap.size w w' := by
  have hmf : ∀ (fn : Fn) (first cap : Array Value) (w : World), (Instr.makeFunc fn first cap).run Try.prog w = .ok (.func fn first cap) w := fun _ _ _ _ => rfl
  go_enter_defers Try.func41, Try.ntmps41
  go_wp2_with (go_at_call 57; refine (missing_nil _).mono ?_; rintro e w' ⟨rfl, rfl⟩)
  refine leaves_cons (f := 56) (args := #[.pointer (some ⟨w.heap.size, 0, none⟩), .pointer (some ⟨w.heap.size + 1, 0, none⟩)]) (by simp) (by simp [go_sem]) ?_
  refine (catch_idle _ _ _).mono ?_
  rintro e u' w'' ⟨rfl, rfl, rfl⟩
  simp [Leaves, settle, results, Try.results41, go_sem]
  exact bt (below_alloc w _) (below_alloc _ _)
theorem image_nil (w : World) : Calls Try.prog 15 #[.nilIface] w fun e w' => e = .returned (.tuple #[.slice none 0 0, .int .i64 2]) ∧ Below w.heap.size w w' := by
  go_enter Try.func15, Try.ntmps15
  go_wp2_with (go_at_call 41; refine (gather_nil _).mono ?_; rintro e w' ⟨rfl, hb⟩)
  go_ret2
  exact ⟨rfl, hb⟩
theorem same_nil (w : World) : Calls Try.prog 27 #[.nilIface, .nilIface] w fun e w' => e = .returned (.bool false) ∧ Below w.heap.size w w' := by
  go_enter Try.func27, Try.ntmps27
  go_wp2_with (go_at_call 15; refine (image_nil _).mono ?_; rintro e w' ⟨rfl, hb⟩)
  go_ret
  exact ⟨rfl, hb⟩
end Go.Proofs.Ytbnnekpglnnneaa
