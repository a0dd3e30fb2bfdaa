/-
  How a cache asks its disk: caught, size, read, missing; its small questions.
-/
import Derived.Test.YtdmnddikcpfmfaaCkS
import Derived.Recover
import Derived.Shelf.Abstract
namespace Go.Proofs.Ytdmnddikcpfmfaa
open Go.RowKit Go.Maps Go.Shelf
/-- The deferred function of caught, where nothing panicked. -/
theorem catch_idle (a : Addr) (w : World) : CallsD Try.prog 67 #[.pointer (some a)] .returning w fun e u' w' => e = .returned (.tuple #[]) ∧ u' = .returning ∧ w' = w := by
  refine callsD_of_wpS Try.func67 rfl fun c₀ cs hu => ?_
  apply wpS_seq
  apply wpS_region
  simp [wpOpsS, go_sem, recoverD, hu, Try.ntmps67, Exit.thenS]
  refine wpS_cond (t := false) (by simp [Act.eval, Array.replicate]) ?_
  simp only [Bool.false_eq_true, if_false]
  refine wpS_of_wp (wp_skip ?_)
  cases c₀
  simp_all [bodyPostS, results, Try.results67]
/-- What caught answers of a function that does not panic. -/
theorem caught_of {clo : Nat} {caps : Array Value} (hent : Enters Try.prog clo) (w : World) (r : Int) (R : World → Prop)
    (h : Calls Try.prog clo caps (w.alloc (.cells #[.int .i64 0] 24)) fun e w' => e = .returned (.int .i64 r) ∧ Blk w' w.heap.size 24 [.int .i64 0] ∧ R w') :
    Calls Try.prog 51 #[.func (.func clo) #[] caps] w fun e w' => e = .returned (.int .i64 r) ∧ ∃ w1, R w1 ∧ Blk w1 w.heap.size 24 [.int .i64 0] ∧ w' = w1.setCell ⟨w.heap.size, 0, none⟩ (.int .i64 r) := by
  have hmf : ∀ (fn : Fn) (first cap : Array Value) (w : World), (Instr.makeFunc fn first cap).run Try.prog w = .ok (.func fn first cap) w := fun _ _ _ _ => rfl
  have hent' : ∀ (args : Array Value) (w : World), (callFunc clo args).run Try.prog w = .ok (.enter clo args) w := hent
  go_enter_defers Try.func51, Try.ntmps51
  go_wp2_with (refine h.mono ?_; rintro e w1 ⟨rfl, hb1, hR1⟩; have hc1 := hb1.cell' (i := 0) (v := .int .i64 0) rfl; have hf1 := hb1.frozen 0)
  refine leaves_cons (f := 67) (args := #[.pointer (some ⟨w.heap.size, 0, none⟩)]) (by simp) (by simp [go_sem]) ?_
  refine (catch_idle _ _).mono ?_
  rintro e u' w'' ⟨rfl, rfl, rfl⟩
  have hb2 := hb1.set 0 (.int .i64 r)
  have hc2 : (w1.setCell ⟨w.heap.size, 0, none⟩ (.int .i64 r)).cell? ⟨w.heap.size, 0, none⟩ = some (.int .i64 r) := hb2.cell' rfl
  simp only [Leaves, settle]
  exact ⟨_, by simp [results, Try.results51, go_sem, hc2], rfl, w1, hR1, hb1, rfl⟩
theorem ents {f : FuncId} {fn : Func} {c : Code} (hf : Try.prog.funcs[f]? = some fn) (hname : (fn.name == "runtime.NumGoroutine") = false) (hb : fn.body = some c) : Enters Try.prog f := enters_of hf hname hb
theorem size1_any {W : World} {d sb : Nat} {lv : Value} {s : DS} (h : DiskIn W d sb lv s) (x y : Nat) (hx : W.cell? ⟨x, 0, none⟩ = some (ramI d)) (v : Value) (hy : Blk W y 3 [v]) : Calls Try.prog 68 #[.pointer (some ⟨x, 0, none⟩), .pointer (some ⟨y, 0, none⟩)] W fun e w' => e = .returned (.int .i64 0) ∧ w' = W.setCell ⟨y, 0, none⟩ (.int .i64 (s.secs.length : Int)) := by
  have hm1 : ∀ W : World, (method 245 23 (.pointer (some ⟨d, 0, none⟩)) "Size").run Try.prog W = .ok (111, .pointer (some ⟨d, 0, none⟩)) W := fun _ => by kernel_rfl
  have hz := size_any h
  have hc := hy.cell' (i := 0) (v := v) rfl
  have hf := hy.frozen 0
  unfold ramI at hx
  go_enter Try.func68, Try.ntmps68
  go_wp2_with (refine hz.mono ?_; rintro e w' ⟨rfl, hw'⟩; have hw2 := hw'.symm; subst hw2; clear hw')
  go_ret
  exact ⟨rfl, rfl⟩
theorem csize_any {w : World} {d sb : Nat} {lv : Value} {s : DS} (h : DiskIn w d sb lv s) : Calls Try.prog 56 #[ramI d] w fun e w' => e = .returned (.int .i64 (s.secs.length : Int)) ∧ Below w.heap.size w w' := by
  have hmf : ∀ (fn : Fn) (first cap : Array Value) (w : World), (Instr.makeFunc fn first cap).run Try.prog w = .ok (.func fn first cap) w := fun _ _ _ _ => rfl
  obtain ⟨W, HW⟩ : ∃ W, Hid ((w.alloc (.cells #[ramI d] 55)).alloc (.cells #[.int .i64 0] 3) = W) := ⟨_, rfl⟩
  have hbW : Below w.heap.size w W := HW.out ▸ bt (below_alloc w _) (below_alloc _ _)
  have hx : Blk W w.heap.size 55 [ramI d] := HW.out ▸ (Blk.new w 55 [ramI d]).alloc _
  have hy : Blk W (w.heap.size + 1) 3 [.int .i64 0] := by
    have := Blk.new (w.alloc (.cells #[ramI d] 55)) 3 [.int .i64 0]
    rw [World.size_alloc] at this
    exact HW.out ▸ this
  have hsW : W.heap.size = w.heap.size + 1 + 1 := by rw [← HW.out]; simp
  have hbE := below_alloc W (.cells #[.int .i64 0] 24)
  have hE := Blk.new W 24 [.int .i64 0]
  have hD := (h.below hbW).below hbE
  have hyE := hy.kept hbE
  have h1 := size1_any hD w.heap.size (w.heap.size + 1) ((hx.kept hbE).cell' rfl) _ hyE
  have hc := caught_of (ents Try.func68 (by kernel_rfl) rfl) W 0 (fun w' => w' = (W.alloc (.cells #[.int .i64 0] 24)).setCell ⟨w.heap.size + 1, 0, none⟩ (.int .i64 (s.secs.length : Int))) (h1.mono fun e w' ⟨he, hw'⟩ => ⟨he, by rw [hw']; exact hE.setOther _ _ (by show W.heap.size ≠ w.heap.size + 1; omega), hw'⟩)
  have hz := ((hyE.set 0 (.int .i64 (s.secs.length : Int))).setOther ⟨W.heap.size, 0, none⟩ (.int .i64 0) (by show w.heap.size + 1 ≠ W.heap.size; omega)).cell' (i := 0) (v := .int .i64 (s.secs.length : Int)) rfl
  have hbZ : Below w.heap.size w (((W.alloc (.cells #[.int .i64 0] 24)).setCell ⟨w.heap.size + 1, 0, none⟩ (.int .i64 (s.secs.length : Int))).setCell ⟨W.heap.size, 0, none⟩ (.int .i64 0)) :=
    (Turned.setCell _ _ _).below ((Turned.setCell _ _ _).below (bt hbW hbE) (by show w.heap.size ≤ w.heap.size + 1; omega)) (by show w.heap.size ≤ W.heap.size; omega)
  have hc' := hc.mono (R' := fun e w' => e = .returned (.int .i64 0) ∧ w' = ((W.alloc (.cells #[.int .i64 0] 24)).setCell ⟨w.heap.size + 1, 0, none⟩ (.int .i64 (s.secs.length : Int))).setCell ⟨W.heap.size, 0, none⟩ (.int .i64 0)) (fun e w' ⟨he, w1, hw1, _, hw2⟩ => ⟨he, by rw [hw2, hw1]⟩)
  generalize ((W.alloc (.cells #[.int .i64 0] 24)).setCell ⟨w.heap.size + 1, 0, none⟩ (.int .i64 (s.secs.length : Int))).setCell ⟨W.heap.size, 0, none⟩ (.int .i64 0) = Z at hz hbZ hc'
  clear h1 hD hc hsW hx hy hbE hE hyE
  unfold ramI at HW ⊢
  go_enter Try.func56, Try.ntmps56
  go_wp2_with (go_at_call 51; rw [HW.out]; refine hc'.mono ?_; rintro e w' ⟨rfl, hw'⟩; have hw2 := hw'.symm; subst hw2; clear hw')
  go_ret
  exact ⟨rfl, hbZ⟩
end Go.Proofs.Ytdmnddikcpfmfaa
