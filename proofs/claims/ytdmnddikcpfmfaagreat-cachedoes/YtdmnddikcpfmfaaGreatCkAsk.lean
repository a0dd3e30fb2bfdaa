/-
  How a cache asks its disk: caught, size, read, missing; its small questions.
-/
import Derived.Test.YtdmnddikcpfmfaaGreatCkMap
import Derived.Recover
import Derived.Shelf.Abstract
namespace Go.Proofs.YtdmnddikcpfmfaaGreat
open Go.RowKit Go.Maps Go.Shelf
/-- The deferred function of caught, where nothing panicked. -/
theorem catch_idle (a : Addr) (w : World) : CallsD Tryz.prog 104 #[.pointer (some a)] .returning w fun e u' w' => e = .returned (.tuple #[]) ∧ u' = .returning ∧ w' = w := by
  refine callsD_of_wpS Tryz.func104 rfl fun c₀ cs hu => ?_
  apply wpS_seq
  apply wpS_region
  simp [wpOpsS, go_sem, recoverD, hu, Tryz.ntmps104, Exit.thenS]
  refine wpS_cond (t := false) (by simp [Act.eval, Array.replicate]) ?_
  simp only [Bool.false_eq_true, if_false]
  refine wpS_of_wp (wp_skip ?_)
  cases c₀
  simp_all [bodyPostS, results, Tryz.results104]
/-- What caught answers of a function that does not panic. -/
theorem caught_of {clo : Nat} {caps : Array Value} (hent : Enters Tryz.prog clo) (w : World) (r : Int) (R : World → Prop)
    (h : Calls Tryz.prog clo caps (w.alloc (.cells #[.int .i64 0] 25)) fun e w' => e = .returned (.int .i64 r) ∧ Blk w' w.heap.size 25 [.int .i64 0] ∧ R w') :
    Calls Tryz.prog 82 #[.func (.func clo) #[] caps] w fun e w' => e = .returned (.int .i64 r) ∧ ∃ w1, R w1 ∧ Blk w1 w.heap.size 25 [.int .i64 0] ∧ w' = w1.setCell ⟨w.heap.size, 0, none⟩ (.int .i64 r) := by
  have hmf : ∀ (fn : Fn) (first cap : Array Value) (w : World), (Instr.makeFunc fn first cap).run Tryz.prog w = .ok (.func fn first cap) w := fun _ _ _ _ => rfl
  have hent' : ∀ (args : Array Value) (w : World), (callFunc clo args).run Tryz.prog w = .ok (.enter clo args) w := hent
  go_enter_defers Tryz.func82, Tryz.ntmps82
  go_wp2_with (refine h.mono ?_; rintro e w1 ⟨rfl, hb1, hR1⟩; have hc1 := hb1.cell' (i := 0) (v := .int .i64 0) rfl; have hf1 := hb1.frozen 0)
  refine leaves_cons (f := 104) (args := #[.pointer (some ⟨w.heap.size, 0, none⟩)]) (by simp) (by simp [go_sem]) ?_
  refine (catch_idle _ _).mono ?_
  rintro e u' w'' ⟨rfl, rfl, rfl⟩
  have hb2 := hb1.set 0 (.int .i64 r)
  have hc2 : (w1.setCell ⟨w.heap.size, 0, none⟩ (.int .i64 r)).cell? ⟨w.heap.size, 0, none⟩ = some (.int .i64 r) := hb2.cell' rfl
  simp only [Leaves, settle]
  exact ⟨_, by simp [results, Tryz.results82, go_sem, hc2], rfl, w1, hR1, hb1, rfl⟩
theorem ents {f : FuncId} {fn : Func} {c : Code} (hf : Tryz.prog.funcs[f]? = some fn) (hname : (fn.name == "runtime.NumGoroutine") = false) (hb : fn.body = some c) : Enters Tryz.prog f := enters_of hf hname hb
theorem size1_any {W : World} {d sb : Nat} {lv : Value} {s : DS} (h : DiskIn W d sb lv s) (x y : Nat) (hx : W.cell? ⟨x, 0, none⟩ = some (ramI d)) (v : Value) (hy : Blk W y 3 [v]) : Calls Tryz.prog 100 #[.pointer (some ⟨x, 0, none⟩), .pointer (some ⟨y, 0, none⟩)] W fun e w' => e = .returned (.int .i64 0) ∧ w' = W.setCell ⟨y, 0, none⟩ (.int .i64 (s.secs.length : Int)) := by
  have hm1 : ∀ W : World, (method 275 24 (.pointer (some ⟨d, 0, none⟩)) "Size").run Tryz.prog W = .ok (147, .pointer (some ⟨d, 0, none⟩)) W := fun _ => by kernel_rfl
  have hz := size_any h
  have hc := hy.cell' (i := 0) (v := v) rfl
  have hf := hy.frozen 0
  unfold ramI at hx
  go_enter Tryz.func100, Tryz.ntmps100
  go_wp2_with (refine hz.mono ?_; rintro e w' ⟨rfl, hw'⟩; have hw2 := hw'.symm; subst hw2; clear hw')
  go_ret
  exact ⟨rfl, rfl⟩
theorem csize_any {w : World} {d sb : Nat} {lv : Value} {s : DS} (h : DiskIn w d sb lv s) : Calls Tryz.prog 68 #[ramI d] w fun e w' => e = .returned (.int .i64 (s.secs.length : Int)) ∧ Below w.heap.size w w' := by
  have hmf : ∀ (fn : Fn) (first cap : Array Value) (w : World), (Instr.makeFunc fn first cap).run Tryz.prog w = .ok (.func fn first cap) w := fun _ _ _ _ => rfl
  obtain ⟨W, HW⟩ : ∃ W, Hid ((w.alloc (.cells #[ramI d] 68)).alloc (.cells #[.int .i64 0] 3) = W) := ⟨_, rfl⟩
  have hbW : Below w.heap.size w W := HW.out ▸ bt (below_alloc w _) (below_alloc _ _)
  have hx : Blk W w.heap.size 68 [ramI d] := HW.out ▸ (Blk.new w 68 [ramI d]).alloc _
  have hy : Blk W (w.heap.size + 1) 3 [.int .i64 0] := by
    have := Blk.new (w.alloc (.cells #[ramI d] 68)) 3 [.int .i64 0]
    rw [World.size_alloc] at this
    exact HW.out ▸ this
  have hsW : W.heap.size = w.heap.size + 1 + 1 := by rw [← HW.out]; simp
  have hbE := below_alloc W (.cells #[.int .i64 0] 25)
  have hE := Blk.new W 25 [.int .i64 0]
  have hD := (h.below hbW).below hbE
  have hyE := hy.kept hbE
  have h1 := size1_any hD w.heap.size (w.heap.size + 1) ((hx.kept hbE).cell' rfl) _ hyE
  have hc := caught_of (ents Tryz.func100 (by kernel_rfl) rfl) W 0 (fun w' => w' = (W.alloc (.cells #[.int .i64 0] 25)).setCell ⟨w.heap.size + 1, 0, none⟩ (.int .i64 (s.secs.length : Int))) (h1.mono fun e w' ⟨he, hw'⟩ => ⟨he, by rw [hw']; exact hE.setOther _ _ (by show W.heap.size ≠ w.heap.size + 1; omega), hw'⟩)
  have hz := ((hyE.set 0 (.int .i64 (s.secs.length : Int))).setOther ⟨W.heap.size, 0, none⟩ (.int .i64 0) (by show w.heap.size + 1 ≠ W.heap.size; omega)).cell' (i := 0) (v := .int .i64 (s.secs.length : Int)) rfl
  have hbZ : Below w.heap.size w (((W.alloc (.cells #[.int .i64 0] 25)).setCell ⟨w.heap.size + 1, 0, none⟩ (.int .i64 (s.secs.length : Int))).setCell ⟨W.heap.size, 0, none⟩ (.int .i64 0)) :=
    (Turned.setCell _ _ _).below ((Turned.setCell _ _ _).below (bt hbW hbE) (by show w.heap.size ≤ w.heap.size + 1; omega)) (by show w.heap.size ≤ W.heap.size; omega)
  have hc' := hc.mono (R' := fun e w' => e = .returned (.int .i64 0) ∧ w' = ((W.alloc (.cells #[.int .i64 0] 25)).setCell ⟨w.heap.size + 1, 0, none⟩ (.int .i64 (s.secs.length : Int))).setCell ⟨W.heap.size, 0, none⟩ (.int .i64 0)) (fun e w' ⟨he, w1, hw1, _, hw2⟩ => ⟨he, by rw [hw2, hw1]⟩)
  generalize ((W.alloc (.cells #[.int .i64 0] 25)).setCell ⟨w.heap.size + 1, 0, none⟩ (.int .i64 (s.secs.length : Int))).setCell ⟨W.heap.size, 0, none⟩ (.int .i64 0) = Z at hz hbZ hc'
  clear h1 hD hc hsW hx hy hbE hE hyE
  unfold ramI at HW ⊢
  go_enter Tryz.func68, Tryz.ntmps68
  go_wp2_with (go_at_call 82; rw [HW.out]; refine hc'.mono ?_; rintro e w' ⟨rfl, hw'⟩; have hw2 := hw'.symm; subst hw2; clear hw')
  go_ret
  exact ⟨rfl, hbZ⟩
end Go.Proofs.YtdmnddikcpfmfaaGreat

namespace Go.Proofs.YtdmnddikcpfmfaaGreat
open Go.RowKit Go.Maps Go.Shelf
theorem read1_any {W : World} {d sb : Nat} {lv : Value} {s : DS} (h : DiskIn W d sb lv s) (x y z : Nat) (i : Int) (hx : W.cell? ⟨x, 0, none⟩ = some (ramI d)) (hy : W.cell? ⟨y, 0, none⟩ = some (.int .i64 i)) (v : Value) (hz : Blk W z 52 [v]) : Calls Tryz.prog 101 #[.pointer (some ⟨x, 0, none⟩), .pointer (some ⟨y, 0, none⟩), .pointer (some ⟨z, 0, none⟩)] W fun e w' => e = .returned (.int .i64 (readE s i)) ∧
    ∃ p c W2, Below W.heap.size W W2 ∧ In W2 p (readD s i).length c (readD s i) ∧ U8 W2 p ∧ (∀ a, p = some a → W.heap.size ≤ a.block ∨ (readD s i).length = 0) ∧ w' = W2.setCell ⟨z, 0, none⟩ (.slice p (readD s i).length c) := by
  have hm1 : ∀ W : World, (method 275 24 (.pointer (some ⟨d, 0, none⟩)) "Read").run Tryz.prog W = .ok (18, .pointer (some ⟨d, 0, none⟩)) W := fun _ => by kernel_rfl
  have hr := read_any h i
  generalize readE s i = E at *
  generalize readD s i = D at *
  unfold ramI at hx
  go_enter Tryz.func101, Tryz.ntmps101
  go_wp2_with (first
    | (go_at_call 61; refine (clone_u8 _ _ _ _ _ hin).mono ?_; rintro e w2 ⟨p2, c2, rfl, hin2, hb2, hfr2, hu2⟩; have hz2 := (hz.kept hb1).kept hb2; have hc2 := hz2.cell' (i := 0) (v := v) rfl; have hf2 := hz2.frozen 0)
    | (refine hr.mono ?_; rintro e w1 ⟨p1, c1, rfl, hin, hb1, _⟩))
  go_ret
  exact ⟨rfl, p2, c2, w2, bt hb1 hb2, hin2, hu2, fun a ha => (hfr2 a ha).imp (Nat.le_trans hb1.size) id, rfl⟩
theorem cread_any {w : World} {d sb : Nat} {lv : Value} {s : DS} (h : DiskIn w d sb lv s) (i : Int) : Calls Tryz.prog 69 #[ramI d, .int .i64 i] w fun e w' =>
    ∃ p c, e = .returned (.tuple #[.slice p (readD s i).length c, .int .i64 (readE s i)]) ∧ In w' p (readD s i).length c (readD s i) ∧ U8 w' p ∧ Below w.heap.size w w' ∧ (∀ a, p = some a → w.heap.size ≤ a.block ∨ (readD s i).length = 0) := by
  have hmf : ∀ (fn : Fn) (first cap : Array Value) (w : World), (Instr.makeFunc fn first cap).run Tryz.prog w = .ok (.func fn first cap) w := fun _ _ _ _ => rfl
  obtain ⟨W, HW⟩ : ∃ W, Hid (((w.alloc (.cells #[ramI d] 68)).alloc (.cells #[.int .i64 i] 3)).alloc (.cells #[.slice none 0 0] 52) = W) := ⟨_, rfl⟩
  have hbW : Below w.heap.size w W := HW.out ▸ bt (bt (below_alloc w _) (below_alloc _ _)) (below_alloc _ _)
  have hx : Blk W w.heap.size 68 [ramI d] := HW.out ▸ ((Blk.new w 68 [ramI d]).alloc _).alloc _
  have hy : Blk W (w.heap.size + 1) 3 [.int .i64 i] := by
    have := (Blk.new (w.alloc (.cells #[ramI d] 68)) 3 [.int .i64 i]).alloc (.cells #[.slice none 0 0] 52)
    rw [World.size_alloc] at this
    exact HW.out ▸ this
  have hz : Blk W (w.heap.size + 1 + 1) 52 [.slice none 0 0] := by
    have := Blk.new ((w.alloc (.cells #[ramI d] 68)).alloc (.cells #[.int .i64 i] 3)) 52 [.slice none 0 0]
    rw [World.size_alloc, World.size_alloc] at this
    exact HW.out ▸ this
  have hsW : W.heap.size = w.heap.size + 1 + 1 + 1 := by rw [← HW.out]; simp
  have hbE := below_alloc W (.cells #[.int .i64 0] 25)
  have hE := Blk.new W 25 [.int .i64 0]
  have hD := (h.below hbW).below hbE
  have hzE := hz.kept hbE
  have h1 := read1_any hD w.heap.size (w.heap.size + 1) (w.heap.size + 1 + 1) i ((hx.kept hbE).cell' rfl) ((hy.kept hbE).cell' rfl) _ hzE
  generalize readE s i = E at *
  generalize readD s i = D at *
  have hc := caught_of (ents Tryz.func101 (by kernel_rfl) rfl) W E (fun w' => ∃ p c, In w' p D.length c D ∧ U8 w' p ∧ Below w.heap.size w w' ∧ (∀ a, p = some a → w.heap.size ≤ a.block ∨ D.length = 0) ∧ Blk w' (w.heap.size + 1 + 1) 52 [.slice p D.length c]) (h1.mono fun e w' ⟨he, p, c, W2, hb2, hin2, hu2, hf2, hw'⟩ => by
    subst hw'
    have hz2 := hzE.kept hb2
    refine ⟨he, (hE.kept hb2).setOther _ _ (by show W.heap.size ≠ w.heap.size + 1 + 1; omega), p, c, ?_, hu2.same (fun a ha => heap_setCell_other _ _ _ _ (hu2.ne ha hz2 (by decide))), (Turned.setCell _ _ _).below (bt (bt hbW hbE) hb2) (by show w.heap.size ≤ w.heap.size + 1 + 1; omega), fun a ha => (hf2 a ha).imp (Nat.le_trans (bt hbW hbE).size) id, hz2.set 0 _⟩
    exact hin2.same (fun a ha _ => heap_setCell_other _ _ _ _ (hu2.ne ha hz2 (by decide))))
  have hc' := hc.mono (R' := fun e w' => e = .returned (.int .i64 E) ∧ ∃ p c, In w' p D.length c D ∧ U8 w' p ∧ Below w.heap.size w w' ∧ (∀ a, p = some a → w.heap.size ≤ a.block ∨ D.length = 0) ∧ Blk w' (w.heap.size + 1 + 1) 52 [.slice p D.length c]) (fun e w' ⟨he, w1, ⟨p, c, a1, a2, a3, a4, a5⟩, hb1, hw2⟩ => by
    subst hw2
    refine ⟨he, p, c, a1.same (fun a ha _ => heap_setCell_other _ _ _ _ (a2.ne ha hb1 (by decide))), a2.same (fun a ha => heap_setCell_other _ _ _ _ (a2.ne ha hb1 (by decide))), (Turned.setCell _ _ _).below a3 (by show w.heap.size ≤ W.heap.size; omega), a4, a5.setOther _ _ (by show w.heap.size + 1 + 1 ≠ W.heap.size; omega)⟩)
  clear h1 hD hc hsW hx hy hbE hE hzE hz hbW
  unfold ramI at HW ⊢
  go_enter Tryz.func69, Tryz.ntmps69
  go_wp2_with (go_at_call 82; rw [HW.out]; refine hc'.mono ?_; rintro e w' ⟨rfl, p, c, hin, hu, hb, hfr, hz⟩; have hz1 := hz.cell' (i := 0) (v := .slice p D.length c) rfl; have hz2 := hz.frozen 0)
  have hz3 := hz.set 0 (.slice p D.length c)
  have hz4 : (w'.setCell ⟨w.heap.size + 1 + 1, 0, none⟩ (.slice p D.length c)).cell? ⟨w.heap.size + 1 + 1, 0, none⟩ = some (.slice p D.length c) := hz3.cell' rfl
  refine bodyPost_ret (v := .tuple #[.slice p D.length c, .int .i64 E]) (by simp [results, Tryz.results69, go_sem, hz4]) rfl ?_
  exact ⟨p, c, rfl, hin.same (fun a ha _ => heap_setCell_other _ _ _ _ (hu.ne ha hz (by decide))), hu.same (fun a ha => heap_setCell_other _ _ _ _ (hu.ne ha hz (by decide))), (Turned.setCell _ _ _).below hb (by show w.heap.size ≤ w.heap.size + 1 + 1; omega), hfr⟩
theorem cmissing_no {w : World} {d sb : Nat} {lv : Value} {s : DS} (h : DiskIn w d sb lv s) : Calls Tryz.prog 24 #[ramI d] w fun e w' => e = .returned (.bool false) ∧ Below w.heap.size w w' := by
  have hz := csize_any h
  have hn : (0 : Int) < (s.secs.length : Int) := by have := h.n1; omega
  unfold ramI at hz ⊢
  go_enter Tryz.func24, Tryz.ntmps24
  go_wp2_with (go_at_call 68; refine hz.mono ?_; rintro e w' ⟨rfl, hb⟩)
  go_ret
  exact ⟨rfl, hb⟩
theorem cmissing_nil (w : World) : Calls Tryz.prog 24 #[.nilIface] w fun e w' => e = .returned (.bool true) ∧ w' = w := by
  go_enter Tryz.func24, Tryz.ntmps24
  go_wp2
  go_ret
  exact ⟨rfl, rfl⟩
theorem cisClass_any (k : Int) (w : World) : Calls Tryz.prog 58 #[.int .i64 k] w fun e w' => e = .returned (.bool (decide (k = 1) || decide (k = 2))) ∧ w' = w := by
  by_cases h : k = 1
  · subst h
    go_enter Tryz.func58, Tryz.ntmps58
    go_wp2
    go_ret
    exact ⟨rfl, rfl⟩
  · go_enter Tryz.func58, Tryz.ntmps58
    go_wp2
    go_ret
    exact ⟨ret_bool (by by_cases h2 : k = 2 <;> simp [h, h2]), rfl⟩
/-- A cache that a call made. -/
theorem cmade_yes {w : World} {c d : Nat} (h : w.cell? ⟨c, 0, none⟩ = some (ramI d)) : Calls Tryz.prog 67 #[.pointer (some ⟨c, 0, none⟩)] w fun e w' => e = .returned (.bool true) ∧ w' = w := by
  unfold ramI at h
  go_enter Tryz.func67, Tryz.ntmps67
  go_wp2
  go_ret
  exact ⟨rfl, rfl⟩
theorem CIn.c0 {w : World} {s : CS} (h : CIn w s) : w.cell? ⟨s.c, 0, none⟩ = some (ramI s.d) := h.base.cc.cell' rfl
theorem CIn.c1 {w : World} {s : CS} (h : CIn w s) : w.cell? ⟨s.c, 1, none⟩ = some (.int .i64 (s.room : Int)) := h.base.cc.cell' rfl
theorem CIn.c2 {w : World} {s : CS} (h : CIn w s) : w.cell? ⟨s.c, 2, none⟩ = some (.map (some s.bm)) := h.base.cc.cell' rfl
theorem CIn.c3 {w : World} {s : CS} (h : CIn w s) : w.cell? ⟨s.c, 3, none⟩ = some (.pointer (some ⟨s.e, 0, none⟩)) := h.base.cc.cell' rfl
theorem cisBlock_any {w : World} {s : CS} (h : CIn w s) (i : Int) : Calls Tryz.prog 84 #[.pointer (some ⟨s.c, 0, none⟩), .int .i64 i] w fun e w' => e = .returned (.bool (hasB s.ds.secs.length i)) ∧ Below w.heap.size w w' := by
  have h0 := h.c0
  have hz := csize_any h.base.disk
  unfold ramI at h0 hz
  by_cases hi : 0 ≤ i
  · go_enter Tryz.func84, Tryz.ntmps84
    go_wp2_with (go_at_call 68; refine hz.mono ?_; rintro e w' ⟨rfl, hb⟩)
    go_ret
    exact ⟨ret_bool (by simp [hasB, hi]), hb⟩
  · go_enter Tryz.func84, Tryz.ntmps84
    go_wp2_with fail
    go_ret
    exact ⟨ret_bool (by simp [hasB]; omega), Below.refl _ _⟩
def chkE (n : Nat) (i : Int) : Int := if hasB n i = true then 0 else 1
theorem chkE_yes {n : Nat} {i : Int} (h : hasB n i = true) : chkE n i = 0 := if_pos h
theorem chkE_no {n : Nat} {i : Int} (h : hasB n i = false) : chkE n i = 1 := if_neg (by simp [h])
theorem ccheck_any {w : World} {s : CS} (h : CIn w s) (i : Int) : Calls Tryz.prog 57 #[.pointer (some ⟨s.c, 0, none⟩), .int .i64 i] w fun e w' => e = .returned (.int .i64 (chkE s.ds.secs.length i)) ∧ Below w.heap.size w w' := by
  have hm := cmade_yes h.c0
  have hz := cisBlock_any h i
  cases hh : hasB s.ds.secs.length i
  · rw [hh] at hz
    rw [chkE_no hh]
    go_enter Tryz.func57, Tryz.ntmps57
    go_wp2_with (first
      | (go_at_call 67; refine hm.mono ?_; rintro e w' ⟨rfl, hw'⟩; have hw2 := hw'.symm; subst hw2; clear hw')
      | (go_at_call 84; refine hz.mono ?_; rintro e w' ⟨rfl, hb⟩))
    go_ret
    exact ⟨rfl, hb⟩
  · rw [hh] at hz
    rw [chkE_yes hh]
    go_enter Tryz.func57, Tryz.ntmps57
    go_wp2_with (first
      | (go_at_call 67; refine hm.mono ?_; rintro e w' ⟨rfl, hw'⟩; have hw2 := hw'.symm; subst hw2; clear hw')
      | (go_at_call 84; refine hz.mono ?_; rintro e w' ⟨rfl, hb⟩))
    go_ret
    exact ⟨rfl, hb⟩
def goesB (b : BP) : Bool := decide (b.pins = 0) && decide (b.cl ≠ 2)
theorem mayGo_any {w : World} {x : BufS} {o n : Nat} (h : Blk w x.g 97 (bufV x o n)) : Calls Tryz.prog 94 #[.pointer (some ⟨x.g, 0, none⟩)] w fun e w' => e = .returned (.bool (goesB x.b)) ∧ w' = w := by
  have h3 := h.cell' (i := 3) (v := .int .i64 (x.b.pins : Int)) rfl
  have h2 := h.cell' (i := 2) (v := .int .i64 (x.b.cl : Int)) rfl
  by_cases hp : x.b.pins = 0
  · rw [hp] at h3
    go_enter Tryz.func94, Tryz.ntmps94
    go_wp2
    go_ret
    refine ⟨ret_bool ?_, rfl⟩
    by_cases h4 : x.b.cl = 2
    · simp [goesB, hp, h4]
    · have h5 : ¬ (x.b.cl : Int) = 2 := by omega
      simp [goesB, hp, h4, h5]
  · have hp' : ¬ (x.b.pins : Int) = 0 := by omega
    go_enter Tryz.func94, Tryz.ntmps94
    go_wp2
    go_ret
    exact ⟨ret_bool (by simp [goesB, hp]), rfl⟩
end Go.Proofs.YtdmnddikcpfmfaaGreat
