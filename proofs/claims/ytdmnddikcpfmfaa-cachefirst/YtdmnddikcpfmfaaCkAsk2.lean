/-
  How a cache reads its disk; its small questions.
-/
import Derived.Test.YtdmnddikcpfmfaaCkAsk
namespace Go.Proofs.Ytdmnddikcpfmfaa
open Go.RowKit Go.Maps Go.Shelf
theorem read1_any {W : World} {d sb : Nat} {lv : Value} {s : DS} (h : DiskIn W d sb lv s) (x y z : Nat) (i : Int) (hx : W.cell? ⟨x, 0, none⟩ = some (ramI d)) (hy : W.cell? ⟨y, 0, none⟩ = some (.int .i64 i)) (v : Value) (hz : Blk W z 35 [v]) : Calls Try.prog 69 #[.pointer (some ⟨x, 0, none⟩), .pointer (some ⟨y, 0, none⟩), .pointer (some ⟨z, 0, none⟩)] W fun e w' => e = .returned (.int .i64 (readE s i)) ∧
    ∃ p c W2, Below W.heap.size W W2 ∧ In W2 p (readD s i).length c (readD s i) ∧ U8 W2 p ∧ (∀ a, p = some a → W.heap.size ≤ a.block ∨ (readD s i).length = 0) ∧ w' = W2.setCell ⟨z, 0, none⟩ (.slice p (readD s i).length c) := by
  have hm1 : ∀ W : World, (method 245 23 (.pointer (some ⟨d, 0, none⟩)) "Read").run Try.prog W = .ok (18, .pointer (some ⟨d, 0, none⟩)) W := fun _ => by kernel_rfl
  have hr := read_any h i
  generalize readE s i = E at *
  generalize readD s i = D at *
  unfold ramI at hx
  go_enter Try.func69, Try.ntmps69
  go_wp2_with (first
    | (go_at_call 32; refine (clone_u8 _ _ _ _ _ hin).mono ?_; rintro e w2 ⟨p2, c2, rfl, hin2, hb2, hfr2, hu2⟩; have hz2 := (hz.kept hb1).kept hb2; have hc2 := hz2.cell' (i := 0) (v := v) rfl; have hf2 := hz2.frozen 0)
    | (refine hr.mono ?_; rintro e w1 ⟨p1, c1, rfl, hin, hb1, _⟩))
  go_ret
  exact ⟨rfl, p2, c2, w2, bt hb1 hb2, hin2, hu2, fun a ha => (hfr2 a ha).imp (Nat.le_trans hb1.size) id, rfl⟩
theorem cread_any {w : World} {d sb : Nat} {lv : Value} {s : DS} (h : DiskIn w d sb lv s) (i : Int) : Calls Try.prog 57 #[ramI d, .int .i64 i] w fun e w' =>
    ∃ p c, e = .returned (.tuple #[.slice p (readD s i).length c, .int .i64 (readE s i)]) ∧ In w' p (readD s i).length c (readD s i) ∧ U8 w' p ∧ Below w.heap.size w w' ∧ (∀ a, p = some a → w.heap.size ≤ a.block ∨ (readD s i).length = 0) := by
  have hmf : ∀ (fn : Fn) (first cap : Array Value) (w : World), (Instr.makeFunc fn first cap).run Try.prog w = .ok (.func fn first cap) w := fun _ _ _ _ => rfl
  obtain ⟨W, HW⟩ : ∃ W, Hid (((w.alloc (.cells #[ramI d] 55)).alloc (.cells #[.int .i64 i] 3)).alloc (.cells #[.slice none 0 0] 35) = W) := ⟨_, rfl⟩
  have hbW : Below w.heap.size w W := HW.out ▸ bt (bt (below_alloc w _) (below_alloc _ _)) (below_alloc _ _)
  have hx : Blk W w.heap.size 55 [ramI d] := HW.out ▸ ((Blk.new w 55 [ramI d]).alloc _).alloc _
  have hy : Blk W (w.heap.size + 1) 3 [.int .i64 i] := by
    have := (Blk.new (w.alloc (.cells #[ramI d] 55)) 3 [.int .i64 i]).alloc (.cells #[.slice none 0 0] 35)
    rw [World.size_alloc] at this
    exact HW.out ▸ this
  have hz : Blk W (w.heap.size + 1 + 1) 35 [.slice none 0 0] := by
    have := Blk.new ((w.alloc (.cells #[ramI d] 55)).alloc (.cells #[.int .i64 i] 3)) 35 [.slice none 0 0]
    rw [World.size_alloc, World.size_alloc] at this
    exact HW.out ▸ this
  have hsW : W.heap.size = w.heap.size + 1 + 1 + 1 := by rw [← HW.out]; simp
  have hbE := below_alloc W (.cells #[.int .i64 0] 24)
  have hE := Blk.new W 24 [.int .i64 0]
  have hD := (h.below hbW).below hbE
  have hzE := hz.kept hbE
  have h1 := read1_any hD w.heap.size (w.heap.size + 1) (w.heap.size + 1 + 1) i ((hx.kept hbE).cell' rfl) ((hy.kept hbE).cell' rfl) _ hzE
  generalize readE s i = E at *
  generalize readD s i = D at *
  have hc := caught_of (ents Try.func69 (by kernel_rfl) rfl) W E (fun w' => ∃ p c, In w' p D.length c D ∧ U8 w' p ∧ Below w.heap.size w w' ∧ (∀ a, p = some a → w.heap.size ≤ a.block ∨ D.length = 0) ∧ Blk w' (w.heap.size + 1 + 1) 35 [.slice p D.length c]) (h1.mono fun e w' ⟨he, p, c, W2, hb2, hin2, hu2, hf2, hw'⟩ => by
    subst hw'
    have hz2 := hzE.kept hb2
    refine ⟨he, (hE.kept hb2).setOther _ _ (by show W.heap.size ≠ w.heap.size + 1 + 1; omega), p, c, ?_, hu2.same (fun a ha => heap_setCell_other _ _ _ _ (hu2.ne ha hz2 (by decide))), (Turned.setCell _ _ _).below (bt (bt hbW hbE) hb2) (by show w.heap.size ≤ w.heap.size + 1 + 1; omega), fun a ha => (hf2 a ha).imp (Nat.le_trans (bt hbW hbE).size) id, hz2.set 0 _⟩
    exact hin2.same (fun a ha _ => heap_setCell_other _ _ _ _ (hu2.ne ha hz2 (by decide))))
  have hc' := hc.mono (R' := fun e w' => e = .returned (.int .i64 E) ∧ ∃ p c, In w' p D.length c D ∧ U8 w' p ∧ Below w.heap.size w w' ∧ (∀ a, p = some a → w.heap.size ≤ a.block ∨ D.length = 0) ∧ Blk w' (w.heap.size + 1 + 1) 35 [.slice p D.length c]) (fun e w' ⟨he, w1, ⟨p, c, a1, a2, a3, a4, a5⟩, hb1, hw2⟩ => by
    subst hw2
    refine ⟨he, p, c, a1.same (fun a ha _ => heap_setCell_other _ _ _ _ (a2.ne ha hb1 (by decide))), a2.same (fun a ha => heap_setCell_other _ _ _ _ (a2.ne ha hb1 (by decide))), (Turned.setCell _ _ _).below a3 (by show w.heap.size ≤ W.heap.size; omega), a4, a5.setOther _ _ (by show w.heap.size + 1 + 1 ≠ W.heap.size; omega)⟩)
  clear h1 hD hc hsW hx hy hbE hE hzE hz hbW
  unfold ramI at HW ⊢
  go_enter Try.func57, Try.ntmps57
  go_wp2_with (go_at_call 51; rw [HW.out]; refine hc'.mono ?_; rintro e w' ⟨rfl, p, c, hin, hu, hb, hfr, hz⟩; have hz1 := hz.cell' (i := 0) (v := .slice p D.length c) rfl; have hz2 := hz.frozen 0)
  have hz3 := hz.set 0 (.slice p D.length c)
  have hz4 : (w'.setCell ⟨w.heap.size + 1 + 1, 0, none⟩ (.slice p D.length c)).cell? ⟨w.heap.size + 1 + 1, 0, none⟩ = some (.slice p D.length c) := hz3.cell' rfl
  refine bodyPost_ret (v := .tuple #[.slice p D.length c, .int .i64 E]) (by simp [results, Try.results57, go_sem, hz4]) rfl ?_
  exact ⟨p, c, rfl, hin.same (fun a ha _ => heap_setCell_other _ _ _ _ (hu.ne ha hz (by decide))), hu.same (fun a ha => heap_setCell_other _ _ _ _ (hu.ne ha hz (by decide))), (Turned.setCell _ _ _).below hb (by show w.heap.size ≤ w.heap.size + 1 + 1; omega), hfr⟩
theorem cmissing_no {w : World} {d sb : Nat} {lv : Value} {s : DS} (h : DiskIn w d sb lv s) : Calls Try.prog 28 #[ramI d] w fun e w' => e = .returned (.bool false) ∧ Below w.heap.size w w' := by
  have hz := csize_any h
  have hn : (0 : Int) < (s.secs.length : Int) := by have := h.n1; omega
  unfold ramI at hz ⊢
  go_enter Try.func28, Try.ntmps28
  go_wp2_with (go_at_call 56; refine hz.mono ?_; rintro e w' ⟨rfl, hb⟩)
  go_ret
  exact ⟨rfl, hb⟩
theorem cmissing_nil (w : World) : Calls Try.prog 28 #[.nilIface] w fun e w' => e = .returned (.bool true) ∧ w' = w := by
  go_enter Try.func28, Try.ntmps28
  go_wp2
  go_ret
  exact ⟨rfl, rfl⟩
theorem cisClass_any (k : Int) (w : World) : Calls Try.prog 34 #[.int .i64 k] w fun e w' => e = .returned (.bool (decide (k = 1) || decide (k = 2))) ∧ w' = w := by
  by_cases h : k = 1
  · subst h
    go_enter Try.func34, Try.ntmps34
    go_wp2
    go_ret
    exact ⟨rfl, rfl⟩
  · go_enter Try.func34, Try.ntmps34
    go_wp2
    go_ret
    exact ⟨ret_bool (by by_cases h2 : k = 2 <;> simp [h, h2]), rfl⟩
/-- A cache that a call made. -/
theorem cmade_yes {w : World} {c d : Nat} (h : w.cell? ⟨c, 0, none⟩ = some (ramI d)) : Calls Try.prog 39 #[.pointer (some ⟨c, 0, none⟩)] w fun e w' => e = .returned (.bool true) ∧ w' = w := by
  unfold ramI at h
  go_enter Try.func39, Try.ntmps39
  go_wp2
  go_ret
  exact ⟨rfl, rfl⟩
theorem CIn.c0 {w : World} {s : CS} (h : CIn w s) : w.cell? ⟨s.c, 0, none⟩ = some (ramI s.d) := h.base.cc.cell' rfl
theorem CIn.c1 {w : World} {s : CS} (h : CIn w s) : w.cell? ⟨s.c, 1, none⟩ = some (.int .i64 (s.room : Int)) := h.base.cc.cell' rfl
theorem CIn.c2 {w : World} {s : CS} (h : CIn w s) : w.cell? ⟨s.c, 2, none⟩ = some (.map (some s.bm)) := h.base.cc.cell' rfl
theorem CIn.c3 {w : World} {s : CS} (h : CIn w s) : w.cell? ⟨s.c, 3, none⟩ = some (.pointer (some ⟨s.e, 0, none⟩)) := h.base.cc.cell' rfl
theorem cisBlock_any {w : World} {s : CS} (h : CIn w s) (i : Int) : Calls Try.prog 54 #[.pointer (some ⟨s.c, 0, none⟩), .int .i64 i] w fun e w' => e = .returned (.bool (hasB s.ds.secs.length i)) ∧ Below w.heap.size w w' := by
  have h0 := h.c0
  have hz := csize_any h.base.disk
  unfold ramI at h0 hz
  by_cases hi : 0 ≤ i
  · go_enter Try.func54, Try.ntmps54
    go_wp2_with (go_at_call 56; refine hz.mono ?_; rintro e w' ⟨rfl, hb⟩)
    go_ret
    exact ⟨ret_bool (by simp [hasB, hi]), hb⟩
  · go_enter Try.func54, Try.ntmps54
    go_wp2_with fail
    go_ret
    exact ⟨ret_bool (by simp [hasB]; omega), Below.refl _ _⟩
def chkE (n : Nat) (i : Int) : Int := if hasB n i = true then 0 else 1
theorem chkE_yes {n : Nat} {i : Int} (h : hasB n i = true) : chkE n i = 0 := if_pos h
theorem chkE_no {n : Nat} {i : Int} (h : hasB n i = false) : chkE n i = 1 := if_neg (by simp [h])
theorem ccheck_any {w : World} {s : CS} (h : CIn w s) (i : Int) : Calls Try.prog 33 #[.pointer (some ⟨s.c, 0, none⟩), .int .i64 i] w fun e w' => e = .returned (.int .i64 (chkE s.ds.secs.length i)) ∧ Below w.heap.size w w' := by
  have hm := cmade_yes h.c0
  have hz := cisBlock_any h i
  cases hh : hasB s.ds.secs.length i
  · rw [hh] at hz
    rw [chkE_no hh]
    go_enter Try.func33, Try.ntmps33
    go_wp2_with (first
      | (go_at_call 39; refine hm.mono ?_; rintro e w' ⟨rfl, hw'⟩; have hw2 := hw'.symm; subst hw2; clear hw')
      | (go_at_call 54; refine hz.mono ?_; rintro e w' ⟨rfl, hb⟩))
    go_ret
    exact ⟨rfl, hb⟩
  · rw [hh] at hz
    rw [chkE_yes hh]
    go_enter Try.func33, Try.ntmps33
    go_wp2_with (first
      | (go_at_call 39; refine hm.mono ?_; rintro e w' ⟨rfl, hw'⟩; have hw2 := hw'.symm; subst hw2; clear hw')
      | (go_at_call 54; refine hz.mono ?_; rintro e w' ⟨rfl, hb⟩))
    go_ret
    exact ⟨rfl, hb⟩
def goesB (b : BP) : Bool := decide (b.pins = 0) && decide (b.cl ≠ 2)
theorem mayGo_any {w : World} {x : BufS} {o n : Nat} (h : Blk w x.g 74 (bufV x o n)) : Calls Try.prog 58 #[.pointer (some ⟨x.g, 0, none⟩)] w fun e w' => e = .returned (.bool (goesB x.b)) ∧ w' = w := by
  have h3 := h.cell' (i := 3) (v := .int .i64 (x.b.pins : Int)) rfl
  have h2 := h.cell' (i := 2) (v := .int .i64 (x.b.cl : Int)) rfl
  by_cases hp : x.b.pins = 0
  · rw [hp] at h3
    go_enter Try.func58, Try.ntmps58
    go_wp2
    go_ret
    refine ⟨ret_bool ?_, rfl⟩
    by_cases h4 : x.b.cl = 2
    · simp [goesB, hp, h4]
    · have h5 : ¬ (x.b.cl : Int) = 2 := by omega
      simp [goesB, hp, h4, h5]
  · have hp' : ¬ (x.b.pins : Int) = 0 := by omega
    go_enter Try.func58, Try.ntmps58
    go_wp2
    go_ret
    exact ⟨ret_bool (by simp [goesB, hp]), rfl⟩
end Go.Proofs.Ytdmnddikcpfmfaa
