/-
  What Flush does.
-/
import Derived.Test.YtdmnddikcpfmfaaCkClean
namespace Go.Proofs.Ytdmnddikcpfmfaa
open Go.RowKit Go.Maps Go.Shelf
theorem flush1_any {W : World} {s : CS} (h : CIn W s) (x : Nat) (hx : W.cell? ⟨x, 0, none⟩ = some (.pointer (some ⟨s.c, 0, none⟩))) : Calls Try.prog 52 #[.pointer (some ⟨x, 0, none⟩)] W fun e w' => e = .returned (.int .i64 (powE s.ds.on)) ∧ w' = W := by
  have hm1 : ∀ W : World, (method 245 23 (.pointer (some ⟨s.d, 0, none⟩)) "Flush").run Try.prog W = .ok (109, .pointer (some ⟨s.d, 0, none⟩)) W := fun _ => by kernel_rfl
  have hz := flush_any h.base.disk
  have h0 := h.c0
  unfold ramI at h0
  go_enter Try.func52, Try.ntmps52
  go_wp2_with (refine hz.mono ?_; rintro e w' ⟨rfl, hw'⟩; have hw2 := hw'.symm; subst hw2; clear hw')
  go_ret
  exact ⟨rfl, rfl⟩
theorem cFlush_any {w : World} {s : CS} (h : CIn w s) : Calls Try.prog 23 #[.pointer (some ⟨s.c, 0, none⟩)] w fun e w' => e = .returned (.int .i64 (powE s.ds.on)) ∧ Below w.heap.size w w' := by
  have hmf : ∀ (fn : Fn) (first cap : Array Value) (w : World), (Instr.makeFunc fn first cap).run Try.prog w = .ok (.func fn first cap) w := fun _ _ _ _ => rfl
  obtain ⟨W, HW⟩ : ∃ W, Hid (w.alloc (.cells #[.pointer (some ⟨s.c, 0, none⟩)] 27) = W) := ⟨_, rfl⟩
  have hbW : Below w.heap.size w W := HW.out ▸ below_alloc w _
  have hx : Blk W w.heap.size 27 [.pointer (some ⟨s.c, 0, none⟩)] := HW.out ▸ Blk.new w 27 [.pointer (some ⟨s.c, 0, none⟩)]
  have hW := h.kept hbW
  have hm := cmade_yes hW.c0
  have hbE := below_alloc W (.cells #[.int .i64 0] 24)
  have hE := Blk.new W 24 [.int .i64 0]
  have h1 := flush1_any (hW.kept hbE) w.heap.size ((hx.kept hbE).cell' rfl)
  have hc := caught_of (ents Try.func52 (by kernel_rfl) rfl) W (powE s.ds.on) (fun w' => w' = W.alloc (.cells #[.int .i64 0] 24)) (h1.mono fun e w' ⟨he, hw'⟩ => ⟨he, by rw [hw']; exact hE, hw'⟩)
  have hbZ : Below w.heap.size w ((W.alloc (.cells #[.int .i64 0] 24)).setCell ⟨W.heap.size, 0, none⟩ (.int .i64 (powE s.ds.on))) := (Turned.setCell _ _ _).below (bt hbW hbE) hbW.size
  have hc' := hc.mono (R' := fun e w' => e = .returned (.int .i64 (powE s.ds.on)) ∧ Below w.heap.size w w') (fun e w' ⟨he, w1, hw1, _, hw2⟩ => ⟨he, by rw [hw2, hw1]; exact hbZ⟩)
  clear h1 hc hbZ hbE hE
  go_enter Try.func23, Try.ntmps23
  go_wp2_with (first
    | (go_at_call 39; rw [HW.out]; refine hm.mono ?_; rintro e w' ⟨rfl, hw'⟩; have hw2 := hw'.symm; subst hw2; clear hw')
    | (go_at_call 51; refine hc'.mono ?_; rintro e w' ⟨rfl, hb⟩))
  go_ret
  exact ⟨rfl, hb⟩
end Go.Proofs.Ytdmnddikcpfmfaa
