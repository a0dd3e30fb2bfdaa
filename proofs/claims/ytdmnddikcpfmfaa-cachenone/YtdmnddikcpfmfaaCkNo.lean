/-
  A cache that no call made: what the calls answer.
-/
import Derived.Test.YtdmnddikcpfmfaaCkTold
namespace Go.Proofs.Ytdmnddikcpfmfaa
open Go.RowKit Go.Maps Go.Shelf
/-- No call made this cache: nil, or the zero value. -/
def NoC (w : World) (v : Value) : Prop := v = .pointer none ∨ ∃ d, v = .pointer (some ⟨d, 0, none⟩) ∧ w.cell? ⟨d, 0, none⟩ = some .nilIface ∧ d < w.heap.size
theorem NoC.below {w w' : World} {v : Value} (h : NoC w v) (hb : Below w.heap.size w w') : NoC w' v := by
  rcases h with h | ⟨d, h, h2, h3⟩
  · exact .inl h
  · exact .inr ⟨d, h, (hb.cell (p := ⟨d, 0, none⟩) h3).trans h2, Nat.lt_of_lt_of_le h3 hb.size⟩
theorem cmade_no {w : World} {v : Value} (h : NoC w v) : Calls Try.prog 39 #[v] w fun e w' => e = .returned (.bool false) ∧ w' = w := by
  rcases h with rfl | ⟨d, rfl, h2, _⟩
  · go_enter Try.func39, Try.ntmps39
    go_wp2
    go_ret
    exact ⟨rfl, rfl⟩
  · go_enter Try.func39, Try.ntmps39
    go_wp2
    go_ret
    exact ⟨rfl, rfl⟩
theorem ccheck_no {w : World} {v : Value} (h : NoC w v) (i : Int) : Calls Try.prog 33 #[v, .int .i64 i] w fun e w' => e = .returned (.int .i64 2) ∧ w' = w := by
  have hm := cmade_no h
  go_enter Try.func33, Try.ntmps33
  go_wp2_with (go_at_call 39; refine hm.mono ?_; rintro e w' ⟨rfl, hw'⟩; have hw2 := hw'.symm; subst hw2; clear hw')
  go_ret
  exact ⟨rfl, rfl⟩
theorem cfetch_no {w : World} {v : Value} (h : NoC w v) (i : Int) : Calls Try.prog 31 #[v, .int .i64 i] w fun e w' => e = .returned (.tuple #[.pointer none, .int .i64 2]) ∧ w' = w := by
  have hm := ccheck_no h i
  go_enter Try.func31, Try.ntmps31
  go_wp2_with (go_at_call 33; refine hm.mono ?_; rintro e w' ⟨rfl, hw'⟩; have hw2 := hw'.symm; subst hw2; clear hw')
  go_ret2
  exact ⟨rfl, rfl⟩
theorem cread_no {w : World} {v : Value} (h : NoC w v) (i : Int) : Calls Try.prog 9 #[v, .int .i64 i] w fun e w' => e = .returned (.tuple #[.slice none 0 0, .int .i64 2]) ∧ w' = w := by
  have hm := cfetch_no h i
  go_enter Try.func9, Try.ntmps9
  go_wp2_with (go_at_call 31; refine hm.mono ?_; rintro e w' ⟨rfl, hw'⟩; have hw2 := hw'.symm; subst hw2; clear hw')
  go_ret2
  exact ⟨rfl, rfl⟩
theorem cwrite_no {w : World} {v : Value} (h : NoC w v) (i : Int) (p : Option Addr) (n c : Nat) (cl : Int) : Calls Try.prog 11 #[v, .int .i64 i, .slice p n c, .int .i64 cl] w fun e w' => e = .returned (.int .i64 2) ∧ w' = w := by
  have hm := ccheck_no h i
  go_enter Try.func11, Try.ntmps11
  go_wp2_with (go_at_call 33; refine hm.mono ?_; rintro e w' ⟨rfl, hw'⟩; have hw2 := hw'.symm; subst hw2; clear hw')
  go_ret
  exact ⟨rfl, rfl⟩
theorem cpin_no {w : World} {v : Value} (h : NoC w v) (i : Int) : Calls Try.prog 13 #[v, .int .i64 i] w fun e w' => e = .returned (.int .i64 2) ∧ w' = w := by
  have hm := cfetch_no h i
  go_enter Try.func13, Try.ntmps13
  go_wp2_with (go_at_call 31; refine hm.mono ?_; rintro e w' ⟨rfl, hw'⟩; have hw2 := hw'.symm; subst hw2; clear hw')
  go_ret
  exact ⟨rfl, rfl⟩
theorem cunpin_no {w : World} {v : Value} (h : NoC w v) (i : Int) : Calls Try.prog 14 #[v, .int .i64 i] w fun e w' => e = .returned (.int .i64 2) ∧ w' = w := by
  have hm := ccheck_no h i
  go_enter Try.func14, Try.ntmps14
  go_wp2_with (go_at_call 33; refine hm.mono ?_; rintro e w' ⟨rfl, hw'⟩; have hw2 := hw'.symm; subst hw2; clear hw')
  go_ret
  exact ⟨rfl, rfl⟩
theorem cclean_no {w : World} {v : Value} (h : NoC w v) (p : Option Addr) (n c : Nat) : Calls Try.prog 15 #[v, .slice p n c] w fun e w' => e = .returned (.int .i64 2) ∧ w' = w := by
  have hm := cmade_no h
  go_enter Try.func15, Try.ntmps15
  go_wp2_with (go_at_call 39; refine hm.mono ?_; rintro e w' ⟨rfl, hw'⟩; have hw2 := hw'.symm; subst hw2; clear hw')
  go_ret
  exact ⟨rfl, rfl⟩
theorem cforget_no {w : World} {v : Value} (h : NoC w v) (p : Option Addr) (n c : Nat) : Calls Try.prog 25 #[v, .slice p n c] w fun e w' => e = .returned (.int .i64 2) ∧ w' = w := by
  have hm := cmade_no h
  go_enter Try.func25, Try.ntmps25
  go_wp2_with (go_at_call 39; refine hm.mono ?_; rintro e w' ⟨rfl, hw'⟩; have hw2 := hw'.symm; subst hw2; clear hw')
  go_ret
  exact ⟨rfl, rfl⟩
theorem chas_no {w : World} {v : Value} (h : NoC w v) (i : Int) : Calls Try.prog 26 #[v, .int .i64 i] w fun e w' => e = .returned (.bool false) ∧ w' = w := by
  have hm := ccheck_no h i
  go_enter Try.func26, Try.ntmps26
  go_wp2_with (go_at_call 33; refine hm.mono ?_; rintro e w' ⟨rfl, hw'⟩; have hw2 := hw'.symm; subst hw2; clear hw')
  go_ret
  exact ⟨rfl, rfl⟩
theorem cpins_no {w : World} {v : Value} (h : NoC w v) (i : Int) : Calls Try.prog 21 #[v, .int .i64 i] w fun e w' => e = .returned (.int .i64 0) ∧ w' = w := by
  have hm := chas_no h i
  go_enter Try.func21, Try.ntmps21
  go_wp2_with (go_at_call 26; refine hm.mono ?_; rintro e w' ⟨rfl, hw'⟩; have hw2 := hw'.symm; subst hw2; clear hw')
  go_ret
  exact ⟨rfl, rfl⟩
theorem clen_no {w : World} {v : Value} (h : NoC w v) : Calls Try.prog 17 #[v] w fun e w' => e = .returned (.int .i64 0) ∧ w' = w := by
  have hm := cmade_no h
  go_enter Try.func17, Try.ntmps17
  go_wp2_with (go_at_call 39; refine hm.mono ?_; rintro e w' ⟨rfl, hw'⟩; have hw2 := hw'.symm; subst hw2; clear hw')
  go_ret
  exact ⟨rfl, rfl⟩
theorem cdirty_no {w : World} {v : Value} (h : NoC w v) (i : Int) : Calls Try.prog 42 #[v, .int .i64 i] w fun e w' => e = .returned (.slice none 0 0) ∧ w' = w := by
  have hm := cmade_no h
  go_enter Try.func42, Try.ntmps42
  go_wp2_with (go_at_call 39; refine hm.mono ?_; rintro e w' ⟨rfl, hw'⟩; have hw2 := hw'.symm; subst hw2; clear hw')
  go_ret
  exact ⟨rfl, rfl⟩
theorem csync_no {w : World} {v : Value} (h : NoC w v) (i : Int) : Calls Try.prog 16 #[v, .int .i64 i] w fun e w' => e = .returned (.int .i64 2) ∧ Below w.heap.size w w' := by
  obtain rfl | ⟨d, rfl⟩ : v = .pointer none ∨ ∃ d, v = .pointer (some ⟨d, 0, none⟩) := by rcases h with h | ⟨d, h, _⟩; exact .inl h; exact .inr ⟨d, h⟩
  · have hb := below_alloc w (.cells #[.pointer none] 27)
    have hm := cmade_no (h.below hb)
    have hc : (w.alloc (.cells #[.pointer none] 27)).cell? ⟨w.heap.size, 0, none⟩ = some (.pointer none) := (Blk.new w 27 [.pointer none]).cell' rfl
    go_enter Try.func16, Try.ntmps16
    go_wp2_with (go_at_call 39; refine hm.mono ?_; rintro e w' ⟨rfl, hw'⟩; have hw2 := hw'.symm; subst hw2; clear hw')
    go_ret
    exact ⟨rfl, hb⟩
  · have hb := below_alloc w (.cells #[.pointer (some ⟨d, 0, none⟩)] 27)
    have hm := cmade_no (h.below hb)
    have hc : (w.alloc (.cells #[.pointer (some ⟨d, 0, none⟩)] 27)).cell? ⟨w.heap.size, 0, none⟩ = some (.pointer (some ⟨d, 0, none⟩)) := (Blk.new w 27 [.pointer (some ⟨d, 0, none⟩)]).cell' rfl
    go_enter Try.func16, Try.ntmps16
    go_wp2_with (go_at_call 39; refine hm.mono ?_; rintro e w' ⟨rfl, hw'⟩; have hw2 := hw'.symm; subst hw2; clear hw')
    go_ret
    exact ⟨rfl, hb⟩
theorem cflush_no {w : World} {v : Value} (h : NoC w v) : Calls Try.prog 23 #[v] w fun e w' => e = .returned (.int .i64 2) ∧ Below w.heap.size w w' := by
  obtain rfl | ⟨d, rfl⟩ : v = .pointer none ∨ ∃ d, v = .pointer (some ⟨d, 0, none⟩) := by rcases h with h | ⟨d, h, _⟩; exact .inl h; exact .inr ⟨d, h⟩
  · have hb := below_alloc w (.cells #[.pointer none] 27)
    have hm := cmade_no (h.below hb)
    have hc : (w.alloc (.cells #[.pointer none] 27)).cell? ⟨w.heap.size, 0, none⟩ = some (.pointer none) := (Blk.new w 27 [.pointer none]).cell' rfl
    go_enter Try.func23, Try.ntmps23
    go_wp2_with (go_at_call 39; refine hm.mono ?_; rintro e w' ⟨rfl, hw'⟩; have hw2 := hw'.symm; subst hw2; clear hw')
    go_ret
    exact ⟨rfl, hb⟩
  · have hb := below_alloc w (.cells #[.pointer (some ⟨d, 0, none⟩)] 27)
    have hm := cmade_no (h.below hb)
    have hc : (w.alloc (.cells #[.pointer (some ⟨d, 0, none⟩)] 27)).cell? ⟨w.heap.size, 0, none⟩ = some (.pointer (some ⟨d, 0, none⟩)) := (Blk.new w 27 [.pointer (some ⟨d, 0, none⟩)]).cell' rfl
    go_enter Try.func23, Try.ntmps23
    go_wp2_with (go_at_call 39; refine hm.mono ?_; rintro e w' ⟨rfl, hw'⟩; have hw2 := hw'.symm; subst hw2; clear hw')
    go_ret
    exact ⟨rfl, hb⟩
theorem cDirty_no {w : World} {v : Value} (h : NoC w v) (i : Int) : Calls Try.prog 20 #[v, .int .i64 i] w fun e w' => e = .returned (.func (.func 66) #[] #[.pointer (some ⟨w.heap.size, 0, none⟩)]) ∧ w' = w.alloc (.cells #[.slice none 0 0] 32) := by
  have hm := cdirty_no h i
  have hv := values_any none 0 0 w
  go_enter Try.func20, Try.ntmps20
  go_wp2_with (first
    | (go_at_call 42; refine hm.mono ?_; rintro e w' ⟨rfl, hw'⟩; have hw2 := hw'.symm; subst hw2; clear hw')
    | (go_at_call 47; refine hv.mono ?_; rintro e w1 ⟨rfl, hw1⟩))
  go_ret
  exact ⟨rfl, rfl⟩
theorem told_nil (w : World) (g : Nat) (hg : Blk w g 32 [.slice none 0 0]) : Calls Try.prog 19 #[.func (.func 66) #[] #[.pointer (some ⟨g, 0, none⟩)], .int .i64 9] w fun e w' => ∃ p' c', e = .returned (.slice p' 0 c') ∧ Below w.heap.size w w' :=
  (told_any (N := 0) g 0 none [] 9 (by omega) w hg (InI.empty w) (fun a ha => by cases ha)).mono fun e w' ⟨p', c', he, _, hb⟩ => ⟨p', c', he, hb⟩
end Go.Proofs.Ytdmnddikcpfmfaa
