/-
  The law of caches that no call made, walked.
-/
import Derived.Test.YtdmnddikcpfmfaaCkNo
namespace Go.Proofs.Ytdmnddikcpfmfaa
open Go.RowKit Go.Maps Go.Shelf
set_option linter.unusedSimpArgs false in
set_option maxRecDepth 100000 in
set_option maxHeartbeats 4000000 in
theorem none_any (i room : Int) (w : World) : Calls Try.prog 5 #[.int .i64 i, .int .i64 room] w fun e w' => e = .returned (.bool true) ∧ Below w.heap.size w w' := by
  have hfl := fun W => filled_any 1 (by omega) W
  rw [show ((1 : Nat) : Int) = 1 from rfl] at hfl
  have hnb : ∀ W : World, (binOp .neq 35 (.slice none 0 0) (.slice none 0 0)).run Try.prog W = .ok (.bool false) W := fun _ => by kernel_rfl
  go_enter Try.func5, Try.ntmps5
  go_wp2_with (go_at_call 8; refine (begun_any w).mono ?_; rintro e w1 ⟨rfl, hb1⟩)
  have hz := Blk.new' w1 59 #[.nilIface, .int .i64 0, .map none, .pointer none]
  have hz2 := hz.alloc (.cells #[.pointer none, .pointer (some ⟨w1.heap.size, 0, none⟩)] 27)
  have hrow := Blk.new' (w1.alloc (.cells #[.nilIface, .int .i64 0, .map none, .pointer none] 59)) 27 #[.pointer none, .pointer (some ⟨w1.heap.size, 0, none⟩)]
  rw [World.size_alloc] at hrow
  have hb2 := bt hb1 (bt (below_alloc w1 (.cells #[.nilIface, .int .i64 0, .map none, .pointer none] 59)) (below_alloc (w1.alloc (.cells #[.nilIface, .int .i64 0, .map none, .pointer none] 59)) (.cells #[.pointer none, .pointer (some ⟨w1.heap.size, 0, none⟩)] 27)))
  generalize (w1.alloc (.cells #[.nilIface, .int .i64 0, .map none, .pointer none] 59)).alloc (.cells #[.pointer none, .pointer (some ⟨w1.heap.size, 0, none⟩)] 27) = w2 at *
  clear hz hb1
  generalize w1.heap.size = z at *
  go_loopg [17] 2 (fun j v wr => ∃ k : Nat, v = .int .i64 (k : Int) ∧ k ≤ 2 ∧ j = 2 - k ∧ Below w.heap.size w wr ∧ Blk wr (z + 1) 27 [.pointer none, .pointer (some ⟨z, 0, none⟩)] ∧ Blk wr z 59 [.nilIface, .int .i64 0, .map none, .pointer none])
  case atStart => exact ⟨0, rfl, by omega, rfl, hb2, hrow, hz2⟩
  case round =>
    clear hb2 hrow hz2
    obtain ⟨k, rfl, hk, rfl, hB, hrow, hz⟩ := hrel
    by_cases hk2 : k < 2
    · obtain ⟨v, hv, hN⟩ : ∃ v, wr.cell? ⟨z + 1, k, none⟩ = some v ∧ NoC wr v := by
        obtain rfl | rfl : k = 0 ∨ k = 1 := by omega
        · exact ⟨_, hrow.cell' rfl, .inl rfl⟩
        · exact ⟨_, hrow.cell' rfl, .inr ⟨z, rfl, hz.cell' rfl, hz.lt⟩⟩
      have hvp : ∃ a, v = .pointer a := by
        rcases hN with e | ⟨d, e, _⟩
        · exact ⟨_, e⟩
        · exact ⟨_, e⟩
      obtain ⟨a, rfl⟩ := hvp
      go_wp2_with fail
      refine (cread_no hN i).mono ?_
      rintro e w' ⟨rfl, hw'⟩
      have hw2 := hw'.symm
      subst hw2
      clear hw'
      go_wp2_with fail
      refine (hfl _).mono ?_
      rintro e w3 ⟨g3, rfl, hin3, hu3, hbx, hg3⟩
      have hN := hN.below hbx
      have hB := bt hB hbx
      have hrow := hrow.kept hbx
      have hz := hz.kept hbx
      clear hbx
      go_wp2_with fail
      refine (cwrite_no hN i _ _ _ 1).mono ?_
      rintro e w' ⟨rfl, hw'⟩
      have hw2 := hw'.symm
      subst hw2
      clear hw'
      go_wp2_with fail
      refine (cpin_no hN i).mono ?_
      rintro e w' ⟨rfl, hw'⟩
      have hw2 := hw'.symm
      subst hw2
      clear hw'
      go_wp2_with fail
      refine (cunpin_no hN i).mono ?_
      rintro e w' ⟨rfl, hw'⟩
      have hw2 := hw'.symm
      subst hw2
      clear hw'
      go_wp2_with fail
      refine (cclean_no (hN.below (below_alloc _ _)) _ _ _).mono ?_
      rintro e w4 ⟨rfl, hw'⟩
      have hbx : Below w3.heap.size w3 w4 := by rw [hw']; exact below_alloc _ _
      clear hw'
      have hN := hN.below hbx
      have hB := bt hB hbx
      have hrow := hrow.kept hbx
      have hz := hz.kept hbx
      clear hbx
      go_wp2_with fail
      refine (csync_no hN 1).mono ?_
      rintro e w5 ⟨rfl, hbx⟩
      have hN := hN.below hbx
      have hB := bt hB hbx
      have hrow := hrow.kept hbx
      have hz := hz.kept hbx
      clear hbx
      go_wp2_with fail
      refine (cflush_no hN).mono ?_
      rintro e w6 ⟨rfl, hbx⟩
      have hN := hN.below hbx
      have hB := bt hB hbx
      have hrow := hrow.kept hbx
      have hz := hz.kept hbx
      clear hbx
      go_wp2_with fail
      refine (cforget_no (hN.below (below_alloc _ _)) _ _ _).mono ?_
      rintro e w7 ⟨rfl, hw'⟩
      have hbx : Below w6.heap.size w6 w7 := by rw [hw']; exact below_alloc _ _
      clear hw'
      have hN := hN.below hbx
      have hB := bt hB hbx
      have hrow := hrow.kept hbx
      have hz := hz.kept hbx
      clear hbx
      go_wp2_with fail
      refine (chas_no hN i).mono ?_
      rintro e w' ⟨rfl, hw'⟩
      have hw2 := hw'.symm
      subst hw2
      clear hw'
      go_wp2_with fail
      refine (cpins_no hN i).mono ?_
      rintro e w' ⟨rfl, hw'⟩
      have hw2 := hw'.symm
      subst hw2
      clear hw'
      go_wp2_with fail
      refine (clen_no hN).mono ?_
      rintro e w' ⟨rfl, hw'⟩
      have hw2 := hw'.symm
      subst hw2
      clear hw'
      go_wp2_with fail
      refine (cDirty_no hN 1).mono ?_
      rintro e wd ⟨rfl, hw'⟩
      have hbd : Below w7.heap.size w7 wd := by rw [hw']; exact below_alloc _ _
      have hgd : Blk wd w7.heap.size 32 [.slice none 0 0] := by rw [hw']; exact Blk.new' _ _ _
      clear hw'
      have hB := bt hB hbd
      have hrow := hrow.kept hbd
      have hz := hz.kept hbd
      clear hbd
      go_wp2_with fail
      refine (told_nil wd _ hgd).mono ?_
      rintro e we ⟨pe, ce, rfl, hbe⟩
      have hB := bt hB hbe
      have hrow := hrow.kept hbe
      have hz := hz.kept hbe
      clear hbe
      go_wp2_with fail
      go_roundg (2 - (k + 1))
      case measure => omega
      case rel => exact ⟨k + 1, by go_num, by omega, rfl, hB, hrow, hz⟩
    · obtain rfl : k = 2 := by omega
      go_wp2_with (go_at_call 7; refine (cnew_nil room _).mono ?_; rintro e w' ⟨rfl, hw'⟩; have hw2 := hw'.symm; subst hw2; clear hw')
      go_ret
      exact ⟨rfl, hB⟩
end Go.Proofs.Ytdmnddikcpfmfaa
