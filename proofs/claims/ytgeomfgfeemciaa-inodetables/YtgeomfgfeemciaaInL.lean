/-
  What live answers.
-/
import Derived.Test.YtgeomfgfeemciaaInE
import Derived.Test.YtgeomfgfeemciaaInSl
import Derived.Test.YtgeomfgfeemciaaEqual
namespace Go.Proofs.Ytgeomfgfeemciaa
open Go.RowKit
theorem owns_litE (w : World) {cs : Array Value} {l : List Ext} {n : Nat} (h : cs.toList = flatE l) (hn : l.length = n) (hr : n ≤ 1000) :
    InE (w.alloc (.cells cs 51)) (some ⟨w.heap.size, 0, none⟩) n n l := by
  have hs : cs.size = n * 3 := by rw [← Array.length_toList, h, flatE_length, hn]
  have ho := World.ownsRow_lit (e := 51) (size := 3) (base := 0) w cs n (Nat.zero_le _) (by unfold maxLen; omega) hs
  rw [h] at ho
  obtain ⟨p, c, hv, hin⟩ := in_of_ownsE ho (by omega)
  cases hv
  exact hin
def liveI : Ino := ⟨1, 1, 5, 0, 0, 0, [⟨0, 1, 30⟩]⟩
theorem live_may : inoB liveI = true := by decide +kernel
theorem live_take : (encL liveI).take 16 = [1, 0, 1, 0, 0, 0, 0, 1, 0, 0, 0, 0, 0, 0, 0, 5] := by decide +kernel
set_option linter.unusedSimpArgs false in
set_option linter.unusedVariables false in
set_option maxRecDepth 100000 in
set_option maxHeartbeats 8000000 in
theorem live_any (w : World) : Calls Try.prog 7 #[] w fun e w' => e = .returned (.bool true) ∧ Below w.heap.size w w' := by
  have hLE : Hid (inoE liveI = 0) := inoE_ok live_may
  have hLL : Hid ((encL liveI).length = 64) := encL_len live_may
  have hLT : Hid ((encL liveI).take 16 = [1, 0, 1, 0, 0, 0, 0, 1, 0, 0, 0, 0, 0, 0, 0, 5]) := live_take
  go_enter Try.func7, Try.ntmps7
  go_wp2_with fail
  have hi := owns_litE w (cs := #[.int .i64 0, .int .i64 1, .int .i64 30]) (l := [⟨0, 1, 30⟩]) (n := 1) rfl rfl (by decide)
  refine (iencode_any liveI _ 1 1 _ hi).mono ?_
  rintro e w1 ⟨p1, n1, c1, rfl, hin1, hb1, -⟩
  rw [hLE.out]
  have hn1 := hin1.len
  rw [hLL.out] at hn1
  subst hn1
  have hB1 := bt (below_alloc w _) hb1
  have hcap := hin1.cap
  have hf := hin1.front 16 (by omega)
  rw [hLT.out] at hf
  have hsl : ∀ W, (Instr.slice 25 (.slice p1 64 c1) none (some (.int .i64 16)) none).run Try.prog W = .ok (.slice p1 16 c1) W := fun W => slice_front p1 64 c1 16 (by omega) hcap W
  clear hin1 hb1 hi
  go_wp2_with fail
  have hl := in_lit w1 (cs := #[.int .u8 1, .int .u8 0, .int .u8 1, .int .u8 0, .int .u8 0, .int .u8 0, .int .u8 0, .int .u8 1, .int .u8 0, .int .u8 0, .int .u8 0, .int .u8 0, .int .u8 0, .int .u8 0, .int .u8 0, .int .u8 5]) (xs := [1, 0, 1, 0, 0, 0, 0, 1, 0, 0, 0, 0, 0, 0, 0, 5]) (n := 16) rfl rfl (by decide) (by decide)
  refine (equal_any _ _ 16 c1 16 16 [1, 0, 1, 0, 0, 0, 0, 1, 0, 0, 0, 0, 0, 0, 0, 5] [1, 0, 1, 0, 0, 0, 0, 1, 0, 0, 0, 0, 0, 0, 0, 5] _ (hf.below (below_alloc _ _)) hl).mono ?_
  rintro e w3 ⟨rfl, hw3⟩
  rw [show (([1, 0, 1, 0, 0, 0, 0, 1, 0, 0, 0, 0, 0, 0, 0, 5] : List Nat) == [1, 0, 1, 0, 0, 0, 0, 1, 0, 0, 0, 0, 0, 0, 0, 5]) = true from by decide]
  subst hw3
  clear hl hf
  go_wp2
  go_ret
  exact ⟨rfl, bt hB1 (below_alloc _ _)⟩
end Go.Proofs.Ytgeomfgfeemciaa
