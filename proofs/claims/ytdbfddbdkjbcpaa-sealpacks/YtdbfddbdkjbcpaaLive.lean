/-
  What the statements' own function live answers: true, and no old memory turns.
-/
import Derived.Test.YtdbfddbdkjbcpaaState
import Derived.Test.YtdbfddbdkjbcpaaPack
namespace Go.Proofs.Ytdbfddbdkjbcpaa
open Go.RowKit
theorem in_litI (w : World) {cs : Array Value} {xs : List Int} {n : Nat} (h : cs.toList = xs.map (Value.int .i64)) (hn : xs.length = n) (hr : n ≤ 140737488355328) :
    InI (w.alloc (.cells cs 3)) (some ⟨w.heap.size, 0, none⟩) n n xs := by
  have hs : cs.size = n * 1 := by rw [← Array.length_toList, h, List.length_map, hn, Nat.mul_one]
  have ho := World.ownsRow_lit (e := 3) (size := 1) (base := 0) w cs n (Nat.zero_le _) (by unfold maxLen; omega) hs
  refine ⟨hn, Nat.le_refl _, by unfold maxLen; omega, hr, fun _ => ⟨w.heap.size, 0, rfl, by simp, fun i hi => ?_⟩⟩
  rw [Nat.zero_add, ho.cellAt i (by omega), h]
  simp [eI, hn, hi]
theorem in_lit64 (w : World) {cs : Array Value} {xs : List Nat} {n : Nat} (h : cs.toList = xs.map (fun x : Nat => Value.int .u64 (x : Int))) (hn : xs.length = n) (hl : ∀ x ∈ xs, x < 18446744073709551616) (hr : n ≤ 140737488355328) :
    In64 (w.alloc (.cells cs 42)) (some ⟨w.heap.size, 0, none⟩) n n xs := by
  have hs : cs.size = n * 1 := by rw [← Array.length_toList, h, List.length_map, hn, Nat.mul_one]
  have ho := World.ownsRow_lit (e := 42) (size := 1) (base := 0) w cs n (Nat.zero_le _) (by unfold maxLen; omega) hs
  refine ⟨hn, Nat.le_refl _, by unfold maxLen; omega, hr, hl, fun _ => ⟨w.heap.size, 0, rfl, by simp, fun i hi => ?_⟩⟩
  rw [Nat.zero_add, ho.cellAt i (by omega), h]
  simp [el, hn, hi]
theorem bt {a b c : World} (h : Below a.heap.size a b) (k : Below b.heap.size b c) : Below a.heap.size a c := h.trans (k.mono h.size)
theorem seal_lit : sealL [240] = [240, 0, 0, 0, 4] ∧ sealE [240] = 0 := by decide +kernel
theorem state_lit : stateL [241, 0, 0, 0, 4] = 11 := by decide +kernel
theorem pack_lit : packL [2, 6] [3, 1] = [193] ∧ packE [2, 6] [3, 1] = 0 := by decide +kernel
theorem live_any (w : World) : Calls Try.prog 9 #[] w fun e w' => e = .returned (.bool true) ∧ Below w.heap.size w w' := by
  go_enter Try.func9, Try.ntmps9
  go_wp2_with fail
  refine (seal_any _ 1 1 [240] _ (in_lit w (by rfl) rfl (by decide) (by decide))).mono ?_
  rintro e w1 ⟨p1, n1, c1, rfl, hin1, hbel1⟩
  rw [seal_lit.1] at hin1
  rw [seal_lit.2]
  have hn1 := hin1.len
  simp only [List.length_cons, List.length_nil] at hn1
  subst hn1
  have hB1 := bt (below_alloc w _) hbel1
  clear hbel1
  go_wp2_with fail
  have hI := (in_litI w1 (cs := #[Value.int IntKind.i64 2, Value.int IntKind.i64 6]) (xs := [2, 6]) (n := 2) rfl rfl (by decide)).below (below_alloc _ (Obj.cells #[Value.int IntKind.u64 3, Value.int IntKind.u64 1] 42))
  have h64 := in_lit64 (w1.alloc (Obj.cells #[Value.int IntKind.i64 2, Value.int IntKind.i64 6] 3)) (cs := #[Value.int IntKind.u64 3, Value.int IntKind.u64 1]) (xs := [3, 1]) (n := 2) rfl rfl (by decide) (by decide)
  rw [show (w1.alloc (Obj.cells #[Value.int IntKind.i64 2, Value.int IntKind.i64 6] 3)).heap.size = w1.heap.size + 1 from by simp] at h64
  refine (pack_any _ _ 2 2 2 2 [2, 6] [3, 1] _ hI h64).mono ?_
  rintro e w2 ⟨p2, n2, c2, rfl, hin2, hbel2⟩
  rw [pack_lit.1] at hin2
  rw [pack_lit.2]
  have hn2 := hin2.len
  simp only [List.length_cons, List.length_nil] at hn2
  subst hn2
  have hB2 : Below w1.heap.size w1 w2 := bt (bt (below_alloc w1 _) (below_alloc _ _)) hbel2
  clear hbel2 hI h64
  have hin1' := hin1.below hB2
  have hBw2 := bt hB1 hB2
  clear hB1 hB2 hin1
  go_wp2_with fail
  have hl5 := in_lit w2 (cs := #[Value.int IntKind.u8 240, Value.int IntKind.u8 0, Value.int IntKind.u8 0, Value.int IntKind.u8 0, Value.int IntKind.u8 4]) (xs := [240, 0, 0, 0, 4]) (n := 5) rfl rfl (by decide) (by decide)
  refine (equal_any _ _ 5 c1 5 5 [240, 0, 0, 0, 4] [240, 0, 0, 0, 4] _ (hin1'.below (below_alloc _ _)) hl5).mono ?_
  rintro e w3 ⟨rfl, hw3⟩
  rw [show (([240, 0, 0, 0, 4] : List Nat) == [240, 0, 0, 0, 4]) = true from rfl]
  subst hw3
  clear hl5 hin1'
  go_wp2_with fail
  have hl6 := in_lit (w2.alloc (Obj.cells #[Value.int IntKind.u8 240, Value.int IntKind.u8 0, Value.int IntKind.u8 0, Value.int IntKind.u8 0, Value.int IntKind.u8 4] 5)) (cs := #[Value.int IntKind.u8 241, Value.int IntKind.u8 0, Value.int IntKind.u8 0, Value.int IntKind.u8 0, Value.int IntKind.u8 4]) (xs := [241, 0, 0, 0, 4]) (n := 5) rfl rfl (by decide) (by decide)
  rw [show (w2.alloc (Obj.cells #[Value.int IntKind.u8 240, Value.int IntKind.u8 0, Value.int IntKind.u8 0, Value.int IntKind.u8 0, Value.int IntKind.u8 4] 5)).heap.size = w2.heap.size + 1 from by simp] at hl6
  refine (state_any _ 5 5 [241, 0, 0, 0, 4] _ hl6).mono ?_
  rintro e w4 ⟨rfl, hbel4⟩
  rw [state_lit]
  have hB4 : Below w2.heap.size w2 w4 := bt (bt (below_alloc w2 _) (below_alloc _ _)) hbel4
  have hin2' := hin2.below hB4
  have hBw4 := bt hBw2 hB4
  clear hbel4 hl6 hB4 hBw2 hin2
  go_wp2_with fail
  have hl1 := in_lit w4 (cs := #[Value.int IntKind.u8 193]) (xs := [193]) (n := 1) rfl rfl (by decide) (by decide)
  refine (equal_any _ _ 1 c2 1 1 [193] [193] _ (hin2'.below (below_alloc _ _)) hl1).mono ?_
  rintro e w5 ⟨rfl, hw5⟩
  rw [show (([193] : List Nat) == [193]) = true from rfl]
  subst hw5
  clear hl1 hin2'
  go_wp2
  go_ret
  exact ⟨rfl, bt hBw4 (below_alloc _ _)⟩
end Go.Proofs.Ytdbfddbdkjbcpaa
