/-
  What bytes.HasPrefix, the law's begun and dirent.State answer.
-/
import Derived.Test.YtikigfjdddgkpaaDtFind
import Derived.Test.YtikigfjdddgkpaaDtAdd
namespace Go.Proofs.Ytikigfjdddgkpaa
open Go.RowKit
def preB (xs ys : List Nat) : Bool := decide (ys.length ≤ xs.length) && (xs.take ys.length == ys)
set_option linter.unusedSimpArgs false in
set_option linter.unusedVariables false in
set_option maxRecDepth 100000 in
set_option maxHeartbeats 8000000 in
theorem hasPrefix_any (p q : Option Addr) (n c m d : Nat) (xs ys : List Nat) (w : World) (hx : In w p n c xs) (hy : In w q m d ys) :
    Calls Try.prog 37 #[.slice p n c, .slice q m d] w fun e w' => e = .returned (.bool (preB xs ys)) ∧ w' = w := by
  have HX : Hid (xs.length = n) := hx.len
  have HY : Hid (ys.length = m) := hy.len
  have hcx := hx.cap
  by_cases hle : m ≤ n
  · have hli : (m : Int) ≤ (n : Int) := by omega
    have HP : Hid (preB xs ys = (xs.take m == ys)) := by show _ = _; unfold preB; rw [HX.out, HY.out, decide_eq_true hle, Bool.true_and]
    have hsl := fun W => slice_front p n c m hle hcx W
    have hin := hx.front m hle
    go_enter Try.func37, Try.ntmps37
    go_wp2_with (go_at_call 17; refine (equal_any p q m c m d (xs.take m) ys _ hin hy).mono ?_; rintro e w' ⟨rfl, hw'⟩; have hw2 := hw'.symm; subst hw2; clear hw')
    go_ret
    exact ⟨ret_bool HP.out.symm, rfl⟩
  · have hli : ¬ (m : Int) ≤ (n : Int) := by omega
    have HP : Hid (preB xs ys = false) := by show _ = _; unfold preB; rw [HX.out, HY.out, decide_eq_false hle, Bool.false_and]
    go_enter Try.func37, Try.ntmps37
    go_wp2
    go_ret
    exact ⟨ret_bool HP.out.symm, rfl⟩
set_option linter.unusedSimpArgs false in
set_option linter.unusedVariables false in
set_option maxRecDepth 100000 in
set_option maxHeartbeats 8000000 in
theorem state_any (p : Option Addr) (n c : Nat) (xs : List Nat) (w : World) (hx : In w p n c xs) : Calls Try.prog 15 #[.slice p n c] w fun e w' => e = .returned (.int .i64 (stE xs)) ∧ Below w.heap.size w w' := by
  go_enter Try.func15, Try.ntmps15
  go_wp2_with (go_at_call 39; refine (recordsOf_any p n c xs _ hx).mono ?_; rintro e w1 ⟨v1, n1, rfl, ho1, hb1⟩)
  go_ret
  exact ⟨rfl, hb1⟩
def begE : Ent := ⟨[97], 2, 1⟩
def begL : List Nat := (addO emptyL begE).2
theorem emptyL_byte : ∀ x ∈ emptyL, x < 256 := layR_byte (fun x hx => by rw [List.eq_of_mem_replicate hx]; decide) (by refine ⟨?_, ?_, ?_, ?_, ?_, ?_, ?_, ?_⟩ <;> decide)
theorem beg_e : (addO emptyL begE).1 = 0 := by decide +kernel
theorem beg_len : begL.length = 256 := by decide +kernel
theorem beg_byte : ∀ x ∈ begL, x < 256 := by
  have h : begL.all (fun x => decide (x < 256)) = true := by decide +kernel
  intro x hx
  exact of_decide_eq_true (List.all_eq_true.1 h x hx)
theorem beg_pre : preB begL [0, 0, 0, 2, 1, 0, 1, 1, 97] = true := by decide +kernel
theorem beg_some : (findO begL [97]).isSome = true := by decide +kernel
theorem beg_ino : ((findO begL [97]).getD en0).ino = 2 := by decide +kernel
theorem beg_name : nmE [97, 47, 98] = 161 := by decide +kernel
set_option linter.unusedSimpArgs false in
set_option linter.unusedVariables false in
set_option maxRecDepth 100000 in
set_option maxHeartbeats 8000000 in
theorem begun_any (w : World) : Calls Try.prog 10 #[] w fun e w' => e = .returned (.bool true) ∧ Below w.heap.size w w' := by
  have hadd := fun p n c w h => add_any p n c emptyL begE w h
  have hfind := fun p n c w h => find_any p n c begL [97] w h
  have hpre := fun p q n c m d w h1 h2 => hasPrefix_any p q n c m d begL [0, 0, 0, 2, 1, 0, 1, 1, 97] w h1 h2
  have hnm := name_any [97, 47, 98]
  rw [beg_name] at hnm
  rw [beg_pre] at hpre
  unfold FindAns at hfind
  have HI : Hid (((findO begL [97]).getD en0).ino = 2) := beg_ino
  have HB : Hid (∀ x ∈ begL, x < 256) := beg_byte
  have HE : Hid (∀ x ∈ emptyL, x < 256) := emptyL_byte
  have HO : Hid (∀ w w' e, ChAns (addO emptyL begE) w w' e → ∃ p c, e = .returned (.tuple #[.slice p 256 c, .int .i64 0]) ∧ In w' p 256 c begL ∧ Below w.heap.size w w') := by
    rintro w w' e ⟨v, n, rfl, ho, hb⟩
    have hl : n = 256 := by have := ho.1; rw [vals_length] at this; have h2 := beg_len; unfold begL at h2; omega
    subst hl
    obtain ⟨p, c, rfl, hin⟩ := in_of_owns ho HB.out (by decide)
    exact ⟨p, c, by rw [beg_e], hin, hb⟩
  rw [beg_some] at hfind
  generalize (findO begL [97]).getD en0 = X at *
  obtain ⟨x1, x2, x3⟩ := X
  dsimp only [Ent.val] at hfind HI
  obtain rfl : x2 = 2 := HI.out
  have hlit : ∀ (W : World) (g : Nat), W.heap.size = g → In (W.alloc (.cells #[.int .u8 0, .int .u8 0, .int .u8 0, .int .u8 2, .int .u8 1, .int .u8 0, .int .u8 1, .int .u8 1, .int .u8 97] 5)) (some ⟨g, 0, none⟩) 9 9 [0, 0, 0, 2, 1, 0, 1, 1, 97] := fun W g hg => by
    subst hg
    exact in_lit W rfl rfl (by decide) (by decide)
  go_enter Try.func10, Try.ntmps10
  go_wp2_with (first
    | (go_at_call 18; refine (empty_any _).mono ?_; rintro e w1 ⟨v1, rfl, ho1, hb1⟩; obtain ⟨p1, c1, hv1, hi1⟩ := in_of_owns ho1 HE.out (by decide); subst hv1)
    | (go_at_call 26; refine (hadd p1 256 c1 _ hi1).mono ?_; rintro e w2 hans; obtain ⟨p2, c2, rfl, hi2, hb2⟩ := HO.out _ _ _ hans; have hB2 := bt hb1 hb2)
    | (go_at_call 7; refine (hfind p2 256 c2 _ hi2).mono ?_; rintro e w3 ⟨rfl, hb3⟩; have hB3 := bt hB2 hb3; have hi3 := hi2.below hb3)
    | (go_at_call 37; refine (hpre p2 _ 256 c2 9 9 _ ((hi3.below (below_alloc _ _)).below (below_alloc _ _)) (hlit _ _ (by simp))).mono ?_; rintro e w4 ⟨rfl, hw4⟩; have hB4 : Below w.heap.size w w4 := (by rw [hw4]; exact bt (bt hB3 (below_alloc _ _)) (below_alloc _ _)); have k4 : Blk w4 w3.heap.size 24 [.string ⟨x1.toArray⟩, .int .i64 2, .int .i64 x3] := (by rw [hw4]; exact (Blk.new' w3 24 _).alloc _); have d1 := k4.cell' (i := 1) rfl; clear hw4)
    | (go_at_call 11; refine (hnm _).mono ?_; rintro e w5 ⟨rfl, hb5⟩; have hB5 := bt hB4 hb5))
  go_ret
  exact ⟨rfl, hB5⟩
end Go.Proofs.Ytikigfjdddgkpaa
