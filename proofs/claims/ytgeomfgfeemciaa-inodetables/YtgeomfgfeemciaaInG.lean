/-
  What inode.place and Get answer, and where bytes.Clone lies.
-/
import Derived.Test.YtgeomfgfeemciaaInD
import Derived.Test.YtgeomfgfeemciaaInGP
import Derived.Test.YtgeomfgfeemciaaInA
import Derived.Lib.LazyBuf
namespace Go.Proofs.Ytgeomfgfeemciaa
open Go.RowKit
theorem slice_mid (b o n c k m : Nat) (hk : k < m) (h : m ≤ n) (hc : n ≤ c) (W : World) :
    (Instr.slice 25 (.slice (some ⟨b, o, none⟩) n c) (some (.int .i64 (k : Int))) (some (.int .i64 (m : Int))) none).run Try.prog W = .ok (.slice (some ⟨b, o + k, none⟩) (m - k) (c - k)) W := by
  have h1 : ¬ c = k := by omega
  simp [Instr.slice, Instr.sliceBounds, Instr.sliceBound, run_underlying Try.underlying25, asIntOf, h1, addr_add]
  rw [if_pos (by omega), if_pos (by omega)]
theorem clone_owns (a : Addr) (n c : Nat) (xs : List Nat) (w : World) (hx : In w (some a) n c xs) :
    Calls Try.prog 21 #[.slice (some a) n c] w fun e w' => ∃ v, e = .returned v ∧ w'.ownsRow w.heap.size 5 1 v n (vals xs) ∧ Below w.heap.size w w' := by
  have hroom := hx.room
  have HX : Hid (xs.length = n) := hx.len
  obtain ⟨i0, hi, hz0, hz1, hz2⟩ := info_parts info5
  have hq := fun (w : World) => Lib.run_eql_slice_nil (P := Try.prog) w 25 5 (some a) n c 0 0 Try.underlying25
  have ho := World.ownsRow_lit (e := 5) (size := 1) (base := w.heap.size) w #[] 0 (Nat.le_refl _) (by unfold maxLen; omega) (by simp)
  have HO : Hid ((w.alloc (.cells #[] 5)).ownsRow w.heap.size 5 1 (.slice (some ⟨w.heap.size, 0, none⟩) 0 0) 0 []) := ho
  clear ho
  go_enter Try.func21, Try.ntmps21
  go_wp2_with (at_builtin; refine wpList_append_own _ rfl (.tmp 5) (.tmp 6) 25 rfl w.heap.size 5 i0 (.int .u8 0) 1 1 Try.underlying25 hi hz0 hz1 hz2 rfl (by decide) (.slice (some ⟨w.heap.size, 0, none⟩) 0 0) 0 [] rfl HO.out a n c (vals xs) rfl (by rw [vals_length, HX.out, Nat.mul_one]) ((hx.below (below_alloc _ _)).cells rfl) (vals_one xs) (by unfold maxLen; omega) (by omega) (by simp) ?_; intro v1 w1 hown1 hgrow1 _)
  go_ret
  rw [List.nil_append, Nat.zero_add] at hown1
  exact ⟨_, rfl, hown1, (below_alloc w _).grown hgrow1 (by simp) (fun k hk => by simp [Value.ownBlock] at hk; omega)⟩
set_option linter.unusedSimpArgs false in
set_option linter.unusedVariables false in
set_option maxRecDepth 100000 in
set_option maxHeartbeats 8000000 in
theorem place_any (p : Option Addr) (n c : Nat) (xs : List Nat) (s : Int) (w : World) (hx : In w p n c xs) :
    Calls Try.prog 43 #[.slice p n c, .int .i64 s] w fun e w' => ∃ p' n' c', e = .returned (.tuple #[.slice p' n' c', .int .i64 (plE xs s)]) ∧ In w p' n' c' (plL xs s) ∧ w' = w := by
  have HL : Hid (xs.length = n) := hx.len
  by_cases hn : n = 256
  · subst hn
    have hcap := hx.cap
    obtain ⟨b, o, hpe, hbl, -⟩ := hx.at' (by decide)
    subst hpe
    cases hs : inB s 0 3 with
    | false =>
      have HE : Hid (plE xs s = 1 ∧ plL xs s = []) := by show _ ∧ _; unfold plE plL thB; rw [hs, Bool.and_false]; exact ⟨rfl, rfl⟩
      go_enter Try.func43, Try.ntmps43
      go_wp2_with (go_at_call 52; refine (within_any _ _ _ _).mono ?_; rintro e w' ⟨rfl, hw'⟩; have hw2 := hw'.symm; subst hw2; clear hw'; rw [hs])
      go_ret2
      exact ⟨none, 0, 0, by rw [HE.out.1]; rfl, by rw [HE.out.2]; exact In.empty _, rfl⟩
    | true =>
      have h03 := inB_iff.1 hs
      have HE : Hid (plE xs s = 0 ∧ plL xs s = (xs.drop (64 * s.toNat)).take 64) := by show _ ∧ _; unfold plE plL thB; rw [HL.out, hs]; exact ⟨rfl, rfl⟩
      obtain ⟨j, hj⟩ := Int.eq_ofNat_of_zero_le h03.1
      subst hj
      rw [Int.toNat_natCast] at HE
      obtain ⟨k, hk⟩ : ∃ k : Nat, k = 64 * j := ⟨_, rfl⟩
      obtain ⟨m, hm⟩ : ∃ m : Nat, m = k + 64 := ⟨_, rfl⟩
      have hj3 : (j : Int) ≤ 3 := h03.2
      have hk' : (j : Int) * 64 = (k : Int) := by omega
      obtain ⟨j1, hj1⟩ : ∃ j1 : Nat, j1 = j + 1 := ⟨_, rfl⟩
      have hj1' : (j : Int) + 1 = (j1 : Int) := by omega
      have hm' : (j1 : Int) * 64 = (m : Int) := by omega
      have hj4 : (j1 : Int) ≤ 4 := by omega
      have hk4 : (k : Int) ≤ 192 := by omega
      have hm4 : (m : Int) ≤ 256 := by omega
      have hsl := fun W => slice_mid b o 256 c k m (by omega) (by omega) hcap W
      rw [show m - k = 64 from by omega] at hsl
      have hin := ((hx.back k (by omega)).front 64 (by omega))
      rw [← hk] at HE
      clear hk hm hj1 h03
      go_enter Try.func43, Try.ntmps43
      go_wp2_with (go_at_call 52; refine (within_any _ _ _ _).mono ?_; rintro e w' ⟨rfl, hw'⟩; have hw2 := hw'.symm; subst hw2; clear hw'; rw [hs])
      go_ret2
      exact ⟨_, _, _, by rw [HE.out.1]; rfl, by rw [HE.out.2]; exact hin, rfl⟩
  · have HE : Hid (plE xs s = 1 ∧ plL xs s = []) := by show _ ∧ _; unfold plE plL thB; rw [HL.out, show (n == 256) = false from by rw [beq_eq_false_iff_ne]; exact hn, Bool.false_and]; exact ⟨rfl, rfl⟩
    have hnz : ((n : Int) != 256) = true := by rw [bne_iff_ne]; omega
    clear hn
    go_enter Try.func43, Try.ntmps43
    go_wp2
    go_ret2
    exact ⟨none, 0, 0, by rw [HE.out.1]; rfl, by rw [HE.out.2]; exact In.empty _, rfl⟩
set_option linter.unusedSimpArgs false in
set_option linter.unusedVariables false in
set_option maxRecDepth 100000 in
set_option maxHeartbeats 8000000 in
theorem iget_any (p : Option Addr) (n c : Nat) (xs : List Nat) (s : Int) (w : World) (hx : In w p n c xs) :
    Calls Try.prog 22 #[.slice p n c, .int .i64 s] w fun e w' => ∃ p' n' c', e = .returned (.tuple #[(getI xs s).val p' n' c', .int .i64 (getE xs s)]) ∧ InE w' p' n' c' (getI xs s).rt ∧ Below w.heap.size w w' ∧ ∀ a, p' = some a → w.heap.size ≤ a.block := by
  have hb0 := below_alloc w (.cells #[.int .i64 0, .int .i64 0, .int .i64 0, .int .i64 0, .int .i64 0, .int .i64 0, .slice none 0 0] 24)
  have r0 := Blk.new' w 24 #[.int .i64 0, .int .i64 0, .int .i64 0, .int .i64 0, .int .i64 0, .int .i64 0, .slice none 0 0]
  have hx0 := hx.below hb0
  cases ht : thB xs s with
  | false =>
    have HE : Hid (plE xs s = 1) := by show _ = _; unfold plE; rw [ht]; rfl
    have HD : Hid (getI xs s = zeroI ∧ getE xs s = 1) := by show _ ∧ _; unfold getI getE; rw [ht]; exact ⟨rfl, rfl⟩
    go_enter Try.func22, Try.ntmps22
    go_wp2_with (first
      | (go_at_call 43; refine (place_any p n c xs s _ hx0).mono ?_; rintro e w' ⟨p1, n1, c1, rfl, hi1, hw'⟩; have hw2 := hw'.symm; subst hw2; clear hw'; rw [HE.out])
      | (guard_target = wpList _ _ _ (Oper.mk _ (Op.store 24 (Operand.tmp 4) _) _ _ _ _ :: _) _ _; refine wpList_store_blk rfl 24 (.tmp 4) (.tmp 16) rfl _ 0 [.int .i64 0, .int .i64 0, .int .i64 0, .int .i64 0, .int .i64 0, .int .i64 0, .slice none 0 0] rfl rfl r0 (by simp) size_ino one7 ?_; intro w8 b8 t8))
    refine ret_inoE rfl rfl b8 rfl rfl ⟨none, 0, 0, by rw [HD.out.1, HD.out.2]; rfl, by rw [HD.out.1]; exact InE.empty _, t8.below hb0 (Nat.le_refl _), fun a h => by cases h⟩
  | true =>
    have HE : Hid (plE xs s = 0) := by show _ = _; unfold plE; rw [ht]; rfl
    have HD : Hid (getI xs s = decI (plL xs s) ∧ getE xs s = decE (plL xs s)) := by show _ ∧ _; unfold getI getE; rw [ht]; exact ⟨rfl, rfl⟩
    have hdec := fun p n c w h => idecode_any p n c (plL xs s) w h
    generalize decE (plL xs s) = ee at HD hdec
    generalize decI (plL xs s) = x at HD hdec
    obtain ⟨kd, lk, sz, nx, ge, dp, rt⟩ := x
    dsimp only at hdec
    go_enter Try.func22, Try.ntmps22
    go_wp2_with (first
      | (go_at_call 43; refine (place_any p n c xs s _ hx0).mono ?_; rintro e w' ⟨p1, n1, c1, rfl, hi1, hw'⟩; have hw2 := hw'.symm; subst hw2; clear hw'; rw [HE.out])
      | (go_at_call 10; refine (hdec _ _ _ _ hi1).mono ?_; rintro e w1 ⟨p2, n2, c2, rfl, hi2, hb2, hf2⟩; have r1 := r0.kept hb2; have hB2 := bt hb0 hb2)
      | (guard_target = wpList _ _ _ (Oper.mk _ (Op.store 24 (Operand.tmp 4) _) _ _ _ _ :: _) _ _; refine wpList_store_blk rfl 24 (.tmp 4) (.tmp 20) rfl _ 0 [.int .i64 kd, .int .i64 lk, .int .i64 sz, .int .i64 nx, .int .i64 ge, .int .i64 dp, .slice p2 n2 c2] rfl rfl r1 (by simp) size_ino one7 ?_; intro w8 b8 t8))
    refine ret_inoE rfl rfl b8 rfl rfl ⟨p2, n2, c2, by rw [HD.out.1, HD.out.2]; rfl, by rw [HD.out.1]; exact hi2.turnedAt t8 (fun _ a h e => by have := hf2 a h; rw [World.size_alloc] at this; omega), t8.below hB2 (Nat.le_refl _), fun a h => by have := hf2 a h; rw [World.size_alloc] at this; omega⟩
end Go.Proofs.Ytgeomfgfeemciaa
