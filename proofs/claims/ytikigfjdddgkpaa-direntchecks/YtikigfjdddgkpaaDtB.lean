/-
  What dirent.number answers, what putNumber and record.spare do.
-/
import Derived.Test.YtikigfjdddgkpaaDtA
namespace Go.Proofs.Ytikigfjdddgkpaa
open Go.RowKit
theorem i64_or (a b : Nat) (ha : a < 4611686018427387904) (hb : b < 4611686018427387904) : bits .or .i64 (a : Int) (b : Int) = ((a ||| b : Nat) : Int) := by
  have hx : a ||| b < 2 ^ 62 := Nat.or_lt_two_pow (by omega) (by omega)
  have h1 : (BitVec.ofInt 64 (a : Int)).toNat = a := by
    rw [BitVec.ofInt_natCast, BitVec.toNat_ofNat]; exact Nat.mod_eq_of_lt (by omega)
  have h2 : (BitVec.ofInt 64 (b : Int)).toNat = b := by
    rw [BitVec.ofInt_natCast, BitVec.toNat_ofNat]; exact Nat.mod_eq_of_lt (by omega)
  show IntKind.i64.wrap ((BitVec.ofInt 64 (a : Int) ||| BitVec.ofInt 64 (b : Int)).toNat : Int) = _
  rw [BitVec.toNat_or, h1, h2]
  have e : ((a ||| b : Nat) : Int) % 2 ^ 64 = ((a ||| b : Nat) : Int) := by omega
  simp only [IntKind.wrap, IntKind.bits, IntKind.signed, e]
  rw [if_neg (by simp only [Bool.true_and, decide_eq_true_eq]; omega)]
theorem or_low256 (a b : Nat) (ha : a < 4294967296) (hb : b < 256) : bits .or .i64 ((a : Int) * 256) (b : Int) = ((a * 256 + b : Nat) : Int) := by
  rw [show ((a : Int) * 256) = ((a * 256 : Nat) : Int) by omega, i64_or _ _ (by omega) (by omega), Nat.mul_comm, show (256 : Nat) = 2 ^ 8 from rfl, Nat.two_pow_add_eq_or_of_lt (by omega)]
theorem spare_any (r : Rc) (w : World) (hl : r.nm.length ≤ 100000) (h1 : 0 ≤ r.ln) (h2 : r.ln ≤ 1000000) : Calls Try.prog 42 #[r.val] w fun e w' => e = .returned (.int .i64 (spareE r)) ∧ Below w.heap.size w w' := by
  have hb := below_alloc w (.cells #[.int .i64 r.pl, .int .i64 r.ln, .string ⟨r.nm.toArray⟩, .int .i64 r.ino, .int .i64 r.kd] 69)
  have b0 := Blk.new' w 69 #[.int .i64 r.pl, .int .i64 r.ln, .string ⟨r.nm.toArray⟩, .int .i64 r.ino, .int .i64 r.kd]
  have hne : 0 ≤ needE r.nm ∧ needE r.nm ≤ 200000 := by unfold needE; omega
  cases hh : r.has with
  | false =>
    have HE : Hid (spareE r = r.ln) := by show _ = _; simp [spareE, hh]
    go_enter Try.func42, Try.ntmps42
    go_wp2_with (go_at_call 45; refine (has_any r _).mono ?_; rintro e w1 ⟨rfl, hb1⟩; rw [hh]; have k1 := b0.kept hb1; have hB1 := bt hb hb1; have c1 := k1.cell' (i := 1) (v := .int .i64 r.ln) rfl)
    go_ret
    exact ⟨ret_int HE.out.symm, hB1⟩
  | true =>
    have HE : Hid (spareE r = r.ln - needE r.nm) := by show _ = _; simp [spareE, hh]
    go_enter Try.func42, Try.ntmps42
    go_wp2_with (go_at_call 45; refine (has_any r _).mono ?_; rintro e w1 ⟨rfl, hb1⟩; rw [hh]; have k1 := b0.kept hb1; have hB1 := bt hb hb1; have c1 := k1.cell' (i := 1) (v := .int .i64 r.ln) rfl; have c2 := k1.cell' (i := 2) (v := .string ⟨r.nm.toArray⟩) rfl)
    go_quiet ((go_at_call 49; exact Calls.quiet_of_same (need_any _ _ hl)))
    go_wp2
    go_ret
    exact ⟨ret_int HE.out.symm, below_drewN hB1 _⟩
theorem number_any (p : Option Addr) (n c : Nat) (xs : List Nat) (w : World) (hx : In w p n c xs) (hn : n ≤ 4) :
    Calls Try.prog 65 #[.slice p n c] w fun e w' => e = .returned (.int .i64 (numB xs : Nat)) ∧ w' = w := by
  have HX : Hid (xs.length = n) := hx.len
  go_enter Try.func65, Try.ntmps65
  go_wp2
  trace_state
  go_loop [3, 8] (fun v i => ∃ k : Nat, k ≤ n ∧ i = .int .i64 k ∧ v = .int .i64 (numB (xs.take k) : Nat)) (fun _ i => n - (intOf i).toNat)
  case atStart => exact ⟨0, Nat.zero_le _, rfl, rfl⟩
  case round =>
    obtain ⟨k, hk, rfl, rfl⟩ := hrel
    by_cases hlt : k < n
    · obtain ⟨b, o, rfl, hb, hc⟩ := hx.at' (by omega)
      have hck := hc k hlt
      clear hc
      have hr := hx.range k
      have HL : Hid (numB (xs.take k) < 16777216) := by
        have h := numB_lt (xs := xs.take k) (fun y hy => hx.byte y (List.mem_of_mem_take hy))
        rw [List.length_take, HX.out] at h
        have : min k n ≤ 3 := by omega
        have h3 : 256 ^ min k n ≤ 256 ^ 3 := Nat.pow_le_pow_right (by decide) this
        exact Nat.lt_of_lt_of_le h (Nat.le_trans h3 (by decide))
      have HS : Hid (bits .or .i64 ((numB (xs.take k) : Int) * 256) (el xs k) = (numB (xs.take (k + 1)) : Nat)) := by
        show _ = _
        rw [take_succ_getD xs k (by rw [HX.out]; exact hlt), numB_snoc]
        have h := hx.range k
        unfold el at h ⊢
        exact or_low256 _ _ (by have := HL.out; omega) (by omega)
      obtain ⟨v, hv⟩ : ∃ v, v = numB (xs.take k) := ⟨_, rfl⟩
      have hv1 : v < 16777216 := by rw [hv]; exact HL.out
      rw [← hv] at HS ⊢
      go_wp2
      go_round
      case rel => refine ⟨k + 1, by omega, by go_num, ?_⟩; rw [hv] at HS; exact val_int HS.out
      case measure => simp [intOf]; omega
    · have hkw : k = n := by omega
      subst hkw
      have HT : Hid (xs.take k = xs) := by show _ = _; rw [List.take_of_length_le (by rw [HX.out]; exact Nat.le_refl _)]
      rw [HT.out]
      go_wp2
      go_ret
      exact ⟨rfl, rfl⟩
end Go.Proofs.Ytikigfjdddgkpaa
