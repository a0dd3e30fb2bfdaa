/-
  What the reference's Name, Check, need, own and free answer.
-/
import Derived.Test.YtikigfjdddgkpaaDtNm
namespace Go.Proofs.Ytikigfjdddgkpaa
open Go.RowKit
theorem rneed_any (l : List UInt8) (w : World) (hl : l.length ≤ 100000) : Calls Try.prog 52 #[.string ⟨l.toArray⟩] w fun e w' => e = .returned (.int .i64 (needE l)) ∧ w' = w := by
  have hs := sz l
  go_enter Try.func52, Try.ntmps52
  go_wp2
  go_ret
  exact ⟨ret_int (by unfold needE; omega), rfl⟩
/-- The index of a string. -/
theorem idx_str (l : List UInt8) (k : Nat) (hk : k < l.length) : ∃ y : Nat, (∀ W, (Instr.index 9 (.string ⟨l.toArray⟩) (.int .i64 (k : Int))).run Try.prog W = .ok (.int .u8 (y : Int)) W) ∧ ∃ x, l[k]? = some x ∧ x.toNat = y := by
  refine ⟨(l[k]'hk).toNat, fun W => ?_, _, List.getElem?_eq_getElem hk, rfl⟩
  rw [run_index_string W 9 ⟨l.toArray⟩ .i64 (k : Int) Try.underlying9, dif_pos (by rw [sz]; omega)]
  rfl
theorem bad_of {l : List UInt8} {k : Nat} {x : UInt8} (h : l[k]? = some x) (hx : x.toNat = 0 ∨ x.toNat = 47) : badB l = true := by
  rw [badB, List.any_eq_true]
  refine ⟨x, List.mem_of_getElem? h, ?_⟩
  rcases hx with e | e
  · have : x = 0 := UInt8.toNat_inj.1 (by rw [e]; rfl)
    subst this; rfl
  · have : x = 47 := UInt8.toNat_inj.1 (by rw [e]; rfl)
    subst this; rfl
theorem bad_none {l : List UInt8} (h : ∀ j x, j < l.length → l[j]? = some x → x.toNat ≠ 0 ∧ x.toNat ≠ 47) : badB l = false := by
  rw [badB, List.any_eq_false]
  intro x hx
  obtain ⟨i, hi, hix⟩ := List.getElem_of_mem hx
  have := h i x hi (by rw [List.getElem?_eq_getElem hi, hix])
  intro hb
  simp only [Bool.or_eq_true, beq_iff_eq] at hb
  rcases hb with e | e
  · subst e; exact this.1 rfl
  · subst e; exact this.2 rfl
set_option linter.unusedSimpArgs false in
set_option linter.unusedVariables false in
set_option maxRecDepth 100000 in
set_option maxHeartbeats 8000000 in
theorem rname_any (l : List UInt8) (w : World) : Calls Try.prog 12 #[.string ⟨l.toArray⟩] w fun e w' => e = .returned (.int .i64 (nmE l)) ∧ Below w.heap.size w w' := by
  have hs := sz l
  by_cases h0 : l.length = 0
  · have hl0 : l = [] := List.eq_nil_of_length_eq_zero h0
    have HE : Hid (nmE l = 161) := nmE_no (by simp [nmOk, hl0])
    have hz : ((l.length : Int) == 0) = true := by rw [beq_iff_eq]; omega
    clear hl0 h0
    go_enter Try.func12, Try.ntmps12
    go_wp2
    go_ret
    exact ⟨ret_int HE.out.symm, Below.refl _ _⟩
  · have hz : ((l.length : Int) == 0) = false := by rw [beq_eq_false_iff_ne]; omega
    have hne : (l == []) = false := by rw [beq_eq_false_iff_ne]; intro e; subst e; exact h0 rfl
    have HNE : Hid ((l == []) = false) := hne
    clear hne h0
    by_cases h1 : l.length ≤ 48
    · have hn1 : ¬ ((48 : Int) < (l.length : Int)) := by omega
      cases h2 : (l == [46]) with
      | true =>
        have HE : Hid (nmE l = 161) := nmE_no (by simp [nmOk, h2])
        go_enter Try.func12, Try.ntmps12
        go_wp2
        go_ret
        exact ⟨ret_int HE.out.symm, Below.refl _ _⟩
      | false =>
        cases h3 : (l == [46, 46]) with
        | true =>
          have HE : Hid (nmE l = 161) := nmE_no (by simp [nmOk, h3])
          go_enter Try.func12, Try.ntmps12
          go_wp2
          go_ret
          exact ⟨ret_int HE.out.symm, Below.refl _ _⟩
        | false =>
          have HE : Hid (nmE l = if badB l then 161 else 0) := by show _ = _; have h0 := HNE.out; cases h4 : badB l <;> simp [nmE, nmOk, h0, h1, h2, h3, h4]
          go_enter Try.func12, Try.ntmps12
          go_wp2
          go_loopw [3] (fun i wr => ∃ k : Nat, k ≤ l.length ∧ i = .int .i64 (k : Int) ∧ wr = w ∧ Hid (∀ j x, j < k → l[j]? = some x → x.toNat ≠ 0 ∧ x.toNat ≠ 47)) (fun i _ => l.length - (intOf i).toNat)
          case atStart => exact ⟨0, Nat.zero_le _, rfl, rfl, fun j x hj => absurd hj (Nat.not_lt_zero _)⟩
          case round =>
            obtain ⟨k, hk, rfl, rfl, hno⟩ := hrel
            by_cases hlt : k < l.length
            · have hki : (k : Int) < (l.length : Int) := by omega
              obtain ⟨y, hix, x, hgx, hxy⟩ := idx_str l k hlt
              have HX : Hid (l[k]? = some x ∧ x.toNat = y) := ⟨hgx, hxy⟩
              clear hgx hxy
              by_cases y0 : y = 0
              · have HB : Hid (nmE l = 161) := by show _ = _; rw [HE.out, bad_of HX.out.1 (.inl (by rw [HX.out.2]; exact y0))]; rfl
                have q0 : ((y : Int) == 0) = true := by rw [beq_iff_eq]; omega
                clear y0
                go_wp2
                go_ret
                exact ⟨ret_int HB.out.symm, Below.refl _ _⟩
              · have q0 : ((y : Int) == 0) = false := by rw [beq_eq_false_iff_ne]; omega
                by_cases y1 : y = 47
                · have HB : Hid (nmE l = 161) := by show _ = _; rw [HE.out, bad_of HX.out.1 (.inr (by rw [HX.out.2]; exact y1))]; rfl
                  have q1 : ((y : Int) == 47) = true := by rw [beq_iff_eq]; omega
                  clear y0 y1
                  go_wp2
                  go_ret
                  exact ⟨ret_int HB.out.symm, Below.refl _ _⟩
                · have q1 : ((y : Int) == 47) = false := by rw [beq_eq_false_iff_ne]; omega
                  have HN : Hid (∀ j x, j < k + 1 → l[j]? = some x → x.toNat ≠ 0 ∧ x.toNat ≠ 47) := fun j z hj hz => by
                    by_cases e : j = k
                    · subst e
                      rw [HX.out.1] at hz
                      cases hz
                      rw [HX.out.2]
                      exact ⟨y0, y1⟩
                    · exact hno.out j z (by omega) hz
                  clear y0 y1
                  go_wp2
                  go_roundw
                  case rel => exact ⟨k + 1, by omega, by go_num, by first | rfl | trivial, HN⟩
                  case measure => simp [intOf]; omega
            · have hki : ¬ (k : Int) < (l.length : Int) := by omega
              have HB : Hid (nmE l = 0) := by
                show _ = _
                rw [HE.out, bad_none fun j x hj hx => hno.out j x (by omega) hx]
                rfl
              go_wp2
              go_ret
              exact ⟨ret_int HB.out.symm, Below.refl _ _⟩
    · have hn1 : ((48 : Int) < (l.length : Int)) := by omega
      have HE : Hid (nmE l = 161) := nmE_no (by simp [nmOk, h1])
      go_enter Try.func12, Try.ntmps12
      go_wp2
      go_ret
      exact ⟨ret_int HE.out.symm, Below.refl _ _⟩
set_option maxHeartbeats 4000000 in
theorem rcheck_any (x : Ent) (w : World) : Calls Try.prog 14 #[x.val] w fun e w' => e = .returned (.int .i64 (chkE x.nm x.ino x.kd)) ∧ Below w.heap.size w w' := by
  have hb := below_alloc w (.cells #[.string ⟨x.nm.toArray⟩, .int .i64 x.ino, .int .i64 x.kd] 24)
  have b0 := Blk.new' w 24 #[.string ⟨x.nm.toArray⟩, .int .i64 x.ino, .int .i64 x.kd]
  have hna := fun w => rname_any x.nm w
  cases h1 : nmOk x.nm with
  | false =>
    rw [nmE_no h1] at hna
    rw [chkE_nm h1]
    go_enter Try.func14, Try.ntmps14
    go_wp2_with (go_at_call 12; refine (hna _).mono ?_; rintro e w' ⟨rfl, hw⟩; have hB1 := bt hb hw)
    go_ret
    exact ⟨rfl, hB1⟩
  | true =>
    rw [nmE_ok h1] at hna
    have HE : Hid (chkE x.nm x.ino x.kd = if inoOk x.ino x.kd then 0 else 162) := by show _ = _; simp [chkE, h1]
    have HI : Hid (inoOk x.ino x.kd = true ↔ 1 ≤ x.ino ∧ x.ino ≤ 1048576 ∧ (x.kd = 1 ∨ x.kd = 2)) := inoOk_iff
    have fin1 : (1 ≤ x.ino ∧ x.ino ≤ 1048576 ∧ (x.kd = 1 ∨ x.kd = 2)) → chkE x.nm x.ino x.kd = 0 := fun h => by rw [HE.out, if_pos (HI.out.2 h)]
    have fin2 : ¬ (1 ≤ x.ino ∧ x.ino ≤ 1048576 ∧ (x.kd = 1 ∨ x.kd = 2)) → chkE x.nm x.ino x.kd = 162 := fun h => by rw [HE.out, if_neg (fun h2 => h (HI.out.1 h2))]
    have F1 : Hid ((1 ≤ x.ino ∧ x.ino ≤ 1048576 ∧ (x.kd = 1 ∨ x.kd = 2)) → chkE x.nm x.ino x.kd = 0) := fin1
    have F2 : Hid (¬ (1 ≤ x.ino ∧ x.ino ≤ 1048576 ∧ (x.kd = 1 ∨ x.kd = 2)) → chkE x.nm x.ino x.kd = 162) := fin2
    clear fin1 fin2 HE HI
    go_enter Try.func14, Try.ntmps14
    go_wp2_with (go_at_call 12; refine (hna _).mono ?_; rintro e w' ⟨rfl, hw⟩; have hB1 := bt hb hw; have k1 := b0.kept hw; have c1 := k1.cell' (i := 1) (v := .int .i64 x.ino) rfl; have c2 := k1.cell' (i := 2) (v := .int .i64 x.kd) rfl)
    all_goals (go_ret; refine ⟨ret_int ?_, hB1⟩)
    all_goals (clear hna hb b0)
    all_goals (try simp only [bne_iff_ne, ne_eq, bne_eq_false_iff_eq] at *)
    all_goals first | exact (F1.out (by omega)).symm | exact (F2.out (by omega)).symm
/-- A record's own need. -/
def ownE (r : Rc) : Int := if r.has then needE r.nm else 8
set_option linter.unusedSimpArgs false in
set_option linter.unusedVariables false in
set_option maxRecDepth 100000 in
set_option maxHeartbeats 8000000 in
theorem own_any (r : Rc) (w : World) (hl : r.nm.length ≤ 100000) : Calls Try.prog 53 #[r.val] w fun e w' => e = .returned (.int .i64 (ownE r)) ∧ Below w.heap.size w w' := by
  have hb := below_alloc w (.cells #[.int .i64 r.pl, .int .i64 r.ln, .string ⟨r.nm.toArray⟩, .int .i64 r.ino, .int .i64 r.kd] 62)
  cases hh : r.has with
  | false =>
    have HE : Hid (ownE r = 8) := by show _ = _; simp [ownE, hh]
    have hz : (r.ino == 0) = true := by unfold Rc.has at hh; simpa using hh
    go_enter Try.func53, Try.ntmps53
    go_wp2
    go_ret
    exact ⟨ret_int HE.out.symm, hb⟩
  | true =>
    have HE : Hid (ownE r = needE r.nm) := by show _ = _; simp [ownE, hh]
    have hz : (r.ino == 0) = false := by unfold Rc.has at hh; simpa using hh
    go_enter Try.func53, Try.ntmps53
    go_wp2_with (go_at_call 52; refine (rneed_any _ _ hl).mono ?_; rintro e w1 ⟨rfl, hw1⟩; subst hw1)
    go_ret
    exact ⟨ret_int HE.out.symm, hb⟩
end Go.Proofs.Ytikigfjdddgkpaa
