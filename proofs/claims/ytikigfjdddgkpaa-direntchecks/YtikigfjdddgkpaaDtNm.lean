/-
  What strings.ContainsAny, dirent.Name and Check answer.
-/
import Derived.Test.YtikigfjdddgkpaaDtNm3
namespace Go.Proofs.Ytikigfjdddgkpaa
open Go.RowKit Go.Shelf Go.Lib
theorem indexAny_bad (l : List UInt8) : decide (0 ≤ Lib.indexAny l [0, 47]) = badB l := by
  induction l with
  | nil => rfl
  | cons b l ih =>
    have hge := Lib.indexAny_ge [0, 47] l
    rw [Lib.indexAny, show badB (b :: l) = ((b == 0 || b == 47) || badB l) from rfl, ← ih]
    have hc : ([0, 47] : List UInt8).contains b = (b == 0 || b == 47) := by simp; rfl
    rw [hc]
    cases hb : (b == 0 || b == 47) with
    | true => rfl
    | false =>
      rw [Bool.false_or]
      by_cases hm : Lib.indexAny l [0, 47] = -1
      · rw [hm]; rfl
      · rw [if_neg (by simp), if_neg (by simpa using hm)]
        exact decide_eq_decide.2 (by omega)
set_option maxHeartbeats 4000000 in
theorem containsAny_any (l : List UInt8) (w : World) (hl : l.length ≤ 1000) :
    Calls Try.prog 38 #[.string ⟨l.toArray⟩, .string badS] w fun e w' => e = .returned (.bool (badB l)) ∧ Below w.heap.size w w' := by
  have hs := sz l
  have hix : ∀ w, Calls Try.prog 57 #[.string ⟨l.toArray⟩, .string badS] w fun e w' => ∃ v, e = .returned (.int .i64 v) ∧ decide (0 ≤ v) = badB l ∧ Below w.heap.size w w' := fun w => by
    by_cases h8 : l.length ≤ 8
    · exact indexAny_short ⟨l.toArray⟩ w (by rw [hs]; exact h8)
    · have h116 : (Try.prog.info? (idxAny_ren.t 116)).map (fun i => (i.zero, i.size)) = some (some (.agg (Array.replicate 256 (.bool false))), 256) := by kernel_rfl
      have h := Any.strings_IndexAny_long idxAny (zero_of_info h116).1 (zero_of_info h116).2 ⟨l.toArray⟩ badS w (by decide) (by rw [hs]; omega) (by rw [hs]; omega) (by decide) (fun j b hb => by
        match j, hb with
        | 0, hb => simp at hb; subst hb; decide
        | 1, hb => simp at hb; subst hb; decide
        | j + 2, hb => simp at hb)
      refine h.mono ?_
      rintro e w' ⟨h1, h2⟩
      refine ⟨_, h1, indexAny_bad l, ?_⟩
      rw [h2]
      exact ((Below.refl _ _).alloc (Nat.le_refl _) _).alloc (by simp) _
  go_enter Try.func38, Try.ntmps38
  go_wp2_with (go_at_call 57; refine (hix _).mono ?_; rintro e w' ⟨v, rfl, hv, hw⟩)
  go_ret
  exact ⟨rfl, hw⟩
set_option maxHeartbeats 4000000 in
theorem name_any (l : List UInt8) (w : World) : Calls Try.prog 11 #[.string ⟨l.toArray⟩] w fun e w' => e = .returned (.int .i64 (nmE l)) ∧ Below w.heap.size w w' := by
  have hs := sz l
  cases h0 : (l == []) with
  | true =>
    have HE : Hid (nmE l = 161) := nmE_no (by simp [nmOk, h0])
    go_enter Try.func11, Try.ntmps11
    go_wp2
    go_ret
    exact ⟨ret_int HE.out.symm, Below.refl _ _⟩
  | false =>
    by_cases h1 : l.length ≤ 48
    · have hn1 : ¬ ((48 : Int) < (l.length : Int)) := by omega
      cases h2 : (l == [46]) with
      | true =>
        have HE : Hid (nmE l = 161) := nmE_no (by simp [nmOk, h2])
        go_enter Try.func11, Try.ntmps11
        go_wp2
        go_ret
        exact ⟨ret_int HE.out.symm, Below.refl _ _⟩
      | false =>
        cases h3 : (l == [46, 46]) with
        | true =>
          have HE : Hid (nmE l = 161) := nmE_no (by simp [nmOk, h3])
          go_enter Try.func11, Try.ntmps11
          go_wp2
          go_ret
          exact ⟨ret_int HE.out.symm, Below.refl _ _⟩
        | false =>
          have HE : Hid (nmE l = if badB l then 161 else 0) := by show _ = _; cases h4 : badB l <;> simp [nmE, nmOk, h0, h1, h2, h3, h4]
          have hca := fun w => containsAny_any l w (by omega)
          cases h4 : badB l with
          | true =>
            rw [h4] at HE hca
            go_enter Try.func11, Try.ntmps11
            go_wp2_with (go_at_call 38; refine (hca _).mono ?_; rintro e w' ⟨rfl, hw⟩)
            go_ret
            exact ⟨ret_int HE.out.symm, hw⟩
          | false =>
            rw [h4] at HE hca
            go_enter Try.func11, Try.ntmps11
            go_wp2_with (go_at_call 38; refine (hca _).mono ?_; rintro e w' ⟨rfl, hw⟩)
            go_ret
            exact ⟨ret_int HE.out.symm, hw⟩
    · have hn1 : ((48 : Int) < (l.length : Int)) := by omega
      have HE : Hid (nmE l = 161) := nmE_no (by simp [nmOk, h1])
      go_enter Try.func11, Try.ntmps11
      go_wp2
      go_ret
      exact ⟨ret_int HE.out.symm, Below.refl _ _⟩
set_option maxHeartbeats 4000000 in
theorem check_any (x : Ent) (w : World) : Calls Try.prog 13 #[x.val] w fun e w' => e = .returned (.int .i64 (chkE x.nm x.ino x.kd)) ∧ Below w.heap.size w w' := by
  have hb := below_alloc w (.cells #[.string ⟨x.nm.toArray⟩, .int .i64 x.ino, .int .i64 x.kd] 24)
  have b0 := Blk.new' w 24 #[.string ⟨x.nm.toArray⟩, .int .i64 x.ino, .int .i64 x.kd]
  have hna := fun w => name_any x.nm w
  cases h1 : nmOk x.nm with
  | false =>
    rw [nmE_no h1] at hna
    rw [chkE_nm h1]
    go_enter Try.func13, Try.ntmps13
    go_wp2_with (go_at_call 11; refine (hna _).mono ?_; rintro e w' ⟨rfl, hw⟩; have hB1 := bt hb hw)
    go_ret
    exact ⟨rfl, hB1⟩
  | true =>
    rw [nmE_ok h1] at hna
    have HE : Hid (chkE x.nm x.ino x.kd = if inoOk x.ino x.kd then 0 else 162) := by show _ = _; simp [chkE, h1]
    have HI : Hid (inoOk x.ino x.kd = true ↔ 1 ≤ x.ino ∧ x.ino ≤ 1048576 ∧ (x.kd = 1 ∨ x.kd = 2)) := inoOk_iff
    have fin1 : (1 ≤ x.ino ∧ x.ino ≤ 1048576 ∧ (x.kd = 1 ∨ x.kd = 2)) → chkE x.nm x.ino x.kd = 0 := fun h => by rw [HE.out, if_pos (HI.out.2 h)]
    have fin2 : ¬ (1 ≤ x.ino ∧ x.ino ≤ 1048576 ∧ (x.kd = 1 ∨ x.kd = 2)) → chkE x.nm x.ino x.kd = 162 := fun h => by rw [HE.out, if_neg (fun h2 => h (HI.out.1 h2))]
    have F1 : Hid ((1 ≤ x.ino ∧ x.ino ≤ 1048576 ∧ (x.kd = 1 ∨ x.kd = 2)) → chkE x.nm x.ino x.kd = 0) := fin1
    have F2 : Hid (¬ (1 ≤ x.ino ∧ x.ino ≤ 1048576 ∧ (x.kd = 1 ∨ x.kd = 2)) → chkE x.nm x.ino x.kd = 162) := fin2
    clear fin1 fin2 HE HI
    go_enter Try.func13, Try.ntmps13
    go_wp2_with (go_at_call 11; refine (hna _).mono ?_; rintro e w' ⟨rfl, hw⟩; have hB1 := bt hb hw; have k1 := b0.kept hw; have c1 := k1.cell' (i := 1) (v := .int .i64 x.ino) rfl; have c2 := k1.cell' (i := 2) (v := .int .i64 x.kd) rfl)
    all_goals (go_ret; refine ⟨ret_int ?_, hB1⟩)
    all_goals (clear hna hb b0)
    all_goals (try simp only [bne_iff_ne, ne_eq, bne_eq_false_iff_eq] at *)
    all_goals first | exact (F1.out (by omega)).symm | exact (F2.out (by omega)).symm
end Go.Proofs.Ytikigfjdddgkpaa
