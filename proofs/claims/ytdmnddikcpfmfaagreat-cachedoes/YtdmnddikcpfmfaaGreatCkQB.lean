/-
  The reference's Dirty.
-/
import Derived.Test.YtdmnddikcpfmfaaGreatCkQ9
import Derived.Test.YtdmnddikcpfmfaaGreatCkTold
namespace Go.Proofs.YtdmnddikcpfmfaaGreat
open Go.RowKit Go.Shelf
theorem owns_newQ {w : World} {B : Nat} {e : TypeId} {z : Nat} {p : Option Addr} {m n c : Nat} {xs : List Value} (h : w.ownsRow B e z (.slice p m c) n xs) : ∀ a, p = some a → B ≤ a.block := by
  intro a ha
  subst ha
  rcases h.2 with ⟨h, _⟩ | ⟨g, cap, cur, h, hg, _⟩
  · cases h
  · cases h; exact hg
theorem below_app1 {B : Nat} {w0 wr w1 : World} {o : Obj} {v : Value} {n : Nat} {e : TypeId} {xs : List Value} (hbel : Below B w0 wr) (hB : B ≤ w0.heap.size) (hown : wr.ownsRow B e 1 v n xs) (hg : (wr.alloc o).grownBy w1 v.ownBlock) : Below B w0 w1 := by
  have hs := hbel.size
  refine (hbel.alloc (by omega) o).grown hg (by simp; omega) fun k hk => ?_
  rcases hown.2 with ⟨rfl, _⟩ | ⟨g, cap, cur, rfl, hg, _⟩
  · simp [Value.ownBlock] at hk
  · simp only [Value.ownBlock, Option.some.injEq] at hk
    omega
def isDirt (l : List BP) (cl k : Nat) : Bool :=
  match cutAt (isK k) l with
  | some (_, x, _) => decide (x.cl = cl)
  | none => false
def dirtQ (n : Nat) (l : List BP) (cl : Nat) : List Int := ((List.range n).filter (isDirt l cl)).map (fun k : Nat => (k : Int))
theorem dirtQ_yes {k : Nat} {l : List BP} {cl : Nat} (h : isDirt l cl k = true) : dirtQ (k + 1) l cl = dirtQ k l cl ++ [(k : Int)] := by
  simp [dirtQ, List.range_succ, h]
theorem dirtQ_no {k : Nat} {l : List BP} {cl : Nat} (h : isDirt l cl k = false) : dirtQ (k + 1) l cl = dirtQ k l cl := by
  simp [dirtQ, List.range_succ, h]
theorem dirtQ_len (n : Nat) (l : List BP) (cl : Nat) : (dirtQ n l cl).length ≤ n := by
  simp only [dirtQ, List.length_map]
  exact Nat.le_trans (List.length_filter_le _ _) (by simp)
set_option linter.unusedSimpArgs false in
set_option maxHeartbeats 4000000 in
set_option maxRecDepth 100000 in
theorem qdirty_any {w : World} {s : QS} (h : QIn w s) (CL : Nat) (hC : CL = 1 ∨ CL = 2) : Calls Tryz.prog 51 #[.pointer (some ⟨s.q, 0, none⟩), .int .i64 (CL : Int)] w fun e w' => ∃ p n c, e = .returned (.slice p n c) ∧ InI w' p n c (dirtQ s.t.secs.length s.P CL) ∧ Below w.heap.size w w' ∧ ∀ a, p = some a → w.heap.size ≤ a.block := by
  obtain ⟨i0, hi, hz0, hz1, hz2⟩ := info_parts info3
  have hn2 := h.ref.n2
  obtain ⟨N, HN⟩ : ∃ N, Hid (s.t.secs.length = N) := ⟨_, rfl⟩
  rw [HN.out] at hn2 ⊢
  have q12 : ((CL : Int) != 1) = false ∨ (((CL : Int) != 1) = true ∧ ((CL : Int) != 2) = false) := by
    rcases hC with e | e
    · exact .inl (by rw [e]; rfl)
    · exact .inr ⟨by rw [e]; rfl, by rw [e]; rfl⟩
  rcases q12 with q1 | ⟨q1, q2⟩
  all_goals
    clear hC
    go_enter Tryz.func51, Tryz.ntmps51
    go_wp2_with fail
    go_loopw [5, 6] (fun v i wr => ∃ (k m : Nat) (pv : Option Addr) (cv : Nat), i = .int .i64 (k : Int) ∧ k ≤ N ∧ v = .slice pv m cv ∧ Hid ((dirtQ k s.P CL).length = m) ∧ wr.ownsRow w.heap.size 3 1 (.slice pv m cv) m (valsI (dirtQ k s.P CL)) ∧ Below w.heap.size w wr) (fun _ i _ => N - (intOf i).toNat)
    case atStart => exact ⟨0, 0, none, 0, rfl, Nat.zero_le _, rfl, rfl, World.ownsRow_nil _ _ _ _, Below.refl _ _⟩
    case round =>
      obtain ⟨k, m, pv, cv, rfl, hk, rfl, HM, hown, hbel⟩ := hrel
      have hr := h.below hbel
      have hszb := hbel.size
      have hml : m ≤ 8192 := by have := dirtQ_len k s.P CL; rw [HM.out] at this; omega
      have c0 := hr.blk.cell' (i := 0) (v := .pointer (some ⟨s.g, 0, none⟩)) rfl
      have hs := rsize_any hr.ref
      rw [HN.out] at hs
      have ha := qat_any hr (k : Int)
      by_cases hkn : k < N
      · have hki : (k : Int) < (N : Int) := by omega
        cases hc : cutAt (isK k) s.P with
        | none =>
          have e3 : atI s.P (k : Int) = -1 := by rw [atI, isI_isK, hc]
          have HD : Hid (dirtQ (k + 1) s.P CL = dirtQ k s.P CL) := dirtQ_no (by rw [isDirt, hc])
          rw [e3] at ha
          clear e3 hc
          go_wp2_with (first | (go_at_call 55; refine hs.mono ?_; rintro e w' ⟨rfl, hw'⟩; have hw2 := hw'.symm; subst hw2; clear hw') | (go_at_call 75; refine ha.mono ?_; rintro e w' ⟨rfl, hw'⟩; have hw2 := hw'.symm; subst hw2; clear hw'))
          go_roundw
          case rel => exact ⟨k + 1, m, pv, cv, by go_num, by omega, rfl, by rw [HD.out]; exact HM, by rw [HD.out]; exact hown, hbel⟩
          case measure => simp [intOf]; omega
        | some r =>
          obtain ⟨P1, y, Q1⟩ := r
          obtain ⟨hP, -, -⟩ := cutAt_spec hc
          have e3 : atI s.P (k : Int) = (P1.length : Int) := by rw [atI, isI_isK, hc]
          have hd : isDirt s.P CL k = decide (y.cl = CL) := by rw [isDirt, hc]
          rw [e3] at ha
          have hpy : s.P[P1.length]? = some y := by rw [hP]; simp
          obtain ⟨x, hxi, hxy⟩ := QS.at hpy
          subst hxy
          have hil : P1.length < s.L.length := (List.getElem?_eq_some_iff.1 hxi).1
          obtain ⟨g, cap, hg, -, -⟩ := owns_at hr.row (by omega)
          have c2 := hr.blk.cell' (i := 2) (v := s.lv) rfl
          rw [hg] at c2
          have f2 := hr.cellAt hg hxi (j := 2) (by omega) (v := .int .i64 (x.b.cl : Int)) rfl
          obtain ⟨n, HNL⟩ : ∃ n, Hid (s.L.length = n) := ⟨_, rfl⟩
          rw [HNL.out] at c2 hil
          clear hP hpy hg e3 hc hxi
          generalize P1.length = j at *
          have hji : (j : Int) < (n : Int) := by omega
          have hj0 : (0 : Int) ≤ (j : Int) := by omega
          by_cases hcc : x.b.cl = CL
          · have HD : Hid (dirtQ (k + 1) s.P CL = dirtQ k s.P CL ++ [(k : Int)]) := dirtQ_yes (by rw [hd]; simp [hcc])
            have hq : ((x.b.cl : Int) == (CL : Int)) = true := by rw [hcc]; simp
            clear hcc hd
            go_wp2_with (first | (go_at_call 55; refine hs.mono ?_; rintro e w' ⟨rfl, hw'⟩; have hw2 := hw'.symm; subst hw2; clear hw') | (go_at_call 75; refine ha.mono ?_; rintro e w' ⟨rfl, hw'⟩; have hw2 := hw'.symm; subst hw2; clear hw') | (at_builtin; refine wpList_append_own _ rfl (.tmp 40) (.tmp 42) 40 rfl w.heap.size 3 i0 (.int .i64 0) 1 8 Tryz.underlying40 hi hz0 hz1 hz2 rfl (by decide) (.slice pv m cv) m _ rfl (hown.alloc _) ⟨wr.heap.size, 0, none⟩ 1 1 [.int .i64 (k : Int)] rfl rfl (new_one wr _) (by simp [Value.oneCell']) (by unfold maxLen; omega) (by omega) (by rw [World.size_alloc]; omega) ?_; intro v1 w1 hown1 hgrow1 _))
            obtain ⟨p1, c1, rfl⟩ := owns_slice hown1
            have hbel1 := below_app1 hbel (Nat.le_refl _) hown hgrow1
            go_roundw
            case rel => exact ⟨k + 1, m + 1, p1, c1, by go_num, by omega, rfl, by show _ = _; rw [HD.out, List.length_append, HM.out]; rfl, by rw [HD.out, valsI_append]; exact hown1, hbel1⟩
            case measure => simp [intOf]; omega
          · have HD : Hid (dirtQ (k + 1) s.P CL = dirtQ k s.P CL) := dirtQ_no (by rw [hd]; simp [hcc])
            have hq : ((x.b.cl : Int) == (CL : Int)) = false := by rw [beq_eq_false_iff_ne]; omega
            clear hcc hd
            go_wp2_with (first | (go_at_call 55; refine hs.mono ?_; rintro e w' ⟨rfl, hw'⟩; have hw2 := hw'.symm; subst hw2; clear hw') | (go_at_call 75; refine ha.mono ?_; rintro e w' ⟨rfl, hw'⟩; have hw2 := hw'.symm; subst hw2; clear hw'))
            go_roundw
            case rel => exact ⟨k + 1, m, pv, cv, by go_num, by omega, rfl, by rw [HD.out]; exact HM, by rw [HD.out]; exact hown, hbel⟩
            case measure => simp [intOf]; omega
      · obtain rfl : k = N := by omega
        go_wp2_with (first | (go_at_call 55; refine hs.mono ?_; rintro e w' ⟨rfl, hw'⟩; have hw2 := hw'.symm; subst hw2; clear hw'))
        go_ret
        obtain ⟨p', c', hv, hin⟩ := in_of_ownsI hown (by omega)
        cases hv
        exact ⟨_, _, _, rfl, hin, hbel, owns_newQ hown⟩
end Go.Proofs.YtdmnddikcpfmfaaGreat
