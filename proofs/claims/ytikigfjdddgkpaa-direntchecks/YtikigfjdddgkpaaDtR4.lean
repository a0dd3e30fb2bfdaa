/-
  What the reference's State, Entries and Find answer.
-/
import Derived.Test.YtikigfjdddgkpaaDtFind
import Derived.Test.YtikigfjdddgkpaaDtEq
import Derived.Deep.Cut
import Derived.Test.YtikigfjdddgkpaaDtR3
namespace Go.Proofs.Ytikigfjdddgkpaa
open Go.RowKit
theorem ret_rfind {fn : Func} {p u : Tmp} (h : fn.results = #[.cell p 24, .tmp u]) {R : Ending → World → Prop} {a : Act} {w : World} {g : Nat} {t : TypeId} {x0 x1 x2 v : Value} (hp : a.tmps.getD p undef = .pointer (some ⟨g, 0, none⟩))
    (hb : Blk w g t [x0, x1, x2]) (hd : a.defers = []) (hu : a.tmps.getD u undef = v) (hR : R (.returned (.tuple #[.agg #[x0, x1, x2], v])) w) : bodyPost Try.prog fn R .ret a w := by
  refine bodyPost_ret (v := .tuple #[.agg #[x0, x1, x2], v]) ?_ hd hR
  rw [results_cell_tmp h, hp, hu]
  have := run_loadVar_mid w g 0 24 [x0, x1, x2] _ (hb.range 0 3 _ rfl) Try.underlying24 rfl (by kernel_rfl)
  simp only [asAddr, Sem.run_pure, Result.andThen_ok, this]
set_option linter.unusedSimpArgs false in
set_option linter.unusedVariables false in
set_option maxRecDepth 100000 in
set_option maxHeartbeats 8000000 in
theorem rstate_any (p : Option Addr) (n c : Nat) (xs : List Nat) (w : World) (hx : In w p n c xs) :
    Calls Try.prog 16 #[.slice p n c] w fun e w' => e = .returned (.int .i64 (stE xs)) ∧ Below w.heap.size w w' := by
  have hrr := rrecords_any p n c xs w hx
  cases hs : (recsO xs).isSome with
  | false =>
    have HE : Hid (stE xs = 160) := by show _ = _; unfold stE; rw [hs]; rfl
    go_enter Try.func16, Try.ntmps16
    go_wp2_with (go_at_call 36; refine hrr.mono ?_; rintro e1 w1 ⟨v, m, rfl, -, hb1⟩; rw [hs])
    go_ret
    exact ⟨ret_int HE.out.symm, hb1⟩
  | true =>
    have HE : Hid (stE xs = 0) := by show _ = _; unfold stE; rw [hs]; rfl
    go_enter Try.func16, Try.ntmps16
    go_wp2_with (go_at_call 36; refine hrr.mono ?_; rintro e1 w1 ⟨v, m, rfl, -, hb1⟩; rw [hs])
    go_ret
    exact ⟨ret_int HE.out.symm, hb1⟩
theorem row_atE {w : World} {B : Nat} {v : Value} {l : List Ent} (h : w.ownsRow B 24 3 v l.length (flatN l)) (h0 : 0 < l.length) : ∃ g cap, v = .slice (some ⟨g, 0, none⟩) l.length cap ∧ g < w.heap.size ∧ ∀ k, k < l.length → w.cell? ⟨g, k * 3, none⟩ = some (.string ⟨(eN l k).nm.toArray⟩) ∧ w.cell? ⟨g, k * 3 + 1, none⟩ = some (.int .i64 (eN l k).ino) ∧ w.cell? ⟨g, k * 3 + 2, none⟩ = some (.int .i64 (eN l k).kd) := by
  obtain ⟨g, cap, hv⟩ : ∃ g cap, v = .slice (some ⟨g, 0, none⟩) l.length cap := by
    rcases h.2 with ⟨_, h0'⟩ | ⟨g, cap, cur, hv, _⟩
    · omega
    · exact ⟨g, cap, hv⟩
  subst hv
  refine ⟨g, cap, rfl, own_lt h _ rfl, fun k hk => ?_⟩
  obtain ⟨f0, f1, f2⟩ := flatN_at (l := l) (k := k) hk
  exact ⟨(World.ownsRow.cellAt h (k * 3) (by omega)).trans f0, (World.ownsRow.cellAt h (k * 3 + 1) (by omega)).trans f1, (World.ownsRow.cellAt h (k * 3 + 2) (by omega)).trans f2⟩
theorem row_atQ4 {w : World} {B : Nat} {v : Value} {l : List Rc} (h : w.ownsRow B 62 5 v l.length (flatR l)) (h0 : 0 < l.length) : ∃ g cap, v = .slice (some ⟨g, 0, none⟩) l.length cap ∧ g < w.heap.size ∧ ∀ k, k < l.length → w.cell? ⟨g, k * 5 + 2, none⟩ = some (.string ⟨(eR l k).nm.toArray⟩) ∧ w.cell? ⟨g, k * 5 + 3, none⟩ = some (.int .i64 (eR l k).ino) ∧ w.cell? ⟨g, k * 5 + 4, none⟩ = some (.int .i64 (eR l k).kd) := by
  obtain ⟨g, cap, hv⟩ : ∃ g cap, v = .slice (some ⟨g, 0, none⟩) l.length cap := by
    rcases h.2 with ⟨_, h0'⟩ | ⟨g, cap, cur, hv, _⟩
    · omega
    · exact ⟨g, cap, hv⟩
  subst hv
  refine ⟨g, cap, rfl, own_lt h _ rfl, fun k hk => ?_⟩
  obtain ⟨f0, f1, f2, f3, f4⟩ := flatR_at (l := l) (k := k) hk
  exact ⟨(World.ownsRow.cellAt h (k * 5 + 2) (by omega)).trans f2, (World.ownsRow.cellAt h (k * 5 + 3) (by omega)).trans f3, (World.ownsRow.cellAt h (k * 5 + 4) (by omega)).trans f4⟩
/-- What Entries answers. -/
def EntsAns (L : List Ent) (w w' : World) (e : Ending) : Prop := ∃ v, e = .returned v ∧ w'.ownsRow w.heap.size 24 3 v L.length (flatN L) ∧ Below w.heap.size w w'
theorem entsL_takeif {L : List Rc} {k : Nat} (h : k < L.length) : entsL (L.take (k + 1)) = if (eR L k).has then entsL (L.take k) ++ [(eR L k).en] else entsL (L.take k) := by
  rw [takeR_succ L k h, entsL_append]
  split
  · rename_i hh; rw [entsL_yes hh]
  · rename_i hh; rw [entsL_no (by simpa using hh), List.append_nil]
set_option linter.unusedSimpArgs false in
set_option linter.unusedVariables false in
set_option maxRecDepth 100000 in
set_option maxHeartbeats 8000000 in
theorem rentries_any (p : Option Addr) (n c : Nat) (xs : List Nat) (w : World) (hx : In w p n c xs) :
    Calls Try.prog 9 #[.slice p n c] w fun e w' => EntsAns (entsL (recsL xs)) w w' e := by
  have hrr := rrecords_any p n c xs w hx
  have hct : (recsL xs).length ≤ 32 := by
    unfold recsL
    cases h : recsO xs with
    | none => simp
    | some l => exact recsO_count h
  generalize hLL : recsL xs = L at hct
  obtain ⟨i0, hi, hz0, hz1, hz2⟩ := info_parts infoN
  go_enter Try.func9, Try.ntmps9
  go_wp2_with (go_at_call 36; refine hrr.mono ?_; rintro e1 w1 ⟨v, m, rfl, ho, hb1⟩; rw [hLL] at ho; have hm : m = L.length := (by have := ho.1; rw [flatR_length] at this; omega); subst hm; obtain ⟨pv, cv, rfl⟩ := owns_slice ho)
  clear hrr hLL
  have hs1 := hb1.size
  go_loopw [5, 6] (fun v i wr => ∃ k : Nat, k ≤ L.length ∧ i = .int .i64 k ∧ wr.ownsRow w1.heap.size 24 3 v (entsL (L.take k)).length (flatN (entsL (L.take k))) ∧ Below w1.heap.size w1 wr) (fun _ i _ => L.length - (intOf i).toNat)
  case atStart => exact ⟨0, Nat.zero_le _, rfl, ⟨rfl, .inl ⟨rfl, rfl⟩⟩, Below.refl _ _⟩
  case round =>
    obtain ⟨k, hk, rfl, hown, hbk⟩ := hrel
    obtain ⟨pe, ce, hpe⟩ := owns_slice hown
    subst hpe
    have hszk := hbk.size
    by_cases hlt : k < L.length
    · have hki : (k : Int) < (L.length : Int) := by omega
      obtain ⟨g, cap, he, hgl, hat⟩ := row_atQ4 (owns_below ho hbk) (by omega)
      cases he
      obtain ⟨c2, c3, c4⟩ := hat k hlt
      have hle : (entsL (L.take k)).length ≤ 32 := Nat.le_trans (entsL_len _) (by rw [List.length_take]; omega)
      have HTK : Hid (entsL (L.take (k + 1)) = if (eR L k).has then entsL (L.take k) ++ [(eR L k).en] else entsL (L.take k)) := entsL_takeif hlt
      clear hat
      by_cases hh : (eR L k).has = true
      · have HT2 : Hid (entsL (L.take (k + 1)) = entsL (L.take k) ++ [(eR L k).en]) := by show _ = _; rw [HTK.out, if_pos hh]
        have q1 : ((eR L k).ino != 0) = true := hh
        go_wp2_with (at_builtin; refine wpList_append_own _ rfl (.tmp 25) (.tmp 31) 27 rfl w1.heap.size 24 i0 (.agg #[.string ⟨#[]⟩, .int .i64 0, .int .i64 0]) 3 32 Try.underlying27 hi hz0 hz1 hz2 rfl (by decide) _ _ _ rfl (owns_below hown (below_alloc _ _)) ⟨_, 0, none⟩ 1 1 [.string ⟨(eR L k).nm.toArray⟩, .int .i64 (eR L k).ino, .int .i64 (eR L k).kd] rfl rfl (new_three _ _ _ _) (by simp [Value.oneCell']) (by unfold maxLen; omega) (by omega) (by simp; omega) ?_; intro v1 w5 hown5 hgrow5 _)
        go_roundw
        case rel =>
          have hf := flatN_snoc (entsL (L.take k)) (eR L k).en
          refine ⟨k + 1, by omega, by go_num, ?_, below_appP hbk (Nat.le_refl _) hown hgrow5⟩
          rw [HT2.out, ← hf, List.length_append, List.length_singleton]
          exact hown5
        case measure => simp [intOf]; omega
      · have HT2 : Hid (entsL (L.take (k + 1)) = entsL (L.take k)) := by show _ = _; rw [HTK.out, if_neg hh]
        have q1 : ((eR L k).ino != 0) = false := by simpa [Rc.has] using hh
        go_wp2
        go_roundw
        case rel => exact ⟨k + 1, by omega, by go_num, by rw [HT2.out]; exact hown, hbk⟩
        case measure => simp [intOf]; omega
    · have hki : ¬ (k : Int) < (L.length : Int) := by omega
      obtain rfl : k = L.length := by omega
      rw [List.take_length] at hown
      go_wp2
      go_ret
      exact ⟨_, rfl, owns_base hown hs1, bt hb1 hbk⟩
set_option linter.unusedSimpArgs false in
set_option linter.unusedVariables false in
set_option maxRecDepth 100000 in
set_option maxHeartbeats 8000000 in
theorem rfind_any (p : Option Addr) (n c : Nat) (xs : List Nat) (l : List UInt8) (w : World) (hx : In w p n c xs) :
    Calls Try.prog 8 #[.slice p n c, .string ⟨l.toArray⟩] w fun e w' => FindAns (findO xs l) w w' e := by
  obtain ⟨L, hLL⟩ : ∃ L, entsL (recsL xs) = L := ⟨_, rfl⟩
  have HO : Hid (findO xs l = L.find? fun x => x.nm == l) := by show _ = _; unfold findO; rw [hLL]
  have hct : L.length ≤ 32 := by
    rw [← hLL]
    refine Nat.le_trans (entsL_len _) ?_
    unfold recsL
    cases h : recsO xs with
    | none => simp
    | some l => exact recsO_count h
  generalize findO xs l = O at *
  have Z4 := below_alloc w (.cells #[.string ⟨#[]⟩, .int .i64 0, .int .i64 0] 24)
  have k4 := Blk.new' w 24 #[.string ⟨#[]⟩, .int .i64 0, .int .i64 0]
  have hrr := rentries_any p n c xs (w.alloc (.cells #[.string ⟨#[]⟩, .int .i64 0, .int .i64 0] 24)) (hx.below Z4)
  rw [hLL] at hrr
  go_enter Try.func8, Try.ntmps8
  go_wp2_with (go_at_call 9; refine hrr.mono ?_; rintro e1 w1 ⟨v, rfl, ho, hb1⟩; obtain ⟨pv, cv, rfl⟩ := owns_slice ho)
  have k5 := k4.kept hb1
  have hB1 := bt Z4 hb1
  have hs1 := hB1.size
  clear hrr hLL k4 hb1 Z4
  go_loopw [7] (fun i wr => ∃ k : Nat, k ≤ L.length ∧ i = .int .i64 k ∧ wr = w1 ∧ Hid (∀ j y, j < k → L[j]? = some y → (y.nm == l) = false)) (fun i _ => L.length - (intOf i).toNat)
  case atStart => exact ⟨0, Nat.zero_le _, rfl, rfl, fun j y hj => absurd hj (Nat.not_lt_zero _)⟩
  case round =>
    obtain ⟨k, hk, rfl, rfl, HT⟩ := hrel
    by_cases hlt : k < L.length
    · have hki : (k : Int) < (L.length : Int) := by omega
      obtain ⟨g, cap, he, hgl, hat⟩ := row_atE ho (by omega)
      cases he
      obtain ⟨c0, c1, c2⟩ := hat k hlt
      have HK : Hid (L[k]? = some (eN L k)) := by show _ = _; simp [eN, hlt]
      clear hat
      cases hh : ((eN L k).nm == l) with
      | true =>
        have HF : Hid (O = some (eN L k)) := by
          show _ = _
          rw [HO.out]
          exact find_hit (ini := L.take k) ⟨L.drop (k + 1), by rw [List.append_assoc, List.singleton_append, ← show L[k] = eN L k from by simp [eN, hlt], List.getElem_cons_drop, List.take_append_drop]⟩ (fun y hy => by
            obtain ⟨j, hj, rfl⟩ := List.mem_iff_getElem.1 hy
            rw [List.length_take] at hj
            rw [List.getElem_take]
            exact HT.out j _ (by omega) (List.getElem?_eq_getElem (by omega))) hh
        have q3 : (eN L k).nm = l := by rw [beq_iff_eq] at hh; exact hh
        rw [q3] at c0
        go_wp2_with (refine wpList_store_blk rfl 24 (.tmp 4) (.tmp 26) rfl _ 0 [.string ⟨l.toArray⟩, .int .i64 (eN L k).ino, .int .i64 (eN L k).kd] rfl rfl k5 (by simp) (by kernel_rfl) (by simp [Value.oneCell']) ?_; intro w10 h10 t10; replace h10 : Blk w10 _ 24 [.string ⟨l.toArray⟩, .int .i64 (eN L k).ino, .int .i64 (eN L k).kd] := h10)
        refine ret_rfind rfl rfl h10 rfl rfl ?_
        rw [HF.out]
        exact ⟨by simp [Ent.val, q3], t10.below hB1 (Nat.le_refl _)⟩
      | false =>
        have HN : Hid (∀ j y, j < k + 1 → L[j]? = some y → (y.nm == l) = false) := fun j y hj hz => by
          rcases Nat.lt_succ_iff_lt_or_eq.1 hj with h' | h'
          · exact HT.out j y h' hz
          · subst h'
            rw [HK.out] at hz
            cases hz
            exact hh
        have q3 : ¬ (eN L k).nm = l := by rw [beq_eq_false_iff_ne] at hh; exact hh
        go_wp2
        go_roundw
        case rel => exact ⟨k + 1, by omega, by go_num, by first | rfl | trivial, HN⟩
        case measure => simp [intOf]; omega
    · have hki : ¬ (k : Int) < (L.length : Int) := by omega
      have HF : Hid (O = none) := by
        show _ = _
        rw [HO.out, List.find?_eq_none]
        intro y hy
        obtain ⟨j, hj, rfl⟩ := List.mem_iff_getElem.1 hy
        rw [HT.out j _ (by omega) (List.getElem?_eq_getElem hj)]
        exact Bool.false_ne_true
      go_wp2_with (refine wpList_store_blk rfl 24 (.tmp 4) (.tmp 27) rfl _ 0 [.string ⟨#[]⟩, .int .i64 0, .int .i64 0] rfl rfl k5 (by simp) (by kernel_rfl) (by simp [Value.oneCell']) ?_; intro w10 h10 t10; replace h10 : Blk w10 _ 24 [.string ⟨#[]⟩, .int .i64 0, .int .i64 0] := h10)
      refine ret_rfind rfl rfl h10 rfl rfl ?_
      exact ⟨by rw [HF.out]; rfl, t10.below hB1 (Nat.le_refl _)⟩
end Go.Proofs.Ytikigfjdddgkpaa
