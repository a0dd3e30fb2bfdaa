/-
  What the reference's Run answers.
-/
import Derived.Test.YthpbeppfiinooaaBmQ2
namespace Go.Proofs.Ythpbeppfiinooaa
open Go.RowKit
/-- What the reference's Run answers. -/
def rrunR (l : List Pie) (g : Nat) (wa : Int) : Int × Int :=
  if wa < 1 then (0, 0) else match l.find? (pB g wa) with
  | some x => (((max x.a g : Nat) : Int), wa)
  | none => match l.find? (fun x => decide (wa ≤ (x.l : Int))) with
    | some x => ((x.a : Int), wa)
    | none => (((lonR l).1 : Int), ((lonR l).2 : Int))
theorem rrunR_small {l : List Pie} {g : Nat} {wa : Int} (h : wa < 1) : rrunR l g wa = (0, 0) := if_pos h
theorem take_lt_mem {l : List Pie} {q : Pie → Bool} {k : Nat} (h : ∀ i (hi : i < l.length), i < k → q l[i] = false) : ∀ x ∈ l.take k, q x = false := by
  intro x hx
  obtain ⟨i, hi, rfl⟩ := List.getElem_of_mem hx
  rw [List.length_take] at hi
  rw [List.getElem_take]
  exact h i (by omega) (by omega)
theorem find_at {l : List Pie} {q : Pie → Bool} {k : Nat} (hk : k < l.length) (h : ∀ i (hi : i < l.length), i < k → q l[i] = false) (h1 : q l[k] = true) : l.find? q = some l[k] := by
  have e : l = l.take k ++ l[k] :: l.drop (k + 1) := by rw [← List.drop_eq_getElem_cons hk, List.take_append_drop]
  have h2 : (l.take k).find? q = none := List.find?_eq_none.2 fun x hx => by simp [take_lt_mem h x hx]
  generalize hy : l[k] = y at *
  rw [e, List.find?_append, h2, List.find?_cons_of_pos h1]
  rfl
theorem find_none' {l : List Pie} {q : Pie → Bool} (h : ∀ i (hi : i < l.length), q l[i] = false) : l.find? q = none :=
  List.find?_eq_none.2 fun x hx => by obtain ⟨i, hi, rfl⟩ := List.getElem_of_mem hx; simp [h i hi]
theorem rrunR_behind {l : List Pie} {g : Nat} {wa : Int} {k : Nat} (hw : ¬ wa < 1) (hk : k < l.length) (h : ∀ i (hi : i < l.length), i < k → pB g wa l[i] = false) (h1 : pB g wa l[k] = true) : rrunR l g wa = (((max l[k].a g : Nat) : Int), wa) := by
  unfold rrunR; rw [if_neg hw, find_at hk h h1]
theorem rrunR_any {l : List Pie} {g : Nat} {wa : Int} {k : Nat} (hw : ¬ wa < 1) (h0 : ∀ i (hi : i < l.length), pB g wa l[i] = false) (hk : k < l.length) (h : ∀ i (hi : i < l.length), i < k → decide (wa ≤ (l[i].l : Int)) = false) (h1 : decide (wa ≤ (l[k].l : Int)) = true) : rrunR l g wa = ((l[k].a : Int), wa) := by
  unfold rrunR; rw [if_neg hw, find_none' h0, find_at (q := fun x => decide (wa ≤ (x.l : Int))) hk h h1]
theorem rrunR_long {l : List Pie} {g : Nat} {wa : Int} (hw : ¬ wa < 1) (h0 : ∀ i (hi : i < l.length), pB g wa l[i] = false) (h : ∀ i (hi : i < l.length), decide (wa ≤ (l[i].l : Int)) = false) : rrunR l g wa = (((lonR l).1 : Int), ((lonR l).2 : Int)) := by
  unfold rrunR; rw [if_neg hw, find_none' h0, find_none' (q := fun x => decide (wa ≤ (x.l : Int))) h]
theorem lonR_take (l : List Pie) (k : Nat) (h : k < l.length) : lonR (l.take (k + 1)) = lonF (lonR (l.take k)) l[k] := by
  rw [List.take_succ_eq_append_getElem h, lonR_snoc]
theorem lonR_rng (l : List Pie) : (lonR l).1 ≤ 2048 ∧ (lonR l).2 ≤ 2048 := by
  have : ∀ (m : List Pie) (b : Nat × Nat), b.1 ≤ 2048 ∧ b.2 ≤ 2048 → (m.foldl lonF b).1 ≤ 2048 ∧ (m.foldl lonF b).2 ≤ 2048 := by
    intro m
    induction m with
    | nil => intro b h; exact h
    | cons x r ih =>
      intro b h
      refine ih _ ?_
      have := x.h
      unfold lonF
      split
      · exact ⟨by show x.a ≤ 2048; omega, by show x.l ≤ 2048; omega⟩
      · exact h
  exact this l (0, 0) (by decide)
set_option linter.unusedSimpArgs false in
set_option maxRecDepth 100000 in
set_option maxHeartbeats 4000000 in
/-- From the row of runs on. -/
theorem rrun_any (p : Option Addr) (m c : Nat) (xs : List Nat) (n goal wa : Int) (w : World) (h : In w p m c xs) :
    Calls Try.prog 25 #[.slice p m c, .int .i64 n, .int .i64 goal, .int .i64 wa] w fun e w' => e = .returned (.tuple #[.int .i64 (rrunR (runsL (bitL xs) (nOf xs n)) (goalN (nOf xs n) goal) wa).1, .int .i64 (rrunR (runsL (bitL xs) (nOf xs n)) (goalN (nOf xs n) goal) wa).2]) ∧ Below w.heap.size w w' := by
  have hb := may_any p m c xs n w h
  have hle := nOf_le xs n
  generalize nOf xs n = N at *
  by_cases hwa : wa < 1
  · rw [rrunR_small hwa]
    go_enter Try.func25, Try.ntmps25
    go_wp2_with (go_at_call 36; refine hb.mono ?_; rintro e w1 ⟨p', m', c', zs, rfl, hM, hb1⟩)
    go_ret2
    exact ⟨rfl, hb1⟩
  · have hgl := goalN_le (goal := goal) hle
    have HGN : Hid (goalN N goal = if 0 ≤ goal ∧ goal < (N : Int) then goal.toNat else 0) := rfl
    obtain ⟨R, hR⟩ : ∃ R, rrunR (runsL (bitL xs) N) (goalN N goal) wa = R := ⟨_, rfl⟩
    rw [hR]
    have HR : Hid (rrunR (runsL (bitL xs) N) (goalN N goal) wa = R) := hR
    clear hR
    generalize goalN N goal = G at *
    obtain ⟨L, hL⟩ : ∃ L, runsL (bitL xs) N = L := ⟨_, rfl⟩
    have hln := runsL_len (bitL xs) N
    rw [hL] at HR hln
    have HL : Hid (runsL (bitL xs) N = L) := hL
    have hLi : (L.length : Int) ≤ 2049 := by omega
    have HLL : Hid (L.length ≤ 2049) := by show _ ≤ _; omega
    have hGi : (G : Int) ≤ 2048 := by omega
    clear hL hln hgl hle
    go_enter Try.func25, Try.ntmps25
    go_wp2_with fail
    refine hb.mono ?_
    rintro e w1 ⟨p', m', c', zs, rfl, hM, hb1⟩
    have hru := rruns_any p' m' c' zs (N : Int) w1 hM.inn
    rw [hM.n, hM.runs, HL.out] at hru
    clear hb
    by_cases h0 : goal < 0
    · have HG0 : Hid (G = 0) := by show _ = _; rw [HGN.out]; exact if_neg (by omega)
      clear HGN
      go_wp2_with (go_at_call 23; refine hru.mono ?_; rintro e w2 ⟨v, rfl, ho, hb2⟩; obtain ⟨pv, cv, rfl⟩ := owns_slice ho)
      have hq0 := Blk.new' w2 41 #[.int .i64 0, .int .i64 0]
      have hb3 := below_alloc w2 (.cells #[.int .i64 0, .int .i64 0] 41)
      generalize w2.alloc (.cells #[.int .i64 0, .int .i64 0] 41) = w3 at *
      obtain ⟨Bq, hBq⟩ : ∃ Bq, Bq = w2.heap.size := ⟨_, rfl⟩
      rw [← hBq] at hq0 ⊢
      have hBq2 : w2.heap.size ≤ Bq := by omega
      have hB13 : Below w.heap.size w w2 := bt hb1 hb2
      clear hBq hru
      go_loopw [12] (fun i wr => ∃ k : Nat, k ≤ L.length ∧ i = .int .i64 k ∧ (∃ j, wr = w3.drewN j) ∧ Hid (∀ i (hi : i < L.length), i < k → pB G wa L[i] = false)) (fun i _ => L.length - (intOf i).toNat)
      case atStart => exact ⟨0, Nat.zero_le _, rfl, ⟨0, rfl⟩, fun i _ hi => absurd hi (Nat.not_lt_zero _)⟩
      case round =>
        obtain ⟨k, hk, rfl, ⟨j, rfl⟩, HA⟩ := hrel
        by_cases hlt : k < L.length
        · obtain ⟨g, cap, he, hgB, hat⟩ := row_at ho (by omega)
          have hgl : g < w2.heap.size := by cases he; exact block_lt_of_cell (hat k hlt).1
          cases he
          obtain ⟨c1, c2⟩ := hat k hlt
          replace c1 := (hb3.cell (p := ⟨g, k * 2, none⟩) hgl).trans c1
          replace c2 := (hb3.cell (p := ⟨g, k * 2 + 1, none⟩) hgl).trans c2
          obtain ⟨K, HK0, hk1, hk2, hmax⟩ := maxRun L[k].a G
          have hmx : ∀ (ts : Array TypeId) (t : TypeId) (W : World), (Builtin.max_ ts t #[.int .i64 (L[k].a : Int), .int .i64 0]).run Try.prog W = .ok (.int .i64 (K : Int)) W := (by have := hmax; rw [HG0.out] at this; exact this)
          have HX : Hid (pB G wa L[k] = decide (wa ≤ (L[k].a : Int) + (L[k].l : Int) - (K : Int))) := by show _ = _; unfold pB; rw [← HK0]
          have HK : Hid (K = max L[k].a G) := HK0
          have hxh := L[k].h
          have hb4 : (L[k].a : Int) + (L[k].l : Int) ≤ 2048 := by omega
          have hb5 : (K : Int) ≤ 4096 := by omega
          obtain ⟨xa, hxa⟩ : ∃ xa, xa = L[k].a := ⟨_, rfl⟩
          obtain ⟨xl, hxl⟩ : ∃ xl, xl = L[k].l := ⟨_, rfl⟩
          rw [← hxa] at c1 hb4 hmx
          rw [← hxl] at c2 hb4
          have HXa : Hid (xa = L[k].a ∧ xl = L[k].l) := ⟨hxa, hxl⟩
          clear hat HK0 hmax hxh hk1 hk2 hxa hxl hgl
          by_cases hge : wa ≤ (xa : Int) + (xl : Int) - (K : Int)
          · go_wp2
            go_quiet (fail)
            go_wp2
            go_ret2
            have : R = ((K : Int), wa) := by
              rw [← HR.out, HK.out]
              refine rrunR_behind (by omega) hlt HA.out ?_
              rw [HX.out, ← HXa.out.1, ← HXa.out.2]; simpa using hge
            rw [this]
            exact ⟨rfl, below_drewN (below_drewN (hB13.trans (hb3.mono hB13.size)) _) _⟩
          · go_wp2
            go_quiet (fail)
            go_wp2
            go_roundw
            case rel =>
              refine ⟨k + 1, by omega, by go_num, ⟨_, rfl⟩, fun i hi h' => ?_⟩
              rcases Nat.lt_succ_iff_lt_or_eq.1 h' with h5 | h5
              · exact HA.out i hi h5
              · subst h5; rw [HX.out, ← HXa.out.1, ← HXa.out.2]; simpa using hge
            case measure => simp [intOf]; omega
        · have HA2 : Hid (∀ i (hi : i < L.length), pB G wa L[i] = false) := fun i hi => HA.out i hi (by omega)
          have hq1 := hq0.drewN j
          have hb6 : Below w2.heap.size w2 (w3.drewN j) := below_drewN hb3 _
          clear HA hq0 hb3
          go_wp2
          go_loopw [14] (fun i wr => ∃ k : Nat, k ≤ L.length ∧ i = .int .i64 k ∧ Blk wr Bq 41 [.int .i64 ((lonR (L.take k)).1 : Nat), .int .i64 ((lonR (L.take k)).2 : Nat)] ∧ Below w2.heap.size w2 wr ∧ Hid (∀ i (hi : i < L.length), i < k → decide (wa ≤ (L[i].l : Int)) = false)) (fun i _ => L.length - (intOf i).toNat)
          case atStart => exact ⟨0, Nat.zero_le _, rfl, hq1, hb6, fun i _ hi => absurd hi (Nat.not_lt_zero _)⟩
          case round =>
            obtain ⟨k2, hk, rfl, hq, hbw, HA⟩ := hrel
            clear hq1 hb6
            have hlr := lonR_rng (L.take k2)
            obtain ⟨⟨b1, b2⟩, hbb⟩ : ∃ r, lonR (L.take k2) = r := ⟨_, rfl⟩
            rw [hbb] at hq hlr
            have HBB : Hid (lonR (L.take k2) = (b1, b2)) := hbb
            have d0 := hq.cell' (i := 0) rfl
            have d1 := hq.cell' (i := 1) rfl
            have e0 := hq.frozen 0
            have e1 := hq.frozen 1
            dsimp only at d0 d1
            clear hbb hlr
            by_cases hlt : k2 < L.length
            · obtain ⟨g, cap, he, hgB, hat⟩ := row_at ho (by omega)
              have hgl : g < w2.heap.size := by cases he; exact block_lt_of_cell (hat k2 hlt).1
              cases he
              obtain ⟨c1, c2⟩ := hat k2 hlt
              replace c1 := (hbw.cell (p := ⟨g, k2 * 2, none⟩) hgl).trans c1
              replace c2 := (hbw.cell (p := ⟨g, k2 * 2 + 1, none⟩) hgl).trans c2
              have HLO : Hid (lonR (L.take (k2 + 1)) = lonF (b1, b2) L[k2]) := by show _ = _; rw [← HBB.out]; exact lonR_take L k2 hlt
              obtain ⟨xa, hxa⟩ : ∃ xa, xa = L[k2].a := ⟨_, rfl⟩
              obtain ⟨xl, hxl⟩ : ∃ xl, xl = L[k2].l := ⟨_, rfl⟩
              rw [← hxa] at c1
              rw [← hxl] at c2
              have HXa : Hid (xa = L[k2].a ∧ xl = L[k2].l) := ⟨hxa, hxl⟩
              clear hat hxa hxl
              by_cases hge : wa ≤ (xl : Int)
              · go_wp2
                go_ret2
                have : R = ((xa : Int), wa) := by
                  rw [← HR.out, HXa.out.1]
                  refine rrunR_any (by omega) HA2.out hlt HA.out ?_
                  rw [← HXa.out.2]; simpa using hge
                rw [this]
                exact ⟨rfl, hB13.trans (hbw.mono hB13.size)⟩
              · have HN : Hid (∀ i (hi : i < L.length), i < k2 + 1 → decide (wa ≤ (L[i].l : Int)) = false) := fun i hi h' => by
                  rcases Nat.lt_succ_iff_lt_or_eq.1 h' with h5 | h5
                  · exact HA.out i hi h5
                  · subst h5; rw [← HXa.out.2]; simpa using hge
                by_cases hgr : (xl : Int) > (b2 : Int)
                · have hne : g ≠ Bq := by omega
                  go_wp2
                  go_quiet (fail)
                  go_wp2
                  go_roundw
                  case rel =>
                    refine ⟨k2 + 1, by omega, by go_num, ?_, ?_, HN⟩
                    · rw [HLO.out, show lonF (b1, b2) L[k2] = (L[k2].a, L[k2].l) from if_pos (by show b2 < L[k2].l; have := HXa.out.2; omega), ← HXa.out.1, ← HXa.out.2]
                      exact ((hq.drewN _).set 0 _).set 1 _
                    · exact ((below_drewN hbw _).setCell (p := ⟨Bq, 0, none⟩) hBq2 _).setCell (p := ⟨Bq, 1, none⟩) hBq2 _
                  case measure => simp [intOf]; omega
                · go_wp2
                  go_quiet (fail)
                  go_wp2
                  go_roundw
                  case rel =>
                    refine ⟨k2 + 1, by omega, by go_num, ?_, below_drewN hbw _, HN⟩
                    rw [HLO.out, show lonF (b1, b2) L[k2] = (b1, b2) from if_neg (by show ¬ b2 < L[k2].l; have := HXa.out.2; omega)]
                    exact hq.drewN _
                  case measure => simp [intOf]; omega
            · obtain rfl : k2 = L.length := by omega
              rw [List.take_length] at HBB
              go_wp2
              go_quiet (fail)
              go_wp2
              go_ret2
              have : R = ((b1 : Int), (b2 : Int)) := by
                rw [← HR.out, rrunR_long (by omega) HA2.out fun i hi => HA.out i hi hi, HBB.out]
              rw [this]
              exact ⟨rfl, below_drewN (hB13.trans (hbw.mono hB13.size)) _⟩
    · by_cases h1 : (N : Int) ≤ goal
      · have HG0 : Hid (G = 0) := by show _ = _; rw [HGN.out]; exact if_neg (by omega)
        clear HGN
        go_wp2_with (go_at_call 23; refine hru.mono ?_; rintro e w2 ⟨v, rfl, ho, hb2⟩; obtain ⟨pv, cv, rfl⟩ := owns_slice ho)
        have hq0 := Blk.new' w2 41 #[.int .i64 0, .int .i64 0]
        have hb3 := below_alloc w2 (.cells #[.int .i64 0, .int .i64 0] 41)
        generalize w2.alloc (.cells #[.int .i64 0, .int .i64 0] 41) = w3 at *
        obtain ⟨Bq, hBq⟩ : ∃ Bq, Bq = w2.heap.size := ⟨_, rfl⟩
        rw [← hBq] at hq0 ⊢
        have hBq2 : w2.heap.size ≤ Bq := by omega
        have hB13 : Below w.heap.size w w2 := bt hb1 hb2
        clear hBq hru
        go_loopw [12] (fun i wr => ∃ k : Nat, k ≤ L.length ∧ i = .int .i64 k ∧ (∃ j, wr = w3.drewN j) ∧ Hid (∀ i (hi : i < L.length), i < k → pB G wa L[i] = false)) (fun i _ => L.length - (intOf i).toNat)
        case atStart => exact ⟨0, Nat.zero_le _, rfl, ⟨0, rfl⟩, fun i _ hi => absurd hi (Nat.not_lt_zero _)⟩
        case round =>
          obtain ⟨k, hk, rfl, ⟨j, rfl⟩, HA⟩ := hrel
          by_cases hlt : k < L.length
          · obtain ⟨g, cap, he, hgB, hat⟩ := row_at ho (by omega)
            have hgl : g < w2.heap.size := by cases he; exact block_lt_of_cell (hat k hlt).1
            cases he
            obtain ⟨c1, c2⟩ := hat k hlt
            replace c1 := (hb3.cell (p := ⟨g, k * 2, none⟩) hgl).trans c1
            replace c2 := (hb3.cell (p := ⟨g, k * 2 + 1, none⟩) hgl).trans c2
            obtain ⟨K, HK0, hk1, hk2, hmax⟩ := maxRun L[k].a G
            have hmx : ∀ (ts : Array TypeId) (t : TypeId) (W : World), (Builtin.max_ ts t #[.int .i64 (L[k].a : Int), .int .i64 0]).run Try.prog W = .ok (.int .i64 (K : Int)) W := (by have := hmax; rw [HG0.out] at this; exact this)
            have HX : Hid (pB G wa L[k] = decide (wa ≤ (L[k].a : Int) + (L[k].l : Int) - (K : Int))) := by show _ = _; unfold pB; rw [← HK0]
            have HK : Hid (K = max L[k].a G) := HK0
            have hxh := L[k].h
            have hb4 : (L[k].a : Int) + (L[k].l : Int) ≤ 2048 := by omega
            have hb5 : (K : Int) ≤ 4096 := by omega
            obtain ⟨xa, hxa⟩ : ∃ xa, xa = L[k].a := ⟨_, rfl⟩
            obtain ⟨xl, hxl⟩ : ∃ xl, xl = L[k].l := ⟨_, rfl⟩
            rw [← hxa] at c1 hb4 hmx
            rw [← hxl] at c2 hb4
            have HXa : Hid (xa = L[k].a ∧ xl = L[k].l) := ⟨hxa, hxl⟩
            clear hat HK0 hmax hxh hk1 hk2 hxa hxl hgl
            by_cases hge : wa ≤ (xa : Int) + (xl : Int) - (K : Int)
            · go_wp2
              go_quiet (fail)
              go_wp2
              go_ret2
              have : R = ((K : Int), wa) := by
                rw [← HR.out, HK.out]
                refine rrunR_behind (by omega) hlt HA.out ?_
                rw [HX.out, ← HXa.out.1, ← HXa.out.2]; simpa using hge
              rw [this]
              exact ⟨rfl, below_drewN (below_drewN (hB13.trans (hb3.mono hB13.size)) _) _⟩
            · go_wp2
              go_quiet (fail)
              go_wp2
              go_roundw
              case rel =>
                refine ⟨k + 1, by omega, by go_num, ⟨_, rfl⟩, fun i hi h' => ?_⟩
                rcases Nat.lt_succ_iff_lt_or_eq.1 h' with h5 | h5
                · exact HA.out i hi h5
                · subst h5; rw [HX.out, ← HXa.out.1, ← HXa.out.2]; simpa using hge
              case measure => simp [intOf]; omega
          · have HA2 : Hid (∀ i (hi : i < L.length), pB G wa L[i] = false) := fun i hi => HA.out i hi (by omega)
            have hq1 := hq0.drewN j
            have hb6 : Below w2.heap.size w2 (w3.drewN j) := below_drewN hb3 _
            clear HA hq0 hb3
            go_wp2
            go_loopw [14] (fun i wr => ∃ k : Nat, k ≤ L.length ∧ i = .int .i64 k ∧ Blk wr Bq 41 [.int .i64 ((lonR (L.take k)).1 : Nat), .int .i64 ((lonR (L.take k)).2 : Nat)] ∧ Below w2.heap.size w2 wr ∧ Hid (∀ i (hi : i < L.length), i < k → decide (wa ≤ (L[i].l : Int)) = false)) (fun i _ => L.length - (intOf i).toNat)
            case atStart => exact ⟨0, Nat.zero_le _, rfl, hq1, hb6, fun i _ hi => absurd hi (Nat.not_lt_zero _)⟩
            case round =>
              obtain ⟨k2, hk, rfl, hq, hbw, HA⟩ := hrel
              clear hq1 hb6
              have hlr := lonR_rng (L.take k2)
              obtain ⟨⟨b1, b2⟩, hbb⟩ : ∃ r, lonR (L.take k2) = r := ⟨_, rfl⟩
              rw [hbb] at hq hlr
              have HBB : Hid (lonR (L.take k2) = (b1, b2)) := hbb
              have d0 := hq.cell' (i := 0) rfl
              have d1 := hq.cell' (i := 1) rfl
              have e0 := hq.frozen 0
              have e1 := hq.frozen 1
              dsimp only at d0 d1
              clear hbb hlr
              by_cases hlt : k2 < L.length
              · obtain ⟨g, cap, he, hgB, hat⟩ := row_at ho (by omega)
                have hgl : g < w2.heap.size := by cases he; exact block_lt_of_cell (hat k2 hlt).1
                cases he
                obtain ⟨c1, c2⟩ := hat k2 hlt
                replace c1 := (hbw.cell (p := ⟨g, k2 * 2, none⟩) hgl).trans c1
                replace c2 := (hbw.cell (p := ⟨g, k2 * 2 + 1, none⟩) hgl).trans c2
                have HLO : Hid (lonR (L.take (k2 + 1)) = lonF (b1, b2) L[k2]) := by show _ = _; rw [← HBB.out]; exact lonR_take L k2 hlt
                obtain ⟨xa, hxa⟩ : ∃ xa, xa = L[k2].a := ⟨_, rfl⟩
                obtain ⟨xl, hxl⟩ : ∃ xl, xl = L[k2].l := ⟨_, rfl⟩
                rw [← hxa] at c1
                rw [← hxl] at c2
                have HXa : Hid (xa = L[k2].a ∧ xl = L[k2].l) := ⟨hxa, hxl⟩
                clear hat hxa hxl
                by_cases hge : wa ≤ (xl : Int)
                · go_wp2
                  go_ret2
                  have : R = ((xa : Int), wa) := by
                    rw [← HR.out, HXa.out.1]
                    refine rrunR_any (by omega) HA2.out hlt HA.out ?_
                    rw [← HXa.out.2]; simpa using hge
                  rw [this]
                  exact ⟨rfl, hB13.trans (hbw.mono hB13.size)⟩
                · have HN : Hid (∀ i (hi : i < L.length), i < k2 + 1 → decide (wa ≤ (L[i].l : Int)) = false) := fun i hi h' => by
                    rcases Nat.lt_succ_iff_lt_or_eq.1 h' with h5 | h5
                    · exact HA.out i hi h5
                    · subst h5; rw [← HXa.out.2]; simpa using hge
                  by_cases hgr : (xl : Int) > (b2 : Int)
                  · have hne : g ≠ Bq := by omega
                    go_wp2
                    go_quiet (fail)
                    go_wp2
                    go_roundw
                    case rel =>
                      refine ⟨k2 + 1, by omega, by go_num, ?_, ?_, HN⟩
                      · rw [HLO.out, show lonF (b1, b2) L[k2] = (L[k2].a, L[k2].l) from if_pos (by show b2 < L[k2].l; have := HXa.out.2; omega), ← HXa.out.1, ← HXa.out.2]
                        exact ((hq.drewN _).set 0 _).set 1 _
                      · exact ((below_drewN hbw _).setCell (p := ⟨Bq, 0, none⟩) hBq2 _).setCell (p := ⟨Bq, 1, none⟩) hBq2 _
                    case measure => simp [intOf]; omega
                  · go_wp2
                    go_quiet (fail)
                    go_wp2
                    go_roundw
                    case rel =>
                      refine ⟨k2 + 1, by omega, by go_num, ?_, below_drewN hbw _, HN⟩
                      rw [HLO.out, show lonF (b1, b2) L[k2] = (b1, b2) from if_neg (by show ¬ b2 < L[k2].l; have := HXa.out.2; omega)]
                      exact hq.drewN _
                    case measure => simp [intOf]; omega
              · obtain rfl : k2 = L.length := by omega
                rw [List.take_length] at HBB
                go_wp2
                go_quiet (fail)
                go_wp2
                go_ret2
                have : R = ((b1 : Int), (b2 : Int)) := by
                  rw [← HR.out, rrunR_long (by omega) HA2.out fun i hi => HA.out i hi hi, HBB.out]
                rw [this]
                exact ⟨rfl, below_drewN (hB13.trans (hbw.mono hB13.size)) _⟩
      · obtain rfl : goal = (G : Int) := by rw [HGN.out, if_pos (by omega)]; omega
        clear HGN
        go_wp2_with (go_at_call 23; refine hru.mono ?_; rintro e w2 ⟨v, rfl, ho, hb2⟩; obtain ⟨pv, cv, rfl⟩ := owns_slice ho)
        have hq0 := Blk.new' w2 41 #[.int .i64 0, .int .i64 0]
        have hb3 := below_alloc w2 (.cells #[.int .i64 0, .int .i64 0] 41)
        generalize w2.alloc (.cells #[.int .i64 0, .int .i64 0] 41) = w3 at *
        obtain ⟨Bq, hBq⟩ : ∃ Bq, Bq = w2.heap.size := ⟨_, rfl⟩
        rw [← hBq] at hq0 ⊢
        have hBq2 : w2.heap.size ≤ Bq := by omega
        have hB13 : Below w.heap.size w w2 := bt hb1 hb2
        clear hBq hru
        go_loopw [12] (fun i wr => ∃ k : Nat, k ≤ L.length ∧ i = .int .i64 k ∧ (∃ j, wr = w3.drewN j) ∧ Hid (∀ i (hi : i < L.length), i < k → pB G wa L[i] = false)) (fun i _ => L.length - (intOf i).toNat)
        case atStart => exact ⟨0, Nat.zero_le _, rfl, ⟨0, rfl⟩, fun i _ hi => absurd hi (Nat.not_lt_zero _)⟩
        case round =>
          obtain ⟨k, hk, rfl, ⟨j, rfl⟩, HA⟩ := hrel
          by_cases hlt : k < L.length
          · obtain ⟨g, cap, he, hgB, hat⟩ := row_at ho (by omega)
            have hgl : g < w2.heap.size := by cases he; exact block_lt_of_cell (hat k hlt).1
            cases he
            obtain ⟨c1, c2⟩ := hat k hlt
            replace c1 := (hb3.cell (p := ⟨g, k * 2, none⟩) hgl).trans c1
            replace c2 := (hb3.cell (p := ⟨g, k * 2 + 1, none⟩) hgl).trans c2
            obtain ⟨K, HK0, hk1, hk2, hmax⟩ := maxRun L[k].a G
            have hmx : ∀ (ts : Array TypeId) (t : TypeId) (W : World), (Builtin.max_ ts t #[.int .i64 (L[k].a : Int), .int .i64 (G : Int)]).run Try.prog W = .ok (.int .i64 (K : Int)) W := hmax
            have HX : Hid (pB G wa L[k] = decide (wa ≤ (L[k].a : Int) + (L[k].l : Int) - (K : Int))) := by show _ = _; unfold pB; rw [← HK0]
            have HK : Hid (K = max L[k].a G) := HK0
            have hxh := L[k].h
            have hb4 : (L[k].a : Int) + (L[k].l : Int) ≤ 2048 := by omega
            have hb5 : (K : Int) ≤ 4096 := by omega
            obtain ⟨xa, hxa⟩ : ∃ xa, xa = L[k].a := ⟨_, rfl⟩
            obtain ⟨xl, hxl⟩ : ∃ xl, xl = L[k].l := ⟨_, rfl⟩
            rw [← hxa] at c1 hb4 hmx
            rw [← hxl] at c2 hb4
            have HXa : Hid (xa = L[k].a ∧ xl = L[k].l) := ⟨hxa, hxl⟩
            clear hat HK0 hmax hxh hk1 hk2 hxa hxl hgl
            by_cases hge : wa ≤ (xa : Int) + (xl : Int) - (K : Int)
            · go_wp2
              go_quiet (fail)
              go_wp2
              go_ret2
              have : R = ((K : Int), wa) := by
                rw [← HR.out, HK.out]
                refine rrunR_behind (by omega) hlt HA.out ?_
                rw [HX.out, ← HXa.out.1, ← HXa.out.2]; simpa using hge
              rw [this]
              exact ⟨rfl, below_drewN (below_drewN (hB13.trans (hb3.mono hB13.size)) _) _⟩
            · go_wp2
              go_quiet (fail)
              go_wp2
              go_roundw
              case rel =>
                refine ⟨k + 1, by omega, by go_num, ⟨_, rfl⟩, fun i hi h' => ?_⟩
                rcases Nat.lt_succ_iff_lt_or_eq.1 h' with h5 | h5
                · exact HA.out i hi h5
                · subst h5; rw [HX.out, ← HXa.out.1, ← HXa.out.2]; simpa using hge
              case measure => simp [intOf]; omega
          · have HA2 : Hid (∀ i (hi : i < L.length), pB G wa L[i] = false) := fun i hi => HA.out i hi (by omega)
            have hq1 := hq0.drewN j
            have hb6 : Below w2.heap.size w2 (w3.drewN j) := below_drewN hb3 _
            clear HA hq0 hb3
            go_wp2
            go_loopw [14] (fun i wr => ∃ k : Nat, k ≤ L.length ∧ i = .int .i64 k ∧ Blk wr Bq 41 [.int .i64 ((lonR (L.take k)).1 : Nat), .int .i64 ((lonR (L.take k)).2 : Nat)] ∧ Below w2.heap.size w2 wr ∧ Hid (∀ i (hi : i < L.length), i < k → decide (wa ≤ (L[i].l : Int)) = false)) (fun i _ => L.length - (intOf i).toNat)
            case atStart => exact ⟨0, Nat.zero_le _, rfl, hq1, hb6, fun i _ hi => absurd hi (Nat.not_lt_zero _)⟩
            case round =>
              obtain ⟨k2, hk, rfl, hq, hbw, HA⟩ := hrel
              clear hq1 hb6
              have hlr := lonR_rng (L.take k2)
              obtain ⟨⟨b1, b2⟩, hbb⟩ : ∃ r, lonR (L.take k2) = r := ⟨_, rfl⟩
              rw [hbb] at hq hlr
              have HBB : Hid (lonR (L.take k2) = (b1, b2)) := hbb
              have d0 := hq.cell' (i := 0) rfl
              have d1 := hq.cell' (i := 1) rfl
              have e0 := hq.frozen 0
              have e1 := hq.frozen 1
              dsimp only at d0 d1
              clear hbb hlr
              by_cases hlt : k2 < L.length
              · obtain ⟨g, cap, he, hgB, hat⟩ := row_at ho (by omega)
                have hgl : g < w2.heap.size := by cases he; exact block_lt_of_cell (hat k2 hlt).1
                cases he
                obtain ⟨c1, c2⟩ := hat k2 hlt
                replace c1 := (hbw.cell (p := ⟨g, k2 * 2, none⟩) hgl).trans c1
                replace c2 := (hbw.cell (p := ⟨g, k2 * 2 + 1, none⟩) hgl).trans c2
                have HLO : Hid (lonR (L.take (k2 + 1)) = lonF (b1, b2) L[k2]) := by show _ = _; rw [← HBB.out]; exact lonR_take L k2 hlt
                obtain ⟨xa, hxa⟩ : ∃ xa, xa = L[k2].a := ⟨_, rfl⟩
                obtain ⟨xl, hxl⟩ : ∃ xl, xl = L[k2].l := ⟨_, rfl⟩
                rw [← hxa] at c1
                rw [← hxl] at c2
                have HXa : Hid (xa = L[k2].a ∧ xl = L[k2].l) := ⟨hxa, hxl⟩
                clear hat hxa hxl
                by_cases hge : wa ≤ (xl : Int)
                · go_wp2
                  go_ret2
                  have : R = ((xa : Int), wa) := by
                    rw [← HR.out, HXa.out.1]
                    refine rrunR_any (by omega) HA2.out hlt HA.out ?_
                    rw [← HXa.out.2]; simpa using hge
                  rw [this]
                  exact ⟨rfl, hB13.trans (hbw.mono hB13.size)⟩
                · have HN : Hid (∀ i (hi : i < L.length), i < k2 + 1 → decide (wa ≤ (L[i].l : Int)) = false) := fun i hi h' => by
                    rcases Nat.lt_succ_iff_lt_or_eq.1 h' with h5 | h5
                    · exact HA.out i hi h5
                    · subst h5; rw [← HXa.out.2]; simpa using hge
                  by_cases hgr : (xl : Int) > (b2 : Int)
                  · have hne : g ≠ Bq := by omega
                    go_wp2
                    go_quiet (fail)
                    go_wp2
                    go_roundw
                    case rel =>
                      refine ⟨k2 + 1, by omega, by go_num, ?_, ?_, HN⟩
                      · rw [HLO.out, show lonF (b1, b2) L[k2] = (L[k2].a, L[k2].l) from if_pos (by show b2 < L[k2].l; have := HXa.out.2; omega), ← HXa.out.1, ← HXa.out.2]
                        exact ((hq.drewN _).set 0 _).set 1 _
                      · exact ((below_drewN hbw _).setCell (p := ⟨Bq, 0, none⟩) hBq2 _).setCell (p := ⟨Bq, 1, none⟩) hBq2 _
                    case measure => simp [intOf]; omega
                  · go_wp2
                    go_quiet (fail)
                    go_wp2
                    go_roundw
                    case rel =>
                      refine ⟨k2 + 1, by omega, by go_num, ?_, below_drewN hbw _, HN⟩
                      rw [HLO.out, show lonF (b1, b2) L[k2] = (b1, b2) from if_neg (by show ¬ b2 < L[k2].l; have := HXa.out.2; omega)]
                      exact hq.drewN _
                    case measure => simp [intOf]; omega
              · obtain rfl : k2 = L.length := by omega
                rw [List.take_length] at HBB
                go_wp2
                go_quiet (fail)
                go_wp2
                go_ret2
                have : R = ((b1 : Int), (b2 : Int)) := by
                  rw [← HR.out, rrunR_long (by omega) HA2.out fun i hi => HA.out i hi hi, HBB.out]
                rw [this]
                exact ⟨rfl, below_drewN (hB13.trans (hbw.mono hB13.size)) _⟩
end Go.Proofs.Ythpbeppfiinooaa
