/-
  What the reference's Runs answers.
-/
import Derived.Test.YthpbeppfiinooaaBmPc
namespace Go.Proofs.Ythpbeppfiinooaa
open Go.RowKit
theorem below_appP {B : Nat} {w0 wr w1 : World} {o : Obj} {v : Value} {n : Nat} {e : TypeId} {z : Nat} {xs : List Value} (hbel : Below B w0 wr) (hB : B ≤ w0.heap.size) (hown : wr.ownsRow B e z v n xs) (hg : (wr.alloc o).grownBy w1 v.ownBlock) : Below B w0 w1 := by
  have hs := hbel.size
  refine (hbel.alloc (by omega) o).grown hg (by simp; omega) fun k hk => ?_
  rcases hown.2 with ⟨rfl, _⟩ | ⟨g, cap, cur, rfl, hg, _⟩
  · simp [Value.ownBlock] at hk
  · simp only [Value.ownBlock, Option.some.injEq] at hk
    omega
/-- What may answers has as many bits as it is taken to have, and the same runs. -/
theorem MayIn.runs {w' : World} {xs zs : List Nat} {N : Nat} {p : Option Addr} {m c : Nat} (h : MayIn w' xs N p m c zs) : runsL (bitL zs) N = runsL (bitL xs) N := by
  rcases Nat.eq_zero_or_pos N with h0 | h0
  · subst h0; rfl
  · rw [(h.len h0).2]
theorem owns_base {w : World} {B B' : Nat} {e : TypeId} {s : Nat} {v : Value} {n : Nat} {xs : List Value} (h : w.ownsRow B e s v n xs) (hb : B' ≤ B) : w.ownsRow B' e s v n xs := by
  refine ⟨h.1, ?_⟩
  rcases h.2 with h' | ⟨g, cap, cur, rfl, hg, hr⟩
  · exact .inl h'
  · exact .inr ⟨g, cap, cur, rfl, Nat.le_trans hb hg, hr⟩
/-- The last piece of a row, and its cells. -/
theorem last_cells {w : World} {B n : Nat} {v : Value} {l : List Pie} {x : Pie} (h : w.ownsRow B 41 2 v n (flatP (pcs (l ++ [x])))) : ∃ g cap, v = .slice (some ⟨g, 0, none⟩) (l.length + 1) cap ∧ B ≤ g ∧ w.cell? ⟨g, l.length * 2, none⟩ = some (.int .i64 (x.a : Int)) ∧ w.cell? ⟨g, l.length * 2 + 1, none⟩ = some (.int .i64 (x.l : Int)) ∧ w.frozen? ⟨g, l.length * 2 + 1, none⟩ = false := by
  have hn : n = l.length + 1 := by have := h.1; rw [flatP_length, pcs_length, List.length_append] at this; simp at this; omega
  subst hn
  obtain ⟨g, cap, hv⟩ : ∃ g cap, v = .slice (some ⟨g, 0, none⟩) (l.length + 1) cap := by
    rcases h.2 with ⟨_, h0⟩ | ⟨g, cap, cur, hv, _⟩
    · omega
    · exact ⟨g, cap, hv⟩
  subst hv
  have hat := flatP_at (l := pcs (l ++ [x])) (k := l.length) (by rw [pcs_length, List.length_append]; simp)
  rw [pcs_at (by rw [List.length_append]; simp)] at hat
  simp only [List.getElem_append_right (Nat.le_refl _), Nat.sub_self, List.getElem_cons_zero] at hat
  exact ⟨g, cap, rfl, owns_newP h _ rfl, (h.cellAt _ (by omega)).trans hat.1, (h.cellAt _ (by omega)).trans hat.2, h.frozenAt _⟩
theorem snoc_mk (l : List Pie) {k : Nat} (h : k + 1 ≤ 2048) : flatP (pcs l) ++ [.int .i64 (k : Int), .int .i64 1] = flatP (pcs (l ++ [mkP k 1])) := by
  rw [pcs_snoc l (mkP k 1), ← flatP_snoc, toPc_mk h]; rfl
theorem last_set {l : List Pie} {x y : Pie} (ha : x.a = y.a) : (flatP (pcs (l ++ [x]))).set (l.length * 2 + 1) (.int .i64 (y.l : Int)) = flatP (pcs (l ++ [y])) := by
  have e : ∀ z : Pie, flatP (pcs (l ++ [z])) = flatP (pcs l) ++ [.int .i64 (z.a : Int), .int .i64 (z.l : Int)] := fun z => by rw [pcs_snoc, ← flatP_snoc]; rfl
  rw [e, e, List.set_append_right _ _ (by rw [flatP_length, pcs_length]; omega), flatP_length, pcs_length, show l.length * 2 + 1 - l.length * 2 = 1 by omega, ha]
  rfl
set_option linter.unusedSimpArgs false in
set_option maxRecDepth 100000 in
set_option maxHeartbeats 4000000 in
theorem rruns_any (p : Option Addr) (m c : Nat) (xs : List Nat) (n : Int) (w : World) (h : In w p m c xs) :
    Calls Try.prog 23 #[.slice p m c, .int .i64 n] w fun e w' => ∃ v, e = .returned v ∧ w'.ownsRow w.heap.size 41 2 v (runsL (bitL xs) (nOf xs n)).length (flatP (pcs (runsL (bitL xs) (nOf xs n)))) ∧ Below w.heap.size w w' := by
  have hb := may_any p m c xs n w h
  have hle := nOf_le xs n
  generalize nOf xs n = N at *
  obtain ⟨i0, hi, hz0, hz1, hz2⟩ := info_parts infoP
  go_enter Try.func23, Try.ntmps23
  go_wp2_with fail
  refine hb.mono ?_
  rintro e w1 ⟨p', m', c', zs, rfl, hM, hb1⟩
  have HR : Hid (runsL (bitL zs) N = runsL (bitL xs) N) := hM.runs
  have HN : Hid (N ≤ 2048) := hle
  have hNi : (N : Int) ≤ 2048 := by omega
  clear hb hle
  go_wp2
  go_loopw [5, 6] (fun v i wr => ∃ k : Nat, k ≤ N ∧ i = .int .i64 k ∧ wr.ownsRow w1.heap.size 41 2 v (runsL (bitL zs) k).length (flatP (pcs (runsL (bitL zs) k))) ∧ Below w1.heap.size w1 wr) (fun _ i _ => N - (intOf i).toNat)
  case atStart => exact ⟨0, Nat.zero_le _, rfl, World.ownsRow_nil _ _ _ _, Below.refl _ _⟩
  case round =>
    obtain ⟨k, hk, rfl, ho, hbw⟩ := hrel
    by_cases hlt : k < N
    · obtain ⟨rfl, -⟩ := hM.len (by omega)
      have hs := bit_any p' 256 c' zs k wr (hM.inn.below hbw) (by have := HN.out; omega)
      cases hbt : bitL zs k with
      | true =>
        rw [hbt] at hs
        have HNX : Hid (runsL (bitL zs) (k + 1) = runsL (bitL zs) k) := runsL_set hbt
        have HO : Hid (wr.ownsRow w1.heap.size 41 2 u5 (runsL (bitL zs) k).length (flatP (pcs (runsL (bitL zs) k)))) := ho
        clear hbt ho
        go_wp2_with (go_at_call 34; refine hs.mono ?_; rintro e w3 ⟨rfl, hw'⟩; have hw2 := hw'.symm; subst hw2; clear hw')
        go_roundw
        case rel => exact ⟨k + 1, by omega, by go_num, by rw [HNX.out]; exact HO.out, hbw⟩
        case measure => simp [intOf]; omega
      | false =>
        rw [hbt] at hs
        have hlast := runsL_last (f := bitL zs) (k := k) (by have := HN.out; omega) hbt
        clear hbt
        have hln := runsL_len (bitL zs) k
        rcases hlast with ⟨l, hl1, hl2, hl3, hl4, hl5⟩ | ⟨l, mm, hm0, hm1, hl3, hl4⟩
        · rw [hl3] at ho hln
          have HLL : Hid (l.length ≤ 2049) := by show _ ≤ _; have := HN.out; omega
          clear hl1 hl2 hl3 hln
          rcases List.eq_nil_or_concat l with rfl | ⟨l', y, rfl⟩
          · have HNX : Hid (runsL (bitL zs) (k + 1) = [] ++ [mkP k 1]) := hl4
            obtain ⟨pv, cv, rfl⟩ := owns_slice ho
            have HO : Hid (wr.ownsRow w1.heap.size 41 2 (.slice pv 0 cv) 0 (flatP (pcs []))) := ho
            clear ho hl4 hl5
            go_wp2_with (go_at_call 34; refine hs.mono ?_; rintro e w3 ⟨rfl, hw'⟩; have hw2 := hw'.symm; subst hw2; clear hw')
            go_quiet (fail)
            go_wp2_with (at_builtin; refine wpList_append_own _ rfl (.tmp 53) (.tmp 56) 34 rfl w1.heap.size 41 i0 (.agg #[.int .i64 0, .int .i64 0]) 2 16 Try.underlying34 hi hz0 hz1 hz2 rfl (by decide) _ 0 _ rfl ((owns_drewN HO.out _).alloc _) ⟨_, 0, none⟩ 1 1 [.int .i64 (k : Int), .int .i64 1] rfl rfl (new_two _ _ _) (by simp [Value.oneCell']) (by unfold maxLen; have := HLL.out; omega) (by have := HLL.out; omega) (by have := hbw.size; simp; omega) ?_; intro v1 w2 hown2 hgrow2 _)
            have hb3 := below_appP (below_drewN hbw _) (Nat.le_refl _) (owns_drewN HO.out _) hgrow2
            have e1 : flatP (pcs ([])) ++ [.int .i64 (k : Int), .int .i64 1] = flatP (pcs ([] ++ [mkP k 1])) := snoc_mk _ (by have := HN.out; omega)
            rw [e1] at hown2
            go_roundw
            case rel => exact ⟨k + 1, by omega, by go_num, by rw [HNX.out, List.length_append]; exact hown2, hb3⟩
            case measure => simp [intOf]; omega
          · simp only [List.concat_eq_append] at ho hl4 hl5 HLL
            have HNX : Hid (runsL (bitL zs) (k + 1) = l' ++ [y] ++ [mkP k 1]) := hl4
            have hye := hl5 y (List.mem_append.2 (.inr (List.mem_singleton.2 rfl)))
            rw [List.length_append, show [y].length = 1 from rfl] at ho HLL
            obtain ⟨g, cap, rfl, hgB, c1, c2, f2⟩ := last_cells ho
            have HO : Hid (wr.ownsRow w1.heap.size 41 2 (.slice (some ⟨g, 0, none⟩) (l'.length + 1) cap) (l'.length + 1) (flatP (pcs (l' ++ [y])))) := ho
            obtain ⟨q, hq⟩ : ∃ q, q = l'.length := ⟨_, rfl⟩
            rw [← hq] at HO HLL c1 c2 f2 ⊢
            obtain ⟨T, hT⟩ : ∃ T, T = q + 1 := ⟨_, rfl⟩
            rw [← hT] at HO HLL ⊢
            have hT0 : 0 < T := by omega
            have hqT : q < T := by omega
            have hq1 : IntKind.i64.wrap ((T : Int) - 1) = (q : Int) := by rw [IntKind.wrap_i64]; have := HLL.out; omega
            have HT : Hid (T = q + 1) := hT
            clear hT
            have hsum : ((y.a : Int) + (y.l : Int) == (k : Int)) = false := by simp; omega
            have hyi : (y.a : Int) + (y.l : Int) ≤ 2048 := by have := HN.out; omega
            have HQ : Hid (q = l'.length) := hq
            clear ho hl4 hl5 hye hq f2
            go_wp2_with (go_at_call 34; refine hs.mono ?_; rintro e w3 ⟨rfl, hw'⟩; have hw2 := hw'.symm; subst hw2; clear hw')
            go_quiet (fail)
            go_wp2_with (at_builtin; refine wpList_append_own _ rfl (.tmp 53) (.tmp 56) 34 rfl w1.heap.size 41 i0 (.agg #[.int .i64 0, .int .i64 0]) 2 16 Try.underlying34 hi hz0 hz1 hz2 rfl (by decide) _ T _ rfl ((owns_drewN HO.out _).alloc _) ⟨_, 0, none⟩ 1 1 [.int .i64 (k : Int), .int .i64 1] rfl rfl (new_two _ _ _) (by simp [Value.oneCell']) (by unfold maxLen; have := HLL.out; omega) (by have := HLL.out; omega) (by have := hbw.size; simp; omega) ?_; intro v1 w2 hown2 hgrow2 _)
            have hb3 := below_appP (below_drewN hbw _) (Nat.le_refl _) (owns_drewN HO.out _) hgrow2
            have e1 : flatP (pcs (l' ++ [y])) ++ [.int .i64 (k : Int), .int .i64 1] = flatP (pcs (l' ++ [y] ++ [mkP k 1])) := snoc_mk _ (by have := HN.out; omega)
            rw [e1] at hown2
            go_roundw
            case rel => exact ⟨k + 1, by omega, by go_num, by rw [HNX.out, List.length_append, List.length_append, ← HQ.out]; show World.ownsRow _ _ _ _ _ (q + 1 + 1) _; rw [← HT.out]; exact hown2, hb3⟩
            case measure => simp [intOf]; omega
        · rw [hl3] at ho hln
          have hkm : k - mm + mm ≤ 2048 := by have := HN.out; omega
          have hkm1 : k - mm + (mm + 1) ≤ 2048 := by have := HN.out; omega
          have HNX : Hid (runsL (bitL zs) (k + 1) = l ++ [mkP (k - mm) (mm + 1)]) := hl4
          rw [List.length_append, show [mkP (k - mm) mm].length = 1 from rfl] at ho hln
          obtain ⟨g, cap, rfl, hgB, c1, c2, f2⟩ := last_cells ho
          rw [mkP_a hkm] at c1
          rw [mkP_l hkm] at c2
          have hst := ho.stored (l.length * 2 + 1) (.int .i64 ((mkP (k - mm) (mm + 1)).l : Int))
          rw [last_set (by rw [mkP_a hkm, mkP_a hkm1]), mkP_l hkm1] at hst
          have HST : Hid (World.ownsRow _ w1.heap.size 41 2 (.slice (some ⟨g, 0, none⟩) (l.length + 1) cap) (l.length + 1) (flatP (pcs (l ++ [mkP (k - mm) (mm + 1)])))) := hst.1
          obtain ⟨q, hq⟩ : ∃ q, q = l.length := ⟨_, rfl⟩
          rw [← hq] at hln c1 c2 f2 HST ⊢
          obtain ⟨T, hT⟩ : ∃ T, T = q + 1 := ⟨_, rfl⟩
          rw [← hT] at HST ⊢
          have hT0 : 0 < T := by omega
          have hqT : q < T := by omega
          have HT : Hid (T = q + 1) := hT
          obtain ⟨A, hA⟩ : ∃ A, A = k - mm := ⟨_, rfl⟩
          rw [← hA] at c1
          have hq1 : IntKind.i64.wrap ((T : Int) - 1) = (q : Int) := by rw [IntKind.wrap_i64]; have := HN.out; omega
          clear hT
          have hsum : ((A : Int) + (mm : Int) == (k : Int)) = true := by simp; omega
          have hyi : (A : Int) + (mm : Int) ≤ 2048 := by have := HN.out; omega
          have HQ : Hid (q = l.length) := hq
          have hc1 : IntKind.i64.wrap ((mm : Int) + 1) = ((mm + 1 : Nat) : Int) := by rw [IntKind.wrap_i64]; have := HN.out; omega
          clear ho hl3 hl4 hm0 hm1 hst hq hA hln hkm hkm1
          go_wp2_with (go_at_call 34; refine hs.mono ?_; rintro e w3 ⟨rfl, hw'⟩; have hw2 := hw'.symm; subst hw2; clear hw')
          go_quiet (fail)
          go_wp2
          go_roundw
          case rel => exact ⟨k + 1, by omega, by go_num, by rw [HNX.out, List.length_append, ← HQ.out]; show World.ownsRow _ _ _ _ _ (q + 1) _; rw [← HT.out]; exact owns_drewN HST.out _, below_drewN (hbw.setCell (p := ⟨g, q * 2 + 1, none⟩) hgB _) _⟩
          case measure => simp [intOf]; omega
    · obtain rfl : k = N := by omega
      go_wp2
      go_ret
      exact ⟨_, rfl, by rw [← HR.out]; exact owns_base ho hb1.size, hb1.trans (hbw.mono hb1.size)⟩
end Go.Proofs.Ythpbeppfiinooaa
