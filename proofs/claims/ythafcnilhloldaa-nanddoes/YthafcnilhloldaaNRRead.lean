/-
  The reference's Read.
-/
import Derived.Test.YthafcnilhloldaaNRProgP
import Derived.Test.YthafcnilhloldaaNDoes
namespace Go.Proofs.Ythafcnilhloldaa
open Go.RowKit Go.Shelf
theorem readX_isR {w : World} {c : Nat} {s : St} {bb cr : Nat} {PV : Nat → Value} (h : RsIn w c s bb cr PV) (b p : Int) : IsP (readX s b p) := by
  unfold readX
  split
  · rename_i h0
    obtain ⟨bk, pk, rfl, rfl, hbk, hpk, _⟩ := reach_ok h0
    obtain ⟨k, hk⟩ := h.get bk hbk
    unfold readP
    rw [show (bk : Int).toNat = bk from rfl, show (pk : Int).toNat = pk from rfl, hk]
    refine (h.pg bk k hk).each _ ?_
    exact List.mem_iff_getElem?.2 ⟨pk, by unfold allP; rw [List.getElem?_map, List.getElem?_range hpk]; rfl⟩
  · exact isP_fill 0 (by omega)
theorem flat_at {ps : List (List Nat)} (h : ∀ p ∈ ps, IsP p) {i : Nat} {x : List Nat} (hx : ps[i]? = some x) : (ps.flatten.drop (i * 288)).take 288 = x := by
  induction ps generalizing i with
  | nil => simp at hx
  | cons a t ih =>
    have ha : a.length = 288 := (h a (by simp)).1
    cases i with
    | zero =>
      simp only [List.getElem?_cons_zero, Option.some.injEq] at hx
      subst hx
      rw [Nat.zero_mul, List.drop_zero, List.flatten_cons, ← ha, List.take_left]
    | succ i =>
      rw [List.getElem?_cons_succ] at hx
      rw [List.flatten_cons, show (i + 1) * 288 = a.length + i * 288 from by omega, List.drop_length_add_append]
      exact ih (fun p hp => h p (by simp [hp])) hx
set_option linter.unusedSimpArgs false in
set_option linter.unusedVariables false in
set_option maxRecDepth 100000 in
set_option maxHeartbeats 8000000 in
theorem rread_any (r : Nat) (s : St) (g cr : Nat) (PR : Nat → Value) (b p : Int) (w : World) (h : RsIn w r s g cr PR) :
    Calls Try.prog 46 #[.pointer (some ⟨r, 0, none⟩), .int .i64 b, .int .i64 p] w fun e w' => e = .returned (.tuple #[.agg (vals (readX s b p)).toArray, .int .i64 (reachE s.nb s.np s.on b p)]) ∧ Below w.heap.size w w' := by
  have hz := zeroPage
  have hbp := build_page
  have hb0 := Blk.new w 46 (vals (fillP 0))
  have hbel := below_alloc w (.cells (vals (fillP 0)).toArray 46)
  have h' := h.below hbel
  have hh := sblock_any r s g cr PR b _ h'
  have hp := spage_any r s g cr PR p _ h'
  obtain ⟨ep, el, ec, hc, he⟩ := h'.chip
  have c5 := hc.cell' (i := 5) rfl
  have c1 := hc.cell' (i := 2) rfl
  have HXL : Hid ((readX s b p).length = 288) := (readX_isR h b p).1
  by_cases h0 : reachE s.nb s.np s.on b p = 0
  · have hx0 : readX s b p = readP s b.toNat p.toNat := if_pos h0
    obtain ⟨bk, pk, rfl, rfl, hbk, hpk, hon⟩ := reach_ok h0
    obtain ⟨K, hk⟩ := h'.get bk hbk
    obtain ⟨BC, hB, hl, hcell⟩ := h'.blks
    obtain ⟨q0, _, _, _⟩ := hcell bk K hk
    have hpg := h'.pg bk K hk
    have hlen := allP_length s.np K
    obtain ⟨gp, cap, cur, hv, hbP, hcap, hmx, hsz, htk⟩ := hpg.at' (by intro e; rw [e] at hlen; simp at hlen; omega)
    have hat : (allP s.np K)[pk]? = some (readP s bk pk) := by unfold allP readP; rw [hk, List.getElem?_map, List.getElem?_range hpk]; rfl
    have hfl := flat_at hpg.each hat
    rw [hlen] at hv hcap htk
    rw [hv] at q0
    have d0 := hB.cell' q0
    have hler := h.ler
    rw [show (bk : Int).toNat = bk from rfl, show (pk : Int).toNat = pk from rfl] at hx0
    rw [hx0] at HXL ⊢
    rw [h0]
    generalize readP s bk pk = X at *
    have hrg : ((w.alloc (.cells (vals (fillP 0)).toArray 46))).rangeAt gp (pk * 288) (vals X) := by
      refine hbP.range (pk * 288) 288 _ ?_ 
      have e : (cur.take (s.np * 288)).drop (pk * 288) = (vals (allP s.np K).flatten).drop (pk * 288) := by rw [htk]
      have e2 : ((cur.take (s.np * 288)).drop (pk * 288)).take 288 = (cur.drop (pk * 288)).take 288 := by
        rw [List.drop_take, List.take_take]
        congr 1
        have : pk * 288 + 288 ≤ s.np * 288 := by omega
        omega
      rw [← e2, e, ← vals_drop, ← vals_take, hfl]
    have hbI : (bk : Int) < (s.nb : Int) := by omega
    have hpI : (pk : Int) < (s.np : Int) := by omega
    rw [hon] at c5
    rw [show decide (0 ≤ (bk : Int) ∧ (bk : Int) < (s.nb : Int)) = true from by simp; omega] at hh
    rw [show decide (0 ≤ (pk : Int) ∧ (pk : Int) < (s.np : Int)) = true from by simp; omega] at hp
    clear hx0 hk hcell hpg hat hfl htk hsz hmx h0 h h' he hv
    go_enter Try.func46, Try.ntmps46
    go_wp2_with (first
      | (go_at_call 53; refine hh.mono ?_; rintro e w' ⟨rfl, rfl⟩)
      | (go_at_call 61; refine hp.mono ?_; rintro e w' ⟨rfl, rfl⟩)
      | (guard_target = wpList _ _ _ (Oper.mk _ (Op.load 46 (Operand.tmp 34)) _ _ _ _ :: _) _ _; refine wpList_load_mid rfl 46 (.tmp 34) rfl gp (pk * 288) rfl (vals X) _ hrg Try.underlying46 rfl (sizeP HXL.out) ?_)
      | (guard_target = wpList _ _ _ (Oper.mk _ (Op.store 46 _ _) _ _ _ _ :: _) _ _; refine wpList_store_blk rfl 46 (.tmp 6) _ rfl _ _ (vals X) rfl rfl hb0 (by rw [vals_length, vals_length, HXL.out, fillP_length]; exact Nat.le_of_eq rfl) (sizeP HXL.out) (vals_one _) ?_; intro w9 h9 ht9; rw [whole_row (by rw [vals_length, vals_length, HXL.out, fillP_length])] at h9))
    exact ret_pageE Try.results46 rfl h9 HXL.out rfl rfl ⟨rfl, ht9.below hbel (Nat.le_refl _)⟩
  · have hx0 : readX s b p = fillP 0 := if_neg h0
    rw [hx0]
    clear HXL hx0
    unfold reachE
    cases hon : s.on with
    | false =>
      rw [hon] at c5
      clear hh hp h h' hc he
      simp only [Bool.false_eq_true, if_false]
      go_enter Try.func46, Try.ntmps46
      go_wp2_with (guard_target = wpList _ _ _ (Oper.mk _ (Op.store 46 _ _) _ _ _ _ :: _) _ _; refine wpList_store_blk rfl 46 (.tmp 6) _ rfl _ _ (vals (fillP 0)) rfl rfl hb0 (Nat.le_of_eq (Nat.zero_add _)) (sizeP (fillP_length _)) (vals_one _) ?_; intro w9 h9 ht9; rw [whole_row rfl] at h9)
      exact ret_pageE Try.results46 rfl h9 (fillP_length _) rfl rfl ⟨rfl, ht9.below hbel (Nat.le_refl _)⟩
    | true =>
      rw [hon] at c5
      simp only [if_true]
      by_cases hb : 0 ≤ b ∧ b < (s.nb : Int)
      · rw [decide_eq_true hb] at hh
        have hq : ¬ (0 ≤ p ∧ p < (s.np : Int)) := fun hq => h0 (by unfold reachE; rw [if_pos hon, if_pos ⟨hb.1, hb.2, hq.1, hq.2⟩])
        rw [decide_eq_false hq] at hp
        rw [if_neg (show ¬ (0 ≤ b ∧ b < (s.nb : Int) ∧ 0 ≤ p ∧ p < (s.np : Int)) from fun h => hq ⟨h.2.2.1, h.2.2.2⟩)]
        clear h h' hc he hb hq h0
        go_enter Try.func46, Try.ntmps46
        go_wp2_with (first
          | (go_at_call 53; refine hh.mono ?_; rintro e w' ⟨rfl, rfl⟩)
          | (go_at_call 61; refine hp.mono ?_; rintro e w' ⟨rfl, rfl⟩)
          | (guard_target = wpList _ _ _ (Oper.mk _ (Op.store 46 _ _) _ _ _ _ :: _) _ _; refine wpList_store_blk rfl 46 (.tmp 6) _ rfl _ _ (vals (fillP 0)) rfl rfl hb0 (Nat.le_of_eq (Nat.zero_add _)) (sizeP (fillP_length _)) (vals_one _) ?_; intro w9 h9 ht9; rw [whole_row rfl] at h9))
        exact ret_pageE Try.results46 rfl h9 (fillP_length _) rfl rfl ⟨rfl, ht9.below hbel (Nat.le_refl _)⟩
      · rw [decide_eq_false hb] at hh
        rw [if_neg (show ¬ (0 ≤ b ∧ b < (s.nb : Int) ∧ 0 ≤ p ∧ p < (s.np : Int)) from fun h => hb ⟨h.1, h.2.1⟩)]
        clear h h' hc he hb hp h0
        go_enter Try.func46, Try.ntmps46
        go_wp2_with (first
          | (go_at_call 53; refine hh.mono ?_; rintro e w' ⟨rfl, rfl⟩)
          | (guard_target = wpList _ _ _ (Oper.mk _ (Op.store 46 _ _) _ _ _ _ :: _) _ _; refine wpList_store_blk rfl 46 (.tmp 6) _ rfl _ _ (vals (fillP 0)) rfl rfl hb0 (Nat.le_of_eq (Nat.zero_add _)) (sizeP (fillP_length _)) (vals_one _) ?_; intro w9 h9 ht9; rw [whole_row rfl] at h9))
        exact ret_pageE Try.results46 rfl h9 (fillP_length _) rfl rfl ⟨rfl, ht9.below hbel (Nat.le_refl _)⟩
end Go.Proofs.Ythafcnilhloldaa
