/-
  Plain facts on the reference's pages: one page put, what Program says.
-/
import Derived.Test.YthafcnilhloldaaNRMask
namespace Go.Proofs.Ythafcnilhloldaa
open Go.RowKit Go.Shelf
theorem flat_set {ps : List (List Nat)} (h : ∀ p ∈ ps, IsP p) {i : Nat} (hi : i < ps.length) (x : List Nat) : (ps.set i x).flatten = ps.flatten.take (i * 288) ++ x ++ ps.flatten.drop (i * 288 + 288) := by
  induction ps generalizing i with
  | nil => simp at hi
  | cons a t ih =>
    have ha : a.length = 288 := (h a (by simp)).1
    cases i with
    | zero =>
      rw [List.set_cons_zero, List.flatten_cons, List.flatten_cons, Nat.zero_mul, List.take_zero, List.nil_append, Nat.zero_add, ← ha, List.drop_left]
    | succ i =>
      have hi' : i < t.length := by simpa using hi
      rw [List.set_cons_succ, List.flatten_cons, List.flatten_cons, ih (fun p hp => h p (by simp [hp])) hi']
      rw [show (i + 1) * 288 = a.length + i * 288 from by omega, List.take_length_add_append, show a.length + i * 288 + 288 = a.length + (i * 288 + 288) from by omega, List.drop_length_add_append, List.append_assoc, List.append_assoc, List.append_assoc]
theorem take_mid {A X : List Value} {o l T : Nat} (h : o + l ≤ T) (hx : X.length = l) (hT : T ≤ A.length) : (A.take o ++ X ++ A.drop (o + l)).take T = (A.take T).take o ++ X ++ (A.take T).drop (o + l) := by
  have hA : (A.take o).length = o := by rw [List.length_take]; omega
  have hB : ((A.take T).take o).length = o := by rw [List.length_take, List.length_take]; omega
  apply List.ext_getElem?
  intro j
  by_cases hj : j < T
  · rw [List.getElem?_take_of_lt hj, List.append_assoc, List.append_assoc]
    by_cases h1 : j < o
    · rw [List.getElem?_append_left (by omega), List.getElem?_append_left (by omega), List.getElem?_take_of_lt h1, List.getElem?_take_of_lt h1, List.getElem?_take_of_lt hj]
    · rw [List.getElem?_append_right (l₁ := A.take o) (by omega), List.getElem?_append_right (l₁ := (A.take T).take o) (by omega), hA, hB]
      by_cases h2 : j < o + l
      · rw [List.getElem?_append_left (by omega), List.getElem?_append_left (by omega)]
      · rw [List.getElem?_append_right (by omega), List.getElem?_append_right (by omega), List.getElem?_drop, List.getElem?_drop, List.getElem?_take_of_lt (by omega)]
  · rw [List.getElem?_eq_none (by rw [List.length_take]; omega), List.getElem?_eq_none (by rw [List.length_append, List.length_append, List.length_drop, hB, List.length_take]; omega)]
set_option maxRecDepth 100000 in
theorem PagesIn.put {w w' : World} {g cap n p : Nat} {ps : List (List Nat)} {x : List Nat} {cur : List Value} (h : PagesIn w (.slice (some ⟨g, 0, none⟩) n cap) ps) (hp : p < ps.length) (hx : IsP x) (hb : Blk w g 46 cur)
    (hb' : Blk w' g 46 (cur.take (p * 288) ++ vals x ++ cur.drop (p * 288 + 288))) : PagesIn w' (.slice (some ⟨g, 0, none⟩) n cap) (ps.set p x) := by
  obtain ⟨g', cap', cur', hv, hb2, hc, hm, hs, ht⟩ := h.at' (by intro e; rw [e] at hp; simp at hp)
  simp only [Value.slice.injEq, Option.some.injEq, Addr.mk.injEq, and_true] at hv
  obtain ⟨rfl, rfl, rfl⟩ := hv
  have e : cur' = cur := by
    have := hb2.symm.trans hb
    simpa using this
  subst e
  have hfl := flat_length h.each
  have hxl : (vals x).length = 288 := by rw [vals_length, hx.1]
  have hpc : p * 288 + 288 ≤ cap * 288 := by clear hx hb hb' hb2 ht h; omega
  have hTm : p * 288 + 288 ≤ ps.length * 288 := by clear hx hb hb' hb2 ht h; omega
  have hTc : ps.length * 288 ≤ cur'.length := by rw [hs]; clear hx hb hb' hb2 ht h; omega
  have hlen : (cur'.take (p * 288)).length = p * 288 := by
    rw [List.length_take, hs]
    omega
  have hT : (cur'.take (p * 288) ++ vals x ++ cur'.drop (p * 288 + 288)).take (ps.length * 288) = vals (ps.set p x).flatten := by
    rw [flat_set h.each hp, vals_append, vals_append, vals_take, vals_drop, ← ht]
    exact take_mid (A := cur') (X := vals x) (o := p * 288) (l := 288) (T := ps.length * 288) hTm hxl hTc
  refine ⟨⟨?_, .inr ⟨g, cap, (cur'.take (p * 288) ++ vals x ++ cur'.drop (p * 288 + 288)).toArray, by rw [List.length_set], Nat.zero_le _, by simpa [Blk] using hb', by rw [List.length_set]; exact hc, hm, ?_, ?_⟩⟩, ?_⟩
  · rw [vals_length, flat_length (fun q hq => ?_)]
    rcases List.mem_or_eq_of_mem_set hq with h1 | h1
    · exact h.each q h1
    · rw [h1]; exact hx
  · rw [List.size_toArray, List.length_append, List.length_append, hlen, hxl, List.length_drop, hs]
    have : p * 288 + 288 ≤ cap * 288 := by omega
    omega
  · simpa [List.length_set] using hT
  · intro q hq
    rcases List.mem_or_eq_of_mem_set hq with h1 | h1
    · exact h.each q h1
    · rw [h1]; exact hx
set_option maxRecDepth 100000 in
theorem allP_put {np : Nat} {k : BlkS} {p : Nat} {x : List Nat} (h1 : k.pages.length ≤ p) (h2 : p < np) (n : Nat) : allP np { k with pages := putP k.pages p x, next := n } = (allP np k).set p x := by
  apply List.ext_getElem?
  intro j
  unfold allP putP
  rw [List.getElem?_set, List.length_map, List.length_range, List.getElem?_map, List.getElem?_map]
  by_cases hj : j < np
  · rw [List.getElem?_range hj]
    simp only [Option.map_some]
    by_cases hpj : p = j
    · subst hpj
      rw [if_pos rfl, if_pos hj]
      congr 1
      rw [List.getD_eq_getElem?_getD, List.getElem?_append_right (by rw [List.length_append, List.length_replicate]; omega)]
      rw [List.length_append, List.length_replicate, show p - (k.pages.length + (p - k.pages.length)) = 0 from by omega]
      rfl
    · rw [if_neg hpj]
      congr 1
      rw [List.getD_eq_getElem?_getD, List.getD_eq_getElem?_getD]
      by_cases h3 : j < k.pages.length
      · rw [List.append_assoc, List.getElem?_append_left h3]
      · rw [List.getElem?_eq_none (l := k.pages) (by omega)]
        by_cases h4 : j < p
        · rw [List.getElem?_append_left (by rw [List.length_append, List.length_replicate]; omega), List.getElem?_append_right (by omega), List.getElem?_replicate, if_pos (by omega)]
          rfl
        · rw [List.getElem?_eq_none (by rw [List.length_append, List.length_append, List.length_replicate]; simp only [List.length_cons, List.length_nil]; omega)]
  · rw [List.getElem?_eq_none (l := List.range np) (by rw [List.length_range]; omega)]
    simp only [Option.map_none]
    have hpj : ¬ p = j := by omega
    rw [if_neg hpj]
theorem can_ok {w : World} {r : Nat} {s : St} {g cr : Nat} {PR : Nat → Value} (h : RsIn w r s g cr PR) {b p : Int} (hc : canE s b p = 0) : ∃ (bk pk : Nat) (k : BlkS), b = bk ∧ p = pk ∧ bk < s.nb ∧ pk < s.np ∧ s.on = true ∧ s.bl[bk]? = some k ∧ k.bad = false := by
  unfold canE at hc
  by_cases hr : reachE s.nb s.np s.on b p = 0
  · obtain ⟨bk, pk, rfl, rfl, h1, h2, h3⟩ := reach_ok hr
    obtain ⟨k, hk⟩ := h.get bk h1
    rw [if_pos hr, show (bk : Int).toNat = bk from rfl, hk] at hc
    refine ⟨bk, pk, k, rfl, rfl, h1, h2, h3, hk, ?_⟩
    cases hb : k.bad with
    | false => rfl
    | true => simp [hb] at hc
  · rw [if_neg hr] at hc
    exact absurd hc hr
theorem prog_cannot {s : St} {b p : Int} (hc : canE s b p ≠ 0) (x : List Nat) : progE s b p = canE s b p ∧ progSt s b p x = s := by
  unfold canE at hc ⊢
  unfold progE progSt
  by_cases hr : reachE s.nb s.np s.on b p = 0
  · rw [if_pos hr] at hc
    simp only [if_pos hr]
    cases hk : s.bl[b.toNat]? with
    | none => rw [hk] at hc; exact absurd rfl hc
    | some k =>
      rw [hk] at hc
      cases hb : k.bad with
      | true => simp [hb]
      | false => simp [hb] at hc
  · simp only [if_neg hr]
    exact ⟨trivial, trivial⟩
theorem prog_can {s : St} {bk pk : Nat} {k : BlkS} (h1 : bk < s.nb) (h2 : pk < s.np) (h3 : s.on = true) (hk : s.bl[bk]? = some k) (hb : k.bad = false) (x : List Nat) :
    progE s bk pk = (if (pk : Int) < (k.next : Int) then 24 else outE (nextEv s.ev (s.ops + 1)).kind) ∧ progSt s bk pk x = (if (pk : Int) < (k.next : Int) then s else stepSt s bk { k with pages := putP k.pages pk (tornX x (nextEv s.ev (s.ops + 1))), next := pk + 1 }) := by
  have hr : reachE s.nb s.np s.on bk pk = 0 := by
    unfold reachE
    rw [if_pos h3, if_pos ⟨by omega, by omega, by omega, by omega⟩]
  unfold progE progSt
  rw [if_pos hr, if_pos hr, show (bk : Int).toNat = bk from rfl, hk]
  simp [hb]
theorem next_kind {es : List Ev} (h : ∀ e ∈ es, e.kind = 1 ∨ e.kind = 2) (n : Nat) : (nextEv es n).kind = 0 ∨ (nextEv es n).kind = 1 ∨ (nextEv es n).kind = 2 := by
  unfold nextEv
  cases es with
  | nil => exact .inl rfl
  | cons e t =>
    dsimp only
    split
    · exact .inr (h e (by simp))
    · exact .inl rfl
theorem on_kind {es : List Ev} (n : Nat) (on : Bool) (hon : on = true) (h : ∀ e ∈ es, e.kind = 1 ∨ e.kind = 2) : onEv es n on = (if (nextEv es n).kind = 2 then false else on) := by
  subst hon
  cases es with
  | nil => rfl
  | cons e t =>
    by_cases ha : e.at' = (n : Int)
    · have e1 : nextEv (e :: t) n = e := by simp [nextEv, ha]
      have e2 : onEv (e :: t) n true = (e.kind != 2) := by simp [onEv, ha]
      rw [e1, e2]
      rcases h e (by simp) with hk | hk
      · rw [if_neg (by rw [hk]; decide), hk]; rfl
      · rw [if_pos hk, hk]; rfl
    · have e1 : nextEv (e :: t) n = noEv := by simp [nextEv, ha]
      have e2 : onEv (e :: t) n true = true := by simp [onEv, ha]
      rw [e1, e2]
      rfl
end Go.Proofs.Ythafcnilhloldaa
