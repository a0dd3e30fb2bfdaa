/-
  Newest whatever its sizes; slices.Clone and append of things that were found; the reference's Check.
-/
import Derived.Test.YtfgelncfmopibabSnLiveQ
namespace Go.Proofs.Ytfgelncfmopibab
open Go.RowKit
def newR (P Lg : Int) (xs : List Fd) : List Pl := if okSz P Lg 1 then placesOf (newestL P (Lg * P).toNat xs) else []
theorem newest_all (P Lg : Int) (p : Option Addr) (n c : Nat) (xs : List Fd) (w : World) (hx : InF w p n c xs) :
    Calls Try.prog 8 #[.int .i64 P, .int .i64 Lg, .slice p n c] w fun e w' => ∃ p' m, e = .returned (.slice p' m m) ∧ InZ w' p' m m (newR P Lg xs) ∧ Below w.heap.size w w' := by
  cases hok : okSz P Lg 1 with
  | false =>
    refine (newest_no P Lg p n c w hok).mono ?_
    rintro e w' ⟨rfl, hb⟩
    refine ⟨none, 0, rfl, ?_, hb⟩
    unfold newR
    rw [hok]
    exact InZ.empty w'
  | true =>
    obtain ⟨r1, r2, _⟩ := okSz_iff.1 hok
    have hM := prod_bd r2 r1
    obtain ⟨L, rfl⟩ : ∃ L : Nat, Lg = (L : Int) := ⟨Lg.toNat, by omega⟩
    obtain ⟨M, hm⟩ : ∃ M : Nat, (L : Int) * P = (M : Int) := ⟨((L : Int) * P).toNat, by omega⟩
    refine (newest_any P L M p n c xs w hok hm hx).mono ?_
    rintro e w' ⟨g, rfl, _, hG, hb⟩
    have hl : (placesOf (newestL P M xs)).length = M := by simp [placesOf, newestL_length]
    have h1 := inZ_of_blk hG (by rw [hl]; omega)
    rw [hl] at h1
    refine ⟨_, M, rfl, ?_, hb⟩
    unfold newR
    rw [hok, hm, Int.toNat_natCast]
    exact h1
theorem extZ {xs ys : List Pl} (hl : xs.length = ys.length) (h : ∀ j, j < xs.length → eZ xs j = eZ ys j) : xs = ys := by
  apply List.ext_getElem hl
  intro j h1 h2
  have := h j h1
  simpa [eZ, h1, h2] using this
theorem placesOf_at (l : List Fd) (j : Nat) (h : j < l.length) : eZ (placesOf l) j = ⟨(l.getD j noneF).ph, (l.getD j noneF).pg⟩ := by
  simp [eZ, placesOf, h]
theorem places_ext {P : Int} {M : Nat} {xs ys : List Fd} (h : ∀ p, p < M → ((newestL P M xs).getD p noneF).ph = ((newestL P M ys).getD p noneF).ph ∧ ((newestL P M xs).getD p noneF).pg = ((newestL P M ys).getD p noneF).pg) :
    placesOf (newestL P M xs) = placesOf (newestL P M ys) := by
  refine extZ (by simp [placesOf, newestL_length]) (fun j hj => ?_)
  have hj' : j < M := by simpa [placesOf, newestL_length] using hj
  rw [placesOf_at _ _ (by rw [newestL_length]; exact hj'), placesOf_at _ _ (by rw [newestL_length]; exact hj'), (h j hj').1, (h j hj').2]
theorem newR_order (P Lg : Int) {xs ys : List Fd} (hm : ∀ f, f ∈ xs ↔ f ∈ ys) : newR P Lg xs = newR P Lg ys := by
  unfold newR
  split
  · exact places_ext (fun p hp => newestL_order P _ xs ys hm p hp)
  · rfl
theorem newR_old (P Lg : Int) {xs : List Fd} {f o : Fd} (hf : f ∈ xs) (hc : cntB P f = true) (hp : o.p = f.p) (ho : aheadB f o = true) : newR P Lg (xs ++ [o]) = newR P Lg xs := by
  unfold newR
  split
  · exact places_ext (fun p hp' => newestL_old P _ xs f o hf hc hp ho p hp')
  · rfl
theorem owns_sliceF {w : World} {B : Nat} {v : Value} {n : Nat} {l : List Fd} (h : w.ownsRow B 50 6 v n (flatF l)) : ∃ p c, v = .slice p n c := by
  rcases h.2 with ⟨rfl, rfl⟩ | ⟨g, cap, cur, rfl, _⟩
  · exact ⟨none, 0, rfl⟩
  · exact ⟨_, _, rfl⟩
theorem wp_append_found {o : Oper} {a : Act} {K : Act → World → Prop} {Q : Exit → Act → World → Prop} (s x : Operand)
    (ho : o.op = .call { callee := .builtin .append, args := #[s, x], argTypes := #[22, 22] }) (B : Nat) (v : Value) (n : Nat) (l : List Fd) (r : Fd) (W : World) (gl : Nat) (hs : a.eval s = v) (hown : W.ownsRow B 50 6 v n (flatF l))
    (hx : a.eval x = .slice (some ⟨gl, 0, none⟩) 1 1) (hlit : Blk W gl 50 r.cells) (hlen : n ≤ 1000000) (hB : B ≤ W.heap.size)
    (hK : ∀ p' c' w', w'.ownsRow B 50 6 (.slice p' (n + 1) c') (n + 1) (flatF (l ++ [r])) → W.grownBy w' v.ownBlock → Below B W w' → K (a.put o.dst (.slice p' (n + 1) c')) w') : o.wp Try.prog a W K Q := by
  obtain ⟨i0, hi, hz0, hz1, hz2⟩ := info_parts infoF
  refine wp_append_own _ s x 22 ho B 50 i0 (.agg #[.int .i64 0, .int .i64 0, .int .i64 0, .int .i64 0, .int .i64 0, .int .i64 0]) 6 48 Try.underlying22 hi hz0 hz1 hz2 rfl (by decide) v n (flatF l) hs hown ⟨gl, 0, none⟩ 1 1 r.cells hx rfl (fun j u hj => ?_) ?_ (by unfold maxLen; omega) (by omega) hB ?_
  · rw [addr_add, Nat.zero_add]; exact hlit.cell' hj
  · simp [Fd.cells, Value.oneCell']
  · intro v1 w1 hown1 hgrow1 _
    have e : flatF l ++ r.cells = flatF (l ++ [r]) := by rw [flatF_append]; simp [flatF]
    rw [e] at hown1
    obtain ⟨p', c', hv⟩ := owns_sliceF hown1
    subst hv
    exact hK p' c' w1 hown1 hgrow1 ((Below.refl _ _).grown hgrow1 hB (fun k hk => (hown.lt k hk).1))
theorem r03check_any (k g s t : Int) (w : World) :
    Calls Try.prog 39 #[.agg #[.int .i64 k, .int .i64 g, .int .i64 s, .int .i64 t]] w fun e w' => e = .returned (.int .i64 (chkE k g s t)) ∧ Below w.heap.size w w' := by
  by_cases h1 : k < 1
  · rw [chk_no (by omega)]
    go_enter Try.func39, Try.ntmps39
    go_wp2
    go_ret
    exact ⟨rfl, below_alloc _ _⟩
  by_cases h2 : 3 < k
  · rw [chk_no (by omega)]
    go_enter Try.func39, Try.ntmps39
    go_wp2
    go_ret
    exact ⟨rfl, below_alloc _ _⟩
  by_cases h3 : g < 0
  · rw [chk_no (by omega)]
    go_enter Try.func39, Try.ntmps39
    go_wp2
    go_ret
    exact ⟨rfl, below_alloc _ _⟩
  by_cases h4 : 1048576 ≤ g
  · rw [chk_no (by omega)]
    go_enter Try.func39, Try.ntmps39
    go_wp2
    go_ret
    exact ⟨rfl, below_alloc _ _⟩
  by_cases h5 : s < 1
  · rw [chk_no (by omega)]
    go_enter Try.func39, Try.ntmps39
    go_wp2
    go_ret
    exact ⟨rfl, below_alloc _ _⟩
  by_cases h6 : t < s
  · rw [chk_no (by omega)]
    go_enter Try.func39, Try.ntmps39
    go_wp2
    go_ret
    exact ⟨rfl, below_alloc _ _⟩
  by_cases h7 : 1152921504606846976 < t
  · rw [chk_no (by omega)]
    go_enter Try.func39, Try.ntmps39
    go_wp2
    go_ret
    exact ⟨rfl, below_alloc _ _⟩
  by_cases h9 : k = 1
  · have hb : (k != 1) = false := by rw [h9]; rfl
    rw [chk_ok (by omega)]
    clear h9
    go_enter Try.func39, Try.ntmps39
    go_wp2
    go_ret
    exact ⟨rfl, below_alloc _ _⟩
  have hb : (k != 1) = true := by rw [bne_iff_ne]; exact h9
  by_cases h10 : t = s
  · have hc : (t != s) = false := by rw [h10]; simp
    rw [chk_ok (by omega)]
    clear h9 h10
    go_enter Try.func39, Try.ntmps39
    go_wp2
    go_ret
    exact ⟨rfl, below_alloc _ _⟩
  · have hc : (t != s) = true := by rw [bne_iff_ne]; exact h10
    rw [chk_no (by omega)]
    clear h9 h10
    go_enter Try.func39, Try.ntmps39
    go_wp2
    go_ret
    exact ⟨rfl, below_alloc _ _⟩
end Go.Proofs.Ytfgelncfmopibab
