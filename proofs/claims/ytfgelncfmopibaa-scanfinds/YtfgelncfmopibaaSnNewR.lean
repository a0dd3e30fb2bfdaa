/-
  Newest whatever its sizes; slices.Clone and append of things that were found; the reference's Check.
-/
import Derived.Test.YtfgelncfmopibaaSnLive
namespace Go.Proofs.Ytfgelncfmopibaa
open Go.RowKit
def newR (P Lg : Int) (xs : List Fd) : List Pl := if okSz P Lg 1 then placesOf (newestL P (Lg * P).toNat xs) else []
theorem newest_all (P Lg : Int) (p : Option Addr) (n c : Nat) (xs : List Fd) (w : World) (hx : InF w p n c xs) :
    Calls Try.prog 15 #[.int .i64 P, .int .i64 Lg, .slice p n c] w fun e w' => ∃ p' m, e = .returned (.slice p' m m) ∧ InZ w' p' m m (newR P Lg xs) ∧ Below w.heap.size w w' := by
  cases hok : okSz P Lg 1 with
  | false =>
    refine (newest_no P Lg p n c w hok).mono ?_
    rintro e w' ⟨rfl, hb⟩
    refine ⟨none, 0, rfl, ?_, hb⟩
    unfold newR
    rw [hok]
    exact InZ.empty w'
  | true =>
    obtain ⟨r1, r2, _⟩ := okSz_iff.1 hok
    have hM := prod_bd r2 r1
    obtain ⟨L, rfl⟩ : ∃ L : Nat, Lg = (L : Int) := ⟨Lg.toNat, by omega⟩
    obtain ⟨M, hm⟩ : ∃ M : Nat, (L : Int) * P = (M : Int) := ⟨((L : Int) * P).toNat, by omega⟩
    refine (newest_any P L M p n c xs w hok hm hx).mono ?_
    rintro e w' ⟨g, rfl, _, hG, hb⟩
    have hl : (placesOf (newestL P M xs)).length = M := by simp [placesOf, newestL_length]
    have h1 := inZ_of_blk hG (by rw [hl]; omega)
    rw [hl] at h1
    refine ⟨_, M, rfl, ?_, hb⟩
    unfold newR
    rw [hok, hm, Int.toNat_natCast]
    exact h1
theorem extZ {xs ys : List Pl} (hl : xs.length = ys.length) (h : ∀ j, j < xs.length → eZ xs j = eZ ys j) : xs = ys := by
  apply List.ext_getElem hl
  intro j h1 h2
  have := h j h1
  simpa [eZ, h1, h2] using this
theorem placesOf_at (l : List Fd) (j : Nat) (h : j < l.length) : eZ (placesOf l) j = ⟨(l.getD j noneF).ph, (l.getD j noneF).pg⟩ := by
  simp [eZ, placesOf, h]
theorem places_ext {P : Int} {M : Nat} {xs ys : List Fd} (h : ∀ p, p < M → ((newestL P M xs).getD p noneF).ph = ((newestL P M ys).getD p noneF).ph ∧ ((newestL P M xs).getD p noneF).pg = ((newestL P M ys).getD p noneF).pg) :
    placesOf (newestL P M xs) = placesOf (newestL P M ys) := by
  refine extZ (by simp [placesOf, newestL_length]) (fun j hj => ?_)
  have hj' : j < M := by simpa [placesOf, newestL_length] using hj
  rw [placesOf_at _ _ (by rw [newestL_length]; exact hj'), placesOf_at _ _ (by rw [newestL_length]; exact hj'), (h j hj').1, (h j hj').2]
theorem newR_order (P Lg : Int) {xs ys : List Fd} (hm : ∀ f, f ∈ xs ↔ f ∈ ys) : newR P Lg xs = newR P Lg ys := by
  unfold newR
  split
  · exact places_ext (fun p hp => newestL_order P _ xs ys hm p hp)
  · rfl
theorem newR_old (P Lg : Int) {xs : List Fd} {f o : Fd} (hf : f ∈ xs) (hc : cntB P f = true) (hp : o.p = f.p) (ho : aheadB f o = true) : newR P Lg (xs ++ [o]) = newR P Lg xs := by
  unfold newR
  split
  · exact places_ext (fun p hp' => newestL_old P _ xs f o hf hc hp ho p hp')
  · rfl
theorem owns_sliceF {w : World} {B : Nat} {v : Value} {n : Nat} {l : List Fd} (h : w.ownsRow B 33 6 v n (flatF l)) : ∃ p c, v = .slice p n c := by
  rcases h.2 with ⟨rfl, rfl⟩ | ⟨g, cap, cur, rfl, _⟩
  · exact ⟨none, 0, rfl⟩
  · exact ⟨_, _, rfl⟩
theorem cloneF_any (p : Option Addr) (n c : Nat) (l : List Fd) (w : World) (hx : InF w p n c l) (hn : n ≤ 100000000) :
    Calls Try.prog 29 #[.slice p n c] w fun e w' => ∃ p' c', e = .returned (.slice p' n c') ∧ w'.ownsRow w.heap.size 33 6 (.slice p' n c') n (flatF l) ∧ Below w.heap.size w w' := by
  have HX : Hid (l.length = n) := hx.len
  obtain ⟨i0, hi, hz0, hz1, hz2⟩ := info_parts infoF
  have hq := fun (w : World) => Lib.run_eql_slice_nil (P := Try.prog) w 27 33 p n c 0 0 Try.underlying27
  cases p with
  | none =>
    have h1 := hx.nil rfl
    have h2 := hx.cap
    have h3 : n = 0 := by omega
    subst h1
    subst h3
    have h4 : l = [] := List.eq_nil_of_length_eq_zero hx.len
    subst h4
    go_enter Try.func29, Try.ntmps29
    go_wp2
    go_ret
    exact ⟨_, _, rfl, ⟨rfl, .inl ⟨rfl, rfl⟩⟩, Below.refl _ _⟩
  | some a =>
    have ho := World.ownsRow_lit (e := 33) (size := 6) (base := w.heap.size) w #[] 0 (Nat.le_refl _) (by unfold maxLen; omega) (by simp)
    have HO : Hid ((w.alloc (.cells #[] 33)).ownsRow w.heap.size 33 6 (.slice (some ⟨w.heap.size, 0, none⟩) 0 0) 0 []) := ho
    clear ho
    go_enter Try.func29, Try.ntmps29
    go_wp2_with (at_builtin; refine wpList_append_own _ rfl (.tmp 5) (.tmp 6) 27 rfl w.heap.size 33 i0 (.agg #[.int .i64 0, .int .i64 0, .int .i64 0, .int .i64 0, .int .i64 0, .int .i64 0]) 6 48 Try.underlying27 hi hz0 hz1 hz2 rfl (by decide) (.slice (some ⟨w.heap.size, 0, none⟩) 0 0) 0 [] rfl HO.out a n c (flatF l) rfl (by rw [flatF_length, HX.out]) ((hx.below (below_alloc _ _)).flat rfl) (flatF_one l) (by unfold maxLen; omega) (by omega) (by simp) ?_; intro v1 w1 hown1 hgrow1 _)
    go_ret
    rw [List.nil_append, Nat.zero_add] at hown1
    obtain ⟨p', c', hv⟩ := owns_sliceF hown1
    subst hv
    exact ⟨p', c', rfl, hown1, (below_alloc w _).grown hgrow1 (by simp) (fun k hk => by simp [Value.ownBlock] at hk; omega)⟩
theorem wp_append_found {o : Oper} {a : Act} {K : Act → World → Prop} {Q : Exit → Act → World → Prop} (s x : Operand)
    (ho : o.op = .call { callee := .builtin .append, args := #[s, x], argTypes := #[27, 27] }) (B : Nat) (v : Value) (n : Nat) (l : List Fd) (r : Fd) (W : World) (gl : Nat) (hs : a.eval s = v) (hown : W.ownsRow B 33 6 v n (flatF l))
    (hx : a.eval x = .slice (some ⟨gl, 0, none⟩) 1 1) (hlit : Blk W gl 33 r.cells) (hlen : n ≤ 1000000) (hB : B ≤ W.heap.size)
    (hK : ∀ p' c' w', w'.ownsRow B 33 6 (.slice p' (n + 1) c') (n + 1) (flatF (l ++ [r])) → W.grownBy w' v.ownBlock → Below B W w' → K (a.put o.dst (.slice p' (n + 1) c')) w') : o.wp Try.prog a W K Q := by
  obtain ⟨i0, hi, hz0, hz1, hz2⟩ := info_parts infoF
  refine wp_append_own _ s x 27 ho B 33 i0 (.agg #[.int .i64 0, .int .i64 0, .int .i64 0, .int .i64 0, .int .i64 0, .int .i64 0]) 6 48 Try.underlying27 hi hz0 hz1 hz2 rfl (by decide) v n (flatF l) hs hown ⟨gl, 0, none⟩ 1 1 r.cells hx rfl (fun j u hj => ?_) ?_ (by unfold maxLen; omega) (by omega) hB ?_
  · rw [addr_add, Nat.zero_add]; exact hlit.cell' hj
  · simp [Fd.cells, Value.oneCell']
  · intro v1 w1 hown1 hgrow1 _
    have e : flatF l ++ r.cells = flatF (l ++ [r]) := by rw [flatF_append]; simp [flatF]
    rw [e] at hown1
    obtain ⟨p', c', hv⟩ := owns_sliceF hown1
    subst hv
    exact hK p' c' w1 hown1 hgrow1 ((Below.refl _ _).grown hgrow1 hB (fun k hk => (hown.lt k hk).1))
theorem r03check_any (k g s t : Int) (w : World) :
    Calls Try.prog 31 #[.agg #[.int .i64 k, .int .i64 g, .int .i64 s, .int .i64 t]] w fun e w' => e = .returned (.int .i64 (chkE k g s t)) ∧ Below w.heap.size w w' := by
  by_cases h1 : k < 1
  · rw [chk_no (by omega)]
    go_enter Try.func31, Try.ntmps31
    go_wp2
    go_ret
    exact ⟨rfl, below_alloc _ _⟩
  by_cases h2 : 3 < k
  · rw [chk_no (by omega)]
    go_enter Try.func31, Try.ntmps31
    go_wp2
    go_ret
    exact ⟨rfl, below_alloc _ _⟩
  by_cases h3 : g < 0
  · rw [chk_no (by omega)]
    go_enter Try.func31, Try.ntmps31
    go_wp2
    go_ret
    exact ⟨rfl, below_alloc _ _⟩
  by_cases h4 : 1048576 ≤ g
  · rw [chk_no (by omega)]
    go_enter Try.func31, Try.ntmps31
    go_wp2
    go_ret
    exact ⟨rfl, below_alloc _ _⟩
  by_cases h5 : s < 1
  · rw [chk_no (by omega)]
    go_enter Try.func31, Try.ntmps31
    go_wp2
    go_ret
    exact ⟨rfl, below_alloc _ _⟩
  by_cases h6 : t < s
  · rw [chk_no (by omega)]
    go_enter Try.func31, Try.ntmps31
    go_wp2
    go_ret
    exact ⟨rfl, below_alloc _ _⟩
  by_cases h7 : 1152921504606846976 < t
  · rw [chk_no (by omega)]
    go_enter Try.func31, Try.ntmps31
    go_wp2
    go_ret
    exact ⟨rfl, below_alloc _ _⟩
  by_cases h9 : k = 1
  · have hb : (k != 1) = false := by rw [h9]; rfl
    rw [chk_ok (by omega)]
    clear h9
    go_enter Try.func31, Try.ntmps31
    go_wp2
    go_ret
    exact ⟨rfl, below_alloc _ _⟩
  have hb : (k != 1) = true := by rw [bne_iff_ne]; exact h9
  by_cases h10 : t = s
  · have hc : (t != s) = false := by rw [h10]; simp
    rw [chk_ok (by omega)]
    clear h9 h10
    go_enter Try.func31, Try.ntmps31
    go_wp2
    go_ret
    exact ⟨rfl, below_alloc _ _⟩
  · have hc : (t != s) = true := by rw [bne_iff_ne]; exact h10
    rw [chk_no (by omega)]
    clear h9 h10
    go_enter Try.func31, Try.ntmps31
    go_wp2
    go_ret
    exact ⟨rfl, below_alloc _ _⟩
end Go.Proofs.Ytfgelncfmopibaa
