/-
  What keep answers: the events with masks of their own, or that they may not be.
-/
import Derived.Test.YthafcnilhloldaaNEvs
namespace Go.Proofs.Ythafcnilhloldaa
open Go.RowKit
/-- May events be, behind an event at 'last'? -/
def okEvs : Int → List Ev → Bool
  | _, [] => true
  | last, e :: r => decide (last < e.at') && (e.kind == 1 || e.kind == 2) && decide (e.mask.length ≤ 288) && okEvs e.at' r
/-- The kept events while the loop goes on: those below k have masks of their own. -/
structure KeepR (w wr : World) (es : List Ev) (n k g : Nat) (cur : List Value) (f : Nat → Option Addr × Nat × Nat) : Prop where
  blk : Blk wr g 72 cur
  low : w.heap.size ≤ g
  take : cur.take (n * 3) = evc es f
  len : n * 3 ≤ cur.length
  mask : ∀ i e, es[i]? = some e → In wr (f i).1 (f i).2.1 (f i).2.2 e.mask
  new : ∀ i, i < k → ∀ a, 0 < (f i).2.1 → (f i).1 = some a → w.heap.size ≤ a.block
  not : ∀ i e, es[i]? = some e → ∀ a, 0 < (f i).2.1 → (f i).1 = some a → a.block ≠ g
  bel : Below w.heap.size w wr
theorem KeepR.get {w wr : World} {es : List Ev} {n k g : Nat} {cur : List Value} {f : Nat → Option Addr × Nat × Nat} (h : KeepR w wr es n k g cur f) (hn : es.length = n) (i : Nat) (e : Ev) (he : es[i]? = some e) :
    wr.cell? ⟨g, i * 3, none⟩ = some (.int .i64 e.at') ∧ wr.cell? ⟨g, i * 3 + 1, none⟩ = some (.int .i64 e.kind) ∧ wr.cell? ⟨g, i * 3 + 2, none⟩ = some (.slice (f i).1 (f i).2.1 (f i).2.2) := by
  have hi : i < es.length := (List.getElem?_eq_some_iff.1 he).1
  obtain ⟨a, b, c⟩ := evc_get es f i e he
  rw [← h.take] at a b c
  rw [List.getElem?_take_of_lt (by omega)] at a b c
  exact ⟨h.blk.cell' a, h.blk.cell' b, h.blk.cell' c⟩
theorem evc_set (es : List Ev) (f : Nat → Option Addr × Nat × Nat) (k : Nat) (x : Option Addr × Nat × Nat) (hk : k < es.length) : evc es (fun i => if i = k then x else f i) = (evc es f).set (k * 3 + 2) (.slice x.1 x.2.1 x.2.2) := by
  apply List.ext_getElem?
  intro j
  by_cases hj : j < es.length * 3
  · have hi : j / 3 < es.length := by omega
    have he : es[j / 3]? = some es[j / 3] := List.getElem?_eq_getElem hi
    obtain ⟨a1, a2, a3⟩ := evc_get es f (j / 3) _ he
    obtain ⟨b1, b2, b3⟩ := evc_get es (fun i => if i = k then x else f i) (j / 3) _ he
    rw [List.getElem?_set]
    have hr : j % 3 = 0 ∨ j % 3 = 1 ∨ j % 3 = 2 := by omega
    rcases hr with hr | hr | hr
    · rw [if_neg (by omega), show j = j / 3 * 3 from by omega, b1, a1]
    · rw [if_neg (by omega), show j = j / 3 * 3 + 1 from by omega, b2, a2]
    · by_cases hjk : j / 3 = k
      · rw [if_pos (by omega), if_pos (by rw [evc_len]; omega)]
        rw [show j = j / 3 * 3 + 2 from by omega, b3]
        simp [hjk]
      · rw [if_neg (by omega), show j = j / 3 * 3 + 2 from by omega, b3, a3]
        simp [hjk]
  · rw [List.getElem?_eq_none (by rw [evc_len]; omega), List.getElem?_eq_none (by rw [List.length_set, evc_len]; omega)]
theorem KeepR.step {w wr w2 : World} {es : List Ev} {n k g : Nat} {cur : List Value} {f : Nat → Option Addr × Nat × Nat} (h : KeepR w wr es n k g cur f) (hn : es.length = n) (hk : k < n) {p2 : Option Addr} {m c2 : Nat} (hb : Below wr.heap.size wr w2) {e : Ev} (he : es[k]? = some e)
    (hin : In w2 p2 m c2 e.mask) (hnew : ∀ a, 0 < m → p2 = some a → wr.heap.size ≤ a.block) : KeepR w (w2.setCell ⟨g, k * 3 + 2, none⟩ (.slice p2 m c2)) es n (k + 1) g (cur.set (k * 3 + 2) (.slice p2 m c2)) (fun i => if i = k then (p2, m, c2) else f i) := by
  have hlg := h.blk.lt
  have hs := h.bel.size
  have hsz : (w2.setCell ⟨g, k * 3 + 2, none⟩ (.slice p2 m c2)).heap.size = w2.heap.size := (Turned.setCell w2 ⟨g, k * 3 + 2, none⟩ (.slice p2 m c2)).size
  refine ⟨(h.blk.kept hb).set _ _, h.low, ?_, by rw [List.length_set]; exact h.len, ?_, ?_, ?_, ?_⟩
  · rw [List.take_set, h.take, evc_set es f k (p2, m, c2) (by omega)]
  · intro i x hx
    by_cases hik : i = k
    · subst hik
      rw [he] at hx
      cases hx
      simp only [if_true]
      exact hin.same (by rw [hsz]; exact Nat.le_refl _) (fun a h0 ha _ => heap_setCell_other _ _ _ _ (fun e => by have := hnew a h0 ha; simp only at e; omega))
    · simp only [hik, if_false]
      exact ((h.mask i x hx).below hb).same (by rw [hsz]; exact Nat.le_refl _) (fun a h0 ha _ => heap_setCell_other _ _ _ _ (h.not i x hx a h0 ha))
  · intro i hi a h0 ha
    by_cases hik : i = k
    · simp only [hik, if_true] at h0 ha
      have := hnew a h0 ha
      omega
    · simp only [hik, if_false] at h0 ha
      exact h.new i (by omega) a h0 ha
  · intro i x hx a h0 ha
    by_cases hik : i = k
    · simp only [hik, if_true] at h0 ha
      have := hnew a h0 ha
      omega
    · simp only [hik, if_false] at h0 ha
      exact h.not i x hx a h0 ha
  · exact (h.bel.trans (hb.mono hs)).setCell h.low _
set_option maxHeartbeats 1000000 in
theorem keep_any (p : Option Addr) (n c : Nat) (es : List Ev) (f : Nat → Option Addr × Nat × Nat) (w : World) (hx : EvSrc w p n c es f) :
    Calls Try.prog 29 #[.slice p n c] w fun e w' => Below w.heap.size w w' ∧ ((okEvs 0 es = false ∧ e = .returned (.tuple #[.slice none 0 0, .int .i64 21])) ∨
      (okEvs 0 es = true ∧ ∃ p' c', e = .returned (.tuple #[.slice p' n c', .int .i64 0]) ∧ EvsIn (fun k => k < w.heap.size) w' p' n c' es)) := by
  have hz := zeroEv
  have HX : Hid (es.length = n) := hx.len
  have hroom := hx.room
  go_enter Try.func29, Try.ntmps29
  go_wp2_with (go_at_call 51; refine (cloneEvs_any p n c es f w hx).mono ?_; rintro e w1 ⟨p1, c1, rfl, hown1, hb1⟩)
  by_cases hn0 : n = 0
  · subst hn0
    have hes : es = [] := List.eq_nil_of_length_eq_zero HX.out
    subst hes
    go_loopw [13, 5] (fun i l wr => i = .int .i64 0 ∧ l = .int .i64 0 ∧ wr = w1) (fun _ _ _ => 0)
    case atStart => exact ⟨rfl, rfl, rfl⟩
    case round =>
      obtain ⟨rfl, rfl, rfl⟩ := hrel
      go_wp2
      go_ret2
      exact ⟨hb1, .inr ⟨rfl, p1, c1, rfl, rfl, Nat.zero_le _, hown1.2.elim (fun h => by cases h.1; exact Nat.zero_le _) (fun ⟨g, cap, cur, h', _, _, _, hm, _⟩ => by cases h'; exact hm), fun h0 => by omega⟩⟩
  · obtain ⟨g, cur, rfl, hR0, hc1⟩ : ∃ g cur, p1 = some ⟨g, 0, none⟩ ∧ KeepR w w1 es n 0 g cur f ∧ n ≤ c1 ∧ c1 ≤ maxLen := by
      rcases hown1.2 with ⟨h', h0⟩ | ⟨g, cap, cur, h', hg, hh, hnc, hm, hsz, htk⟩
      · exact absurd h0 hn0
      · simp only [Value.slice.injEq, true_and] at h'
        obtain ⟨rfl, rfl⟩ := h'
        refine ⟨g, cur.toList, rfl, ⟨by simpa [Blk] using hh, hg, htk, by rw [Array.length_toList, hsz]; omega, fun i e he => (hx.mask i e he).below hb1, fun i hi => by omega, fun i e he a h0 ha => ?_, hb1⟩, hnc, hm⟩
        obtain ⟨b, o, hp, hl, _⟩ := (hx.mask i e he).at' h0
        rw [ha] at hp
        cases hp
        show b ≠ g
        omega
    clear hown1
    go_loopw [13, 5] (fun i l wr => ∃ (k : Nat) (last : Int) (cur : List Value) (f' : Nat → Option Addr × Nat × Nat), k ≤ n ∧ i = .int .i64 k ∧ l = .int .i64 last ∧ KeepR w wr es n k g cur f' ∧ Hid (okEvs 0 es = okEvs last (es.drop k))) (fun i _ _ => n - (intOf i).toNat)
    case atStart => exact ⟨0, 0, cur, f, Nat.zero_le _, rfl, rfl, hR0, rfl⟩
    case round =>
      clear hR0
      obtain ⟨k, last, cur', f', hk, rfl, rfl, hR, HO⟩ := hrel
      by_cases hlt : k < n
      · have hkl : k < es.length := by rw [HX.out]; exact hlt
        obtain ⟨e, he⟩ : ∃ e, es[k]? = some e := ⟨_, List.getElem?_eq_getElem hkl⟩
        have hdr : es.drop k = e :: es.drop (k + 1) := by
          rw [List.drop_eq_getElem_cons hkl]
          rw [List.getElem?_eq_getElem hkl] at he
          cases he
          rfl
        have HO : Hid (okEvs 0 es = okEvs last (e :: es.drop (k + 1))) := by show okEvs 0 es = _; rw [HO.out, hdr]
        obtain ⟨g1, g2, g3⟩ := hR.get HX.out k e he
        have hin := hR.mask k e he
        have hlen := hin.len
        have hsz : w.heap.size ≤ wr.heap.size := hR.bel.size
        have hgl := hR.blk.lt
        generalize f' k = t at g3 hin
        obtain ⟨q, m, d⟩ := t
        have hlm : e.mask.length = m := hin.len
        have HLM : Hid (e.mask.length = m) := hlm
        clear hlm hlen hdr
        by_cases ha : e.at' ≤ last
        · go_wp2
          all_goals go_ret2
          all_goals exact ⟨hR.bel.alloc hsz _, .inl ⟨by rw [HO.out]; unfold okEvs; rw [decide_eq_false (by omega)]; rfl, rfl⟩⟩
        · by_cases hk1 : e.kind = 1
          · have e1 : (e.kind == 1) = true := by simpa using hk1
            clear hk1
            by_cases hm : m ≤ 288
            · have hcl := clone_new q m d e.mask _ (hin.below (below_alloc wr (.cells #[.int .i64 e.at', .int .i64 e.kind, .slice q m d] 72)))
              simp only at g3 hin
              have hgo : g ≠ wr.heap.size := by omega
              go_wp2_with fail
              refine hcl.mono ?_
              rintro x w2 ⟨p2, c2, rfl, hin2, hb2, hnew2⟩
              have hb2' := bt (below_alloc wr (.cells #[.int .i64 e.at', .int .i64 e.kind, .slice q m d] 72)) hb2
              have hg2 := (hR.blk.kept hb2').cell (k * 3 + 2)
              rw [← hR.blk.cell (k * 3 + 2), g3] at hg2
              have hf2 := (hR.blk.kept hb2').frozen (k * 3 + 2)
              go_wp2
              go_roundw
              case rel =>
                have hst := hR.step HX.out hlt hb2' he hin2 (fun a h0 ha => by have := hnew2 a h0 ha; simp at this; omega)
                exact ⟨k + 1, e.at', _, _, by omega, by go_num, rfl, hst, by show okEvs 0 es = _; rw [HO.out]; rw [okEvs, decide_eq_true (by omega), e1, decide_eq_true (by rw [HLM.out]; exact hm)]; rfl⟩
              case measure => simp [intOf]; omega
            · go_wp2
              all_goals go_ret2
              all_goals exact ⟨hR.bel.alloc hsz _, .inl ⟨by rw [HO.out]; rw [okEvs, decide_eq_false (p := e.mask.length ≤ 288) (by rw [HLM.out]; exact hm)]; simp, rfl⟩⟩
          · have e1 : (e.kind == 1) = false := by simpa using hk1
            by_cases hk2 : e.kind = 2
            · have e2 : (e.kind == 2) = true := by simpa using hk2
              clear hk2
              by_cases hm : m ≤ 288
              · have hcl := clone_new q m d e.mask _ (hin.below (below_alloc wr (.cells #[.int .i64 e.at', .int .i64 e.kind, .slice q m d] 72)))
                simp only at g3 hin
                have hgo : g ≠ wr.heap.size := by omega
                go_wp2_with fail
                refine hcl.mono ?_
                rintro x w2 ⟨p2, c2, rfl, hin2, hb2, hnew2⟩
                have hb2' := bt (below_alloc wr (.cells #[.int .i64 e.at', .int .i64 e.kind, .slice q m d] 72)) hb2
                have hg2 := (hR.blk.kept hb2').cell (k * 3 + 2)
                rw [← hR.blk.cell (k * 3 + 2), g3] at hg2
                have hf2 := (hR.blk.kept hb2').frozen (k * 3 + 2)
                go_wp2
                go_roundw
                case rel =>
                  have hst := hR.step HX.out hlt hb2' he hin2 (fun a h0 ha => by have := hnew2 a h0 ha; simp at this; omega)
                  exact ⟨k + 1, e.at', _, _, by omega, by go_num, rfl, hst, by show okEvs 0 es = _; rw [HO.out]; rw [okEvs, decide_eq_true (by omega), e1, e2, decide_eq_true (by rw [HLM.out]; exact hm)]; rfl⟩
                case measure => simp [intOf]; omega
              · go_wp2
                all_goals go_ret2
                all_goals exact ⟨hR.bel.alloc hsz _, .inl ⟨by rw [HO.out]; rw [okEvs, decide_eq_false (p := e.mask.length ≤ 288) (by rw [HLM.out]; exact hm)]; simp, rfl⟩⟩
            · have e2 : (e.kind == 2) = false := by simpa using hk2
              go_wp2
              all_goals go_ret2
              all_goals exact ⟨hR.bel.alloc hsz _, .inl ⟨by rw [HO.out]; rw [okEvs, e1, e2]; simp, rfl⟩⟩
      · obtain rfl : k = n := by omega
        go_wp2
        go_ret2
        have hok : okEvs 0 es = true := by rw [HO.out, List.drop_of_length_le (by rw [HX.out]; exact Nat.le_refl _)]; rfl
        refine ⟨hR.bel, .inr ⟨hok, _, c1, rfl, HX.out, hc1.1, hc1.2, fun _ => ⟨g, 0, rfl, hR.blk.lt, by have := hR.low; omega, fun i e he => ?_⟩⟩⟩
        obtain ⟨x1, x2, x3⟩ := hR.get HX.out i e he
        have hi : i < k := by have := (List.getElem?_eq_some_iff.1 he).1; rw [HX.out] at this; exact this
        exact ⟨_, _, _, by rw [Nat.zero_add]; exact x1, by rw [Nat.zero_add]; exact x2, by rw [Nat.zero_add]; exact x3, hR.mask i e he, fun a h0 ha => by have := hR.new i hi a h0 ha; omega⟩
end Go.Proofs.Ythafcnilhloldaa
