/-
  Pages in memory: a slice of pages, and what the method page of a block answers.
-/
import Derived.Test.YthafcnilhloldaaNTells
namespace Go.Proofs.Ythafcnilhloldaa
open Go.RowKit
/-- A page: 288 bytes. -/
def IsP (p : List Nat) : Prop := p.length = 288 ∧ ∀ x ∈ p, x < 256
theorem isP_fill (b : Nat) (h : b < 256) : IsP (fillP b) := ⟨fillP_length b, fun x hx => by have := List.eq_of_mem_replicate hx; omega⟩
/-- A slice of pages that lies in a world. -/
structure PagesIn (w : World) (v : Value) (ps : List (List Nat)) : Prop where
  row : w.ownsRow 0 46 288 v ps.length (vals ps.flatten)
  each : ∀ p ∈ ps, IsP p
theorem flat_length {ps : List (List Nat)} (h : ∀ p ∈ ps, IsP p) : ps.flatten.length = ps.length * 288 := by
  induction ps with
  | nil => rfl
  | cons p r ih =>
    have h1 := (h p (by simp)).1
    have h2 := ih (fun q hq => h q (by simp [hq]))
    simp only [List.flatten_cons, List.length_append, List.length_cons]
    omega
theorem flat_part {ps : List (List Nat)} (h : ∀ p ∈ ps, IsP p) (i : Nat) (p : List Nat) (hp : ps[i]? = some p) : (ps.flatten.drop (i * 288)).take 288 = p := by
  induction ps generalizing i with
  | nil => simp at hp
  | cons q r ih =>
    have h1 := (h q (by simp)).1
    cases i with
    | zero =>
      simp at hp
      subst hp
      rw [List.flatten_cons, Nat.zero_mul, List.drop_zero, List.take_append_of_le_length (by omega), List.take_of_length_le (by omega)]
    | succ j =>
      have h2 := ih (fun q hq => h q (by simp [hq])) j (by simpa using hp)
      rw [List.flatten_cons, show (j + 1) * 288 = q.length + j * 288 from by omega, List.drop_append]
      rw [List.drop_of_length_le (by omega), List.nil_append, show q.length + j * 288 - q.length = j * 288 from by omega]
      exact h2
theorem vals_drop (xs : List Nat) (n : Nat) : vals (xs.drop n) = (vals xs).drop n := by simp [vals, List.map_drop]
/-- Where a slice of pages lies, and its cells. -/
theorem PagesIn.at' {w : World} {v : Value} {ps : List (List Nat)} (h : PagesIn w v ps) (h0 : ps ≠ []) :
    ∃ g cap cur, v = .slice (some ⟨g, 0, none⟩) ps.length cap ∧ Blk w g 46 cur ∧ ps.length ≤ cap ∧ cap ≤ maxLen ∧ cur.length = cap * 288 ∧ cur.take (ps.length * 288) = vals ps.flatten := by
  rcases h.row.2 with ⟨_, h'⟩ | ⟨g, cap, cur, rfl, _, hg, hc, hm, hs, ht⟩
  · exact absurd (List.eq_nil_of_length_eq_zero h') h0
  · exact ⟨g, cap, cur.toList, rfl, by simpa [Blk] using hg, hc, hm, by simpa using hs, ht⟩
theorem PagesIn.shape {w : World} {v : Value} {ps : List (List Nat)} (h : PagesIn w v ps) : ∃ p cap, v = .slice p ps.length cap ∧ ps.length ≤ cap := by
  rcases h.row.2 with ⟨rfl, h'⟩ | ⟨g, cap, cur, rfl, _, _, hc, _⟩
  · exact ⟨none, 0, by rw [h'], by omega⟩
  · exact ⟨_, cap, rfl, hc⟩
theorem PagesIn.range {w : World} {g cap : Nat} {ps : List (List Nat)} (h : PagesIn w (.slice (some ⟨g, 0, none⟩) ps.length cap) ps) (i : Nat) (p : List Nat) (hp : ps[i]? = some p) : w.rangeAt g (i * 288) (vals p) := by
  have hi : i < ps.length := (List.getElem?_eq_some_iff.1 hp).1
  obtain ⟨g', cap', cur, hv, hb, _, _, _, ht⟩ := h.at' (by intro h; simp [h] at hi)
  simp only [Value.slice.injEq, Option.some.injEq, Addr.mk.injEq, and_true, true_and] at hv
  obtain ⟨rfl, rfl⟩ := hv
  refine hb.range (i * 288) 288 _ ?_
  have hle : i * 288 + 288 ≤ ps.length * 288 := by omega
  have e : (cur.drop (i * 288)).take 288 = ((cur.take (ps.length * 288)).drop (i * 288)).take 288 := by
    rw [List.drop_take, List.take_take, Nat.min_eq_left (by omega)]
  rw [e, ht, ← vals_drop, ← vals_take, flat_part h.each i p hp]
theorem PagesIn.nil (w : World) : PagesIn w (.slice none 0 0) [] := ⟨World.ownsRow_nil _ _ _ _, fun _ h => by simp at h⟩
theorem ownsRow_same {w w' : World} {B : Nat} {e : TypeId} {s : Nat} {v : Value} {n : Nat} {xs : List Value} (h : w.ownsRow B e s v n xs) (hb : ∀ k, v.ownBlock = some k → w'.heap[k]? = w.heap[k]?) : w'.ownsRow B e s v n xs := by
  refine ⟨h.1, ?_⟩
  rcases h.2 with h' | ⟨g, cap, cur, rfl, hg, hh, hr⟩
  · exact .inl h'
  · exact .inr ⟨g, cap, cur, rfl, hg, (hb g rfl).trans hh, hr⟩
theorem PagesIn.same {w w' : World} {v : Value} {ps : List (List Nat)} (h : PagesIn w v ps) (hb : ∀ k, v.ownBlock = some k → w'.heap[k]? = w.heap[k]?) : PagesIn w' v ps := ⟨ownsRow_same h.row hb, h.each⟩
theorem PagesIn.lt {w : World} {v : Value} {ps : List (List Nat)} (h : PagesIn w v ps) {k : Nat} (hk : v.ownBlock = some k) : k < w.heap.size := (h.row.lt k hk).2
theorem PagesIn.below {w w' : World} {v : Value} {ps : List (List Nat)} (h : PagesIn w v ps) (hb : Below w.heap.size w w') : PagesIn w' v ps := h.same fun k hk => hb.block k (h.lt hk)
/-- An erased page. -/
abbrev blankP : List Nat := fillP 255
set_option maxRecDepth 100000 in
theorem blkPage_any (bb o n : Nat) (v : Value) (ps : List (List Nat)) (w : World) (hc : w.cell? ⟨bb, o, none⟩ = some v) (hp : PagesIn w v ps) :
    Calls Try.prog 48 #[.pointer (some ⟨bb, o, none⟩), .int .i64 (n : Int)] w fun e w' => e = .returned (.agg (vals (ps.getD n blankP)).toArray) ∧ Below w.heap.size w w' := by
  have hz := zeroPage
  have hb0 := Blk.new w 46 (vals (fillP 0))
  have hbel := below_alloc w (.cells (vals (fillP 0)).toArray 46)
  by_cases hn : n < ps.length
  · obtain ⟨g, cap, cur, rfl, hcur, _, _, _, _⟩ := hp.at' (by intro h; simp [h] at hn)
    have hx : ps[n]? = some ps[n] := List.getElem?_eq_getElem hn
    have he := hp.each _ (List.getElem_mem hn)
    have hr : (w.alloc (.cells (vals (fillP 0)).toArray 46)).rangeAt g (n * 288) (vals ps[n]) := World.rangeAt_alloc (hp.range n _ hx) _
    have e : ps.getD n blankP = ps[n] := by simp [List.getD_eq_getElem?_getD, hx]
    rw [e]
    have hlt : g < w.heap.size := hcur.lt
    clear hcur hx e
    generalize ps[n] = x at *
    have hcc : (w.alloc (.cells (vals (fillP 0)).toArray 46)).cell? ⟨bb, o, none⟩ = some (.slice (some ⟨g, 0, none⟩) ps.length cap) := (World.cell?_alloc_lt _ _ _ (block_lt_of_cell hc)).trans hc
    go_enter Try.func48, Try.ntmps48
    go_wp2_with (first
      | (refine wpList_load_mid rfl 46 _ rfl g (n * 288) rfl (vals x) _ hr Try.underlying46 rfl (sizeP he.1) ?_)
      | (refine wpList_store_blk rfl 46 _ _ rfl _ _ (vals x) rfl rfl hb0 (by rw [vals_length, vals_length, he.1, fillP_length]; exact Nat.le_refl _) (sizeP he.1) (vals_one _) ?_; intro w2 h2 ht2))
    rw [whole_row (by rw [vals_length, vals_length, he.1, fillP_length])] at h2
    exact ret_page Try.results48 rfl h2 he.1 rfl ⟨rfl, ht2.below hbel (Nat.le_refl _)⟩
  · have e : ps.getD n blankP = blankP := by simp [List.getD_eq_getElem?_getD, List.getElem?_eq_none (Nat.le_of_not_lt hn)]
    rw [e]
    obtain ⟨p, cap, rfl, _⟩ := hp.shape
    have hcc : (w.alloc (.cells (vals (fillP 0)).toArray 46)).cell? ⟨bb, o, none⟩ = some (.slice p ps.length cap) := (World.cell?_alloc_lt _ _ _ (block_lt_of_cell hc)).trans hc
    go_enter Try.func48, Try.ntmps48
    go_wp2_with (first
      | (go_at_call 54; refine (blank_any _).mono ?_; rintro e w1 ⟨rfl, hb1⟩)
      | (refine wpList_store_blk rfl 46 _ _ rfl _ _ (vals blankP) rfl rfl (hb0.kept hb1) (by rw [vals_length, vals_length, fillP_length, fillP_length]; exact Nat.le_refl _) (sizeP (fillP_length _)) (vals_one _) ?_; intro w2 h2 ht2))
    rw [whole_row (by rw [vals_length, vals_length, fillP_length, fillP_length])] at h2
    exact ret_page Try.results48 rfl h2 (fillP_length _) rfl ⟨rfl, ht2.below (bt hbel hb1) (Nat.le_refl _)⟩
end Go.Proofs.Ythafcnilhloldaa
