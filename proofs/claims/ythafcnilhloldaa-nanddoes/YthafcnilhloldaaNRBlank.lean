/-
  What the reference's Blank answers.
-/
import Derived.Test.YthafcnilhloldaaNBlank
import Derived.Test.YthafcnilhloldaaNRProg
namespace Go.Proofs.Ythafcnilhloldaa
open Go.RowKit
set_option maxRecDepth 100000 in
theorem rblank_any (w : World) : Calls Try.prog 30 #[] w fun e w' => e = .returned (.agg (vals (fillP 255)).toArray) ∧ Below w.heap.size w w' := by
  have hz := zeroPage
  go_enter Try.func30, Try.ntmps30
  go_wp2
  have b0 : Blk ((w.alloc (.cells (vals (fillP 0)).toArray 46)).alloc (.cells (vals (fillP 0)).toArray 46)) (w.heap.size + 1) 46 (vals (partP 255 0)) := by
    rw [partP_none]; have := Blk.new (w.alloc (.cells (vals (fillP 0)).toArray 46)) 46 (vals (fillP 0)); rwa [World.size_alloc] at this
  have b1 : Blk ((w.alloc (.cells (vals (fillP 0)).toArray 46)).alloc (.cells (vals (fillP 0)).toArray 46)) w.heap.size 46 (vals (fillP 0)) := (Blk.new w 46 _).alloc _
  go_loopw [2] (fun i wr => ∃ k : Nat, k ≤ 256 ∧ i = .int .i64 k ∧ Blk wr (w.heap.size + 1) 46 (vals (partP 255 k)) ∧ Blk wr w.heap.size 46 (vals (fillP 0)) ∧ Below w.heap.size w wr) (fun i _ => 256 - (intOf i).toNat)
  case atStart => exact ⟨0, by omega, rfl, b0, b1, (below_alloc w _).alloc (by simp) _⟩
  case round =>
    clear b0 b1
    obtain ⟨k, hk, rfl, h0, h1, hb⟩ := hrel
    by_cases hlt : k < 256
    · obtain ⟨u, hu⟩ := partP_get 255 k k (by omega) (by omega)
      have hc := h0.cell' hu
      have hf := h0.frozen k
      go_wp2
      go_roundw
      case rel => exact ⟨k + 1, by omega, by go_num, blk_part h0 (by omega) cast255.symm, h1.setOther _ _ (by simp), hb.setCell (by simp) _⟩
      case measure => simp [intOf]; omega
    · obtain rfl : k = 256 := by omega
      go_wp2
      clear hk hlt
      go_loopw [3] (fun i wr => ∃ k : Nat, k ≤ 32 ∧ i = .int .i64 k ∧ Blk wr (w.heap.size + 1) 46 (vals (partP 255 (256 + k))) ∧ Blk wr w.heap.size 46 (vals (fillP 0)) ∧ Below w.heap.size w wr) (fun i _ => 32 - (intOf i).toNat)
      case atStart => exact ⟨0, by omega, rfl, h0, h1, hb⟩
      case round =>
        clear h0 h1 hb
        obtain ⟨k, hk, rfl, h0, h1, hb⟩ := hrel
        by_cases hlt : k < 32
        · obtain ⟨u, hu⟩ := partP_get 255 (256 + k) (256 + k) (by omega) (by omega)
          have hc := h0.cell' hu
          have hf := h0.frozen (256 + k)
          go_wp2
          go_roundw
          case rel => exact ⟨k + 1, by omega, by go_num, blk_part h0 (by omega) cast255.symm, h1.setOther _ _ (by simp), hb.setCell (by simp) _⟩
          case measure => simp [intOf]; omega
        · obtain rfl : k = 32 := by omega
          rw [show 256 + 32 = 288 from rfl, partP_all] at h0
          go_wp2_with (first
            | (refine wpList_load_mid rfl 46 (.tmp 1) rfl _ _ rfl (vals (fillP 255)) _ (h0.range 0 288 _ (by rw [List.drop_zero, List.take_of_length_le (by rw [vals_length, fillP_length]; exact Nat.le_refl _)])) Try.underlying46 rfl sizePage ?_)
            | (refine wpList_store_blk rfl 46 (.tmp 0) (.tmp 18) rfl _ _ (vals (fillP 255)) rfl rfl h1 (by rw [vals_length, vals_length, fillP_length, fillP_length]; exact Nat.le_refl _) sizePage (vals_one _) ?_; intro w2 h2 ht2))
          rw [whole_row (by rw [vals_length, vals_length, fillP_length, fillP_length])] at h2
          exact ret_page Try.results30 rfl h2 (fillP_length _) rfl ⟨rfl, ht2.below hb (Nat.le_refl _)⟩
end Go.Proofs.Ythafcnilhloldaa

namespace Go.Proofs.Ythafcnilhloldaa
open Go.RowKit Go.Shelf
theorem trimN_blankR (ps : List (List Nat)) : ∀ n i, trimN ps n ≤ i → i < n → ps.getD i [] = blankP
  | 0, _, _, h => by omega
  | n + 1, i, h, hi => by
    unfold trimN at h
    split at h
    · next hb =>
      rcases Nat.lt_succ_iff_lt_or_eq.1 hi with h' | h'
      · exact trimN_blankR ps n i h h'
      · rw [h']; exact hb
    · omega
theorem trimP_getDR (ps : List (List Nat)) (i : Nat) : (trimP ps).getD i blankP = ps.getD i blankP := by
  unfold trimP
  rw [List.getD_eq_getElem?_getD, List.getD_eq_getElem?_getD]
  by_cases h : i < trimN ps ps.length
  · rw [List.getElem?_take_of_lt h]
  · rw [List.getElem?_eq_none (l := ps.take _) (by rw [List.length_take]; omega)]
    by_cases hi : i < ps.length
    · have := trimN_blankR ps ps.length i (by omega) hi
      rw [List.getD_eq_getElem?_getD, List.getElem?_eq_getElem hi] at this
      rw [List.getElem?_eq_getElem hi]
      exact this.symm
    · rw [List.getElem?_eq_none (by omega)]
theorem allP_trim {np : Nat} {ps : List (List Nat)} (h : ps.length = np) (a n : Nat) (b : Bool) : allP np { pages := trimP ps, wear := a, next := n, bad := b } = ps := by
  apply List.ext_getElem?
  intro i
  unfold allP
  rw [List.getElem?_map]
  by_cases hi : i < np
  · rw [List.getElem?_range hi, List.getElem?_eq_getElem (by omega)]
    show some ((trimP ps).getD i blankP) = _
    rw [trimP_getDR, List.getD_eq_getElem?_getD, List.getElem?_eq_getElem (by omega)]
    rfl
  · rw [List.getElem?_eq_none (l := List.range np) (by rw [List.length_range]; omega), List.getElem?_eq_none (l := ps) (by omega)]
    rfl
theorem allP_blank (np a n : Nat) (b : Bool) : allP np { pages := [], wear := a, next := n, bad := b } = List.replicate np (fillP 255) := by
  apply List.ext_getElem?
  intro i
  unfold allP
  rw [List.getElem?_map, List.getElem?_replicate]
  by_cases hi : i < np
  · rw [List.getElem?_range hi, if_pos hi]; rfl
  · rw [List.getElem?_eq_none (l := List.range np) (by rw [List.length_range]; omega), if_neg hi]; rfl
theorem erased_ev {np : Nat} {k : BlkS} {E : Ev} (h0 : E.kind ≠ 0) (hk : E.kind = 0 ∨ E.kind = 1 ∨ E.kind = 2) (hb : k.bad = false) : erasedB np k E = { pages := trimP (tornPs np k E.mask), wear := k.wear + 1, next := np, bad := E.kind == 1 } := by
  unfold erasedB
  rcases hk with h | h | h
  · exact absurd h h0
  · rw [if_pos h, h]; rfl
  · rw [if_neg (by omega), if_pos h, h, hb]; rfl
theorem erased_no {np : Nat} {k : BlkS} {E : Ev} (h0 : E.kind = 0) : erasedB np k E = { pages := [], wear := k.wear + 1, next := 0, bad := k.bad } := by
  unfold erasedB
  rw [if_neg (by omega), if_neg (by omega)]
theorem erase_cannot {s : St} {b : Int} (hc : canE s b 0 ≠ 0) : eraseE s b = canE s b 0 ∧ eraseSt s b = s := by
  unfold canE at hc ⊢
  unfold eraseE eraseSt
  by_cases hr : reachE s.nb s.np s.on b 0 = 0
  · rw [if_pos hr] at hc
    simp only [if_pos hr]
    cases hk : s.bl[b.toNat]? with
    | none => rw [hk] at hc; exact absurd rfl hc
    | some k =>
      rw [hk] at hc
      cases hb : k.bad with
      | true => simp [hb]
      | false => simp [hb] at hc
  · simp only [if_neg hr]
    exact ⟨trivial, trivial⟩
theorem erase_can {s : St} {bk : Nat} {k : BlkS} (h1 : bk < s.nb) (h2 : 0 < s.np) (h3 : s.on = true) (hk : s.bl[bk]? = some k) (hb : k.bad = false) :
    eraseE s bk = outE (nextEv s.ev (s.ops + 1)).kind ∧ eraseSt s bk = stepSt s bk (erasedB s.np k (nextEv s.ev (s.ops + 1))) := by
  have hr : reachE s.nb s.np s.on bk 0 = 0 := by
    unfold reachE
    rw [if_pos h3, if_pos ⟨by omega, by omega, by omega, by omega⟩]
  unfold eraseE eraseSt
  rw [if_pos hr, if_pos hr, show (bk : Int).toNat = bk from rfl, hk]
  simp [hb]
theorem RowAt.next {BC BC1 : List Value} {bk : Nat} {v : Value} {K : BlkS} (h : RowAt BC BC1 bk v K) (hl : bk * 4 + 3 < BC.length) (P : List (List Nat)) (n : Nat) (z : Int) (hz : z = (n : Int)) : RowAt BC (BC1.set (bk * 4 + 1 + 1) (.int .i64 z)) bk v { K with pages := P, next := n } := by
  subst hz
  exact ⟨by rw [List.length_set]; exact h.len, ⟨by rw [List.getElem?_set_ne (by omega)]; exact h.own.1, by rw [List.getElem?_set_ne (by omega)]; exact h.own.2.1, by rw [show bk * 4 + 2 = bk * 4 + 1 + 1 from rfl, List.getElem?_set_self (by rw [h.len]; omega)], by rw [List.getElem?_set_ne (by omega)]; exact h.own.2.2.2⟩, fun i hi => by rw [List.getElem?_set_ne (by omega)]; exact h.oth i hi⟩
theorem RowAt.setBad {BC BC1 : List Value} {bk : Nat} {v : Value} {K : BlkS} (h : RowAt BC BC1 bk v K) (hl : bk * 4 + 3 < BC.length) (x : Bool) : RowAt BC (BC1.set (bk * 4 + 1 + 2) (.bool x)) bk v { K with bad := x } :=
  ⟨by rw [List.length_set]; exact h.len, ⟨by rw [List.getElem?_set_ne (by omega)]; exact h.own.1, by rw [List.getElem?_set_ne (by omega)]; exact h.own.2.1, by rw [List.getElem?_set_ne (by omega)]; exact h.own.2.2.1, by rw [show bk * 4 + 3 = bk * 4 + 1 + 2 from rfl, List.getElem?_set_self (by rw [h.len]; omega)]⟩, fun i hi => by rw [List.getElem?_set_ne (by omega)]; exact h.oth i hi⟩
theorem rfin2 {w w1 wf : World} {r : Nat} {s : St} {g cr : Nat} {PR : Nat → Value} {bk : Nat} {K' : BlkS} {v' : Value} {BC BC' : List Value} {ep : Option Addr} {el ec : Nat} (h : RsIn w r s g cr PR) (hbk : bk < s.nb)
    (hcell : ∀ i b, s.bl[i]? = some b → BC[i * 4]? = some (PR i) ∧ BC[i * 4 + 1]? = some (.int .i64 (b.wear : Int)) ∧ BC[i * 4 + 2]? = some (.int .i64 (b.next : Int)) ∧ BC[i * 4 + 3]? = some (.bool b.bad)) (hl : BC.length = cr * 4)
    (hk1 : Keep (fun k => k = r) w w1) (he1 : EvsIn (fun k => fpN r g PR s.nb w.heap.size k ∨ s.z k) w1 ep el ec (restEv s.ev (s.ops + 1))) (hk : Keep (fun k => k = r ∨ k = g ∨ (PR bk).ownBlock = some k ∨ w.heap.size ≤ k) w1 wf)
    (hchip : Blk wf r 85 (chipCells s.nb s.np (.slice (some ⟨g, 0, none⟩) s.nb cr) (.slice ep el ec) (s.ops + 1) (onEv s.ev (s.ops + 1) s.on))) (hBf : Blk wf g 87 BC') (hR : RowAt BC BC' bk v' K')
    (hp : PagesIn wf v' (allP s.np K')) (hfr : ∀ k, v'.ownBlock = some k → (PR bk).ownBlock = some k ∨ w.heap.size ≤ k)
    (hlim : K'.pages.length ≤ K'.next ∧ K'.next ≤ s.np ∧ K'.wear ≤ s.ops + 1) : RAft w wf r s (stepSt s bk K') g cr PR := by
  have hk2 : Keep (fpN r g PR s.nb w.heap.size) w1 wf := hk.mono (fun k _ e => by
    rcases e with e | e | e | e
    · exact .inl (.inl e)
    · exact .inl (.inr (.inl e))
    · exact .inl (.inr (.inr ⟨bk, hbk, e⟩))
    · exact .inr e)
  refine rfin h hbk hcell hl hchip (he1.keep hk2 (fun _ _ e => .inl e)) hBf hR hp hfr ((hk1.mono (fun k _ e => .inl e)).trans hk (fun j hj e => ?_)) hlim
  rcases e with e | e | e | e
  · exact .inl e
  · exact .inr (.inl e)
  · exact .inr (.inr e)
  · omega
/-- The pages of a block while they are blanked one by one. -/
def mixP (ps : List (List Nat)) (k : Nat) : List (List Nat) := List.replicate k (fillP 255) ++ ps.drop k
theorem mixP_length {ps : List (List Nat)} {k : Nat} (h : k ≤ ps.length) : (mixP ps k).length = ps.length := by
  unfold mixP; rw [List.length_append, List.length_replicate, List.length_drop]; omega
theorem mixP_set {ps : List (List Nat)} {k : Nat} (h : k < ps.length) : (mixP ps k).set k (fillP 255) = mixP ps (k + 1) := by
  unfold mixP
  rw [List.set_append_right _ _ (by rw [List.length_replicate]; exact Nat.le_refl _), List.length_replicate, Nat.sub_self, List.drop_eq_getElem_cons h, List.set_cons_zero, List.replicate_succ', List.append_assoc]
  rfl
theorem mixP_all (ps : List (List Nat)) : mixP ps ps.length = List.replicate ps.length (fillP 255) := by
  unfold mixP; rw [List.drop_length, List.append_nil]
theorem cells_take {w : World} {g : Nat} {t : TypeId} {cur : List Value} {n : Nat} {xs : List Value} (h : Blk w g t cur) (ht : cur.take n = xs) : ∀ j u, xs[j]? = some u → w.cell? ⟨g, j, none⟩ = some u := by
  intro j u hj
  subst ht
  refine h.cell' ?_
  by_cases hjn : j < n
  · rwa [List.getElem?_take_of_lt hjn] at hj
  · rw [List.getElem?_eq_none (by rw [List.length_take]; omega)] at hj
    cases hj
end Go.Proofs.Ythafcnilhloldaa
