/-
  slices.Delete of a row of logs: the first one goes.
-/
import Derived.Test.YthibaefoioeghaaPlPut
import Derived.Deep.RegionLaw
import Derived.Lib.SliceRun
namespace Go.Proofs.Ythibaefoioeghaa
open Go.RowKit
theorem blk_setCells {g : Nat} {t : TypeId} : ∀ (vs : List Value) (o : Nat) (w : World) (cs : List Value), Blk w g t cs → o + vs.length ≤ cs.length → Blk (w.setCells g o vs) g t (cs.take o ++ vs ++ cs.drop (o + vs.length))
  | [], o, w, cs, h, _ => by simpa [World.setCells] using h
  | v :: r, o, w, cs, h, hl => by
    have ho : o < cs.length := by simp at hl; omega
    have ih := blk_setCells r (o + 1) _ _ (h.set o v) (by simp at hl ⊢; omega)
    have e1 : (cs.set o v).take (o + 1) = cs.take o ++ [v] := by
      rw [List.take_succ_eq_append_getElem (by simpa using ho)]
      simp [List.take_set_of_le]
    have e2 : (cs.set o v).drop (o + 1 + r.length) = cs.drop (o + (v :: r).length) := by
      rw [List.drop_set_of_lt (by omega), List.length_cons, show o + 1 + r.length = o + (r.length + 1) by omega]
    rw [e1, e2] at ih
    simpa [World.setCells] using ih
theorem Turned.trans {a b c : World} {g : Nat} (h : Turned a b g) (k : Turned b c g) : Turned a c g := ⟨k.os.trans h.os, k.tape.trans h.tape, k.output.trans h.output, k.size.trans h.size, fun j hj => (k.block j hj).trans (h.block j hj)⟩
theorem turned_setCells {g : Nat} : ∀ (vs : List Value) (o : Nat) (w : World), Turned w (w.setCells g o vs) g
  | [], _, _ => ⟨rfl, rfl, rfl, rfl, fun _ _ => rfl⟩
  | v :: r, o, w => (Turned.setCell w ⟨g, o, none⟩ v).trans (turned_setCells r (o + 1) _)
theorem turned_drew (w : World) (g : Nat) : Turned w w.drew g := ⟨rfl, rfl, rfl, rfl, fun _ _ => rfl⟩
set_option linter.unusedSimpArgs false in
theorem clear1 (w : World) (ty : TypeId) (g o c : Nat) (cs : List Value) (h : Blk w g 61 cs) (ho : o + 2 ≤ cs.length) :
    (Builtin.clear_ #[26] ty #[.slice (some ⟨g, o, none⟩) 1 c]).run Try.prog w = .ok (.tuple #[]) (w.setCells g o [.int .i64 0, .slice none 0 0]) := by
  have hst := run_storeCells_cells (P := Try.prog) g o [.int .i64 0, .slice none 0 0] 0 w (fun j hj => by rw [h.cell]; have : j < 2 := hj; rw [List.getElem?_eq_getElem (by omega)]; rfl) (fun j _ => h.frozen _) (by simp [Value.oneCell'])
  have hz : (Builtin.zeroCells #[.int .i64 0, .slice none 0 0] 1).toList = [.int .i64 0, .slice none 0 0] := by kernel_rfl
  have hv : ∀ w, (zeroValue 61).run Try.prog w = .ok (.agg #[.int .i64 0, .slice none 0 0]) w := Try.zeroValue61
  simp only [Nat.add_zero] at hst
  simp [Builtin.clear_, run_underlying Try.underlying26, hv, Value.cells, hz, hst]
set_option linter.unusedSimpArgs false in
set_option linter.unusedVariables false in
set_option maxRecDepth 100000 in
set_option maxHeartbeats 8000000 in
theorem delete_any (B g m c : Nat) (xs : List Value) (w : World) (h : w.ownsRow B 61 2 (.slice (some ⟨g, 0, none⟩) (m + 1) c) (m + 1) xs) (hm : m + 1 ≤ 8) (h1 : ∀ v ∈ xs, v.oneCell' = true) :
    Calls Try.prog 53 #[.slice (some ⟨g, 0, none⟩) (m + 1) c, .int .i64 0, .int .i64 1] w fun e w' => e = .returned (.slice (some ⟨g, 0, none⟩) m c) ∧ w'.ownsRow B 61 2 (.slice (some ⟨g, 0, none⟩) m c) m (xs.drop 2) ∧ Turned w w' g := by
  obtain ⟨i0, hi, hz0, hz1, hz2⟩ := info_parts infoLog
  have hxl := h.1
  obtain ⟨cur, hBg, hblk, hmc, hcm, hcs, htk⟩ : ∃ cur : Array Value, B ≤ g ∧ w.heap[g]? = some (.cells cur 61 (0, 0)) ∧ m + 1 ≤ c ∧ c ≤ maxLen ∧ cur.size = c * 2 ∧ cur.toList.take ((m + 1) * 2) = xs := by
    rcases h.2 with ⟨hv, _⟩ | ⟨g', cap, cur, hv, a1, a2, a3, a4, a5, a6⟩
    · cases hv
    · cases hv
      exact ⟨cur, a1, a2, a3, a4, a5, a6⟩
  have hb : Blk w g 61 cur.toList := hblk
  have hcl : cur.toList.length = c * 2 := by simpa using hcs
  have hcm' : c ≤ 9223372036854775807 := hcm
  obtain ⟨news, hnews⟩ : ∃ news, news = xs.drop 2 := ⟨_, rfl⟩
  have hnl : news.length = m * 2 := by rw [hnews, List.length_drop, hxl]; omega
  obtain ⟨A, hA, hsrc⟩ : ∃ A : Addr, (if c = 1 then some (⟨g, 0, none⟩ : Addr) else some ⟨g, 2, none⟩) = some A ∧ Hid (∀ t u, news[t]? = some u → w.drew.cell? (A.add t) = some u) := by
    by_cases e : c = 1
    · refine ⟨⟨g, 0, none⟩, by simp [e], fun t u hu => ?_⟩
      have h0 : news.length = 0 := by rw [hnl]; omega
      rw [List.length_eq_zero_iff.1 h0] at hu
      simp at hu
    · refine ⟨⟨g, 2, none⟩, by simp [e], fun t u hu => ?_⟩
      have ht := (List.getElem?_eq_some_iff.1 hu).1
      rw [hnews, ← htk, List.getElem?_drop, List.getElem?_take] at hu
      rw [addr_add]
      refine (hb.drew.cell (2 + t)).trans ?_
      rw [if_pos (by omega)] at hu
      exact hu
  have s1 : Hid (news.length = m * 2) := hnl
  have s2 : Hid (∀ u ∈ news, u.oneCell' = true) := fun u hu => by rw [hnews] at hu; exact h1 u (List.mem_of_mem_drop hu)
  have s3 : Hid (∀ t, t < news.length → (w.drew.cell? ⟨g, 0 + 0 * 2 + t, none⟩).isSome = true ∧ w.drew.frozen? ⟨g, 0 + 0 * 2 + t, none⟩ = false) := by
    intro t ht
    refine ⟨?_, hb.drew.frozen _⟩
    rw [hb.drew.cell, List.getElem?_eq_getElem (by omega)]
    rfl
  obtain ⟨W1, hW1⟩ : ∃ W1, W1 = w.drew.setCells g (0 + 0 * 2) news := ⟨_, rfl⟩
  have hb1 : Blk W1 g 61 _ := hW1 ▸ blk_setCells news (0 + 0 * 2) _ _ hb.drew (by omega)
  have ht1 : Turned w W1 g := (turned_drew w g).trans (hW1 ▸ turned_setCells news (0 + 0 * 2) w.drew)
  have hl1 : (List.take (0 + 0 * 2) cur.toList ++ news ++ List.drop (0 + 0 * 2 + news.length) cur.toList).length = c * 2 := by simp [hcl, hnl]; omega
  have hcl1 := fun ty => clear1 W1 ty g (m * 2) (c - m) _ hb1 (by rw [hl1]; omega)
  have hb2 := blk_setCells [.int .i64 0, .slice none 0 0] (m * 2) _ _ hb1 (by rw [hl1]; show m * 2 + 2 ≤ _; omega)
  have ht2 := ht1.trans (turned_setCells [.int .i64 0, .slice none 0 0] (m * 2) W1)
  have HOW : Hid ((W1.setCells g (m * 2) [.int .i64 0, .slice none 0 0]).ownsRow B 61 2 (.slice (some ⟨g, 0, none⟩) m c) m (xs.drop 2)) := by
    refine ⟨hnews ▸ hnl, .inr ⟨g, c, _, rfl, hBg, hb2, by omega, hcm, ?_, ?_⟩⟩
    · simp [hcl, hnl]; omega
    · rw [← hnews]
      simp [hnl, List.take_append]
  have HT2 : Hid (Turned w (W1.setCells g (m * 2) [.int .i64 0, .slice none 0 0]) g) := ht2
  have hW : Hid (W1 = w.drew.setCells g (0 + 0 * 2) news) := hW1
  clear hW1 hb hb1 hb2 ht1 ht2 hl1 hcl hblk htk hnews hnl hcs h h1 hxl
  have mixed : Try.prog.follows Departure.mixedOrders = true := by kernel_rfl
  have hle : (1 : Int) ≤ (m : Int) + 1 := by omega
  have hmc2 : (m : Int) ≤ (c : Int) := by omega
  have hmc3 : m ≤ c := by omega
  go_enter Try.func53, Try.ntmps53
  go_wp2_with fail
  go_region_law_o (refine step_append_room rfl (.tmp 22) (.tmp 25) 26 rfl 61 i0 2 Try.underlying26 hi hz1 g 0 0 c (by simp [Act.eval, Act.put]) A m (c - 1) news (by simp [Act.eval, Act.put]) s1.out hsrc.out s2.out (by omega) s3.out ?_; rw [← hW.out])
  go_wp2
  go_ret
  exact ⟨rfl, HOW.out, HT2.out⟩
end Go.Proofs.Ythibaefoioeghaa
