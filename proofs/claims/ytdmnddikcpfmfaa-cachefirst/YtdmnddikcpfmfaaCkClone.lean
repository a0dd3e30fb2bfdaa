/-
  What Clone makes.
-/
import Derived.Test.YtdmnddikcpfmfaaCkMust
import Derived.Lib.LazyBuf
namespace Go.Proofs.Ytdmnddikcpfmfaa
open Go.RowKit
theorem owns_zero {w : World} {B : Nat} {e : TypeId} {z : Nat} {v : Value} {n : Nat} {xs : List Value} (h : w.ownsRow B e z v n xs) : w.ownsRow 0 e z v n xs := by
  refine ⟨h.1, ?_⟩
  rcases h.2 with h' | ⟨g, cap, cur, rfl, _, hr⟩
  · exact .inl h'
  · exact .inr ⟨g, cap, cur, rfl, Nat.zero_le _, hr⟩
theorem owns_at {w : World} {B : Nat} {e : TypeId} {z : Nat} {v : Value} {n : Nat} {xs : List Value} (h : w.ownsRow B e z v n xs) (h0 : 0 < n) : ∃ g cap, v = .slice (some ⟨g, 0, none⟩) n cap ∧ g < w.heap.size ∧ n ≤ cap := by
  rcases h.2 with ⟨rfl, hn⟩ | ⟨g, cap, cur, rfl, _, hh, hc, _⟩
  · omega
  · refine ⟨g, cap, rfl, ?_, hc⟩
    rcases Nat.lt_or_ge g w.heap.size with h' | h'
    · exact h'
    · rw [Array.getElem?_eq_none h'] at hh; simp at hh
theorem flatS_one (l : List (List Nat × Bool)) : ∀ v ∈ flatS l, v.oneCell' = true := by
  intro v hv
  obtain ⟨m, hm, hv⟩ := List.mem_flatten.1 hv
  obtain ⟨x, _, rfl⟩ := List.mem_map.1 hm
  exact secV_one x v hv
theorem flatW_one (l : List (Nat × List Nat)) : ∀ v ∈ flatW l, v.oneCell' = true := by
  intro v hv
  obtain ⟨m, hm, hv⟩ := List.mem_flatten.1 hv
  obtain ⟨x, _, rfl⟩ := List.mem_map.1 hm
  exact wrV_one x v hv

set_option maxRecDepth 100000 in
theorem cloneSc_any (b o c n : Nat) (xs : List Value) (w : World) (hn : 1 ≤ n) (hn2 : n ≤ 10000) (hl : xs.length = n * 257) (hx : ∀ j u, xs[j]? = some u → w.cell? ⟨b, o + j, none⟩ = some u) (h1 : ∀ u ∈ xs, u.oneCell' = true) (hb : b < w.heap.size) :
    Calls Try.prog 49 #[.slice (some ⟨b, o, none⟩) n c] w fun e w' => ∃ v, e = .returned v ∧ w'.ownsRow w.heap.size 82 257 v n xs ∧ Below w.heap.size w w' := by
  obtain ⟨i0, hi, hz0, hz1, hz2⟩ := info_parts infoSec
  have hq := fun (w : World) => Lib.run_eql_slice_nil (P := Try.prog) w 63 82 (some ⟨b, o, none⟩) n c 0 0 Try.underlying63
  have ho := World.ownsRow_lit (e := 82) (size := 257) (base := w.heap.size) w #[] 0 (Nat.le_refl _) (by unfold maxLen; omega) (by simp)
  have HO : Hid ((w.alloc (.cells #[] 82)).ownsRow w.heap.size 82 257 (.slice (some ⟨w.heap.size, 0, none⟩) 0 0) 0 []) := ho
  have HX : Hid (xs.length = n * 257) := hl
  clear ho hl
  have hb0 := below_alloc w (.cells #[] 82)
  go_enter Try.func49, Try.ntmps49
  go_wp2_with (at_builtin; refine wpList_append_own _ rfl (.tmp 5) (.tmp 6) 63 rfl w.heap.size 82 i0 _ 257 257 Try.underlying63 hi hz0 hz1 hz2 (by rw [Value.cells, List.size_toArray]; exact secV_length z256_length) (by decide) (.slice (some ⟨w.heap.size, 0, none⟩) 0 0) 0 [] rfl HO.out ⟨b, o, none⟩ n c xs rfl HX.out (fun j u hj => by rw [addr_add]; exact (hb0.cell (p := ⟨b, o + j, none⟩) hb).trans (hx j u hj)) h1 (by unfold maxLen; omega) (by omega) hb0.size ?_; intro v1 w1 hown1 hgrow1 _)
  go_ret
  rw [List.nil_append, Nat.zero_add] at hown1
  exact ⟨v1, rfl, hown1, hb0.grown hgrow1 (by simp) (fun k hk => by simp [Value.ownBlock] at hk; omega)⟩

set_option maxRecDepth 100000 in
theorem cloneWr_any (b o c n : Nat) (xs : List Value) (w : World) (hn : 1 ≤ n) (hn2 : n ≤ 10000) (hl : xs.length = n * 257) (hx : ∀ j u, xs[j]? = some u → w.cell? ⟨b, o + j, none⟩ = some u) (h1 : ∀ u ∈ xs, u.oneCell' = true) (hb : b < w.heap.size) :
    Calls Try.prog 50 #[.slice (some ⟨b, o, none⟩) n c] w fun e w' => ∃ v, e = .returned v ∧ w'.ownsRow w.heap.size 87 257 v n xs ∧ Below w.heap.size w w' := by
  obtain ⟨i0, hi, hz0, hz1, hz2⟩ := info_parts infoWr
  have hq := fun (w : World) => Lib.run_eql_slice_nil (P := Try.prog) w 64 87 (some ⟨b, o, none⟩) n c 0 0 Try.underlying64
  have ho := World.ownsRow_lit (e := 87) (size := 257) (base := w.heap.size) w #[] 0 (Nat.le_refl _) (by unfold maxLen; omega) (by simp)
  have HO : Hid ((w.alloc (.cells #[] 87)).ownsRow w.heap.size 87 257 (.slice (some ⟨w.heap.size, 0, none⟩) 0 0) 0 []) := ho
  have HX : Hid (xs.length = n * 257) := hl
  clear ho hl
  have hb0 := below_alloc w (.cells #[] 87)
  go_enter Try.func50, Try.ntmps50
  go_wp2_with (at_builtin; refine wpList_append_own _ rfl (.tmp 5) (.tmp 6) 64 rfl w.heap.size 87 i0 _ 257 264 Try.underlying64 hi hz0 hz1 hz2 (by rw [Value.cells, List.size_toArray]; exact wrV_length z256_length) (by decide) (.slice (some ⟨w.heap.size, 0, none⟩) 0 0) 0 [] rfl HO.out ⟨b, o, none⟩ n c xs rfl HX.out (fun j u hj => by rw [addr_add]; exact (hb0.cell (p := ⟨b, o + j, none⟩) hb).trans (hx j u hj)) h1 (by unfold maxLen; omega) (by omega) hb0.size ?_; intro v1 w1 hown1 hgrow1 _)
  go_ret
  rw [List.nil_append, Nat.zero_add] at hown1
  exact ⟨v1, rfl, hown1, hb0.grown hgrow1 (by simp) (fun k hk => by simp [Value.ownBlock] at hk; omega)⟩

theorem cloneWr_nil (c : Nat) (w : World) : Calls Try.prog 50 #[.slice none 0 c] w fun e w' => e = .returned (.slice none 0 0) ∧ w' = w := by
  have hq := fun (w : World) => Lib.run_eql_slice_nil (P := Try.prog) w 64 87 none 0 c 0 0 Try.underlying64
  go_enter Try.func50, Try.ntmps50
  go_wp2
  go_ret
  exact ⟨rfl, rfl⟩
theorem cloneWr_zero (a : Addr) (c : Nat) (w : World) : Calls Try.prog 50 #[.slice (some a) 0 c] w fun e w' => ∃ v, e = .returned v ∧ w'.ownsRow w.heap.size 87 257 v 0 [] ∧ Below w.heap.size w w' := by
  obtain ⟨i0, hi, hz0, hz1, hz2⟩ := info_parts infoWr
  have hq := fun (w : World) => Lib.run_eql_slice_nil (P := Try.prog) w 64 87 (some a) 0 c 0 0 Try.underlying64
  have ho := World.ownsRow_lit (e := 87) (size := 257) (base := w.heap.size) w #[] 0 (Nat.le_refl _) (by unfold maxLen; omega) (by simp)
  have HO : Hid ((w.alloc (.cells #[] 87)).ownsRow w.heap.size 87 257 (.slice (some ⟨w.heap.size, 0, none⟩) 0 0) 0 []) := ho
  clear ho
  go_enter Try.func50, Try.ntmps50
  go_wp2_with (at_builtin; refine wpList_append_own_none rfl (.tmp 5) (.tmp 6) 64 rfl w.heap.size 87 i0 257 Try.underlying64 hi (.slice (some ⟨w.heap.size, 0, none⟩) 0 0) 0 [] rfl HO.out rfl ?_)
  go_ret
  exact ⟨_, rfl, HO.out, below_alloc w _⟩
theorem cloneLog_any {w : World} {lv : Value} {l : List (Nat × List Nat)} (h : w.ownsRow 0 87 257 lv l.length (flatW l)) (hok : ∀ x ∈ l, Is x.2) (hl : l.length ≤ 1024) :
    Calls Try.prog 50 #[lv] w fun e w' => ∃ v, e = .returned v ∧ w'.ownsRow w.heap.size 87 257 v l.length (flatW l) ∧ Below w.heap.size w w' := by
  rcases Nat.eq_zero_or_pos l.length with h0 | h0
  · have hnil : l = [] := List.eq_nil_of_length_eq_zero h0
    subst hnil
    rcases h.2 with ⟨rfl, _⟩ | ⟨g, cap, cur, rfl, _⟩
    · refine (cloneWr_nil 0 w).mono ?_
      rintro e w' ⟨rfl, rfl⟩
      exact ⟨_, rfl, World.ownsRow_nil _ _ _ _, Below.refl _ _⟩
    · exact cloneWr_zero _ cap w
  · obtain ⟨g, cap, rfl, hlt, _⟩ := owns_at h h0
    refine cloneWr_any g 0 cap l.length (flatW l) w h0 (by omega) (flatW_length hok) (fun j u hj => ?_) (flatW_one l) hlt
    have hj' : j < l.length * 257 := by have := (List.getElem?_eq_some_iff.1 hj).1; rw [flatW_length hok] at this; exact this
    rw [Nat.zero_add, h.cellAt j hj', hj]
theorem heap_cell_other (w : World) (a : Addr) (v : Value) (b : Addr) (hne : b.block ≠ a.block) : (w.setCell a v).cell? b = w.cell? b := by
  simp only [World.cell?, heap_setCell_other w a b.block v hne]
/-- A row with room behind it, as a block. -/
theorem owns_spare {w : World} {B : Nat} {e : TypeId} {z : Nat} {v : Value} {n : Nat} {xs : List Value} (h : w.ownsRow B e z v n xs) (h0 : 0 < n) : ∃ g cap sp, v = .slice (some ⟨g, 0, none⟩) n cap ∧ n ≤ cap ∧ B ≤ g ∧ Blk w g e (xs ++ sp) := by
  rcases h.2 with ⟨_, hn⟩ | ⟨g, cap, cur, rfl, hg, hh, hc, _, _, ht⟩
  · omega
  · refine ⟨g, cap, cur.toList.drop (n * z), rfl, hc, hg, ?_⟩
    rw [Blk, hh, ← ht, List.take_append_drop]
set_option linter.unusedSimpArgs false in
set_option maxRecDepth 100000 in
set_option maxHeartbeats 2000000 in
theorem cloneD_any {w : World} {d sb : Nat} {lv : Value} {s : DS} (h : DiskIn w d sb lv s) :
    Calls Try.prog 22 #[.pointer (some ⟨d, 0, none⟩)] w fun e w' => Below w.heap.size w w' ∧ ∃ d2 sb2 lv2 cap sp, e = .returned (.pointer (some ⟨d2, 0, none⟩)) ∧ (∀ k, fpD d2 sb2 lv2 k → w.heap.size ≤ k) ∧ DiskIn w' d2 sb2 lv2 { s with cap := cap, sp := sp } := by
  obtain ⟨q, cq, rfl⟩ := owns_slice h.log
  have hm := made_yes h
  have c0 := h.c0
  have c1 := h.c1
  have c2 := h.c2
  have c3 := h.c3
  have c4 := h.c4
  have hb1 := below_alloc w (.cells (ramV sb (.slice q s.log.length cq) s).toArray 66)
  have g1 := Blk.new w 66 (ramV sb (.slice q s.log.length cq) s)
  unfold ramV at g1 hb1
  have hfl := flatS_length h.okS
  have hn2 := h.n2
  have hcs := fun (W : World) (hW : Below w.heap.size w W) => cloneSc_any sb 0 s.cap s.secs.length (flatS s.secs) W h.n1 (by omega) hfl (fun j u hj => by
    rw [Nat.zero_add]
    refine ((h.row.kept hW).cell' ?_)
    rw [List.getElem?_append_left (List.getElem?_eq_some_iff.1 hj).1]
    exact hj) (flatS_one _) (Nat.lt_of_lt_of_le h.row.lt hW.size)
  have hll : s.log.length ≤ 1024 := by have := h.ll; have := h.lw; omega
  go_enter Try.func22, Try.ntmps22
  have c0a := (hb1.cell (p := ⟨d, 0, none⟩) h.ram.lt).trans c0
  have hdw := h.ram.lt
  go_wp2_with (first
    | (go_at_call 48; refine hm.mono ?_; rintro e w' ⟨rfl, hw'⟩; have hw2 := hw'.symm; subst hw2; clear hw')
    | (go_at_call 49; refine (hcs _ hb1).mono ?_; rintro e w2 ⟨v2, rfl, hown2, hb2⟩; obtain ⟨sb2, cap, sp, rfl, hcap, hsb2, hrow2⟩ := owns_spare hown2 h.n1; have g2 := g1.kept hb2; have k0 := g2.cell' (i := 0) rfl; have f0 := g2.frozen 0; have k4 := (heap_cell_other w2 ⟨w.heap.size, 0, none⟩ (.slice (some ⟨sb2, 0, none⟩) s.secs.length cap) ⟨d, 4, none⟩ (by exact Nat.ne_of_lt hdw)).trans (((bt hb1 hb2).cell (p := ⟨d, 4, none⟩) h.ram.lt).trans c4)))
  have g3 := g2.set 0 (.slice (some ⟨sb2, 0, none⟩) s.secs.length cap)
  have hL3 : (w2.setCell ⟨w.heap.size, 0, none⟩ (.slice (some ⟨sb2, 0, none⟩) s.secs.length cap)).ownsRow 0 87 257 (.slice q s.log.length cq) s.log.length (flatW s.log) := owns_same (owns_below h.log (bt hb1 hb2)) (fun k hk => heap_setCell_other _ _ _ _ (by have := h.lt (.inr (.inr hk)); exact Nat.ne_of_lt this))
  have r3 : Blk (w2.setCell ⟨w.heap.size, 0, none⟩ (.slice (some ⟨sb2, 0, none⟩) s.secs.length cap)) sb2 82 (flatS s.secs ++ sp) := hrow2.setOther _ _ (blk_ne hrow2 g2 (by decide))
  have b3 : Below w.heap.size w (w2.setCell ⟨w.heap.size, 0, none⟩ (.slice (some ⟨sb2, 0, none⟩) s.secs.length cap)) := (Turned.setCell w2 ⟨w.heap.size, 0, none⟩ _).below (bt hb1 hb2) (Nat.le_refl _)
  generalize w2.setCell ⟨w.heap.size, 0, none⟩ (.slice (some ⟨sb2, 0, none⟩) s.secs.length cap) = w3 at *
  rw [World.size_alloc] at hsb2
  refine (cloneLog_any hL3 h.okL hll).mono ?_
  rintro e w4 ⟨v4, rfl, hown4, hb4⟩
  obtain ⟨q4, cq4, rfl⟩ := owns_slice hown4
  have g4 := g3.kept hb4
  have k4' := g4.cell' (i := 4) rfl
  have f4 := g4.frozen 4
  have r4 := r3.kept hb4
  go_wp2_with fail
  go_ret
  have ne4 : ∀ k, (Value.slice q4 s.log.length cq4).ownBlock = some k → k ≠ w.heap.size := fun k hk => owns_ne hown4 hk g4 (by decide)
  have b4 := bt b3 hb4
  refine ⟨(Turned.setCell w4 ⟨w.heap.size, 4, none⟩ _).below b4 (Nat.le_refl _), w.heap.size, sb2, .slice q4 s.log.length cq4, cap, sp, rfl, ?_, ?_⟩
  · rintro k (rfl | rfl | hk)
    · exact Nat.le_refl _
    · omega
    · exact Nat.le_trans b3.size (hown4.lt k hk).1
  · exact ⟨g4.set 4 _, r4.setOther _ _ (blk_ne (t := 82) (u := 66) r4 g4 (by decide)), owns_zero (owns_same hown4 (fun k hk => heap_setCell_other _ _ _ _ (ne4 k hk))), h.okS, h.okL, h.n1, h.n2, h.ll, h.lw, hcap, h.le⟩
end Go.Proofs.Ytdmnddikcpfmfaa
