/-
  The small calls of both disks that DiskDoes needs besides.
-/
import Derived.Test.YtdmnddikcpfmfaaGreatDkRWrite
import Derived.Test.YtdmnddikcpfmfaaGreatCkQC
namespace Go.Proofs.YtdmnddikcpfmfaaGreat
open Go.RowKit
theorem flat_cell (l : List (List Nat × Bool)) (sp : List Value) (hl : ∀ x ∈ l, Is x.1) (k : Nat) (x : List Nat × Bool) (hx : l[k]? = some x) (u : Bool) :
    (flatS l ++ sp).set (k * 257 + 256) (.bool u) = (flatS l ++ sp).take (k * 257) ++ secV (x.1, u) ++ (flatS l ++ sp).drop (k * 257 + (secV (x.1, u)).length) := by
  obtain ⟨hk, hg⟩ := List.getElem?_eq_some_iff.1 hx
  have hxl : x.1.length = 256 := (hl x (List.mem_of_getElem? hx)).1
  have e : l = l.take k ++ x :: l.drop (k + 1) := by rw [← hg, List.getElem_cons_drop, List.take_append_drop]
  have e1 : flatS l ++ sp = flatS (l.take k) ++ (vals x.1 ++ (.bool x.2 :: (flatS (l.drop (k + 1)) ++ sp))) := by
    conv => lhs; rw [e]
    simp [flatS, secV]
  have hlt : (flatS (l.take k)).length = k * 257 := by
    rw [flatS_length (fun y hy => hl y (List.mem_of_mem_take hy)), List.length_take, Nat.min_eq_left (by omega)]
  have hv : (vals x.1).length = 256 := by rw [vals_length, hxl]
  rw [secV_length (x := (x.1, u)) hxl, e1]
  generalize flatS (l.take k) = A at hlt ⊢
  generalize flatS (l.drop (k + 1)) ++ sp = B
  rw [← hlt, show A.length + 257 = A.length + (vals x.1 ++ [Value.bool x.2]).length from by simp [hv], show A.length + 256 = A.length + (vals x.1).length from by rw [hv], List.take_left' rfl, ← List.drop_drop, List.drop_left' rfl, show vals x.1 ++ Value.bool x.2 :: B = (vals x.1 ++ [Value.bool x.2]) ++ B from by simp, List.drop_left' rfl, List.set_append_right _ _ (by omega), show A.length + (vals x.1).length - A.length = (vals x.1).length from by omega, secV]
  simp
def hurtE (n : Nat) (i : Int) : Int := if hasB n i = true then 0 else 1
def hurtS (s : DS) (i : Int) : DS := if hasB s.secs.length i = true then { s with secs := s.secs.set i.toNat ((s.secs.getD i.toNat ([], false)).1, true) } else s
def hurtR (t : RS) (i : Int) : RS := if hasB t.secs.length i = true then { t with bad := t.bad.set i.toNat true } else t
theorem hurt_any {w : World} {d sb : Nat} {lv : Value} {s : DS} (h : DiskIn w d sb lv s) (i : Int) : Calls Tryz.prog 43 #[.pointer (some ⟨d, 0, none⟩), .int .i64 i] w fun e w' =>
    e = .returned (.int .i64 (hurtE s.secs.length i)) ∧ DAfter w w' d sb lv lv (hurtS s i) := by
  have hm := made_yes h
  have hh := has_any h i
  have h0 := h.c0
  have hn2 := h.n2
  cases hb : hasB s.secs.length i
  · rw [hb] at hh
    rw [show hurtE s.secs.length i = 1 from by simp [hurtE, hb], show hurtS s i = s from by simp [hurtS, hb]]
    go_enter Tryz.func43, Tryz.ntmps43
    go_wp2_with (first
      | (go_at_call 53; refine hm.mono ?_; rintro e w' ⟨rfl, hw'⟩; have hw2 := hw'.symm; subst hw2; clear hw')
      | (go_at_call 65; refine hh.mono ?_; rintro e w' ⟨rfl, hw'⟩; have hw2 := hw'.symm; subst hw2; clear hw'))
    go_ret
    exact ⟨rfl, DAfter.refl h⟩
  · rw [hb] at hh
    obtain ⟨k, rfl, hk⟩ := hasB_nat hb
    obtain ⟨x, hx⟩ : ∃ x, s.secs[k]? = some x := ⟨_, List.getElem?_eq_getElem hk⟩
    rw [show hurtE s.secs.length (k : Int) = 0 from by simp [hurtE, hb], show hurtS s (k : Int) = { s with secs := s.secs.set k (x.1, true) } from by simp [hurtS, hb, List.getD, hx]]
    have hu := h.hurt hx
    have hf := h.row.frozen (k * 257 + 256)
    have hst := h.row.set (k * 257 + 256) (.bool true)
    rw [flat_cell s.secs s.sp h.okS k x hx true] at hst
    have A := h.sector (u := true) hk (h.okS x (List.mem_of_getElem? hx)) hst (Turned.setCell w ⟨sb, k * 257 + 256, none⟩ (.bool true))
    clear hst hb
    go_enter Tryz.func43, Tryz.ntmps43
    go_wp2_with (first
      | (go_at_call 53; refine hm.mono ?_; rintro e w' ⟨rfl, hw'⟩; have hw2 := hw'.symm; subst hw2; clear hw')
      | (go_at_call 65; refine hh.mono ?_; rintro e w' ⟨rfl, hw'⟩; have hw2 := hw'.symm; subst hw2; clear hw'))
    go_ret
    exact ⟨rfl, A⟩
/-- The document's disk. -/
def rcutS (t : RS) (i : Int) : RS := { t with cut := decide (0 ≤ i), left := if 0 ≤ i then i else 0 }
theorem RefIn.turn {w w' : World} {r : Nat} {V : RV} {t : RS} (h : RefIn w r V t) (ht : Turned w w' r) (t' : RS) (hr : Blk w' r 66 (refV V t')) (h1 : t'.secs = t.secs) (h2 : t'.bad = t.bad) (h3 : t'.wrote = t.wrote) (h4 : t'.many ≤ 2000) (h5 : t'.cut = true → 0 ≤ t'.left) (h6 : -9223372036854775808 ≤ t'.left ∧ t'.left ≤ 9223372036854775807) : RAfter w w' r V V t' := by
  have s1 : ∀ x ∈ V.rs, ∀ a, x.p = some a → w'.heap[a.block]? = w.heap[a.block]? := fun x hx _ ha => ht.block _ ((h.su8 x hx).ne ha h.blk (by decide))
  have s2 : ∀ x ∈ V.ws, ∀ a, x.p = some a → w'.heap[a.block]? = w.heap[a.block]? := fun x hx _ ha => ht.block _ ((h.wu8 x hx).ne ha h.blk (by decide))
  refine ⟨⟨hr, owns_same h.srow (fun k hk => ht.block _ (h.nes hk)), ?_, h.su8.same s1, ?_, ?_, ?_, h.wu8.same s2, by rw [h1]; exact h.ok, by rw [h3]; exact h.wok, by rw [h1, h2]; exact h.bl, by rw [h1]; exact h.n1, by rw [h1]; exact h.n2, by rw [h3]; exact h.wl, h5, h4, h6⟩, Keep.of_turned ht (.inl rfl), fun k hk => .inl hk⟩
  · rw [h1]; exact h.sec.sameU h.su8 s1
  · rw [h2]; exact owns_same h.brow (fun k hk => ht.block _ (h.neb hk))
  · rw [h3]; exact owns_same h.wrow (fun k hk => ht.block _ (h.new hk))
  · rw [h3]; exact h.wec.sameU h.wu8 s2
theorem turned_two (w : World) (r i j : Nat) (u v : Value) : Turned w ((w.setCell ⟨r, i, none⟩ u).setCell ⟨r, j, none⟩ v) r := by
  have h1 := Turned.setCell w ⟨r, i, none⟩ u
  have h2 := Turned.setCell (w.setCell ⟨r, i, none⟩ u) ⟨r, j, none⟩ v
  exact ⟨rfl, rfl, rfl, h2.size.trans h1.size, fun k hk => (h2.block k hk).trans (h1.block k hk)⟩
theorem rcut_any {w : World} {r : Nat} {V : RV} {t : RS} (h : RefIn w r V t) (i : Int) (hi : -9223372036854775808 ≤ i ∧ i ≤ 9223372036854775807) : Calls Tryz.prog 42 #[.pointer (some ⟨r, 0, none⟩), .int .i64 i] w fun e w' => (∃ u, e = .returned u) ∧ RAfter w w' r V V (rcutS t i) := by
  have g3 := h.blk.cell' (i := 3) (v := .bool t.cut) rfl
  have f3 := h.blk.frozen 3
  have b1 := h.blk.set 3 (.bool (decide (0 ≤ i)))
  have g4 := b1.cell' (i := 4) (v := .int .i64 t.left) rfl
  have f4 := b1.frozen 4
  by_cases h0 : 0 ≤ i
  · have e : rcutS t i = { t with cut := decide (0 ≤ i), left := i } := by simp [rcutS, h0]
    have A := h.turn (turned_two w r 3 4 (.bool (decide (0 ≤ i))) (.int .i64 i)) { t with cut := decide (0 ≤ i), left := i } (b1.set 4 (.int .i64 i)) rfl rfl rfl h.lim (fun _ => h0) hi
    rw [e]
    have e1 : max i 0 = i := by omega
    rw [decide_eq_true h0] at b1 g4 f4 A ⊢
    clear b1 e
    go_enter Tryz.func42, Tryz.ntmps42
    go_wp2
    go_end0
    exact ⟨⟨_, rfl⟩, A⟩
  · have e : rcutS t i = { t with cut := decide (0 ≤ i), left := 0 } := by simp [rcutS, h0]
    have A := h.turn (turned_two w r 3 4 (.bool (decide (0 ≤ i))) (.int .i64 0)) { t with cut := decide (0 ≤ i), left := 0 } (b1.set 4 (.int .i64 0)) rfl rfl rfl h.lim (fun _ => by show (0 : Int) ≤ 0; omega) ⟨by show (_ : Int) ≤ 0; omega, by show (0 : Int) ≤ _; omega⟩
    rw [e]
    have e1 : max i 0 = 0 := by omega
    rw [decide_eq_false h0] at b1 g4 f4 A ⊢
    clear b1 e
    go_enter Tryz.func42, Tryz.ntmps42
    go_wp2
    go_end0
    exact ⟨⟨_, rfl⟩, A⟩
theorem rflush_any {w : World} {r : Nat} {V : RV} {t : RS} (h : RefIn w r V t) : Calls Tryz.prog 38 #[.pointer (some ⟨r, 0, none⟩)] w fun e w' => e = .returned (.int .i64 (powE (!t.gone))) ∧ w' = w := by
  have g2 := h.blk.cell' (i := 2) (v := .bool t.gone) rfl
  cases hg : t.gone <;> rw [hg] at g2
  · go_enter Tryz.func38, Tryz.ntmps38
    go_wp2
    go_ret
    exact ⟨rfl, rfl⟩
  · go_enter Tryz.func38, Tryz.ntmps38
    go_wp2
    go_ret
    exact ⟨rfl, rfl⟩
theorem rrestart_any {w : World} {r : Nat} {V : RV} {t : RS} (h : RefIn w r V t) : Calls Tryz.prog 12 #[.pointer (some ⟨r, 0, none⟩)] w fun e w' => (∃ u, e = .returned u) ∧ RAfter w w' r V V { t with gone := false, cut := false } := by
  have g2 := h.blk.cell' (i := 2) (v := .bool t.gone) rfl
  have f2 := h.blk.frozen 2
  have A := h.cell 2 (.bool false) { t with gone := false } rfl rfl rfl rfl h.lim h.lc h.le
  have g3 := A.ref.blk.cell' (i := 3) (v := .bool t.cut) rfl
  have f3 := A.ref.blk.frozen 3
  have B := A.ref.cell 3 (.bool false) { t with gone := false, cut := false } rfl rfl rfl rfl h.lim (fun e => by simp at e) h.le
  go_enter Tryz.func12, Tryz.ntmps12
  go_wp2
  go_end0
  exact ⟨⟨_, rfl⟩, A.trans B⟩
theorem rhurt_any {w : World} {r : Nat} {V : RV} {t : RS} (h : RefIn w r V t) (i : Int) : Calls Tryz.prog 44 #[.pointer (some ⟨r, 0, none⟩), .int .i64 i] w fun e w' => e = .returned (.int .i64 (hurtE t.secs.length i)) ∧ RAfter w w' r V V (hurtR t i) := by
  have hh := there_any h i
  cases hb : hasB t.secs.length i
  · rw [hb] at hh
    rw [show hurtE t.secs.length i = 1 from by simp [hurtE, hb], show hurtR t i = t from by simp [hurtR, hb]]
    go_enter Tryz.func44, Tryz.ntmps44
    go_wp2_with (go_at_call 87; refine hh.mono ?_; rintro e w' ⟨rfl, hw'⟩; have hw2 := hw'.symm; subst hw2; clear hw')
    go_ret
    exact ⟨rfl, RAfter.refl h⟩
  · rw [hb] at hh
    obtain ⟨k, rfl, hk⟩ := hasB_nat hb
    rw [show hurtE t.secs.length (k : Int) = 0 from by simp [hurtE, hb], show hurtR t (k : Int) = { t with bad := t.bad.set k true } from by simp [hurtR, hb]]
    obtain ⟨gb, capb, hbv, _, _⟩ := owns_at h.brow (by rw [h.bl]; omega)
    have g1 := h.blk.cell' (i := 1) (v := V.bv) rfl
    obtain ⟨nb, hbn⟩ : ∃ nb, t.bad.length = nb := ⟨_, rfl⟩
    have hkb : k < nb := by have := h.bl; omega
    have hn8 : nb ≤ 8192 := by have := h.bl; have := h.n2; omega
    have hg : V.bv.ownBlock = some gb := by rw [hbv]; rfl
    rw [hbv, hbn] at g1
    obtain ⟨cur, hcur, _⟩ := owns_row h.brow hg
    have A := h.badset k true hg
    have q := h.brow
    rw [hbn, hbv, hbn] at q
    have hc : w.cell? ⟨gb, k, none⟩ = some (.bool (t.bad.getD k false)) := by rw [q.cellAt k (by omega)]; exact bo_get _ _ (by rw [hbn]; omega)
    have hf : w.frozen? ⟨gb, k, none⟩ = false := frozen_of_row w gb k _ _ hcur
    clear hb
    go_enter Tryz.func44, Tryz.ntmps44
    go_wp2_with (go_at_call 87; refine hh.mono ?_; rintro e w' ⟨rfl, hw'⟩; have hw2 := hw'.symm; subst hw2; clear hw')
    go_ret
    exact ⟨rfl, A⟩
end Go.Proofs.YtdmnddikcpfmfaaGreat

namespace Go.Proofs.YtdmnddikcpfmfaaGreat
open Go.RowKit Go.Shelf
/-- The blocks that Sync writes. -/
def syL (n : Nat) (l : List BP) (CL : Nat) : List Int := (dirtQ n l CL).filter fun k => decide (pinI l k = 0)
def syQ (l : List BP) (t : RS) (CL : Nat) : Int × List BP × RS :=
  if (clQL l t (syL t.secs.length l CL)).1 = 0 then (powE (!(clQL l t (syL t.secs.length l CL)).2.2.gone), (clQL l t (syL t.secs.length l CL)).2) else clQL l t (syL t.secs.length l CL)
theorem filter_take (f : Int → Bool) (l : List Int) (k : Nat) (h : k < l.length) : (l.take (k + 1)).filter f = if f (eI l k) = true then (l.take k).filter f ++ [eI l k] else (l.take k).filter f := by
  rw [takeI_succ l k h, List.filter_append]
  split
  · rename_i hf; simp [hf]
  · rename_i hf; simp [hf]
theorem qsync_no {w : World} {s : QS} (cl : Int) (hC : ¬ (cl = 1 ∨ cl = 2)) : Calls Tryz.prog 36 #[.pointer (some ⟨s.q, 0, none⟩), .int .i64 cl] w fun e w' => e = .returned (.int .i64 1) ∧ w' = w := by
  have q1 : (cl != 1) = true := by simp; omega
  have q2 : (cl != 2) = true := by simp; omega
  clear hC
  go_enter Tryz.func36, Tryz.ntmps36
  go_wp2
  go_ret
  exact ⟨rfl, rfl⟩
set_option linter.unusedSimpArgs false in
set_option maxHeartbeats 4000000 in
set_option maxRecDepth 100000 in
theorem qsync_any {w : World} {s : QS} (h : QIn w s) (CL : Nat) (hC : CL = 1 ∨ CL = 2) (hm1 : s.t.many + dirtyN s.P < 2000) (hm2 : s.t.wrote.length + dirtyN s.P < 2000) : Calls Tryz.prog 36 #[.pointer (some ⟨s.q, 0, none⟩), .int .i64 (CL : Int)] w fun e w' =>
    e = .returned (.int .i64 (syQ s.P s.t CL).1) ∧ ∃ s', QAfter w w' s s' ∧ s'.P = (syQ s.P s.t CL).2.1 ∧ s'.t = (syQ s.P s.t CL).2.2 := by
  obtain ⟨i0, hi, hz0, hz1, hz2⟩ := info_parts info3
  have hn2 := h.ref.n2
  have hdl := dirtQ_len s.t.secs.length s.P CL
  have hdi := qdirty_any h CL hC
  obtain ⟨D, hD⟩ : ∃ D, dirtQ s.t.secs.length s.P CL = D := ⟨_, rfl⟩
  obtain ⟨E, hE⟩ : ∃ E, syL s.t.secs.length s.P CL = E := ⟨_, rfl⟩
  have hDE : D.filter (fun k => decide (pinI s.P k = 0)) = E := by rw [← hE, ← hD]; rfl
  rw [hD] at hdl hdi
  obtain ⟨R, hR⟩ : ∃ R, syQ s.P s.t CL = R := ⟨_, rfl⟩
  have HR : Hid ((if (clQL s.P s.t E).1 = 0 then (powE (!(clQL s.P s.t E).2.2.gone), (clQL s.P s.t E).2) else clQL s.P s.t E) = R) := by show _ = _; rw [← hE]; exact hR
  rw [hR]
  have HDE : Hid (D.filter (fun k => decide (pinI s.P k = 0)) = E) := hDE
  have HDL : Hid (D.length ≤ 8192) := by show _ ≤ _; omega
  have hDi : (D.length : Int) ≤ 8192 := by omega
  have HM : Hid (s.t.many + dirtyN s.P < 2000 ∧ s.t.wrote.length + dirtyN s.P < 2000) := ⟨hm1, hm2⟩
  have q12 : ((CL : Int) != 1) = false ∨ (((CL : Int) != 1) = true ∧ ((CL : Int) != 2) = false) := by
    rcases hC with e | e
    · exact .inl (by rw [e]; rfl)
    · exact .inr ⟨by rw [e]; rfl, by rw [e]; rfl⟩
  clear hD hE hR hDE hm1 hm2 hn2 hdl
  rcases q12 with q1 | ⟨q1, q2⟩
  all_goals
    clear hC
    go_enter Tryz.func36, Tryz.ntmps36
    go_wp2_with fail
    refine hdi.mono ?_
    rintro e w1 ⟨pd, nd, cd, rfl, hind, hb1, hnew⟩
    have hnl := hind.len
    subst hnl
    go_wp2
    go_loopw [5, 7] (fun v i wr => ∃ (k m : Nat) (pv : Option Addr) (cv : Nat), i = .int .i64 (k : Int) ∧ k ≤ D.length ∧ v = .slice pv m cv ∧ Hid (((D.take k).filter (fun k => decide (pinI s.P k = 0))).length = m) ∧ wr.ownsRow w1.heap.size 3 1 (.slice pv m cv) m (valsI ((D.take k).filter (fun k => decide (pinI s.P k = 0)))) ∧ Below w1.heap.size w1 wr) (fun _ i _ => D.length - (intOf i).toNat)
    case atStart => exact ⟨0, 0, none, 0, rfl, Nat.zero_le _, rfl, rfl, World.ownsRow_nil _ _ _ _, Below.refl _ _⟩
    case round =>
      obtain ⟨k, m, pv, cv, rfl, hk, rfl, HM1, hown, hbel⟩ := hrel
      have hr := h.below (bt hb1 hbel)
      have hszb := hbel.size
      by_cases hkn : k < D.length
      · obtain ⟨b, o, rfl, hlt, hcell⟩ := (hind.below hbel).at' (by omega)
        have hck := hcell k hkn
        have hft := filter_take (fun k => decide (pinI s.P k = 0)) D k hkn
        have hp := qpins_any hr (eI D k)
        have hml : m ≤ k := by rw [← HM1.out]; exact Nat.le_trans (List.length_filter_le _ _) (by rw [List.length_take]; omega)
        have hml2 : m ≤ 8192 := by have := HDL.out; omega
        obtain ⟨z, hz⟩ : ∃ z, z = eI D k := ⟨_, rfl⟩
        rw [← hz] at hck hp hft
        clear hcell hz hml
        by_cases hpz : pinI s.P z = 0
        · rw [if_pos (by simp [hpz])] at hft
          have HF : Hid ((D.take (k + 1)).filter (fun k => decide (pinI s.P k = 0)) = (D.take k).filter (fun k => decide (pinI s.P k = 0)) ++ [z]) := hft
          rw [hpz] at hp
          clear hft hpz
          go_wp2_with (first | (go_at_call 45; refine hp.mono ?_; rintro e w' ⟨rfl, hw'⟩; have hw2 := hw'.symm; subst hw2; clear hw') | (at_builtin; refine wpList_append_own _ rfl (.tmp 31) (.tmp 36) 40 rfl w1.heap.size 3 i0 (.int .i64 0) 1 8 Tryz.underlying40 hi hz0 hz1 hz2 rfl (by decide) (.slice pv m cv) m _ rfl (hown.alloc _) ⟨wr.heap.size, 0, none⟩ 1 1 [.int .i64 z] rfl rfl (new_one wr _) (by simp [Value.oneCell']) (by unfold maxLen; omega) (by omega) (by rw [World.size_alloc]; omega) ?_; intro v1 w2 hown1 hgrow1 _))
          obtain ⟨p1, c1, rfl⟩ := owns_slice hown1
          have hbel1 := below_app1 hbel (Nat.le_refl _) hown hgrow1
          go_roundw
          case rel => exact ⟨k + 1, m + 1, p1, c1, by go_num, by omega, rfl, by show _ = _; rw [HF.out, List.length_append, HM1.out]; rfl, by rw [HF.out, valsI_append]; exact hown1, hbel1⟩
          case measure => simp [intOf]; omega
        · rw [if_neg (by simp [hpz])] at hft
          have HF : Hid ((D.take (k + 1)).filter (fun k => decide (pinI s.P k = 0)) = (D.take k).filter (fun k => decide (pinI s.P k = 0))) := hft
          generalize pinI s.P z = pz at *
          have hpz' : (pz == 0) = false := by simpa using hpz
          clear hft hpz
          go_wp2_with (go_at_call 45; refine hp.mono ?_; rintro e w' ⟨rfl, hw'⟩; have hw2 := hw'.symm; subst hw2; clear hw')
          go_roundw
          case rel => exact ⟨k + 1, m, pv, cv, by go_num, by omega, rfl, by rw [HF.out]; exact HM1, by rw [HF.out]; exact hown, hbel⟩
          case measure => simp [intOf]; omega
      · obtain rfl : k = D.length := by omega
        rw [List.take_length, HDE.out] at hown HM1
        obtain ⟨p9, c9, hv9, hin9⟩ := in_of_ownsI hown (by rw [← HM1.out, ← HDE.out]; have := List.length_filter_le (fun k => decide (pinI s.P k = 0)) D; have := HDL.out; omega)
        cases hv9
        have hIq : IntsQ wr s pv m cv E := ⟨hin9, fun a ha _ hf => by have h1 := owns_newQ hown a ha; have h2 := h.lt hf; have := hb1.size; omega⟩
        have hcq := qclean_any hr pv m cv E hIq HM.out.1 HM.out.2
        have hR2 := HR.out
        generalize clQL s.P s.t E = C at *
        obtain ⟨ce, cl, ct⟩ := C
        dsimp only at hcq hR2
        clear HR hown hk hkn
        go_wp2_with fail
        refine hcq.mono ?_
        rintro e w2 ⟨rfl, s', hA, hP, hT⟩
        have hq := hA.q
        have hA2 : QAfter w w2 s s' := hA.drop (bt hb1 hbel)
        by_cases hce : ce = 0
        · rw [if_pos hce] at hR2
          subst hce
          subst hR2
          have c0 := hA.qin.blk.cell' (i := 0) (v := .pointer (some ⟨s'.g, 0, none⟩)) rfl
          have hfl := rflush_any hA.qin.ref
          rw [hT] at hfl
          rw [hq] at c0
          clear hq
          go_wp2_with (go_at_call 38; refine hfl.mono ?_; rintro e w' ⟨rfl, hw'⟩; have hw2 := hw'.symm; subst hw2; clear hw')
          go_ret
          exact ⟨rfl, s', hA2, hP, hT⟩
        · rw [if_neg hce] at hR2
          subst hR2
          have hce' : (ce != 0) = true := by simpa using hce
          clear hq
          go_wp2
          go_ret
          exact ⟨rfl, s', hA2, hP, hT⟩
end Go.Proofs.YtdmnddikcpfmfaaGreat
