/-
  The small calls of both disks that DiskDoes needs besides.
-/
import Derived.Test.YtbnnekpglnnneaaDkRWrite
namespace Go.Proofs.Ytbnnekpglnnneaa
open Go.RowKit
theorem flat_cell (l : List (List Nat × Bool)) (sp : List Value) (hl : ∀ x ∈ l, Is x.1) (k : Nat) (x : List Nat × Bool) (hx : l[k]? = some x) (u : Bool) :
    (flatS l ++ sp).set (k * 257 + 256) (.bool u) = (flatS l ++ sp).take (k * 257) ++ secV (x.1, u) ++ (flatS l ++ sp).drop (k * 257 + (secV (x.1, u)).length) := by
  obtain ⟨hk, hg⟩ := List.getElem?_eq_some_iff.1 hx
  have hxl : x.1.length = 256 := (hl x (List.mem_of_getElem? hx)).1
  have e : l = l.take k ++ x :: l.drop (k + 1) := by rw [← hg, List.getElem_cons_drop, List.take_append_drop]
  have e1 : flatS l ++ sp = flatS (l.take k) ++ (vals x.1 ++ (.bool x.2 :: (flatS (l.drop (k + 1)) ++ sp))) := by
    conv => lhs; rw [e]
    simp [flatS, secV]
  have hlt : (flatS (l.take k)).length = k * 257 := by
    rw [flatS_length (fun y hy => hl y (List.mem_of_mem_take hy)), List.length_take, Nat.min_eq_left (by omega)]
  have hv : (vals x.1).length = 256 := by rw [vals_length, hxl]
  rw [secV_length (x := (x.1, u)) hxl, e1]
  generalize flatS (l.take k) = A at hlt ⊢
  generalize flatS (l.drop (k + 1)) ++ sp = B
  rw [← hlt, show A.length + 257 = A.length + (vals x.1 ++ [Value.bool x.2]).length from by simp [hv], show A.length + 256 = A.length + (vals x.1).length from by rw [hv], List.take_left' rfl, ← List.drop_drop, List.drop_left' rfl, show vals x.1 ++ Value.bool x.2 :: B = (vals x.1 ++ [Value.bool x.2]) ++ B from by simp, List.drop_left' rfl, List.set_append_right _ _ (by omega), show A.length + (vals x.1).length - A.length = (vals x.1).length from by omega, secV]
  simp
def hurtE (n : Nat) (i : Int) : Int := if hasB n i = true then 0 else 1
def hurtS (s : DS) (i : Int) : DS := if hasB s.secs.length i = true then { s with secs := s.secs.set i.toNat ((s.secs.getD i.toNat ([], false)).1, true) } else s
def hurtR (t : RS) (i : Int) : RS := if hasB t.secs.length i = true then { t with bad := t.bad.set i.toNat true } else t
theorem hurt_any {w : World} {d sb : Nat} {lv : Value} {s : DS} (h : DiskIn w d sb lv s) (i : Int) : Calls Try.prog 33 #[.pointer (some ⟨d, 0, none⟩), .int .i64 i] w fun e w' =>
    e = .returned (.int .i64 (hurtE s.secs.length i)) ∧ DAfter w w' d sb lv lv (hurtS s i) := by
  have hm := made_yes h
  have hh := has_any h i
  have h0 := h.c0
  have hn2 := h.n2
  cases hb : hasB s.secs.length i
  · rw [hb] at hh
    rw [show hurtE s.secs.length i = 1 from by simp [hurtE, hb], show hurtS s i = s from by simp [hurtS, hb]]
    go_enter Try.func33, Try.ntmps33
    go_wp2_with (first
      | (go_at_call 40; refine hm.mono ?_; rintro e w' ⟨rfl, hw'⟩; have hw2 := hw'.symm; subst hw2; clear hw')
      | (go_at_call 44; refine hh.mono ?_; rintro e w' ⟨rfl, hw'⟩; have hw2 := hw'.symm; subst hw2; clear hw'))
    go_ret
    exact ⟨rfl, DAfter.refl h⟩
  · rw [hb] at hh
    obtain ⟨k, rfl, hk⟩ := hasB_nat hb
    obtain ⟨x, hx⟩ : ∃ x, s.secs[k]? = some x := ⟨_, List.getElem?_eq_getElem hk⟩
    rw [show hurtE s.secs.length (k : Int) = 0 from by simp [hurtE, hb], show hurtS s (k : Int) = { s with secs := s.secs.set k (x.1, true) } from by simp [hurtS, hb, List.getD, hx]]
    have hu := h.hurt hx
    have hf := h.row.frozen (k * 257 + 256)
    have hst := h.row.set (k * 257 + 256) (.bool true)
    rw [flat_cell s.secs s.sp h.okS k x hx true] at hst
    have A := h.sector (u := true) hk (h.okS x (List.mem_of_getElem? hx)) hst (Turned.setCell w ⟨sb, k * 257 + 256, none⟩ (.bool true))
    clear hst hb
    go_enter Try.func33, Try.ntmps33
    go_wp2_with (first
      | (go_at_call 40; refine hm.mono ?_; rintro e w' ⟨rfl, hw'⟩; have hw2 := hw'.symm; subst hw2; clear hw')
      | (go_at_call 44; refine hh.mono ?_; rintro e w' ⟨rfl, hw'⟩; have hw2 := hw'.symm; subst hw2; clear hw'))
    go_ret
    exact ⟨rfl, A⟩
/-- The document's disk. -/
def rcutS (t : RS) (i : Int) : RS := { t with cut := decide (0 ≤ i), left := if 0 ≤ i then i else 0 }
theorem RefIn.turn {w w' : World} {r : Nat} {V : RV} {t : RS} (h : RefIn w r V t) (ht : Turned w w' r) (t' : RS) (hr : Blk w' r 40 (refV V t')) (h1 : t'.secs = t.secs) (h2 : t'.bad = t.bad) (h3 : t'.wrote = t.wrote) (h4 : t'.many ≤ 2000) (h5 : t'.cut = true → 0 ≤ t'.left) (h6 : -9223372036854775808 ≤ t'.left ∧ t'.left ≤ 9223372036854775807) : RAfter w w' r V V t' := by
  have s1 : ∀ x ∈ V.rs, ∀ a, x.p = some a → w'.heap[a.block]? = w.heap[a.block]? := fun x hx _ ha => ht.block _ ((h.su8 x hx).ne ha h.blk (by decide))
  have s2 : ∀ x ∈ V.ws, ∀ a, x.p = some a → w'.heap[a.block]? = w.heap[a.block]? := fun x hx _ ha => ht.block _ ((h.wu8 x hx).ne ha h.blk (by decide))
  refine ⟨⟨hr, owns_same h.srow (fun k hk => ht.block _ (h.nes hk)), ?_, h.su8.same s1, ?_, ?_, ?_, h.wu8.same s2, by rw [h1]; exact h.ok, by rw [h3]; exact h.wok, by rw [h1, h2]; exact h.bl, by rw [h1]; exact h.n1, by rw [h1]; exact h.n2, by rw [h3]; exact h.wl, h5, h4, h6⟩, Keep.of_turned ht (.inl rfl), fun k hk => .inl hk⟩
  · rw [h1]; exact h.sec.sameU h.su8 s1
  · rw [h2]; exact owns_same h.brow (fun k hk => ht.block _ (h.neb hk))
  · rw [h3]; exact owns_same h.wrow (fun k hk => ht.block _ (h.new hk))
  · rw [h3]; exact h.wec.sameU h.wu8 s2
theorem turned_two (w : World) (r i j : Nat) (u v : Value) : Turned w ((w.setCell ⟨r, i, none⟩ u).setCell ⟨r, j, none⟩ v) r := by
  have h1 := Turned.setCell w ⟨r, i, none⟩ u
  have h2 := Turned.setCell (w.setCell ⟨r, i, none⟩ u) ⟨r, j, none⟩ v
  exact ⟨rfl, rfl, rfl, h2.size.trans h1.size, fun k hk => (h2.block k hk).trans (h1.block k hk)⟩
theorem rcut_any {w : World} {r : Nat} {V : RV} {t : RS} (h : RefIn w r V t) (i : Int) (hi : -9223372036854775808 ≤ i ∧ i ≤ 9223372036854775807) : Calls Try.prog 37 #[.pointer (some ⟨r, 0, none⟩), .int .i64 i] w fun e w' => (∃ u, e = .returned u) ∧ RAfter w w' r V V (rcutS t i) := by
  have g3 := h.blk.cell' (i := 3) (v := .bool t.cut) rfl
  have f3 := h.blk.frozen 3
  have b1 := h.blk.set 3 (.bool (decide (0 ≤ i)))
  have g4 := b1.cell' (i := 4) (v := .int .i64 t.left) rfl
  have f4 := b1.frozen 4
  by_cases h0 : 0 ≤ i
  · have e : rcutS t i = { t with cut := decide (0 ≤ i), left := i } := by simp [rcutS, h0]
    have A := h.turn (turned_two w r 3 4 (.bool (decide (0 ≤ i))) (.int .i64 i)) { t with cut := decide (0 ≤ i), left := i } (b1.set 4 (.int .i64 i)) rfl rfl rfl h.lim (fun _ => h0) hi
    rw [e]
    have e1 : max i 0 = i := by omega
    rw [decide_eq_true h0] at b1 g4 f4 A ⊢
    clear b1 e
    go_enter Try.func37, Try.ntmps37
    go_wp2
    go_end0
    exact ⟨⟨_, rfl⟩, A⟩
  · have e : rcutS t i = { t with cut := decide (0 ≤ i), left := 0 } := by simp [rcutS, h0]
    have A := h.turn (turned_two w r 3 4 (.bool (decide (0 ≤ i))) (.int .i64 0)) { t with cut := decide (0 ≤ i), left := 0 } (b1.set 4 (.int .i64 0)) rfl rfl rfl h.lim (fun _ => by show (0 : Int) ≤ 0; omega) ⟨by show (_ : Int) ≤ 0; omega, by show (0 : Int) ≤ _; omega⟩
    rw [e]
    have e1 : max i 0 = 0 := by omega
    rw [decide_eq_false h0] at b1 g4 f4 A ⊢
    clear b1 e
    go_enter Try.func37, Try.ntmps37
    go_wp2
    go_end0
    exact ⟨⟨_, rfl⟩, A⟩
theorem rflush_any {w : World} {r : Nat} {V : RV} {t : RS} (h : RefIn w r V t) : Calls Try.prog 36 #[.pointer (some ⟨r, 0, none⟩)] w fun e w' => e = .returned (.int .i64 (powE (!t.gone))) ∧ w' = w := by
  have g2 := h.blk.cell' (i := 2) (v := .bool t.gone) rfl
  cases hg : t.gone <;> rw [hg] at g2
  · go_enter Try.func36, Try.ntmps36
    go_wp2
    go_ret
    exact ⟨rfl, rfl⟩
  · go_enter Try.func36, Try.ntmps36
    go_wp2
    go_ret
    exact ⟨rfl, rfl⟩
theorem rrestart_any {w : World} {r : Nat} {V : RV} {t : RS} (h : RefIn w r V t) : Calls Try.prog 38 #[.pointer (some ⟨r, 0, none⟩)] w fun e w' => (∃ u, e = .returned u) ∧ RAfter w w' r V V { t with gone := false, cut := false } := by
  have g2 := h.blk.cell' (i := 2) (v := .bool t.gone) rfl
  have f2 := h.blk.frozen 2
  have A := h.cell 2 (.bool false) { t with gone := false } rfl rfl rfl rfl h.lim h.lc h.le
  have g3 := A.ref.blk.cell' (i := 3) (v := .bool t.cut) rfl
  have f3 := A.ref.blk.frozen 3
  have B := A.ref.cell 3 (.bool false) { t with gone := false, cut := false } rfl rfl rfl rfl h.lim (fun e => by simp at e) h.le
  go_enter Try.func38, Try.ntmps38
  go_wp2
  go_end0
  exact ⟨⟨_, rfl⟩, A.trans B⟩
theorem rhurt_any {w : World} {r : Nat} {V : RV} {t : RS} (h : RefIn w r V t) (i : Int) : Calls Try.prog 39 #[.pointer (some ⟨r, 0, none⟩), .int .i64 i] w fun e w' => e = .returned (.int .i64 (hurtE t.secs.length i)) ∧ RAfter w w' r V V (hurtR t i) := by
  have hh := there_any h i
  cases hb : hasB t.secs.length i
  · rw [hb] at hh
    rw [show hurtE t.secs.length i = 1 from by simp [hurtE, hb], show hurtR t i = t from by simp [hurtR, hb]]
    go_enter Try.func39, Try.ntmps39
    go_wp2_with (go_at_call 46; refine hh.mono ?_; rintro e w' ⟨rfl, hw'⟩; have hw2 := hw'.symm; subst hw2; clear hw')
    go_ret
    exact ⟨rfl, RAfter.refl h⟩
  · rw [hb] at hh
    obtain ⟨k, rfl, hk⟩ := hasB_nat hb
    rw [show hurtE t.secs.length (k : Int) = 0 from by simp [hurtE, hb], show hurtR t (k : Int) = { t with bad := t.bad.set k true } from by simp [hurtR, hb]]
    obtain ⟨gb, capb, hbv, _, _⟩ := owns_at h.brow (by rw [h.bl]; omega)
    have g1 := h.blk.cell' (i := 1) (v := V.bv) rfl
    obtain ⟨nb, hbn⟩ : ∃ nb, t.bad.length = nb := ⟨_, rfl⟩
    have hkb : k < nb := by have := h.bl; omega
    have hn8 : nb ≤ 8192 := by have := h.bl; have := h.n2; omega
    have hg : V.bv.ownBlock = some gb := by rw [hbv]; rfl
    rw [hbv, hbn] at g1
    obtain ⟨cur, hcur, _⟩ := owns_row h.brow hg
    have A := h.badset k true hg
    have q := h.brow
    rw [hbn, hbv, hbn] at q
    have hc : w.cell? ⟨gb, k, none⟩ = some (.bool (t.bad.getD k false)) := by rw [q.cellAt k (by omega)]; exact bo_get _ _ (by rw [hbn]; omega)
    have hf : w.frozen? ⟨gb, k, none⟩ = false := frozen_of_row w gb k _ _ hcur
    clear hb
    go_enter Try.func39, Try.ntmps39
    go_wp2_with (go_at_call 46; refine hh.mono ?_; rintro e w' ⟨rfl, hw'⟩; have hw2 := hw'.symm; subst hw2; clear hw')
    go_ret
    exact ⟨rfl, A⟩
end Go.Proofs.Ytbnnekpglnnneaa
