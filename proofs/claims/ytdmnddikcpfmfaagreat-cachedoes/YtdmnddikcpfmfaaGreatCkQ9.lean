/-
  A cell of the row of the reference's buffers is turned; its Unpin.
-/
import Derived.Test.YtdmnddikcpfmfaaGreatCkQ8
namespace Go.Proofs.YtdmnddikcpfmfaaGreat
open Go.RowKit Go.Shelf
theorem flatQ_set : ∀ (l : List QB) (j : Nat) (x x' : QB) (i : Nat) (v : Value), l[j]? = some x → i < 4 → (qrow x).set i v = qrow x' → flatQ (l.set j x') = (flatQ l).set (j * 4 + i) v
  | [], j, x, x', i, v, h, _, _ => by simp at h
  | y :: r, 0, x, x', i, v, h, hi, e => by
    simp at h
    subst h
    rw [List.set_cons_zero, flatQ, List.flatMap_cons, flatQ, List.flatMap_cons, Nat.zero_mul, Nat.zero_add, List.set_append_left _ _ (by simp [qrow]; omega), e]
  | y :: r, j + 1, x, x', i, v, h, hi, e => by
    have ih := flatQ_set r j x x' i v (by simpa using h) hi e
    rw [flatQ, flatQ] at ih
    rw [List.set_cons_succ, flatQ, List.flatMap_cons, flatQ, List.flatMap_cons, List.set_append_right _ _ (by simp [qrow]; omega), ih]
    congr 2
    simp [qrow]
    omega
theorem QIn.rowset {w : World} {s : QS} (h : QIn w s) {g : Nat} (hg : s.lv.ownBlock = some g) {j : Nat} {x x' : QB} (hx : s.L[j]? = some x) (i : Nat) (v : Value) (hi : i < 4) (e : (qrow x).set i v = qrow x') (hp : x'.p = x.p ∧ x'.cap = x.cap ∧ x'.b.D = x.b.D) : QAfter w (w.setCell ⟨g, j * 4 + i, none⟩ v) s { s with L := s.L.set j x' } := by
  have hst := owns_stored h.row hg (j * 4 + i) v
  rw [← flatQ_set s.L j x x' i v hx hi e] at hst
  have h5 : ∀ (k : Nat) (cs : Array Value), w.heap[k]? = some (Obj.cells cs 5 (0, 0)) → (w.setCell ⟨g, j * 4 + i, none⟩ v).heap[k]? = w.heap[k]? := fun k cs hc => heap_setCell_other _ _ _ _ (fun e => h.u8_ne hc (.inr (.inl (by rw [e]; exact hg))))
  have hdat : ∀ y ∈ s.L, In (w.setCell ⟨g, j * 4 + i, none⟩ v) y.p y.b.D.length y.cap y.b.D ∧ U8 (w.setCell ⟨g, j * 4 + i, none⟩ v) y.p := fun y hy => by
    have hs : ∀ a, y.p = some a → (w.setCell ⟨g, j * 4 + i, none⟩ v).heap[a.block]? = w.heap[a.block]? := fun a ha => by
      obtain ⟨cs, hc⟩ := (h.dat y hy).2 a ha
      exact h5 _ _ hc
    exact ⟨(h.dat y hy).1.same (fun a ha _ => hs a ha), (h.dat y hy).2.same hs⟩
  refine ⟨⟨h.blk.setOther _ _ (fun e => owns_ne h.row hg h.blk (by decide) e.symm), by rw [List.length_set]; exact hst, fun y hy => ?_, h.ref.same (fun k hk => heap_setCell_other _ _ _ _ (fun e => ?_)) h5, h.r2, by rw [List.length_set]; exact h.len⟩, Keep.of_turned (Turned.setCell w ⟨g, j * 4 + i, none⟩ v) (.inr (.inl hg)), fun k hk => .inl hk, rfl, rfl, rfl⟩
  · rcases List.mem_or_eq_of_mem_set hy with e | e
    · exact hdat y e
    · subst e
      rw [hp.1, hp.2.1, hp.2.2]
      exact hdat x (List.mem_of_getElem? hx)
  · have e' : k = g := e
    subst e'
    rcases hk with hk | hk | hk | hk
    · exact owns_ne h.row hg h.ref.blk (by decide) hk
    · exact owns_ne2 h.row h.ref.srow (by decide) hg hk
    · exact owns_ne2 h.row h.ref.brow (by decide) hg hk
    · exact owns_ne2 h.row h.ref.wrow (by decide) hg hk
set_option linter.unusedSimpArgs false in
set_option maxHeartbeats 4000000 in
set_option maxRecDepth 100000 in
theorem qunpin_any {w : World} {s : QS} (h : QIn w s) (i : Int) (hpn : ∀ b ∈ s.P, b.pins ≤ 100000) : Calls Tryz.prog 32 #[.pointer (some ⟨s.q, 0, none⟩), .int .i64 i] w fun e w' =>
    e = .returned (.int .i64 (unpC s.P s.t.secs.length i).1) ∧ ∃ s', QAfter w w' s s' ∧ s'.P = (unpC s.P s.t.secs.length i).2 ∧ s'.t = s.t := by
  have ht := qthere_any h i
  have ha := qat_any h i
  cases hh : hasB s.t.secs.length i with
  | false =>
    have e : unpC s.P s.t.secs.length i = (1, s.P) := by rw [unpC, if_pos hh]
    rw [hh] at ht
    rw [e]
    clear e hh
    go_enter Tryz.func32, Tryz.ntmps32
    go_wp2_with (go_at_call 74; refine ht.mono ?_; rintro e w' ⟨rfl, hw'⟩; have hw2 := hw'.symm; subst hw2; clear hw')
    go_ret
    exact ⟨rfl, s, QAfter.refl h, rfl, rfl⟩
  | true =>
    rw [hh] at ht
    obtain ⟨k, rfl⟩ : ∃ k : Nat, i = (k : Int) := ⟨i.toNat, by simp [hasB] at hh; omega⟩
    cases hc : cutAt (isK k) s.P with
    | none =>
      have e : unpC s.P s.t.secs.length (k : Int) = (4, s.P) := by rw [unpC, if_neg (by rw [hh]; simp), Int.toNat_natCast, hc]
      have e3 : atI s.P (k : Int) = -1 := by rw [atI, isI_isK, hc]
      rw [e3] at ha
      rw [e]
      clear e e3 hh hc
      go_enter Tryz.func32, Tryz.ntmps32
      go_wp2_with (first | (go_at_call 74; refine ht.mono ?_; rintro e w' ⟨rfl, hw'⟩; have hw2 := hw'.symm; subst hw2; clear hw') | (go_at_call 75; refine ha.mono ?_; rintro e w' ⟨rfl, hw'⟩; have hw2 := hw'.symm; subst hw2; clear hw'))
      go_ret
      exact ⟨rfl, s, QAfter.refl h, rfl, rfl⟩
    | some r =>
      obtain ⟨P1, y, Q1⟩ := r
      obtain ⟨hP, -, -⟩ := cutAt_spec hc
      have e3 : atI s.P (k : Int) = (P1.length : Int) := by rw [atI, isI_isK, hc]
      have eU : unpC s.P s.t.secs.length (k : Int) = if y.pins = 0 then (4, s.P) else (0, P1 ++ ⟨y.k, y.D, y.cl, y.pins - 1⟩ :: Q1) := by rw [unpC, if_neg (by rw [hh]; simp), Int.toNat_natCast, hc]
      rw [e3] at ha
      have hpy : s.P[P1.length]? = some y := by rw [hP]; simp
      obtain ⟨x, hxi, hxy⟩ := QS.at hpy
      subst hxy
      have hil : P1.length < s.L.length := (List.getElem?_eq_some_iff.1 hxi).1
      have hpx := hpn x.b (List.mem_map_of_mem (List.mem_of_getElem? hxi))
      obtain ⟨g, cap, hg, -, -⟩ := owns_at h.row (by omega)
      have c2 := h.blk.cell' (i := 2) (v := s.lv) rfl
      have hgo : s.lv.ownBlock = some g := by rw [hg]; rfl
      have hfz := h.row
      rw [hg] at c2 hfz
      have f3 := h.cellAt hg hxi (j := 3) (by omega) (v := .int .i64 (x.b.pins : Int)) rfl
      have z3 := hfz.frozenAt (P1.length * 4 + 3)
      have HS : Hid ((s.L.set P1.length ⟨⟨x.b.k, x.b.D, x.b.cl, x.b.pins - 1⟩, x.p, x.cap⟩).map (·.b) = P1 ++ ⟨x.b.k, x.b.D, x.b.cl, x.b.pins - 1⟩ :: Q1) := by
        show _ = _
        have e : s.L.map (·.b) = P1 ++ x.b :: Q1 := hP
        rw [List.map_set, e]
        simp
      obtain ⟨n, HN⟩ : ∃ n, Hid (s.L.length = n) := ⟨_, rfl⟩
      rw [HN.out] at c2 hil
      rw [eU]
      by_cases h0 : x.b.pins = 0
      · rw [if_pos h0]
        have hz : ((x.b.pins : Int) == 0) = true := by rw [h0]; rfl
        clear hP hpy hg e3 eU hc hh hfz
        generalize P1.length = j at *
        have hji : (j : Int) < (n : Int) := by omega
        have hj0 : ¬ (j : Int) < 0 := by omega
        clear h0
        go_enter Tryz.func32, Tryz.ntmps32
        go_wp2_with (first | (go_at_call 74; refine ht.mono ?_; rintro e w' ⟨rfl, hw'⟩; have hw2 := hw'.symm; subst hw2; clear hw') | (go_at_call 75; refine ha.mono ?_; rintro e w' ⟨rfl, hw'⟩; have hw2 := hw'.symm; subst hw2; clear hw'))
        go_ret
        exact ⟨rfl, s, QAfter.refl h, rfl, rfl⟩
      · rw [if_neg h0]
        have hz : ((x.b.pins : Int) == 0) = false := by rw [beq_eq_false_iff_ne]; omega
        have A := h.rowset hgo hxi 3 (.int .i64 ((x.b.pins : Int) - 1)) (x' := ⟨⟨x.b.k, x.b.D, x.b.cl, x.b.pins - 1⟩, x.p, x.cap⟩) (by omega) (by simp only [qrow, List.set]; rw [show (((x.b.pins - 1 : Nat)) : Int) = (x.b.pins : Int) - 1 from by omega]) ⟨rfl, rfl, rfl⟩
        have HPQ : Hid (_ ∧ _) := ⟨A, HS.out⟩
        clear hP hpy hg e3 eU hc hh hfz A HS
        generalize P1.length = j at *
        have hji : (j : Int) < (n : Int) := by omega
        have hj0 : ¬ (j : Int) < 0 := by omega
        clear h0
        go_enter Tryz.func32, Tryz.ntmps32
        go_wp2_with (first | (go_at_call 74; refine ht.mono ?_; rintro e w' ⟨rfl, hw'⟩; have hw2 := hw'.symm; subst hw2; clear hw') | (go_at_call 75; refine ha.mono ?_; rintro e w' ⟨rfl, hw'⟩; have hw2 := hw'.symm; subst hw2; clear hw'))
        go_ret
        exact ⟨rfl, _, HPQ.out.1, HPQ.out.2, rfl⟩
end Go.Proofs.YtdmnddikcpfmfaaGreat

namespace Go.Proofs.YtdmnddikcpfmfaaGreat
open Go.RowKit Go.Shelf
structure IntsQ (w : World) (s : QS) (p : Option Addr) (n c : Nat) (xs : List Int) : Prop where
  ii : InI w p n c xs
  out : ∀ a, p = some a → 0 < n → ¬ fpQ s a.block
theorem IntsQ.next {w w' : World} {s s' : QS} {p : Option Addr} {n c : Nat} {xs : List Int} (h : IntsQ w s p n c xs) (hA : QAfter w w' s s') : IntsQ w' s' p n c xs := by
  have hlt : ∀ a, p = some a → 0 < n → a.block < w.heap.size := fun a ha h0 => by
    obtain ⟨b, o, hp, hl, _⟩ := h.ii.at' h0
    rw [hp] at ha; cases ha; exact hl
  refine ⟨h.ii.same (fun a ha h0 => hA.keep.block _ (hlt a ha h0) (h.out a ha h0)), fun a ha h0 hf => ?_⟩
  rcases hA.fr _ hf with e | e
  · exact h.out a ha h0 e
  · have := hlt a ha h0; omega
theorem IntsQ.kept {w w' : World} {s : QS} {p : Option Addr} {n c : Nat} {xs : List Int} (h : IntsQ w s p n c xs) (hb : Below w.heap.size w w') : IntsQ w' s p n c xs := ⟨h.ii.below hb, h.out⟩
theorem qdropK_any (s : QS) (k : Nat) : (∃ i : Nat, i < s.L.length ∧ atI s.P (k : Int) = (i : Int) ∧ (s.L.take i ++ s.L.drop (i + 1)).map (·.b) = dropK s.P k) ∨ (atI s.P (k : Int) = -1 ∧ dropK s.P k = s.P) := by
  cases hc : cutAt (isK k) s.P with
  | none => exact .inr ⟨by rw [atI, isI_isK, hc], by rw [dropK, hc]⟩
  | some r =>
    obtain ⟨P1, y, Q1⟩ := r
    obtain ⟨hP, -, -⟩ := cutAt_spec hc
    have hPL : s.P.length = s.L.length := by simp [QS.P]
    refine .inl ⟨P1.length, by rw [← hPL, hP]; simp, by rw [atI, isI_isK, hc], ?_⟩
    have e : s.L.map (·.b) = P1 ++ y :: Q1 := hP
    rw [dropK, hc, List.map_append, List.map_take, List.map_drop, e, List.take_left, show P1.length + 1 = (P1 ++ [y]).length from by simp, show P1 ++ y :: Q1 = (P1 ++ [y]) ++ Q1 from by simp, List.drop_left]
set_option linter.unusedSimpArgs false in
set_option maxHeartbeats 4000000 in
set_option maxRecDepth 100000 in
theorem qforget_any {w : World} {s : QS} (h : QIn w s) (p : Option Addr) (n c : Nat) (xs : List Int) (hI : IntsQ w s p n c xs) : Calls Tryz.prog 40 #[.pointer (some ⟨s.q, 0, none⟩), .slice p n c] w fun e w' =>
    e = .returned (.int .i64 (forR s.P s.t.secs.length xs).1) ∧ ∃ s', QAfter w w' s s' ∧ s'.P = (forR s.P s.t.secs.length xs).2 ∧ s'.t = s.t := by
  have hlen := hI.ii.len
  have hroom := hI.ii.room
  obtain ⟨R, HR⟩ : ∃ R, Hid (R = forR s.P s.t.secs.length xs) := ⟨_, rfl⟩
  rw [← HR.out]
  go_enter Tryz.func40, Tryz.ntmps40
  go_wp2_with fail
  go_loopg [5] n (fun j v wr => ∃ k : Nat, v = .int .i64 (k : Int) ∧ k ≤ n ∧ j = n - k ∧ wr = w ∧ ∀ i, i < k → hasB s.t.secs.length (eI xs i) = true)
  case atStart => exact ⟨0, rfl, by omega, rfl, rfl, fun i hi => by omega⟩
  case round =>
    obtain ⟨k, rfl, hk, rfl, hw, hall⟩ := hrel
    have hw0 := hw.symm
    subst hw0
    clear hw
    by_cases hkn : k < n
    · obtain ⟨b, o, rfl, hlt, hcell⟩ := hI.ii.at' (by omega)
      have hck := hcell k hkn
      have hib := qthere_any h (eI xs k)
      obtain ⟨ik, hik⟩ : ∃ ik, ik = eI xs k := ⟨_, rfl⟩
      have HK : Hid (ik = eI xs k) := hik
      have HALL : Hid (∀ i, i < k → hasB s.t.secs.length (eI xs i) = true) := hall
      rw [← hik] at hck hib
      have hki : (k : Int) < (n : Int) := by omega
      clear hik hcell hall
      cases hb : hasB s.t.secs.length ik
      · rw [hb] at hib
        go_wp2_with (go_at_call 74; refine hib.mono ?_; rintro e w' ⟨rfl, hw'⟩; have hw2 := hw'.symm; subst hw2; clear hw')
        go_ret
        have e1 : forR s.P s.t.secs.length xs = (1, s.P) := if_neg (fun ha => by
          have := List.all_eq_true.1 ha (eI xs k) (by simp only [eI, List.getD_eq_getElem?_getD, List.getElem?_eq_getElem (show k < xs.length by omega)]; exact List.getElem_mem _)
          rw [← HK.out, hb] at this; cases this)
        exact ⟨by rw [HR.out, e1]; rfl, s, QAfter.refl h, by rw [HR.out, e1], rfl⟩
      · rw [hb] at hib
        go_wp2_with (go_at_call 74; refine hib.mono ?_; rintro e w' ⟨rfl, hw'⟩; have hw2 := hw'.symm; subst hw2; clear hw')
        go_roundg (n - (k + 1))
        case measure => omega
        case rel =>
          refine ⟨k + 1, by go_num, by omega, rfl, rfl, fun i hi => ?_⟩
          by_cases e : i = k
          · rw [e, ← HK.out]; exact hb
          · exact HALL.out i (by omega)
    · have hkn2 : n = k := by omega
      subst hkn2
      have HA : Hid (∀ i, i < xs.length → hasB s.t.secs.length (eI xs i) = true) := (fun i hi => hall i (by omega))
      have hR1 : R = (0, dropL s.P xs) := by
        rw [HR.out]
        refine if_pos (List.all_eq_true.2 fun x hx => ?_)
        obtain ⟨i, hi, rfl⟩ := List.getElem_of_mem hx
        have := HA.out i hi
        simpa [eI, hi] using this
      have HR1 : Hid (R = (0, dropL s.P (xs.drop 0))) := hR1
      clear HR hR1 hall
      go_wp2_with fail
      go_loopg [6] n (fun j v wr => ∃ (k : Nat) (s' : QS), v = .int .i64 (k : Int) ∧ k ≤ n ∧ j = n - k ∧ QAfter w wr s s' ∧ Hid (R = (0, dropL s'.P (xs.drop k))) ∧ Hid (s'.t = s.t))
      case atStart => exact ⟨0, s, rfl, by omega, rfl, QAfter.refl h, HR1, rfl⟩
      case round =>
        clear HR1
        obtain ⟨k, s1, rfl, hk, rfl, A1, HR1, HD1⟩ := hrel
        have hI1 := hI.next A1
        by_cases hkn : k < n
        · obtain ⟨b, o, rfl, hlt, hcell⟩ := hI1.ii.at' (by omega)
          have hck := hcell k hkn
          have hd : xs.drop k = eI xs k :: xs.drop (k + 1) := drop_eI xs k (by omega)
          have hR2 := HR1.out
          rw [hd, dropL] at hR2
          have hbk := HA.out k (by omega)
          obtain ⟨m, hm⟩ : ∃ m : Nat, eI xs k = (m : Int) := ⟨(eI xs k).toNat, by simp [hasB] at hbk; omega⟩
          rw [hm] at hck
          rw [hm, Int.toNat_natCast] at hR2
          have HR2 : Hid (R = _) := hR2
          have ha := qat_any A1.qin (m : Int)
          rw [A1.q] at ha
          have hki : (k : Int) < (n : Int) := by omega
          rcases qdropK_any s1 m with ⟨i, hi, e1, e2⟩ | ⟨e1, e2⟩
          · rw [e1] at ha
            have hdr := qdrop_any A1.qin hi
            rw [A1.q] at hdr
            have HE2 : Hid (_ = dropK s1.P m) := e2
            clear e1 e2 hd hR2 hbk hm hcell hi
            go_wp2_with (first | (go_at_call 75; refine ha.mono ?_; rintro e w' ⟨rfl, hw'⟩; have hw2 := hw'.symm; subst hw2; clear hw') | (go_at_call 86; refine hdr.mono ?_; rintro e w6 ⟨⟨u, rfl⟩, lv6, hA6⟩))
            go_roundg (n - (k + 1))
            case measure => omega
            case rel => exact ⟨k + 1, _, by go_num, by omega, rfl, A1.trans hA6, by show _ = _; rw [HR2.out, ← HE2.out]; rfl, HD1⟩
          · rw [e1] at ha
            rw [e2] at hR2
            have HR3 : Hid (R = _) := hR2
            clear e1 e2 hd hR2 HR2 hbk hm hcell
            go_wp2_with (go_at_call 75; refine ha.mono ?_; rintro e w' ⟨rfl, hw'⟩; have hw2 := hw'.symm; subst hw2; clear hw')
            go_roundg (n - (k + 1))
            case measure => omega
            case rel => exact ⟨k + 1, s1, by go_num, by omega, rfl, A1, HR3, HD1⟩
        · have hkn2 : n = k := by omega
          have hR2 := HR1.out
          rw [List.drop_of_length_le (by omega), dropL] at hR2
          have HR2 : Hid (R = (0, s1.P)) := hR2
          clear hR2
          subst hkn2
          go_wp2_with fail
          go_ret
          exact ⟨by rw [HR2.out]; rfl, s1, A1, by rw [HR2.out], HD1.out⟩
theorem r10new_ok {w : World} {g : Nat} {V : RV} {t : RS} (hr : RefIn w g V t) (r : Nat) (h1 : 8 ≤ r) (h2 : r ≤ 1024) : Calls Tryz.prog 8 #[.pointer (some ⟨g, 0, none⟩), .int .i64 (r : Int)] w fun e w' => e = .returned (.tuple #[.pointer (some ⟨w.heap.size, 0, none⟩), .int .i64 0]) ∧ Below w.heap.size w w' ∧ QIn w' ⟨w.heap.size, g, V, t, r, .slice none 0 0, []⟩ := by
  have e1 : ¬ (r : Int) < 8 := by omega
  have e2 : ¬ (1024 : Int) < (r : Int) := by omega
  have hb := below_alloc w (.cells #[.pointer (some ⟨g, 0, none⟩), .int .i64 (r : Int), .slice none 0 0] 77)
  have k := Blk.new' w 77 #[.pointer (some ⟨g, 0, none⟩), .int .i64 (r : Int), .slice none 0 0]
  go_enter Tryz.func8, Tryz.ntmps8
  go_wp2_with fail
  go_ret2
  exact ⟨rfl, hb, k, owns_nil _ _ _ _, fun x hx => by simp at hx, hr.below hb, h2, Nat.zero_le _⟩
theorem r10new_no (g : Nat) (r : Int) (h : ¬ (8 ≤ r ∧ r ≤ 1024)) (w : World) : Calls Tryz.prog 8 #[.pointer (some ⟨g, 0, none⟩), .int .i64 r] w fun e w' => e = .returned (.tuple #[.pointer none, .int .i64 1]) ∧ w' = w := by
  by_cases e1 : r < 8
  · go_enter Tryz.func8, Tryz.ntmps8
    go_wp2_with fail
    go_ret2
    exact ⟨rfl, rfl⟩
  · have e2 : (1024 : Int) < r := by omega
    go_enter Tryz.func8, Tryz.ntmps8
    go_wp2_with fail
    go_ret2
    exact ⟨rfl, rfl⟩
end Go.Proofs.YtdmnddikcpfmfaaGreat
