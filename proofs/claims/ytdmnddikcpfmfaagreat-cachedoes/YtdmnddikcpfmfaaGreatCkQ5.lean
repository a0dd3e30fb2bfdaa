/-
  The reference's room.
-/
import Derived.Test.YtdmnddikcpfmfaaGreatCkQ4
import Derived.Test.YtdmnddikcpfmfaaGreatDkRWrite
namespace Go.Proofs.YtdmnddikcpfmfaaGreat
open Go.RowKit Go.Shelf
/-- Room is made in the reference's cache: the error, the buffers, the disk. -/
def roomQ (r : Nat) (l : List BP) (t : RS) : Int × List BP × RS :=
  if l.length < r then (0, l, t) else
  match cutAt goesB l with
  | none => (100, l, t)
  | some (p, x, q) => if x.cl = 0 then (0, p ++ q, t) else
    (rwE t (x.k : Int) x.D.length, if rwE t (x.k : Int) x.D.length = 0 then p ++ q else l, rwS t (x.k : Int) x.D)
/-- The disk was turned. -/
theorem QIn.disked {w w' : World} {s : QS} (h : QIn w s) {V' : RV} {t' : RS} (hR : RAfter w w' s.g s.V V' t') : QAfter w w' s { s with V := V', t := t' } := by
  have hk : ∀ k, k < w.heap.size → ¬ fpR s.g s.V k → w'.heap[k]? = w.heap[k]? := fun k h1 h2 => hR.keep.block k h1 h2
  have e5 : ∀ x ∈ s.L, ∀ a, x.p = some a → w'.heap[a.block]? = w.heap[a.block]? := fun x hx a ha => by
    obtain ⟨cs, hc⟩ := (h.dat x hx).2 a ha
    exact hk _ (Array.getElem?_eq_some_iff.1 hc).1 (fun e => h.u8_ne hc (.inr (.inr e)))
  refine ⟨⟨h.blk.same (hk _ h.blk.lt (fun e => ref_ne h.ref h.blk e rfl)), owns_same h.row (fun k e => hk k (owns_row h.row e).choose_spec.2 (fun e' => ?_)), fun x hx => ⟨(h.dat x hx).1.same (fun a ha _ => e5 x hx a ha), (h.dat x hx).2.same (e5 x hx)⟩, hR.ref, h.r2, h.len⟩, hR.keep.mono (fun k _ e => .inr (.inr e)), fun k e => ?_, rfl, rfl, rfl⟩
  · rcases e' with rfl | e' | e' | e'
    · exact owns_ne h.row e h.ref.blk (by decide) rfl
    · exact owns_ne2 h.row h.ref.srow (by decide) e e'
    · exact owns_ne2 h.row h.ref.brow (by decide) e e'
    · exact owns_ne2 h.row h.ref.wrow (by decide) e e'
  · rcases e with e | e | e
    · exact .inl (.inl e)
    · exact .inl (.inr (.inl e))
    · exact (hR.fr k e).imp (fun e => .inr (.inr e)) id
set_option linter.unusedSimpArgs false in
set_option maxHeartbeats 4000000 in
set_option maxRecDepth 100000 in
theorem qroom_any {w : World} {s : QS} (h : QIn w s) (hcl : ∀ b ∈ s.P, b.cl ≤ 2) (hw1 : s.t.many < 2000) (hw2 : s.t.wrote.length < 2000) : Calls Tryz.prog 76 #[.pointer (some ⟨s.q, 0, none⟩)] w fun e w' => e = .returned (.int .i64 (roomQ s.room s.P s.t).1) ∧ ∃ s', QAfter w w' s s' ∧ s'.P = (roomQ s.room s.P s.t).2.1 ∧ s'.t = (roomQ s.room s.P s.t).2.2 := by
  have hPL : s.P.length = s.L.length := by simp [QS.P]
  have hb := h.blk
  have hr2 := h.r2
  have hlen := h.len
  obtain ⟨p0, c0, hv⟩ := owns_slice h.row
  obtain ⟨n, HN⟩ : ∃ n, Hid (s.L.length = n) := ⟨_, rfl⟩
  rw [HN.out] at hv hlen hPL
  have HV : Hid (s.lv = .slice p0 n c0) := hv
  rw [hv] at hb
  clear hv
  by_cases hlt : n < s.room
  · have e : roomQ s.room s.P s.t = (0, s.P, s.t) := by rw [roomQ, if_pos (by rw [hPL]; exact hlt)]
    rw [e]
    have hli : (n : Int) < (s.room : Int) := by omega
    clear e hPL
    go_enter Tryz.func76, Tryz.ntmps76
    go_wp2_with fail
    refine wp_region_noPanic ?_
    refine wp_region_held_drew (S := fun X => Blk X s.q 77 [.pointer (some ⟨s.g, 0, none⟩), .int .i64 (s.room : Int), .slice p0 n c0]) (by kernel_rfl) hb.drew (fun hHeld => ?_)
    refine wpAnyH_take (i := 0) (v := ?_) rfl (by kernel_rfl) (by kernel_rfl) (by kernel_rfl) (fun _ _ _ h => h) (Or.inl ⟨by kernel_rfl, ?_⟩) hHeld ?_
    rotate_left
    · intro w' hSw; try dsimp only at hSw
      go_simp; try (with_reducible rfl)
    try simp only [Act.put, List.getElem_toArray, List.getElem_cons_succ, List.getElem_cons_zero, List.setIfInBounds_toArray, List.set_cons_zero, List.set_cons_succ]
    refine wpAnyH_take (i := 1) (v := ?_) rfl (by kernel_rfl) (by kernel_rfl) (by kernel_rfl) (fun _ _ _ h => h) (Or.inl ⟨by kernel_rfl, ?_⟩) hHeld ?_
    rotate_left
    · intro w' hSw; try dsimp only at hSw
      go_simp; try (with_reducible rfl)
    try simp only [Act.put, List.getElem_toArray, List.getElem_cons_succ, List.getElem_cons_zero, List.setIfInBounds_toArray, List.set_cons_zero, List.set_cons_succ]
    refine wpAnyH_take (i := 2) (v := ?_) rfl (by kernel_rfl) (by kernel_rfl) (by kernel_rfl) (fun _ _ _ h => h) (Or.inl ⟨by kernel_rfl, ?_⟩) hHeld ?_
    rotate_left
    · intro w' hSw; try dsimp only at hSw
      go_simp; try (with_reducible rfl)
    try simp only [Act.put, List.getElem_toArray, List.getElem_cons_succ, List.getElem_cons_zero, List.setIfInBounds_toArray, List.set_cons_zero, List.set_cons_succ]
    refine wpAnyH_take (i := 3) (v := ?_) rfl (by kernel_rfl) (by kernel_rfl) (by kernel_rfl) (fun _ _ _ h => h) (Or.inl ⟨by kernel_rfl, ?_⟩) hHeld ?_
    rotate_left
    · intro w' hSw; try dsimp only at hSw
      have d1 := hSw.cell' (i := 1) rfl
      have d2 := hSw.cell' (i := 2) rfl
      go_simp; try (with_reducible rfl)
    try simp only [Act.put, List.getElem_toArray, List.getElem_cons_succ, List.getElem_cons_zero, List.setIfInBounds_toArray, List.set_cons_zero, List.set_cons_succ]
    refine wpAnyH_take (i := 4) (v := ?_) rfl (by kernel_rfl) (by kernel_rfl) (by kernel_rfl) (fun _ _ _ h => h) (Or.inl ⟨by kernel_rfl, ?_⟩) hHeld ?_
    rotate_left
    · intro w' hSw; try dsimp only at hSw
      go_simp; try (with_reducible rfl)
    try simp only [Act.put, List.getElem_toArray, List.getElem_cons_succ, List.getElem_cons_zero, List.setIfInBounds_toArray, List.set_cons_zero, List.set_cons_succ]
    refine wpAnyH_take (i := 5) (v := ?_) rfl (by kernel_rfl) (by kernel_rfl) (by kernel_rfl) (fun _ _ _ h => h) (Or.inl ⟨by kernel_rfl, ?_⟩) hHeld ?_
    rotate_left
    · intro w' hSw; try dsimp only at hSw
      go_simp; try (with_reducible rfl)
    try simp only [Act.put, List.getElem_toArray, List.getElem_cons_succ, List.getElem_cons_zero, List.setIfInBounds_toArray, List.set_cons_zero, List.set_cons_succ]
    refine wpAnyH_take (i := 6) (v := ?_) rfl (by kernel_rfl) (by kernel_rfl) (by kernel_rfl) (fun _ _ _ h => h) (Or.inl ⟨by kernel_rfl, ?_⟩) hHeld ?_
    rotate_left
    · intro w' hSw; try dsimp only at hSw
      go_simp; try (with_reducible rfl)
    try simp only [Act.put, List.getElem_toArray, List.getElem_cons_succ, List.getElem_cons_zero, List.setIfInBounds_toArray, List.set_cons_zero, List.set_cons_succ]
    refine wpAnyH_take (i := 7) (v := ?_) rfl (by kernel_rfl) (by kernel_rfl) (by kernel_rfl) (fun _ _ _ h => h) (Or.inl ⟨by kernel_rfl, ?_⟩) hHeld ?_
    rotate_left
    · intro w' hSw; try dsimp only at hSw
      go_simp; try (with_reducible rfl)
    try simp only [Act.put, List.getElem_toArray, List.getElem_cons_succ, List.getElem_cons_zero, List.setIfInBounds_toArray, List.set_cons_zero, List.set_cons_succ]
    refine wpAnyH_take (i := 8) (v := ?_) rfl (by kernel_rfl) (by kernel_rfl) (by kernel_rfl) (fun _ _ _ h => h) (Or.inl ⟨by kernel_rfl, ?_⟩) hHeld ?_
    rotate_left
    · intro w' hSw; try dsimp only at hSw
      have d1 := hSw.cell' (i := 1) rfl
      have d2 := hSw.cell' (i := 2) rfl
      go_simp; try (with_reducible rfl)
    try simp only [Act.put, List.getElem_toArray, List.getElem_cons_succ, List.getElem_cons_zero, List.setIfInBounds_toArray, List.set_cons_zero, List.set_cons_succ]
    refine wpAnyH_take (i := 9) (v := ?_) rfl (by kernel_rfl) (by kernel_rfl) (by kernel_rfl) (fun _ _ _ h => h) (Or.inl ⟨by kernel_rfl, ?_⟩) hHeld ?_
    rotate_left
    · intro w' hSw; try dsimp only at hSw
      go_simp; try (with_reducible rfl)
    try simp only [Act.put, List.getElem_toArray, List.getElem_cons_succ, List.getElem_cons_zero, List.setIfInBounds_toArray, List.set_cons_zero, List.set_cons_succ]
    refine wpAnyH_done (by kernel_rfl) ?_ _
    refine NoPanic.normal ?_
    go_wp2_with fail
    go_ret
    exact ⟨rfl, s, (QAfter.refl h).kept ((Below.refl _ _).drew), rfl, rfl⟩
  · have hli : ¬ (n : Int) < (s.room : Int) := by omega
    have HPL : Hid (s.P.length = n) := hPL
    obtain ⟨R, HR⟩ : ∃ R, Hid (R = roomQ s.room s.P s.t) := ⟨_, rfl⟩
    rw [← HR.out]
    clear hPL
    go_enter Tryz.func76, Tryz.ntmps76
    go_wp2_with fail
    refine wp_region_noPanic ?_
    refine wp_region_held_drew (S := fun X => Blk X s.q 77 [.pointer (some ⟨s.g, 0, none⟩), .int .i64 (s.room : Int), .slice p0 n c0]) (by kernel_rfl) hb.drew (fun hHeld => ?_)
    refine wpAnyH_take (i := 0) (v := ?_) rfl (by kernel_rfl) (by kernel_rfl) (by kernel_rfl) (fun _ _ _ h => h) (Or.inl ⟨by kernel_rfl, ?_⟩) hHeld ?_
    rotate_left
    · intro w' hSw; try dsimp only at hSw
      go_simp; try (with_reducible rfl)
    try simp only [Act.put, List.getElem_toArray, List.getElem_cons_succ, List.getElem_cons_zero, List.setIfInBounds_toArray, List.set_cons_zero, List.set_cons_succ]
    refine wpAnyH_take (i := 1) (v := ?_) rfl (by kernel_rfl) (by kernel_rfl) (by kernel_rfl) (fun _ _ _ h => h) (Or.inl ⟨by kernel_rfl, ?_⟩) hHeld ?_
    rotate_left
    · intro w' hSw; try dsimp only at hSw
      go_simp; try (with_reducible rfl)
    try simp only [Act.put, List.getElem_toArray, List.getElem_cons_succ, List.getElem_cons_zero, List.setIfInBounds_toArray, List.set_cons_zero, List.set_cons_succ]
    refine wpAnyH_take (i := 2) (v := ?_) rfl (by kernel_rfl) (by kernel_rfl) (by kernel_rfl) (fun _ _ _ h => h) (Or.inl ⟨by kernel_rfl, ?_⟩) hHeld ?_
    rotate_left
    · intro w' hSw; try dsimp only at hSw
      go_simp; try (with_reducible rfl)
    try simp only [Act.put, List.getElem_toArray, List.getElem_cons_succ, List.getElem_cons_zero, List.setIfInBounds_toArray, List.set_cons_zero, List.set_cons_succ]
    refine wpAnyH_take (i := 3) (v := ?_) rfl (by kernel_rfl) (by kernel_rfl) (by kernel_rfl) (fun _ _ _ h => h) (Or.inl ⟨by kernel_rfl, ?_⟩) hHeld ?_
    rotate_left
    · intro w' hSw; try dsimp only at hSw
      have d1 := hSw.cell' (i := 1) rfl
      have d2 := hSw.cell' (i := 2) rfl
      go_simp; try (with_reducible rfl)
    try simp only [Act.put, List.getElem_toArray, List.getElem_cons_succ, List.getElem_cons_zero, List.setIfInBounds_toArray, List.set_cons_zero, List.set_cons_succ]
    refine wpAnyH_take (i := 4) (v := ?_) rfl (by kernel_rfl) (by kernel_rfl) (by kernel_rfl) (fun _ _ _ h => h) (Or.inl ⟨by kernel_rfl, ?_⟩) hHeld ?_
    rotate_left
    · intro w' hSw; try dsimp only at hSw
      go_simp; try (with_reducible rfl)
    try simp only [Act.put, List.getElem_toArray, List.getElem_cons_succ, List.getElem_cons_zero, List.setIfInBounds_toArray, List.set_cons_zero, List.set_cons_succ]
    refine wpAnyH_take (i := 5) (v := ?_) rfl (by kernel_rfl) (by kernel_rfl) (by kernel_rfl) (fun _ _ _ h => h) (Or.inl ⟨by kernel_rfl, ?_⟩) hHeld ?_
    rotate_left
    · intro w' hSw; try dsimp only at hSw
      go_simp; try (with_reducible rfl)
    try simp only [Act.put, List.getElem_toArray, List.getElem_cons_succ, List.getElem_cons_zero, List.setIfInBounds_toArray, List.set_cons_zero, List.set_cons_succ]
    refine wpAnyH_take (i := 6) (v := ?_) rfl (by kernel_rfl) (by kernel_rfl) (by kernel_rfl) (fun _ _ _ h => h) (Or.inl ⟨by kernel_rfl, ?_⟩) hHeld ?_
    rotate_left
    · intro w' hSw; try dsimp only at hSw
      go_simp; try (with_reducible rfl)
    try simp only [Act.put, List.getElem_toArray, List.getElem_cons_succ, List.getElem_cons_zero, List.setIfInBounds_toArray, List.set_cons_zero, List.set_cons_succ]
    refine wpAnyH_take (i := 7) (v := ?_) rfl (by kernel_rfl) (by kernel_rfl) (by kernel_rfl) (fun _ _ _ h => h) (Or.inl ⟨by kernel_rfl, ?_⟩) hHeld ?_
    rotate_left
    · intro w' hSw; try dsimp only at hSw
      go_simp; try (with_reducible rfl)
    try simp only [Act.put, List.getElem_toArray, List.getElem_cons_succ, List.getElem_cons_zero, List.setIfInBounds_toArray, List.set_cons_zero, List.set_cons_succ]
    refine wpAnyH_take (i := 8) (v := ?_) rfl (by kernel_rfl) (by kernel_rfl) (by kernel_rfl) (fun _ _ _ h => h) (Or.inl ⟨by kernel_rfl, ?_⟩) hHeld ?_
    rotate_left
    · intro w' hSw; try dsimp only at hSw
      have d1 := hSw.cell' (i := 1) rfl
      have d2 := hSw.cell' (i := 2) rfl
      go_simp; try (with_reducible rfl)
    try simp only [Act.put, List.getElem_toArray, List.getElem_cons_succ, List.getElem_cons_zero, List.setIfInBounds_toArray, List.set_cons_zero, List.set_cons_succ]
    refine wpAnyH_take (i := 9) (v := ?_) rfl (by kernel_rfl) (by kernel_rfl) (by kernel_rfl) (fun _ _ _ h => h) (Or.inl ⟨by kernel_rfl, ?_⟩) hHeld ?_
    rotate_left
    · intro w' hSw; try dsimp only at hSw
      go_simp; try (with_reducible rfl)
    try simp only [Act.put, List.getElem_toArray, List.getElem_cons_succ, List.getElem_cons_zero, List.setIfInBounds_toArray, List.set_cons_zero, List.set_cons_succ]
    refine wpAnyH_done (by kernel_rfl) ?_ _
    refine NoPanic.normal ?_
    go_wp2_with fail
    go_loopw [3] (fun v wr => ∃ i : Nat, v = .int .i64 (i : Int) ∧ i ≤ n ∧ Below w.heap.size w wr ∧ Hid (∀ y ∈ s.P.take i, goesB y = false)) (fun v _ => n - (intOf v).toNat)
    case atStart => exact ⟨0, rfl, Nat.zero_le _, (Below.refl _ _).drew, fun y hy => by simp at hy⟩
    case round =>
      obtain ⟨i, rfl, hi, hbel, HNO⟩ := hrel
      have hr := h.below hbel
      have hbr := hb.kept hbel
      have d2 := hbr.cell' (i := 2) rfl
      by_cases hin : i < n
      · have hii : (i : Int) < (n : Int) := by omega
        obtain ⟨x, hx⟩ : ∃ x, s.L[i]? = some x := ⟨_, List.getElem?_eq_getElem (by rw [HN.out]; exact hin)⟩
        obtain ⟨g, cap, hg, -, -⟩ := owns_at hr.row (by rw [HN.out]; omega)
        have hg2 := hg
        rw [HN.out] at hg2
        replace hg2 := HV.out.symm.trans hg2
        cases hg2
        have e0 := hr.cellAt hg hx (j := 0) (by omega) (v := .int .i64 (x.b.k : Int)) rfl
        have e1 := hr.cellAt hg hx (j := 1) (by omega) (v := .slice x.p x.b.D.length x.cap) rfl
        have e2 := hr.cellAt hg hx (j := 2) (by omega) (v := .int .i64 (x.b.cl : Int)) rfl
        have e3 := hr.cellAt hg hx (j := 3) (by omega) (v := .int .i64 (x.b.pins : Int)) rfl
        have hxL : x ∈ s.L := List.mem_of_getElem? hx
        rw [Nat.add_zero] at e0
        have hpx : s.P[i]? = some x.b := by simp [QS.P, hx]
        have HT : Hid (s.P.take (i + 1) = s.P.take i ++ [x.b]) := by
          show _ = _
          rw [List.take_add_one, hpx]; rfl
        have HDP : Hid (s.P = s.P.take i ++ x.b :: s.P.drop (i + 1)) := by
          show _ = _
          have hil : i < s.P.length := by rw [HPL.out]; exact hin
          have e1 : s.P[i] = x.b := by rw [List.getElem?_eq_getElem hil] at hpx; exact Option.some.inj hpx
          rw [← e1, ← List.drop_eq_getElem_cons hil, List.take_append_drop]
        have HMP : Hid ((s.L.take i ++ s.L.drop (i + 1)).map (·.b) = s.P.take i ++ s.P.drop (i + 1)) := by
          show _ = _
          simp [QS.P, List.map_take, List.map_drop]
        have hcx := hcl _ (show x.b ∈ s.P from List.mem_map_of_mem hxL)
        have hbB := below_alloc wr (.cells #[.int .i64 (x.b.k : Int), .slice x.p x.b.D.length x.cap, .int .i64 (x.b.cl : Int), .int .i64 (x.b.pins : Int)] 86)
        have h4 := hr.below hbB
        have kA : Blk (wr.alloc (.cells #[.int .i64 (x.b.k : Int), .slice x.p x.b.D.length x.cap, .int .i64 (x.b.cl : Int), .int .i64 (x.b.pins : Int)] 86)) wr.heap.size 86 (qrow x) := Blk.new' wr 86 #[.int .i64 (x.b.k : Int), .slice x.p x.b.D.length x.cap, .int .i64 (x.b.cl : Int), .int .i64 (x.b.pins : Int)]
        have hbA := hbr.kept hbB
        clear hx hg hpx
        by_cases hp : 0 < x.b.pins
        · have HG : Hid (goesB x.b = false) := by show _ = _; simp [goesB]; omega
          have hpi : (0 : Int) < (x.b.pins : Int) := by omega
          go_wp2_with fail
          go_roundw
          case rel =>
            refine ⟨i + 1, by go_num, by omega, bt hbel hbB, fun y hy => ?_⟩
            rw [HT.out] at hy
            rcases List.mem_append.1 hy with e | e
            · exact HNO.out y e
            · rw [List.mem_singleton.1 e]; exact HG.out
          case measure => simp [intOf]; omega
        have hpi : ¬ (0 : Int) < (x.b.pins : Int) := by omega
        by_cases hc2 : x.b.cl = 2
        · have HG : Hid (goesB x.b = false) := by show _ = _; simp [goesB, hc2]
          have hci : ((x.b.cl : Int) == 2) = true := by rw [beq_iff_eq]; omega
          clear hc2
          go_wp2_with fail
          go_roundw
          case rel =>
            refine ⟨i + 1, by go_num, by omega, bt hbel hbB, fun y hy => ?_⟩
            rw [HT.out] at hy
            rcases List.mem_append.1 hy with e | e
            · exact HNO.out y e
            · rw [List.mem_singleton.1 e]; exact HG.out
          case measure => simp [intOf]; omega
        have HG : Hid (goesB x.b = true) := by show _ = _; simp [goesB, hc2]; omega
        have hci : ((x.b.cl : Int) == 2) = false := by rw [beq_eq_false_iff_ne]; omega
        have HRR : Hid (R = if x.b.cl = 0 then (0, s.P.take i ++ s.P.drop (i + 1), s.t) else (rwE s.t (x.b.k : Int) x.b.D.length, if rwE s.t (x.b.k : Int) x.b.D.length = 0 then s.P.take i ++ s.P.drop (i + 1) else s.P, rwS s.t (x.b.k : Int) x.b.D)) := by
          show _ = _
          rw [HR.out, roomQ, if_neg (by rw [HPL.out]; omega)]
          have e : cutAt goesB s.P = some (s.P.take i, x.b, s.P.drop (i + 1)) := by
            have := cutAt_some (q := s.P.drop (i + 1)) HG.out HNO.out
            rwa [← HDP.out] at this
          rw [e]
        have hil : i < s.L.length := by rw [HN.out]; exact hin
        by_cases hc1 : x.b.cl = 1
        · have hcj : ((x.b.cl : Int) == 1) = true := by rw [beq_iff_eq]; omega
          have HRS : Hid (R = (rwE s.t (x.b.k : Int) x.b.D.length, if rwE s.t (x.b.k : Int) x.b.D.length = 0 then s.P.take i ++ s.P.drop (i + 1) else s.P, rwS s.t (x.b.k : Int) x.b.D)) := by
            show _ = _
            rw [HRR.out, if_neg (by omega)]
          obtain ⟨EE, HEE⟩ : ∃ EE, Hid (rwE s.t (x.b.k : Int) x.b.D.length = EE) := ⟨_, rfl⟩
          rw [HEE.out] at HRS
          clear hc1 hc2 HRR
          by_cases hE : EE = 0
          · subst hE
            go_wp2_with fail
            refine wp_region_noPanic ?_
            refine wp_region_held_drew (S := fun X => Blk X s.q 77 [.pointer (some ⟨s.g, 0, none⟩), .int .i64 (s.room : Int), .slice (some ⟨g, 0, none⟩) n c0] ∧ Blk X wr.heap.size 86 (qrow x)) (by kernel_rfl) ⟨hbA.drew, kA.drew⟩ (fun hHeld => ?_)
            refine wpAnyH_take (i := 0) (v := ?_) rfl (by kernel_rfl) (by kernel_rfl) (by kernel_rfl) (fun _ _ _ h => h) (Or.inl ⟨by kernel_rfl, ?_⟩) hHeld ?_
            rotate_left
            · intro w' hSw; try dsimp only at hSw
              go_simp; try (with_reducible rfl)
            try simp only [Act.put, List.getElem_toArray, List.getElem_cons_succ, List.getElem_cons_zero, List.setIfInBounds_toArray, List.set_cons_zero, List.set_cons_succ]
            refine wpAnyH_take (i := 1) (v := ?_) rfl (by kernel_rfl) (by kernel_rfl) (by kernel_rfl) (fun _ _ _ h => h) (Or.inl ⟨by kernel_rfl, ?_⟩) hHeld ?_
            rotate_left
            · intro w' hSw; try dsimp only at hSw
              go_simp; try (with_reducible rfl)
            try simp only [Act.put, List.getElem_toArray, List.getElem_cons_succ, List.getElem_cons_zero, List.setIfInBounds_toArray, List.set_cons_zero, List.set_cons_succ]
            refine wpAnyH_take (i := 2) (v := ?_) rfl (by kernel_rfl) (by kernel_rfl) (by kernel_rfl) (fun _ _ _ h => h) (Or.inl ⟨by kernel_rfl, ?_⟩) hHeld ?_
            rotate_left
            · intro w' hSw; try dsimp only at hSw
              go_simp; try (with_reducible rfl)
            try simp only [Act.put, List.getElem_toArray, List.getElem_cons_succ, List.getElem_cons_zero, List.setIfInBounds_toArray, List.set_cons_zero, List.set_cons_succ]
            refine wpAnyH_take (i := 3) (v := ?_) rfl (by kernel_rfl) (by kernel_rfl) (by kernel_rfl) (fun _ _ _ h => h) (Or.inl ⟨by kernel_rfl, ?_⟩) hHeld ?_
            rotate_left
            · intro w' hSw; try dsimp only at hSw
              have d0 := hSw.1.cell' (i := 0) rfl
              go_simp; try (with_reducible rfl)
            try simp only [Act.put, List.getElem_toArray, List.getElem_cons_succ, List.getElem_cons_zero, List.setIfInBounds_toArray, List.set_cons_zero, List.set_cons_succ]
            refine wpAnyH_take (i := 4) (v := ?_) rfl (by kernel_rfl) (by kernel_rfl) (by kernel_rfl) (fun _ _ _ h => h) (Or.inl ⟨by kernel_rfl, ?_⟩) hHeld ?_
            rotate_left
            · intro w' hSw; try dsimp only at hSw
              go_simp; try (with_reducible rfl)
            try simp only [Act.put, List.getElem_toArray, List.getElem_cons_succ, List.getElem_cons_zero, List.setIfInBounds_toArray, List.set_cons_zero, List.set_cons_succ]
            refine wpAnyH_take (i := 5) (v := ?_) rfl (by kernel_rfl) (by kernel_rfl) (by kernel_rfl) (fun _ _ _ h => h) (Or.inl ⟨by kernel_rfl, ?_⟩) hHeld ?_
            rotate_left
            · intro w' hSw; try dsimp only at hSw
              have d0 := hSw.2.cell' (i := 0) rfl
              go_simp; try (with_reducible rfl)
            try simp only [Act.put, List.getElem_toArray, List.getElem_cons_succ, List.getElem_cons_zero, List.setIfInBounds_toArray, List.set_cons_zero, List.set_cons_succ]
            refine wpAnyH_take (i := 6) (v := ?_) rfl (by kernel_rfl) (by kernel_rfl) (by kernel_rfl) (fun _ _ _ h => h) (Or.inl ⟨by kernel_rfl, ?_⟩) hHeld ?_
            rotate_left
            · intro w' hSw; try dsimp only at hSw
              go_simp; try (with_reducible rfl)
            try simp only [Act.put, List.getElem_toArray, List.getElem_cons_succ, List.getElem_cons_zero, List.setIfInBounds_toArray, List.set_cons_zero, List.set_cons_succ]
            refine wpAnyH_take (i := 7) (v := ?_) rfl (by kernel_rfl) (by kernel_rfl) (by kernel_rfl) (fun _ _ _ h => h) (Or.inl ⟨by kernel_rfl, ?_⟩) hHeld ?_
            rotate_left
            · intro w' hSw; try dsimp only at hSw
              have d0 := hSw.2.cell' (i := 1) rfl
              go_simp; try (with_reducible rfl)
            try simp only [Act.put, List.getElem_toArray, List.getElem_cons_succ, List.getElem_cons_zero, List.setIfInBounds_toArray, List.set_cons_zero, List.set_cons_succ]
            refine wpAnyH_ready (rs := [8]) (by kernel_rfl) (by simp) ?_
            refine AllReadyH.cons rfl (fun K hK => ?_) AllReadyH.nil
            go_simp
            refine (rwrite_any (h4.below ((Below.refl _ _).drew)).ref (x.b.k : Int) x.p x.b.D.length x.cap x.b.D ((h4.below ((Below.refl _ _).drew)).dat x hxL).1 (fun a ha e => by obtain ⟨cs, hc⟩ := (h4.dat x hxL).2 a ha; exact h4.u8_ne hc (.inr (.inr e))) hw1 hw2).mono ?_
            rintro e w5 ⟨rfl, V5, hR5⟩
            rw [HEE.out]
            have hA5 := (h4.below ((Below.refl _ _).drew)).disked hR5
            have kx := kA.drew.keep hA5.keep (fun e => Nat.lt_irrefl _ (hr.lt e))
            have kq' : Blk w5 s.q 77 [.pointer (some ⟨s.g, 0, none⟩), .int .i64 (s.room : Int), .slice (some ⟨g, 0, none⟩) n c0] := by have := hA5.qin.blk; dsimp only at this; rwa [HV.out] at this
            refine hK.out _ _ ⟨kq', kx⟩ (fun hHeld => ?_)
            clear hK K
            try simp only [Act.put, List.getElem_toArray, List.getElem_cons_succ, List.getElem_cons_zero, List.setIfInBounds_toArray, List.set_cons_zero, List.set_cons_succ]
            refine wpAnyH_take (i := 9) (v := ?_) rfl (by kernel_rfl) (by kernel_rfl) (by kernel_rfl) (fun _ _ _ h => h) (Or.inl ⟨by kernel_rfl, ?_⟩) hHeld ?_
            rotate_left
            · intro w' hSw; try dsimp only at hSw
              go_simp; try (with_reducible rfl)
            try simp only [Act.put, List.getElem_toArray, List.getElem_cons_succ, List.getElem_cons_zero, List.setIfInBounds_toArray, List.set_cons_zero, List.set_cons_succ]
            refine wpAnyH_done (by kernel_rfl) ?_ _
            refine NoPanic.normal ?_
            have hdr := qdrop_any hA5.qin hil
            dsimp only at hdr
            clear hHeld
            go_wp2_with (go_at_call 86; refine hdr.mono ?_; rintro e w6 ⟨⟨u, rfl⟩, lv6, hA6⟩)
            go_ret
            rw [HRS.out]
            exact ⟨rfl, _, (hA5.trans hA6).drop ((bt hbel hbB).drew), HMP.out, rfl⟩
          · have hEi : (EE != 0) = true := by rw [bne_iff_ne]; exact hE
            go_wp2_with fail
            refine wp_region_noPanic ?_
            refine wp_region_held_drew (S := fun X => Blk X s.q 77 [.pointer (some ⟨s.g, 0, none⟩), .int .i64 (s.room : Int), .slice (some ⟨g, 0, none⟩) n c0] ∧ Blk X wr.heap.size 86 (qrow x)) (by kernel_rfl) ⟨hbA.drew, kA.drew⟩ (fun hHeld => ?_)
            refine wpAnyH_take (i := 0) (v := ?_) rfl (by kernel_rfl) (by kernel_rfl) (by kernel_rfl) (fun _ _ _ h => h) (Or.inl ⟨by kernel_rfl, ?_⟩) hHeld ?_
            rotate_left
            · intro w' hSw; try dsimp only at hSw
              go_simp; try (with_reducible rfl)
            try simp only [Act.put, List.getElem_toArray, List.getElem_cons_succ, List.getElem_cons_zero, List.setIfInBounds_toArray, List.set_cons_zero, List.set_cons_succ]
            refine wpAnyH_take (i := 1) (v := ?_) rfl (by kernel_rfl) (by kernel_rfl) (by kernel_rfl) (fun _ _ _ h => h) (Or.inl ⟨by kernel_rfl, ?_⟩) hHeld ?_
            rotate_left
            · intro w' hSw; try dsimp only at hSw
              go_simp; try (with_reducible rfl)
            try simp only [Act.put, List.getElem_toArray, List.getElem_cons_succ, List.getElem_cons_zero, List.setIfInBounds_toArray, List.set_cons_zero, List.set_cons_succ]
            refine wpAnyH_take (i := 2) (v := ?_) rfl (by kernel_rfl) (by kernel_rfl) (by kernel_rfl) (fun _ _ _ h => h) (Or.inl ⟨by kernel_rfl, ?_⟩) hHeld ?_
            rotate_left
            · intro w' hSw; try dsimp only at hSw
              go_simp; try (with_reducible rfl)
            try simp only [Act.put, List.getElem_toArray, List.getElem_cons_succ, List.getElem_cons_zero, List.setIfInBounds_toArray, List.set_cons_zero, List.set_cons_succ]
            refine wpAnyH_take (i := 3) (v := ?_) rfl (by kernel_rfl) (by kernel_rfl) (by kernel_rfl) (fun _ _ _ h => h) (Or.inl ⟨by kernel_rfl, ?_⟩) hHeld ?_
            rotate_left
            · intro w' hSw; try dsimp only at hSw
              have d0 := hSw.1.cell' (i := 0) rfl
              go_simp; try (with_reducible rfl)
            try simp only [Act.put, List.getElem_toArray, List.getElem_cons_succ, List.getElem_cons_zero, List.setIfInBounds_toArray, List.set_cons_zero, List.set_cons_succ]
            refine wpAnyH_take (i := 4) (v := ?_) rfl (by kernel_rfl) (by kernel_rfl) (by kernel_rfl) (fun _ _ _ h => h) (Or.inl ⟨by kernel_rfl, ?_⟩) hHeld ?_
            rotate_left
            · intro w' hSw; try dsimp only at hSw
              go_simp; try (with_reducible rfl)
            try simp only [Act.put, List.getElem_toArray, List.getElem_cons_succ, List.getElem_cons_zero, List.setIfInBounds_toArray, List.set_cons_zero, List.set_cons_succ]
            refine wpAnyH_take (i := 5) (v := ?_) rfl (by kernel_rfl) (by kernel_rfl) (by kernel_rfl) (fun _ _ _ h => h) (Or.inl ⟨by kernel_rfl, ?_⟩) hHeld ?_
            rotate_left
            · intro w' hSw; try dsimp only at hSw
              have d0 := hSw.2.cell' (i := 0) rfl
              go_simp; try (with_reducible rfl)
            try simp only [Act.put, List.getElem_toArray, List.getElem_cons_succ, List.getElem_cons_zero, List.setIfInBounds_toArray, List.set_cons_zero, List.set_cons_succ]
            refine wpAnyH_take (i := 6) (v := ?_) rfl (by kernel_rfl) (by kernel_rfl) (by kernel_rfl) (fun _ _ _ h => h) (Or.inl ⟨by kernel_rfl, ?_⟩) hHeld ?_
            rotate_left
            · intro w' hSw; try dsimp only at hSw
              go_simp; try (with_reducible rfl)
            try simp only [Act.put, List.getElem_toArray, List.getElem_cons_succ, List.getElem_cons_zero, List.setIfInBounds_toArray, List.set_cons_zero, List.set_cons_succ]
            refine wpAnyH_take (i := 7) (v := ?_) rfl (by kernel_rfl) (by kernel_rfl) (by kernel_rfl) (fun _ _ _ h => h) (Or.inl ⟨by kernel_rfl, ?_⟩) hHeld ?_
            rotate_left
            · intro w' hSw; try dsimp only at hSw
              have d0 := hSw.2.cell' (i := 1) rfl
              go_simp; try (with_reducible rfl)
            try simp only [Act.put, List.getElem_toArray, List.getElem_cons_succ, List.getElem_cons_zero, List.setIfInBounds_toArray, List.set_cons_zero, List.set_cons_succ]
            refine wpAnyH_ready (rs := [8]) (by kernel_rfl) (by simp) ?_
            refine AllReadyH.cons rfl (fun K hK => ?_) AllReadyH.nil
            go_simp
            refine (rwrite_any (h4.below ((Below.refl _ _).drew)).ref (x.b.k : Int) x.p x.b.D.length x.cap x.b.D ((h4.below ((Below.refl _ _).drew)).dat x hxL).1 (fun a ha e => by obtain ⟨cs, hc⟩ := (h4.dat x hxL).2 a ha; exact h4.u8_ne hc (.inr (.inr e))) hw1 hw2).mono ?_
            rintro e w5 ⟨rfl, V5, hR5⟩
            rw [HEE.out]
            have hA5 := (h4.below ((Below.refl _ _).drew)).disked hR5
            have kx := kA.drew.keep hA5.keep (fun e => Nat.lt_irrefl _ (hr.lt e))
            have kq' : Blk w5 s.q 77 [.pointer (some ⟨s.g, 0, none⟩), .int .i64 (s.room : Int), .slice (some ⟨g, 0, none⟩) n c0] := by have := hA5.qin.blk; dsimp only at this; rwa [HV.out] at this
            refine hK.out _ _ ⟨kq', kx⟩ (fun hHeld => ?_)
            clear hK K
            try simp only [Act.put, List.getElem_toArray, List.getElem_cons_succ, List.getElem_cons_zero, List.setIfInBounds_toArray, List.set_cons_zero, List.set_cons_succ]
            refine wpAnyH_take (i := 9) (v := ?_) rfl (by kernel_rfl) (by kernel_rfl) (by kernel_rfl) (fun _ _ _ h => h) (Or.inl ⟨by kernel_rfl, ?_⟩) hHeld ?_
            rotate_left
            · intro w' hSw; try dsimp only at hSw
              go_simp; try (with_reducible rfl)
            try simp only [Act.put, List.getElem_toArray, List.getElem_cons_succ, List.getElem_cons_zero, List.setIfInBounds_toArray, List.set_cons_zero, List.set_cons_succ]
            refine wpAnyH_done (by kernel_rfl) ?_ _
            refine NoPanic.normal ?_
            go_wp2_with fail
            go_ret
            rw [HRS.out, if_neg hE]
            exact ⟨rfl, _, hA5.drop ((bt hbel hbB).drew), rfl, rfl⟩
        · have hcj : ((x.b.cl : Int) == 1) = false := by rw [beq_eq_false_iff_ne]; omega
          have HRS : Hid (R = (0, s.P.take i ++ s.P.drop (i + 1), s.t)) := by
            show _ = _
            rw [HRR.out, if_pos (by omega)]
          have hdr := qdrop_any h4 hil
          clear hc1 hc2 HRR
          go_wp2_with (go_at_call 86; refine hdr.mono ?_; rintro e w6 ⟨⟨u, rfl⟩, lv6, hA6⟩)
          go_ret
          rw [HRS.out]
          exact ⟨rfl, _, hA6.drop (bt hbel hbB), HMP.out, rfl⟩
      · obtain rfl : i = n := by omega
        have HRS : Hid (R = (100, s.P, s.t)) := by
          show _ = _
          rw [HR.out, roomQ, if_neg (by rw [HPL.out]; omega), cutAt_none (fun y hy => HNO.out y (by rw [List.take_of_length_le (by rw [HPL.out]; omega)]; exact hy))]
        go_wp2_with fail
        go_ret
        rw [HRS.out]
        exact ⟨rfl, s, (QAfter.refl h).kept hbel, rfl, rfl⟩
end Go.Proofs.YtdmnddikcpfmfaaGreat
