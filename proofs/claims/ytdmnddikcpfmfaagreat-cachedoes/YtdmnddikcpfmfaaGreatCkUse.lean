/-
  A buffer is used; one is added; one goes; a new ring, a new cache.
-/
import Derived.Test.YtdmnddikcpfmfaaGreatCkLink
namespace Go.Proofs.YtdmnddikcpfmfaaGreat
open Go.RowKit Go.Maps Go.Shelf
/-- The blocks of the buffers and of the map alone were turned. -/
theorem CIn.turn {w w' : World} {s : CS} {S : Nat → Prop} (h : CIn w s) (hk : Keep S w w') (hS : ∀ k, k < w.heap.size → S k → k = s.bm ∨ k = s.e ∨ k ∈ s.gs) {L' : List BufS} {O' N' : Nat → Nat} (hM : Mem w' (ebuf s.e :: L') O' N') (hmap : MapIn w' s.bm L')
    (hfit : CFit { s with L := L', O := O', N := N' }) (hdat : ∀ x ∈ L', In w' x.p x.b.D.length x.cap x.b.D ∧ U8 w' x.p) (hg : ∀ x ∈ L', x.g ∈ s.gs ∨ w.heap.size ≤ x.g) : CAfter w w' s { s with L := L', O := O', N := N' } := by
  have hne : ∀ k, k < w.heap.size → k ≠ s.bm → ¬ isBuf w k → w'.heap[k]? = w.heap[k]? := fun k hk' n1 n2 => hk.block k hk' (fun e => by
    rcases hS k hk' e with e | e | e
    · exact n1 e
    · exact n2 (h.mem.isBuf (by rw [e]; exact List.mem_cons_self ..))
    · exact n2 (h.mem.isBuf (List.mem_cons_of_mem _ e)))
  have hD := h.base.disk
  refine ⟨⟨⟨h.base.cc.same (hne _ h.base.cc.lt (fun e => h.map.ne h.base.cc e.symm) (fun ⟨cs, hb⟩ => blk_ne h.base.cc hb (by decide) rfl)), hD.same (fun k hf => hne k (hD.lt hf) ?_ (fpD_buf hD hf)), hdat⟩, hM, hmap, hfit⟩, hk.mono (fun k hl e => ?_), ?_, rfl, rfl, rfl, rfl⟩
  · rintro rfl
    rcases hf with e | e | e
    · exact h.map.ne hD.ram e
    · exact h.map.ne hD.row e
    · obtain ⟨es, cl, ho⟩ := h.map.obj
      obtain ⟨cs, hc, _⟩ := owns_row hD.log e
      rw [ho] at hc; cases hc
  · rcases hS k hl e with e | e | e
    · exact .inl e
    · exact .inr (.inl e)
    · exact .inr (.inr (.inl e))
  · rintro k (rfl | rfl | hk | hk)
    · exact .inl (.inl rfl)
    · exact .inl (.inr (.inl rfl))
    · obtain ⟨x, hx, rfl⟩ := List.mem_map.1 hk
      rcases hg x hx with e | e
      · exact .inl (.inr (.inr (.inl e)))
      · exact .inr e
    · exact .inl (.inr (.inr (.inr hk)))
/-- A store into blocks of buffers leaves bytes as they are. -/
theorem dat_keep {w w' : World} {S : Nat → Prop} (hk : Keep S w w') (hS : ∀ k, k < w.heap.size → S k → isBuf w k ∨ ∃ es cl, w.heap[k]? = some (.map es cl)) {p : Option Addr} {n c : Nat} {xs : List Nat} (h : In w p n c xs ∧ U8 w p) : In w' p n c xs ∧ U8 w' p := by
  have hs : ∀ a, p = some a → w'.heap[a.block]? = w.heap[a.block]? := fun a ha => by
    obtain ⟨cs, hc⟩ := h.2 a ha
    have hl := (Array.getElem?_eq_some_iff.1 hc).1
    refine hk.block _ hl (fun e => ?_)
    rcases hS _ hl e with ⟨cs', hb⟩ | ⟨es, cl, ho⟩
    · exact h.2.ne ha hb (by decide) rfl
    · rw [hc] at ho; cases ho
  exact ⟨h.1.same (fun a ha _ => hs a ha), h.2.same hs⟩
theorem map_mid {α β : Type} (f : α → β) (p q : List α) (x : α) : (p ++ x :: q).map f = p.map f ++ f x :: q.map f := by simp
theorem CFit.mid {s : CS} (h : CFit s) {p q : List BufS} {x : BufS} (hL : s.L = p ++ x :: q) : Chain s.O s.N s.e (p.map (·.g) ++ x.g :: q.map (·.g)) s.e ∧ (s.e :: (p.map (·.g) ++ x.g :: q.map (·.g))).Nodup := by
  have h1 := h.ring
  have h2 := h.nd
  rw [CS.gs, hL, map_mid] at h1 h2
  exact ⟨h1, h2⟩
theorem nodup_move {α : Type} {p q : List α} {x : α} (h : (p ++ x :: q).Nodup) : (p ++ q ++ [x]).Nodup := by
  simp only [List.nodup_append, List.nodup_cons, List.mem_cons, List.mem_append] at h ⊢
  obtain ⟨h1, ⟨h2, h3⟩, h4⟩ := h
  refine ⟨⟨h1, h3, fun a ha b hb => h4 a ha b (.inr hb)⟩, ⟨by simp, List.nodup_nil⟩, ?_⟩
  rintro a ha b (rfl | hb) rfl
  · rcases ha with ha | ha
    · exact h4 a ha a (.inl rfl) rfl
    · exact h2 ha
  · cases hb
theorem nodup_out {α : Type} {p q : List α} {x : α} (h : (p ++ x :: q).Nodup) : (p ++ q).Nodup := (List.nodup_append.1 (nodup_move h)).1
theorem not_mem_mid {α : Type} {p q : List α} {x : α} (h : (p ++ x :: q).Nodup) : x ∉ p ++ q := by
  intro hx
  have := (List.nodup_append.1 (nodup_move h)).2.2 x hx x (by simp)
  exact this rfl
set_option maxRecDepth 100000 in
theorem use_any {w : World} {s : CS} (h : CIn w s) {p q : List BufS} {x : BufS} (hL : s.L = p ++ x :: q) :
    Calls Tryz.prog 62 #[.pointer (some ⟨s.c, 0, none⟩), .pointer (some ⟨x.g, 0, none⟩)] w fun e w' => (∃ u, e = .returned u) ∧ ∃ O' N', CAfter w w' s { s with L := p ++ q ++ [x], O := O', N := N' } := by
  obtain ⟨hring, hnd⟩ := h.fit.mid hL
  obtain ⟨eO, eN, hout⟩ := ring_out hring hnd
  obtain ⟨n1, n2, n3, n4, n5, n6, n7, n8⟩ := nodup_mid hnd
  have hxL : x ∈ s.L := by rw [hL]; simp
  have hgs : s.gs = p.map (·.g) ++ x.g :: q.map (·.g) := by rw [CS.gs, hL, map_mid]
  have hAg : (ebuf s.e :: s.L).map (·.g) = s.e :: s.gs := rfl
  have hl1 : lst s.e (p.map (·.g)) ∈ s.e :: p.map (·.g) := by rcases lst_mem s.e (p.map (·.g)) with e | e; rw [e]; exact List.mem_cons_self ..; exact List.mem_cons_of_mem _ e
  have hl2 : hed (q.map (·.g)) s.e ∈ s.e :: q.map (·.g) := by rcases hed_mem (q.map (·.g)) s.e with e | e; rw [e]; exact List.mem_cons_self ..; exact List.mem_cons_of_mem _ e
  have hu := unlink_any h.mem (x := x) (List.mem_cons_of_mem _ hxL) (by rw [hAg, hgs, eO]; rcases List.mem_cons.1 hl1 with e | e; rw [e]; exact List.mem_cons_self ..; exact List.mem_cons_of_mem _ (List.mem_append_left _ e)) (by rw [hAg, hgs, eN]; rcases List.mem_cons.1 hl2 with e | e; rw [e]; exact List.mem_cons_self ..; exact List.mem_cons_of_mem _ (List.mem_append_right _ (List.mem_cons_of_mem _ e)))
    (by rw [eO]; rintro e; rw [← e] at hl1; rcases List.mem_cons.1 hl1 with e | e; exact n3 e; exact n2 e) (by rw [eN]; rintro e; rw [← e] at hl2; rcases List.mem_cons.1 hl2 with e | e; exact n3 e; exact n4 e)
  rw [eO, eN] at hu
  have hnd1 : (s.e :: (p.map (·.g) ++ q.map (·.g))).Nodup := by
    obtain ⟨a1, a2⟩ := List.nodup_cons.1 hnd
    exact List.nodup_cons.2 ⟨fun e => a1 (by simp at e ⊢; rcases e with e | e; exact .inl e; exact .inr (.inr e)), nodup_out a2⟩
  have hxn := not_mem_mid (List.nodup_cons.1 hnd).2
  obtain ⟨eO2, hin⟩ := ring_in hout hnd1 n3 hxn
  generalize hO1 : upd s.O (hed (q.map (·.g)) s.e) (lst s.e (p.map (·.g))) = O1 at *
  generalize hN1 : upd s.N (lst s.e (p.map (·.g))) (hed (q.map (·.g)) s.e) = N1 at *
  have hl3 : lst s.e (p.map (·.g) ++ q.map (·.g)) ∈ s.e :: (p.map (·.g) ++ q.map (·.g)) := by rcases lst_mem s.e (p.map (·.g) ++ q.map (·.g)) with e | e; rw [e]; exact List.mem_cons_self ..; exact List.mem_cons_of_mem _ e
  have hsub : ∀ y ∈ ebuf s.e :: (p ++ q), y ∈ ebuf s.e :: s.L := by
    intro y hy
    rw [hL]
    simp at hy ⊢
    rcases hy with e | e | e
    · exact .inl e
    · exact .inr (.inl e)
    · exact .inr (.inr (.inr e))
  have hsame : ∀ y, y ∈ p ++ q ++ [x] → y ∈ s.L := by
    intro y hy
    rw [hL]
    simp at hy ⊢
    rcases hy with e | e | e
    · exact .inl e
    · exact .inr (.inr e)
    · exact .inr (.inl e)
  have hc3 := h.c3
  have hSe : ∀ k, k = lst s.e (p.map (·.g)) ∨ k = hed (q.map (·.g)) s.e → k = s.e ∨ k ∈ s.gs := by
    rw [hgs]
    rintro k (rfl | rfl)
    · rcases List.mem_cons.1 hl1 with e | e
      · exact .inl e
      · exact .inr (List.mem_append_left _ e)
    · rcases List.mem_cons.1 hl2 with e | e
      · exact .inl e
      · exact .inr (List.mem_append_right _ (List.mem_cons_of_mem _ e))
  have hSe2 : ∀ k, k = x.g ∨ k = s.e ∨ k = lst s.e (p.map (·.g) ++ q.map (·.g)) → k = s.e ∨ k ∈ s.gs := by
    rw [hgs]
    rintro k (rfl | rfl | rfl)
    · exact .inr (by simp)
    · exact .inl rfl
    · rcases List.mem_cons.1 hl3 with e | e
      · exact .inl e
      · exact .inr (by simp at e ⊢; rcases e with e | e; exact .inl e; exact .inr (.inr e))
  have hbuf0 : ∀ k, k = s.e ∨ k ∈ s.gs → isBuf w k := fun k hk => h.mem.isBuf (by rw [hAg]; rcases hk with rfl | hk; exact List.mem_cons_self ..; exact List.mem_cons_of_mem _ hk)
  have hbuf1 : ∀ k, k = lst s.e (p.map (·.g)) ∨ k = hed (q.map (·.g)) s.e → isBuf w k := fun k hk => hbuf0 k (hSe k hk)
  go_enter Tryz.func62, Tryz.ntmps62
  go_wp2_with (go_at_call 97; refine hu.mono ?_; rintro e w1 ⟨⟨u1, rfl⟩, hM1, hk1⟩; have hB1 := h.base.keep hk1 hbuf1; have hc31 := hB1.cc.cell' (i := 3) (v := .pointer (some ⟨s.e, 0, none⟩)) rfl)
  have hlk := link_any (hM1.sub hsub) (x := x) (y := ebuf s.e) (hM1 x (List.mem_cons_of_mem _ hxL)) (List.mem_cons_self ..) (by
      show O1 s.e ∈ _
      rw [eO2]
      simpa [ebuf] using hl3) (by
      show x.g ≠ O1 s.e
      rw [eO2]
      rintro e
      rw [← e] at hl3
      rcases List.mem_cons.1 hl3 with e | e
      · exact n3 e
      · exact hxn e) n3
  refine hlk.mono ?_
  rintro e w2 ⟨⟨u2, rfl⟩, hM2, hk2⟩
  rw [show O1 (ebuf s.e).g = lst s.e (p.map (·.g) ++ q.map (·.g)) from eO2] at hM2 hk2
  have hk12 : Keep (fun k => k = s.e ∨ k ∈ s.gs) w w2 := (hk1.mono (fun k _ => hSe k)).trans (hk2.mono (T := fun k => k = s.e ∨ k ∈ s.gs) (fun k _ => hSe2 k)) (fun _ _ h => h)
  go_wp2_with fail
  go_end0
  have hbm : ¬ (s.bm = s.e ∨ s.bm ∈ s.gs) := fun e => by
    obtain ⟨cs, hb⟩ := hbuf0 _ e
    exact h.map.ne hb rfl
  refine ⟨⟨_, rfl⟩, _, _, h.turn hk12 (fun k _ hk => .inr hk) (hM2.sub ?_) ((h.map.same (hk12.block _ h.map.lt hbm)).turn ?_ ?_ ?_) ⟨?_, ?_, ?_, h.fit.r1, h.fit.r2, ?_, ?_⟩ (fun y hy => dat_keep hk12 (fun k _ hk => .inl (hbuf0 k hk)) (h.base.dat y ?_)) (fun y hy => .inl ?_)⟩
  · intro y hy
    simp at hy ⊢
    rcases hy with rfl | e | e | rfl
    · exact .inr (.inl rfl)
    · exact .inr (.inr (.inl e))
    · exact .inr (.inr (.inr e))
    · exact .inl rfl
  · rw [hL]; simp
  · intro y hy
    exact ⟨y, hsame y hy, rfl, rfl⟩
  · intro y hy
    refine ⟨y, ?_, rfl⟩
    rw [hL] at hy
    simp at hy ⊢
    rcases hy with e | e | e
    · exact .inl e
    · exact .inr (.inr e)
    · exact .inr (.inl e)
  · show Chain _ _ s.e ((p ++ q ++ [x]).map (·.g)) s.e
    rw [List.map_append, List.map_append]
    exact hin
  · show (s.e :: (p ++ q ++ [x]).map (·.g)).Nodup
    rw [List.map_append, List.map_append]
    refine List.nodup_cons.2 ⟨fun e => ?_, nodup_move (List.nodup_cons.1 hnd).2⟩
    simp only [List.mem_append, List.map_cons, List.map_nil, List.mem_singleton] at e
    rcases e with (e | e) | e
    · exact n8 e
    · exact n5 e
    · exact n3 e.symm
  · show ((p ++ q ++ [x]).map (·.b.k)).Nodup
    have := h.fit.kd
    rw [hL, map_mid] at this
    rw [List.map_append, List.map_append]
    exact nodup_move this
  · show (p ++ q ++ [x]).length ≤ s.room
    have := h.fit.len
    rw [hL] at this
    simp at this ⊢
    omega
  · exact fun y hy => h.fit.ok y (hsame y hy)
  · exact hsame y hy
  · exact List.mem_map.2 ⟨y, hsame y hy, rfl⟩
theorem fit_fresh {w : World} {s : CS} (h : CIn w s) : w.heap.size ≠ s.e ∧ w.heap.size ∉ s.gs := ⟨fun e => by have := h.lt (k := s.e) (.inr (.inl rfl)); omega, fun e => by have := h.lt (.inr (.inr (.inl e))); omega⟩
/-- The map's update at the operation. -/
theorem wpList_put_map (w : World) {ops : Array Oper} {rest : List Oper} {o : Oper} {a : Act} {Q : Exit → Act → World → Prop} (hg : o.guard = none) (m x v : Operand) (hop : o.op = Op.mapUpdate 70 m x v) {bm : Nat} {L : List BufS} (hm : a.eval m = .map (some bm)) (h : MapIn w bm L) (y : BufS) (hx : a.eval x = .int .i64 (y.b.k : Int)) (hv : a.eval v = .pointer (some ⟨y.g, 0, none⟩)) (hn : ∀ z ∈ L, z.b.k ≠ y.b.k) (hk : y.b.k ≤ 100000) (hl : L.length ≤ 100000)
    (hK : ∀ w', MapIn w' bm (L ++ [y]) → w.grownBy w' (some bm) → wpList Tryz.prog ops Q rest (a.put o.dst undef) w') : wpList Tryz.prog ops Q (o :: rest) a w := by
  refine wpList_plain hg fun K' hK' => ?_
  obtain ⟨w', hrun, r1, r2⟩ := h.put hn hk hl
  unfold Oper.wp
  simp [execOp, hop, hm, hx, hv, hrun, Result.andThen]
  exact hK' _ _ (hK w' r1 r2)
theorem wpList_drop_map (w : World) {ops : Array Oper} {rest : List Oper} {o : Oper} {a : Act} {Q : Exit → Act → World → Prop} (hg : o.guard = none) (m x : Operand) (hop : o.op = Op.call { callee := Callee.builtin Builtin.delete, args := #[m, x], argTypes := #[70, 3] }) {bm : Nat} {p q : List BufS} {y : BufS} (hm : a.eval m = .map (some bm)) (h : MapIn w bm (p ++ y :: q)) (hx : a.eval x = .int .i64 (y.b.k : Int)) (hn : ∀ z ∈ p ++ q, z.b.k ≠ y.b.k) (hk : y.b.k ≤ 100000)
    (hK : ∀ w', MapIn w' bm (p ++ q) → w.grownBy w' (some bm) → wpList Tryz.prog ops Q rest (a.put o.dst (.tuple #[])) w') : wpList Tryz.prog ops Q (o :: rest) a w := by
  refine wpList_plain hg fun K' hK' => ?_
  obtain ⟨w', hrun, r1, r2⟩ := h.drop hn hk o.type
  unfold Oper.wp
  simp [execOp, hop, resolve, invoke, builtin, hm, hx, hrun, Result.andThen]
  exact hK' _ _ (hK w' r1 r2)
end Go.Proofs.YtdmnddikcpfmfaaGreat
