/-
  A buffer is added; one goes; a new cache.
-/
import Derived.Test.YtdmnddikcpfmfaaGreatCkUse
namespace Go.Proofs.YtdmnddikcpfmfaaGreat
open Go.RowKit Go.Maps Go.Shelf
def newBuf (g k : Nat) : BufS := ⟨g, none, 0, ⟨k, [], 0, 0⟩⟩
theorem CIn.bufs {w : World} {s : CS} (h : CIn w s) : ∀ k, k = s.e ∨ k ∈ s.gs → isBuf w k := fun k hk => h.mem.isBuf (by
  show k ∈ s.e :: s.gs
  rcases hk with rfl | hk
  · exact List.mem_cons_self ..
  · exact List.mem_cons_of_mem _ hk)
theorem CIn.bmne {w : World} {s : CS} (h : CIn w s) : ¬ (s.bm = s.e ∨ s.bm ∈ s.gs) := fun e => by
  obtain ⟨cs, hb⟩ := h.bufs _ e
  exact h.map.ne hb rfl
theorem lst_in (e : Nat) (p : List Nat) : lst e p = e ∨ lst e p ∈ p := lst_mem e p
/-- The blocks of the buffers and of the map. -/
def fpM (s : CS) (k : Nat) : Prop := k = s.bm ∨ k = s.e ∨ k ∈ s.gs
theorem fpM_obj {w : World} {s : CS} (h : CIn w s) {k : Nat} (hk : fpM s k) : isBuf w k ∨ ∃ es cl, w.heap[k]? = some (.map es cl) := by
  rcases hk with rfl | hk
  · exact .inr h.map.obj
  · exact .inl (h.bufs k hk)
set_option maxRecDepth 100000 in
theorem add_any {w : World} {s : CS} (h : CIn w s) (k : Nat) (hk : k < s.ds.secs.length) (hno : ∀ x ∈ s.L, x.b.k ≠ k) (hroom : s.L.length < s.room) :
    Calls Tryz.prog 60 #[.pointer (some ⟨s.c, 0, none⟩), .int .i64 (k : Int)] w fun e w' => e = .returned (.pointer (some ⟨w.heap.size, 0, none⟩)) ∧ ∃ O' N', CAfter w w' s { s with L := s.L ++ [newBuf w.heap.size k], O := O', N := N' } := by
  obtain ⟨f1, f2⟩ := fit_fresh h
  have hn2 := h.base.disk.n2
  have hlen := h.fit.len
  have hr2 := h.fit.r2
  obtain ⟨W, HW⟩ : ∃ W, Hid (w.alloc (.cells #[.int .i64 (k : Int), .slice none 0 0, .int .i64 0, .int .i64 0, .pointer none, .pointer none] 97) = W) := ⟨_, rfl⟩
  have hb0 : Below w.heap.size w W := HW.out ▸ below_alloc w _
  have hX : Blk W w.heap.size 97 [.int .i64 (k : Int), .slice none 0 0, .int .i64 0, .int .i64 0, .pointer none, .pointer none] := HW.out ▸ Blk.new w 97 _
  have h0 := h.kept hb0
  obtain ⟨eO, hin⟩ := ring_in h.fit.ring h.fit.nd f1 f2
  have hl3 := lst_mem s.e s.gs
  have hlk := link_any h0.mem (x := newBuf w.heap.size k) (y := ebuf s.e) hX (List.mem_cons_self ..) (by
      show s.O s.e ∈ s.e :: s.gs
      rw [eO]
      rcases hl3 with e | e
      · rw [e]; exact List.mem_cons_self ..
      · exact List.mem_cons_of_mem _ e) (by
      show w.heap.size ≠ s.O s.e
      rw [eO]
      rcases hl3 with e | e
      · rw [e]; exact f1
      · exact fun e' => f2 (e' ▸ e)) f1
  rw [show s.O (ebuf s.e).g = lst s.e s.gs from eO] at hlk
  have hc3 : (w.alloc (.cells #[.int .i64 (k : Int), .slice none 0 0, .int .i64 0, .int .i64 0, .pointer none, .pointer none] 97)).cell? ⟨s.c, 3, none⟩ = some (.pointer (some ⟨s.e, 0, none⟩)) := by rw [HW.out]; exact h0.c3
  have hbu := h0.bufs
  have hS0 : ∀ k, k = w.heap.size ∨ k = s.e ∨ k = lst s.e s.gs → k = w.heap.size ∨ k = s.e ∨ k ∈ s.gs := by
    rintro k (e | e | e)
    · exact .inl e
    · exact .inr (.inl e)
    · rw [e]
      exact .inr hl3
  have hS1 : ∀ k, k = w.heap.size ∨ k = s.e ∨ k = lst s.e s.gs → isBuf W k := fun k hk => by
    rcases hS0 k hk with e | e
    · rw [e]; exact ⟨_, hX⟩
    · exact hbu k e
  have hm0 := h0.map
  go_enter Tryz.func60, Tryz.ntmps60
  go_wp2_with (first
    | (go_at_call 96; rw [HW.out]; refine hlk.mono ?_; rintro e w1 ⟨⟨u1, rfl⟩, hM1, hk1⟩; have hB1 := h0.base.keep hk1 hS1; have hc2 := hB1.cc.cell' (i := 2) (v := .map (some s.bm)) rfl; have hm1 : MapIn w1 s.bm s.L := hm0.same (hk1.block _ hm0.lt (fun e => by obtain ⟨cs, hb⟩ := hS1 _ e; exact hm0.ne hb rfl)))
    | (at_mapUpdate; refine wpList_put_map _ rfl _ _ _ rfl rfl hm1 (newBuf w.heap.size k) rfl rfl hno (by show k ≤ 100000; omega) (by omega) ?_; intro w2 hm2 hg2))
  go_ret
  have k1 : Keep (fpM s) w w1 := (Keep.of_below hb0).trans hk1 (fun j hj e => by
    rcases hS0 j e with e | e
    · omega
    · exact .inr e)
  have k2 : Keep (fpM s) w w2 := k1.trans (Keep.of_grown (S := fpM s) hg2 (fun k hk _ => .inl (Option.some.inj hk).symm)) (fun _ _ e => e)
  refine ⟨rfl, _, _, h.turn k2 (fun k _ e => e) (fun y hy => (hM1 y (by simp at hy ⊢; rcases hy with e | e | e; exact .inr (.inl e); exact .inr (.inr e); exact .inl e)).grown hg2 ?_) hm2 ⟨?_, ?_, ?_, h.fit.r1, h.fit.r2, ?_, ?_⟩ (fun y hy => ?_) (fun y hy => ?_)⟩
  · intro e
    exact hm1.ne (hM1 y (by simp at hy ⊢; rcases hy with e | e | e; exact .inr (.inl e); exact .inr (.inr e); exact .inl e)) (Option.some.inj e).symm
  · show Chain _ _ s.e ((s.L ++ [newBuf w.heap.size k]).map (·.g)) s.e
    rw [List.map_append]
    exact hin
  · show (s.e :: (s.L ++ [newBuf w.heap.size k]).map (·.g)).Nodup
    rw [List.map_append]
    obtain ⟨a1, a2⟩ := List.nodup_cons.1 h.fit.nd
    refine List.nodup_cons.2 ⟨fun e => ?_, List.nodup_append.2 ⟨a2, by simp, fun a ha b hb => ?_⟩⟩
    · rcases List.mem_append.1 e with e | e
      · exact a1 e
      · simp [newBuf] at e; exact f1 e.symm
    · simp [newBuf] at hb
      rintro rfl
      exact f2 (hb ▸ ha)
  · show ((s.L ++ [newBuf w.heap.size k]).map (·.b.k)).Nodup
    rw [List.map_append]
    refine List.nodup_append.2 ⟨h.fit.kd, by simp, fun a ha b hb => ?_⟩
    simp [newBuf] at hb
    obtain ⟨x, hx, rfl⟩ := List.mem_map.1 ha
    rw [hb]
    exact hno x hx
  · show (s.L ++ [newBuf w.heap.size k]).length ≤ s.room
    simp
    omega
  · intro y hy
    rcases List.mem_append.1 hy with e | e
    · exact h.fit.ok y e
    · rw [List.mem_singleton.1 e]; exact hk
  · rcases List.mem_append.1 hy with e | e
    · exact dat_keep k2 (fun k _ e => fpM_obj h e) (h.base.dat y e)
    · rw [List.mem_singleton.1 e]; exact ⟨In.empty _, fun a ha => by cases ha⟩
  · rcases List.mem_append.1 hy with e | e
    · exact .inl (List.mem_map.2 ⟨y, e, rfl⟩)
    · rw [List.mem_singleton.1 e]; exact .inr (Nat.le_refl _)
set_option maxRecDepth 100000 in
theorem drop_any {w : World} {s : CS} (h : CIn w s) {p q : List BufS} {x : BufS} (hL : s.L = p ++ x :: q) :
    Calls Tryz.prog 85 #[.pointer (some ⟨s.c, 0, none⟩), .int .i64 (x.b.k : Int)] w fun e w' => (∃ u, e = .returned u) ∧ ∃ O' N', CAfter w w' s { s with L := p ++ q, O := O', N := N' } := by
  obtain ⟨hring, hnd⟩ := h.fit.mid hL
  obtain ⟨eO, eN, hout⟩ := ring_out hring hnd
  obtain ⟨n1, n2, n3, n4, n5, n6, n7, n8⟩ := nodup_mid hnd
  have hxL : x ∈ s.L := by rw [hL]; simp
  have hgs : s.gs = p.map (·.g) ++ x.g :: q.map (·.g) := by rw [CS.gs, hL, map_mid]
  have hl1 : lst s.e (p.map (·.g)) = s.e ∨ lst s.e (p.map (·.g)) ∈ s.gs := by rw [hgs]; exact (lst_mem s.e (p.map (·.g))).imp id (fun e => List.mem_append_left _ e)
  have hl2 : hed (q.map (·.g)) s.e = s.e ∨ hed (q.map (·.g)) s.e ∈ s.gs := by rw [hgs]; exact (hed_mem (q.map (·.g)) s.e).imp id (fun e => List.mem_append_right _ (List.mem_cons_of_mem _ e))
  have hmemE : ∀ k, k = s.e ∨ k ∈ s.gs → k ∈ (ebuf s.e :: s.L).map (·.g) := fun k hk => by
    show k ∈ s.e :: s.gs
    rcases hk with rfl | hk
    · exact List.mem_cons_self ..
    · exact List.mem_cons_of_mem _ hk
  have hu := unlink_any h.mem (x := x) (List.mem_cons_of_mem _ hxL) (by rw [eO]; exact hmemE _ hl1) (by rw [eN]; exact hmemE _ hl2)
    (by
      rw [eO]
      rintro e
      rcases lst_mem s.e (p.map (·.g)) with e' | e'
      · exact n3 (e.trans e')
      · exact n2 (e ▸ e')) (by
      rw [eN]
      rintro e
      rcases hed_mem (q.map (·.g)) s.e with e' | e'
      · exact n3 (e.trans e')
      · exact n4 (e ▸ e'))
  rw [eO, eN] at hu
  have hkx := h.fit.ok x hxL
  have hn2 := h.base.disk.n2
  have hlook := h.map.look hxL (by omega)
  have hc2 := h.c2
  have hkd := h.fit.kd
  rw [hL, map_mid] at hkd
  have hno : ∀ z ∈ p ++ q, z.b.k ≠ x.b.k := fun z hz e => not_mem_mid hkd (by rw [← List.map_append, ← e]; exact List.mem_map.2 ⟨z, hz, rfl⟩)
  have hm0 : MapIn w s.bm (p ++ x :: q) := hL ▸ h.map
  have hSe : ∀ k, k = lst s.e (p.map (·.g)) ∨ k = hed (q.map (·.g)) s.e → k = s.e ∨ k ∈ s.gs := by
    rintro k (rfl | rfl)
    · exact hl1
    · exact hl2
  go_enter Tryz.func85, Tryz.ntmps85
  go_wp2_with (first
    | (go_at_call 97; refine hu.mono ?_; rintro e w1 ⟨⟨u1, rfl⟩, hM1, hk1⟩; have hB1 := h.base.keep hk1 (fun k hk => h.bufs k (hSe k hk)); have hc21 := hB1.cc.cell' (i := 2) (v := .map (some s.bm)) rfl; have hm1 : MapIn w1 s.bm (p ++ x :: q) := hm0.same (hk1.block _ hm0.lt (fun e => h.bmne (hSe _ e))))
    | (at_delete; refine wpList_drop_map _ rfl _ _ rfl rfl hm1 rfl hno (by omega) ?_; intro w2 hm2 hg2))
  go_end0
  have k1 : Keep (fpM s) w w1 := hk1.mono (fun k _ e => .inr (hSe k e))
  have k2 : Keep (fpM s) w w2 := k1.trans (Keep.of_grown (S := fpM s) hg2 (fun k hk _ => .inl (Option.some.inj hk).symm)) (fun _ _ e => e)
  have hsub : ∀ y, y ∈ p ++ q → y ∈ s.L := fun y hy => by
    rw [hL]
    simp at hy ⊢
    rcases hy with e | e
    · exact .inl e
    · exact .inr (.inr e)
  have hsub2 : ∀ y, y ∈ ebuf s.e :: (p ++ q) → y ∈ ebuf s.e :: s.L := fun y hy => by
    rcases List.mem_cons.1 hy with e | e
    · rw [e]; exact List.mem_cons_self ..
    · exact List.mem_cons_of_mem _ (hsub y e)
  refine ⟨⟨_, rfl⟩, _, _, h.turn k2 (fun k _ e => e) (fun y hy => (hM1 y (hsub2 y hy)).grown hg2 (fun e => hm1.ne (hM1 y (hsub2 y hy)) (Option.some.inj e).symm)) hm2 ⟨?_, ?_, ?_, h.fit.r1, h.fit.r2, ?_, fun y hy => h.fit.ok y (hsub y hy)⟩ (fun y hy => dat_keep k2 (fun k _ e => fpM_obj h e) (h.base.dat y (hsub y hy))) (fun y hy => .inl (List.mem_map.2 ⟨y, hsub y hy, rfl⟩))⟩
  · show Chain _ _ s.e ((p ++ q).map (·.g)) s.e
    rw [List.map_append]
    exact hout
  · show (s.e :: (p ++ q).map (·.g)).Nodup
    rw [List.map_append]
    obtain ⟨a1, a2⟩ := List.nodup_cons.1 hnd
    exact List.nodup_cons.2 ⟨fun e => a1 (by simp at e ⊢; rcases e with e | e; exact .inl e; exact .inr (.inr e)), nodup_out a2⟩
  · show ((p ++ q).map (·.b.k)).Nodup
    rw [List.map_append]
    exact nodup_out hkd
  · show (p ++ q).length ≤ s.room
    have := h.fit.len
    rw [hL] at this
    simp at this ⊢
    omega
theorem drop_none {w : World} {s : CS} (h : CIn w s) (k : Nat) (hk : k ≤ 100000) (hno : ∀ x ∈ s.L, x.b.k ≠ k) :
    Calls Tryz.prog 85 #[.pointer (some ⟨s.c, 0, none⟩), .int .i64 (k : Int)] w fun e w' => (∃ u, e = .returned u) ∧ w' = w := by
  have hlook := h.map.look_no hno hk
  have hc2 := h.c2
  go_enter Tryz.func85, Tryz.ntmps85
  go_wp2
  go_end0
  exact ⟨⟨_, rfl⟩, rfl⟩
end Go.Proofs.YtdmnddikcpfmfaaGreat

namespace Go.Proofs.YtdmnddikcpfmfaaGreat
open Go.RowKit Go.Maps Go.Shelf
/-- What the function in home reads. -/
def SH (W : World) (bx by_ bz c d g k : Nat) (v : Value) : Prop := W.cell? ⟨bx, 0, none⟩ = some (.pointer (some ⟨c, 0, none⟩)) ∧ W.cell? ⟨by_, 0, none⟩ = some (.pointer (some ⟨g, 0, none⟩)) ∧ W.cell? ⟨bz, 0, none⟩ = some v ∧ W.cell? ⟨c, 0, none⟩ = some (ramI d) ∧ W.cell? ⟨g, 0, none⟩ = some (.int .i64 (k : Int))
theorem SH.drewN1 {W : World} {bx by_ bz c d g k : Nat} {v : Value} (h : SH W bx by_ bz c d g k v) : SH W.drew bx by_ bz c d g k v := h
theorem writeS_len (ds : DS) (i : Int) (xs : List Nat) : (writeS ds i xs).secs.length = ds.secs.length := by
  unfold writeS putS
  split
  · rfl
  · split
    · rfl
    · split
      · rfl
      · simp
/-- The disk's blocks alone were written. -/
theorem blk_disk {w w' : World} {d sb : Nat} {lv lv' : Value} {ds ds' : DS} (hD : DiskIn w d sb lv ds) (hA : DAfter w w' d sb lv lv' ds') {g : Nat} {t : TypeId} {cs : List Value} (hb : Blk w g t cs) (h1 : t ≠ 62) (h2 : t ≠ 102) (h3 : t ≠ 173) : Blk w' g t cs :=
  hb.keep hA.keep (by
    rintro (rfl | rfl | e)
    · exact blk_ne hD.ram hb (fun e => h1 e.symm) rfl
    · exact blk_ne hD.row hb (fun e => h2 e.symm) rfl
    · exact owns_ne hD.log e hb h3 rfl)
set_option linter.unusedSimpArgs false in
set_option maxRecDepth 100000 in
set_option maxHeartbeats 2000000 in
theorem home1_any {W : World} {s : CS} (h : CIn W s) {x : BufS} (hxL : x ∈ s.L) (bx by_ bz : Nat) (p : Option Addr) (c : Nat) (D : List Nat) (hx : Blk W bx 31 [.pointer (some ⟨s.c, 0, none⟩)]) (hy : Blk W by_ 71 [.pointer (some ⟨x.g, 0, none⟩)]) (hz : Blk W bz 52 [.slice p D.length c]) (hin : In W p D.length c D) (hwr : s.ds.writes < 1024) :
    Calls Tryz.prog 107 #[.pointer (some ⟨bx, 0, none⟩), .pointer (some ⟨by_, 0, none⟩), .pointer (some ⟨bz, 0, none⟩)] W fun e w' => e = .returned (.int .i64 (writeE s.ds (x.b.k : Int) D.length)) ∧ ∃ lv', DAfter W w' s.d s.sb s.lv lv' (writeS s.ds (x.b.k : Int) D) := by
  have hm1 : ∀ W : World, (method 275 24 (.pointer (some ⟨s.d, 0, none⟩)) "Write").run Tryz.prog W = .ok (148, .pointer (some ⟨s.d, 0, none⟩)) W := fun _ => by kernel_rfl
  have hg := h.mem x (List.mem_cons_of_mem _ hxL)
  have hD := h.base.disk
  obtain ⟨v, hv⟩ : ∃ v, v = Value.slice p D.length c := ⟨_, rfl⟩
  have hS : SH W bx by_ bz s.c s.d x.g x.b.k v := ⟨hx.cell' rfl, hy.cell' rfl, hv ▸ hz.cell' rfl, h.base.cc.cell' rfl, hg.cell' rfl⟩
  have hD1 : DiskIn W.drew s.d s.sb s.lv s.ds := hD.below (below_drewN (Below.refl _ _) 1)
  have hw := write_any hD1 (x.b.k : Int) p D.length c D (hin.below (below_drewN (Below.refl _ _) 1)) hwr
  rw [← hv] at hw
  have hK1 : ∀ w1 lv', DAfter W.drew w1 s.d s.sb s.lv lv' (writeS s.ds (x.b.k : Int) D) → SH w1 bx by_ bz s.c s.d x.g x.b.k v := fun w1 lv' hA =>
    ⟨(blk_disk hD1 hA hx (by decide) (by decide) (by decide)).cell' rfl, (blk_disk hD1 hA hy (by decide) (by decide) (by decide)).cell' rfl, hv ▸ (blk_disk hD1 hA hz (by decide) (by decide) (by decide)).cell' rfl, (blk_disk hD1 hA h.base.cc (by decide) (by decide) (by decide)).cell' rfl, (blk_disk hD1 hA hg (by decide) (by decide) (by decide)).cell' rfl⟩
  clear hv hx hy hz hg hin
  generalize writeE s.ds (x.b.k : Int) D.length = E at *
  go_enter Tryz.func107, Tryz.ntmps107
  go_wp2_with fail
  refine wp_region_noPanic ?_
  refine wp_region_held_drew (S := fun W => SH W bx by_ bz s.c s.d x.g x.b.k v) (by kernel_rfl) hS.drewN1 (fun hHeld => ?_)
  refine wpAnyH_take (i := 0) (v := ?_) rfl (by kernel_rfl) (by kernel_rfl) (by kernel_rfl) (fun _ _ _ h => h) (Or.inl ⟨by rfl, ?_⟩) hHeld ?_
  rotate_left
  · intro w' hSw; try dsimp only at hSw
    have q := hSw.1
    go_simp; try (with_reducible rfl)
  try simp only [Act.put, List.getElem_toArray, List.getElem_cons_succ, List.getElem_cons_zero, List.setIfInBounds_toArray, List.set_cons_zero, List.set_cons_succ]
  refine wpAnyH_take (i := 1) (v := ?_) rfl (by kernel_rfl) (by kernel_rfl) (by kernel_rfl) (fun _ _ _ h => h) (Or.inl ⟨by rfl, ?_⟩) hHeld ?_
  rotate_left
  · intro w' hSw; try dsimp only at hSw
    go_simp; try (with_reducible rfl)
  try simp only [Act.put, List.getElem_toArray, List.getElem_cons_succ, List.getElem_cons_zero, List.setIfInBounds_toArray, List.set_cons_zero, List.set_cons_succ]
  refine wpAnyH_take (i := 2) (v := ?_) rfl (by kernel_rfl) (by kernel_rfl) (by kernel_rfl) (fun _ _ _ h => h) (Or.inl ⟨by rfl, ?_⟩) hHeld ?_
  rotate_left
  · intro w' hSw; try dsimp only at hSw
    go_simp; try (with_reducible rfl)
  try simp only [Act.put, List.getElem_toArray, List.getElem_cons_succ, List.getElem_cons_zero, List.setIfInBounds_toArray, List.set_cons_zero, List.set_cons_succ]
  refine wpAnyH_take (i := 3) (v := ?_) rfl (by kernel_rfl) (by kernel_rfl) (by kernel_rfl) (fun _ _ _ h => h) (Or.inl ⟨by rfl, ?_⟩) hHeld ?_
  rotate_left
  · intro w' hSw; try dsimp only at hSw
    have q := hSw.2.2.2.1
    unfold ramI at q
    go_simp; try (with_reducible rfl)
  try simp only [Act.put, List.getElem_toArray, List.getElem_cons_succ, List.getElem_cons_zero, List.setIfInBounds_toArray, List.set_cons_zero, List.set_cons_succ]
  refine wpAnyH_take (i := 4) (v := ?_) rfl (by kernel_rfl) (by kernel_rfl) (by kernel_rfl) (fun _ _ _ h => h) (Or.inl ⟨by rfl, ?_⟩) hHeld ?_
  rotate_left
  · intro w' hSw; try dsimp only at hSw
    have q := hSw.2.1
    go_simp; try (with_reducible rfl)
  try simp only [Act.put, List.getElem_toArray, List.getElem_cons_succ, List.getElem_cons_zero, List.setIfInBounds_toArray, List.set_cons_zero, List.set_cons_succ]
  refine wpAnyH_take (i := 5) (v := ?_) rfl (by kernel_rfl) (by kernel_rfl) (by kernel_rfl) (fun _ _ _ h => h) (Or.inl ⟨by rfl, ?_⟩) hHeld ?_
  rotate_left
  · intro w' hSw; try dsimp only at hSw
    go_simp; try (with_reducible rfl)
  try simp only [Act.put, List.getElem_toArray, List.getElem_cons_succ, List.getElem_cons_zero, List.setIfInBounds_toArray, List.set_cons_zero, List.set_cons_succ]
  refine wpAnyH_take (i := 6) (v := ?_) rfl (by kernel_rfl) (by kernel_rfl) (by kernel_rfl) (fun _ _ _ h => h) (Or.inl ⟨by rfl, ?_⟩) hHeld ?_
  rotate_left
  · intro w' hSw; try dsimp only at hSw
    go_simp; try (with_reducible rfl)
  try simp only [Act.put, List.getElem_toArray, List.getElem_cons_succ, List.getElem_cons_zero, List.setIfInBounds_toArray, List.set_cons_zero, List.set_cons_succ]
  refine wpAnyH_take (i := 7) (v := ?_) rfl (by kernel_rfl) (by kernel_rfl) (by kernel_rfl) (fun _ _ _ h => h) (Or.inl ⟨by rfl, ?_⟩) hHeld ?_
  rotate_left
  · intro w' hSw; try dsimp only at hSw
    have q := hSw.2.2.2.2
    go_simp; try (with_reducible rfl)
  try simp only [Act.put, List.getElem_toArray, List.getElem_cons_succ, List.getElem_cons_zero, List.setIfInBounds_toArray, List.set_cons_zero, List.set_cons_succ]
  refine wpAnyH_take (i := 8) (v := ?_) rfl (by kernel_rfl) (by kernel_rfl) (by kernel_rfl) (fun _ _ _ h => h) (Or.inl ⟨by rfl, ?_⟩) hHeld ?_
  rotate_left
  · intro w' hSw; try dsimp only at hSw
    have q := hSw.2.2.1
    go_simp; try (with_reducible rfl)
  try simp only [Act.put, List.getElem_toArray, List.getElem_cons_succ, List.getElem_cons_zero, List.setIfInBounds_toArray, List.set_cons_zero, List.set_cons_succ]
  refine wpAnyH_take (i := 9) (v := ?_) rfl (by kernel_rfl) (by kernel_rfl) (by kernel_rfl) (fun _ _ _ h => h) (Or.inl ⟨by rfl, ?_⟩) hHeld ?_
  rotate_left
  · intro w' hSw; try dsimp only at hSw
    go_simp; try (with_reducible rfl)
  try simp only [Act.put, List.getElem_toArray, List.getElem_cons_succ, List.getElem_cons_zero, List.setIfInBounds_toArray, List.set_cons_zero, List.set_cons_succ]
  refine wpAnyH_take (i := 10) (v := ?_) rfl (by kernel_rfl) (by kernel_rfl) (by kernel_rfl) (fun _ _ _ h => h) (Or.inl ⟨by rfl, ?_⟩) hHeld ?_
  rotate_left
  · intro w' hSw; try dsimp only at hSw
    go_simp; try (with_reducible rfl)
  try simp only [Act.put, List.getElem_toArray, List.getElem_cons_succ, List.getElem_cons_zero, List.setIfInBounds_toArray, List.set_cons_zero, List.set_cons_succ]
  refine wpAnyH_ready (rs := [11]) (by kernel_rfl) (by simp) ?_
  refine AllReadyH.cons rfl (fun K hK => ?_) AllReadyH.nil
  rw [if_pos (by rfl)]
  go_simp
  refine hw.mono ?_
  rintro e w1 ⟨rfl, lv', hA⟩
  have hS1 := hK1 w1 lv' hA
  refine hK.out _ _ hS1 (fun hHeld => ?_)
  clear hK K
  try simp only [Act.put, List.getElem_toArray, List.getElem_cons_succ, List.getElem_cons_zero, List.setIfInBounds_toArray, List.set_cons_zero, List.set_cons_succ]
  refine wpAnyH_take (i := 12) (v := ?_) rfl (by kernel_rfl) (by kernel_rfl) (by kernel_rfl) (fun _ _ _ h => h) (Or.inl ⟨by rfl, ?_⟩) hHeld ?_
  rotate_left
  · intro w' hSw; try dsimp only at hSw
    go_simp; try (with_reducible rfl)
  try simp only [Act.put, List.getElem_toArray, List.getElem_cons_succ, List.getElem_cons_zero, List.setIfInBounds_toArray, List.set_cons_zero, List.set_cons_succ]
  refine wpAnyH_done (by kernel_rfl) ?_ _
  refine NoPanic.normal ?_
  go_wp2_with fail
  go_ret
  exact ⟨rfl, lv', hA.drop (below_drewN (Below.refl _ _) 1)⟩
end Go.Proofs.YtdmnddikcpfmfaaGreat
