/-
  A buffer goes home.
-/
import Derived.Test.YtdmnddikcpfmfaaCkHome
namespace Go.Proofs.Ytdmnddikcpfmfaa
open Go.RowKit Go.Maps Go.Shelf
/-- A cell of a block of the call's own is turned. -/
theorem CIn.setOther {w : World} {s : CS} (h : CIn w s) {g : Nat} {t : TypeId} {cs : List Value} (hb : Blk w g t cs) (h1 : t ≠ 74) (h2 : t ≠ 66) (h3 : t ≠ 82) (h4 : t ≠ 87) (h5 : t ≠ 59) (h6 : t ≠ 5) (i : Nat) (v : Value) : CIn (w.setCell ⟨g, i, none⟩ v) s := by
  refine h.same fun k hk => heap_setCell_other _ _ _ _ ?_
  show k ≠ g
  rcases hk with rfl | hk | ⟨x, hx, a, ha, rfl⟩
  · exact blk_ne h.base.cc hb (fun e => h5 e.symm)
  · rintro rfl; exact h.apart hb h1 h2 h3 h4 hk
  · exact (h.base.dat x hx).2.ne ha hb h6
theorem CAfter.setOther {w w' : World} {s s' : CS} (h : CAfter w w' s s') {g : Nat} {t : TypeId} {cs : List Value} (hb : Blk w' g t cs) (h1 : t ≠ 74) (h2 : t ≠ 66) (h3 : t ≠ 82) (h4 : t ≠ 87) (h5 : t ≠ 59) (h6 : t ≠ 5) (i : Nat) (v : Value) (hg : w.heap.size ≤ g) : CAfter w (w'.setCell ⟨g, i, none⟩ v) s s' :=
  ⟨h.cin.setOther hb h1 h2 h3 h4 h5 h6 i v, h.keep.trans (Keep.of_turned (S := fun k => k = g) (Turned.setCell _ _ _) rfl) (fun j hj e => by omega), h.fr, h.c, h.d, h.sb, h.room⟩
/-- The list with one buffer's plain part turned. -/
theorem CIn.field {w : World} {s : CS} (h : CIn w s) {p q : List BufS} {x : BufS} (hL : s.L = p ++ x :: q) (i : Nat) (v : Value) (x' : BufS) (hg : x'.g = x.g) (hk : x'.b.k = x.b.k) (hv : ∀ o n, (bufV x o n).set i v = bufV x' o n) (hd : In w x'.p x'.b.D.length x'.cap x'.b.D ∧ U8 w x'.p) : CAfter w (w.setCell ⟨x.g, i, none⟩ v) s { s with L := p ++ x' :: q } := by
  have hxL : x ∈ s.L := by rw [hL]; simp
  have hbx := h.mem x (List.mem_cons_of_mem _ hxL)
  obtain ⟨hring, hnd⟩ := h.fit.mid hL
  obtain ⟨n1, n2, n3, n4, n5, n6, n7, n8⟩ := nodup_mid hnd
  have hgs : (p ++ x' :: q).map (·.g) = s.gs := by rw [CS.gs, hL, map_mid, map_mid, hg]
  have hks : (p ++ x' :: q).map (·.b.k) = s.L.map (·.b.k) := by rw [hL, map_mid, map_mid, hk]
  have hkeep : Keep (fun k => k = x.g) w (w.setCell ⟨x.g, i, none⟩ v) := Keep.of_turned (Turned.setCell _ _ _) rfl
  have hxg : x.g ∈ s.gs := List.mem_map.2 ⟨x, hxL, rfl⟩
  have hS : ∀ k, k = x.g → fpM s k := fun k e => by rw [e]; exact .inr (.inr hxg)
  refine h.turn hkeep (fun k _ e => hS k e) ?_ ((h.map.same (heap_setCell_other _ _ _ _ (h.map.ne hbx))).turn ?_ ?_ ?_) ⟨?_, ?_, ?_, h.fit.r1, h.fit.r2, ?_, ?_⟩ (fun y hy => dat_keep hkeep (fun k _ e => fpM_obj h (hS k e)) ?_) ?_
  · refine h.mem.field (List.mem_cons_of_mem _ hxL) i v hg hv (fun y hy => ?_)
    simp at hy
    rcases hy with rfl | e | rfl | e
    · exact .inr ⟨List.mem_cons_self .., n3.symm⟩
    · exact .inr ⟨List.mem_cons_of_mem _ (by rw [hL]; simp [e]), fun e' => n2 (e' ▸ List.mem_map.2 ⟨y, e, rfl⟩)⟩
    · exact .inl rfl
    · exact .inr ⟨List.mem_cons_of_mem _ (by rw [hL]; simp [e]), fun e' => n4 (e' ▸ List.mem_map.2 ⟨y, e, rfl⟩)⟩
  · rw [hL]; simp
  · intro y hy
    simp at hy
    rcases hy with e | rfl | e
    · exact ⟨y, by rw [hL]; simp [e], rfl, rfl⟩
    · exact ⟨x, hxL, hg.symm, hk.symm⟩
    · exact ⟨y, by rw [hL]; simp [e], rfl, rfl⟩
  · intro y hy
    rw [hL] at hy
    simp at hy
    rcases hy with e | rfl | e
    · exact ⟨y, by simp [e], rfl⟩
    · exact ⟨x', by simp, hk⟩
    · exact ⟨y, by simp [e], rfl⟩
  · show Chain s.O s.N s.e ((p ++ x' :: q).map (·.g)) s.e
    rw [hgs]; exact h.fit.ring
  · show (s.e :: (p ++ x' :: q).map (·.g)).Nodup
    rw [hgs]; exact h.fit.nd
  · show ((p ++ x' :: q).map (·.b.k)).Nodup
    rw [hks]; exact h.fit.kd
  · show (p ++ x' :: q).length ≤ s.room
    have := h.fit.len
    rw [hL] at this
    simpa using this
  · intro y hy
    simp at hy
    rcases hy with e | rfl | e
    · exact h.fit.ok y (by rw [hL]; simp [e])
    · rw [hk]; exact h.fit.ok x hxL
    · exact h.fit.ok y (by rw [hL]; simp [e])
  · simp at hy
    rcases hy with e | rfl | e
    · exact h.base.dat y (by rw [hL]; simp [e])
    · exact hd
    · exact h.base.dat y (by rw [hL]; simp [e])
  · intro y hy
    refine .inl ?_
    rw [← hgs]
    exact List.mem_map.2 ⟨y, hy, rfl⟩
def cleanB (x : BufS) : BufS := { x with b := { x.b with cl := 0 } }
set_option maxRecDepth 100000 in
set_option maxHeartbeats 2000000 in
theorem home_any {w : World} {s : CS} (h : CIn w s) {p q : List BufS} {x : BufS} (hL : s.L = p ++ x :: q) (hwr : s.ds.writes < 1024) :
    Calls Try.prog 59 #[.pointer (some ⟨s.c, 0, none⟩), .pointer (some ⟨x.g, 0, none⟩)] w fun e w' => e = .returned (.int .i64 (writeE s.ds (x.b.k : Int) x.b.D.length)) ∧
      ∃ lv', CAfter w w' s { s with lv := lv', ds := writeS s.ds (x.b.k : Int) x.b.D, L := if writeE s.ds (x.b.k : Int) x.b.D.length = 0 then p ++ cleanB x :: q else s.L } := by
  have hmf : ∀ (fn : Fn) (first cap : Array Value) (w : World), (Instr.makeFunc fn first cap).run Try.prog w = .ok (.func fn first cap) w := fun _ _ _ _ => rfl
  have hxL : x ∈ s.L := by rw [hL]; simp
  obtain ⟨W, HW⟩ : ∃ W, Hid ((w.alloc (.cells #[.pointer (some ⟨s.c, 0, none⟩)] 27)).alloc (.cells #[.pointer (some ⟨x.g, 0, none⟩)] 57) = W) := ⟨_, rfl⟩
  have hbW : Below w.heap.size w W := HW.out ▸ bt (below_alloc w _) (below_alloc _ _)
  have hx : Blk W w.heap.size 27 [.pointer (some ⟨s.c, 0, none⟩)] := HW.out ▸ (Blk.new w 27 [.pointer (some ⟨s.c, 0, none⟩)]).alloc _
  have hy : Blk W (w.heap.size + 1) 57 [.pointer (some ⟨x.g, 0, none⟩)] := by
    have := Blk.new (w.alloc (.cells #[.pointer (some ⟨s.c, 0, none⟩)] 27)) 57 [.pointer (some ⟨x.g, 0, none⟩)]
    rw [World.size_alloc] at this
    exact HW.out ▸ this
  have hsW : W.heap.size = w.heap.size + 1 + 1 := by rw [← HW.out]; simp
  have h0 := h.kept hbW
  have hg0 := h0.mem x (List.mem_cons_of_mem _ hxL)
  have hcl := clone_u8 _ _ _ _ _ (h0.base.dat x hxL).1
  have c1 : ((w.alloc (.cells #[.pointer (some ⟨s.c, 0, none⟩)] 27)).alloc (.cells #[.pointer (some ⟨x.g, 0, none⟩)] 57)).cell? ⟨x.g, 1, none⟩ = some (.slice x.p x.b.D.length x.cap) := by rw [HW.out]; exact hg0.cell' rfl
  have HL : Hid (s.L = p ++ x :: q) := hL
  clear hL
  go_enter Try.func59, Try.ntmps59
  go_wp2_with (go_at_call 32; rw [HW.out]; refine hcl.mono ?_; rintro e w2 ⟨p2, c2, rfl, hin2, hb2, hfr2, hu2⟩)
  obtain ⟨W3, HW3⟩ : ∃ W3, W3 = w2.alloc (.cells #[.slice p2 x.b.D.length c2] 35) := ⟨_, rfl⟩
  have hb3 : Below w2.heap.size w2 W3 := HW3 ▸ below_alloc w2 _
  have hz3 : Blk W3 w2.heap.size 35 [.slice p2 x.b.D.length c2] := HW3 ▸ Blk.new w2 35 _
  rw [← HW3]
  clear HW3
  have hbE := below_alloc W3 (.cells #[.int .i64 0] 24)
  have hE := Blk.new W3 24 [.int .i64 0]
  have hbA := bt (bt (bt hbW hb2) hb3) hbE
  have h3 := h.kept hbA
  have hy3 := ((hy.kept hb2).kept hb3).kept hbE
  have h1 := home1_any h3 hxL w.heap.size (w.heap.size + 1) w2.heap.size p2 c2 x.b.D (((hx.kept hb2).kept hb3).kept hbE) hy3 (hz3.kept hbE) ((hin2.below hb3).below hbE) hwr
  have hc := caught_of (ents Try.func70 (by kernel_rfl) rfl) W3 (writeE s.ds (x.b.k : Int) x.b.D.length) (fun w' => ∃ lv', DAfter (W3.alloc (.cells #[.int .i64 0] 24)) w' s.d s.sb s.lv lv' (writeS s.ds (x.b.k : Int) x.b.D)) (h1.mono fun e w' ⟨he, lv', hA⟩ => ⟨he, blk_disk h3.base.disk hA hE (by decide) (by decide) (by decide), lv', hA⟩)
  have hsz : w.heap.size ≤ W3.heap.size := (bt (bt hbW hb2) hb3).size
  refine hc.mono ?_
  rintro e w4 ⟨rfl, w3, ⟨lv', hA⟩, hbE3, rfl⟩
  have A3 := (CAfter.drop hbA (h3.disked hA (writeS_len _ _ _))).setOther hbE3 (by decide) (by decide) (by decide) (by decide) (by decide) (by decide) 0 (.int .i64 (writeE s.ds (x.b.k : Int) x.b.D.length)) hsz
  have hyZ := (blk_disk h3.base.disk hA hy3 (by decide) (by decide) (by decide)).setOther ⟨W3.heap.size, 0, none⟩ (.int .i64 (writeE s.ds (x.b.k : Int) x.b.D.length)) (blk_ne (blk_disk h3.base.disk hA hy3 (by decide) (by decide) (by decide)) hbE3 (by decide))
  generalize w3.setCell ⟨W3.heap.size, 0, none⟩ (.int .i64 (writeE s.ds (x.b.k : Int) x.b.D.length)) = Z at *
  have hgZ := A3.cin.mem x (List.mem_cons_of_mem _ hxL)
  have d1 := hyZ.cell' (i := 0) (v := .pointer (some ⟨x.g, 0, none⟩)) rfl
  have d2 := hgZ.cell' (i := 2) (v := .int .i64 (x.b.cl : Int)) rfl
  have d3 := hgZ.frozen 2
  have A4 := A3.cin.field (p := p) (q := q) (x := x) HL.out 2 (.int .i64 0) (cleanB x) rfl rfl (fun _ _ => rfl) (A3.cin.base.dat x hxL)
  clear hA h1 hc hin2 hu2 hfr2 hcl h0 hg0 h3 hE hbE hbE3 hy3 hz3 hb3 hbA hx hy
  by_cases hE0 : writeE s.ds (x.b.k : Int) x.b.D.length = 0
  · have hE1 : Hid (writeE s.ds (x.b.k : Int) x.b.D.length = 0) := hE0
    rw [hE0]
    clear hE0
    go_wp2_with fail
    go_ret
    exact ⟨rfl, lv', A3.trans A4⟩
  · go_wp2_with fail
    go_ret
    exact ⟨rfl, lv', A3⟩
end Go.Proofs.Ytdmnddikcpfmfaa
