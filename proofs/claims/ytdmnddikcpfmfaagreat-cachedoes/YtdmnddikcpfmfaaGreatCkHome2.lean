/-
  A buffer goes home.
-/
import Derived.Test.YtdmnddikcpfmfaaGreatCkAdd
namespace Go.Proofs.YtdmnddikcpfmfaaGreat
open Go.RowKit Go.Maps Go.Shelf
/-- A cell of a block of the call's own is turned. -/
theorem CIn.setOther {w : World} {s : CS} (h : CIn w s) {g : Nat} {t : TypeId} {cs : List Value} (hb : Blk w g t cs) (h1 : t ≠ 97) (h2 : t ≠ 62) (h3 : t ≠ 102) (h4 : t ≠ 173) (h5 : t ≠ 74) (h6 : t ≠ 5) (i : Nat) (v : Value) : CIn (w.setCell ⟨g, i, none⟩ v) s := by
  refine h.same fun k hk => heap_setCell_other _ _ _ _ ?_
  show k ≠ g
  rcases hk with rfl | hk | ⟨x, hx, a, ha, rfl⟩
  · exact blk_ne h.base.cc hb (fun e => h5 e.symm)
  · rintro rfl; exact h.apart hb h1 h2 h3 h4 hk
  · exact (h.base.dat x hx).2.ne ha hb h6
theorem CAfter.setOther {w w' : World} {s s' : CS} (h : CAfter w w' s s') {g : Nat} {t : TypeId} {cs : List Value} (hb : Blk w' g t cs) (h1 : t ≠ 97) (h2 : t ≠ 62) (h3 : t ≠ 102) (h4 : t ≠ 173) (h5 : t ≠ 74) (h6 : t ≠ 5) (i : Nat) (v : Value) (hg : w.heap.size ≤ g) : CAfter w (w'.setCell ⟨g, i, none⟩ v) s s' :=
  ⟨h.cin.setOther hb h1 h2 h3 h4 h5 h6 i v, h.keep.trans (Keep.of_turned (S := fun k => k = g) (Turned.setCell _ _ _) rfl) (fun j hj e => by omega), h.fr, h.c, h.d, h.sb, h.room⟩
/-- The list with one buffer's plain part turned. -/
theorem CIn.field {w : World} {s : CS} (h : CIn w s) {p q : List BufS} {x : BufS} (hL : s.L = p ++ x :: q) (i : Nat) (v : Value) (x' : BufS) (hg : x'.g = x.g) (hk : x'.b.k = x.b.k) (hv : ∀ o n, (bufV x o n).set i v = bufV x' o n) (hd : In w x'.p x'.b.D.length x'.cap x'.b.D ∧ U8 w x'.p) : CAfter w (w.setCell ⟨x.g, i, none⟩ v) s { s with L := p ++ x' :: q } := by
  have hxL : x ∈ s.L := by rw [hL]; simp
  have hbx := h.mem x (List.mem_cons_of_mem _ hxL)
  obtain ⟨hring, hnd⟩ := h.fit.mid hL
  obtain ⟨n1, n2, n3, n4, n5, n6, n7, n8⟩ := nodup_mid hnd
  have hgs : (p ++ x' :: q).map (·.g) = s.gs := by rw [CS.gs, hL, map_mid, map_mid, hg]
  have hks : (p ++ x' :: q).map (·.b.k) = s.L.map (·.b.k) := by rw [hL, map_mid, map_mid, hk]
  have hkeep : Keep (fun k => k = x.g) w (w.setCell ⟨x.g, i, none⟩ v) := Keep.of_turned (Turned.setCell _ _ _) rfl
  have hxg : x.g ∈ s.gs := List.mem_map.2 ⟨x, hxL, rfl⟩
  have hS : ∀ k, k = x.g → fpM s k := fun k e => by rw [e]; exact .inr (.inr hxg)
  refine h.turn hkeep (fun k _ e => hS k e) ?_ ((h.map.same (heap_setCell_other _ _ _ _ (h.map.ne hbx))).turn ?_ ?_ ?_) ⟨?_, ?_, ?_, h.fit.r1, h.fit.r2, ?_, ?_⟩ (fun y hy => dat_keep hkeep (fun k _ e => fpM_obj h (hS k e)) ?_) ?_
  · refine h.mem.field (List.mem_cons_of_mem _ hxL) i v hg hv (fun y hy => ?_)
    simp at hy
    rcases hy with rfl | e | rfl | e
    · exact .inr ⟨List.mem_cons_self .., n3.symm⟩
    · exact .inr ⟨List.mem_cons_of_mem _ (by rw [hL]; simp [e]), fun e' => n2 (e' ▸ List.mem_map.2 ⟨y, e, rfl⟩)⟩
    · exact .inl rfl
    · exact .inr ⟨List.mem_cons_of_mem _ (by rw [hL]; simp [e]), fun e' => n4 (e' ▸ List.mem_map.2 ⟨y, e, rfl⟩)⟩
  · rw [hL]; simp
  · intro y hy
    simp at hy
    rcases hy with e | rfl | e
    · exact ⟨y, by rw [hL]; simp [e], rfl, rfl⟩
    · exact ⟨x, hxL, hg.symm, hk.symm⟩
    · exact ⟨y, by rw [hL]; simp [e], rfl, rfl⟩
  · intro y hy
    rw [hL] at hy
    simp at hy
    rcases hy with e | rfl | e
    · exact ⟨y, by simp [e], rfl⟩
    · exact ⟨x', by simp, hk⟩
    · exact ⟨y, by simp [e], rfl⟩
  · show Chain s.O s.N s.e ((p ++ x' :: q).map (·.g)) s.e
    rw [hgs]; exact h.fit.ring
  · show (s.e :: (p ++ x' :: q).map (·.g)).Nodup
    rw [hgs]; exact h.fit.nd
  · show ((p ++ x' :: q).map (·.b.k)).Nodup
    rw [hks]; exact h.fit.kd
  · show (p ++ x' :: q).length ≤ s.room
    have := h.fit.len
    rw [hL] at this
    simpa using this
  · intro y hy
    simp at hy
    rcases hy with e | rfl | e
    · exact h.fit.ok y (by rw [hL]; simp [e])
    · rw [hk]; exact h.fit.ok x hxL
    · exact h.fit.ok y (by rw [hL]; simp [e])
  · simp at hy
    rcases hy with e | rfl | e
    · exact h.base.dat y (by rw [hL]; simp [e])
    · exact hd
    · exact h.base.dat y (by rw [hL]; simp [e])
  · intro y hy
    refine .inl ?_
    rw [← hgs]
    exact List.mem_map.2 ⟨y, hy, rfl⟩
def cleanB (x : BufS) : BufS := { x with b := { x.b with cl := 0 } }
set_option maxRecDepth 100000 in
set_option maxHeartbeats 2000000 in
theorem home_any {w : World} {s : CS} (h : CIn w s) {p q : List BufS} {x : BufS} (hL : s.L = p ++ x :: q) (hwr : s.ds.writes < 1024) :
    Calls Tryz.prog 95 #[.pointer (some ⟨s.c, 0, none⟩), .pointer (some ⟨x.g, 0, none⟩)] w fun e w' => e = .returned (.int .i64 (writeE s.ds (x.b.k : Int) x.b.D.length)) ∧
      ∃ lv', CAfter w w' s { s with lv := lv', ds := writeS s.ds (x.b.k : Int) x.b.D, L := if writeE s.ds (x.b.k : Int) x.b.D.length = 0 then p ++ cleanB x :: q else s.L } := by
  have hmf : ∀ (fn : Fn) (first cap : Array Value) (w : World), (Instr.makeFunc fn first cap).run Tryz.prog w = .ok (.func fn first cap) w := fun _ _ _ _ => rfl
  have hxL : x ∈ s.L := by rw [hL]; simp
  obtain ⟨W, HW⟩ : ∃ W, Hid ((w.alloc (.cells #[.pointer (some ⟨s.c, 0, none⟩)] 31)).alloc (.cells #[.pointer (some ⟨x.g, 0, none⟩)] 71) = W) := ⟨_, rfl⟩
  have hbW : Below w.heap.size w W := HW.out ▸ bt (below_alloc w _) (below_alloc _ _)
  have hx : Blk W w.heap.size 31 [.pointer (some ⟨s.c, 0, none⟩)] := HW.out ▸ (Blk.new w 31 [.pointer (some ⟨s.c, 0, none⟩)]).alloc _
  have hy : Blk W (w.heap.size + 1) 71 [.pointer (some ⟨x.g, 0, none⟩)] := by
    have := Blk.new (w.alloc (.cells #[.pointer (some ⟨s.c, 0, none⟩)] 31)) 71 [.pointer (some ⟨x.g, 0, none⟩)]
    rw [World.size_alloc] at this
    exact HW.out ▸ this
  have hsW : W.heap.size = w.heap.size + 1 + 1 := by rw [← HW.out]; simp
  have h0 := h.kept hbW
  have hg0 := h0.mem x (List.mem_cons_of_mem _ hxL)
  have hcl := clone_u8 _ _ _ _ _ (h0.base.dat x hxL).1
  have c1 : ((w.alloc (.cells #[.pointer (some ⟨s.c, 0, none⟩)] 31)).alloc (.cells #[.pointer (some ⟨x.g, 0, none⟩)] 71)).cell? ⟨x.g, 1, none⟩ = some (.slice x.p x.b.D.length x.cap) := by rw [HW.out]; exact hg0.cell' rfl
  have HL : Hid (s.L = p ++ x :: q) := hL
  clear hL
  go_enter Tryz.func95, Tryz.ntmps95
  go_wp2_with (go_at_call 61; rw [HW.out]; refine hcl.mono ?_; rintro e w2 ⟨p2, c2, rfl, hin2, hb2, hfr2, hu2⟩)
  obtain ⟨W3, HW3⟩ : ∃ W3, W3 = w2.alloc (.cells #[.slice p2 x.b.D.length c2] 52) := ⟨_, rfl⟩
  have hb3 : Below w2.heap.size w2 W3 := HW3 ▸ below_alloc w2 _
  have hz3 : Blk W3 w2.heap.size 52 [.slice p2 x.b.D.length c2] := HW3 ▸ Blk.new w2 52 _
  rw [← HW3]
  clear HW3
  have hbE := below_alloc W3 (.cells #[.int .i64 0] 25)
  have hE := Blk.new W3 25 [.int .i64 0]
  have hbA := bt (bt (bt hbW hb2) hb3) hbE
  have h3 := h.kept hbA
  have hy3 := ((hy.kept hb2).kept hb3).kept hbE
  have h1 := home1_any h3 hxL w.heap.size (w.heap.size + 1) w2.heap.size p2 c2 x.b.D (((hx.kept hb2).kept hb3).kept hbE) hy3 (hz3.kept hbE) ((hin2.below hb3).below hbE) hwr
  have hc := caught_of (ents Tryz.func107 (by kernel_rfl) rfl) W3 (writeE s.ds (x.b.k : Int) x.b.D.length) (fun w' => ∃ lv', DAfter (W3.alloc (.cells #[.int .i64 0] 25)) w' s.d s.sb s.lv lv' (writeS s.ds (x.b.k : Int) x.b.D)) (h1.mono fun e w' ⟨he, lv', hA⟩ => ⟨he, blk_disk h3.base.disk hA hE (by decide) (by decide) (by decide), lv', hA⟩)
  have hsz : w.heap.size ≤ W3.heap.size := (bt (bt hbW hb2) hb3).size
  refine hc.mono ?_
  rintro e w4 ⟨rfl, w3, ⟨lv', hA⟩, hbE3, rfl⟩
  have A3 := (CAfter.drop hbA (h3.disked hA (writeS_len _ _ _))).setOther hbE3 (by decide) (by decide) (by decide) (by decide) (by decide) (by decide) 0 (.int .i64 (writeE s.ds (x.b.k : Int) x.b.D.length)) hsz
  have hyZ := (blk_disk h3.base.disk hA hy3 (by decide) (by decide) (by decide)).setOther ⟨W3.heap.size, 0, none⟩ (.int .i64 (writeE s.ds (x.b.k : Int) x.b.D.length)) (blk_ne (blk_disk h3.base.disk hA hy3 (by decide) (by decide) (by decide)) hbE3 (by decide))
  generalize w3.setCell ⟨W3.heap.size, 0, none⟩ (.int .i64 (writeE s.ds (x.b.k : Int) x.b.D.length)) = Z at *
  have hgZ := A3.cin.mem x (List.mem_cons_of_mem _ hxL)
  have d1 := hyZ.cell' (i := 0) (v := .pointer (some ⟨x.g, 0, none⟩)) rfl
  have d2 := hgZ.cell' (i := 2) (v := .int .i64 (x.b.cl : Int)) rfl
  have d3 := hgZ.frozen 2
  have A4 := A3.cin.field (p := p) (q := q) (x := x) HL.out 2 (.int .i64 0) (cleanB x) rfl rfl (fun _ _ => rfl) (A3.cin.base.dat x hxL)
  clear hA h1 hc hin2 hu2 hfr2 hcl h0 hg0 h3 hE hbE hbE3 hy3 hz3 hb3 hbA hx hy
  by_cases hE0 : writeE s.ds (x.b.k : Int) x.b.D.length = 0
  · have hE1 : Hid (writeE s.ds (x.b.k : Int) x.b.D.length = 0) := hE0
    rw [hE0]
    clear hE0
    go_wp2_with fail
    go_ret
    exact ⟨rfl, lv', A3.trans A4⟩
  · go_wp2_with fail
    go_ret
    exact ⟨rfl, lv', A3⟩
end Go.Proofs.YtdmnddikcpfmfaaGreat

namespace Go.Proofs.YtdmnddikcpfmfaaGreat
/-- The first that is so, with what stands ahead of it and behind it. -/
def cutAt {α : Type} (f : α → Bool) : List α → Option (List α × α × List α)
  | [] => none
  | x :: r => if f x = true then some ([], x, r) else (cutAt f r).map fun t => (x :: t.1, t.2.1, t.2.2)
theorem cutAt_some {α : Type} {f : α → Bool} {x : α} {q : List α} (hx : f x = true) : ∀ {p : List α}, (∀ y ∈ p, f y = false) → cutAt f (p ++ x :: q) = some (p, x, q)
  | [], _ => by simp [cutAt, hx]
  | y :: p, h => by
    have hy := h y (List.mem_cons_self ..)
    have ih := cutAt_some (q := q) hx (p := p) (fun z hz => h z (List.mem_cons_of_mem _ hz))
    simp [cutAt, hy, ih]
theorem cutAt_none {α : Type} {f : α → Bool} : ∀ {l : List α}, (∀ y ∈ l, f y = false) → cutAt f l = none
  | [], _ => rfl
  | y :: p, h => by
    have hy := h y (List.mem_cons_self ..)
    have ih := cutAt_none (l := p) (fun z hz => h z (List.mem_cons_of_mem _ hz))
    simp [cutAt, hy, ih]
theorem cutAt_spec {α : Type} {f : α → Bool} : ∀ {l p q : List α} {x : α}, cutAt f l = some (p, x, q) → l = p ++ x :: q ∧ f x = true ∧ ∀ y ∈ p, f y = false
  | [], p, q, x, h => by simp [cutAt] at h
  | y :: r, p, q, x, h => by
    rw [cutAt] at h
    split at h
    · next hy =>
      simp at h
      obtain ⟨rfl, rfl, rfl⟩ := h
      exact ⟨rfl, hy, by simp⟩
    · next hy =>
      cases hc : cutAt f r with
      | none => rw [hc] at h; simp at h
      | some t =>
        obtain ⟨a, b, c⟩ := t
        rw [hc] at h
        simp at h
        obtain ⟨rfl, rfl, rfl⟩ := h
        obtain ⟨h1, h2, h3⟩ := cutAt_spec hc
        refine ⟨by rw [h1]; rfl, h2, fun z hz => ?_⟩
        rcases List.mem_cons.1 hz with rfl | hz
        · simpa using hy
        · exact h3 z hz
/-- Room is made: the error, the buffers, the disk. -/
def roomR (r : Nat) (l : List BP) (ds : DS) : Int × List BP × DS :=
  if l.length < r then (0, l, ds) else
  match cutAt goesB l with
  | none => (100, l, ds)
  | some (p, x, q) => if x.cl = 0 then (0, p ++ q, ds) else
    (writeE ds (x.k : Int) x.D.length, if writeE ds (x.k : Int) x.D.length = 0 then p ++ q else l, writeS ds (x.k : Int) x.D)
theorem roomR_room {r : Nat} {l : List BP} {ds : DS} (h : l.length < r) : roomR r l ds = (0, l, ds) := if_pos h
theorem roomR_pins {r : Nat} {l : List BP} {ds : DS} (h : ¬ l.length < r) (hn : ∀ y ∈ l, goesB y = false) : roomR r l ds = (100, l, ds) := by
  rw [roomR, if_neg h, cutAt_none hn]
theorem roomR_clean {r : Nat} {p q : List BP} {x : BP} {ds : DS} (h : ¬ (p ++ x :: q).length < r) (hn : ∀ y ∈ p, goesB y = false) (hx : goesB x = true) (hc : x.cl = 0) : roomR r (p ++ x :: q) ds = (0, p ++ q, ds) := by
  rw [roomR, if_neg h, cutAt_some hx hn]
  simp [hc]
theorem roomR_dirty {r : Nat} {p q : List BP} {x : BP} {ds : DS} (h : ¬ (p ++ x :: q).length < r) (hn : ∀ y ∈ p, goesB y = false) (hx : goesB x = true) (hc : ¬ x.cl = 0) : roomR r (p ++ x :: q) ds = (writeE ds (x.k : Int) x.D.length, if writeE ds (x.k : Int) x.D.length = 0 then p ++ q else p ++ x :: q, writeS ds (x.k : Int) x.D) := by
  rw [roomR, if_neg h, cutAt_some hx hn]
  simp [hc]
/-- What room leaves was there. -/
theorem roomR_cases (r : Nat) (l : List BP) (ds : DS) : (roomR r l ds = (0, l, ds) ∧ l.length < r) ∨ (roomR r l ds = (100, l, ds) ∧ ¬ l.length < r ∧ ∀ y ∈ l, goesB y = false) ∨ ∃ p x q, l = p ++ x :: q ∧ ¬ l.length < r ∧ goesB x = true ∧ (∀ y ∈ p, goesB y = false) ∧
    ((x.cl = 0 ∧ roomR r l ds = (0, p ++ q, ds)) ∨ (x.cl ≠ 0 ∧ writeE ds (x.k : Int) x.D.length = 0 ∧ roomR r l ds = (0, p ++ q, writeS ds (x.k : Int) x.D)) ∨ (x.cl ≠ 0 ∧ writeE ds (x.k : Int) x.D.length ≠ 0 ∧ roomR r l ds = (writeE ds (x.k : Int) x.D.length, l, writeS ds (x.k : Int) x.D))) := by
  by_cases h : l.length < r
  · exact .inl ⟨roomR_room h, h⟩
  · refine .inr ?_
    cases hc : cutAt goesB l with
    | none =>
      refine .inl ⟨by rw [roomR, if_neg h, hc], h, fun y hy => ?_⟩
      cases hg : goesB y with
      | false => rfl
      | true =>
        exfalso
        have : ∀ l : List BP, cutAt goesB l = none → ∀ y ∈ l, goesB y = false := by
          intro l
          induction l with
          | nil => intro _ y hy; simp at hy
          | cons a l ih =>
            intro hn y hy
            rw [cutAt] at hn
            split at hn
            · simp at hn
            · next ha =>
              rcases List.mem_cons.1 hy with rfl | hy
              · simpa using ha
              · exact ih (by simpa using hn) y hy
        rw [this l hc y hy] at hg
        cases hg
    | some t =>
      obtain ⟨p, x, q⟩ := t
      obtain ⟨e1, e2, e3⟩ := cutAt_spec hc
      refine .inr ⟨p, x, q, e1, h, e2, e3, ?_⟩
      by_cases h0 : x.cl = 0
      · exact .inl ⟨h0, by rw [roomR, if_neg h, hc]; simp [h0]⟩
      · refine .inr ?_
        by_cases hE : writeE ds (x.k : Int) x.D.length = 0
        · exact .inl ⟨h0, hE, by rw [roomR, if_neg h, hc]; simp [h0, hE]⟩
        · exact .inr ⟨h0, hE, by rw [roomR, if_neg h, hc]; simp [h0, hE]⟩
end Go.Proofs.YtdmnddikcpfmfaaGreat
