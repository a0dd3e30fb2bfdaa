/-
  A cache in memory beside its disk: what their blocks hold, and what a call may turn.
-/
import Derived.Test.YtdmnddikcpfmfaaCkMap
namespace Go.Proofs.Ytdmnddikcpfmfaa
open Go.RowKit Go.Maps
/-- A cache and its disk. -/
structure CS where
  d : Nat
  sb : Nat
  lv : Value
  ds : DS
  c : Nat
  e : Nat
  bm : Nat
  room : Nat
  L : List BufS
  O : Nat → Nat
  N : Nat → Nat
def CS.P (s : CS) : List BP := s.L.map (·.b)
def CS.gs (s : CS) : List Nat := s.L.map (·.g)
def cacheV (s : CS) : List Value := [ramI s.d, .int .i64 (s.room : Int), .map (some s.bm), .pointer (some ⟨s.e, 0, none⟩)]
/-- All but the buffers themselves. -/
structure CBase (w : World) (s : CS) : Prop where
  cc : Blk w s.c 59 (cacheV s)
  disk : DiskIn w s.d s.sb s.lv s.ds
  dat : ∀ x ∈ s.L, In w x.p x.b.D.length x.cap x.b.D ∧ U8 w x.p
/-- What does not hang on the memory. -/
structure CFit (s : CS) : Prop where
  ring : Chain s.O s.N s.e s.gs s.e
  nd : (s.e :: s.gs).Nodup
  kd : (s.L.map (·.b.k)).Nodup
  r1 : 8 ≤ s.room
  r2 : s.room ≤ 1024
  len : s.L.length ≤ s.room
  ok : ∀ x ∈ s.L, x.b.k < s.ds.secs.length
structure CIn (w : World) (s : CS) : Prop where
  base : CBase w s
  mem : Mem w (ebuf s.e :: s.L) s.O s.N
  map : MapIn w s.bm s.L
  fit : CFit s
/-- The blocks that may be written. -/
def fpC (s : CS) (k : Nat) : Prop := k = s.bm ∨ k = s.e ∨ k ∈ s.gs ∨ fpD s.d s.sb s.lv k
/-- A block of a buffer, or of the ends. -/
def isBuf (w : World) (k : Nat) : Prop := ∃ cs, Blk w k 74 cs
theorem CBase.same {w w' : World} {s : CS} (h : CBase w s) (h1 : w'.heap[s.c]? = w.heap[s.c]?) (h2 : ∀ k, fpD s.d s.sb s.lv k → w'.heap[k]? = w.heap[k]?) (h3 : ∀ x ∈ s.L, ∀ a, x.p = some a → w'.heap[a.block]? = w.heap[a.block]?) : CBase w' s :=
  ⟨h.cc.same h1, h.disk.same h2, fun x hx => ⟨(h.dat x hx).1.same (fun a ha _ => h3 x hx a ha), (h.dat x hx).2.same (h3 x hx)⟩⟩
theorem fpD_buf {w : World} {d sb : Nat} {lv : Value} {ds : DS} (h : DiskIn w d sb lv ds) {k : Nat} (hk : fpD d sb lv k) : ¬ isBuf w k := by
  rintro ⟨cs, hb⟩
  rcases hk with rfl | rfl | hk
  · exact blk_ne h.ram hb (by decide) rfl
  · exact blk_ne h.row hb (by decide) rfl
  · exact owns_ne h.log hk hb (by decide) rfl
/-- Only blocks of buffers were written. -/
theorem CBase.keep {w w' : World} {s : CS} {S : Nat → Prop} (h : CBase w s) (hk : Keep S w w') (hS : ∀ k, S k → isBuf w k) : CBase w' s := by
  refine h.same (hk.block _ h.cc.lt (fun e => ?_)) (fun k hf => hk.block k (h.disk.lt hf) (fun e => fpD_buf h.disk hf (hS k e))) (fun x hx a ha => ?_)
  · obtain ⟨cs, hb⟩ := hS _ e
    exact blk_ne h.cc hb (by decide) rfl
  · obtain ⟨cs, hc⟩ := (h.dat x hx).2 a ha
    refine hk.block _ (Array.getElem?_eq_some_iff.1 hc).1 (fun e => ?_)
    obtain ⟨cs', hb⟩ := hS _ e
    exact (h.dat x hx).2.ne ha hb (by decide) rfl
theorem CBase.kept {w w' : World} {s : CS} (h : CBase w s) (hb : Below w.heap.size w w') : CBase w' s := h.keep (S := fun _ => False) (Keep.of_below hb) (fun _ h => h.elim)
/-- Only a map was written. -/
theorem CBase.mapped {w w' : World} {s : CS} (h : CBase w s) {bm : Nat} {L : List BufS} (hm : MapIn w bm L) (hg : w.grownBy w' (some bm)) : CBase w' s := by
  have hne : ∀ k, k < w.heap.size → k ≠ bm → w'.heap[k]? = w.heap[k]? := fun k hk hn => hg.block k hk (fun e => hn (Option.some.inj e))
  obtain ⟨es, cl, ho⟩ := hm.obj
  refine h.same (hne _ h.cc.lt (fun e => (hm.ne h.cc) e.symm)) (fun k hf => hne k (h.disk.lt hf) ?_) (fun x hx a ha => ?_)
  · rintro rfl
    rcases hf with rfl | rfl | hf
    · exact hm.ne h.disk.ram rfl
    · exact hm.ne h.disk.row rfl
    · obtain ⟨cs, hc, _⟩ := owns_row h.disk.log hf
      rw [ho] at hc; cases hc
  · obtain ⟨cs, hc⟩ := (h.dat x hx).2 a ha
    refine hne _ (Array.getElem?_eq_some_iff.1 hc).1 ?_
    rintro e
    rw [e, ho] at hc; cases hc
theorem CBase.list {w : World} {s : CS} (h : CBase w s) {L' : List BufS} {O' N' : Nat → Nat} (hL : ∀ x ∈ L', In w x.p x.b.D.length x.cap x.b.D ∧ U8 w x.p) : CBase w { s with L := L', O := O', N := N' } := ⟨h.cc, h.disk, hL⟩
theorem Mem.isBuf {w : World} {A : List BufS} {O N : Nat → Nat} (h : Mem w A O N) {k : Nat} (hk : k ∈ A.map (·.g)) : isBuf w k := by
  obtain ⟨x, hx, rfl⟩ := List.mem_map.1 hk
  exact ⟨_, h x hx⟩
theorem CIn.same {w w' : World} {s : CS} (h : CIn w s) (hs : ∀ k, (k = s.c ∨ fpC s k ∨ ∃ x ∈ s.L, ∃ a, x.p = some a ∧ a.block = k) → w'.heap[k]? = w.heap[k]?) : CIn w' s :=
  ⟨h.base.same (hs _ (.inl rfl)) (fun k hk => hs k (.inr (.inl (.inr (.inr (.inr hk)))))) (fun x hx a ha => hs _ (.inr (.inr ⟨x, hx, a, ha, rfl⟩))),
   h.mem.same (fun x hx => hs _ (.inr (.inl (by
    rcases List.mem_cons.1 hx with rfl | hx
    · exact .inr (.inl rfl)
    · exact .inr (.inr (.inl (List.mem_map.2 ⟨x, hx, rfl⟩))))))),
   h.map.same (hs _ (.inr (.inl (.inl rfl)))), h.fit⟩
theorem CIn.lt {w : World} {s : CS} (h : CIn w s) {k : Nat} (hk : fpC s k) : k < w.heap.size := by
  rcases hk with rfl | rfl | hk | hk
  · exact h.map.lt
  · exact (h.mem (ebuf s.e) (List.mem_cons_self ..)).lt
  · obtain ⟨x, hx, rfl⟩ := List.mem_map.1 hk
    exact (h.mem x (List.mem_cons_of_mem _ hx)).lt
  · exact h.base.disk.lt hk
theorem CIn.ltAll {w : World} {s : CS} (h : CIn w s) {k : Nat} (hk : k = s.c ∨ fpC s k ∨ ∃ x ∈ s.L, ∃ a, x.p = some a ∧ a.block = k) : k < w.heap.size := by
  rcases hk with rfl | hk | ⟨x, hx, a, ha, rfl⟩
  · exact h.base.cc.lt
  · exact h.lt hk
  · obtain ⟨cs, hc⟩ := (h.base.dat x hx).2 a ha
    exact (Array.getElem?_eq_some_iff.1 hc).1
theorem CIn.kept {w w' : World} {s : CS} (h : CIn w s) (hb : Below w.heap.size w w') : CIn w' s := h.same fun k hk => hb.block k (h.ltAll hk)
theorem CIn.drewN {w : World} {s : CS} (h : CIn w s) (n : Nat) : CIn (w.drewN n) s := h.same fun _ _ => rfl
/-- The block is none that may be written. -/
theorem CIn.apart {w : World} {s : CS} (h : CIn w s) {g : Nat} {t : TypeId} {cs : List Value} (hb : Blk w g t cs) (h1 : t ≠ 74) (h2 : t ≠ 66) (h3 : t ≠ 82) (h4 : t ≠ 87) : ¬ fpC s g := by
  rintro (rfl | rfl | hk | rfl | rfl | hk)
  · exact h.map.ne hb rfl
  · exact blk_ne (h.mem (ebuf s.e) (List.mem_cons_self ..)) hb (fun e => h1 e.symm) rfl
  · obtain ⟨x, hx, e⟩ := List.mem_map.1 hk
    exact blk_ne (h.mem x (List.mem_cons_of_mem _ hx)) hb (fun e => h1 e.symm) e
  · exact blk_ne h.base.disk.ram hb (fun e => h2 e.symm) rfl
  · exact blk_ne h.base.disk.row hb (fun e => h3 e.symm) rfl
  · exact owns_ne h.base.disk.log hk hb h4 rfl
/-- A call that turned a cache and its disk: their blocks alone, and new ones. -/
structure CAfter (w w' : World) (s s' : CS) : Prop where
  cin : CIn w' s'
  keep : Keep (fpC s) w w'
  fr : ∀ k, fpC s' k → fpC s k ∨ w.heap.size ≤ k
  c : s'.c = s.c
  d : s'.d = s.d
  sb : s'.sb = s.sb
  room : s'.room = s.room
theorem CAfter.refl {w : World} {s : CS} (h : CIn w s) : CAfter w w s s := ⟨h, Keep.refl _ _, fun _ h => .inl h, rfl, rfl, rfl, rfl⟩
theorem CAfter.trans {w w' w'' : World} {s s' s'' : CS} (h : CAfter w w' s s') (k : CAfter w' w'' s' s'') : CAfter w w'' s s'' := by
  refine ⟨k.cin, h.keep.trans k.keep (fun j hj e => ?_), fun j hj => ?_, k.c.trans h.c, k.d.trans h.d, k.sb.trans h.sb, k.room.trans h.room⟩
  · rcases h.fr j e with e | e
    · exact e
    · omega
  · rcases k.fr j hj with e | e
    · exact h.fr j e
    · exact .inr (Nat.le_trans h.keep.size e)
/-- New blocks ahead of the call. -/
theorem CAfter.drop {w w2 w' : World} {s s' : CS} (hb : Below w.heap.size w w2) (h : CAfter w2 w' s s') : CAfter w w' s s' :=
  ⟨h.cin, (Keep.of_below (S := fpC s) hb).trans h.keep (fun _ _ e => e), fun k hk => (h.fr k hk).imp id (Nat.le_trans hb.size), h.c, h.d, h.sb, h.room⟩
/-- New blocks behind the call. -/
theorem CAfter.kept {w w' w2 : World} {s s' : CS} (h : CAfter w w' s s') (hb : Below w'.heap.size w' w2) : CAfter w w2 s s' :=
  ⟨h.cin.kept hb, h.keep.trans (Keep.of_below (S := fpC s) hb) (fun _ _ e => e), h.fr, h.c, h.d, h.sb, h.room⟩
theorem CAfter.belowB {w w' : World} {s s' : CS} {B : Nat} (h : CAfter w w' s s') (hB : B ≤ w.heap.size) (hf : ∀ k, fpC s k → B ≤ k) : Below B w w' := h.keep.below hB hf
theorem CAfter.fp {w w' : World} {s s' : CS} {B : Nat} (h : CAfter w w' s s') (hB : B ≤ w.heap.size) (hf : ∀ k, fpC s k → B ≤ k) : ∀ k, fpC s' k → B ≤ k := by
  intro k hk
  rcases h.fr k hk with e | e
  · exact hf k e
  · omega
/-- The disk was turned. -/
theorem CIn.disked {w w' : World} {s : CS} (h : CIn w s) {lv' : Value} {ds' : DS} (hA : DAfter w w' s.d s.sb s.lv lv' ds') (hl : ds'.secs.length = s.ds.secs.length) : CAfter w w' s { s with lv := lv', ds := ds' } := by
  have hD := h.base.disk
  have hne : ∀ k, (k = s.c ∨ k = s.bm ∨ k = s.e ∨ k ∈ s.gs ∨ ∃ x ∈ s.L, ∃ a, x.p = some a ∧ a.block = k) → w'.heap[k]? = w.heap[k]? := by
    intro k hk
    refine hA.keep.block k ?_ ?_
    · rcases hk with rfl | rfl | rfl | hk | hk
      · exact h.base.cc.lt
      · exact h.map.lt
      · exact h.lt (.inr (.inl rfl))
      · exact h.lt (.inr (.inr (.inl hk)))
      · exact h.ltAll (.inr (.inr hk))
    · intro hf
      rcases hk with rfl | rfl | rfl | hk | ⟨x, hx, a, ha, rfl⟩
      · rcases hf with e | e | e
        · exact blk_ne h.base.cc hD.ram (by decide) e
        · exact blk_ne h.base.cc hD.row (by decide) e
        · exact owns_ne hD.log e h.base.cc (by decide) rfl
      · rcases hf with e | e | e
        · exact h.map.ne hD.ram e
        · exact h.map.ne hD.row e
        · obtain ⟨es, cl, ho⟩ := h.map.obj
          obtain ⟨cs, hc, _⟩ := owns_row hD.log e
          rw [ho] at hc; cases hc
      · exact fpD_buf hD hf ⟨_, h.mem (ebuf s.e) (List.mem_cons_self ..)⟩
      · exact fpD_buf hD hf (h.mem.isBuf (List.mem_cons_of_mem _ hk))
      · rcases hf with e | e | e
        · exact (h.base.dat x hx).2.ne ha hD.ram (by decide) e
        · exact (h.base.dat x hx).2.ne ha hD.row (by decide) e
        · exact (h.base.dat x hx).2.ne_row ha hD.log (by decide) e
  refine ⟨⟨⟨h.base.cc.same (hne _ (.inl rfl)), hA.disk, fun x hx => ⟨(h.base.dat x hx).1.same (fun a ha _ => hne _ (.inr (.inr (.inr (.inr ⟨x, hx, a, ha, rfl⟩))))), (h.base.dat x hx).2.same (fun a ha => hne _ (.inr (.inr (.inr (.inr ⟨x, hx, a, ha, rfl⟩)))))⟩⟩, h.mem.same (fun x hx => ?_), h.map.same (hne _ (.inr (.inl rfl))), ?_⟩, hA.keep.mono (fun k _ e => .inr (.inr (.inr e))), ?_, rfl, rfl, rfl, rfl⟩
  · rcases List.mem_cons.1 hx with rfl | hx
    · exact hne _ (.inr (.inr (.inl rfl)))
    · exact hne _ (.inr (.inr (.inr (.inl (List.mem_map.2 ⟨x, hx, rfl⟩)))))
  · exact ⟨h.fit.ring, h.fit.nd, h.fit.kd, h.fit.r1, h.fit.r2, h.fit.len, fun x hx => by rw [hl]; exact h.fit.ok x hx⟩
  · rintro k (rfl | rfl | hk | rfl | rfl | hk)
    · exact .inl (.inl rfl)
    · exact .inl (.inr (.inl rfl))
    · exact .inl (.inr (.inr (.inl hk)))
    · exact .inl (.inr (.inr (.inr (.inl rfl))))
    · exact .inl (.inr (.inr (.inr (.inr (.inl rfl)))))
    · rcases hA.fr k hk with e | e
      · exact .inl (.inr (.inr (.inr (.inr (.inr e)))))
      · exact .inr e
end Go.Proofs.Ytdmnddikcpfmfaa
