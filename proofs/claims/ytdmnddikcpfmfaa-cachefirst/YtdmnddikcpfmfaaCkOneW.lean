/-
  All that the law's loop has: the cache, its disk, the map of what was written last.
-/
import Derived.Test.YtdmnddikcpfmfaaCkMust
import Derived.Lib.MinMax
namespace Go.Proofs.Ytdmnddikcpfmfaa
open Go.RowKit Go.Maps Go.Shelf
structure OneW (B : Nat) (w W : World) (r d c mb k : Nat) (s : CS) (mu : Int → Option (List Nat)) (mn : Nat) : Prop where
  up : CUp B w W s
  mui : MuIn W mb mn mu
  nmb : ¬ fpC s mb
  mbB : B ≤ mb
  sc : Hid (s.c = c)
  sd : Hid (s.d = d)
  sr : Hid (s.room = r)
  one : OneI s.P s.ds mu k
  mnk : mn ≤ k
theorem OneW.after {B : Nat} {w W W' : World} {r d c mb k k' : Nat} {s s' : CS} {mu : Int → Option (List Nat)} {mn : Nat} (h : OneW B w W r d c mb k s mu mn) (hA : CAfter W W' s s') (h1 : OneI s'.P s'.ds mu k') (hk : k ≤ k') : OneW B w W' r d c mb k' s' mu mn := by
  obtain ⟨m1, m2⟩ := h.mui.next h.up.cin hA h.nmb
  exact ⟨h.up.next hA, m1, m2, h.mbB, hA.c.trans h.sc.out, hA.d.trans h.sd.out, hA.room.trans h.sr.out, h1, Nat.le_trans h.mnk hk⟩
theorem OneW.kept {B : Nat} {w W W' : World} {r d c mb k : Nat} {s : CS} {mu : Int → Option (List Nat)} {mn : Nat} (h : OneW B w W r d c mb k s mu mn) (hb : Below W.heap.size W W') : OneW B w W' r d c mb k s mu mn :=
  ⟨h.up.kept hb, h.mui.kept hb, h.nmb, h.mbB, h.sc, h.sd, h.sr, h.one, h.mnk⟩
theorem OneW.mono {B : Nat} {w W : World} {r d c mb k k' : Nat} {s : CS} {mu : Int → Option (List Nat)} {mn : Nat} (h : OneW B w W r d c mb k s mu mn) (hk : k ≤ k') : OneW B w W r d c mb k' s mu mn :=
  ⟨h.up, h.mui, h.nmb, h.mbB, h.sc, h.sd, h.sr, h.one.mono hk, Nat.le_trans h.mnk hk⟩
theorem OneW.wr {B : Nat} {w W : World} {r d c mb k : Nat} {s : CS} {mu : Int → Option (List Nat)} {mn : Nat} (h : OneW B w W r d c mb k s mu mn) (hk : k ≤ 1000) : s.ds.writes + dirtyN s.P ≤ 1024 ∧ s.ds.writes < 1024 := by
  have := h.one.wr
  omega
def LenS (ds : DS) : Prop := ∀ x ∈ ds.secs, x.1.length = 256
theorem secD_len {ds : DS} (h : LenS ds) {k : Nat} (hk : k < ds.secs.length) : (secD ds k).length = 256 := by
  unfold secD
  rw [List.getD_eq_getElem?_getD, List.getElem?_eq_getElem hk]
  exact h _ (List.getElem_mem hk)
theorem lenS_write {ds : DS} (h : LenS ds) (i : Int) (D : List Nat) : LenS (writeS ds i D) := by
  unfold writeS
  split
  · exact h
  · split
    · exact h
    · next hn =>
      split
      · exact h
      · intro x hx
        rcases List.mem_or_eq_of_mem_set hx with e | e
        · exact h x e
        · rw [e]
          by_cases e' : D.length = 256
          · exact e'
          · exact absurd (.inr e') hn
theorem lenS_room {l : List BP} {ds : DS} (h : LenS ds) (r : Nat) : LenS (roomR r l ds).2.2 := by
  rcases roomR_cases r l ds with ⟨e, _⟩ | ⟨e, _⟩ | ⟨p, x, q, hl, _, _, _, ⟨_, e⟩ | ⟨_, _, e⟩ | ⟨_, _, e⟩⟩ <;> rw [e]
  · exact h
  · exact h
  · exact h
  · exact lenS_write h _ _
  · exact lenS_write h _ _
theorem CIn.lenS {w : World} {s : CS} (h : CIn w s) : LenS s.ds := fun x hx => (h.base.disk.okS x hx).1
theorem OneW.lens {B : Nat} {w W : World} {r d c mb k : Nat} {s : CS} {mu : Int → Option (List Nat)} {mn : Nat} (h : OneW B w W r d c mb k s mu mn) : ∀ j, j < 60 → (secD (roomR s.room s.P s.ds).2.2 j).length = 256 := fun j hj =>
  secD_len (lenS_room h.up.cin.lenS _) (by rw [roomR_secs, h.one.sl]; exact hj)
theorem callsPre (p : Option Addr) (n c k : Nat) (h : k ≤ n) (hc : n ≤ c) (W : World) : (Instr.slice 22 (.slice p n c) none (some (.int .i64 (k : Int))) none).run Try.prog W = .ok (.slice p k c) W := by
  simp [Instr.slice, Instr.sliceBounds, Instr.sliceBound, run_underlying Try.underlying22, asIntOf]
  rw [if_pos (by omega)]
  have : (Option.map (fun x : Addr => x.add 0) p) = p := by
    cases p with
    | none => rfl
    | some a => obtain ⟨b, o, s⟩ := a; cases s <;> simp [Addr.add]
  simp_all
theorem minRunD (M n : Nat) : ∃ k : Nat, k ≤ n ∧ k ≤ M ∧ ∀ (ts : Array TypeId) (t : TypeId) (W : World), (Builtin.min_ ts t #[.int .i64 (n : Int), .int .i64 (M : Int)]).run Try.prog W = .ok (.int .i64 (k : Int)) W := by
  by_cases h : (M : Int) < (n : Int)
  · exact ⟨M, by omega, Nat.le_refl _, fun ts t W => by rw [run_min_int2]; simp only [if_pos h]⟩
  · exact ⟨n, Nat.le_refl _, by omega, fun ts t W => by rw [run_min_int2]; simp only [if_neg h]⟩
set_option maxRecDepth 100000 in
theorem make_zero (W : World) : ∃ W', (Instr.makeSlice 35 (.int .i64 256) (.int .i64 256)).run Try.prog W = .ok (.slice (some ⟨W.heap.size, 0, none⟩) 256 256) W' ∧ In W' (some ⟨W.heap.size, 0, none⟩) 256 256 z256 ∧ Below W.heap.size W W' := by
  obtain ⟨i0, hi, hz0, hz1, hz2⟩ := info_parts info5
  obtain ⟨w9, hrun9, hown9, hgrow9⟩ := run_make_full (P := Try.prog) W 0 35 5 i0 (.int .u8 0) 1 Try.underlying35 hi hz0 hz1 .i64 .i64 256 (by rw [hz2]; omega) (by unfold maxLen; omega) (Nat.zero_le _)
  refine ⟨w9, hrun9, ?_, below_grown0 hgrow9⟩
  rw [show (Value.int .u8 0).cells = #[Value.int .u8 0] from rfl, toList_madeCells_one, Nat.mul_one, show List.replicate 256 (Value.int .u8 0) = vals z256 from by simp [vals, z256]] at hown9
  obtain ⟨p', c', hv, hin⟩ := in_of_owns hown9 is_z256.2 (by omega)
  cases hv
  exact hin
/-- The map's update, in a drawn region. -/
theorem wp_put_must {w : World} {o : Oper} {a : Act} {K : Act → World → Prop} {Q : Exit → Act → World → Prop} (m x v : Operand) (hop : o.op = Op.mapUpdate 31 m x v) {mb n : Nat} {mu : Int → Option (List Nat)} (hm : a.eval m = .map (some mb)) (h : MuIn w mb n mu) (hn : n ≤ 100000) {t : Int} (ht : -9223372036854775808 ≤ t ∧ t ≤ 9223372036854775807) (hx : a.eval x = .int .i64 t) {g : Nat} {D : List Nat} (hv : a.eval v = .slice (some ⟨g, 0, none⟩) 256 256) (hD : In w (some ⟨g, 0, none⟩) 256 256 D) (hU : U8 w (some ⟨g, 0, none⟩))
    (hK : ∀ w', MuIn w' mb (n + 1) (fun x => if x = t then some D else mu x) → w.grownBy w' (some mb) → K (a.put o.dst undef) w') : o.wp Try.prog a w K Q := by
  obtain ⟨w', hrun, r1, r2⟩ := h.put hn ht hD hU
  unfold Oper.wp
  simp only [execOp, hop, hm, hx, hv, Sem.run_bind, Sem.run_pure, hrun, Result.andThen_ok]
  exact hK w' r1 r2
theorem one_start (r d sb : Nat) (lv : Value) (c e bm : Nat) : OneI (newC d sb lv (newD 60) c e bm r).P (newC d sb lv (newD 60) c e bm r).ds (fun _ => none) 0 := by
  refine ⟨rfl, rfl, List.length_replicate, ?_, by simp [newC, CS.P], ?_, ?_, by simp [newC, CS.P, newD, dirtyN]⟩
  · intro x hx
    rw [show (newC d sb lv (newD 60) c e bm r).ds.secs = List.replicate 60 (z256, false) from rfl] at hx
    rw [List.eq_of_mem_replicate hx]
  · intro b hb; simp [newC, CS.P] at hb
  · intro k hk _
    show ((List.replicate 60 (z256, false)).getD k ([], false)).1 = z256
    rw [List.getD_eq_getElem?_getD, List.getElem?_replicate, if_pos hk]
    rfl
end Go.Proofs.Ytdmnddikcpfmfaa
