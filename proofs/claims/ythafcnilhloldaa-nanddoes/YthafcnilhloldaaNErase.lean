/-
  What Erase does: the plain part.
-/
import Derived.Test.YthafcnilhloldaaNTrim
namespace Go.Proofs.Ythafcnilhloldaa
open Go.RowKit Go.Shelf
/-- Bytes, cut into pages. -/
def chunk (n : Nat) (M : List Nat) : List (List Nat) := (List.range n).map fun i => (M.drop (i * 288)).take 288
theorem chunk_length (n : Nat) (M : List Nat) : (chunk n M).length = n := by simp [chunk]
theorem chunk_flat (M : List Nat) : ∀ n, (chunk n M).flatten = M.take (n * 288)
  | 0 => by simp [chunk]
  | n + 1 => by
    have ih := chunk_flat M n
    unfold chunk at ih ⊢
    rw [List.range_succ, List.map_append, List.flatten_append, ih, Nat.succ_mul, List.take_add]
    simp
theorem chunk_isP {n : Nat} {M : List Nat} (hl : M.length = n * 288) (hb : ∀ y ∈ M, y < 256) : ∀ p ∈ chunk n M, IsP p := by
  intro p hp
  obtain ⟨i, hi, rfl⟩ := List.mem_map.1 hp
  rw [List.mem_range] at hi
  refine ⟨by rw [List.length_take, List.length_drop, hl]; omega, fun y hy => hb y (List.mem_of_mem_drop (List.mem_of_mem_take hy))⟩
theorem chunk_all {n : Nat} {M : List Nat} (hl : M.length = n * 288) : (chunk n M).flatten = M := by
  rw [chunk_flat, List.take_of_length_le (by omega)]
/-- The pages of a block behind a mask. -/
def tornPs (np : Nat) (k : BlkS) (m : List Nat) : List (List Nat) := chunk np (maskL (allP np k).flatten m)
/-- A block behind an erase in which an event happens. -/
def erasedB (np : Nat) (k : BlkS) (E : Ev) : BlkS :=
  if E.kind = 1 then { pages := trimP (tornPs np k E.mask), wear := k.wear + 1, next := np, bad := true }
  else if E.kind = 2 then { pages := trimP (tornPs np k E.mask), wear := k.wear + 1, next := np, bad := k.bad }
  else { pages := [], wear := k.wear + 1, next := 0, bad := k.bad }
def eraseE (s : St) (b : Int) : Int :=
  if reachE s.nb s.np s.on b 0 = 0 then (match s.bl[b.toNat]? with | some k => if k.bad then 23 else outE (nextEv s.ev (s.ops + 1)).kind | none => 0) else reachE s.nb s.np s.on b 0
def eraseSt (s : St) (b : Int) : St :=
  if reachE s.nb s.np s.on b 0 = 0 then (match s.bl[b.toNat]? with | some k => if k.bad then s else stepSt s b.toNat (erasedB s.np k (nextEv s.ev (s.ops + 1))) | none => s) else s
theorem trimP_length (ps : List (List Nat)) : (trimP ps).length ≤ ps.length := by unfold trimP; rw [List.length_take]; exact Nat.min_le_right _ _
/-- A row of blocks' cells that was turned at one block alone. -/
structure RowAt (BC BC' : List Value) (bk : Nat) (v : Value) (K : BlkS) : Prop where
  len : BC'.length = BC.length
  own : BC'[bk * 4]? = some v ∧ BC'[bk * 4 + 1]? = some (.int .i64 (K.wear : Int)) ∧ BC'[bk * 4 + 2]? = some (.int .i64 (K.next : Int)) ∧ BC'[bk * 4 + 3]? = some (.bool K.bad)
  oth : ∀ i, i < bk * 4 ∨ bk * 4 + 4 ≤ i → BC'[i]? = BC[i]?
theorem RowAt.first {BC : List Value} {bk : Nat} {v : Value} {K : BlkS} (hl : bk * 4 + 3 < BC.length) (q0 : BC[bk * 4]? = some v) (q2 : BC[bk * 4 + 2]? = some (.int .i64 (K.next : Int))) (q3 : BC[bk * 4 + 3]? = some (.bool K.bad)) :
    RowAt BC (BC.set (bk * 4 + 1) (.int .i64 ((K.wear : Int) + 1))) bk v { K with wear := K.wear + 1 } :=
  ⟨by rw [List.length_set], ⟨by rw [List.getElem?_set_ne (by omega)]; exact q0, by rw [List.getElem?_set_self (by omega)]; rfl, by rw [List.getElem?_set_ne (by omega)]; exact q2, by rw [List.getElem?_set_ne (by omega)]; exact q3⟩, fun i hi => by rw [List.getElem?_set_ne (by omega)]⟩
theorem RowAt.turnBad {BC BC1 : List Value} {bk : Nat} {v : Value} {K : BlkS} (h : RowAt BC BC1 bk v K) (hl : bk * 4 + 3 < BC.length) : RowAt BC (BC1.set (bk * 4 + 1 + 2) (.bool true)) bk v { K with bad := true } :=
  ⟨by rw [List.length_set]; exact h.len, ⟨by rw [List.getElem?_set_ne (by omega)]; exact h.own.1, by rw [List.getElem?_set_ne (by omega)]; exact h.own.2.1, by rw [List.getElem?_set_ne (by omega)]; exact h.own.2.2.1, by rw [show bk * 4 + 3 = bk * 4 + 1 + 2 from rfl, List.getElem?_set_self (by rw [h.len]; omega)]⟩, fun i hi => by rw [List.getElem?_set_ne (by omega)]; exact h.oth i hi⟩
theorem RowAt.put {BC BC1 : List Value} {bk : Nat} {v v' : Value} {K : BlkS} (h : RowAt BC BC1 bk v K) (hl : bk * 4 + 3 < BC.length) (P : List (List Nat)) (n : Nat) (z : Int) (hz : z = (n : Int)) : RowAt BC ((BC1.set (bk * 4) v').set (bk * 4 + 1 + 1) (.int .i64 z)) bk v' { K with pages := P, next := n } := by
  subst hz
  exact ⟨by rw [List.length_set, List.length_set]; exact h.len, ⟨by rw [List.getElem?_set_ne (by omega), List.getElem?_set_self (by rw [h.len]; omega)], by rw [List.getElem?_set_ne (by omega), List.getElem?_set_ne (by omega)]; exact h.own.2.1, by rw [show bk * 4 + 2 = bk * 4 + 1 + 1 from rfl, List.getElem?_set_self (by rw [List.length_set, h.len]; omega)], by rw [List.getElem?_set_ne (by omega), List.getElem?_set_ne (by omega)]; exact h.own.2.2.2⟩, fun i hi => by rw [List.getElem?_set_ne (by omega), List.getElem?_set_ne (by omega)]; exact h.oth i hi⟩
theorem op_end {w w1 wf : World} {c : Nat} {s : St} {bb : Nat} {PV : Nat → Value} {bk : Nat} {K' : BlkS} {v' : Value} {BC BC' : List Value} {ep : Option Addr} {el ec : Nat} (h : ChipIn w c s bb PV) (hbk : bk < s.nb)
    (hcell : ∀ i b, s.bl[i]? = some b → BC[i * 4]? = some (PV i) ∧ BC[i * 4 + 1]? = some (.int .i64 (b.wear : Int)) ∧ BC[i * 4 + 2]? = some (.int .i64 (b.next : Int)) ∧ BC[i * 4 + 3]? = some (.bool b.bad)) (hl : BC.length = s.cr * 4)
    (hk1 : Keep (fun k => k = c) w w1) (hc1 : Blk w1 c 82 (chipCells s.nb s.np (.slice (some ⟨bb, 0, none⟩) s.nb s.cr) (.slice ep el ec) (s.ops + 1) (onEv s.ev (s.ops + 1) s.on)))
    (he1 : EvsIn (fun k => fpN c bb PV s.nb w.heap.size k ∨ s.z k) w1 ep el ec (restEv s.ev (s.ops + 1))) (hkf : Keep (fun k => k = bb ∨ w.heap.size ≤ k) w1 wf) (hBf : Blk wf bb 78 BC') (hR : RowAt BC BC' bk v' K')
    (hp : PagesIn wf v' K'.pages) (hfr : ∀ k, v'.ownBlock = some k → (PV bk).ownBlock = some k ∨ w.heap.size ≤ k) (hlim : K'.pages.length ≤ K'.next ∧ K'.next ≤ s.np ∧ K'.wear ≤ s.ops + 1) :
    After w wf c s (stepSt s bk K') bb PV := by
  have hcc : c < w.heap.size := by obtain ⟨_, _, _, hc0, _⟩ := h.chip; exact hc0.lt
  have s1 := hk1.size
  have hkw : Keep (fun k => k = c ∨ k = bb ∨ (PV bk).ownBlock = some k) w wf := (hk1.mono (fun k _ e => .inl e)).trans hkf (fun j hj e => e.elim (fun e => .inr (.inl e)) (fun e => by omega))
  have hk13 : Keep (fpN c bb PV s.nb w.heap.size) w1 wf := hkf.mono (fun k _ e => e.elim (fun e => .inl (.inr (.inl e))) (fun e => .inr e))
  obtain ⟨hci, hfp⟩ := h.step (K' := K') hbk (hc1.keep hkf (fun e => e.elim (fun e => h.ne e) (fun e => by omega))) (he1.keep hk13 (fun _ _ e => .inl e)) hBf (by rw [hR.len, hl]) hR.own
    (by
      intro j b hj hb
      obtain ⟨r0, r1, r2, r3⟩ := hcell j b hb
      refine ⟨?_, ?_, ?_, ?_⟩
      · rw [hR.oth _ (by omega)]; exact r0
      · rw [hR.oth _ (by omega)]; exact r1
      · rw [hR.oth _ (by omega)]; exact r2
      · rw [hR.oth _ (by omega)]; exact r3)
    hp hfr hkw hlim
  refine ⟨_, hci, hfp, hkw.mono ?_⟩
  rintro k _ (e | e | e)
  · exact .inl e
  · exact .inr (.inl e)
  · exact .inr (.inr ⟨bk, hbk, e⟩)
theorem flat_byte {ps : List (List Nat)} (h : ∀ p ∈ ps, IsP p) : ∀ y ∈ ps.flatten, y < 256 := by
  intro y hy
  obtain ⟨p, hp, hy⟩ := List.mem_flatten.1 hy
  exact (h p hp).2 y hy
theorem toPages {l : List (List Nat)} (h : ∀ p ∈ l, IsP p) : ∃ ps : List PageT, ps.map (·.1) = l := by
  induction l with
  | nil => exact ⟨[], rfl⟩
  | cons x r ih =>
    obtain ⟨ps, hps⟩ := ih (fun p hp => h p (by simp [hp]))
    exact ⟨⟨x, h x (by simp)⟩ :: ps, by simp [hps]⟩
end Go.Proofs.Ythafcnilhloldaa
