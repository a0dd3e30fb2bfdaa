/-
  What Write does, plain.
-/
import Derived.Test.YtdmnddikcpfmfaaCkRoom
namespace Go.Proofs.Ytdmnddikcpfmfaa
open Go.RowKit Go.Maps Go.Shelf
/-- The bytes lie as they lay. -/
theorem CAfter.dat {w w' : World} {s s' : CS} (h : CIn w s) (hA : CAfter w w' s s') {p : Option Addr} {n c : Nat} {xs : List Nat} (hx : In w p n c xs ∧ U8 w p) : In w' p n c xs ∧ U8 w' p := by
  have hs : ∀ a, p = some a → w'.heap[a.block]? = w.heap[a.block]? := fun a ha => by
    obtain ⟨cs, hc⟩ := hx.2 a ha
    exact hA.keep.block _ (Array.getElem?_eq_some_iff.1 hc).1 (h.apart (cs := cs.toList) (t := 5) hc (by decide) (by decide) (by decide) (by decide))
  exact ⟨hx.1.same (fun a ha _ => hs a ha), hx.2.same hs⟩
/-- A block of the call's own lies as it lay. -/
theorem CAfter.blk {w w' : World} {s s' : CS} (h : CIn w s) (hA : CAfter w w' s s') {g : Nat} {t : TypeId} {cs : List Value} (hb : Blk w g t cs) (h1 : t ≠ 74) (h2 : t ≠ 66) (h3 : t ≠ 82) (h4 : t ≠ 87) : Blk w' g t cs := hb.keep hA.keep (h.apart hb h1 h2 h3 h4)
def isK (k : Nat) (b : BP) : Bool := decide (b.k = k)
/-- A new buffer, or one turned, as the last. -/
def putB (r : Nat) (l : List BP) (ds : DS) (k : Nat) (D : List Nat) (cl : Nat) : Int × List BP × DS :=
  match cutAt (isK k) l with
  | some (p, x, q) => (0, p ++ q ++ [⟨x.k, D, cl, x.pins⟩], ds)
  | none => if (roomR r l ds).1 = 0 then (0, (roomR r l ds).2.1 ++ [⟨k, D, cl, 0⟩], (roomR r l ds).2.2) else roomR r l ds
def wrC (r : Nat) (l : List BP) (ds : DS) (i : Int) (D : List Nat) (cl : Int) : Int × List BP × DS :=
  if hasB ds.secs.length i = false then (1, l, ds) else if D.length ≠ 256 ∨ ¬ (cl = 1 ∨ cl = 2) then (1, l, ds) else putB r l ds i.toNat D cl.toNat
theorem split_k {L : List BufS} (k : Nat) : (∃ p x q, L = p ++ x :: q ∧ x.b.k = k ∧ ∀ y ∈ p, y.b.k ≠ k) ∨ ∀ x ∈ L, x.b.k ≠ k := by
  induction L with
  | nil => exact .inr (by simp)
  | cons y r ih =>
    by_cases hy : y.b.k = k
    · exact .inl ⟨[], y, r, rfl, hy, by simp⟩
    · rcases ih with ⟨p, x, q, e, hx, hp⟩ | h
      · exact .inl ⟨y :: p, x, q, by rw [e]; rfl, hx, fun z hz => by rcases List.mem_cons.1 hz with rfl | hz; exact hy; exact hp z hz⟩
      · exact .inr (fun z hz => by rcases List.mem_cons.1 hz with rfl | hz; exact hy; exact h z hz)
theorem cut_k {p q : List BufS} {x : BufS} {k : Nat} (hx : x.b.k = k) (hp : ∀ y ∈ p, y.b.k ≠ k) : cutAt (isK k) ((p ++ x :: q).map (·.b)) = some (p.map (·.b), x.b, q.map (·.b)) := by
  rw [map_mid]
  refine cutAt_some (by simp [isK, hx]) (fun y hy => ?_)
  obtain ⟨z, hz, rfl⟩ := List.mem_map.1 hy
  simp [isK, hp z hz]
theorem cut_no {L : List BufS} {k : Nat} (h : ∀ x ∈ L, x.b.k ≠ k) : cutAt (isK k) (L.map (·.b)) = none :=
  cutAt_none (fun y hy => by
    obtain ⟨z, hz, rfl⟩ := List.mem_map.1 hy
    simp [isK, h z hz])
/-- What room leaves was there, and is less than room where it says OK. -/
theorem roomR_sub (r : Nat) (l : List BP) (ds : DS) : ∀ y ∈ (roomR r l ds).2.1, y ∈ l := by
  rcases roomR_cases r l ds with ⟨e, _⟩ | ⟨e, _⟩ | ⟨p, x, q, hl, _, _, _, ⟨_, e⟩ | ⟨_, _, e⟩ | ⟨_, _, e⟩⟩ <;> rw [e]
  · exact fun y hy => hy
  · exact fun y hy => hy
  · intro y hy
    rw [hl]
    simp at hy ⊢
    rcases hy with e | e
    · exact .inl e
    · exact .inr (.inr e)
  · intro y hy
    rw [hl]
    simp at hy ⊢
    rcases hy with e | e
    · exact .inl e
    · exact .inr (.inr e)
  · exact fun y hy => hy
theorem roomR_len {r : Nat} {l : List BP} {ds : DS} (h : (roomR r l ds).1 = 0) (hl : l.length ≤ r) : (roomR r l ds).2.1.length < r := by
  rcases roomR_cases r l ds with ⟨e, h1⟩ | ⟨e, _⟩ | ⟨p, x, q, hl', _, _, _, ⟨_, e⟩ | ⟨_, _, e⟩ | ⟨_, h0, e⟩⟩
  · rw [e]; exact h1
  · rw [e] at h; cases h
  · rw [e]; rw [hl'] at hl; simp at hl ⊢; omega
  · rw [e]; rw [hl'] at hl; simp at hl ⊢; omega
  · rw [e] at h; exact absurd h h0
theorem roomR_secs (r : Nat) (l : List BP) (ds : DS) : (roomR r l ds).2.2.secs.length = ds.secs.length := by
  rcases roomR_cases r l ds with ⟨e, _⟩ | ⟨e, _⟩ | ⟨p, x, q, hl, _, _, _, ⟨_, e⟩ | ⟨_, _, e⟩ | ⟨_, _, e⟩⟩ <;> rw [e]
  · exact writeS_len _ _ _
  · exact writeS_len _ _ _
/-- New data in a buffer of a cache. -/
def dataB (x : BufS) (p : Option Addr) (c : Nat) (D : List Nat) : BufS := ⟨x.g, p, c, ⟨x.b.k, D, x.b.cl, x.b.pins⟩⟩
def classB (x : BufS) (cl : Nat) : BufS := ⟨x.g, x.p, x.cap, ⟨x.b.k, x.b.D, cl, x.b.pins⟩⟩
/-- Bytes and class of a buffer are turned. -/
theorem CIn.filled {w : World} {s : CS} (h : CIn w s) {p q : List BufS} {x : BufS} (hL : s.L = p ++ x :: q) (pp : Option Addr) (cc : Nat) (D : List Nat) (cl : Nat) (hd : In w pp D.length cc D ∧ U8 w pp) :
    CAfter w ((w.setCell ⟨x.g, 1, none⟩ (.slice pp D.length cc)).setCell ⟨x.g, 2, none⟩ (.int .i64 (cl : Int))) s { s with L := p ++ classB (dataB x pp cc D) cl :: q } := by
  have A1 := h.field hL 1 (.slice pp D.length cc) (dataB x pp cc D) rfl rfl (fun _ _ => rfl) hd
  have hxL : x ∈ s.L := by rw [hL]; simp
  have hd1 := A1.dat h hd
  exact A1.trans (A1.cin.field (p := p) (q := q) (x := dataB x pp cc D) rfl 2 (.int .i64 (cl : Int)) (classB (dataB x pp cc D) cl) rfl rfl (fun _ _ => rfl) hd1)
end Go.Proofs.Ytdmnddikcpfmfaa
