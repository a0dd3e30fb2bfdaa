/-
  What Look answers.
-/
import Derived.Test.YthafcnilhloldaaNBegun2
namespace Go.Proofs.Ythafcnilhloldaa
open Go.RowKit
/-- A block that is there. -/
def blkAt (s : St) (b : Int) : Option BlkS := if 0 ≤ b then s.bl[b.toNat]? else none
def lkW (s : St) (b : Int) : Int := match blkAt s b with | some k => (k.wear : Int) | none => 0
def lkN (s : St) (b : Int) : Int := match blkAt s b with | some k => (k.next : Int) | none => 0
def lkB (s : St) (b : Int) : Bool := match blkAt s b with | some k => k.bad | none => false
def lkE (s : St) (b : Int) : Int := match blkAt s b with | some _ => 0 | none => 22
theorem blkAt_in {s : St} {b : Int} {k : BlkS} (hl : s.bl.length = s.nb) (h : blkAt s b = some k) : ∃ bk : Nat, b = (bk : Int) ∧ bk < s.nb ∧ s.bl[bk]? = some k := by
  unfold blkAt at h
  split at h
  · exact ⟨b.toNat, by omega, by rw [← hl]; exact (List.getElem?_eq_some_iff.1 h).1, h⟩
  · cases h
theorem blkAt_out {s : St} {b : Int} (hl : s.bl.length = s.nb) (h : blkAt s b = none) : ¬ (0 ≤ b ∧ b < (s.nb : Int)) := by
  unfold blkAt at h
  split at h
  · rw [List.getElem?_eq_none_iff, hl] at h; omega
  · omega
theorem blkAt_nat {s : St} {bk : Nat} : blkAt s (bk : Int) = s.bl[bk]? := by
  unfold blkAt; rw [if_pos (by omega)]; rfl
set_option maxRecDepth 100000 in
set_option maxHeartbeats 1000000 in
theorem look_any (c : Nat) (s : St) (bb : Nat) (PV : Nat → Value) (b : Int) (w : World) (h : ChipIn w c s bb PV) :
    Calls Try.prog 20 #[.pointer (some ⟨c, 0, none⟩), .int .i64 b] w fun e w' => e = .returned (.tuple #[.agg #[.int .i64 (lkW s b), .int .i64 (lkN s b), .bool (lkB s b)], .int .i64 (lkE s b)]) ∧ Below w.heap.size w w' := by
  have hbel := below_alloc w (.cells #[.int .i64 0, .int .i64 0, .bool false] 54)
  obtain ⟨ep, el, ec, hc, he⟩ := h.chip
  have hc' := hc.kept hbel
  have hm := made_any c _ s.nb s.cr (w.alloc (.cells #[.int .i64 0, .int .i64 0, .bool false] 54)) (hc'.cell' (i := 2) rfl)
  rw [show decide (0 < s.nb) = true from by have := h.nbl; simp; omega] at hm
  have hh := has_any c _ s.nb s.cr b (w.alloc (.cells #[.int .i64 0, .int .i64 0, .bool false] 54)) (hc'.cell' (i := 2) rfl)
  unfold lkW lkN lkB lkE
  cases hx : blkAt s b with
  | none =>
    rw [show decide (0 ≤ b ∧ b < (s.nb : Int)) = false from by simpa using blkAt_out h.bll hx] at hh
    clear hx
    go_enter Try.func20, Try.ntmps20
    go_wp2_with (first | (go_at_call 33; refine hm.mono ?_; rintro e w' ⟨rfl, rfl⟩) | (go_at_call 47; refine hh.mono ?_; rintro e w' ⟨rfl, rfl⟩))
    exact bodyPost_ret (v := .tuple #[.agg #[.int .i64 0, .int .i64 0, .bool false], .int .i64 22]) (by simp [results, Try.results20, go_sem]) rfl ⟨rfl, hbel⟩
  | some k =>
    obtain ⟨bk, rfl, hbk, hk⟩ := blkAt_in h.bll hx
    rw [show decide (0 ≤ (bk : Int) ∧ (bk : Int) < (s.nb : Int)) = true from by simp; omega] at hh
    obtain ⟨BC, hB, hl, hcell⟩ := h.blks
    obtain ⟨_, h1, h2, h3⟩ := hcell bk _ hk
    have hB' := hB.kept hbel
    have q1 := hB'.cell' h1
    have q2 := hB'.cell' h2
    have q3 := hB'.cell' h3
    have hc2 := hc'.cell' (i := 2) rfl
    clear hx hcell hB hk h1 h2 h3
    dsimp only
    generalize (k.wear : Int) = kw at *
    generalize (k.next : Int) = kn at *
    go_enter Try.func20, Try.ntmps20
    go_wp2_with (first | (go_at_call 33; refine hm.mono ?_; rintro e w' ⟨rfl, rfl⟩) | (go_at_call 47; refine hh.mono ?_; rintro e w' ⟨rfl, rfl⟩))
    exact bodyPost_ret (v := .tuple #[.agg #[.int .i64 kw, .int .i64 kn, .bool k.bad], .int .i64 0]) (by simp [results, Try.results20, go_sem]) rfl ⟨rfl, below_alloc _ _⟩
end Go.Proofs.Ythafcnilhloldaa
