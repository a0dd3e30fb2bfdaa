/-
  What Encode answers.
-/
import Derived.Test.YtfgelncfmopibaaXPgTearP
import Derived.Test.YtfgelncfmopibaaXSided
import Derived.Laws.ResultCell
namespace Go.Proofs.Ytfgelncfmopibaa.Pg
open Go.RowKit
/-- The values of a header's fields. -/
def headV (k g s t : Int) : List Nat := [k.toNat, 0, g.toNat, s.toNat, t.toNat, 0]
/-- A header's 28 bytes. -/
def headL (k g s t : Int) : List Nat := packL wsH (headV k g s t)
/-- Data, filled up with zeros. -/
def fillD (data : List Nat) : List Nat := data ++ List.replicate (256 - data.length) 0
/-- What is sealed. -/
def bodyL (k g s t : Int) (data : List Nat) : List Nat := fillD data ++ headL k g s t
/-- The page's bytes. -/
def encL (k g s t : Int) (data : List Nat) : List Nat := bodyL k g s t data ++ cnt (bodyL k g s t data)
/-- 30 is ErrHeader, 3 is ErrLong. -/
def encE (k g s t : Int) (data : List Nat) : Int := if chkB k g s t then (if 256 < data.length then 3 else 0) else 30
/-- The page that Encode answers. -/
def encP (k g s t : Int) (data : List Nat) : List Nat := if encE k g s t data = 0 then encL k g s t data else fillP 0
theorem wsH_ok : widthOk wsH = true := by decide +kernel
theorem wsH_bytes : bytesW wsH = 28 := by decide +kernel
theorem chkB_iff {k g s t : Int} : chkB k g s t = true ↔ (1 ≤ k ∧ k ≤ 3 ∧ 0 ≤ g ∧ g < 1048576 ∧ 1 ≤ s ∧ s ≤ 1152921504606846976 ∧ s ≤ t ∧ t ≤ 1152921504606846976 ∧ (k = 1 ∨ t = s)) := by
  unfold chkB; rw [decide_eq_true_eq]
theorem head_ok {k g s t : Int} (h : chkB k g s t = true) : packOk wsH (headV k g s t) = true := by
  have hc := chkB_iff.1 h
  unfold packOk
  rw [wsH_ok, Bool.true_and, fitB_iff]
  refine ⟨rfl, fun i hi => ?_⟩
  have hi' : i < 6 := hi
  have : i = 0 ∨ i = 1 ∨ i = 2 ∨ i = 3 ∨ i = 4 ∨ i = 5 := by omega
  rcases this with rfl | rfl | rfl | rfl | rfl | rfl
  · show k.toNat < 2 ^ 8; omega
  · show 0 < 2 ^ 8; decide
  · show g.toNat < 2 ^ 32; omega
  · show s.toNat < 2 ^ 64; omega
  · show t.toNat < 2 ^ 64; omega
  · show 0 < 2 ^ 48; decide
theorem headL_eq {k g s t : Int} (h : chkB k g s t = true) : headL k g s t = packTo wsH (headV k g s t) (List.replicate 28 0) 6 := by
  unfold headL packL; rw [if_pos (head_ok h), wsH_bytes]; rfl
theorem headL_length {k g s t : Int} (h : chkB k g s t = true) : (headL k g s t).length = 28 := by
  rw [headL_eq h, packTo_length, List.length_replicate]
theorem headL_byte {k g s t : Int} (h : chkB k g s t = true) : ∀ x ∈ headL k g s t, x < 256 := by
  rw [headL_eq h]; exact packTo_byte (fun x hx => by rw [List.eq_of_mem_replicate hx]; decide) _
theorem fillD_length {data : List Nat} (h : data.length ≤ 256) : (fillD data).length = 256 := by
  unfold fillD; rw [List.length_append, List.length_replicate]; omega
theorem fillD_byte {data : List Nat} (h : ∀ x ∈ data, x < 256) : ∀ x ∈ fillD data, x < 256 := by
  intro x hx
  rcases List.mem_append.1 hx with h' | h'
  · exact h x h'
  · rw [List.eq_of_mem_replicate h']; decide
theorem bodyL_length {k g s t : Int} {data : List Nat} (h : chkB k g s t = true) (hd : data.length ≤ 256) : (bodyL k g s t data).length = 284 := by
  unfold bodyL; rw [List.length_append, fillD_length hd, headL_length h]
theorem bodyL_byte {k g s t : Int} {data : List Nat} (h : chkB k g s t = true) (hd : ∀ x ∈ data, x < 256) : ∀ x ∈ bodyL k g s t data, x < 256 := by
  intro x hx
  rcases List.mem_append.1 hx with h' | h'
  · exact fillD_byte hd x h'
  · exact headL_byte h x h'
theorem encL_isP {k g s t : Int} {data : List Nat} (h : chkB k g s t = true) (hl : data.length ≤ 256) (hd : ∀ x ∈ data, x < 256) : IsP (encL k g s t data) := by
  refine ⟨by unfold encL; rw [List.length_append, bodyL_length h hl, cnt_length], fun x hx => ?_⟩
  rcases List.mem_append.1 hx with h' | h'
  · exact bodyL_byte h hd x h'
  · exact cntZ_byte _ x h'
/-- The page ahead of its seal. -/
def rawL (k g s t : Int) (data : List Nat) : List Nat := layAt (layAt (fillP 0) data 0 256) (headL k g s t) 256 32
theorem layAt_data {data : List Nat} (h : data.length ≤ 256) : layAt (fillP 0) data 0 256 = fillD data ++ List.replicate 32 0 := by
  unfold layAt fillD fillP
  rw [List.take_zero, List.nil_append, Nat.zero_add, Nat.min_eq_right h, List.take_of_length_le (Nat.le_refl _), List.drop_replicate, List.append_assoc, List.replicate_append_replicate]
  congr 2; omega
theorem rawL_eq {k g s t : Int} {data : List Nat} (h : chkB k g s t = true) (hd : data.length ≤ 256) : rawL k g s t data = bodyL k g s t data ++ List.replicate 4 0 := by
  unfold rawL bodyL
  rw [layAt_data hd]
  unfold layAt
  rw [headL_length h, show min 32 28 = 28 from rfl, List.take_append_of_le_length (by rw [fillD_length hd]; exact Nat.le_refl _), List.take_of_length_le (by rw [fillD_length hd]; exact Nat.le_refl _), List.take_of_length_le (by rw [headL_length h]; exact Nat.le_refl _), List.drop_append, List.drop_of_length_le (by rw [fillD_length hd]; decide), fillD_length hd, List.nil_append, List.drop_replicate]
theorem rawL_take {k g s t : Int} {data : List Nat} (h : chkB k g s t = true) (hd : data.length ≤ 256) : (rawL k g s t data).take 284 = bodyL k g s t data := by
  rw [rawL_eq h hd, List.take_append_of_le_length (by rw [bodyL_length h hd]; exact Nat.le_refl _), List.take_of_length_le (by rw [bodyL_length h hd]; exact Nat.le_refl _)]
theorem rawL_isP {k g s t : Int} {data : List Nat} (h : chkB k g s t = true) (hl : data.length ≤ 256) (hd : ∀ x ∈ data, x < 256) : IsP (rawL k g s t data) := by
  rw [rawL_eq h hl]
  refine ⟨by rw [List.length_append, bodyL_length h hl, List.length_replicate], fun x hx => ?_⟩
  rcases List.mem_append.1 hx with h' | h'
  · exact bodyL_byte h hd x h'
  · rw [List.eq_of_mem_replicate h']; decide
/-- A function with two results, of which the first lies in a cell, a page. -/
theorem ret_page2 {fn : Func} {p u : Tmp} (h : fn.results = #[.cell p 74, .tmp u]) {R : Ending → World → Prop} {a : Act} {w : World} {g : Nat} {t : TypeId} {xs : List Nat} (hp : a.tmps.getD p undef = .pointer (some ⟨g, 0, none⟩))
    (hb : Blk w g t (vals xs)) (hl : xs.length = 288) (hd : a.defers = []) (hR : R (.returned (.tuple #[.agg (vals xs).toArray, a.tmps.getD u undef])) w) : bodyPost Try.prog fn R .ret a w := by
  refine bodyPost_ret (v := .tuple #[.agg (vals xs).toArray, a.tmps.getD u undef]) ?_ hd hR
  rw [results_cell_tmp h, hp]
  simp only [asAddr, Sem.run_pure, Result.andThen_ok, run_loadVar_mid w g 0 74 (vals xs) _ (hb.page hl) Try.underlying74 rfl (sizeP hl)]
/-- The four cells of a header. -/
theorem cells4_below {W w2 : World} {N : Nat} {a b c d : Value} (hb : Below W.heap.size W w2) (h : W.cell? ⟨N, 0, none⟩ = some a ∧ W.cell? ⟨N, 1, none⟩ = some b ∧ W.cell? ⟨N, 2, none⟩ = some c ∧ W.cell? ⟨N, 3, none⟩ = some d) :
    w2.cell? ⟨N, 0, none⟩ = some a ∧ w2.cell? ⟨N, 1, none⟩ = some b ∧ w2.cell? ⟨N, 2, none⟩ = some c ∧ w2.cell? ⟨N, 3, none⟩ = some d := by
  have hl : N < W.heap.size := block_lt_of_cell h.1
  exact ⟨(hb.cell (p := ⟨N, 0, none⟩) hl).trans h.1, (hb.cell (p := ⟨N, 1, none⟩) hl).trans h.2.1, (hb.cell (p := ⟨N, 2, none⟩) hl).trans h.2.2.1, (hb.cell (p := ⟨N, 3, none⟩) hl).trans h.2.2.2⟩
theorem pack_head (p q : Option Addr) (k g s t : Nat) (w : World) (hok : chkB k g s t = true) (hx : InI w p 6 6 wsH) (hy : In64 w q 6 6 [k, 0, g, s, t, 0]) :
    Calls Try.prog 89 #[.slice p 6 6, .slice q 6 6] w fun e w' => ∃ p' c', e = .returned (.tuple #[.slice p' 28 c', .int .i64 0]) ∧ In w' p' 28 c' (headL k g s t) ∧ Below w.heap.size w w' := by
  refine (pack_any p q 6 6 6 6 wsH [k, 0, g, s, t, 0] w hx hy).mono ?_
  rintro e w1 ⟨p', n', c', rfl, hin, hb⟩
  have hv : headV (k : Int) (g : Int) (s : Int) (t : Int) = [k, 0, g, s, t, 0] := by simp [headV]
  have h1 := head_ok hok
  rw [hv] at h1
  have e1 : packE wsH [k, 0, g, s, t, 0] = 0 := by unfold packE; rw [h1]; rfl
  have e2 : packL wsH [k, 0, g, s, t, 0] = headL k g s t := by unfold headL; rw [hv]
  rw [e2] at hin
  have e3 : n' = 28 := by rw [← hin.len, headL_length hok]
  subst e3
  rw [e1]
  exact ⟨p', c', rfl, hin, hb⟩
end Go.Proofs.Ytfgelncfmopibaa.Pg
