/-
  Calls that came in.
-/
import Derived.Test.YthafcnilhloldaaNLPages2
namespace Go.Proofs.Ythafcnilhloldaa
open Go.RowKit
/-- A slice of calls that lies in a world. -/
structure CallsSrc (w : World) (p : Option Addr) (n c : Nat) (os : List CallS) : Prop where
  len : os.length = n
  cap : n ≤ c
  max : c ≤ maxLen
  nil : p = none → c = 0
  fill : ∀ x ∈ os, x.f < 256
  at' : 0 < n → ∃ b o, p = some ⟨b, o, none⟩ ∧ b < w.heap.size ∧ ∀ i x, os[i]? = some x → w.cell? ⟨b, o + i * 5, none⟩ = some (.int .i64 x.od) ∧ w.cell? ⟨b, o + i * 5 + 1, none⟩ = some (.int .i64 x.ob) ∧ w.cell? ⟨b, o + i * 5 + 2, none⟩ = some (.int .i64 x.op) ∧ w.cell? ⟨b, o + i * 5 + 3, none⟩ = some (.bool x.nx) ∧ w.cell? ⟨b, o + i * 5 + 4, none⟩ = some (.int .u8 (x.f : Int))
theorem CallsSrc.keep {S : Nat → Prop} {w w' : World} {p : Option Addr} {n c : Nat} {os : List CallS} (h : CallsSrc w p n c os) (hk : Keep S w w') (hS : ∀ k, k < w.heap.size → ¬ S k) : CallsSrc w' p n c os :=
  ⟨h.len, h.cap, h.max, h.nil, h.fill, fun h0 => by
    obtain ⟨b, o, hp, hl, hc⟩ := h.at' h0
    have hb := hk.block b hl (hS b hl)
    have he : ∀ j, w'.cell? ⟨b, j, none⟩ = w.cell? ⟨b, j, none⟩ := fun j => World.cell?_of_block (a := ⟨b, j, none⟩) hb
    exact ⟨b, o, hp, Nat.lt_of_lt_of_le hl hk.size, fun i x hx => by
      obtain ⟨h0, h1, h2, h3, h4⟩ := hc i x hx
      exact ⟨(he _).trans h0, (he _).trans h1, (he _).trans h2, (he _).trans h3, (he _).trans h4⟩⟩⟩
theorem CallsSrc.below {w w' : World} {p : Option Addr} {n c : Nat} {os : List CallS} (h : CallsSrc w p n c os) (hb : Below w.heap.size w w') : CallsSrc w' p n c os :=
  h.keep (S := fun _ => False) (Keep.of_below hb) (fun _ _ e => e)
open Classical in
/-- New refuses a geometry that may not be. -/
theorem new_bad (gb gp : Int) (p : Option Addr) (n c : Nat) (w : World) (hg : ¬ GeoOk gb gp) :
    Calls Try.prog 9 #[.agg #[.int .i64 gb, .int .i64 gp], .slice none 0 0, .slice p n c] w fun e w' => e = .returned (.tuple #[.pointer none, .int .i64 20]) ∧ Below w.heap.size w w' := by
  have hb0 := below_alloc w (.cells #[.int .i64 gb, .int .i64 gp] 23)
  have hm := mayBe_any gb gp (w.alloc (.cells #[.int .i64 gb, .int .i64 gp] 23))
  rw [decide_eq_false hg] at hm
  go_enter Try.func9, Try.ntmps9
  go_wp2_with (go_at_call 28; refine hm.mono ?_; rintro e w1 ⟨rfl, hb1⟩)
  go_ret2
  exact ⟨rfl, bt hb0 hb1⟩
end Go.Proofs.Ythafcnilhloldaa

namespace Go.Proofs.Ythafcnilhloldaa
open Go.RowKit Go.Shelf
theorem progSt_facts (s : St) (b p : Int) (x : List Nat) : (progSt s b p x).nb = s.nb ∧ (progSt s b p x).np = s.np ∧ (progSt s b p x).ops ≤ s.ops + 1 := by
  unfold progSt
  split
  · split
    · split
      · exact ⟨rfl, rfl, by omega⟩
      · split
        · exact ⟨rfl, rfl, by omega⟩
        · exact ⟨rfl, rfl, Nat.le_refl _⟩
    · exact ⟨rfl, rfl, by omega⟩
  · exact ⟨rfl, rfl, by omega⟩
theorem eraseSt_facts (s : St) (b : Int) : (eraseSt s b).nb = s.nb ∧ (eraseSt s b).np = s.np ∧ (eraseSt s b).ops ≤ s.ops + 1 := by
  unfold eraseSt
  split
  · split
    · split
      · exact ⟨rfl, rfl, by omega⟩
      · exact ⟨rfl, rfl, Nat.le_refl _⟩
    · exact ⟨rfl, rfl, by omega⟩
  · exact ⟨rfl, rfl, by omega⟩
theorem doesSt_facts (s : St) (o : CallS) : (doesSt s o).nb = s.nb ∧ (doesSt s o).np = s.np ∧ (doesSt s o).ops ≤ s.ops + 1 := by
  unfold doesSt
  split
  · exact progSt_facts _ _ _ _
  · split
    · exact eraseSt_facts _ _
    · split
      · exact ⟨rfl, rfl, by show s.ops ≤ _; omega⟩
      · exact ⟨rfl, rfl, by omega⟩
/-- A chip that lies in new memory, in none of the blocks of T. -/
def ChipOwn (T : Nat → Prop) (c bb : Nat) (s : St) (w wr : World) : Prop := ∃ PV, ChipIn wr c s bb PV ∧ (∀ j, fpOf c bb PV s.nb j → w.heap.size ≤ j ∧ ¬ T j) ∧ Below w.heap.size w wr ∧ ∀ j, T j → j < wr.heap.size
theorem ChipOwn.kept {T : Nat → Prop} {c bb : Nat} {s : St} {w wr w' : World} (h : ChipOwn T c bb s w wr) (hb : Below wr.heap.size wr w') : ChipOwn T c bb s w w' := by
  obtain ⟨PV, hC, hf, hB, hT⟩ := h
  exact ⟨PV, hC.below hb, hf, bt hB hb, fun j hj => Nat.lt_of_lt_of_le (hT j hj) hb.size⟩
theorem ChipOwn.more {T U : Nat → Prop} {c bb : Nat} {s : St} {w wr w' : World} (h : ChipOwn T c bb s w wr) (hb : Below wr.heap.size wr w') (hU : ∀ j, U j → wr.heap.size ≤ j ∧ j < w'.heap.size) : ChipOwn (fun j => T j ∨ U j) c bb s w w' := by
  obtain ⟨PV, hC, hf, hB, hT⟩ := h
  exact ⟨PV, hC.below hb, fun j hj => ⟨(hf j hj).1, fun e => e.elim (hf j hj).2 (fun e => by have := (hU j e).1; have := hC.lt hj; omega)⟩, bt hB hb, fun j hj => hj.elim (fun e => Nat.lt_of_lt_of_le (hT j e) hb.size) (fun e => (hU j e).2)⟩
/-- What a call on it leaves. -/
theorem ChipOwn.call {T : Nat → Prop} {c bb : Nat} {s : St} {w wr : World} (h : ChipOwn T c bb s w wr) : ∃ PV, ChipIn wr c s bb PV ∧ ∀ w' s', After wr w' c s s' bb PV → s'.nb = s.nb → ChipOwn T c bb s' w w' ∧ ∀ g, T g → w'.heap[g]? = wr.heap[g]? := by
  obtain ⟨PV, hC, hf, hB, hT⟩ := h
  refine ⟨PV, hC, fun w' s' hA hn => ?_⟩
  obtain ⟨PV', hC', hf', hk⟩ := hA
  refine ⟨⟨PV', hC', fun j hj => ?_, hB.trans (hk.below hB.size (fun k hk => (hf k hk).1)), fun j hj => Nat.lt_of_lt_of_le (hT j hj) hk.size⟩, fun g hg => hk.block g (hT g hg) (fun e => (hf g e).2 hg)⟩
  rw [hn] at hj
  rcases hf' j hj with e | e
  · exact hf j e
  · exact ⟨Nat.le_trans hB.size e, fun hj' => by have := hT j hj'; omega⟩
theorem ChipOwn.chip {T : Nat → Prop} {c bb : Nat} {s : St} {w wr : World} (h : ChipOwn T c bb s w wr) : ∃ PV, ChipIn wr c s bb PV := by obtain ⟨PV, hC, _⟩ := h; exact ⟨PV, hC⟩
theorem ChipOwn.below {T : Nat → Prop} {c bb : Nat} {s : St} {w wr : World} (h : ChipOwn T c bb s w wr) : Below w.heap.size w wr := by obtain ⟨_, _, _, hB, _⟩ := h; exact hB
/-- Without power nothing changes, but by Restart. -/
theorem reach_off (nb np : Nat) (b p : Int) : reachE nb np false b p = 8 := by unfold reachE; rw [if_neg (by simp)]
theorem does_off (s : St) (o : CallS) (hs : s.on = false) : doesSt s o = (if o.od = 3 then { s with on := true } else s) ∧ (0 ≤ o.od → o.od ≤ 2 → doesE s o = 8) := by
  have hr : ∀ p, reachE s.nb s.np s.on o.ob p = 8 := fun p => by rw [hs]; exact reach_off _ _ _ _
  have hp : ∀ p x, progSt s o.ob p x = s := fun p x => by unfold progSt; rw [if_neg (by rw [hr]; decide)]
  have he : eraseSt s o.ob = s := by unfold eraseSt; rw [if_neg (by rw [hr]; decide)]
  refine ⟨?_, fun h0 h2 => ?_⟩
  · unfold doesSt
    rw [hp, he]
    by_cases h0 : o.od = 0
    · rw [if_pos h0, if_neg (by omega)]
    · rw [if_neg h0]
      by_cases h1 : o.od = 1
      · rw [if_pos h1, if_neg (by omega)]
      · rw [if_neg h1]
  · unfold doesE
    by_cases h0 : o.od = 0
    · rw [if_pos h0]; unfold progE; rw [if_neg (by rw [hr]; decide)]; exact hr _
    · rw [if_neg h0]
      by_cases h1 : o.od = 1
      · rw [if_pos h1]; unfold eraseE; rw [if_neg (by rw [hr]; decide)]; exact hr _
      · rw [if_neg h1, if_pos (by omega)]; exact hr _
theorem pagesOf_on (s : St) (b : Int) (v : Bool) : pagesOf { s with on := v } b = pagesOf s b := rfl
theorem pagesOf_isP {w : World} {c : Nat} {s : St} {bb : Nat} {PV : Nat → Value} (h : ChipIn w c s bb PV) (b : Int) : (∀ p ∈ pagesOf s b, IsP p) ∧ (pagesOf s b).length ≤ 32 := by
  unfold pagesOf
  cases hx : blkAt s b with
  | none => exact ⟨fun p hp => by simp at hp, by simp⟩
  | some k =>
    obtain ⟨bk, rfl, hbk, hk⟩ := blkAt_in h.bll hx
    exact ⟨allP_isP (h.pg bk k hk) s.np, by have := h.npl; show (allP s.np k).length ≤ 32; rw [allP_length]; omega⟩
theorem doesX_isP {w : World} {c : Nat} {s : St} {bb : Nat} {PV : Nat → Value} (h : ChipIn w c s bb PV) (o : CallS) : IsP (doesX s o) := by
  unfold doesX
  split
  · exact readX_isP h _ _
  · exact isP_fill 0 (by omega)
theorem callsPre (p : Option Addr) (n c k : Nat) (h : k ≤ n) (hc : n ≤ c) (W : World) : (Instr.slice 37 (.slice p n c) none (some (.int .i64 (k : Int))) none).run Try.prog W = .ok (.slice p k c) W := by
  simp [Instr.slice, Instr.sliceBounds, Instr.sliceBound, run_underlying Try.underlying37, asIntOf]
  rw [if_pos (by omega)]
  have : (Option.map (fun x : Addr => x.add 0) p) = p := by
    cases p with
    | none => rfl
    | some a => simp [Addr.add]
  simp [this]
theorem min_two (n M : Nat) (z : Int) (hz : z = (M : Int)) : ∃ k, k ≤ n ∧ k ≤ M ∧ ∀ W, (Builtin.min_ #[3, 3] 3 #[Value.int IntKind.i64 (n : Int), Value.int IntKind.i64 z]).run Try.prog W = .ok (.int .i64 (k : Int)) W := by
  subst hz
  by_cases h : (M : Int) < (n : Int)
  · exact ⟨M, by omega, Nat.le_refl _, fun W => by rw [run_min_int2]; simp only [if_pos h]⟩
  · exact ⟨n, Nat.le_refl _, by omega, fun W => by rw [run_min_int2]; simp only [if_neg h]⟩
end Go.Proofs.Ythafcnilhloldaa
