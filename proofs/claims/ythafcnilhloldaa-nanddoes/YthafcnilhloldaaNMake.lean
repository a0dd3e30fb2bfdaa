/-
  The blocks of a new chip.
-/
import Derived.Test.YthafcnilhloldaaNKeep
namespace Go.Proofs.Ythafcnilhloldaa
open Go.RowKit
theorem infoBlk : (Try.prog.info? 78).map (fun i => (i.zero, i.size, i.bytes)) = some (some (.agg #[.slice none 0 0, .int .i64 0, .int .i64 0, .bool false]), 4, 48) := by kernel_rfl
theorem made_blk (n i : Nat) (hi : i < n) : (madeCells (Value.agg #[.slice none 0 0, .int .i64 0, .int .i64 0, .bool false]).cells (n * 4)).toList[i * 4]? = some (.slice none 0 0) ∧ (madeCells (Value.agg #[.slice none 0 0, .int .i64 0, .int .i64 0, .bool false]).cells (n * 4)).toList[i * 4 + 1]? = some (.int .i64 0) ∧
    (madeCells (Value.agg #[.slice none 0 0, .int .i64 0, .int .i64 0, .bool false]).cells (n * 4)).toList[i * 4 + 2]? = some (.int .i64 0) ∧ (madeCells (Value.agg #[.slice none 0 0, .int .i64 0, .int .i64 0, .bool false]).cells (n * 4)).toList[i * 4 + 3]? = some (.bool false) := by
  have hget : ∀ r, r < 4 → (madeCells (Value.agg #[.slice none 0 0, .int .i64 0, .int .i64 0, .bool false]).cells (n * 4)).toList[i * 4 + r]? = some ((#[Value.slice none 0 0, .int .i64 0, .int .i64 0, .bool false] : Array Value)[r]!) := by
    intro r hr
    rw [madeCells, Array.toList_map, Array.toList_range, List.getElem?_map, List.getElem?_range (by omega)]
    simp only [Option.map_some, Value.cells]
    rw [show (#[Value.slice none 0 0, .int .i64 0, .int .i64 0, .bool false] : Array Value).size = 4 from rfl, show (i * 4 + r) % 4 = r from by omega]
  exact ⟨hget 0 (by omega), hget 1 (by omega), hget 2 (by omega), hget 3 (by omega)⟩
end Go.Proofs.Ythafcnilhloldaa

namespace Go.Proofs.Ythafcnilhloldaa
open Go.RowKit
/-- A new chip. -/
def newSt (nb np : Nat) (es : List Ev) : St := ⟨nb, np, List.replicate nb ⟨[], 0, 0, false⟩, es, 0, true, fun _ => False, nb⟩
theorem newChip {w : World} {c bb nb np : Nat} {ep : Option Addr} {el ec : Nat} {es : List Ev} (hg : GeoOk nb np) (hc : Blk w c 82 (chipCells nb np (.slice (some ⟨bb, 0, none⟩) nb nb) (.slice ep el ec) 0 true))
    (hB : Blk w bb 78 (madeCells (Value.agg #[.slice none 0 0, .int .i64 0, .int .i64 0, .bool false]).cells (nb * 4)).toList) (hE : EvsIn (fun k => k = c ∨ k = bb) w ep el ec es) (hne : c ≠ bb) : ChipIn w c (newSt nb np es) bb (fun _ => .slice none 0 0) := by
  unfold GeoOk at hg
  have hrep : ∀ (i : Nat) (b : BlkS), (List.replicate nb (⟨[], 0, 0, false⟩ : BlkS))[i]? = some b → i < nb ∧ b = ⟨[], 0, 0, false⟩ := by
    intro i b hb
    rw [List.getElem?_replicate] at hb
    split at hb
    · cases hb; exact ⟨by assumption, rfl⟩
    · cases hb
  refine ⟨⟨ep, el, ec, hc, hE.mono (fun k _ e => ?_)⟩, ⟨_, hB, by simp [size_madeCells, newSt], ?_⟩, by simp [newSt], ?_, hne, ?_, ?_, ⟨by show 16 ≤ nb; omega, by show nb ≤ 256; omega⟩, ⟨by show 4 ≤ np; omega, by show np ≤ 32; omega⟩, ?_, Nat.le_refl _⟩
  · rcases e with (e | e | ⟨i, _, e⟩) | e
    · exact .inl e
    · exact .inr e
    · simp [Value.ownBlock] at e
    · exact e.elim
  · intro i b hb
    obtain ⟨hi, rfl⟩ := hrep i b hb
    exact made_blk nb i hi
  · intro i b hb
    obtain ⟨hi, rfl⟩ := hrep i b hb
    exact PagesIn.nil w
  · intro i _ k e; simp [Value.ownBlock] at e
  · intro i j _ _ _ k e; simp [Value.ownBlock] at e
  · intro b hb
    have := List.eq_of_mem_replicate hb
    subst this
    exact ⟨Nat.le_refl _, Nat.zero_le _, Nat.le_refl _⟩
theorem keep_ok {e : Ending} {n : Nat} {es : List Ev} {S : Nat → Prop} {w' : World} (h : (okEvs 0 es = false ∧ e = .returned (.tuple #[.slice none 0 0, .int .i64 21])) ∨
      (okEvs 0 es = true ∧ ∃ p' c', e = .returned (.tuple #[.slice p' n c', .int .i64 0]) ∧ EvsIn S w' p' n c' es)) (hok : okEvs 0 es = true) : ∃ p' c', e = .returned (.tuple #[.slice p' n c', .int .i64 0]) ∧ EvsIn S w' p' n c' es := by
  rcases h with ⟨h, _⟩ | ⟨_, h⟩
  · rw [hok] at h; cases h
  · exact h
open Classical in
set_option maxHeartbeats 1000000 in
theorem new_nil (nb np : Nat) (p : Option Addr) (n c : Nat) (es : List Ev) (f : Nat → Option Addr × Nat × Nat) (w : World) (hx : EvSrc w p n c es f) (hg : GeoOk nb np) (hok : okEvs 0 es = true) :
    Calls Try.prog 9 #[.agg #[.int .i64 (nb : Int), .int .i64 (np : Int)], .slice none 0 0, .slice p n c] w fun e w' => Below w.heap.size w w' ∧ ∃ ch bb, e = .returned (.tuple #[.pointer (some ⟨ch, 0, none⟩), .int .i64 0]) ∧ w.heap.size ≤ ch ∧ w.heap.size ≤ bb ∧ ChipIn w' ch (newSt nb np es) bb (fun _ => .slice none 0 0) := by
  obtain ⟨i0, hi, hz0, hz1, hz2⟩ := info_parts infoBlk
  have hb0 := below_alloc w (.cells #[.int .i64 (nb : Int), .int .i64 (np : Int)] 23)
  have hm := mayBe_any nb np (w.alloc (.cells #[.int .i64 (nb : Int), .int .i64 (np : Int)] 23))
  rw [decide_eq_true hg] at hm
  have hnb : nb ≤ 256 := by unfold GeoOk at hg; omega
  have HG : Hid (GeoOk nb np) := hg
  clear hg
  have hG := Blk.new' w 23 #[.int .i64 (nb : Int), .int .i64 (np : Int)]
  go_enter Try.func9, Try.ntmps9
  go_wp2_with (first
    | (go_at_call 28; refine hm.mono ?_; rintro e w1 ⟨rfl, hb1⟩; have hG1 := hG.kept hb1; have hg0 := hG1.cell' (i := 0) rfl; have hg1 := hG1.cell' (i := 1) rfl)
    | (at_make; refine wpList_make_full _ rfl _ _ 76 rfl 0 78 i0 _ 4 Try.underlying76 hi hz0 hz1 .i64 .i64 _ _ nb rfl rfl rfl rfl (by rw [hz2]; omega) (by unfold maxLen; omega) (Nat.zero_le _) ?_; intro w2 hown2 hgrow2))
  have hB2 : Blk w2 w1.heap.size 78 (madeCells (Value.agg #[.slice none 0 0, .int .i64 0, .int .i64 0, .bool false]).cells (nb * 4)).toList := by
    rcases hown2.2 with ⟨h', _⟩ | ⟨g, cap, cur, h', _, hh, _, _, hs, ht⟩
    · simp at h'
    · simp only [Value.slice.injEq, Option.some.injEq, Addr.mk.injEq, and_true, true_and] at h'
      obtain ⟨rfl, rfl⟩ := h'
      rw [List.take_of_length_le (by simp [hs])] at ht
      rw [Blk, hh, ← ht]
  have hb2 := below_grown0 hgrow2
  have hw2 : Below w.heap.size w w2 := bt (bt hb0 hb1) hb2
  have hx2 := hx.below hw2
  have hG2 := hG1.kept hb2
  have hlt1 := hB2.lt
  have hlw : w.heap.size < w1.heap.size := hG1.lt
  have HK : Hid (okEvs 0 es = true) := hok
  obtain ⟨MC, hMC⟩ : ∃ MC, (madeCells (Value.agg #[.slice none 0 0, .int .i64 0, .int .i64 0, .bool false]).cells (nb * 4)).toList = MC := ⟨_, rfl⟩
  rw [hMC] at hB2
  have HMC : Hid ((madeCells (Value.agg #[.slice none 0 0, .int .i64 0, .int .i64 0, .bool false]).cells (nb * 4)).toList = MC) := hMC
  clear hMC
  clear hm hown2 hgrow2 hok hg0 hg1 hz0 hz1 hz2 hi
  go_loopw [21] (fun i wr => i = .int .i64 0 ∧ wr = w2) (fun _ _ => 0)
  case atStart => exact ⟨rfl, rfl⟩
  case round =>
    obtain ⟨rfl, rfl⟩ := hrel
    go_wp2_with (go_at_call 29; refine (keep_any p n c es f _ hx2).mono ?_; rintro e w3 ⟨hb3, hk3⟩; obtain ⟨p3, c3, rfl, hE3⟩ := keep_ok hk3 HK.out; have hG3 := hG2.kept hb3; have hg0 := hG3.cell' (i := 0) rfl; have hg1 := hG3.cell' (i := 1) rfl)
    go_ret2
    have hs3 := hb3.size
    have hb4 := below_alloc w3 (.cells #[.int .i64 (nb : Int), .int .i64 (np : Int), .slice (some ⟨w1.heap.size, 0, none⟩) nb nb, .slice p3 n c3, .int .i64 0, .bool true] 82)
    have hB4 := (hB2.kept hb3).kept hb4
    rw [← HMC.out] at hB4
    have hE4 := (hE3.mono (T := fun k => k = w3.heap.size ∨ k = w1.heap.size) (fun k hk e => e.elim (fun e => by omega) (fun e => by omega))).keep (T := fun _ => False) (Keep.of_below hb4) (fun _ _ e => e.elim)
    exact ⟨bt (bt hw2 hb3) hb4, w3.heap.size, w1.heap.size, rfl, by omega, by omega, newChip HG.out (Blk.new' w3 82 _) hB4 hE4 (by omega)⟩
end Go.Proofs.Ythafcnilhloldaa

namespace Go.Proofs.Ythafcnilhloldaa
open Go.RowKit
def ev0 : Ev := ⟨2, 2, [255]⟩
def st0 : St := newSt 16 4 [ev0]
def st1 : St := progSt st0 0 0 (fillP 1)
def st2 : St := progSt st1 0 1 (fillP 2)
def st3 : St := { st2 with on := true }
theorem be0 : progE st0 0 0 = 0 := by kernel_rfl
theorem be1 : progE st1 0 1 = 8 := by kernel_rfl
theorem be3 : progE st3 0 1 = 24 := by kernel_rfl
theorem bs3 : progSt st3 0 1 (fillP 2) = st3 := by kernel_rfl
theorem br0 : readP st3 0 0 = fillP 1 := by kernel_rfl
theorem br1 : readP st3 0 1 = fillP 255 := by kernel_rfl
theorem brE0 : reachE st3.nb st3.np st3.on 0 0 = 0 := by kernel_rfl
theorem brE1 : reachE st3.nb st3.np st3.on 0 1 = 0 := by kernel_rfl
theorem bo3 : st3.ops = 2 := by kernel_rfl
theorem bo0 : st0.ops = 0 := by kernel_rfl
theorem bo1 : st1.ops = 1 := by kernel_rfl
theorem geo0 : GeoOk ((16 : Nat) : Int) ((4 : Nat) : Int) := by unfold GeoOk; omega
theorem ok0 : okEvs 0 [ev0] = true := by kernel_rfl
end Go.Proofs.Ythafcnilhloldaa

namespace Go.Proofs.Ythafcnilhloldaa
open Go.RowKit
def fE (N : Nat) : Nat → Option Addr × Nat × Nat := fun _ => (some ⟨N, 0, none⟩, 1, 1)
theorem src0 (w : World) : EvSrc ((w.alloc (.cells #[.int .u8 255] 5)).alloc (.cells #[.int .i64 2, .int .i64 2, .slice (some ⟨w.heap.size, 0, none⟩) 1 1] 72)) (some ⟨w.heap.size + 1, 0, none⟩) 1 1 [ev0] (fE w.heap.size) := by
  have hE := Blk.new' (w.alloc (.cells #[.int .u8 255] 5)) 72 #[.int .i64 2, .int .i64 2, .slice (some ⟨w.heap.size, 0, none⟩) 1 1]
  have hM : In (w.alloc (.cells #[.int .u8 255] 5)) (some ⟨w.heap.size, 0, none⟩) 1 1 [255] := in_lit w (by rfl) rfl (by simp) (by omega)
  rw [World.size_alloc] at hE
  refine ⟨rfl, Nat.le_refl _, by unfold maxLen; omega, by omega, (fun h => by cases h), fun _ => ⟨w.heap.size + 1, 0, rfl, hE.lt, fun j u hu => ?_⟩, fun i e he => ?_⟩
  · rw [Nat.zero_add]
    exact hE.cell' hu
  · cases i with
    | zero => cases he; exact hM.below (below_alloc _ _)
    | succ i => simp at he
theorem ChipIn.restart {w : World} {c : Nat} {s : St} {bb : Nat} {PV : Nat → Value} (h : ChipIn w c s bb PV) : ChipIn (w.setCell ⟨c, 5, none⟩ (.bool true)) c { s with on := true } bb PV := by
  obtain ⟨ep, el, ec, hc, he⟩ := h.chip
  obtain ⟨BC, hB, hl, hcell⟩ := h.blks
  have hk := (Keep.refl (fun k => k = c) w).setCell ⟨c, 5, none⟩ (.bool true) rfl
  exact ⟨⟨ep, el, ec, hc.set 5 (.bool true), he.keep hk (fun k _ e => .inl (.inl e))⟩, ⟨BC, hB.setOther _ _ (fun e => h.ne e.symm), hl, hcell⟩, h.bll,
    fun i b hb => (h.pg i b hb).same (fun k hk' => heap_setCell_other _ _ _ _ (h.nec i (by rw [← h.bll]; exact (List.getElem?_eq_some_iff.1 hb).1) k hk').1), h.ne, h.nec, h.dis, h.nbl, h.npl, h.lim, h.ler⟩
end Go.Proofs.Ythafcnilhloldaa
