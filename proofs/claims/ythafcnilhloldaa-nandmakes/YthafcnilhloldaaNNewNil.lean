/-
  What New makes where no block is bad.
-/
import Derived.Test.YthafcnilhloldaaNMake
namespace Go.Proofs.Ythafcnilhloldaa
open Go.RowKit
/-- A new chip. -/
def newSt (nb np : Nat) (es : List Ev) : St := ⟨nb, np, List.replicate nb ⟨[], 0, 0, false⟩, es, 0, true⟩
theorem newChip {w : World} {c bb nb np : Nat} {ep : Option Addr} {el ec : Nat} {es : List Ev} (hg : GeoOk nb np) (hc : Blk w c 82 (chipCells nb np (.slice (some ⟨bb, 0, none⟩) nb nb) (.slice ep el ec) 0 true))
    (hB : Blk w bb 78 (madeCells (Value.agg #[.slice none 0 0, .int .i64 0, .int .i64 0, .bool false]).cells (nb * 4)).toList) (hE : EvsIn (fun k => k = c ∨ k = bb) w ep el ec es) (hne : c ≠ bb) : ChipIn w c (newSt nb np es) bb (fun _ => .slice none 0 0) := by
  unfold GeoOk at hg
  have hrep : ∀ (i : Nat) (b : BlkS), (List.replicate nb (⟨[], 0, 0, false⟩ : BlkS))[i]? = some b → i < nb ∧ b = ⟨[], 0, 0, false⟩ := by
    intro i b hb
    rw [List.getElem?_replicate] at hb
    split at hb
    · cases hb; exact ⟨by assumption, rfl⟩
    · cases hb
  refine ⟨⟨ep, el, ec, hc, hE.mono (fun k _ e => ?_)⟩, ⟨_, hB, by simp [size_madeCells, newSt], ?_⟩, by simp [newSt], ?_, hne, ?_, ?_, ⟨by show 16 ≤ nb; omega, by show nb ≤ 256; omega⟩, ⟨by show 4 ≤ np; omega, by show np ≤ 32; omega⟩, ?_⟩
  · rcases e with e | e | ⟨i, _, e⟩
    · exact .inl e
    · exact .inr e
    · simp [Value.ownBlock] at e
  · intro i b hb
    obtain ⟨hi, rfl⟩ := hrep i b hb
    exact made_blk nb i hi
  · intro i b hb
    obtain ⟨hi, rfl⟩ := hrep i b hb
    exact PagesIn.nil w
  · intro i _ k e; simp [Value.ownBlock] at e
  · intro i j _ _ _ k e; simp [Value.ownBlock] at e
  · intro b hb
    have := List.eq_of_mem_replicate hb
    subst this
    exact ⟨Nat.le_refl _, Nat.zero_le _, Nat.le_refl _⟩
theorem keep_ok {e : Ending} {n : Nat} {es : List Ev} {S : Nat → Prop} {w' : World} (h : (okEvs 0 es = false ∧ e = .returned (.tuple #[.slice none 0 0, .int .i64 21])) ∨
      (okEvs 0 es = true ∧ ∃ p' c', e = .returned (.tuple #[.slice p' n c', .int .i64 0]) ∧ EvsIn S w' p' n c' es)) (hok : okEvs 0 es = true) : ∃ p' c', e = .returned (.tuple #[.slice p' n c', .int .i64 0]) ∧ EvsIn S w' p' n c' es := by
  rcases h with ⟨h, _⟩ | ⟨_, h⟩
  · rw [hok] at h; cases h
  · exact h
open Classical in
set_option maxHeartbeats 1000000 in
theorem new_nil (nb np : Nat) (p : Option Addr) (n c : Nat) (es : List Ev) (f : Nat → Option Addr × Nat × Nat) (w : World) (hx : EvSrc w p n c es f) (hg : GeoOk nb np) (hok : okEvs 0 es = true) :
    Calls Try.prog 9 #[.agg #[.int .i64 (nb : Int), .int .i64 (np : Int)], .slice none 0 0, .slice p n c] w fun e w' => Below w.heap.size w w' ∧ ∃ ch bb, e = .returned (.tuple #[.pointer (some ⟨ch, 0, none⟩), .int .i64 0]) ∧ w.heap.size ≤ ch ∧ w.heap.size ≤ bb ∧ ChipIn w' ch (newSt nb np es) bb (fun _ => .slice none 0 0) := by
  obtain ⟨i0, hi, hz0, hz1, hz2⟩ := info_parts infoBlk
  have hb0 := below_alloc w (.cells #[.int .i64 (nb : Int), .int .i64 (np : Int)] 23)
  have hm := mayBe_any nb np (w.alloc (.cells #[.int .i64 (nb : Int), .int .i64 (np : Int)] 23))
  rw [decide_eq_true hg] at hm
  have hnb : nb ≤ 256 := by unfold GeoOk at hg; omega
  have HG : Hid (GeoOk nb np) := hg
  clear hg
  have hG := Blk.new' w 23 #[.int .i64 (nb : Int), .int .i64 (np : Int)]
  go_enter Try.func9, Try.ntmps9
  go_wp2_with (first
    | (go_at_call 28; refine hm.mono ?_; rintro e w1 ⟨rfl, hb1⟩; have hG1 := hG.kept hb1; have hg0 := hG1.cell' (i := 0) rfl; have hg1 := hG1.cell' (i := 1) rfl)
    | (at_make; refine wpList_make_full _ rfl _ _ 76 rfl 0 78 i0 _ 4 Try.underlying76 hi hz0 hz1 .i64 .i64 _ _ nb rfl rfl rfl rfl (by rw [hz2]; omega) (by unfold maxLen; omega) (Nat.zero_le _) ?_; intro w2 hown2 hgrow2))
  have hB2 : Blk w2 w1.heap.size 78 (madeCells (Value.agg #[.slice none 0 0, .int .i64 0, .int .i64 0, .bool false]).cells (nb * 4)).toList := by
    rcases hown2.2 with ⟨h', _⟩ | ⟨g, cap, cur, h', _, hh, _, _, hs, ht⟩
    · simp at h'
    · simp only [Value.slice.injEq, Option.some.injEq, Addr.mk.injEq, and_true, true_and] at h'
      obtain ⟨rfl, rfl⟩ := h'
      rw [List.take_of_length_le (by simp [hs])] at ht
      rw [Blk, hh, ← ht]
  have hb2 := below_grown0 hgrow2
  have hw2 : Below w.heap.size w w2 := bt (bt hb0 hb1) hb2
  have hx2 := hx.below hw2
  have hG2 := hG1.kept hb2
  have hlt1 := hB2.lt
  have hlw : w.heap.size < w1.heap.size := hG1.lt
  have HK : Hid (okEvs 0 es = true) := hok
  obtain ⟨MC, hMC⟩ : ∃ MC, (madeCells (Value.agg #[.slice none 0 0, .int .i64 0, .int .i64 0, .bool false]).cells (nb * 4)).toList = MC := ⟨_, rfl⟩
  rw [hMC] at hB2
  have HMC : Hid ((madeCells (Value.agg #[.slice none 0 0, .int .i64 0, .int .i64 0, .bool false]).cells (nb * 4)).toList = MC) := hMC
  clear hMC
  clear hm hown2 hgrow2 hok hg0 hg1 hz0 hz1 hz2 hi
  go_loopw [21] (fun i wr => i = .int .i64 0 ∧ wr = w2) (fun _ _ => 0)
  case atStart => exact ⟨rfl, rfl⟩
  case round =>
    obtain ⟨rfl, rfl⟩ := hrel
    go_wp2_with (go_at_call 29; refine (keep_any p n c es f _ hx2).mono ?_; rintro e w3 ⟨hb3, hk3⟩; obtain ⟨p3, c3, rfl, hE3⟩ := keep_ok hk3 HK.out; have hG3 := hG2.kept hb3; have hg0 := hG3.cell' (i := 0) rfl; have hg1 := hG3.cell' (i := 1) rfl)
    go_ret2
    have hs3 := hb3.size
    have hb4 := below_alloc w3 (.cells #[.int .i64 (nb : Int), .int .i64 (np : Int), .slice (some ⟨w1.heap.size, 0, none⟩) nb nb, .slice p3 n c3, .int .i64 0, .bool true] 82)
    have hB4 := (hB2.kept hb3).kept hb4
    rw [← HMC.out] at hB4
    have hE4 := (hE3.mono (T := fun k => k = w3.heap.size ∨ k = w1.heap.size) (fun k hk e => e.elim (fun e => by omega) (fun e => by omega))).keep (T := fun _ => False) (Keep.of_below hb4) (fun _ _ e => e.elim)
    exact ⟨bt (bt hw2 hb3) hb4, w3.heap.size, w1.heap.size, rfl, by omega, by omega, newChip HG.out (Blk.new' w3 82 _) hB4 hE4 (by omega)⟩
end Go.Proofs.Ythafcnilhloldaa
