/-
  The blocks of a new chip that are bad, as plain lists.
-/
import Derived.Test.YthafcnilhloldaaNMake
import Derived.Test.YthafcnilhloldaaNKeep
namespace Go.Proofs.Ythafcnilhloldaa
open Go.RowKit
/-- Whether a number names a block that is not bad yet. -/
def markOk (nb : Nat) (m : List Bool) (b : Int) : Bool := decide (0 ≤ b ∧ b < (nb : Int)) && !(m.getD b.toNat false)
/-- Which blocks are bad: none, if a number names no block, or one that is bad already. -/
def markL (nb : Nat) : List Int → List Bool → Option (List Bool)
  | [], m => some m
  | b :: bs, m => if markOk nb m b = true then markL nb bs (m.set b.toNat true) else none
theorem markL_no {nb : Nat} {bs : List Int} {m : List Bool} {k : Nat} {b : Int} (h : bs[k]? = some b) (hm : markOk nb m b = false) : markL nb (bs.drop k) m = none := by
  obtain ⟨hk, hb⟩ := List.getElem?_eq_some_iff.1 h
  rw [List.drop_eq_getElem_cons hk, hb]
  unfold markL
  rw [hm]; rfl
theorem markL_yes {nb : Nat} {bs : List Int} {m : List Bool} {k : Nat} {b : Int} (h : bs[k]? = some b) (hm : markOk nb m b = true) : markL nb (bs.drop k) m = markL nb (bs.drop (k + 1)) (m.set b.toNat true) := by
  obtain ⟨hk, hb⟩ := List.getElem?_eq_some_iff.1 h
  rw [List.drop_eq_getElem_cons hk, hb]
  conv => lhs; unfold markL
  rw [if_pos hm]
theorem markOk_iff {nb : Nat} {m : List Bool} {b : Int} (hl : m.length = nb) : markOk nb m b = true ↔ ∃ i : Nat, b = (i : Int) ∧ i < nb ∧ m[i]? = some false := by
  unfold markOk
  rw [Bool.and_eq_true, decide_eq_true_eq, Bool.not_eq_true']
  constructor
  · rintro ⟨⟨h0, h1⟩, h2⟩
    refine ⟨b.toNat, by omega, by omega, ?_⟩
    rw [List.getD_eq_getElem?_getD] at h2
    rw [List.getElem?_eq_getElem (by omega)] at h2 ⊢
    simpa using h2
  · rintro ⟨i, rfl, h1, h2⟩
    refine ⟨by omega, ?_⟩
    rw [List.getD_eq_getElem?_getD, Int.toNat_natCast, h2]; rfl
/-- The cells of the blocks of a new chip. -/
def bcOf (m : List Bool) : List Value := m.flatMap fun b => [.slice none 0 0, .int .i64 0, .int .i64 0, .bool b]
theorem bcOf_length (m : List Bool) : (bcOf m).length = m.length * 4 := by
  induction m with
  | nil => rfl
  | cons b m ih =>
    show (_ ++ bcOf m).length = _
    rw [List.length_append, ih]; simp only [List.length_cons, List.length_nil]; omega
theorem bcOf_at {m : List Bool} {i : Nat} {b : Bool} (h : m[i]? = some b) : (bcOf m)[i * 4]? = some (.slice none 0 0) ∧ (bcOf m)[i * 4 + 1]? = some (.int .i64 0) ∧ (bcOf m)[i * 4 + 2]? = some (.int .i64 0) ∧ (bcOf m)[i * 4 + 3]? = some (.bool b) := by
  induction m generalizing i with
  | nil => cases h
  | cons a m ih =>
    have e : bcOf (a :: m) = [.slice none 0 0, .int .i64 0, .int .i64 0, .bool a] ++ bcOf m := rfl
    rw [e]
    cases i with
    | zero => cases h; exact ⟨rfl, rfl, rfl, rfl⟩
    | succ i =>
      obtain ⟨h0, h1, h2, h3⟩ := ih (i := i) h
      have key : ∀ j, ([Value.slice none 0 0, .int .i64 0, .int .i64 0, .bool a] ++ bcOf m)[(i + 1) * 4 + j]? = (bcOf m)[i * 4 + j]? := fun j => by
        rw [List.getElem?_append_right (by simp only [List.length_cons, List.length_nil]; omega)]
        congr 1; simp only [List.length_cons, List.length_nil]; omega
      exact ⟨(key 0).trans h0, (key 1).trans h1, (key 2).trans h2, (key 3).trans h3⟩
theorem bcOf_set {m : List Bool} {i : Nat} (h : i < m.length) (b : Bool) : (bcOf m).set (i * 4 + 3) (.bool b) = bcOf (m.set i b) := by
  induction m generalizing i with
  | nil => simp at h
  | cons a m ih =>
    have e : ∀ (a : Bool) m, bcOf (a :: m) = [.slice none 0 0, .int .i64 0, .int .i64 0, .bool a] ++ bcOf m := fun _ _ => rfl
    cases i with
    | zero => rw [List.set_cons_zero, e, e]; rfl
    | succ i =>
      rw [List.set_cons_succ, e, e, ← ih (by simpa using h), List.set_append_right _ _ (by simp only [List.length_cons, List.length_nil]; omega)]
      congr 2
      simp only [List.length_cons, List.length_nil]; omega
theorem bcOf_new (nb : Nat) : (madeCells (Value.agg #[.slice none 0 0, .int .i64 0, .int .i64 0, .bool false]).cells (nb * 4)).toList = bcOf (List.replicate nb false) := by
  apply List.ext_getElem?
  intro j
  by_cases hj : j < nb * 4
  · have hi : j / 4 < nb := by omega
    obtain ⟨a0, a1, a2, a3⟩ := made_blk nb (j / 4) hi
    obtain ⟨b0, b1, b2, b3⟩ := bcOf_at (m := List.replicate nb false) (i := j / 4) (b := false) (by rw [List.getElem?_replicate, if_pos hi])
    rcases (by omega : j = j / 4 * 4 ∨ j = j / 4 * 4 + 1 ∨ j = j / 4 * 4 + 2 ∨ j = j / 4 * 4 + 3) with h | h | h | h
    · rw [h]; exact a0.trans b0.symm
    · rw [h]; exact a1.trans b1.symm
    · rw [h]; exact a2.trans b2.symm
    · rw [h]; exact a3.trans b3.symm
  · rw [List.getElem?_eq_none (by simp [size_madeCells]; omega), List.getElem?_eq_none (by rw [bcOf_length, List.length_replicate]; omega)]
/-- A new chip with bad blocks. -/
def newStB (nb np : Nat) (es : List Ev) (m : List Bool) : St := ⟨nb, np, m.map fun b => ⟨[], 0, 0, b⟩, es, 0, true, fun _ => False, nb⟩
theorem newChipB {w : World} {c bb nb np : Nat} {ep : Option Addr} {el ec : Nat} {es : List Ev} {m : List Bool} {z : Nat → Prop} (hg : GeoOk nb np) (hm : m.length = nb) (hc : Blk w c 82 (chipCells nb np (.slice (some ⟨bb, 0, none⟩) nb nb) (.slice ep el ec) 0 true))
    (hB : Blk w bb 78 (bcOf m)) (hE : EvsIn (fun k => k = c ∨ k = bb ∨ z k) w ep el ec es) (hne : c ≠ bb) : ChipIn w c { newStB nb np es m with z := z } bb (fun _ => .slice none 0 0) := by
  unfold GeoOk at hg
  have hrep : ∀ (i : Nat) (b : BlkS), (m.map (fun b => (⟨[], 0, 0, b⟩ : BlkS)))[i]? = some b → ∃ x, m[i]? = some x ∧ b = ⟨[], 0, 0, x⟩ := by
    intro i b hb
    rw [List.getElem?_map] at hb
    obtain ⟨x, hx, rfl⟩ := Option.map_eq_some_iff.1 hb
    exact ⟨x, hx, rfl⟩
  refine ⟨⟨ep, el, ec, hc, hE.mono (fun k _ e => ?_)⟩, ⟨_, hB, by rw [bcOf_length, hm]; rfl, ?_⟩, by simp [newStB, hm], ?_, hne, ?_, ?_, ⟨by show 16 ≤ nb; omega, by show nb ≤ 256; omega⟩, ⟨by show 4 ≤ np; omega, by show np ≤ 32; omega⟩, ?_, Nat.le_refl _⟩
  · rcases e with (e | e | ⟨i, _, e⟩) | e
    · exact .inl e
    · exact .inr (.inl e)
    · simp [Value.ownBlock] at e
    · exact .inr (.inr e)
  · intro i b hb
    obtain ⟨x, hx, rfl⟩ := hrep i b hb
    exact bcOf_at hx
  · intro i b hb
    obtain ⟨x, hx, rfl⟩ := hrep i b hb
    exact PagesIn.nil w
  · intro i _ k e; simp [Value.ownBlock] at e
  · intro i j _ _ _ k e; simp [Value.ownBlock] at e
  · intro b hb
    obtain ⟨x, _, rfl⟩ := List.mem_map.1 hb
    exact ⟨Nat.le_refl _, Nat.zero_le _, Nat.le_refl _⟩
end Go.Proofs.Ythafcnilhloldaa

namespace Go.Proofs.Ythafcnilhloldaa
open Go.RowKit
set_option linter.unusedSimpArgs false in
set_option linter.unusedVariables false in
set_option maxRecDepth 100000 in
set_option maxHeartbeats 8000000 in
theorem revents_any (p : Option Addr) (n c : Nat) (es : List Ev) (f : Nat → Option Addr × Nat × Nat) (w : World) (hx : EvSrc w p n c es f) :
    Calls Try.prog 31 #[.slice p n c] w fun e w' => e = .returned (.bool (okEvs 0 es)) ∧ w' = w := by
  have HX : Hid (es.length = n) := hx.len
  have hroom := hx.room
  go_enter Try.func31, Try.ntmps31
  go_wp2
  go_loopw [3, 4] (fun l i wr => ∃ (k : Nat) (last : Int), k ≤ n ∧ i = .int .i64 (k : Int) ∧ l = .int .i64 last ∧ Hid (okEvs 0 es = okEvs last (es.drop k)) ∧ wr = w) (fun _ i _ => n - (intOf i).toNat)
  case atStart => exact ⟨0, 0, Nat.zero_le _, rfl, rfl, rfl, rfl⟩
  case round =>
    obtain ⟨k, last, hk, rfl, rfl, HO, rfl⟩ := hrel
    by_cases hlt : k < n
    · have hki : (k : Int) < (n : Int) := by omega
      have hkl : k < es.length := by rw [HX.out]; exact hlt
      obtain ⟨e, he⟩ : ∃ e, es[k]? = some e := ⟨_, List.getElem?_eq_getElem hkl⟩
      have hdr : es.drop k = e :: es.drop (k + 1) := by
        rw [List.drop_eq_getElem_cons hkl]
        rw [List.getElem?_eq_getElem hkl] at he
        cases he
        rfl
      have HO : Hid (okEvs 0 es = okEvs last (e :: es.drop (k + 1))) := by show okEvs 0 es = _; rw [HO.out, hdr]
      obtain ⟨b, o, hpe, hbl, hc⟩ := hx.at' (by omega)
      subst hpe
      obtain ⟨v0, v1, v2⟩ := evc_get es f k e he
      have g0 := hc _ _ v0
      have g1 := hc _ _ v1
      have g2 := hc _ _ v2
      rw [← Nat.add_assoc] at g1 g2
      have hlm := (hx.mask k e he).len
      generalize f k = t at g2 hlm
      obtain ⟨q, m, d⟩ := t
      dsimp only at g2 hlm
      have HLM : Hid (e.mask.length = m) := hlm
      obtain ⟨ea, ek, em⟩ := e
      dsimp only at HLM HO g0 g1 hlm
      clear hc v0 v1 v2 hlm hdr he
      by_cases ha : ea ≤ last
      · have HF : Hid (okEvs 0 es = false) := by show _ = _; rw [HO.out]; unfold okEvs; rw [decide_eq_false (by show ¬ last < ea; omega)]; rfl
        go_wp2
        go_ret
        exact ⟨ret_bool HF.out.symm, rfl⟩
      · have hla : last < ea := by omega
        by_cases hk1 : ek = 1
        · subst hk1
          by_cases hm : m ≤ 288
          · have HT : Hid (okEvs 0 es = okEvs ea (es.drop (k + 1))) := by show _ = _; rw [HO.out]; rw [okEvs, decide_eq_true (show last < ea from hla), decide_eq_true (by show em.length ≤ 288; rw [HLM.out]; exact hm)]; rfl
            have hm2 : ¬ (m : Int) > 288 := by omega
            clear HO
            go_wp2
            go_roundw
            case rel => exact ⟨k + 1, ea, by omega, by go_num, rfl, HT, trivial⟩
            case measure => simp [intOf]; omega
          · have HF : Hid (okEvs 0 es = false) := by show _ = _; rw [HO.out]; rw [okEvs, decide_eq_false (p := em.length ≤ 288) (by rw [HLM.out]; exact hm)]; simp
            have hm2 : (m : Int) > 288 := by omega
            go_wp2
            go_ret
            exact ⟨ret_bool HF.out.symm, rfl⟩
        · by_cases hk2 : ek = 2
          · subst hk2
            by_cases hm : m ≤ 288
            · have HT : Hid (okEvs 0 es = okEvs ea (es.drop (k + 1))) := by show _ = _; rw [HO.out]; rw [okEvs, decide_eq_true (show last < ea from hla), decide_eq_true (by show em.length ≤ 288; rw [HLM.out]; exact hm)]; rfl
              have hm2 : ¬ (m : Int) > 288 := by omega
              clear HO
              go_wp2
              go_roundw
              case rel => exact ⟨k + 1, ea, by omega, by go_num, rfl, HT, trivial⟩
              case measure => simp [intOf]; omega
            · have HF : Hid (okEvs 0 es = false) := by show _ = _; rw [HO.out]; rw [okEvs, decide_eq_false (p := em.length ≤ 288) (by rw [HLM.out]; exact hm)]; simp
              have hm2 : (m : Int) > 288 := by omega
              go_wp2
              go_ret
              exact ⟨ret_bool HF.out.symm, rfl⟩
          · have e1 : (ek == 1) = false := by simpa using hk1
            have e2 : (ek == 2) = false := by simpa using hk2
            have n1 : (ek != 1) = true := by rw [bne_iff_ne]; exact hk1
            have n2 : (ek != 2) = true := by rw [bne_iff_ne]; exact hk2
            have HF : Hid (okEvs 0 es = false) := by show _ = _; rw [HO.out]; rw [okEvs]; dsimp only; rw [e1, e2]; simp
            clear e1 e2 hk1 hk2
            go_wp2
            go_ret
            exact ⟨ret_bool HF.out.symm, rfl⟩
    · obtain rfl : k = n := by omega
      have hkn : ¬ (k : Int) < (k : Int) := by omega
      have HF : Hid (okEvs 0 es = true) := by show _ = _; rw [HO.out, List.drop_eq_nil_of_le (by rw [HX.out]; exact Nat.le_refl _)]; rfl
      go_wp2
      go_ret
      exact ⟨ret_bool HF.out.symm, rfl⟩
end Go.Proofs.Ythafcnilhloldaa
