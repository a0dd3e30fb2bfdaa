/-
  What the reference's events answers.
-/
import Derived.Test.YthafcnilhloldaaNKeep
namespace Go.Proofs.Ythafcnilhloldaa
open Go.RowKit
set_option linter.unusedSimpArgs false in
set_option linter.unusedVariables false in
set_option maxRecDepth 100000 in
set_option maxHeartbeats 8000000 in
theorem revents_any (p : Option Addr) (n c : Nat) (es : List Ev) (f : Nat → Option Addr × Nat × Nat) (w : World) (hx : EvSrc w p n c es f) :
    Calls Try.prog 31 #[.slice p n c] w fun e w' => e = .returned (.bool (okEvs 0 es)) ∧ w' = w := by
  have HX : Hid (es.length = n) := hx.len
  have hroom := hx.room
  go_enter Try.func31, Try.ntmps31
  go_wp2
  go_loopw [3, 4] (fun l i wr => ∃ (k : Nat) (last : Int), k ≤ n ∧ i = .int .i64 (k : Int) ∧ l = .int .i64 last ∧ Hid (okEvs 0 es = okEvs last (es.drop k)) ∧ wr = w) (fun _ i _ => n - (intOf i).toNat)
  case atStart => exact ⟨0, 0, Nat.zero_le _, rfl, rfl, rfl, rfl⟩
  case round =>
    obtain ⟨k, last, hk, rfl, rfl, HO, rfl⟩ := hrel
    by_cases hlt : k < n
    · have hki : (k : Int) < (n : Int) := by omega
      have hkl : k < es.length := by rw [HX.out]; exact hlt
      obtain ⟨e, he⟩ : ∃ e, es[k]? = some e := ⟨_, List.getElem?_eq_getElem hkl⟩
      have hdr : es.drop k = e :: es.drop (k + 1) := by
        rw [List.drop_eq_getElem_cons hkl]
        rw [List.getElem?_eq_getElem hkl] at he
        cases he
        rfl
      have HO : Hid (okEvs 0 es = okEvs last (e :: es.drop (k + 1))) := by show okEvs 0 es = _; rw [HO.out, hdr]
      obtain ⟨b, o, hpe, hbl, hc⟩ := hx.at' (by omega)
      subst hpe
      obtain ⟨v0, v1, v2⟩ := evc_get es f k e he
      have g0 := hc _ _ v0
      have g1 := hc _ _ v1
      have g2 := hc _ _ v2
      rw [← Nat.add_assoc] at g1 g2
      have hlm := (hx.mask k e he).len
      generalize f k = t at g2 hlm
      obtain ⟨q, m, d⟩ := t
      dsimp only at g2 hlm
      have HLM : Hid (e.mask.length = m) := hlm
      obtain ⟨ea, ek, em⟩ := e
      dsimp only at HLM HO g0 g1 hlm
      clear hc v0 v1 v2 hlm hdr he
      by_cases ha : ea ≤ last
      · have HF : Hid (okEvs 0 es = false) := by show _ = _; rw [HO.out]; unfold okEvs; rw [decide_eq_false (by show ¬ last < ea; omega)]; rfl
        go_wp2
        go_ret
        exact ⟨ret_bool HF.out.symm, rfl⟩
      · have hla : last < ea := by omega
        by_cases hk1 : ek = 1
        · subst hk1
          by_cases hm : m ≤ 288
          · have HT : Hid (okEvs 0 es = okEvs ea (es.drop (k + 1))) := by show _ = _; rw [HO.out]; rw [okEvs, decide_eq_true (show last < ea from hla), decide_eq_true (by show em.length ≤ 288; rw [HLM.out]; exact hm)]; rfl
            have hm2 : ¬ (m : Int) > 288 := by omega
            clear HO
            go_wp2
            go_roundw
            case rel => exact ⟨k + 1, ea, by omega, by go_num, rfl, HT, trivial⟩
            case measure => simp [intOf]; omega
          · have HF : Hid (okEvs 0 es = false) := by show _ = _; rw [HO.out]; rw [okEvs, decide_eq_false (p := em.length ≤ 288) (by rw [HLM.out]; exact hm)]; simp
            have hm2 : (m : Int) > 288 := by omega
            go_wp2
            go_ret
            exact ⟨ret_bool HF.out.symm, rfl⟩
        · by_cases hk2 : ek = 2
          · subst hk2
            by_cases hm : m ≤ 288
            · have HT : Hid (okEvs 0 es = okEvs ea (es.drop (k + 1))) := by show _ = _; rw [HO.out]; rw [okEvs, decide_eq_true (show last < ea from hla), decide_eq_true (by show em.length ≤ 288; rw [HLM.out]; exact hm)]; rfl
              have hm2 : ¬ (m : Int) > 288 := by omega
              clear HO
              go_wp2
              go_roundw
              case rel => exact ⟨k + 1, ea, by omega, by go_num, rfl, HT, trivial⟩
              case measure => simp [intOf]; omega
            · have HF : Hid (okEvs 0 es = false) := by show _ = _; rw [HO.out]; rw [okEvs, decide_eq_false (p := em.length ≤ 288) (by rw [HLM.out]; exact hm)]; simp
              have hm2 : (m : Int) > 288 := by omega
              go_wp2
              go_ret
              exact ⟨ret_bool HF.out.symm, rfl⟩
          · have e1 : (ek == 1) = false := by simpa using hk1
            have e2 : (ek == 2) = false := by simpa using hk2
            have n1 : (ek != 1) = true := by rw [bne_iff_ne]; exact hk1
            have n2 : (ek != 2) = true := by rw [bne_iff_ne]; exact hk2
            have HF : Hid (okEvs 0 es = false) := by show _ = _; rw [HO.out]; rw [okEvs]; dsimp only; rw [e1, e2]; simp
            clear e1 e2 hk1 hk2
            go_wp2
            go_ret
            exact ⟨ret_bool HF.out.symm, rfl⟩
    · obtain rfl : k = n := by omega
      have hkn : ¬ (k : Int) < (k : Int) := by omega
      have HF : Hid (okEvs 0 es = true) := by show _ = _; rw [HO.out, List.drop_eq_nil_of_le (by rw [HX.out]; exact Nat.le_refl _)]; rfl
      go_wp2
      go_ret
      exact ⟨ret_bool HF.out.symm, rfl⟩
end Go.Proofs.Ythafcnilhloldaa
