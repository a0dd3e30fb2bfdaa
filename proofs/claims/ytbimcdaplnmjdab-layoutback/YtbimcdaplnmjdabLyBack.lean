/-
  LayoutBack returns true.
-/
import Derived.Test.YtbimcdaplnmjdabLyBack0
import Derived.Test.YtbimcdaplnmjdabLyBack1
import Derived.Test.YtbimcdaplnmjdabLyBack2
import Derived.Test.YtbimcdaplnmjdabLyBack3
import Derived.Test.YtbimcdaplnmjdabLyEnc
import Derived.Test.YtbimcdaplnmjdabLyDEnc
namespace Go.Proofs.Ytbimcdaplnmjdab
open Go.RowKit
theorem zor (x : Int) : x = 0 ∨ (x == 0) = false := by
  by_cases h : x = 0
  · exact Or.inl h
  · exact Or.inr (by simpa using h)
theorem back_walk (b j o : Int) (cl : Bool) (m : Int) (a : Option Addr) (nl cl' : Nat) (l : List Dsc) (p : Option Addr) (n c : Nat) (xs : List Nat) (w : World) (hl : InD w a nl cl' l) (hr : ∀ d ∈ l, d.rng) (hx : In w p n c xs) : Calls Try.prog 3 #[.agg #[.int .i64 b, .int .i64 j, .int .i64 o, .bool cl, .int .i64 m], .slice a nl cl', .slice p n c] w fun e w' => e = .returned (.bool true) ∧ Below w.heap.size w w' := by
  have hlen := hl.len
  have hen := fun w => encodeSuper_any b j o cl m w
  have hee := fun w (h : InD w a nl cl' l) => encodeDescs_any a nl cl' l w h hr
  have hdl := fun w (h : In w p n c xs) => decodeDescs_any p n c xs (nl : Int) w h
  have hds : supE b j o m = 0 → ∀ w p c, In w p 256 c (supL b j o cl m) → Calls Try.prog 6 #[.slice p 256 c] w fun e w' => e = .returned (.tuple #[.agg #[.int .i64 b, .int .i64 j, .int .i64 o, .bool cl, .int .i64 m], .int .i64 0]) ∧ Below w.heap.size w w' := by
    intro h w p c hi
    obtain ⟨g, f1, f2, f3, f4, f5, -⟩ := sup_back (cl := cl) h
    have := decodeSuper_any p 256 c _ w hi
    rw [(dec_ok g).1, (dec_ok g).2, f1, f2, f3, f4, f5] at this
    exact this
  have SL : supE b j o m = 0 → Hid ((supL b j o cl m).length = 256) := fun h => (sup_back (cl := cl) h).2.2.2.2.2.2
  have EL : edE l = 0 → Hid ((edL l).length = 256) := fun h => (descs_back hr h).2.2
  have hdd1 : edE l = 0 → ∀ w p c, In w p 256 c (edL l) → Calls Try.prog 8 #[.slice p 256 c, .int .i64 (nl : Int)] w fun e w' => ∃ p' n' c', e = .returned (.tuple #[.slice p' n' c', .int .i64 0]) ∧ InD w' p' n' c' l ∧ Below w.heap.size w w' := by
    intro h w p c hi
    obtain ⟨g1, g2, -⟩ := descs_back hr h
    rw [hlen] at g1 g2
    have := decodeDescs_any p 256 c _ (nl : Int) w hi
    rw [g1, g2] at this
    exact this
  have hel : ddE xs (nl : Int) = 0 → ∀ w p n c, InD w p n c (ddL xs (nl : Int)) → Calls Try.prog 7 #[.slice p n c] w fun e w' => ∃ p' n' c', e = .returned (.tuple #[.slice p' n' c', .int .i64 0]) ∧ In w' p' n' c' xs ∧ Below w.heap.size w w' := by
    intro h w p n c hi
    obtain ⟨g1, g2, g3⟩ := dd_zero h
    have := encodeDescs_any p n c _ w hi g3
    rw [g1, g2] at this
    exact this
  obtain ⟨y0, y1, y2, y3, y4, hV, hex⟩ : ∃ y0 y1 y2 y3 y4, decV xs = #[.int .i64 y0, .int .i64 y1, .int .i64 y2, .bool y3, .int .i64 y4] ∧ (decE xs = 0 → ∀ w, Calls Try.prog 5 #[.agg #[.int .i64 y0, .int .i64 y1, .int .i64 y2, .bool y3, .int .i64 y4]] w fun e w' => ∃ p n c, e = .returned (.tuple #[.slice p n c, .int .i64 0]) ∧ In w' p n c xs ∧ Below w.heap.size w w') := by
    cases hok : decOk xs with
    | false => exact ⟨_, _, _, _, _, (dec_no hok).2, fun h => by rw [(dec_no hok).1] at h; cases h⟩
    | true =>
      refine ⟨_, _, _, _, _, (dec_ok hok).2, fun _ w => ?_⟩
      obtain ⟨-, g1, g2⟩ := decOk_factsB hok
      have := encodeSuper_any (rdB xs) (rdJ xs) (rdO xs) (rdC xs) (rdM xs) w
      rw [g1, g2] at this
      exact this
  have hdx : ∀ w, In w p n c xs → Calls Try.prog 6 #[.slice p n c] w fun e w' => e = .returned (.tuple #[.agg #[.int .i64 y0, .int .i64 y1, .int .i64 y2, .bool y3, .int .i64 y4], .int .i64 (decE xs)]) ∧ Below w.heap.size w w' := by
    intro w h
    have := decodeSuper_any p n c xs w h
    rw [hV] at this
    exact this
  rcases zor (supE b j o m) with h1 | h1 <;> rcases zor (edE l) with h2 | h2 <;> rcases zor (decE xs) with h3 | h3 <;> rcases zor (ddE xs (nl : Int)) with h4 | h4
  · exact back_yyyy b j o cl m a nl cl' l p n c xs _ _ _ _ _ _ _ y0 y1 y2 y3 y4 w hx hl hen hds hee hdd1 hdx hex hdl hel SL EL h1 h2 h3 h4
  · exact back_yyyn b j o cl m a nl cl' l p n c xs _ _ _ _ _ _ _ y0 y1 y2 y3 y4 w hx hl hen hds hee hdd1 hdx hex hdl hel SL EL h1 h2 h3 h4
  · exact back_yyny b j o cl m a nl cl' l p n c xs _ _ _ _ _ _ _ y0 y1 y2 y3 y4 w hx hl hen hds hee hdd1 hdx hex hdl hel SL EL h1 h2 h3 h4
  · exact back_yynn b j o cl m a nl cl' l p n c xs _ _ _ _ _ _ _ y0 y1 y2 y3 y4 w hx hl hen hds hee hdd1 hdx hex hdl hel SL EL h1 h2 h3 h4
  · exact back_ynyy b j o cl m a nl cl' l p n c xs _ _ _ _ _ _ _ y0 y1 y2 y3 y4 w hx hl hen hds hee hdd1 hdx hex hdl hel SL EL h1 h2 h3 h4
  · exact back_ynyn b j o cl m a nl cl' l p n c xs _ _ _ _ _ _ _ y0 y1 y2 y3 y4 w hx hl hen hds hee hdd1 hdx hex hdl hel SL EL h1 h2 h3 h4
  · exact back_ynny b j o cl m a nl cl' l p n c xs _ _ _ _ _ _ _ y0 y1 y2 y3 y4 w hx hl hen hds hee hdd1 hdx hex hdl hel SL EL h1 h2 h3 h4
  · exact back_ynnn b j o cl m a nl cl' l p n c xs _ _ _ _ _ _ _ y0 y1 y2 y3 y4 w hx hl hen hds hee hdd1 hdx hex hdl hel SL EL h1 h2 h3 h4
  · exact back_nyyy b j o cl m a nl cl' l p n c xs _ _ _ _ _ _ _ y0 y1 y2 y3 y4 w hx hl hen hds hee hdd1 hdx hex hdl hel SL EL h1 h2 h3 h4
  · exact back_nyyn b j o cl m a nl cl' l p n c xs _ _ _ _ _ _ _ y0 y1 y2 y3 y4 w hx hl hen hds hee hdd1 hdx hex hdl hel SL EL h1 h2 h3 h4
  · exact back_nyny b j o cl m a nl cl' l p n c xs _ _ _ _ _ _ _ y0 y1 y2 y3 y4 w hx hl hen hds hee hdd1 hdx hex hdl hel SL EL h1 h2 h3 h4
  · exact back_nynn b j o cl m a nl cl' l p n c xs _ _ _ _ _ _ _ y0 y1 y2 y3 y4 w hx hl hen hds hee hdd1 hdx hex hdl hel SL EL h1 h2 h3 h4
  · exact back_nnyy b j o cl m a nl cl' l p n c xs _ _ _ _ _ _ _ y0 y1 y2 y3 y4 w hx hl hen hds hee hdd1 hdx hex hdl hel SL EL h1 h2 h3 h4
  · exact back_nnyn b j o cl m a nl cl' l p n c xs _ _ _ _ _ _ _ y0 y1 y2 y3 y4 w hx hl hen hds hee hdd1 hdx hex hdl hel SL EL h1 h2 h3 h4
  · exact back_nnny b j o cl m a nl cl' l p n c xs _ _ _ _ _ _ _ y0 y1 y2 y3 y4 w hx hl hen hds hee hdd1 hdx hex hdl hel SL EL h1 h2 h3 h4
  · exact back_nnnn b j o cl m a nl cl' l p n c xs _ _ _ _ _ _ _ y0 y1 y2 y3 y4 w hx hl hen hds hee hdd1 hdx hex hdl hel SL EL h1 h2 h3 h4
end Go.Proofs.Ytbimcdaplnmjdab
