/-
  What seal.Pack answers.
-/
import Derived.Test.YtgeomfgfeemciaaPutBits
namespace Go.Proofs.Ytgeomfgfeemciaa
open Go.RowKit
/-- At which bit value k begins. -/
def atW (ws : List Int) (k : Nat) : Nat := (sumW (ws.take k)).toNat
/-- How many bytes the bits need. -/
def bytesW (ws : List Int) : Nat := (atW ws ws.length + 7) / 8
/-- The first k values laid into zs. -/
def packTo (ws : List Int) (vs zs : List Nat) : Nat → List Nat
  | 0 => zs
  | k + 1 => setTo (packTo ws vs zs k) (atW ws k) (eI ws k).toNat (vs.getD k 0) (eI ws k).toNat
def packOk (ws : List Int) (vs : List Nat) : Bool := widthOk ws && fitB ws vs
/-- 1 is ErrArg. -/
def packE (ws : List Int) (vs : List Nat) : Int := if packOk ws vs then 0 else 1
def packL (ws : List Int) (vs : List Nat) : List Nat := if packOk ws vs then packTo ws vs (List.replicate (bytesW ws) 0) ws.length else []
theorem packTo_length (ws : List Int) (vs zs : List Nat) (k : Nat) : (packTo ws vs zs k).length = zs.length := by
  induction k with
  | zero => rfl
  | succ k ih => rw [packTo, setTo_length, ih]
theorem packTo_byte {ws : List Int} {vs zs : List Nat} (hz : ∀ x ∈ zs, x < 256) (k : Nat) : ∀ x ∈ packTo ws vs zs k, x < 256 := by
  induction k with
  | zero => exact hz
  | succ k ih => exact setTo_byte ih _ _ _ _
theorem atW_zero (ws : List Int) : atW ws 0 = 0 := by simp [atW, sumW]
theorem atW_succ {ws : List Int} (h : widthOk ws = true) (k : Nat) (hk : k < ws.length) : atW ws (k + 1) = atW ws k + (eI ws k).toNat ∧ 1 ≤ (eI ws k).toNat ∧ (eI ws k).toNat ≤ 64 ∧ eI ws k = ((eI ws k).toNat : Int) := by
  have ho := (okW_iff _).1 ((allW_iff ws).1 (widthOk_all h) k hk)
  have hb := sumW_bound ws k (by omega) (fun j hj => (allW_iff ws).1 (widthOk_all h) j (by omega))
  unfold atW
  rw [sumW_take_succ ws k hk]
  omega
theorem atW_cast {ws : List Int} (h : widthOk ws = true) (k : Nat) (hk : k ≤ ws.length) : sumW (ws.take k) = (atW ws k : Int) ∧ atW ws k ≤ 64 * k := by
  have hb := sumW_bound ws k hk (fun j hj => (allW_iff ws).1 (widthOk_all h) j (by omega))
  unfold atW
  omega
theorem atW_mono {ws : List Int} (h : widthOk ws = true) : ∀ d k, k + d ≤ ws.length → atW ws k ≤ atW ws (k + d)
  | 0, _, _ => Nat.le_refl _
  | d + 1, k, hk => by
    have := atW_mono h d k (by omega)
    have e := (atW_succ h (k + d) (by omega)).1
    rw [← Nat.add_assoc, e]; omega
theorem widthN_ok {ws : List Int} (h : widthOk ws = true) : widthN ws = (bytesW ws : Int) ∧ bytesW ws ≤ 512 := by
  have hc := atW_cast h ws.length (Nat.le_refl _)
  rw [List.take_of_length_le (Nat.le_refl _)] at hc
  have hl := widthOk_len h
  unfold widthN bytesW
  rw [if_pos h]
  omega
theorem width_ok (p : Option Addr) (n c : Nat) (ws : List Int) (w : World) (hx : InI w p n c ws) (h : widthOk ws = true) :
    Calls Try.prog 47 #[.slice p n c] w fun e w' => e = .returned (.tuple #[.int .i64 (bytesW ws), .int .i64 0]) ∧ w' = w := by
  have := width_any p n c ws w hx
  rw [(widthN_ok h).1, show widthE ws = 0 from by unfold widthE; rw [if_pos h]] at this
  exact this
theorem width_no (p : Option Addr) (n c : Nat) (ws : List Int) (w : World) (hx : InI w p n c ws) (h : widthOk ws = false) :
    Calls Try.prog 47 #[.slice p n c] w fun e w' => e = .returned (.tuple #[.int .i64 0, .int .i64 1]) ∧ w' = w := by
  have := width_any p n c ws w hx
  rw [show widthN ws = 0 from by unfold widthN; rw [h]; rfl, show widthE ws = 1 from by unfold widthE; rw [h]; rfl] at this
  exact this
theorem zeros_vals (n : Nat) : zerosV n = vals (List.replicate n 0) := by simp [zerosV, vals]
theorem made_owns {w : World} {B g n : Nat} (h : w.ownsRow B 5 1 (.slice (some ⟨g, 0, none⟩) n n) n (madeCells (Value.int .u8 0).cells (n * 1)).toList) :
    w.ownsRow B 5 1 (.slice (some ⟨g, 0, none⟩) n n) n (vals (List.replicate n 0)) := by
  rwa [show (Value.int .u8 0).cells = #[Value.int .u8 0] from rfl, toList_madeCells_one, Nat.mul_one, show List.replicate n (Value.int .u8 0) = vals (List.replicate n 0) from zeros_vals n] at h
set_option maxRecDepth 100000 in
theorem pack_any (p q : Option Addr) (n c m d : Nat) (ws : List Int) (vs : List Nat) (w : World) (hx : InI w p n c ws) (hy : In64 w q m d vs) :
    Calls Try.prog 30 #[.slice p n c, .slice q m d] w fun e w' => ∃ p' n' c', e = .returned (.tuple #[.slice p' n' c', .int .i64 (packE ws vs)]) ∧ In w' p' n' c' (packL ws vs) ∧ Below w.heap.size w w' := by
  have hroom := hx.room
  have HX : Hid (ws.length = n) := hx.len
  have HY : Hid (vs.length = m) := hy.len
  obtain ⟨i0, hi, hz0, hz1, hz2⟩ := info_parts info5
  cases hok : widthOk ws with
  | false =>
    have e1 : packE ws vs = 1 := by unfold packE packOk; rw [hok]; rfl
    have e2 : packL ws vs = [] := by unfold packL packOk; rw [hok]; rfl
    rw [e1, e2]
    have HO : Hid (widthOk ws = false) := hok
    clear e1 e2 hok
    go_enter Try.func30, Try.ntmps30
    go_wp2_with (go_at_call 47; refine (width_no _ _ _ _ _ hx HO.out).mono ?_; rintro e w' ⟨rfl, hw'⟩; have hw2 := hw'.symm; subst hw2; clear hw')
    go_ret2
    exact ⟨_, _, _, rfl, In.empty _, Below.refl _ _⟩
  | true =>
    have hN := (widthN_ok hok).2
    cases hf : fitB ws vs with
    | false =>
      have e1 : packE ws vs = 1 := by unfold packE packOk; rw [hok, hf]; rfl
      have e2 : packL ws vs = [] := by unfold packL packOk; rw [hok, hf]; rfl
      rw [e1, e2]
      have HO : Hid (widthOk ws = true) := hok
      have HF : Hid (fitB ws vs = false) := hf
      clear e1 e2 hok hf
      go_enter Try.func30, Try.ntmps30
      go_wp2_with (first
        | (go_at_call 47; refine (width_ok p n c ws w hx HO.out).mono ?_; rintro e w' ⟨rfl, hw'⟩; have hw2 := hw'.symm; subst hw2; clear hw')
        | (go_at_call 48; refine (fit_any p q n c _ d ws vs w hx hy HO.out).mono ?_; rintro e w' ⟨rfl, hw'⟩; have hw2 := hw'.symm; subst hw2; clear hw'; rw [HF.out]))
      go_ret2
      exact ⟨_, _, _, rfl, In.empty _, Below.refl _ _⟩
    | true =>
      have hnm : n = m := by have := ((fitB_iff ws vs).1 hf).1; rw [HX.out, HY.out] at this; exact this
      subst hnm
      have e1 : packE ws vs = 0 := by unfold packE packOk; rw [hok, hf]; rfl
      have e2 : packL ws vs = packTo ws vs (List.replicate (bytesW ws) 0) ws.length := by unfold packL packOk; rw [hok, hf]; rfl
      rw [e1, e2]
      have HO : Hid (widthOk ws = true) := hok
      have HF : Hid (fitB ws vs = true) := hf
      clear e1 e2 hok hf
      go_enter Try.func30, Try.ntmps30
      go_wp2_with (first
        | (go_at_call 47; refine (width_ok p n c ws w hx HO.out).mono ?_; rintro e w' ⟨rfl, hw'⟩; have hw2 := hw'.symm; subst hw2; clear hw')
        | (go_at_call 48; refine (fit_any p q n c _ d ws vs w hx hy HO.out).mono ?_; rintro e w' ⟨rfl, hw'⟩; have hw2 := hw'.symm; subst hw2; clear hw'; rw [HF.out])
        | (at_make; refine wpList_make_full _ rfl _ _ 25 rfl w.heap.size 5 i0 (.int .u8 0) 1 Try.underlying25 hi hz0 hz1 .i64 .i64 _ _ (bytesW ws) rfl rfl rfl rfl (by rw [hz2]; omega) (by unfold maxLen; omega) (Nat.le_refl _) ?_; intro w1 hown1 hgrow1))
      have hown2 := made_owns hown1
      have hbel2 := below_grown0 hgrow1
      clear hown1 hgrow1
      go_loopw [9, 28] (fun a i wr => ∃ k : Nat, k ≤ n ∧ i = .int .i64 k ∧ a = .int .i64 (atW ws k) ∧ wr.ownsRow w.heap.size 5 1 (.slice (some ⟨w.heap.size, 0, none⟩) (bytesW ws) (bytesW ws)) (bytesW ws) (vals (packTo ws vs (List.replicate (bytesW ws) 0) k)) ∧ Below w.heap.size w wr) (fun _ i _ => n - (intOf i).toNat)
      case atStart => exact ⟨0, Nat.zero_le _, rfl, val_int (by rw [atW_zero]; rfl), hown2, hbel2⟩
      case round =>
        obtain ⟨k, hk, rfl, rfl, hown, hbel⟩ := hrel
        clear hown2 hbel2
        have hat := (atW_cast HO.out k (by rw [HX.out]; exact hk)).2
        by_cases hlt : k < n
        · obtain ⟨b, o, rfl, hb', hc⟩ := hx.at' (by omega)
          obtain ⟨b', o', rfl, hb'', hc'⟩ := hy.at' (by omega)
          obtain ⟨hs, hw1, hw2, he⟩ := atW_succ HO.out k (by rw [HX.out]; exact hlt)
          have HS : Hid (atW ws (k + 1) = atW ws k + (eI ws k).toNat) := hs
          have hck : wr.cell? ⟨b, o + k, none⟩ = some (.int .i64 ((eI ws k).toNat : Int)) := by rw [← he]; exact (hbel.cell (p := ⟨b, o + k, none⟩) hb').trans (hc k hlt)
          have hck' : wr.cell? ⟨b', o' + k, none⟩ = some (.int .u64 ((vs.getD k 0 : Nat) : Int)) := (hbel.cell (p := ⟨b', o' + k, none⟩) hb'').trans (hc' k (by omega))
          have hv : vs.getD k 0 < 18446744073709551616 := by have := el_range64 hy.lim k; unfold el at this; omega
          have hmono := atW_mono HO.out (ws.length - (k + 1)) (k + 1) (by rw [HX.out]; omega)
          rw [show k + 1 + (ws.length - (k + 1)) = ws.length from by rw [HX.out]; omega, hs] at hmono
          have hfit : atW ws k + (eI ws k).toNat ≤ 8 * bytesW ws := by unfold bytesW; omega
          clear hs he hc hc' hmono
          have HP : Hid (packTo ws vs (List.replicate (bytesW ws) 0) (k + 1) = setTo (packTo ws vs (List.replicate (bytesW ws) 0) k) (atW ws k) (eI ws k).toNat (vs.getD k 0) (eI ws k).toNat) := rfl
          generalize (eI ws k).toNat = W at *
          generalize vs.getD k 0 = V at *
          go_wp2_with (go_at_call 49; refine (putBits_any w.heap.size w.heap.size (bytesW ws) (packTo ws vs (List.replicate (bytesW ws) 0) k) (atW ws k) W V _ (Nat.le_refl _) hown (packTo_byte (fun x hx => by rw [List.eq_of_mem_replicate hx]; decide) k) (by omega) (by omega) hfit hv).mono ?_; rintro e w2 ⟨rfl, hown3, hbel3⟩)
          go_roundw
          case rel => exact ⟨k + 1, by omega, by go_num, val_int (by rw [HS.out]; rfl), by rw [HP.out]; exact hown3, hbel.trans hbel3⟩
          case measure => simp [intOf]; omega
        · have hkn : k = ws.length := by have := HX.out; omega
          rw [hkn] at hown
          go_wp2
          go_ret2
          obtain ⟨p', c', hv, hin⟩ := in_of_owns hown (packTo_byte (fun x hx => by rw [List.eq_of_mem_replicate hx]; decide) _) (by omega)
          cases hv
          exact ⟨_, _, _, rfl, hin, hbel⟩
end Go.Proofs.Ytgeomfgfeemciaa
