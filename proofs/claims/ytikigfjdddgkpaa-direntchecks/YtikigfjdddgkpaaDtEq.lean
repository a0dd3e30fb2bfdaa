/-
  What slices.Equal of entries and dirent.Room answer.
-/
import Derived.Test.YtikigfjdddgkpaaDtAddP
import Derived.Lib.MinMax
import Derived.Deep.Cut
namespace Go.Proofs.Ytikigfjdddgkpaa
open Go.RowKit
def enB (x y : Ent) : Bool := (x.nm == y.nm) && (x.ino == y.ino) && (x.kd == y.kd)
theorem enB_iff {x y : Ent} : enB x y = true ↔ x = y := by
  obtain ⟨a, b, c⟩ := x
  obtain ⟨d, e, f⟩ := y
  simp [enB, and_assoc]
def eqNB : List Ent → List Ent → Bool
  | [], [] => true
  | x :: l, y :: m => enB x y && eqNB l m
  | _, _ => false
theorem eqNB_iff : ∀ {l m : List Ent}, eqNB l m = true ↔ l = m
  | [], [] => by simp [eqNB]
  | [], y :: m => by simp [eqNB]
  | x :: l, [] => by simp [eqNB]
  | x :: l, y :: m => by simp [eqNB, enB_iff, eqNB_iff]
theorem eN_get {l : List Ent} {k : Nat} (h : k < l.length) : l[k]? = some (eN l k) := by simp [eN, h]
theorem eqNB_no {l m : List Ent} {k : Nat} (_hl : k < l.length) (_hm : k < m.length) (h : enB (eN l k) (eN m k) = false) : eqNB l m = false := by
  cases he : eqNB l m with
  | false => rfl
  | true =>
    rw [eqNB_iff] at he
    subst he
    rw [enB_iff.2 rfl] at h
    cases h
theorem eqNB_len {l m : List Ent} (h : l.length ≠ m.length) : eqNB l m = false := by
  cases he : eqNB l m with
  | false => rfl
  | true => rw [eqNB_iff] at he; subst he; exact absurd rfl h
theorem eqNB_all {l m : List Ent} (h : l.length = m.length) (hk : ∀ j, j < l.length → enB (eN l j) (eN m j) = true) : eqNB l m = true := by
  rw [eqNB_iff]
  refine List.ext_getElem? fun j => ?_
  by_cases hj : j < l.length
  · rw [eN_get hj, eN_get (by omega), enB_iff.1 (hk j hj)]
  · rw [List.getElem?_eq_none (by omega), List.getElem?_eq_none (by omega)]
set_option linter.unusedSimpArgs false in
set_option linter.unusedVariables false in
set_option maxRecDepth 100000 in
set_option maxHeartbeats 8000000 in
theorem equalN_any (p q : Option Addr) (n c m d : Nat) (l l' : List Ent) (w : World) (hx : InN w p n c l) (hy : InN w q m d l') : Calls Try.prog 22 #[.slice p n c, .slice q m d] w fun e w' => e = .returned (.bool (eqNB l l')) ∧ Below w.heap.size w w' := by
  have hroom := hx.room
  have HL : Hid (l.length = n) := hx.len
  have HM : Hid (l'.length = m) := hy.len
  by_cases hnm : n = m
  · subst hnm
    go_enter Try.func22, Try.ntmps22
    go_wp2
    go_loopw [13] (fun i wr => ∃ k : Nat, k ≤ n ∧ i = .int .i64 k ∧ (∀ j, j < k → enB (eN l j) (eN l' j) = true) ∧ Below w.heap.size w wr) (fun i _ => n - (intOf i).toNat)
    case atStart => exact ⟨0, Nat.zero_le _, rfl, fun j hj => absurd hj (Nat.not_lt_zero _), Below.refl _ _⟩
    case round =>
      obtain ⟨k, hk, rfl, hok, hbel⟩ := hrel
      have HOK : Hid (∀ j, j < k → enB (eN l j) (eN l' j) = true) := hok
      by_cases hlt : k < n
      · have hki : (k : Int) < (n : Int) := by omega
        obtain ⟨b, o, hpe, hbl, hc⟩ := (hx.below hbel).at' (by omega)
        subst hpe
        obtain ⟨b2, o2, hpe, hbl2, hc2⟩ := (hy.below hbel).at' (by omega)
        subst hpe
        obtain ⟨c0, c1, c2⟩ := hc k hlt
        obtain ⟨d0, d1, d2⟩ := hc2 k hlt
        have HF : Hid (enB (eN l k) (eN l' k) = false → eqNB l l' = false) := fun h => eqNB_no (by rw [HL.out]; exact hlt) (by rw [HM.out]; exact hlt) h
        have HT : Hid (enB (eN l k) (eN l' k) = true → ∀ j, j < k + 1 → enB (eN l j) (eN l' j) = true) := fun h j hj => by
          rcases Nat.lt_succ_iff_lt_or_eq.1 hj with h' | h'
          · exact HOK.out j h'
          · rw [h']; exact h
        clear hc hc2 hok
        generalize eN l k = D at *
        generalize eN l' k = E at *
        obtain ⟨a1, a2, a3⟩ := D
        obtain ⟨b1, b2', b3⟩ := E
        dsimp only at c0 c1 c2 d0 d1 d2
        by_cases z1 : a1 = b1
        · subst z1
          by_cases z2 : a2 = b2'
          · subst z2
            by_cases z3 : a3 = b3
            · subst z3
              have HT2 := HT.out (enB_iff.2 rfl)
              go_upto_region 6 with fail
              go_quiet (fail)
              go_wp2
              go_roundw
              case rel => exact ⟨k + 1, by omega, by go_num, HT2, below_drewN hbel _⟩
              case measure => simp [intOf]; omega
            · have HF2 : Hid (eqNB l l' = false) := HF.out (by simp [enB]; exact z3)
              go_upto_region 6 with fail
              go_quiet (fail)
              go_wp2
              go_ret
              exact ⟨ret_bool HF2.out.symm, below_drewN hbel _⟩
          · have HF2 : Hid (eqNB l l' = false) := HF.out (by simp [enB]; exact fun h => absurd h z2)
            go_upto_region 6 with fail
            go_quiet (fail)
            go_wp2
            go_ret
            exact ⟨ret_bool HF2.out.symm, below_drewN hbel _⟩
        · have HF2 : Hid (eqNB l l' = false) := HF.out (by simp [enB]; exact fun h => absurd h z1)
          go_upto_region 6 with fail
          go_quiet (fail)
          go_wp2
          go_ret
          exact ⟨ret_bool HF2.out.symm, below_drewN hbel _⟩
      · have hkn : ¬ (k : Int) < (n : Int) := by omega
        have HF2 : Hid (eqNB l l' = true) := eqNB_all (by rw [HL.out, HM.out]) fun j hj => HOK.out j (by rw [HL.out] at hj; omega)
        go_wp2
        go_ret
        exact ⟨ret_bool HF2.out.symm, hbel⟩
  · have hne : ((n : Int) != (m : Int)) = true := by rw [bne_iff_ne]; omega
    have HF2 : Hid (eqNB l l' = false) := eqNB_len (by rw [HL.out, HM.out]; exact hnm)
    go_enter Try.func22, Try.ntmps22
    go_wp2
    go_ret
    exact ⟨ret_bool HF2.out.symm, Below.refl _ _⟩
/-- The greatest name that fits. -/
def roomTo (rs : List Rc) : Int := rs.foldl (fun a r => max a (spareE r - 8)) 0
def roomE (xs : List Nat) : Int := min (roomTo (recsL xs)) 48
theorem roomTo_snoc (rs : List Rc) (r : Rc) : roomTo (rs ++ [r]) = max (roomTo rs) (spareE r - 8) := by simp [roomTo]
theorem recsL_ok {xs : List Nat} (hb : ∀ x ∈ xs, x < 256) : ∀ r ∈ recsL xs, RcOk r := by
  intro r hr
  unfold recsL at hr
  cases h : recsO xs with
  | none => rw [h] at hr; simp at hr
  | some rs => rw [h] at hr; exact recsO_ok hb h r hr
theorem recsL_count (xs : List Nat) : (recsL xs).length ≤ 32 := by
  unfold recsL
  cases h : recsO xs with
  | none => simp
  | some rs => exact recsO_count h
set_option linter.unusedSimpArgs false in
set_option linter.unusedVariables false in
set_option maxRecDepth 100000 in
set_option maxHeartbeats 8000000 in
theorem room_any (p : Option Addr) (n c : Nat) (xs : List Nat) (w : World) (hx : In w p n c xs) : Calls Try.prog 20 #[.slice p n c] w fun e w' => e = .returned (.int .i64 (roomE xs)) ∧ Below w.heap.size w w' := by
  have HOK : Hid (∀ r ∈ recsL xs, RcOk r) := recsL_ok hx.byte
  have hcnt := recsL_count xs
  have HR : Hid (roomE xs = min (roomTo (recsL xs)) 48) := rfl
  go_enter Try.func20, Try.ntmps20
  go_wp2_with (go_at_call 39; refine (recordsOf_any p n c xs _ hx).mono ?_; rintro e w1 ⟨v1, n1, rfl, ho1, hb1⟩; obtain ⟨q, d, hv1⟩ := owns_slice ho1; subst hv1)
  have hn1 : n1 ≤ 32 := by have := ho1.1; rw [flatR_length] at this; omega
  obtain ⟨q', d', hv, hi⟩ := in_of_ownsR ho1 (by omega)
  cases hv
  clear ho1
  generalize recsL xs = rs at *
  have HL : Hid (rs.length = n1) := hi.len
  go_loopw [5, 15] (fun v i wr => ∃ k : Nat, k ≤ n1 ∧ i = .int .i64 k ∧ v = .int .i64 (roomTo (rs.take k)) ∧ Below w.heap.size w wr ∧ Below w1.heap.size w1 wr) (fun _ i _ => n1 - (intOf i).toNat)
  case atStart => exact ⟨0, Nat.zero_le _, rfl, rfl, hb1, Below.refl _ _⟩
  case round =>
    obtain ⟨k, hk, rfl, rfl, hbk, hbk1⟩ := hrel
    by_cases hlt : k < n1
    · have hki : (k : Int) < (n1 : Int) := by omega
      obtain ⟨b, o, hpe, hbl, hc⟩ := (hi.below hbk1).at' (by omega)
      subst hpe
      obtain ⟨e0, e1, e2, e3, e4⟩ := hc k hlt
      have HT : Hid (roomTo (rs.take (k + 1)) = max (roomTo (rs.take k)) (spareE (eR rs k) - 8)) := by show _ = _; rw [takeR_succ rs k (by rw [HL.out]; exact hlt), roomTo_snoc]
      have hrk := HOK.out (eR rs k) (eR_mem (by rw [HL.out]; exact hlt))
      have hsp := fun W => spare_any (eR rs k) W (by have := hrk.len; omega) (by have := hrk.need; have := needE_ge (eR rs k).nm; omega) (by have := hrk.fit; have := hrk.pl; omega)
      have hsb := hrk.spare
      have hf := hrk.fit
      have hpl := hrk.pl
      clear hc hrk
      generalize eR rs k = r at *
      generalize spareE r = s at *
      have hs1 : -8 ≤ s - 8 ∧ s - 8 ≤ 256 := by omega
      clear hsb hf hpl
      generalize roomTo (rs.take k) = t at *
      go_wp2_with (go_at_call 42; refine (hsp _).mono ?_; rintro e w2 ⟨rfl, hb2⟩)
      go_roundw
      case rel => exact ⟨k + 1, by omega, by go_num, by rw [HT.out], hbk.trans ((bt (below_alloc wr _) hb2).mono hbk.size), hbk1.trans ((bt (below_alloc wr _) hb2).mono hbk1.size)⟩
      case measure => simp [intOf]; omega
    · have hkn : ¬ (k : Int) < (n1 : Int) := by omega
      have HE : Hid (rs.take k = rs) := List.take_of_length_le (by rw [HL.out]; omega)
      rw [HE.out]
      generalize roomTo rs = t at *
      go_wp2
      go_ret
      exact ⟨ret_int HR.out.symm, hbk⟩
end Go.Proofs.Ytikigfjdddgkpaa
