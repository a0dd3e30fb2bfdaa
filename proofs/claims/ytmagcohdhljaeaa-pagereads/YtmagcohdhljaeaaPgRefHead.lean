/-
  What the reference's header answers: the same 28 bytes.
-/
import Derived.Test.YtmagcohdhljaeaaPgRef
namespace Go.Proofs.Ytmagcohdhljaeaa
open Go.RowKit
/-- The widths of the fields that are named. -/
def ws5 : List Int := [8, 8, 32, 64, 64]
theorem ws5_ok : widthOk ws5 = true := by decide +kernel
theorem ws5_bytes : bytesW ws5 = 22 := by decide +kernel
theorem bitAt_left (A B : List Nat) (j : Nat) (h : j < 8 * A.length) : bitAt (A ++ B) j = bitAt A j := by
  unfold bitAt
  rw [show (A ++ B).getD (j / 8) 0 = A.getD (j / 8) 0 from by simp [List.getElem?_append, show j / 8 < A.length by omega]]
theorem bitAt_right0 (A : List Nat) (m j : Nat) (h : 8 * A.length ≤ j) : bitAt (A ++ List.replicate m 0) j = false := by
  have e : (A ++ List.replicate m 0).getD (j / 8) 0 = 0 := by
    rw [List.getD_eq_getElem?_getD, List.getElem?_append_right (by omega)]
    by_cases hh : j / 8 - A.length < m
    · simp [hh]
    · simp [hh]
  unfold bitAt
  rw [e, Nat.zero_testBit]
theorem getN_left (A B : List Nat) (p w : Nat) (h : p + w ≤ 8 * A.length) : getN (A ++ B) p w = getN A p w :=
  getN_of_bits _ _ _ _ (getN_lt A p w) fun t ht => by rw [bitAt_left A B (p + t) (by omega), getN_bit A p w t ht]
theorem getN_right0 (A : List Nat) (m p w : Nat) (h : 8 * A.length ≤ p) : getN (A ++ List.replicate m 0) p w = 0 :=
  getN_of_bits _ _ _ _ (Nat.two_pow_pos w) fun t ht => by rw [bitAt_right0 A m (p + t) (by omega), Nat.zero_testBit]
def headV5 (k g s t : Int) : List Nat := [k.toNat, 0, g.toNat, s.toNat, t.toNat]
theorem head5_ok {k g s t : Int} (h : chkB k g s t = true) : packOk ws5 (headV5 k g s t) = true := by
  have hc := chkB_iff.1 h
  unfold packOk
  rw [ws5_ok, Bool.true_and, fitB_iff]
  refine ⟨rfl, fun i hi => ?_⟩
  have hi' : i < 5 := hi
  have : i = 0 ∨ i = 1 ∨ i = 2 ∨ i = 3 ∨ i = 4 := by omega
  rcases this with rfl | rfl | rfl | rfl | rfl
  · show k.toNat < 2 ^ 8; omega
  · show 0 < 2 ^ 8; decide
  · show g.toNat < 2 ^ 32; omega
  · show s.toNat < 2 ^ 64; omega
  · show t.toNat < 2 ^ 64; omega
theorem pack5_length {vs : List Nat} (h : packOk ws5 vs = true) : (packL ws5 vs).length = 22 := by
  unfold packL; rw [if_pos h, packTo_length, List.length_replicate, ws5_bytes]
theorem pack5_byte {vs : List Nat} (h : packOk ws5 vs = true) : ∀ x ∈ packL ws5 vs, x < 256 := by
  unfold packL; rw [if_pos h]; exact packTo_byte (fun x hx => by rw [List.eq_of_mem_replicate hx]; decide) _
/-- The fields that stand in the first 22 bytes. -/
theorem vals5 (A B : List Nat) (hA : A.length = 22) : ∀ i, i < 5 → (valsTo wsH (A ++ B) 6).getD i 0 = (valsTo ws5 A 5).getD i 0 := by
  intro i hi
  have e1 := valsTo_getD wsH (A ++ B) i (show i < 6 by omega)
  have e2 := valsTo_getD ws5 A i hi
  rw [show (valsTo wsH (A ++ B) 6) = valsTo wsH (A ++ B) wsH.length from rfl, e1, show (valsTo ws5 A 5) = valsTo ws5 A ws5.length from rfl, e2]
  have : i = 0 ∨ i = 1 ∨ i = 2 ∨ i = 3 ∨ i = 4 := by omega
  rcases this with rfl | rfl | rfl | rfl | rfl
  · exact getN_left A B 0 8 (by omega)
  · exact getN_left A B 8 8 (by omega)
  · exact getN_left A B 16 32 (by omega)
  · exact getN_left A B 48 64 (by omega)
  · exact getN_left A B 112 64 (by omega)
theorem six {l : List Nat} (h : l.length = 6) : l = [l.getD 0 0, l.getD 1 0, l.getD 2 0, l.getD 3 0, l.getD 4 0, l.getD 5 0] := by
  match l, h with
  | [a, b, c, d, e, f], _ => rfl
theorem head_same {k g s t : Int} (h : chkB k g s t = true) : packL ws5 (headV5 k g s t) ++ List.replicate 6 0 = headL k g s t := by
  have h5 := head5_ok h
  have hl := pack5_length h5
  have hth := there h5
  have hlen : (packL ws5 (headV5 k g s t) ++ List.replicate 6 0).length = 28 := by rw [List.length_append, hl, List.length_replicate]
  have hb : ∀ x ∈ packL ws5 (headV5 k g s t) ++ List.replicate 6 0, x < 256 := by
    intro x hx
    rcases List.mem_append.1 hx with h' | h'
    · exact pack5_byte h5 x h'
    · rw [List.eq_of_mem_replicate h']; decide
  have hu : unpackL wsH (packL ws5 (headV5 k g s t) ++ List.replicate 6 0) = headV k g s t := by
    have hv5 : valsTo ws5 (packL ws5 (headV5 k g s t)) 5 = headV5 k g s t := by
      have e : unpackL ws5 (packL ws5 (headV5 k g s t)) = valsTo ws5 (packL ws5 (headV5 k g s t)) 5 := by
        unfold unpackL; rw [if_pos hth.1]; rfl
      rw [← e]; exact hth.2
    rw [head_unpackL hlen]
    have hl6 : (valsTo wsH (packL ws5 (headV5 k g s t) ++ List.replicate 6 0) 6).length = 6 := valsTo_length _ _ _
    have h5' : (valsTo wsH (packL ws5 (headV5 k g s t) ++ List.replicate 6 0) 6).getD 5 0 = 0 := by
      have e1 := valsTo_getD wsH (packL ws5 (headV5 k g s t) ++ List.replicate 6 0) 5 (by decide)
      rw [show (valsTo wsH (packL ws5 (headV5 k g s t) ++ List.replicate 6 0) 6) = valsTo wsH (packL ws5 (headV5 k g s t) ++ List.replicate 6 0) wsH.length from rfl, e1]
      exact getN_right0 _ 6 176 48 (by omega)
    rw [six hl6, vals5 _ _ hl 0 (by decide), vals5 _ _ hl 1 (by decide), vals5 _ _ hl 2 (by decide), vals5 _ _ hl 3 (by decide), vals5 _ _ hl 4 (by decide), h5', hv5]
    rfl
  have hab := (andBack hb (head_unpackE hlen)).2
  rw [hu] at hab
  exact hab.symm
/-- How many elements a slice has. -/
def sliceLen : Value → Nat
  | .slice _ n _ => n
  | _ => 0
theorem zero_snoc (X : List Nat) (k : Nat) : vals (X ++ List.replicate k 0) ++ [.int .u8 0] = vals (X ++ List.replicate (k + 1) 0) := by
  rw [List.replicate_succ', ← List.append_assoc, vals_append (X ++ List.replicate k 0)]
  rfl
set_option maxRecDepth 100000 in
set_option maxHeartbeats 4000000 in
theorem qheader_ok (k g s t : Nat) (w : World) (hok : chkB k g s t = true) :
    Calls Try.prog 35 #[.agg #[.int .i64 k, .int .i64 g, .int .i64 s, .int .i64 t]] w fun e w' => ∃ p c, e = .returned (.slice p 28 c) ∧ In w' p 28 c (headL k g s t) ∧ Below w.heap.size w w' := by
  obtain ⟨i0, hi, hz0, hz1, hz2⟩ := info_parts info5
  have b0 := Blk.new' w 23 #[.int .i64 k, .int .i64 g, .int .i64 s, .int .i64 t]
  have hbel := below_alloc w (.cells #[.int .i64 k, .int .i64 g, .int .i64 s, .int .i64 t] 23)
  have HOK : Hid (chkB k g s t = true) := hok
  have hv : headV5 (k : Int) (g : Int) (s : Int) (t : Int) = [k, 0, g, s, t] := by simp [headV5]
  have HP : Hid (packE ws5 [k, 0, g, s, t] = 0) := by
    show _ = _
    have h1 := head5_ok hok
    rw [hv] at h1
    unfold packE; rw [h1]; rfl
  have HL : Hid ((packL ws5 [k, 0, g, s, t]).length = 22) := by
    show _ = _
    have h1 := head5_ok hok
    rw [hv] at h1
    exact pack5_length h1
  have HS : Hid (packL ws5 [k, 0, g, s, t] ++ List.replicate 6 0 = headL k g s t) := by
    show _ = _
    have := head_same hok
    rwa [hv] at this
  have HW : Hid (IntKind.u64.wrap (k : Int) = (k : Int) ∧ IntKind.u64.wrap (g : Int) = (g : Int) ∧ IntKind.u64.wrap (s : Int) = (s : Int) ∧ IntKind.u64.wrap (t : Int) = (t : Int)) := wrap4 hok
  have HM : Hid (∀ x ∈ [k, 0, g, s, t], x < 18446744073709551616) := fun x hx => lim4 hok x (by simp only [List.mem_cons, List.not_mem_nil, or_false] at hx ⊢; omega)
  clear hok hv
  go_enter Try.func35, Try.ntmps35
  go_wp2_with fail
  rw [HW.out.1, HW.out.2.1, HW.out.2.2.1, HW.out.2.2.2]
  have hI := (in_litI (w.alloc (.cells #[.int .i64 k, .int .i64 g, .int .i64 s, .int .i64 t] 23)) (cs := #[.int .i64 8, .int .i64 8, .int .i64 32, .int .i64 64, .int .i64 64]) (xs := ws5) (n := 5) rfl rfl (by decide)).below (below_alloc _ (Obj.cells #[.int .u64 k, .int .u64 0, .int .u64 g, .int .u64 s, .int .u64 t] 58))
  have h64 := in_lit64 ((w.alloc (.cells #[.int .i64 k, .int .i64 g, .int .i64 s, .int .i64 t] 23)).alloc (.cells #[.int .i64 8, .int .i64 8, .int .i64 32, .int .i64 64, .int .i64 64] 3)) (cs := #[.int .u64 k, .int .u64 0, .int .u64 g, .int .u64 s, .int .u64 t]) (xs := [k, 0, g, s, t]) (n := 5) rfl rfl HM.out (by decide)
  simp only [World.size_alloc] at hI h64
  refine (refPack_owns _ _ 5 5 5 5 ws5 [k, 0, g, s, t] _ hI h64).mono ?_
  rintro e w1 ⟨v1, n1, rfl, hown1, hby1, hn1, hb1⟩
  rw [HP.out]
  have hB1 : Below w.heap.size w w1 := bt (((below_alloc w _).alloc (by simp) _).alloc (by simp; omega) _) hb1
  have e1 : n1 = 22 := by have := hown1.1; rw [vals_length, HL.out] at this; omega
  subst e1
  have hBs := hb1.size
  clear hI h64 hb1 b0 hbel
  generalize hB : (((w.alloc (.cells #[.int .i64 k, .int .i64 g, .int .i64 s, .int .i64 t] 23)).alloc (.cells #[.int .i64 8, .int .i64 8, .int .i64 32, .int .i64 64, .int .i64 64] 3)).alloc (.cells #[.int .u64 k, .int .u64 0, .int .u64 g, .int .u64 s, .int .u64 t] 58)).heap.size = B at *
  have hwB : w.heap.size ≤ B := by rw [← hB]; simp; omega
  clear hB
  generalize hX : packL ws5 [k, 0, g, s, t] = X at *
  clear hX
  go_wp2
  go_loopw [3] (fun v wr => ∃ j : Nat, j ≤ 6 ∧ wr.ownsRow B 5 1 v (22 + j) (vals (X ++ List.replicate j 0)) ∧ Below w.heap.size w wr ∧ B ≤ wr.heap.size) (fun v _ => 28 - sliceLen v)
  case atStart => exact ⟨0, by omega, by simpa using hown1, hB1, hBs⟩
  case round =>
    clear hown1 hB1 hBs
    obtain ⟨j, hj, hown, hbl, hsz⟩ := hrel
    obtain ⟨p2, c2, rfl⟩ := owns_slice hown
    by_cases hlt : j < 6
    · have hd : ((22 + j : Nat) : Int) < 28 := by omega
      go_wp2_with (at_builtin; refine wpList_append_own _ rfl (.tmp 26) (.tmp 27) 24 rfl B 5 i0 (.int .u8 0) 1 1 Try.underlying24 hi hz0 hz1 hz2 rfl (by decide) _ (22 + j) _ rfl (hown.alloc _) ⟨wr.heap.size, 0, none⟩ 1 1 [.int .u8 0] rfl rfl (one_cell_at _ _) (by intro u hu; simp at hu; subst hu; rfl) (by unfold maxLen; omega) (by omega) (by simp; omega) ?_; intro v3 w3 hown3 hgrow3 _; rw [zero_snoc] at hown3; have hb3 : Below w.heap.size w w3 := (hbl.alloc hbl.size _).grown hgrow3 (by have := hbl.size; simp; omega) (fun q hq => by have := (hown.lt q hq).1; omega); have hs3 : B ≤ w3.heap.size := Nat.le_trans hsz (Nat.le_trans (by simp) hgrow3.size))
      obtain ⟨p3, c3, rfl⟩ := owns_slice hown3
      go_roundw
      case rel => exact ⟨j + 1, by omega, hown3, hb3, hs3⟩
      case measure => simp [sliceLen]; omega
    · have hj6 : j = 6 := by omega
      subst hj6
      rw [HS.out] at hown
      go_wp2
      go_ret
      obtain ⟨p4, c4, hv, hin⟩ := in_of_owns hown (headL_byte HOK.out) (by omega)
      exact ⟨p4, c4, congrArg Ending.returned hv, hin, hbl⟩
theorem qheader_any (k g s t : Int) (w : World) (hok : chkB k g s t = true) :
    Calls Try.prog 35 #[.agg #[.int .i64 k, .int .i64 g, .int .i64 s, .int .i64 t]] w fun e w' => ∃ p c, e = .returned (.slice p 28 c) ∧ In w' p 28 c (headL k g s t) ∧ Below w.heap.size w w' := by
  have hc := chkB_iff.1 hok
  obtain ⟨k', rfl⟩ := Int.eq_ofNat_of_zero_le (show 0 ≤ k by omega)
  obtain ⟨g', rfl⟩ := Int.eq_ofNat_of_zero_le (show 0 ≤ g by omega)
  obtain ⟨s', rfl⟩ := Int.eq_ofNat_of_zero_le (show 0 ≤ s by omega)
  obtain ⟨t', rfl⟩ := Int.eq_ofNat_of_zero_le (show 0 ≤ t by omega)
  exact qheader_ok k' g' s' t' w hok
end Go.Proofs.Ytmagcohdhljaeaa
