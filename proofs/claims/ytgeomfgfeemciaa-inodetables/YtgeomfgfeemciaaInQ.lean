/-
  Inodes' bytes part by part: the head, each of the root, zeros; and read so.
-/
import Derived.Test.YtgeomfgfeemciaaInP
namespace Go.Proofs.Ytgeomfgfeemciaa
open Go.RowKit
theorem bitAt_app (a b : List Nat) (j : Nat) : bitAt (a ++ b) j = if j < 8 * a.length then bitAt a j else bitAt b (j - 8 * a.length) := by
  unfold bitAt
  by_cases h : j < 8 * a.length
  · rw [if_pos h, List.getD_eq_getElem?_getD, List.getElem?_append_left (by omega), ← List.getD_eq_getElem?_getD]
  · rw [if_neg h, List.getD_eq_getElem?_getD, List.getElem?_append_right (by omega), ← List.getD_eq_getElem?_getD]
    rw [show j / 8 - a.length = (j - 8 * a.length) / 8 from by omega, show j % 8 = (j - 8 * a.length) % 8 from by omega]
theorem sumW_nonneg {ws : List Int} (h : widthOk ws = true) : sumW ws = (atW ws ws.length : Int) := by
  have := (atW_cast h ws.length (Nat.le_refl _)).1
  rwa [List.take_length] at this
theorem eI_left {a b : List Int} {i : Nat} (h : i < a.length) : eI (a ++ b) i = eI a i := by
  unfold eI; rw [List.getD_eq_getElem?_getD, List.getElem?_append_left h, ← List.getD_eq_getElem?_getD]
theorem eI_right {a b : List Int} {i : Nat} : eI (a ++ b) (a.length + i) = eI b i := by
  unfold eI; rw [List.getD_eq_getElem?_getD, List.getElem?_append_right (by omega), Nat.add_sub_cancel_left, ← List.getD_eq_getElem?_getD]
theorem atW_left {a b : List Int} {i : Nat} (h : i ≤ a.length) : atW (a ++ b) i = atW a i := by unfold atW; rw [List.take_append_of_le_length h]
theorem atW_right {a b : List Int} (ha : widthOk a = true) (hb : widthOk b = true) {i : Nat} (h : i ≤ b.length) : atW (a ++ b) (a.length + i) = atW a a.length + atW b i := by
  unfold atW
  rw [List.take_length_add_append, sumW_append, (atW_cast hb i h).1, sumW_nonneg ha, List.take_length, sumW_nonneg ha]
  omega
/-- What is packed in whole bytes may be packed part by part. -/
theorem pack_app {a b : List Int} {u v : List Nat} (ha : packOk a u = true) (hb : packOk b v = true) (hab : widthOk (a ++ b) = true) (h8 : atW a a.length = 8 * bytesW a) : packL (a ++ b) (u ++ v) = packL a u ++ packL b v := by
  have hwa : widthOk a = true := by unfold packOk at ha; exact (Bool.and_eq_true _ _ ▸ ha).1
  have hwb : widthOk b = true := by unfold packOk at hb; exact (Bool.and_eq_true _ _ ▸ hb).1
  have hfa : fitB a u = true := by unfold packOk at ha; exact (Bool.and_eq_true _ _ ▸ ha).2
  have hfb : fitB b v = true := by unfold packOk at hb; exact (Bool.and_eq_true _ _ ▸ hb).2
  have hok : packOk (a ++ b) (u ++ v) = true := by unfold packOk; rw [hab, Bool.true_and]; exact fitB_app hfa hfb
  have hlu : u.length = a.length := ((fitB_iff _ _).1 hfa).1.symm
  have hend : atW (a ++ b) (a ++ b).length = atW a a.length + atW b b.length := by rw [List.length_append]; exact atW_right hwa hwb (Nat.le_refl _)
  have hbytes : bytesW (a ++ b) = bytesW a + bytesW b := by
    unfold bytesW at *
    omega
  have hla := packL_length ha
  have hlb := packL_length hb
  have hlab := packL_length hok
  have ea : packL a u = packTo a u (List.replicate (bytesW a) 0) a.length := by unfold packL; rw [if_pos ha]
  have eb : packL b v = packTo b v (List.replicate (bytesW b) 0) b.length := by unfold packL; rw [if_pos hb]
  have eab : packL (a ++ b) (u ++ v) = packTo (a ++ b) (u ++ v) (List.replicate (bytesW (a ++ b)) 0) (a ++ b).length := by unfold packL; rw [if_pos hok]
  obtain ⟨A0, A1⟩ := packTo_bits hwa u a.length (Nat.le_refl _)
  obtain ⟨B0, B1⟩ := packTo_bits hwb v b.length (Nat.le_refl _)
  obtain ⟨C0, C1⟩ := packTo_bits hab (u ++ v) (a ++ b).length (Nat.le_refl _)
  refine bytes_ext (by rw [List.length_append, hla, hlb, hlab, hbytes]) (packL_byte _ _) (fun x hx => ?_) (fun j hj => ?_)
  · rcases List.mem_append.1 hx with h | h
    · exact packL_byte _ _ x h
    · exact packL_byte _ _ x h
  · rw [bitAt_app, hla]
    rw [eab]
    by_cases h1 : j < atW (a ++ b) (a ++ b).length
    · obtain ⟨i, hi, t, ht, rfl⟩ := seg hab _ (Nat.le_refl _) j h1
      rw [C1 i hi t ht]
      rcases Nat.lt_or_ge i a.length with hia | hia
      · have hm := atW_mono hwa (a.length - (i + 1)) (i + 1) (by omega)
        rw [show i + 1 + (a.length - (i + 1)) = a.length from by omega, (atW_succ hwa i hia).1] at hm
        rw [eI_left hia] at ht
        rw [atW_left (Nat.le_of_lt hia), if_pos (by omega), ea, A1 i hia t ht, eI_left hia, List.getD_eq_getElem?_getD, List.getElem?_append_left (by omega), ← List.getD_eq_getElem?_getD]
      · obtain ⟨i', rfl⟩ : ∃ i', i = a.length + i' := ⟨i - a.length, by omega⟩
        have hi' : i' < b.length := by rw [List.length_append] at hi; omega
        rw [eI_right] at ht
        rw [atW_right hwa hwb (Nat.le_of_lt hi'), if_neg (by omega), eb, show atW a a.length + atW b i' + t - 8 * bytesW a = atW b i' + t from by omega, B1 i' hi' t ht, eI_right, List.getD_eq_getElem?_getD, List.getElem?_append_right (by omega), ← List.getD_eq_getElem?_getD, hlu, Nat.add_sub_cancel_left]
    · rw [C0 j (by omega), if_neg (by omega), eb, B0 _ (by omega)]
theorem r_end : atW rW rW.length = 8 * bytesW rW := by decide +kernel
theorem h_end : atW hW hW.length = 8 * bytesW hW := by decide +kernel
def rP (e : Ext) : List Nat := packL rW (eV e)
theorem packR {x : Ino} (h : Fit x) (k : Nat) : packOk rW (eV (eE x.rt k)) = true := packR_ok h k
/-- The bytes of a root, one behind the other. -/
def rtP (l : List Ext) (k : Nat) : List Nat := (List.range k).flatMap fun i => rP (eE l i)
theorem rtP_succ (l : List Ext) (k : Nat) : rtP l (k + 1) = rtP l k ++ rP (eE l k) := by simp [rtP, List.range_succ]
theorem rP_len {x : Ino} (h : Fit x) (k : Nat) : (rP (eE x.rt k)).length = 9 := by unfold rP; rw [packL_length (packR h k), rW_bytes]
theorem rtP_len {x : Ino} (h : Fit x) (k : Nat) : (rtP x.rt k).length = 9 * k := by
  induction k with
  | zero => rfl
  | succ k ih => rw [rtP_succ, List.length_append, ih, rP_len h]; omega
theorem rP_zero : rP ⟨0, 0, 0⟩ = List.replicate 9 0 := by decide +kernel
theorem pack_parts {x : Ino} (h : Fit x) : packL wsI (vsI x) = packL hW (hV x) ++ rtP x.rt 4 := by
  have k3 := packR h 3
  have e2 : packL (rW ++ rW) (eV (eE x.rt 2) ++ eV (eE x.rt 3)) = rP (eE x.rt 2) ++ rP (eE x.rt 3) := pack_app (packR h 2) k3 (by decide +kernel) r_end
  have k2 : packOk (rW ++ rW) (eV (eE x.rt 2) ++ eV (eE x.rt 3)) = true := by
    unfold packOk; rw [show widthOk (rW ++ rW) = true from by decide +kernel, Bool.true_and]; exact fitB_app (fit_eV (h.rt 2)) (fit_eV (h.rt 3))
  have e1 : packL (rW ++ (rW ++ rW)) (eV (eE x.rt 1) ++ (eV (eE x.rt 2) ++ eV (eE x.rt 3))) = rP (eE x.rt 1) ++ packL (rW ++ rW) (eV (eE x.rt 2) ++ eV (eE x.rt 3)) := pack_app (packR h 1) k2 (by decide +kernel) r_end
  have k1 : packOk (rW ++ (rW ++ rW)) (eV (eE x.rt 1) ++ (eV (eE x.rt 2) ++ eV (eE x.rt 3))) = true := by
    unfold packOk; rw [show widthOk (rW ++ (rW ++ rW)) = true from by decide +kernel, Bool.true_and]; exact fitB_app (fit_eV (h.rt 1)) (fitB_app (fit_eV (h.rt 2)) (fit_eV (h.rt 3)))
  have e0 : packL (rW ++ (rW ++ (rW ++ rW))) (eV (eE x.rt 0) ++ (eV (eE x.rt 1) ++ (eV (eE x.rt 2) ++ eV (eE x.rt 3)))) = rP (eE x.rt 0) ++ packL (rW ++ (rW ++ rW)) (eV (eE x.rt 1) ++ (eV (eE x.rt 2) ++ eV (eE x.rt 3))) := pack_app (packR h 0) k1 (by decide +kernel) r_end
  have k0 : packOk (rW ++ (rW ++ (rW ++ rW))) (eV (eE x.rt 0) ++ (eV (eE x.rt 1) ++ (eV (eE x.rt 2) ++ eV (eE x.rt 3)))) = true := by
    unfold packOk; rw [show widthOk (rW ++ (rW ++ (rW ++ rW))) = true from by decide +kernel, Bool.true_and]; exact fitB_app (fit_eV (h.rt 0)) (fitB_app (fit_eV (h.rt 1)) (fitB_app (fit_eV (h.rt 2)) (fit_eV (h.rt 3))))
  have e : packL wsI (vsI x) = packL hW (hV x) ++ packL (rW ++ (rW ++ (rW ++ rW))) (eV (eE x.rt 0) ++ (eV (eE x.rt 1) ++ (eV (eE x.rt 2) ++ eV (eE x.rt 3)))) := pack_app (packH_ok h) k0 wsI_ok h_end
  rw [e, e0, e1, e2]
  show _ = packL hW (hV x) ++ (rP (eE x.rt 0) ++ (rP (eE x.rt 1) ++ (rP (eE x.rt 2) ++ (rP (eE x.rt 3) ++ []))))
  rw [List.append_nil]
/-- An inode's bytes, as the reference makes them. -/
theorem enc_parts {x : Ino} (h : inoB x = true) : encL x = packL hW (hV x) ++ rtP x.rt x.rt.length ++ List.replicate (40 - 9 * x.rt.length) 0 := by
  have f := Fit.of h
  have h4 := f.len
  rw [encL_ok h, pack_parts f]
  have key : ∀ d k, k + d = 4 → x.rt.length ≤ k → rtP x.rt 4 = rtP x.rt k ++ List.replicate (9 * d) 0 := by
    intro d
    induction d with
    | zero => intro k hk _; rw [show k = 4 from by omega]; simp
    | succ d ih =>
      intro k hk hl
      rw [ih (k + 1) (by omega) (by omega), rtP_succ, eE_far hl, rP_zero, List.append_assoc, List.replicate_append_replicate]
      congr 2; omega
  rw [key (4 - x.rt.length) x.rt.length (by omega) (Nat.le_refl _)]
  rw [List.append_assoc, List.append_assoc, List.append_assoc, List.replicate_append_replicate]
  congr 3; omega
end Go.Proofs.Ytgeomfgfeemciaa
