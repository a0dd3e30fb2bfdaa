/-
  Inodes as plain data: which may be, their bytes, the inode of bytes, there and back.
-/
import Derived.Test.YtgeomfgfeemciaaXtP
import Derived.Test.YtgeomfgfeemciaaFields
namespace Go.Proofs.Ytgeomfgfeemciaa
open Go.RowKit
structure Ino where
  kd : Int
  lk : Int
  sz : Int
  nx : Int
  ge : Int
  dp : Int
  rt : List Ext
abbrev Ino.val (x : Ino) (p : Option Addr) (n c : Nat) : Value := .agg #[.int .i64 x.kd, .int .i64 x.lk, .int .i64 x.sz, .int .i64 x.nx, .int .i64 x.ge, .int .i64 x.dp, .slice p n c]
def inB (a l h : Int) : Bool := decide (l ≤ a ∧ a ≤ h)
theorem inB_iff {a l h : Int} : inB a l h = true ↔ l ≤ a ∧ a ≤ h := by simp [inB]
def numB (x : Ino) : Bool := inB x.lk 0 1000 && inB x.sz 0 16777216 && inB x.nx 0 65536 && inB x.ge 0 4294967295 && inB x.dp 0 2
/-- Entry k of a tree's root may stand there. -/
def entAt (l : List Ext) (k : Nat) : Bool := inB (eE l k).lo 0 65535 && ((eE l k).ln == 0) && inB (eE l k).ph 1 8191 && (k == 0 || decide ((eE l (k - 1)).lo < (eE l k).lo))
def entsB (l : List Ext) : Bool := (List.range l.length).all (entAt l)
theorem entsB_iff {l : List Ext} : entsB l = true ↔ ∀ k, k < l.length → entAt l k = true := by simp [entsB]
theorem entsB_no {l : List Ext} {k : Nat} (hk : k < l.length) (h : entAt l k = false) : entsB l = false := by
  cases hh : entsB l with
  | false => rfl
  | true => rw [entsB_iff.1 hh k hk] at h; cases h
def rootB (x : Ino) : Bool := decide (x.rt.length ≤ 4) && (if x.dp = 0 then chkB x.rt else decide (0 < x.rt.length) && entsB x.rt)
def zeroB (x : Ino) : Bool := (x.lk == 0) && (x.sz == 0) && (x.nx == 0) && (x.dp == 0) && (x.rt.length == 0)
def kindB (x : Ino) : Bool := if x.kd = 0 then zeroB x else if x.kd = 1 then true else if x.kd = 2 then x.sz % 256 == 0 else false
def inoB (x : Ino) : Bool := numB x && rootB x && kindB x
/-- 140 is ErrInode. -/
def inoE (x : Ino) : Int := if inoB x = true then 0 else 140
theorem inoE_ok {x : Ino} (h : inoB x = true) : inoE x = 0 := by simp [inoE, h]
theorem inoE_no {x : Ino} (h : inoB x = false) : inoE x = 140 := by simp [inoE, h]
structure Fit (x : Ino) : Prop where
  kd : 0 ≤ x.kd ∧ x.kd ≤ 2
  lk : 0 ≤ x.lk ∧ x.lk ≤ 1000
  sz : 0 ≤ x.sz ∧ x.sz ≤ 16777216
  nx : 0 ≤ x.nx ∧ x.nx ≤ 65536
  ge : 0 ≤ x.ge ∧ x.ge ≤ 4294967295
  dp : 0 ≤ x.dp ∧ x.dp ≤ 2
  len : x.rt.length ≤ 4
  rt : ∀ k, 0 ≤ (eE x.rt k).lo ∧ (eE x.rt k).lo ≤ 65535 ∧ 0 ≤ (eE x.rt k).ln ∧ (eE x.rt k).ln ≤ 4096 ∧ 0 ≤ (eE x.rt k).ph ∧ (eE x.rt k).ph ≤ 8191
theorem numB_iff {x : Ino} : numB x = true ↔ (0 ≤ x.lk ∧ x.lk ≤ 1000) ∧ (0 ≤ x.sz ∧ x.sz ≤ 16777216) ∧ (0 ≤ x.nx ∧ x.nx ≤ 65536) ∧ (0 ≤ x.ge ∧ x.ge ≤ 4294967295) ∧ (0 ≤ x.dp ∧ x.dp ≤ 2) := by
  unfold numB; simp only [Bool.and_eq_true, inB_iff]; constructor
  · rintro ⟨⟨⟨⟨a, b⟩, c⟩, d⟩, e⟩; exact ⟨a, b, c, d, e⟩
  · rintro ⟨a, b, c, d, e⟩; exact ⟨⟨⟨⟨a, b⟩, c⟩, d⟩, e⟩
theorem eE_far {l : List Ext} {k : Nat} (h : l.length ≤ k) : eE l k = ⟨0, 0, 0⟩ := by simp [eE, h]
theorem Fit.of {x : Ino} (h : inoB x = true) : Fit x := by
  unfold inoB at h
  simp only [Bool.and_eq_true] at h
  obtain ⟨⟨h1, h2⟩, h3⟩ := h
  obtain ⟨a, b, c, d, e⟩ := numB_iff.1 h1
  unfold rootB at h2
  simp only [Bool.and_eq_true, decide_eq_true_eq] at h2
  refine ⟨?_, a, b, c, d, e, h2.1, fun k => ?_⟩
  · unfold kindB at h3
    split at h3
    · omega
    · split at h3
      · omega
      · split at h3
        · omega
        · cases h3
  · rcases Nat.lt_or_ge k x.rt.length with hk | hk
    · have hr := h2.2
      split at hr
      · have := oneB_iff.1 (chk_one hr hk)
        omega
      · simp only [Bool.and_eq_true, decide_eq_true_eq] at hr
        have := entsB_iff.1 hr.2 k hk
        unfold entAt at this
        simp only [Bool.and_eq_true, inB_iff, beq_iff_eq] at this
        omega
    · rw [eE_far hk]; decide
def eV (e : Ext) : List Nat := [e.lo.toNat, e.ln.toNat, e.ph.toNat]
def hW : List Int := [8, 8, 8, 8, 32, 64, 32, 32]
def rW : List Int := [24, 16, 32]
def wsI : List Int := hW ++ (rW ++ (rW ++ (rW ++ rW)))
def hV (x : Ino) : List Nat := [x.kd.toNat, x.dp.toNat, x.rt.length, 0, x.lk.toNat, x.sz.toNat, x.nx.toNat, x.ge.toNat]
def vsI (x : Ino) : List Nat := hV x ++ (eV (eE x.rt 0) ++ (eV (eE x.rt 1) ++ (eV (eE x.rt 2) ++ eV (eE x.rt 3))))
theorem wsI_ok : widthOk wsI = true := by decide +kernel
theorem wsI_bytes : bytesW wsI = 60 := by decide +kernel
theorem wsI_len : wsI.length = 20 := rfl
theorem hW_ok : widthOk hW = true := by decide +kernel
theorem rW_ok : widthOk rW = true := by decide +kernel
theorem hW_bytes : bytesW hW = 24 := by decide +kernel
theorem rW_bytes : bytesW rW = 9 := by decide +kernel
theorem fitB_app {a b : List Int} {u v : List Nat} (ha : fitB a u = true) (hb : fitB b v = true) : fitB (a ++ b) (u ++ v) = true := by
  rw [fitB_iff] at *
  refine ⟨by simp [ha.1, hb.1], fun i hi => ?_⟩
  rcases Nat.lt_or_ge i a.length with h | h
  · have := ha.2 i h
    unfold eI at *
    rw [List.getD_eq_getElem?_getD, List.getElem?_append_left (by rw [← ha.1]; exact h), ← List.getD_eq_getElem?_getD, List.getD_eq_getElem?_getD (l := a ++ b), List.getElem?_append_left h, ← List.getD_eq_getElem?_getD]
    exact this
  · have := hb.2 (i - a.length) (by rw [List.length_append] at hi; omega)
    unfold eI at *
    rw [List.getD_eq_getElem?_getD, List.getElem?_append_right (by rw [← ha.1]; exact h), ← List.getD_eq_getElem?_getD, List.getD_eq_getElem?_getD (l := a ++ b), List.getElem?_append_right h, ← List.getD_eq_getElem?_getD, ← ha.1]
    exact this
theorem fit_eV {e : Ext} (h : 0 ≤ e.lo ∧ e.lo ≤ 65535 ∧ 0 ≤ e.ln ∧ e.ln ≤ 4096 ∧ 0 ≤ e.ph ∧ e.ph ≤ 8191) : fitB rW (eV e) = true := by
  rw [fitB_iff]
  refine ⟨rfl, fun i hi => ?_⟩
  match i, hi with
  | 0, _ => show e.lo.toNat < 16777216; omega
  | 1, _ => show e.ln.toNat < 65536; omega
  | 2, _ => show e.ph.toNat < 4294967296; omega
theorem fit_hV {x : Ino} (h : Fit x) : fitB hW (hV x) = true := by
  obtain ⟨h1, h2, h3, h4, h5, h6, h7, _⟩ := h
  rw [fitB_iff]
  refine ⟨rfl, fun i hi => ?_⟩
  match i, hi with
  | 0, _ => show x.kd.toNat < 256; omega
  | 1, _ => show x.dp.toNat < 256; omega
  | 2, _ => show x.rt.length < 256; omega
  | 3, _ => show 0 < 256; omega
  | 4, _ => show x.lk.toNat < 4294967296; omega
  | 5, _ => show x.sz.toNat < 18446744073709551616; omega
  | 6, _ => show x.nx.toNat < 4294967296; omega
  | 7, _ => show x.ge.toNat < 4294967296; omega
theorem packI_ok {x : Ino} (h : Fit x) : packOk wsI (vsI x) = true := by
  unfold packOk
  rw [wsI_ok, Bool.true_and]
  exact fitB_app (fit_hV h) (fitB_app (fit_eV (h.rt 0)) (fitB_app (fit_eV (h.rt 1)) (fitB_app (fit_eV (h.rt 2)) (fit_eV (h.rt 3)))))
theorem packH_ok {x : Ino} (h : Fit x) : packOk hW (hV x) = true := by unfold packOk; rw [hW_ok, Bool.true_and]; exact fit_hV h
theorem packR_ok {x : Ino} (h : Fit x) (k : Nat) : packOk rW (eV (eE x.rt k)) = true := by unfold packOk; rw [rW_ok, Bool.true_and]; exact fit_eV (h.rt k)
theorem packL_length {ws : List Int} {vs : List Nat} (h : packOk ws vs = true) : (packL ws vs).length = bytesW ws := by
  unfold packL; rw [if_pos h, packTo_length, List.length_replicate]
theorem packL_byte (ws : List Int) (vs : List Nat) : ∀ x ∈ packL ws vs, x < 256 := by
  unfold packL
  split
  · exact packTo_byte (fun x hx => by rw [List.eq_of_mem_replicate hx]; decide) _
  · simp
theorem vsI_lim {x : Ino} (h : Fit x) : ∀ v ∈ vsI x, v < 18446744073709551616 := by
  obtain ⟨h1, h2, h3, h4, h5, h6, h7, h8⟩ := h
  have a := h8 0
  have b := h8 1
  have c := h8 2
  have d := h8 3
  intro v hv
  simp only [vsI, hV, eV, List.mem_append, List.mem_cons, List.not_mem_nil, or_false] at hv
  rcases hv with (h | h | h | h | h | h | h | h) | (h | h | h) | (h | h | h) | (h | h | h) | (h | h | h) <;> omega
theorem vsI_len (x : Ino) : (vsI x).length = 20 := rfl
/-- The bytes of an inode. -/
def encL (x : Ino) : List Nat := if inoB x = true then packL wsI (vsI x) ++ List.replicate 4 0 else []
theorem encL_ok {x : Ino} (h : inoB x = true) : encL x = packL wsI (vsI x) ++ List.replicate 4 0 := by unfold encL; rw [if_pos h]
theorem encL_no {x : Ino} (h : inoB x = false) : encL x = [] := by unfold encL; rw [h]; rfl
theorem packI_len {x : Ino} (h : inoB x = true) : (packL wsI (vsI x)).length = 60 := by rw [packL_length (packI_ok (Fit.of h)), wsI_bytes]
theorem encL_len {x : Ino} (h : inoB x = true) : (encL x).length = 64 := by rw [encL_ok h, List.length_append, packI_len h, List.length_replicate]
theorem encL_byte (x : Ino) : ∀ b ∈ encL x, b < 256 := by
  unfold encL
  split
  · intro b hb
    rcases List.mem_append.1 hb with h | h
    · exact packL_byte _ _ b h
    · rw [List.eq_of_mem_replicate h]; decide
  · simp
/-- The fields of an inode's bytes. -/
def fI (xs : List Nat) (i : Nat) : Nat := getN (xs.take 60) (atW wsI i) (eI wsI i).toNat
def rdE (xs : List Nat) (i : Nat) : Ext := ⟨(fI xs (8 + 3 * i) : Int), (fI xs (9 + 3 * i) : Int), (fI xs (10 + 3 * i) : Int)⟩
def rdI (xs : List Nat) : Ino := ⟨(fI xs 0 : Int), (fI xs 4 : Int), IntKind.i64.wrap (fI xs 5 : Int), (fI xs 6 : Int), (fI xs 7 : Int), (fI xs 1 : Int), (List.range (min (fI xs 2) 4)).map (rdE xs)⟩
def decB (xs : List Nat) : Bool := (xs.length == 64) && inoB (rdI xs) && (encL (rdI xs) == xs)
def zeroI : Ino := ⟨0, 0, 0, 0, 0, 0, []⟩
def decI (xs : List Nat) : Ino := if decB xs = true then rdI xs else zeroI
def decE (xs : List Nat) : Int := if decB xs = true then 0 else 140
theorem decI_ok {xs : List Nat} (h : decB xs = true) : decI xs = rdI xs := by simp [decI, h]
theorem decI_no {xs : List Nat} (h : decB xs = false) : decI xs = zeroI := by simp [decI, h]
theorem decE_ok {xs : List Nat} (h : decB xs = true) : decE xs = 0 := by simp [decE, h]
theorem decE_no {xs : List Nat} (h : decB xs = false) : decE xs = 140 := by simp [decE, h]
theorem fI_enc {x : Ino} (h : inoB x = true) (i : Nat) (hi : i < 20) : fI (encL x) i = (vsI x).getD i 0 := by
  unfold fI
  rw [encL_ok h, List.take_left' (packI_len h)]
  have t := there (packI_ok (Fit.of h))
  have u := t.2
  unfold unpackL at u
  rw [if_pos t.1] at u
  have := valsTo_getD wsI (packL wsI (vsI x)) i (by rw [wsI_len]; exact hi)
  rw [u] at this
  exact this.symm
theorem wrapI (n : Nat) (h : n < 9223372036854775808) : IntKind.i64.wrap (n : Int) = (n : Int) := by rw [IntKind.wrap_i64]; omega
theorem eE_ext {l m : List Ext} (hl : l.length = m.length) (h : ∀ k, k < l.length → eE l k = eE m k) : l = m := by
  refine List.ext_getElem hl fun i h1 h2 => ?_
  have := h i h1
  simpa [eE, h1, h2] using this
theorem rdI_enc {x : Ino} (h : inoB x = true) : rdI (encL x) = x := by
  have f := Fit.of h
  have e := fun i hi => fI_enc h i hi
  have hr : (List.range (min (fI (encL x) 2) 4)).map (rdE (encL x)) = x.rt := by
    have hm : min (fI (encL x) 2) 4 = x.rt.length := by rw [e 2 (by decide)]; exact Nat.min_eq_left f.len
    rw [hm]
    refine eE_ext (by simp) fun k hk => ?_
    have hk' : k < x.rt.length := by simpa using hk
    have h4 := f.len
    have hb := f.rt k
    have : eE ((List.range x.rt.length).map (rdE (encL x))) k = rdE (encL x) k := by simp [eE, hk']
    rw [this]
    unfold rdE
    rw [e (8 + 3 * k) (by omega), e (9 + 3 * k) (by omega), e (10 + 3 * k) (by omega)]
    have g : (vsI x).getD (8 + 3 * k) 0 = (eE x.rt k).lo.toNat ∧ (vsI x).getD (9 + 3 * k) 0 = (eE x.rt k).ln.toNat ∧ (vsI x).getD (10 + 3 * k) 0 = (eE x.rt k).ph.toNat := by
      match k, (show k < 4 by omega) with
      | 0, _ => exact ⟨rfl, rfl, rfl⟩
      | 1, _ => exact ⟨rfl, rfl, rfl⟩
      | 2, _ => exact ⟨rfl, rfl, rfl⟩
      | 3, _ => exact ⟨rfl, rfl, rfl⟩
    rw [g.1, g.2.1, g.2.2, Int.toNat_of_nonneg hb.1, Int.toNat_of_nonneg hb.2.2.1, Int.toNat_of_nonneg hb.2.2.2.2.1]
  unfold rdI
  rw [hr, e 0 (by decide), e 4 (by decide), e 5 (by decide), e 6 (by decide), e 7 (by decide), e 1 (by decide)]
  show (⟨(x.kd.toNat : Int), (x.lk.toNat : Int), IntKind.i64.wrap (x.sz.toNat : Int), (x.nx.toNat : Int), (x.ge.toNat : Int), (x.dp.toNat : Int), x.rt⟩ : Ino) = x
  have hz := f.sz
  rw [wrapI _ (by omega), Int.toNat_of_nonneg f.kd.1, Int.toNat_of_nonneg f.lk.1, Int.toNat_of_nonneg f.sz.1, Int.toNat_of_nonneg f.nx.1, Int.toNat_of_nonneg f.ge.1, Int.toNat_of_nonneg f.dp.1]
theorem decB_enc {x : Ino} (h : inoB x = true) : decB (encL x) = true := by
  unfold decB
  rw [rdI_enc h, encL_len h, h]
  simp
theorem decB_len {xs : List Nat} (h : decB xs = true) : xs.length = 64 := by unfold decB at h; simp only [Bool.and_eq_true, beq_iff_eq] at h; exact h.1.1
theorem decB_may {xs : List Nat} (h : decB xs = true) : inoB (rdI xs) = true := by unfold decB at h; simp only [Bool.and_eq_true, beq_iff_eq] at h; exact h.1.2
theorem decB_back {xs : List Nat} (h : decB xs = true) : encL (rdI xs) = xs := by unfold decB at h; simp only [Bool.and_eq_true, beq_iff_eq] at h; exact h.2
theorem zero_may : inoB zeroI = true := by decide +kernel
theorem zero_enc : encL zeroI = List.replicate 64 0 := by decide +kernel
theorem zero_dec : decB (List.replicate 64 0) = true ∧ rdI (List.replicate 64 0) = zeroI := by rw [← zero_enc]; exact ⟨decB_enc zero_may, rdI_enc zero_may⟩
end Go.Proofs.Ytgeomfgfeemciaa
