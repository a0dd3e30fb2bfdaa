/-
  Rows of descriptors in memory, and descriptors as plain bytes.
-/
import Derived.Test.YtbimcdaplnmjdaaLyEnc
namespace Go.Proofs.Ytbimcdaplnmjdaa
open Go.RowKit
theorem Turned.trans {a b c : World} {g : Nat} (h : Turned a b g) (k : Turned b c g) : Turned a c g := ⟨k.os.trans h.os, k.tape.trans h.tape, k.output.trans h.output, k.size.trans h.size, fun j hj => (k.block j hj).trans (h.block j hj)⟩
structure Dsc where
  x : Int
  y : Int
  z : Int
abbrev Dsc.val (x : Dsc) : Value := .agg #[.int .i64 x.x, .int .i64 x.y, .int .i64 x.z]
def Dsc.cells (x : Dsc) : List Value := [.int .i64 x.x, .int .i64 x.y, .int .i64 x.z]
def eD (l : List Dsc) (i : Nat) : Dsc := l.getD i ⟨0, 0, 0⟩
theorem eD_mem {l : List Dsc} {k : Nat} (h : k < l.length) : eD l k ∈ l := by simp [eD, h]
theorem takeD_succ (l : List Dsc) (k : Nat) (h : k < l.length) : l.take (k + 1) = l.take k ++ [eD l k] := by
  rw [List.take_succ_eq_append_getElem h]; simp [eD, h]
def flatD (l : List Dsc) : List Value := l.flatMap Dsc.cells
theorem flatD_cons (x : Dsc) (l : List Dsc) : flatD (x :: l) = .int .i64 x.x :: .int .i64 x.y :: .int .i64 x.z :: flatD l := rfl
theorem flatD_length (l : List Dsc) : (flatD l).length = l.length * 3 := by
  induction l with
  | nil => rfl
  | cons x l ih => rw [flatD_cons]; simp only [List.length_cons, ih]; omega
theorem flatD_append (l m : List Dsc) : flatD (l ++ m) = flatD l ++ flatD m := by simp [flatD]
theorem flatD_one (l : List Dsc) : ∀ u ∈ flatD l, u.oneCell' = true := by
  intro u hu
  obtain ⟨x, _, hx⟩ := List.mem_flatMap.1 hu
  simp only [Dsc.cells, List.mem_cons, List.not_mem_nil, or_false] at hx
  rcases hx with rfl | rfl | rfl <;> rfl
theorem flatD_at {l : List Dsc} {k : Nat} (h : k < l.length) : (flatD l)[k * 3]? = some (.int .i64 (eD l k).x) ∧ (flatD l)[k * 3 + 1]? = some (.int .i64 (eD l k).y) ∧ (flatD l)[k * 3 + 2]? = some (.int .i64 (eD l k).z) := by
  induction l generalizing k with
  | nil => simp at h
  | cons y l ih =>
    cases k with
    | zero => rw [flatD_cons]; simp [eD]
    | succ k =>
      have := ih (k := k) (by simpa using h)
      rw [flatD_cons, show (k + 1) * 3 = k * 3 + 1 + 1 + 1 by omega]
      simpa [eD] using this
/-- A slice of such things that lies in a world. -/
structure InD (w : World) (p : Option Addr) (n c : Nat) (l : List Dsc) : Prop where
  len : l.length = n
  cap : n ≤ c
  max : c ≤ maxLen
  room : n ≤ 140737488355328
  at' : 0 < n → ∃ b o, p = some ⟨b, o, none⟩ ∧ b < w.heap.size ∧ ∀ i, i < n → w.cell? ⟨b, o + i * 3, none⟩ = some (.int .i64 (eD l i).x) ∧ w.cell? ⟨b, o + i * 3 + 1, none⟩ = some (.int .i64 (eD l i).y) ∧ w.cell? ⟨b, o + i * 3 + 2, none⟩ = some (.int .i64 (eD l i).z)
  nil : p = none → c = 0
theorem InD.below {w w' : World} {p : Option Addr} {n c : Nat} {l : List Dsc} (h : InD w p n c l) (hb : Below w.heap.size w w') : InD w' p n c l :=
  ⟨h.len, h.cap, h.max, h.room, fun h0 => by
    obtain ⟨b, o, hp, hlt, hc⟩ := h.at' h0
    refine ⟨b, o, hp, Nat.lt_of_lt_of_le hlt hb.size, fun i hi => ?_⟩
    obtain ⟨h0, h1, h2⟩ := hc i hi
    exact ⟨(hb.cell (p := ⟨b, o + i * 3, none⟩) hlt).trans h0, (hb.cell (p := ⟨b, o + i * 3 + 1, none⟩) hlt).trans h1, (hb.cell (p := ⟨b, o + i * 3 + 2, none⟩) hlt).trans h2⟩, h.nil⟩
theorem InD.empty (w : World) : InD w none 0 0 [] := ⟨rfl, Nat.le_refl _, Nat.zero_le _, Nat.zero_le _, fun h => by omega, fun _ => rfl⟩
theorem InD.flat {w : World} {p : Option Addr} {n c : Nat} {l : List Dsc} (h : InD w p n c l) {a : Addr} (ha : p = some a) : ∀ j u, (flatD l)[j]? = some u → w.cell? (a.add j) = some u := by
  intro j u hu
  have hj : j < l.length * 3 := by
    rcases Nat.lt_or_ge j (l.length * 3) with h' | h'
    · exact h'
    · rw [List.getElem?_eq_none (by rw [flatD_length]; exact h')] at hu; simp at hu
  have hl := h.len
  obtain ⟨b, o, hp, _, hc⟩ := h.at' (by omega)
  rw [ha] at hp
  cases hp
  obtain ⟨i, r, hir, hr⟩ : ∃ i r, j = i * 3 + r ∧ r < 3 := ⟨j / 3, j % 3, by omega, by omega⟩
  subst hir
  rw [addr_add, ← Nat.add_assoc]
  obtain ⟨h0, h1, h2⟩ := hc i (by omega)
  obtain ⟨f0, f1, f2⟩ := flatD_at (l := l) (k := i) (by omega)
  match r, hr with
  | 0, _ => rw [Nat.add_zero, f0] at hu; rw [← hu]; exact h0
  | 1, _ => rw [f1] at hu; rw [← hu]; exact h1
  | 2, _ => rw [f2] at hu; rw [← hu]; exact h2
theorem in_of_ownsD {w : World} {B : Nat} {v : Value} {n : Nat} {l : List Dsc} (h : w.ownsRow B 58 3 v n (flatD l)) (hr : n ≤ 140737488355328) :
    ∃ p c, v = .slice p n c ∧ InD w p n c l := by
  have hl : l.length = n := by have := h.1; rw [flatD_length] at this; omega
  rcases h.2 with ⟨rfl, rfl⟩ | ⟨g, cap, cur, rfl, hg, hh, hnc, hcm, hsz, htk⟩
  · have : l = [] := List.eq_nil_of_length_eq_zero hl
    subst this
    exact ⟨none, 0, rfl, InD.empty w⟩
  · refine ⟨some ⟨g, 0, none⟩, cap, rfl, hl, hnc, hcm, hr, fun h0 => ⟨g, 0, rfl, ?_, fun i hi => ?_⟩, fun h => by simp at h⟩
    · rcases Nat.lt_or_ge g w.heap.size with h' | h'
      · exact h'
      · rw [Array.getElem?_eq_none h'] at hh; simp at hh
    · rw [Nat.zero_add]
      obtain ⟨f0, f1, f2⟩ := flatD_at (l := l) (k := i) (by omega)
      exact ⟨(World.ownsRow.cellAt h (i * 3) (by omega)).trans f0, (World.ownsRow.cellAt h (i * 3 + 1) (by omega)).trans f1, (World.ownsRow.cellAt h (i * 3 + 2) (by omega)).trans f2⟩
theorem infoD : (Try.prog.info? 58).map (fun i => (i.zero, i.size, i.bytes)) = some (some (.agg #[.int .i64 0, .int .i64 0, .int .i64 0]), 3, 24) := by kernel_rfl
theorem sizeD : (Try.prog.info? 58).map (·.size) = some 3 := by kernel_rfl
theorem flatD_set {l : List Dsc} {k : Nat} (r : Dsc) (h : k < l.length) : (((flatD l).set (k * 3) (.int .i64 r.x)).set (k * 3 + 1) (.int .i64 r.y)).set (k * 3 + 2) (.int .i64 r.z) = flatD (l.set k r) := by
  induction l generalizing k with
  | nil => simp at h
  | cons y l ih =>
    cases k with
    | zero =>
      show _ = flatD (r :: l)
      rw [flatD_cons, flatD_cons]; simp
    | succ k =>
      rw [flatD_cons, List.set_cons_succ, flatD_cons, ← ih (by simpa using h), show (k + 1) * 3 = k * 3 + 1 + 1 + 1 by omega]
      simp
theorem run_storeD {w : World} {B g n c k : Nat} {l : List Dsc} (h : w.ownsRow B 58 3 (.slice (some ⟨g, 0, none⟩) n c) n (flatD l)) (hk : k < n) (r : Dsc) :
    ∃ w', (storeVar 58 ⟨g, k * 3, none⟩ r.val).run Try.prog w = .ok () w' ∧ w'.ownsRow B 58 3 (.slice (some ⟨g, 0, none⟩) n c) n (flatD (l.set k r)) ∧ Turned w w' g := by
  have hl : l.length = n := by have := h.1; rw [flatD_length] at this; omega
  obtain ⟨f0, f1, f2⟩ := flatD_at (l := l) (k := k) (by omega)
  have c0 := (h.cellAt (k * 3) (by omega)).trans f0
  have c1 := (h.cellAt (k * 3 + 1) (by omega)).trans f1
  have c2 := (h.cellAt (k * 3 + 2) (by omega)).trans f2
  have hst := run_storeCells_cells (P := Try.prog) g (k * 3) [.int .i64 r.x, .int .i64 r.y, .int .i64 r.z] 0 w (fun j hj => by
      match j, hj with
      | 0, _ => simp [c0]
      | 1, _ => simp [c1]
      | 2, _ => simp [c2]) (fun j _ => by simpa using h.frozenAt (k * 3 + (0 + j))) (by simp [Value.oneCell'])
  have hs := (((h.stored (k * 3) (.int .i64 r.x)).1.stored (k * 3 + 1) (.int .i64 r.y)).1.stored (k * 3 + 2) (.int .i64 r.z)).1
  rw [flatD_set r (by omega)] at hs
  refine ⟨_, ?_, hs, (((Turned.setCell w ⟨g, k * 3, none⟩ _).trans (Turned.setCell _ ⟨g, k * 3 + 1, none⟩ _)).trans (Turned.setCell _ ⟨g, k * 3 + 2, none⟩ _))⟩
  cases hq : Try.prog.info? 58 with
  | none => have := sizeD; simp [hq] at this
  | some i =>
    have hsz : i.size = 3 := by have := sizeD; simpa [hq] using this
    simp only [storeVar, sizeOf, typeInfo, Sem.run_bind, Value.cells]
    simp [hsz, hq, hst, World.setCells]
theorem wp_storeD {op : Oper} {a : Act} {w : World} {K : Act → World → Prop} {Q : Exit → Act → World → Prop} (x y : Operand) (ho : op.op = .store 58 x y) (g k : Nat) (r : Dsc) (hx : a.eval x = .pointer (some ⟨g, k * 3, none⟩)) (hy : a.eval y = r.val)
    {B n c : Nat} {l : List Dsc} (h : w.ownsRow B 58 3 (.slice (some ⟨g, 0, none⟩) n c) n (flatD l)) (hk : k < n)
    (hK : ∀ w', w'.ownsRow B 58 3 (.slice (some ⟨g, 0, none⟩) n c) n (flatD (l.set k r)) → Turned w w' g → K (a.put op.dst undef) w') : op.wp Try.prog a w K Q := by
  obtain ⟨w', hrun, hown, ht⟩ := run_storeD h hk r
  unfold Oper.wp execOp
  simp only [ho, hx, hy, Instr.storeAt, Instr.sureAddr, Sem.run_bind, Sem.run_pure, Result.andThen_ok, hrun]
  exact hK _ hown ht

def wsD : List Int := [16, 16, 16]
/-- A number as an uint64. -/
def uN (x : Int) : Nat := (IntKind.u64.wrap x).toNat
def vsD (d : Dsc) : List Nat := [uN d.x, uN d.y, uN d.z]
/-- A number of an int64. -/
def rng (x : Int) : Prop := -9223372036854775808 ≤ x ∧ x ≤ 9223372036854775807
def Dsc.rng (d : Dsc) : Prop := Go.Proofs.Ytbimcdaplnmjdaa.rng d.x ∧ Go.Proofs.Ytbimcdaplnmjdaa.rng d.y ∧ Go.Proofs.Ytbimcdaplnmjdaa.rng d.z
def ok16 (x : Int) : Bool := decide (0 ≤ x) && decide (x ≤ 65535)
/-- Whether a descriptor's numbers may be. -/
def dOk (d : Dsc) : Bool := ok16 d.x && ok16 d.y && ok16 d.z
theorem uN_wrap (x : Int) : IntKind.u64.wrap x = (uN x : Int) ∧ uN x < 18446744073709551616 := by
  unfold uN
  rw [IntKind.wrap_u64]
  omega
theorem uN_ok {x : Int} (h : rng x) : uN x < 65536 ↔ ok16 x = true := by
  unfold uN ok16 rng at *
  rw [IntKind.wrap_u64]
  simp only [Bool.and_eq_true, decide_eq_true_eq]
  omega
theorem uN_id {x : Int} (h : ok16 x = true) : (uN x : Int) = x := by
  unfold uN ok16 at *
  simp only [Bool.and_eq_true, decide_eq_true_eq] at h
  rw [IntKind.wrap_u64]
  omega
theorem wsD_ok : widthOk wsD = true := by decide +kernel
theorem wsD_bytes : bytesW wsD = 6 := by decide +kernel
theorem packD_ok {d : Dsc} (h : d.rng) : packOk wsD (vsD d) = dOk d := by
  have h1 := uN_ok h.1
  have h2 := uN_ok h.2.1
  have h3 := uN_ok h.2.2
  cases hd : dOk d with
  | true =>
    unfold dOk at hd
    simp only [Bool.and_eq_true] at hd
    unfold packOk
    rw [wsD_ok, Bool.true_and, fitB_iff]
    refine ⟨rfl, fun i hi => ?_⟩
    match i, hi with
    | 0, _ => exact h1.2 hd.1.1
    | 1, _ => exact h2.2 hd.1.2
    | 2, _ => exact h3.2 hd.2
  | false =>
    cases hp : packOk wsD (vsD d) with
    | false => rfl
    | true =>
      unfold packOk at hp
      rw [wsD_ok, Bool.true_and, fitB_iff] at hp
      have a0 := h1.1 (hp.2 0 (by decide))
      have a1 := h2.1 (hp.2 1 (by decide))
      have a2 := h3.1 (hp.2 2 (by decide))
      unfold dOk at hd
      rw [a0, a1, a2] at hd
      cases hd
theorem vsD_lim (d : Dsc) : ∀ x ∈ vsD d, x < 18446744073709551616 := by
  intro x hx
  simp only [vsD, List.mem_cons, List.not_mem_nil, or_false] at hx
  rcases hx with h | h | h <;> (rw [h]; exact (uN_wrap _).2)
/-- A descriptor's bytes. -/
def dB (d : Dsc) : List Nat := packL wsD (vsD d) ++ List.replicate 10 0
theorem dB_length {d : Dsc} (h : packOk wsD (vsD d) = true) : (dB d).length = 16 := by
  unfold dB; rw [List.length_append, packL_length h, wsD_bytes, List.length_replicate]
theorem dB_byte (d : Dsc) : ∀ x ∈ dB d, x < 256 := by
  intro x hx
  rcases List.mem_append.1 hx with h | h
  · exact packL_byte _ _ x h
  · rw [List.eq_of_mem_replicate h]; decide
/-- The bytes of descriptors, and zeros. -/
def edB (l : List Dsc) : List Nat := l.flatMap dB ++ List.replicate (256 - 16 * l.length) 0
def edE (l : List Dsc) : Int := if l.length ≤ 16 ∧ l.all dOk = true then 0 else 1
def edL (l : List Dsc) : List Nat := if edE l = 0 then edB l else []
theorem flat_length {l : List Dsc} (h : ∀ d ∈ l, packOk wsD (vsD d) = true) : (l.flatMap dB).length = 16 * l.length := by
  induction l with
  | nil => rfl
  | cons d l ih =>
    rw [List.flatMap_cons, List.length_append, dB_length (h d (by simp)), ih (fun x hx => h x (by simp [hx])), List.length_cons]
    omega
theorem edB_length {l : List Dsc} (h : ∀ d ∈ l, packOk wsD (vsD d) = true) (hl : l.length ≤ 16) : (edB l).length = 256 := by
  unfold edB; rw [List.length_append, flat_length h, List.length_replicate]; omega
theorem edB_byte (l : List Dsc) : ∀ x ∈ edB l, x < 256 := by
  intro x hx
  rcases List.mem_append.1 hx with h | h
  · obtain ⟨d, _, h⟩ := List.mem_flatMap.1 h
    exact dB_byte d x h
  · rw [List.eq_of_mem_replicate h]; decide
theorem edB_nil : edB [] = List.replicate 256 0 := rfl
theorem lay_next {l : List Dsc} {d : Dsc} (h : ∀ x ∈ l, packOk wsD (vsD x) = true) (hd : packOk wsD (vsD d) = true) (hl : l.length < 16) : layAt (edB l) (packL wsD (vsD d)) (l.length * 16) (256 - l.length * 16) = edB (l ++ [d]) := by
  have hp : (packL wsD (vsD d)).length = 6 := by rw [packL_length hd, wsD_bytes]
  have hf := flat_length h
  unfold layAt edB
  rw [hp, show min (256 - l.length * 16) 6 = 6 from by omega, List.take_of_length_le (Nat.le_of_eq hp), List.take_append_of_le_length (by rw [hf]; omega), List.take_of_length_le (by rw [hf]; omega),
    List.drop_append, hf, List.drop_of_length_le (by rw [hf]; omega), List.nil_append, show l.length * 16 + 6 - 16 * l.length = 6 from by omega, List.drop_replicate, List.flatMap_append, List.flatMap_singleton]
  unfold dB
  rw [List.append_assoc, List.append_assoc, List.append_assoc, List.length_append, List.length_singleton, List.replicate_append_replicate, show 10 + (256 - 16 * (l.length + 1)) = 256 - 16 * l.length - 6 from by omega]
theorem edE_zero {l : List Dsc} : edE l = 0 ↔ l.length ≤ 16 ∧ ∀ d ∈ l, dOk d = true := by
  unfold edE
  split
  · next h => exact ⟨fun _ => ⟨h.1, List.all_eq_true.1 h.2⟩, fun _ => rfl⟩
  · next h => exact ⟨fun e => (by cases e), fun e => absurd ⟨e.1, List.all_eq_true.2 e.2⟩ h⟩
theorem edE_one {l : List Dsc} (h : ¬ (l.length ≤ 16 ∧ ∀ d ∈ l, dOk d = true)) : edE l = 1 ∧ edL l = [] := by
  have e : edE l = 1 := by unfold edE; rw [if_neg (fun e => h ⟨e.1, List.all_eq_true.1 e.2⟩)]
  exact ⟨e, by unfold edL; rw [e]; rfl⟩
theorem descW_any (w : World) : Calls Try.prog 64 #[] w fun e w' => ∃ p, e = .returned (.slice p 3 3) ∧ InI w' p 3 3 wsD ∧ Below w.heap.size w w' := by
  go_enter Try.func64, Try.ntmps64
  go_wp2
  go_ret
  exact ⟨_, rfl, in_litI w (cs := #[Value.int IntKind.i64 16, Value.int IntKind.i64 16, Value.int IntKind.i64 16]) rfl rfl (by decide), below_alloc _ _⟩
end Go.Proofs.Ytbimcdaplnmjdaa
