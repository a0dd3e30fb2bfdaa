/-
  What the reference's Parse reads, plainly; one value behind a row.
-/
import Derived.Test.YtpikaagdiafieaaMjC5
namespace Go.Proofs.Ytpikaagdiafieaa
open Go.RowKit
def rkind (xs : List Nat) : Int := ((xs.getD 0 0 : Nat) : Int)
def rpart (xs : List Nat) : Int := ((xs.getD 1 0 : Nat) : Int)
def rmany (xs : List Nat) : Nat := xs.getD 2 0
def rgen (xs : List Nat) : Int := wI (numTo (subL xs 8 8) 8)
def rseq (xs : List Nat) : Int := wI (numTo (subL xs 16 8) 8)
def rbad (xs : List Nat) (i : Nat) : Bool := (xs.getD (24 + i / 8) 0).testBit (i % 8)
def rwear (xs : List Nat) (i : Nat) : Int := wI (numTo (subL xs (32 + 3 * i) 3) 3)
def rrec (xs : List Nat) (i : Nat) : MR := ⟨((xs.getD (16 + 10 * i) 0 : Nat) : Int), ((xs.getD (16 + 10 * i + 1) 0 : Nat) : Int), wI (numTo (subL xs (16 + 10 * i + 2) 8) 8)⟩
/-- What the reference reads of bytes. -/
def rreadP (xs : List Nat) : MP :=
  if rkind xs = 1 ∧ rmany xs ≤ 64 then ⟨rkind xs, rgen xs, rpart xs, rseq xs, (List.range (rmany xs)).map (rbad xs), (List.range (rmany xs)).map (rwear xs), []⟩
  else if rkind xs = 2 ∧ rmany xs ≤ 24 then ⟨rkind xs, rgen xs, rpart xs, 0, [], [], (List.range (rmany xs)).map (rrec xs)⟩
  else ⟨rkind xs, rgen xs, rpart xs, 0, [], [], []⟩
theorem rangeB_snoc (xs : List Nat) (k : Nat) : (List.range (k + 1)).map (rbad xs) = (List.range k).map (rbad xs) ++ [rbad xs k] := by simp [List.range_succ]
theorem rangeW_snoc (xs : List Nat) (k : Nat) : (List.range (k + 1)).map (rwear xs) = (List.range k).map (rwear xs) ++ [rwear xs k] := by simp [List.range_succ]
theorem rangeR_snoc (xs : List Nat) (k : Nat) : (List.range (k + 1)).map (rrec xs) = (List.range k).map (rrec xs) ++ [rrec xs k] := by simp [List.range_succ]
theorem owns_sliceE {w : World} {B e s : Nat} {v : Value} {n : Nat} {xs : List Value} (h : w.ownsRow B e s v n xs) : ∃ p c, v = .slice p n c := by
  rcases h.2 with ⟨rfl, h0⟩ | ⟨g, cap, cur, rfl, _⟩
  · exact ⟨none, 0, by rw [h0]⟩
  · exact ⟨_, _, rfl⟩
/-- One cell behind a row of the call's own. -/
theorem wp_append_one {o : Oper} {a : Act} {W : World} {K : Act → World → Prop} {Q : Exit → Act → World → Prop} (s x : Operand) (t e : TypeId) (z : Value) (bytes : Nat) (ht : Try.prog.underlying t = some (.slice e)) (hinfo : (Try.prog.info? e).map (fun i => (i.zero, i.size, i.bytes)) = some (some z, 1, bytes)) (hzc : z.cells.size = 1) (hbt : bytes ≤ 8)
    (ho : o.op = .call { callee := .builtin .append, args := #[s, x], argTypes := #[t, t] }) (B : Nat) (v : Value) (m : Nat) (xs : List Value) (hs : a.eval s = v) (hown : W.ownsRow B e 1 v m xs) (gl : Nat) (u : Value) (hu : u.oneCell' = true) (hx : a.eval x = .slice (some ⟨gl, 0, none⟩) 1 1) (hlit : Blk W gl e [u])
    (hmn : m ≤ 100000) (hB : B ≤ W.heap.size)
    (hK : ∀ p' c' w', w'.ownsRow B e 1 (.slice p' (m + 1) c') (m + 1) (xs ++ [u]) → W.grownBy w' v.ownBlock → Below B W w' → K (a.put o.dst (.slice p' (m + 1) c')) w') : o.wp Try.prog a W K Q := by
  obtain ⟨i0, hi, hz0, hz1, hz2⟩ := info_parts hinfo
  refine wp_append_own _ s x t ho B e i0 z 1 bytes ht hi hz0 hz1 hz2 hzc (by decide) v m xs hs hown ⟨gl, 0, none⟩ 1 1 [u] hx rfl (fun j y hj => ?_) (by simpa using hu) (by unfold maxLen; omega) (by have : (m + 1) * bytes ≤ (m + 1) * 8 := Nat.mul_le_mul_left _ hbt; omega) hB ?_
  · rw [addr_add, Nat.zero_add]; exact hlit.cell' hj
  · intro v1 w1 hown1 hgrow1 _
    obtain ⟨p', c', hv⟩ := owns_sliceE hown1
    subst hv
    exact hK p' c' w1 hown1 hgrow1 ((Below.refl _ _).grown hgrow1 hB (fun k hk => (hown.lt k hk).1))
theorem owns_grownE {w w' : World} {B e s n c : Nat} {row : Option Nat} {p : Option Addr} {xs : List Value} (h : w.ownsRow B e s (.slice p n c) n xs) (hg : w.grownBy w' row) (hne : ∀ a, p = some a → some a.block ≠ row) : w'.ownsRow B e s (.slice p n c) n xs := by
  refine ⟨h.1, ?_⟩
  rcases h.2 with h' | ⟨k, cap, cur, hv, hB, hh, hr⟩
  · exact .inl h'
  · simp only [Value.slice.injEq] at hv
    obtain ⟨rfl, h1, h2⟩ := hv
    refine .inr ⟨k, cap, cur, by rw [h2], hB, ?_, hr⟩
    rcases Nat.lt_or_ge k w.heap.size with hk | hk
    · exact (hg.block k hk (hne _ rfl)).trans hh
    · rw [Array.getElem?_eq_none hk] at hh; cases hh
theorem owns_apartE {w : World} {A B e e' s s' n n' c c' : Nat} {p q : Option Addr} {xs ys : List Value} (he : e ≠ e') (h : w.ownsRow A e s (.slice p n c) n xs) (k : w.ownsRow B e' s' (.slice q n' c') n' ys) : ∀ a, p = some a → some a.block ≠ (Value.slice q n' c').ownBlock := by
  intro a ha hab
  subst ha
  cases q with
  | none => cases hab
  | some b =>
    have hbb : a.block = b.block := Option.some.inj hab
    rcases h.2 with ⟨h0, _⟩ | ⟨g1, cap1, cur1, hv1, _, hh1, _⟩
    · cases h0
    · rcases k.2 with ⟨k0, _⟩ | ⟨g2, cap2, cur2, hv2, _, hh2, _⟩
      · cases k0
      · simp only [Value.slice.injEq, Option.some.injEq] at hv1 hv2
        rw [hv1.1, hv2.1] at hbb
        have hbb' : g1 = g2 := hbb
        rw [hbb', hh2] at hh1
        have := Option.some.inj hh1
        injection this with _ h2
        exact he h2.symm
theorem Blk.grownE {B e s n c g : Nat} {w w' : World} {t : TypeId} {cs : List Value} {q : Option Addr} {ys : List Value} (h : Blk w g t cs) (k : w.ownsRow B e s (.slice q n c) n ys) (ht : e ≠ t) (hg : w.grownBy w' (Value.slice q n c).ownBlock) : Blk w' g t cs := by
  refine (hg.block g h.lt ?_).trans h
  intro e
  cases q with
  | none => cases e
  | some a => exact owns_blk_ne ht k h a rfl (Option.some.inj e).symm
theorem bit_rem (x s : Nat) : (((x : Int) / 2 ^ s % 2) == 1) = x.testBit s := by
  rw [shr_nat, Nat.testBit_eq_decide_div_mod_eq]
  by_cases h : x / 2 ^ s % 2 = 1
  · have : (((x / 2 ^ s : Nat) : Int) % 2) = 1 := by omega
    rw [this]; simp [h]
  · have : (((x / 2 ^ s : Nat) : Int) % 2) = 0 := by omega
    rw [this]; simp [h]
theorem slice_sub (b o n c a m : Nat) (ha : a < n) (he : a + m ≤ n) (hc : n ≤ c) (W : World) : (Instr.slice 53 (.slice (some ⟨b, o, none⟩) n c) (some (.int .i64 (a : Int))) (some (.int .i64 ((a + m : Nat) : Int))) none).run Try.prog W = .ok (.slice (some ⟨b, o + a, none⟩) m (c - a)) W :=
  slice_lh0 b o n c a m (a + m) rfl ha he hc W
end Go.Proofs.Ytpikaagdiafieaa
