/-
  MapBack: rows that lie apart; parts of a row of records.
-/
import Derived.Test.YtpikaagdiafieabMjCpPb
import Derived.Test.YtpikaagdiafieabMjDiffPb
import Derived.Test.YtpikaagdiafieabMjSameB
import Derived.Test.YtpikaagdiafieabMjBkP
import Derived.Test.YtpikaagdiafieabMjB11
namespace Go.Proofs.Ytpikaagdiafieab
open Go.RowKit
theorem owns_grown {w w' : World} {B e s n c : Nat} {row : Option Nat} {p : Option Addr} {xs : List Value} (h : w.ownsRow B e s (.slice p n c) n xs) (hg : w.grownBy w' row) (hne : ∀ a, p = some a → some a.block ≠ row) : w'.ownsRow B e s (.slice p n c) n xs := by
  refine ⟨h.1, ?_⟩
  rcases h.2 with h' | ⟨k, cap, cur, hv, hB, hh, hr⟩
  · exact .inl h'
  · simp only [Value.slice.injEq] at hv
    obtain ⟨rfl, h1, h2⟩ := hv
    refine .inr ⟨k, cap, cur, by rw [h2], hB, ?_, hr⟩
    rcases Nat.lt_or_ge k w.heap.size with hk | hk
    · exact (hg.block k hk (hne _ rfl)).trans hh
    · rw [Array.getElem?_eq_none hk] at hh; cases hh
/-- Rows of unlike types lie apart. -/
theorem owns_apart {w : World} {A B e e' s s' n n' c c' : Nat} {p q : Option Addr} {xs ys : List Value} (he : e ≠ e') (h : w.ownsRow A e s (.slice p n c) n xs) (k : w.ownsRow B e' s' (.slice q n' c') n' ys) : ∀ a, p = some a → some a.block ≠ (Value.slice q n' c').ownBlock := by
  intro a ha hab
  subst ha
  cases q with
  | none => cases hab
  | some b =>
    have hbb : a.block = b.block := Option.some.inj hab
    rcases h.2 with ⟨h0, _⟩ | ⟨g1, cap1, cur1, hv1, _, hh1, _⟩
    · cases h0
    · rcases k.2 with ⟨k0, _⟩ | ⟨g2, cap2, cur2, hv2, _, hh2, _⟩
      · cases k0
      · simp only [Value.slice.injEq, Option.some.injEq] at hv1 hv2
        rw [hv1.1, hv2.1] at hbb
        have hbb' : g1 = g2 := hbb
        rw [hbb', hh2] at hh1
        have := Option.some.inj hh1
        injection this with _ h2
        exact he h2.symm
theorem OwnP.grown {A B n c : Nat} {w w' : World} {V : PV} {P : MP} {q : Option Addr} {ys : List Value} (h : OwnP A w V P) (k : w.ownsRow B 34 7 (.slice q n c) n ys) (hg : w.grownBy w' (Value.slice q n c).ownBlock) : OwnP A w' V P :=
  ⟨owns_grown h.b hg (owns_apart (by decide) h.b k), owns_grown h.v hg (owns_apart (by decide) h.v k), owns_grown h.r hg (owns_apart (by decide) h.r k), h.hb, h.hv, h.hr⟩
theorem Blk.grownQ {B n c g : Nat} {w w' : World} {t : TypeId} {cs : List Value} {q : Option Addr} {ys : List Value} (h : Blk w g t cs) (k : w.ownsRow B 34 7 (.slice q n c) n ys) (ht : 34 ≠ t) (hg : w.grownBy w' (Value.slice q n c).ownBlock) : Blk w' g t cs := by
  refine (hg.block g h.lt ?_).trans h
  intro e
  cases q with
  | none => cases e
  | some a => exact owns_blk_ne ht k h a rfl (Option.some.inj e).symm
/-- Records from d on. -/
theorem InR.part {w : World} {B g N c d k : Nat} {l : List MR} (h : w.ownsRow B 60 3 (.slice (some ⟨g, 0, none⟩) N c) N (flatM l)) (hk : d + k ≤ N) (hN : N ≤ 1000000) : InR w (some ⟨g, d * 3, none⟩) k (c - d) ((l.drop d).take k) := by
  obtain ⟨p, c', hv, hin⟩ := in_of_ownsR h (by omega)
  cases hv
  have hl := hin.len
  have hc := hin.cap
  have hm := hin.max
  refine ⟨by rw [List.length_take, List.length_drop]; omega, by omega, by omega, by omega, fun h0 => ?_, fun h => by cases h⟩
  obtain ⟨b, o, hp, hlt, hcl⟩ := hin.at' (by omega)
  cases hp
  refine ⟨g, d * 3, rfl, hlt, fun i hi => ?_⟩
  have e : eR ((l.drop d).take k) i = eR l (d + i) := by simp [eR, List.getElem?_take_of_lt hi, List.getElem?_drop]
  rw [e]
  have := hcl (d + i) (by omega)
  rw [show 0 + (d + i) * 3 = d * 3 + i * 3 by omega] at this
  exact this
theorem sizeOfR : (Try.prog.info? 60).map (·.size) = some 3 := by kernel_rfl
theorem sliceR_to {p : Option Addr} {n c k : Nat} (hk : k ≤ c) (hp : p ≠ none) (W : World) : (Instr.slice 32 (.slice p n c) none (some (.int .i64 (k : Int))) none).run Try.prog W = .ok (.slice p k c) W := by
  obtain ⟨i0, hi, _, _, _⟩ := info_parts infoR
  cases p with
  | none => exact absurd rfl hp
  | some a => simp [Instr.slice, Instr.sliceBounds, Instr.sliceBound, run_underlying Try.underlying32, asIntOf, sizeOf, typeInfo, hi, hk, Addr.add]
theorem sliceR_from (g o n c k : Nat) (hk : k ≤ n) : ∃ q, (k < c → q = some ⟨g, o + k * 3, none⟩) ∧ ∀ W : World, (Instr.slice 32 (.slice (some ⟨g, o, none⟩) n c) (some (.int .i64 (k : Int))) none none).run Try.prog W = .ok (.slice q (n - k) (c - k)) W := by
  obtain ⟨i0, hi, hz0, hz1, hz2⟩ := info_parts infoR
  refine ⟨if c = k then some ⟨g, o, none⟩ else some ⟨g, o + k * 3, none⟩, fun h => if_neg (by omega), fun W => ?_⟩
  simp [Instr.slice, Instr.sliceBounds, Instr.sliceBound, run_underlying Try.underlying32, asIntOf, sizeOf, typeInfo, hi, hz1, hk, addr_add]
/-- How long a slice is. -/
def lenOf (v : Value) : Nat :=
  match v with
  | .slice _ n _ => n
  | _ => 0
theorem max_int (a b : Nat) (W : World) : (Builtin.max_ #[3, 3] 3 #[.int .i64 (a : Int), .int .i64 (b : Int)]).run Try.prog W = .ok (.int .i64 ((max a b : Nat) : Int)) W := by
  rw [run_max_int2]
  rcases Nat.lt_or_ge a b with h | h
  · rw [if_pos (show (b : Int) > (a : Int) by omega), Nat.max_eq_right (by omega)]
  · rw [if_neg (show ¬ (b : Int) > (a : Int) by omega), Nat.max_eq_left h]
/-- One page behind a row of pages of the call's own. -/
theorem wpList_append_pg {ops : Array Oper} {rest : List Oper} {o : Oper} {a : Act} {Q : Exit → Act → World → Prop} (hgd : o.guard = none) (s x : Operand)
    (ho : o.op = .call { callee := .builtin .append, args := #[s, x], argTypes := #[22, 22] }) (B : Nat) (p : Option Addr) (k c : Nat) (L : List QP) (q : QP) (W : World) (gl : Nat) (hs : a.eval s = .slice p k c) (hown : W.ownsRow B 34 7 (.slice p k c) k (flatQ L))
    (hx : a.eval x = .slice (some ⟨gl, 0, none⟩) 1 1) (hlit : Blk W gl 34 (QP.cells q)) (hlen : k ≤ 10000) (hB : B ≤ W.heap.size)
    (hK : ∀ p' c' w', w'.ownsRow B 34 7 (.slice p' (k + 1) c') (k + 1) (flatQ (L ++ [q])) → W.grownBy w' (Value.slice p k c).ownBlock → Below B W w' → wpList Try.prog ops Q rest (a.put o.dst (.slice p' (k + 1) c')) w') :
    wpList Try.prog ops Q (o :: rest) a W := by
  obtain ⟨i0, hi, hz0, hz1, hz2⟩ := info_parts infoQ
  refine wpList_append_own _ hgd s x 22 ho B 34 i0 (.agg #[.int .i64 0, .int .i64 0, .int .i64 0, .int .i64 0, .slice none 0 0, .slice none 0 0, .slice none 0 0]) 7 104 Try.underlying22 hi hz0 hz1 hz2 rfl (by decide) (.slice p k c) k (flatQ L) hs hown ⟨gl, 0, none⟩ 1 1 (QP.cells q) hx rfl (fun j u hj => ?_) (mpOne q.1 q.2) (by unfold maxLen; omega) (by omega) hB ?_
  · rw [addr_add, Nat.zero_add]; exact hlit.cell' hj
  · intro v1 w1 hown1 hgrow1 _
    have e : flatQ L ++ QP.cells q = flatQ (L ++ [q]) := by rw [flatQ_append]; simp [flatQ]
    rw [e] at hown1
    obtain ⟨p', c', hv⟩ := owns_sliceQ hown1
    subst hv
    exact hK p' c' w1 hown1 hgrow1 ((Below.refl _ _).grown hgrow1 hB (fun k hk => (hown.lt k hk).1))
theorem eQ_two {l m : List QP} {i : Nat} : eQ (l ++ m) i = if i < l.length then eQ l i else eQ m (i - l.length) := by
  simp only [eQ, List.getD_eq_getElem?_getD, List.getElem?_append]
  split <;> rfl
theorem eQ_last {L : List QP} {q : QP} {i : Nat} (h : i < L.length + 1) : eQ (L ++ [q]) i = if i < L.length then eQ L i else q := by
  rw [eQ_two]
  split
  · rfl
  · rw [show i - L.length = 0 by omega]; rfl
theorem replayR_any {n : Nat} (h : 16 ≤ n ∧ n ≤ 256) (l : List MP) : replayR (n : Int) l = ((replayP n l).1, (replayP n l).2, 0) := by
  unfold replayR; rw [if_pos (by omega), Int.toNat_natCast]
end Go.Proofs.Ytpikaagdiafieab
