/-
  Bytes put behind bytes; the reference's bytes of a page, plainly.
-/
import Derived.Test.YtpikaagdiafieaaMjC1
import Derived.Test.YtpikaagdiafieaaMjRPage
namespace Go.Proofs.Ytpikaagdiafieaa
open Go.RowKit
theorem owns_slice8 {w : World} {B : Nat} {v : Value} {n : Nat} {xs : List Value} (h : w.ownsRow B 5 1 v n xs) : ∃ p c, v = .slice p n c := by
  rcases h.2 with ⟨rfl, h0⟩ | ⟨g, cap, cur, rfl, _⟩
  · exact ⟨none, 0, by rw [h0]⟩
  · exact ⟨_, _, rfl⟩
theorem wp_append_bytes {o : Oper} {a : Act} {W : World} {K : Act → World → Prop} {Q : Exit → Act → World → Prop} (s x : Operand)
    (ho : o.op = .call { callee := .builtin .append, args := #[s, x], argTypes := #[53, 53] }) (B : Nat) (v : Value) (m : Nat) (xs : List Nat) (hs : a.eval s = v) (hown : W.ownsRow B 5 1 v m (vals xs)) (ad : Addr) (n c : Nat) (ys : List Nat) (hx : a.eval x = .slice (some ad) n c) (hin : In W (some ad) n c ys)
    (hmn : m + n ≤ 100000) (hB : B ≤ W.heap.size)
    (hK : ∀ p' c' w', w'.ownsRow B 5 1 (.slice p' (m + n) c') (m + n) (vals (xs ++ ys)) → W.grownBy w' v.ownBlock → Below B W w' → K (a.put o.dst (.slice p' (m + n) c')) w') : o.wp Try.prog a W K Q := by
  obtain ⟨i0, hi, hz0, hz1, hz2⟩ := info_parts info5
  refine wp_append_own _ s x 53 ho B 5 i0 (.int .u8 0) 1 1 Try.underlying53 hi hz0 hz1 hz2 rfl (by decide) v m (vals xs) hs hown ad n c (vals ys) hx (by rw [vals_length, hin.len, Nat.mul_one]) (hin.cells rfl) (vals_one ys) (by unfold maxLen; omega) (by omega) hB ?_
  intro v1 w1 hown1 hgrow1 _
  rw [← vals_append] at hown1
  obtain ⟨p', c', hv⟩ := owns_slice8 hown1
  subst hv
  exact hK p' c' w1 hown1 hgrow1 ((Below.refl _ _).grown hgrow1 hB (fun k hk => (hown.lt k hk).1))
theorem wpList_append_bytes {ops : Array Oper} {rest : List Oper} {o : Oper} {a : Act} {W : World} {Q : Exit → Act → World → Prop} (hgd : o.guard = none) (s x : Operand)
    (ho : o.op = .call { callee := .builtin .append, args := #[s, x], argTypes := #[53, 53] }) (B : Nat) (v : Value) (m : Nat) (xs : List Nat) (hs : a.eval s = v) (hown : W.ownsRow B 5 1 v m (vals xs)) (ad : Addr) (n c : Nat) (ys : List Nat) (hx : a.eval x = .slice (some ad) n c) (hin : In W (some ad) n c ys)
    (hmn : m + n ≤ 100000) (hB : B ≤ W.heap.size)
    (hK : ∀ p' c' w', w'.ownsRow B 5 1 (.slice p' (m + n) c') (m + n) (vals (xs ++ ys)) → W.grownBy w' v.ownBlock → Below B W w' → wpList Try.prog ops Q rest (a.put o.dst (.slice p' (m + n) c')) w') : wpList Try.prog ops Q (o :: rest) a W :=
  wpList_plain hgd fun _ hKK => wp_append_bytes s x ho B v m xs hs hown ad n c ys hx hin hmn hB fun p' c' w' h1 h2 h3 => hKK _ _ (hK p' c' w' h1 h2 h3)
def hdL (P : MP) : List Nat := [P.kind.toNat, P.part.toNat, P.bad.length + P.recs.length, 0, 0, 0, 0, 0] ++ beL 8 P.gen.toNat
def wearsL (ws : List Int) : List Nat := ws.flatMap fun x => beL 3 x.toNat
def recL (r : MR) : List Nat := [r.kind.toNat, r.block.toNat] ++ beL 8 r.value.toNat
def recsLs (l : List MR) : List Nat := l.flatMap recL
def bodyL (P : MP) : List Nat := if P.kind = 1 then (hdL P ++ beL 8 P.seq.toNat ++ bitsTo P.bad P.bad.length) ++ wearsL P.wear else hdL P ++ recsLs P.recs
/-- The reference's bytes of a page. -/
def refL (P : MP) : List Nat := bodyL P ++ List.replicate (256 - (bodyL P).length) 0
theorem wearsL_length (ws : List Int) : (wearsL ws).length = 3 * ws.length := by
  induction ws with
  | nil => rfl
  | cons x ws ih =>
    have e : wearsL (x :: ws) = beL 3 x.toNat ++ wearsL ws := rfl
    rw [e, List.length_append, beL_length, ih, List.length_cons]; omega
theorem recsLs_length (l : List MR) : (recsLs l).length = 10 * l.length := by
  induction l with
  | nil => rfl
  | cons r l ih =>
    have e : recsLs (r :: l) = recL r ++ recsLs l := rfl
    rw [e, List.length_append, ih, List.length_cons]
    simp [recL, beL_length]; omega
theorem wearsL_snoc (ws : List Int) (k : Nat) (h : k < ws.length) : wearsL (ws.take (k + 1)) = wearsL (ws.take k) ++ beL 3 (eI ws k).toNat := by
  rw [takeI_succ ws k h]; simp [wearsL]
theorem recsLs_snoc (l : List MR) (k : Nat) (h : k < l.length) : recsLs (l.take (k + 1)) = recsLs (l.take k) ++ recL (eR l k) := by
  rw [takeR_succ l k h]; simp [recsLs]
theorem hdL_length (P : MP) : (hdL P).length = 16 := by simp [hdL, beL_length]
theorem Blk.grown8 {B n c g : Nat} {w w' : World} {t : TypeId} {cs : List Value} {q : Option Addr} {ys : List Value} (h : Blk w g t cs) (k : w.ownsRow B 5 1 (.slice q n c) n ys) (ht : 5 ≠ t) (hg : w.grownBy w' (Value.slice q n c).ownBlock) : Blk w' g t cs := by
  refine (hg.block g h.lt ?_).trans h
  intro e
  cases q with
  | none => cases e
  | some a => exact owns_blk_ne ht k h a rfl (Option.some.inj e).symm
theorem wrap_u8 {x : Int} (h0 : 0 ≤ x) (h1 : x ≤ 255) : IntKind.u8.wrap x = ((x.toNat : Nat) : Int) := by rw [IntKind.wrap_u8]; omega
theorem wrap_u8n {x : Nat} (h1 : x ≤ 255) : IntKind.u8.wrap (x : Int) = (x : Int) := by rw [IntKind.wrap_u8]; omega
theorem num_int (x : Int) (size : Nat) (h0 : 0 ≤ x) (h1 : x ≤ 1152921504606846976) (hs1 : 1 ≤ size) (hs : size ≤ 8) (w : World) :
    Calls Try.prog 68 #[.int .i64 x, .int .i64 (size : Int)] w fun e w' => ∃ g c, e = .returned (.slice (some ⟨g, 0, none⟩) size c) ∧ In w' (some ⟨g, 0, none⟩) size c (beL size x.toNat) ∧ Below w.heap.size w w' := by
  have := num_any x.toNat size (by omega) hs1 hs w
  rw [show ((x.toNat : Nat) : Int) = x by omega] at this
  exact this
theorem in_blk8 (w : World) {cs : Array Value} {xs : List Nat} {n : Nat} (h : cs.toList = vals xs) (hn : xs.length = n) (hr : n ≤ 100000) : (w.alloc (.cells cs 5)).ownsRow w.heap.size 5 1 (.slice (some ⟨w.heap.size, 0, none⟩) n n) n (vals xs) := by
  have hs : cs.size = n * 1 := by rw [← Array.length_toList, h, vals_length, hn, Nat.mul_one]
  have ho := World.ownsRow_lit (e := 5) (size := 1) (base := w.heap.size) w cs n (Nat.le_refl _) (by unfold maxLen; omega) hs
  rw [h] at ho
  exact ho
/-- How long a slice is. -/
def lenOf8 (v : Value) : Nat :=
  match v with
  | .slice _ n _ => n
  | _ => 0
end Go.Proofs.Ytpikaagdiafieaa
