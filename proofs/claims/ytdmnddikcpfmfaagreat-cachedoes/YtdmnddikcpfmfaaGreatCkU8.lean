/-
  Blocks of bytes, told apart by their type; a disk as an interface.
-/
import Derived.Test.YtdmnddikcpfmfaaGreatDkWrite
import Derived.RangeFuncOwn
namespace Go.Proofs.YtdmnddikcpfmfaaGreat
open Go.RowKit
def ramI (d : Nat) : Value := .iface 24 (.pointer (some ⟨d, 0, none⟩))
/-- What is the same in all blocks of cells. -/
theorem In.cellsSame {w w' : World} {p : Option Addr} {n c : Nat} {xs : List Nat} (h : In w p n c xs) (hs : ∀ (k : Nat) (o : Obj), w.heap[k]? = some o → o.isCells = true → w'.heap[k]? = w.heap[k]?) : In w' p n c xs := by
  refine h.same fun a ha h0 => ?_
  obtain ⟨b, o, hp, hlt, hc⟩ := h.at' h0
  rw [hp] at ha
  cases ha
  refine hs b _ (Array.getElem?_eq_getElem hlt) ?_
  have hc0 := hc 0 h0
  simp only [World.cell?, Array.getElem?_eq_getElem hlt] at hc0
  cases ho : w.heap[b] with
  | cells cs t fr => rfl
  | _ => simp [ho] at hc0
/-- The block is one of bytes. -/
def U8 (w : World) (p : Option Addr) : Prop := ∀ a, p = some a → ∃ cs, w.heap[a.block]? = some (.cells cs 5 (0, 0))
theorem owns_u8 {w : World} {B : Nat} {p : Option Addr} {n m c : Nat} {xs : List Value} (h : w.ownsRow B 5 1 (.slice p n c) m xs) : U8 w p := by
  intro a ha
  rcases h.2 with ⟨h', _⟩ | ⟨g, cap, cur, h', _, hh, _⟩
  · cases h'; cases ha
  · cases h'; cases ha; exact ⟨cur, hh⟩
theorem U8.below {w w' : World} {p : Option Addr} (h : U8 w p) (hb : Below w.heap.size w w') : U8 w' p := fun a ha => by
  obtain ⟨cs, hc⟩ := h a ha
  exact ⟨cs, (hb.block _ (Array.getElem?_eq_some_iff.1 hc).1).trans hc⟩
theorem U8.ne {w : World} {p : Option Addr} (h : U8 w p) {a : Addr} (ha : p = some a) {g : Nat} {t : TypeId} {cs : List Value} (hb : Blk w g t cs) (ht : t ≠ 5) : a.block ≠ g := by
  rintro rfl
  obtain ⟨c, hc⟩ := h a ha
  rw [Blk, hc] at hb
  simp at hb
  exact ht hb.2.symm
theorem U8.ne_row {w : World} {p : Option Addr} (h : U8 w p) {a : Addr} (ha : p = some a) {B : Nat} {e : TypeId} {z : Nat} {v : Value} {n : Nat} {xs : List Value} (ho : w.ownsRow B e z v n xs) (ht : e ≠ 5) : v.ownBlock ≠ some a.block := by
  intro hk
  obtain ⟨c, hc⟩ := h a ha
  obtain ⟨c', hc', _⟩ := owns_row ho hk
  rw [hc] at hc'
  simp at hc'
  exact ht hc'.2.symm
theorem U8.same {w w' : World} {p : Option Addr} (h : U8 w p) (hs : ∀ a, p = some a → w'.heap[a.block]? = w.heap[a.block]?) : U8 w' p := fun a ha => by
  obtain ⟨cs, hc⟩ := h a ha
  exact ⟨cs, (hs a ha).trans hc⟩
theorem clone_u8 (p : Option Addr) (n c : Nat) (xs : List Nat) (w : World) (hx : In w p n c xs) :
    Calls Tryz.prog 61 #[.slice p n c] w fun e w' => ∃ p' c', e = .returned (.slice p' n c') ∧ In w' p' n c' xs ∧ Below w.heap.size w w' ∧ (∀ a, p' = some a → w.heap.size ≤ a.block ∨ n = 0) ∧ U8 w' p' := by
  have hroom := hx.room
  have HX : Hid (xs.length = n) := hx.len
  obtain ⟨i0, hi, hz0, hz1, hz2⟩ := info_parts info5
  have hq := fun (w : World) => Lib.run_eql_slice_nil (P := Tryz.prog) w 52 5 p n c 0 0 Tryz.underlying52
  cases p with
  | none =>
    have h1 := hx.nil rfl
    have h2 := hx.cap
    have h3 : n = 0 := by omega
    subst h1
    subst h3
    go_enter Tryz.func61, Tryz.ntmps61
    go_wp2
    go_ret
    exact ⟨_, _, rfl, hx, Below.refl _ _, fun a h0 => (by cases h0), fun a h0 => (by cases h0)⟩
  | some a =>
    have ho := World.ownsRow_lit (e := 5) (size := 1) (base := w.heap.size) w #[] 0 (Nat.le_refl _) (by unfold maxLen; omega) (by simp)
    have HO : Hid ((w.alloc (.cells #[] 5)).ownsRow w.heap.size 5 1 (.slice (some ⟨w.heap.size, 0, none⟩) 0 0) 0 []) := ho
    clear ho
    go_enter Tryz.func61, Tryz.ntmps61
    go_wp2_with (at_builtin; refine wpList_append_own _ rfl (.tmp 5) (.tmp 6) 52 rfl w.heap.size 5 i0 (.int .u8 0) 1 1 Tryz.underlying52 hi hz0 hz1 hz2 rfl (by decide) (.slice (some ⟨w.heap.size, 0, none⟩) 0 0) 0 [] rfl HO.out a n c (vals xs) rfl (by rw [vals_length, HX.out, Nat.mul_one]) ((hx.below (below_alloc _ _)).cells rfl) (vals_one xs) (by unfold maxLen; omega) (by omega) (by simp) ?_; intro v1 w1 hown1 hgrow1 _)
    go_ret
    rw [List.nil_append, Nat.zero_add] at hown1
    have hlt := hown1.lt
    obtain ⟨p', c', hv, hin⟩ := in_of_owns hown1 hx.byte hroom
    rw [hv] at hown1 hlt
    refine ⟨p', c', congrArg Ending.returned hv, hin, (below_alloc w _).grown hgrow1 (by simp) (fun k hk => by simp [Value.ownBlock] at hk; omega), fun a' ha => ?_, owns_u8 hown1⟩
    subst ha
    exact .inl (hlt a'.block rfl).1
end Go.Proofs.YtdmnddikcpfmfaaGreat
