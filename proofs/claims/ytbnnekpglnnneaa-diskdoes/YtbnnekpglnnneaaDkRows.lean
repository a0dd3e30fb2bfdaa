/-
  Slices of slices of bytes.
-/
import Derived.Test.YtbnnekpglnnneaaDkRound
import Derived.Lib.LazyBuf
namespace Go.Proofs.Ytbnnekpglnnneaa
open Go.RowKit
/-- A slice of bytes as a value. -/
structure SR where
  p : Option Addr
  n : Nat
  c : Nat
def srV (x : SR) : Value := .slice x.p x.n x.c
theorem srV_one (l : List SR) : ∀ v ∈ l.map srV, v.oneCell' = true := by
  intro v hv
  obtain ⟨x, _, rfl⟩ := List.mem_map.1 hv
  rfl
theorem infoB : (Try.prog.info? 31).map (fun i => (i.zero, i.size, i.bytes)) = some (some (.slice none 0 0), 1, 24) := by kernel_rfl
/-- The slices rs have the bytes Ds. -/
structure EachIn (w : World) (rs : List SR) (Ds : List (List Nat)) : Prop where
  len : rs.length = Ds.length
  each : ∀ (i : Nat) (r : SR) (D : List Nat), rs[i]? = some r → Ds[i]? = some D → In w r.p r.n r.c D
theorem EachIn.nil (w : World) : EachIn w [] [] := ⟨rfl, fun i r D h => by simp at h⟩
theorem EachIn.below {w w' : World} {rs : List SR} {Ds : List (List Nat)} (h : EachIn w rs Ds) (hb : Below w.heap.size w w') : EachIn w' rs Ds := ⟨h.len, fun i r D h1 h2 => (h.each i r D h1 h2).below hb⟩
theorem EachIn.snoc {w : World} {rs : List SR} {Ds : List (List Nat)} {r : SR} {D : List Nat} (h : EachIn w rs Ds) (hr : In w r.p r.n r.c D) : EachIn w (rs ++ [r]) (Ds ++ [D]) := by
  refine ⟨by simp [h.len], fun i r' D' h1 h2 => ?_⟩
  by_cases hi : i < rs.length
  · rw [List.getElem?_append_left hi] at h1
    rw [List.getElem?_append_left (by rw [← h.len]; exact hi)] at h2
    exact h.each i r' D' h1 h2
  · rw [List.getElem?_append_right (by omega)] at h1
    rw [List.getElem?_append_right (by rw [← h.len]; omega), ← h.len] at h2
    cases hk : i - rs.length with
    | zero =>
      rw [hk] at h1 h2
      simp at h1 h2
      subst h1; subst h2
      exact hr
    | succ k => rw [hk] at h1; simp at h1
/-- What is the same in all blocks of cells. -/
theorem In.cellsSame {w w' : World} {p : Option Addr} {n c : Nat} {xs : List Nat} (h : In w p n c xs) (hs : ∀ (k : Nat) (o : Obj), w.heap[k]? = some o → o.isCells = true → w'.heap[k]? = w.heap[k]?) : In w' p n c xs := by
  refine h.same fun a ha h0 => ?_
  obtain ⟨b, o, hp, hlt, hc⟩ := h.at' h0
  rw [hp] at ha
  cases ha
  refine hs b _ (Array.getElem?_eq_getElem hlt) ?_
  have hc0 := hc 0 h0
  simp only [World.cell?, Array.getElem?_eq_getElem hlt] at hc0
  cases ho : w.heap[b] with
  | cells cs t fr => rfl
  | _ => simp [ho] at hc0
theorem EachIn.cellsSame {w w' : World} {rs : List SR} {Ds : List (List Nat)} (h : EachIn w rs Ds) (hs : ∀ (k : Nat) (o : Obj), w.heap[k]? = some o → o.isCells = true → w'.heap[k]? = w.heap[k]?) : EachIn w' rs Ds := ⟨h.len, fun i r D h1 h2 => (h.each i r D h1 h2).cellsSame hs⟩
/-- A slice appended to a slice of slices: the operation. -/
theorem wp_appendB {o : Oper} {a : Act} {w : World} {K : Act → World → Prop} {Q : Exit → Act → World → Prop} (B : Nat) (s x : Operand) (ho : o.op = .call { callee := .builtin .append, args := #[s, x], argTypes := #[36, 36] }) (v : Value) (rs : List SR) (hs : a.eval s = v)
    (hp : w.ownsRow B 31 1 v rs.length (rs.map srV)) (hB : B ≤ w.heap.size) (b o' : Nat) (r : SR) (hx : a.eval x = .slice (some ⟨b, o', none⟩) 1 1) (hnews : w.cell? ⟨b, o', none⟩ = some (srV r)) (hlen : rs.length < 100000)
    (h : ∀ p1 c1 w', w'.ownsRow B 31 1 (.slice p1 (rs.length + 1) c1) (rs.length + 1) ((rs ++ [r]).map srV) → w.grownBy w' v.ownBlock → ((Value.slice p1 (rs.length + 1) c1).ownBlock = v.ownBlock ∨ (Value.slice p1 (rs.length + 1) c1).ownBlock = some w.heap.size) → K (a.put o.dst (.slice p1 (rs.length + 1) c1)) w') : o.wp Try.prog a w K Q := by
  obtain ⟨i0, hi, hz0, hz1, hz2⟩ := info_parts infoB
  obtain ⟨v', w', hr, h2, h3, _, h5⟩ := run_append_own_at (P := Try.prog) w B 36 o.type 31 i0 _ 1 24 Try.underlying36 hi hz0 hz1 hz2 rfl (by decide) v rs.length (rs.map srV) hp ⟨b, o', none⟩ 1 1 [srV r] rfl (fun j u hj => by
      cases j with
      | zero => simp at hj; subst hj; rw [addr_add, Nat.add_zero]; exact hnews
      | succ j => simp at hj) (srV_one [r]) (by unfold maxLen; omega) (by omega) hB
  obtain ⟨p1, c1, rfl⟩ := owns_slice h2
  unfold Oper.wp execOp
  simp only [ho, resolve, invoke, builtin, Sem.run_bind, Sem.run_pure, Result.andThen_ok, List.map_toArray, List.map_cons, List.map_nil, hs, hx, hr]
  exact h p1 c1 w' (by rw [List.map_append]; exact h2) h3 h5
/-- The block is one of bytes. -/
def U8 (w : World) (p : Option Addr) : Prop := ∀ a, p = some a → ∃ cs, w.heap[a.block]? = some (.cells cs 5 (0, 0))
theorem owns_u8 {w : World} {B : Nat} {p : Option Addr} {n m c : Nat} {xs : List Value} (h : w.ownsRow B 5 1 (.slice p n c) m xs) : U8 w p := by
  intro a ha
  rcases h.2 with ⟨h', _⟩ | ⟨g, cap, cur, h', _, hh, _⟩
  · cases h'; cases ha
  · cases h'; cases ha; exact ⟨cur, hh⟩
theorem U8.below {w w' : World} {p : Option Addr} (h : U8 w p) (hb : Below w.heap.size w w') : U8 w' p := fun a ha => by
  obtain ⟨cs, hc⟩ := h a ha
  exact ⟨cs, (hb.block _ (Array.getElem?_eq_some_iff.1 hc).1).trans hc⟩
theorem U8.ne {w : World} {p : Option Addr} (h : U8 w p) {a : Addr} (ha : p = some a) {g : Nat} {t : TypeId} {cs : List Value} (hb : Blk w g t cs) (ht : t ≠ 5) : a.block ≠ g := by
  rintro rfl
  obtain ⟨c, hc⟩ := h a ha
  rw [Blk, hc] at hb
  simp at hb
  exact ht hb.2.symm
theorem U8.ne_row {w : World} {p : Option Addr} (h : U8 w p) {a : Addr} (ha : p = some a) {B : Nat} {e : TypeId} {z : Nat} {v : Value} {n : Nat} {xs : List Value} (ho : w.ownsRow B e z v n xs) (ht : e ≠ 5) : v.ownBlock ≠ some a.block := by
  intro hk
  obtain ⟨c, hc⟩ := h a ha
  obtain ⟨c', hc', _⟩ := owns_row ho hk
  rw [hc] at hc'
  simp at hc'
  exact ht hc'.2.symm
theorem U8.same {w w' : World} {p : Option Addr} (h : U8 w p) (hs : ∀ a, p = some a → w'.heap[a.block]? = w.heap[a.block]?) : U8 w' p := fun a ha => by
  obtain ⟨cs, hc⟩ := h a ha
  exact ⟨cs, (hs a ha).trans hc⟩
def AllU8 (w : World) (rs : List SR) : Prop := ∀ r ∈ rs, U8 w r.p
theorem AllU8.below {w w' : World} {rs : List SR} (h : AllU8 w rs) (hb : Below w.heap.size w w') : AllU8 w' rs := fun r hr => (h r hr).below hb
theorem EachIn.sameU {w w' : World} {rs : List SR} {Ds : List (List Nat)} (h : EachIn w rs Ds) (_hu : AllU8 w rs) (hs : ∀ r ∈ rs, ∀ a, r.p = some a → w'.heap[a.block]? = w.heap[a.block]?) : EachIn w' rs Ds :=
  ⟨h.len, fun i r D h1 h2 => (h.each i r D h1 h2).same (fun a ha _ => hs r (List.mem_of_getElem? h1) a ha)⟩
/-- A row of slices grew: the bytes lie as they lay. -/
theorem grow_same {w w' : World} {rs : List SR} {B : Nat} {e : TypeId} {z : Nat} {v : Value} {n : Nat} {xs : List Value} (hu : AllU8 w rs) (ho : w.ownsRow B e z v n xs) (ht : e ≠ 5) (hg : w.grownBy w' v.ownBlock) : ∀ r ∈ rs, ∀ a, r.p = some a → w'.heap[a.block]? = w.heap[a.block]? := by
  intro r hr a ha
  obtain ⟨c, hc⟩ := hu r hr a ha
  exact hg.block _ (Array.getElem?_eq_some_iff.1 hc).1 (fun e => (hu r hr).ne_row ha ho ht e.symm)
theorem set_same {w : World} {rs : List SR} (hu : AllU8 w rs) {g : Nat} {t : TypeId} {cs : List Value} (hb : Blk w g t cs) (ht : t ≠ 5) (i : Nat) (u : Value) : ∀ r ∈ rs, ∀ a, r.p = some a → (w.setCell ⟨g, i, none⟩ u).heap[a.block]? = w.heap[a.block]? :=
  fun r hr _ ha => heap_setCell_other _ _ _ _ ((hu r hr).ne ha hb ht)
theorem AllU8.same {w w' : World} {rs : List SR} (h : AllU8 w rs) (hs : ∀ r ∈ rs, ∀ a, r.p = some a → w'.heap[a.block]? = w.heap[a.block]?) : AllU8 w' rs := fun r hr => (h r hr).same (hs r hr)
theorem AllU8.snoc {w : World} {rs : List SR} {r : SR} (h : AllU8 w rs) (hr : U8 w r.p) : AllU8 w (rs ++ [r]) := fun x hx => by
  rcases List.mem_append.1 hx with h' | h'
  · exact h x h'
  · rw [List.mem_singleton.1 h']; exact hr
theorem clone_u8 (p : Option Addr) (n c : Nat) (xs : List Nat) (w : World) (hx : In w p n c xs) :
    Calls Try.prog 59 #[.slice p n c] w fun e w' => ∃ p' c', e = .returned (.slice p' n c') ∧ In w' p' n c' xs ∧ Below w.heap.size w w' ∧ (∀ a, p' = some a → w.heap.size ≤ a.block ∨ n = 0) ∧ U8 w' p' := by
  have hroom := hx.room
  have HX : Hid (xs.length = n) := hx.len
  obtain ⟨i0, hi, hz0, hz1, hz2⟩ := info_parts info5
  have hq := fun (w : World) => Lib.run_eql_slice_nil (P := Try.prog) w 31 5 p n c 0 0 Try.underlying31
  cases p with
  | none =>
    have h1 := hx.nil rfl
    have h2 := hx.cap
    have h3 : n = 0 := by omega
    subst h1
    subst h3
    go_enter Try.func59, Try.ntmps59
    go_wp2
    go_ret
    exact ⟨_, _, rfl, hx, Below.refl _ _, fun a h0 => (by cases h0), fun a h0 => (by cases h0)⟩
  | some a =>
    have ho := World.ownsRow_lit (e := 5) (size := 1) (base := w.heap.size) w #[] 0 (Nat.le_refl _) (by unfold maxLen; omega) (by simp)
    have HO : Hid ((w.alloc (.cells #[] 5)).ownsRow w.heap.size 5 1 (.slice (some ⟨w.heap.size, 0, none⟩) 0 0) 0 []) := ho
    clear ho
    go_enter Try.func59, Try.ntmps59
    go_wp2_with (at_builtin; refine wpList_append_own _ rfl (.tmp 5) (.tmp 6) 31 rfl w.heap.size 5 i0 (.int .u8 0) 1 1 Try.underlying31 hi hz0 hz1 hz2 rfl (by decide) (.slice (some ⟨w.heap.size, 0, none⟩) 0 0) 0 [] rfl HO.out a n c (vals xs) rfl (by rw [vals_length, HX.out, Nat.mul_one]) ((hx.below (below_alloc _ _)).cells rfl) (vals_one xs) (by unfold maxLen; omega) (by omega) (by simp) ?_; intro v1 w1 hown1 hgrow1 _)
    go_ret
    rw [List.nil_append, Nat.zero_add] at hown1
    have hlt := hown1.lt
    obtain ⟨p', c', hv, hin⟩ := in_of_owns hown1 hx.byte hroom
    rw [hv] at hown1 hlt
    refine ⟨p', c', congrArg Ending.returned hv, hin, (below_alloc w _).grown hgrow1 (by simp) (fun k hk => by simp [Value.ownBlock] at hk; omega), fun a' ha => ?_, owns_u8 hown1⟩
    subst ha
    exact .inl (hlt a'.block rfl).1
end Go.Proofs.Ytbnnekpglnnneaa
