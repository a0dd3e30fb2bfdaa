/-
  What slices.Clone answers for events.
-/
import Derived.Test.YthafcnilhloldaaNNew
namespace Go.Proofs.Ythafcnilhloldaa
open Go.RowKit
/-- Events as cells; f says where their masks lie. -/
def evc (es : List Ev) (f : Nat → Option Addr × Nat × Nat) : List Value := (es.mapIdx fun i e => [Value.int .i64 e.at', .int .i64 e.kind, .slice (f i).1 (f i).2.1 (f i).2.2]).flatten
theorem flat3 (L : List (List Value)) (h : ∀ l ∈ L, l.length = 3) : L.flatten.length = L.length * 3 ∧ ∀ i r, r < 3 → L.flatten[i * 3 + r]? = (L[i]?).bind (fun l => l[r]?) := by
  induction L with
  | nil => exact ⟨rfl, fun i r _ => by simp⟩
  | cons l t ih =>
    have h3 := h l (by simp)
    obtain ⟨i1, i2⟩ := ih (fun q hq => h q (by simp [hq]))
    refine ⟨by rw [List.flatten_cons, List.length_append, List.length_cons, h3, i1]; omega, fun i r hr => ?_⟩
    rw [List.flatten_cons]
    cases i with
    | zero => rw [List.getElem?_append_left (by omega)]; simp
    | succ j =>
      rw [List.getElem?_append_right (by omega), show (j + 1) * 3 + r - l.length = j * 3 + r from by omega, i2 j r hr]
      simp
theorem evc_len (es : List Ev) (f : Nat → Option Addr × Nat × Nat) : (evc es f).length = es.length * 3 := by
  have := (flat3 (es.mapIdx fun i e => [Value.int .i64 e.at', .int .i64 e.kind, .slice (f i).1 (f i).2.1 (f i).2.2]) (fun l hl => by obtain ⟨i, _, rfl⟩ := List.mem_mapIdx.1 hl; rfl)).1
  rwa [List.length_mapIdx] at this
theorem evc_get (es : List Ev) (f : Nat → Option Addr × Nat × Nat) (i : Nat) (e : Ev) (h : es[i]? = some e) : (evc es f)[i * 3]? = some (.int .i64 e.at') ∧ (evc es f)[i * 3 + 1]? = some (.int .i64 e.kind) ∧ (evc es f)[i * 3 + 2]? = some (.slice (f i).1 (f i).2.1 (f i).2.2) := by
  have hf := (flat3 (es.mapIdx fun i e => [Value.int .i64 e.at', .int .i64 e.kind, .slice (f i).1 (f i).2.1 (f i).2.2]) (fun l hl => by obtain ⟨i, _, rfl⟩ := List.mem_mapIdx.1 hl; rfl)).2 i
  have hm : (es.mapIdx fun i e => [Value.int .i64 e.at', .int .i64 e.kind, .slice (f i).1 (f i).2.1 (f i).2.2])[i]? = some [Value.int .i64 e.at', .int .i64 e.kind, .slice (f i).1 (f i).2.1 (f i).2.2] := by simp [h]
  refine ⟨?_, ?_, ?_⟩
  · have := hf 0 (by omega); rw [hm] at this; exact this
  · have := hf 1 (by omega); rw [hm] at this; exact this
  · have := hf 2 (by omega); rw [hm] at this; exact this
/-- A slice of events that came in. -/
structure EvSrc (w : World) (p : Option Addr) (n c : Nat) (es : List Ev) (f : Nat → Option Addr × Nat × Nat) : Prop where
  len : es.length = n
  cap : n ≤ c
  max : c ≤ maxLen
  room : n * 40 ≤ 140737488355328
  nil : p = none → c = 0
  at' : 0 < n → ∃ b o, p = some ⟨b, o, none⟩ ∧ b < w.heap.size ∧ ∀ j u, (evc es f)[j]? = some u → w.cell? ⟨b, o + j, none⟩ = some u
  mask : ∀ i e, es[i]? = some e → In w (f i).1 (f i).2.1 (f i).2.2 e.mask
theorem EvSrc.below {w w' : World} {p : Option Addr} {n c : Nat} {es : List Ev} {f : Nat → Option Addr × Nat × Nat} (h : EvSrc w p n c es f) (hb : Below w.heap.size w w') : EvSrc w' p n c es f :=
  ⟨h.len, h.cap, h.max, h.room, h.nil, fun h0 => by
    obtain ⟨b, o, hp, hl, hc⟩ := h.at' h0
    exact ⟨b, o, hp, Nat.lt_of_lt_of_le hl hb.size, fun j u hu => (hb.cell (p := ⟨b, o + j, none⟩) hl).trans (hc j u hu)⟩, fun i e he => (h.mask i e he).below hb⟩
theorem infoEv : (Try.prog.info? 72).map (fun i => (i.zero, i.size, i.bytes)) = some (some (.agg #[.int .i64 0, .int .i64 0, .slice none 0 0]), 3, 40) := by kernel_rfl
theorem evc_one (es : List Ev) (f : Nat → Option Addr × Nat × Nat) : ∀ v ∈ evc es f, v.oneCell' = true := by
  intro v hv
  simp only [evc, List.mem_flatten] at hv
  obtain ⟨l, hl, hv⟩ := hv
  obtain ⟨i, _, rfl⟩ := List.mem_mapIdx.1 hl
  exact evs_one v hv
theorem cloneEvs_any (p : Option Addr) (n c : Nat) (es : List Ev) (f : Nat → Option Addr × Nat × Nat) (w : World) (hx : EvSrc w p n c es f) :
    Calls Try.prog 51 #[.slice p n c] w fun e w' => ∃ p' c', e = .returned (.slice p' n c') ∧ w'.ownsRow w.heap.size 72 3 (.slice p' n c') n (evc es f) ∧ Below w.heap.size w w' := by
  have hroom := hx.room
  have HX : Hid (es.length = n) := hx.len
  obtain ⟨i0, hi, hz0, hz1, hz2⟩ := info_parts infoEv
  have hq := fun (w : World) => Lib.run_eql_slice_nil (P := Try.prog) w 25 72 p n c 0 0 Try.underlying25
  cases p with
  | none =>
    have h1 := hx.nil rfl
    have h2 := hx.cap
    have h3 : n = 0 := by omega
    have h4 : es = [] := List.eq_nil_of_length_eq_zero (by rw [HX.out]; exact h3)
    subst h1
    subst h3
    subst h4
    go_enter Try.func51, Try.ntmps51
    go_wp2
    go_ret
    exact ⟨_, _, rfl, World.ownsRow_nil _ _ _ _, Below.refl _ _⟩
  | some a =>
    have ho := World.ownsRow_lit (e := 72) (size := 3) (base := w.heap.size) w #[] 0 (Nat.le_refl _) (by unfold maxLen; omega) (by simp)
    have HO : Hid ((w.alloc (.cells #[] 72)).ownsRow w.heap.size 72 3 (.slice (some ⟨w.heap.size, 0, none⟩) 0 0) 0 []) := ho
    clear ho
    have hsrc : ∀ j u, (evc es f)[j]? = some u → (w.alloc (.cells #[] 72)).cell? (a.add j) = some u := by
      intro j u hu
      have hj : j < (evc es f).length := by
        rcases Nat.lt_or_ge j (evc es f).length with h' | h'
        · exact h'
        · rw [List.getElem?_eq_none h'] at hu; simp at hu
      rw [evc_len, HX.out] at hj
      obtain ⟨b, o, hp, hl, hc⟩ := (hx.below (below_alloc w (.cells #[] 72))).at' (by omega)
      cases hp
      rw [addr_add]
      exact hc j u hu
    have HS : Hid (∀ j u, (evc es f)[j]? = some u → (w.alloc (.cells #[] 72)).cell? (a.add j) = some u) := hsrc
    clear hsrc
    go_enter Try.func51, Try.ntmps51
    go_wp2_with (at_builtin; refine wpList_append_own _ rfl (.tmp 5) (.tmp 6) 25 rfl w.heap.size 72 i0 _ 3 40 Try.underlying25 hi hz0 hz1 hz2 rfl (by decide) (.slice (some ⟨w.heap.size, 0, none⟩) 0 0) 0 [] rfl HO.out a n c (evc es f) rfl (by rw [evc_len, HX.out]) HS.out (evc_one es f) (by unfold maxLen; omega) (by omega) (by simp) ?_; intro v1 w1 hown1 hgrow1 _)
    go_ret
    rw [List.nil_append, Nat.zero_add] at hown1
    obtain ⟨p', c', rfl⟩ := owns_slice hown1
    exact ⟨p', c', rfl, hown1, (below_alloc w _).grown hgrow1 (by simp) (fun k hk => by simp [Value.ownBlock] at hk; omega)⟩
end Go.Proofs.Ythafcnilhloldaa
