/-
  Calls that came in.
-/
import Derived.Test.YthafcnilhloldaaNLPages2
namespace Go.Proofs.Ythafcnilhloldaa
open Go.RowKit
/-- A slice of calls that lies in a world. -/
structure CallsSrc (w : World) (p : Option Addr) (n c : Nat) (os : List CallS) : Prop where
  len : os.length = n
  cap : n ≤ c
  max : c ≤ maxLen
  nil : p = none → c = 0
  fill : ∀ x ∈ os, x.f < 256
  at' : 0 < n → ∃ b o, p = some ⟨b, o, none⟩ ∧ b < w.heap.size ∧ ∀ i x, os[i]? = some x → w.cell? ⟨b, o + i * 5, none⟩ = some (.int .i64 x.od) ∧ w.cell? ⟨b, o + i * 5 + 1, none⟩ = some (.int .i64 x.ob) ∧ w.cell? ⟨b, o + i * 5 + 2, none⟩ = some (.int .i64 x.op) ∧ w.cell? ⟨b, o + i * 5 + 3, none⟩ = some (.bool x.nx) ∧ w.cell? ⟨b, o + i * 5 + 4, none⟩ = some (.int .u8 (x.f : Int))
theorem CallsSrc.keep {S : Nat → Prop} {w w' : World} {p : Option Addr} {n c : Nat} {os : List CallS} (h : CallsSrc w p n c os) (hk : Keep S w w') (hS : ∀ k, k < w.heap.size → ¬ S k) : CallsSrc w' p n c os :=
  ⟨h.len, h.cap, h.max, h.nil, h.fill, fun h0 => by
    obtain ⟨b, o, hp, hl, hc⟩ := h.at' h0
    have hb := hk.block b hl (hS b hl)
    have he : ∀ j, w'.cell? ⟨b, j, none⟩ = w.cell? ⟨b, j, none⟩ := fun j => World.cell?_of_block (a := ⟨b, j, none⟩) hb
    exact ⟨b, o, hp, Nat.lt_of_lt_of_le hl hk.size, fun i x hx => by
      obtain ⟨h0, h1, h2, h3, h4⟩ := hc i x hx
      exact ⟨(he _).trans h0, (he _).trans h1, (he _).trans h2, (he _).trans h3, (he _).trans h4⟩⟩⟩
theorem CallsSrc.below {w w' : World} {p : Option Addr} {n c : Nat} {os : List CallS} (h : CallsSrc w p n c os) (hb : Below w.heap.size w w') : CallsSrc w' p n c os :=
  h.keep (S := fun _ => False) (Keep.of_below hb) (fun _ _ e => e)
open Classical in
/-- New refuses a geometry that may not be. -/
theorem new_bad (gb gp : Int) (p : Option Addr) (n c : Nat) (w : World) (hg : ¬ GeoOk gb gp) :
    Calls Try.prog 9 #[.agg #[.int .i64 gb, .int .i64 gp], .slice none 0 0, .slice p n c] w fun e w' => e = .returned (.tuple #[.pointer none, .int .i64 20]) ∧ Below w.heap.size w w' := by
  have hb0 := below_alloc w (.cells #[.int .i64 gb, .int .i64 gp] 23)
  have hm := mayBe_any gb gp (w.alloc (.cells #[.int .i64 gb, .int .i64 gp] 23))
  rw [decide_eq_false hg] at hm
  go_enter Try.func9, Try.ntmps9
  go_wp2_with (go_at_call 28; refine hm.mono ?_; rintro e w1 ⟨rfl, hb1⟩)
  go_ret2
  exact ⟨rfl, bt hb0 hb1⟩
end Go.Proofs.Ythafcnilhloldaa
