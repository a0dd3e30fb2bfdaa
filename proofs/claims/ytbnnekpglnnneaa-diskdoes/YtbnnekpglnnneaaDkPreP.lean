/-
  P9.5 in plain words: the two disks beside each other.
-/
import Derived.Test.YtbnnekpglnnneaaDkRWrite
import Derived.Test.YtbnnekpglnnneaaDkRRead
import Derived.Test.YtbnnekpglnnneaaDkFull
namespace Go.Proofs.Ytbnnekpglnnneaa
open Go.RowKit
/-- What both have: the same sectors, behind 'done' writes of 'cut' that the power lets through. -/
structure PRel (s : DS) (t : RS) (n done cut : Nat) : Prop where
  secs : s.secs.map (·.1) = t.secs
  nh : ∀ x ∈ s.secs, x.2 = false
  nb : ∀ b ∈ t.bad, b = false
  ng : t.gone = false
  nc : t.cut = false
  len : s.secs.length = n
  w : s.writes = done
  m : t.many = done
  wl : t.wrote.length = done
  on : s.on = true → s.left = (cut : Int) - (done : Int) ∧ done ≤ cut
  off : s.on = false → done = cut
theorem PRel.tlen {s : DS} {t : RS} {n done cut : Nat} (h : PRel s t n done cut) : t.secs.length = n := by rw [← h.secs, List.length_map, h.len]
theorem PRel.start (n cut : Nat) : PRel { newD n with left := (cut : Int) } (newR n) n 0 cut := by
  refine ⟨?_, fun x hx => ?_, fun b hb => ?_, rfl, rfl, by simp [newD], rfl, rfl, rfl, fun _ => ⟨by show (cut : Int) = _; omega, Nat.zero_le _⟩, fun h => by cases h⟩
  · simp [newD, newR]
  · rw [List.eq_of_mem_replicate hx]
  · exact List.eq_of_mem_replicate hb
theorem PRel.no_on {s : DS} {t : RS} {n done cut : Nat} (h : PRel s t n done cut) {i : Int} (hi : hasB n i = false) (ho : s.on = true) (xs : List Nat) : writeE s i 256 = 1 ∧ writeS s i xs = s := by
  have hi' : hasB s.secs.length i = false := by rw [h.len]; exact hi
  simp [writeE, writeS, ho, hi']
theorem PRel.no_off {s : DS} {i : Int} (ho : s.on = false) (xs : List Nat) : writeE s i 256 = 8 ∧ writeS s i xs = s := by simp [writeE, writeS, ho]
theorem PRel.more {s : DS} {t : RS} {n done cut : Nat} (h : PRel s t n done cut) {k : Nat} (hk : k < n) (hd : done < cut) {xs : List Nat} (hx : xs.length = 256) :
    s.on = true ∧ writeE s (k : Int) 256 = 0 ∧ rwE t (k : Int) 256 = 0 ∧ PRel (writeS s (k : Int) xs) (rwS t (k : Int) xs) n (done + 1) cut := by
  have ho : s.on = true := by
    cases hc : s.on
    · have := h.off hc; omega
    · rfl
  obtain ⟨hl, _⟩ := h.on ho
  have hl0 : s.left ≠ 0 := by omega
  have hlp : 0 < s.left := by omega
  have hb : hasB s.secs.length (k : Int) = true := by rw [h.len]; exact hasB_yes hk
  have hb' : hasB t.secs.length (k : Int) = true := by rw [h.tlen]; exact hasB_yes hk
  have e1 : writeS s (k : Int) xs = putS { s with left := s.left - 1 } k xs := by simp [writeS, ho, hb, hl0, hx, lessL, hlp]
  have e2 : rwS t (k : Int) xs = { t with secs := t.secs.set k xs, bad := t.bad.set k false, many := t.many + 1, wrote := t.wrote ++ [((k : Int), xs)] } := by simp [rwS, h.ng, hb', h.nc, hx]
  refine ⟨ho, by simp [writeE, ho, hb, hl0], by simp [rwE, h.ng, hb', h.nc], ?_⟩
  rw [e1, e2]
  refine ⟨?_, fun x hx' => ?_, fun b hb'' => ?_, h.ng, h.nc, ?_, ?_, ?_, ?_, fun _ => ⟨?_, hd⟩, fun hc => ?_⟩
  · show (s.secs.set k (xs, false)).map (·.1) = t.secs.set k xs
    rw [List.map_set, h.secs]
  · rcases List.mem_or_eq_of_mem_set (show x ∈ s.secs.set k (xs, false) from hx') with h' | h'
    · exact h.nh x h'
    · rw [h']
  · rcases List.mem_or_eq_of_mem_set (show b ∈ t.bad.set k false from hb'') with h' | h'
    · exact h.nb b h'
    · exact h'
  · show (s.secs.set k (xs, false)).length = n
    rw [List.length_set, h.len]
  · show s.writes + 1 = done + 1
    rw [h.w]
  · show t.many + 1 = done + 1
    rw [h.m]
  · show (t.wrote ++ [((k : Int), xs)]).length = done + 1
    rw [List.length_append, h.wl]; rfl
  · show s.left - 1 = (cut : Int) - ((done + 1 : Nat) : Int)
    omega
  · have : s.on = false := hc
    rw [ho] at this; cases this
theorem PRel.last {s : DS} {t : RS} {n done cut : Nat} (h : PRel s t n done cut) {k : Nat} (hk : k < n) (hd : ¬ done < cut) {xs : List Nat} (hx : xs.length = 256) : writeE s (k : Int) 256 = 8 ∧ PRel (writeS s (k : Int) xs) t n done cut := by
  cases ho : s.on
  · obtain ⟨e1, e2⟩ := PRel.no_off (i := (k : Int)) ho xs
    exact ⟨e1, by rw [e2]; exact h⟩
  · obtain ⟨hl, hle⟩ := h.on ho
    have hl0 : s.left = 0 := by omega
    have hb : hasB s.secs.length (k : Int) = true := by rw [h.len]; exact hasB_yes hk
    have e1 : writeS s (k : Int) xs = { s with on := false } := by simp [writeS, ho, hb, hl0, hx]
    refine ⟨by simp [writeE, ho, hb, hl0], ?_⟩
    rw [e1]
    exact ⟨h.secs, h.nh, h.nb, h.ng, h.nc, h.len, h.w, h.m, h.wl, fun hc => (by cases hc), fun _ => by omega⟩
theorem PRel.images {s : DS} {t : RS} {n done cut : Nat} (h : PRel s t n done cut) (hbl : t.bad.length = t.secs.length) : imgE { s with on := true, left := -1 } = 0 ∧ imgD { s with on := true, left := -1 } = t.secs ∧ rimgE t = 0 ∧ rimgD t = t.secs := by
  have hr : ∀ i, i < s.secs.length → readE { s with on := true, left := -1 } (i : Int) = 0 ∧ readD { s with on := true, left := -1 } (i : Int) = (t.secs.getD i []) := by
    intro i hi
    obtain ⟨x, hx⟩ : ∃ x, s.secs[i]? = some x := ⟨_, List.getElem?_eq_getElem hi⟩
    have hxf := h.nh x (List.mem_of_getElem? hx)
    have e1 : readE { s with on := true, left := -1 } (i : Int) = 0 := by rw [readE_at (s := { s with on := true, left := -1 }) rfl hx, hxf]; rfl
    refine ⟨e1, ?_⟩
    rw [readD_at (s := { s with on := true, left := -1 }) rfl hx hxf, ← h.secs, List.getD_eq_getElem?_getD, List.getElem?_map, hx]; rfl
  have hq : ∀ i, i < t.secs.length → rrE t (i : Int) = 0 ∧ rrD t (i : Int) = (t.secs.getD i []) := by
    intro i hi
    have hb : t.bad.getD i false = false := by
      rw [List.getD_eq_getElem?_getD, List.getElem?_eq_getElem (by omega)]
      exact h.nb _ (List.getElem_mem _)
    have e1 : rrE t (i : Int) = 0 := by
      unfold rrE
      rw [if_neg (by rw [h.ng]; decide), if_neg (by rw [hasB_yes hi]; decide), if_neg (by rw [Int.toNat_natCast, hb]; decide)]
    exact ⟨e1, by rw [rrD, if_pos e1, Int.toNat_natCast]⟩
  have hl : s.secs.length = t.secs.length := by rw [← h.secs, List.length_map]
  have hall : (List.range t.secs.length).map (fun i => t.secs.getD i []) = t.secs := by
    apply List.ext_getElem?
    intro i
    by_cases hi : i < t.secs.length
    · simp [hi, List.getD_eq_getElem?_getD]
    · simp [hi]
  refine ⟨imgE_zero (fun x hx => ?_), ?_, rimgE_zero (fun x hx => ?_), ?_⟩
  · obtain ⟨i, hi, rfl⟩ := List.mem_map.1 hx
    exact (hr i (List.mem_range.1 hi)).1
  · have e : imgD { s with on := true, left := -1 } = (List.range s.secs.length).map (fun i => t.secs.getD i []) := by
      rw [imgD, rdL, List.map_map]
      apply List.map_congr_left
      intro i hi
      exact (hr i (List.mem_range.1 hi)).2
    rw [e, hl, hall]
  · obtain ⟨i, hi, rfl⟩ := List.mem_map.1 hx
    exact (hq i (List.mem_range.1 hi)).1
  · rw [rimgD, rrL, List.map_map]
    have e : (List.range t.secs.length).map ((fun x : List Nat × Int => x.1) ∘ fun i : Nat => (rrD t (i : Int), rrE t (i : Int))) = (List.range t.secs.length).map (fun i => t.secs.getD i []) := by
      apply List.map_congr_left
      intro i hi
      exact (hq i (List.mem_range.1 hi)).2
    rw [e, hall]
/-- An operation of the law, and where its bytes lie. -/
structure OpA where
  d : Int
  s : Int
  q : Option Addr
  m : Nat
  c : Nat
  sh : Bool
  B : List Nat
structure OpsSrc (w : World) (p : Option Addr) (n c : Nat) (os : List OpA) : Prop where
  len : os.length = n
  cap : n ≤ c
  at' : 0 < n → ∃ b o, p = some ⟨b, o, none⟩ ∧ b < w.heap.size ∧ ∀ (i : Nat) (x : OpA), os[i]? = some x → w.cell? ⟨b, o + i * 4, none⟩ = some (.int .i64 x.d) ∧ w.cell? ⟨b, o + i * 4 + 1, none⟩ = some (.int .i64 x.s) ∧ w.cell? ⟨b, o + i * 4 + 2, none⟩ = some (.slice x.q x.m x.c) ∧ w.cell? ⟨b, o + i * 4 + 3, none⟩ = some (.bool x.sh)
  bytes : ∀ (i : Nat) (x : OpA), os[i]? = some x → In w x.q x.m x.c x.B
  rg : ∀ x ∈ os, -9223372036854775808 ≤ x.s ∧ x.s ≤ 9223372036854775807
theorem OpsSrc.below {w w' : World} {p : Option Addr} {n c : Nat} {os : List OpA} (h : OpsSrc w p n c os) (hb : Below w.heap.size w w') : OpsSrc w' p n c os :=
  ⟨h.len, h.cap, fun h0 => by
    obtain ⟨b, o, hp, hlt, hc⟩ := h.at' h0
    refine ⟨b, o, hp, Nat.lt_of_lt_of_le hlt hb.size, fun i x hx => ?_⟩
    obtain ⟨h1, h2, h3, h4⟩ := hc i x hx
    exact ⟨(hb.cell (p := ⟨b, _, none⟩) hlt).trans h1, (hb.cell (p := ⟨b, _, none⟩) hlt).trans h2, (hb.cell (p := ⟨b, _, none⟩) hlt).trans h3, (hb.cell (p := ⟨b, _, none⟩) hlt).trans h4⟩, fun i x hx => (h.bytes i x hx).below hb, h.rg⟩
end Go.Proofs.Ytbnnekpglnnneaa
