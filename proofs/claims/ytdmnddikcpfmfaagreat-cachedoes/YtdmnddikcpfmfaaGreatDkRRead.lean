/-
  What the reference's Read, Image and SameImage answer.
-/
import Derived.Test.YtdmnddikcpfmfaaGreatDkRSet
import Derived.Test.YtdmnddikcpfmfaaGreatEqual
namespace Go.Proofs.YtdmnddikcpfmfaaGreat
open Go.RowKit
theorem row_get' (rs : List SR) (k : Nat) (h : k < rs.length) : (rs.map srV)[k]? = some (srV (rs.getD k ⟨none, 0, 0⟩)) := by simp [h, List.getD_eq_getElem?_getD]
theorem bo_get' (bs : List Bool) (k : Nat) (h : k < bs.length) : (valsBo bs)[k]? = some (.bool (bs.getD k false)) := by simp [valsBo, h, List.getD_eq_getElem?_getD]
def rrE (t : RS) (i : Int) : Int := if t.gone = true then 8 else if hasB t.secs.length i = false then 1 else if t.bad.getD i.toNat false = true then 80 else 0
def rrD (t : RS) (i : Int) : List Nat := if rrE t i = 0 then t.secs.getD i.toNat [] else []
set_option maxRecDepth 100000 in
set_option maxHeartbeats 1000000 in
theorem rread_any {w : World} {r : Nat} {V : RV} {t : RS} (h : RefIn w r V t) (i : Int) : Calls Tryz.prog 56 #[.pointer (some ⟨r, 0, none⟩), .int .i64 i] w fun e w' =>
    ∃ p c, e = .returned (.tuple #[.slice p (rrD t i).length c, .int .i64 (rrE t i)]) ∧ In w' p (rrD t i).length c (rrD t i) ∧ Below w.heap.size w w' ∧ U8 w' p := by
  have hh := there_any h i
  have g0 := h.blk.cell' (i := 0) (v := V.sv) rfl
  have g1 := h.blk.cell' (i := 1) (v := V.bv) rfl
  have g2 := h.blk.cell' (i := 2) (v := .bool t.gone) rfl
  cases hg : t.gone
  · rw [hg] at g2
    cases hb : hasB t.secs.length i
    · have e1 : rrE t i = 1 := by simp [rrE, hg, hb]
      have e2 : rrD t i = [] := by simp [rrD, e1]
      rw [e1, e2]
      rw [hb] at hh
      go_enter Tryz.func56, Tryz.ntmps56
      go_wp2_with (go_at_call 87; refine hh.mono ?_; rintro e w' ⟨rfl, hw'⟩; have hw2 := hw'.symm; subst hw2; clear hw')
      go_ret2
      exact ⟨none, 0, rfl, In.empty _, Below.refl _ _, fun a ha => by cases ha⟩
    · rw [hb] at hh
      obtain ⟨k, rfl, hk⟩ := hasB_nat hb
      have hlen := h.sec.len
      have hbl := h.bl
      obtain ⟨g, cap, hsv, _, _⟩ := owns_at h.srow (by omega)
      obtain ⟨gb, capb, hbv, _, _⟩ := owns_at h.brow (by omega)
      have q1 := h.srow
      rw [hsv] at q1 g0
      have q2 := h.brow
      rw [hbv] at q2 g1
      have cg := q1.cellAt k (by omega)
      rw [row_get' _ _ (by omega)] at cg
      have cb := q2.cellAt k (by omega)
      rw [bo_get' _ _ (by omega)] at cb
      have hn8 : (V.rs.length : Int) ≤ 8192 := by have := h.n2; omega
      have hnb8 : (t.bad.length : Int) ≤ 8192 := by have := h.n2; omega
      have hkn : (k : Int) < (V.rs.length : Int) := by omega
      have hknb : (k : Int) < (t.bad.length : Int) := by omega
      obtain ⟨x, hx⟩ : ∃ x, V.rs[k]? = some x := ⟨_, List.getElem?_eq_getElem (by omega)⟩
      obtain ⟨D, hD⟩ : ∃ D, t.secs[k]? = some D := ⟨_, List.getElem?_eq_getElem hk⟩
      have hin := h.sec.each k x D hx hD
      have hI := h.ok D (List.mem_of_getElem? hD)
      have hxn : x.n = 256 := by rw [← hin.len]; exact hI.1
      have hxd : V.rs.getD k ⟨none, 0, 0⟩ = x := by rw [List.getD_eq_getElem?_getD, hx]; rfl
      rw [hxd, srV, hxn] at cg
      rw [hxn] at hin
      have hDd : t.secs.getD k [] = D := by rw [List.getD_eq_getElem?_getD, hD]; rfl
      cases hbad : t.bad.getD k false
      · have e1 : rrE t (k : Int) = 0 := by unfold rrE; rw [if_neg (by rw [hg]; decide), if_neg (by rw [hb]; decide), if_neg (by rw [Int.toNat_natCast, hbad]; decide)]
        have e2 : rrD t (k : Int) = D := by rw [rrD, if_pos e1, Int.toNat_natCast, hDd]
        rw [e1, e2, hI.1]
        rw [hbad] at cb
        generalize V.rs.length = n at *
        generalize t.bad.length = nb at *
        clear e1 e2 q1 q2 hxd hx hD hDd hxn hbad
        go_enter Tryz.func56, Tryz.ntmps56
        go_wp2_with (first
          | (go_at_call 87; refine hh.mono ?_; rintro e w' ⟨rfl, hw'⟩; have hw2 := hw'.symm; subst hw2; clear hw')
          | (go_at_call 93; refine (copied_any _ _ _ _ hin).mono ?_; rintro e w' ⟨p', c', rfl, hin', hbel, hu⟩))
        go_ret2
        exact ⟨_, _, rfl, hin', hbel, hu⟩
      · have e1 : rrE t (k : Int) = 80 := by unfold rrE; rw [if_neg (by rw [hg]; decide), if_neg (by rw [hb]; decide), if_pos (by rw [Int.toNat_natCast, hbad])]
        have e2 : rrD t (k : Int) = [] := by simp [rrD, e1]
        rw [e1, e2]
        rw [hbad] at cb
        generalize V.rs.length = n at *
        generalize t.bad.length = nb at *
        clear e1 e2 q1 q2 hxd hx hD hDd hxn hbad
        go_enter Tryz.func56, Tryz.ntmps56
        go_wp2_with (go_at_call 87; refine hh.mono ?_; rintro e w' ⟨rfl, hw'⟩; have hw2 := hw'.symm; subst hw2; clear hw')
        go_ret2
        exact ⟨none, 0, rfl, In.empty _, Below.refl _ _, fun a ha => by cases ha⟩
  · have e1 : rrE t i = 8 := by simp [rrE, hg]
    have e2 : rrD t i = [] := by simp [rrD, e1]
    rw [e1, e2]
    rw [hg] at g2
    go_enter Tryz.func56, Tryz.ntmps56
    go_wp2
    go_ret2
    exact ⟨none, 0, rfl, In.empty _, Below.refl _ _, fun a ha => by cases ha⟩
/-- What reads of the first k sectors answer. -/
def rrL (t : RS) (k : Nat) : List (List Nat × Int) := (List.range k).map fun i : Nat => (rrD t (i : Int), rrE t (i : Int))
theorem rrL_succ (t : RS) (k : Nat) : rrL t (k + 1) = rrL t k ++ [(rrD t (k : Int), rrE t (k : Int))] := by simp [rrL, List.range_succ]
def rimgE (t : RS) : Int := ((rrL t t.secs.length).find? (fun x => x.2 != 0)).elim 0 (·.2)
def rimgD (t : RS) : List (List Nat) := (rrL t t.secs.length).map (·.1)
theorem rimgE_zero {t : RS} (h : ∀ x ∈ rrL t t.secs.length, x.2 = 0) : rimgE t = 0 := by
  have : (rrL t t.secs.length).find? (fun x => x.2 != 0) = none := by
    rw [List.find?_eq_none]
    intro x hx
    simp [h x hx]
  rw [rimgE, this]; rfl
theorem rrL_take (t : RS) (k m : Nat) (h : k ≤ m) : (rrL t m).take k = rrL t k := by
  rw [rrL, rrL, ← List.map_take, List.take_range, Nat.min_eq_left h]
theorem rimgE_stop {t : RS} {k : Nat} (hk : k < t.secs.length) (h : ∀ x ∈ rrL t k, x.2 = 0) (he : rrE t (k : Int) ≠ 0) : rimgE t = rrE t (k : Int) := by
  have e : rrL t t.secs.length = rrL t (k + 1) ++ (rrL t t.secs.length).drop (k + 1) := by
    rw [← rrL_take t (k + 1) t.secs.length hk, List.take_append_drop]
  have f : (rrL t t.secs.length).find? (fun x => x.2 != 0) = some (rrD t (k : Int), rrE t (k : Int)) := by
    rw [e, rrL_succ, List.append_assoc, List.find?_append]
    have n : (rrL t k).find? (fun x => x.2 != 0) = none := by
      rw [List.find?_eq_none]
      intro x hx
      simp [h x hx]
    rw [n, Option.none_or, List.singleton_append, List.find?_cons_of_pos (by simpa using he)]
  rw [rimgE, f]; rfl
/-- The reference's image under way. -/
structure RImg (w W : World) (v : Value) (rs : List SR) (Ds : List (List Nat)) : Prop where
  row : W.ownsRow w.heap.size 52 1 v rs.length (rs.map srV)
  each : EachIn W rs Ds
  u8 : AllU8 W rs
  bel : Below w.heap.size w W
theorem RImg.grown {w W w4 wc : World} {v : Value} {rs : List SR} {Ds : List (List Nat)} {pc : Option Addr} {m cc : Nat} {D : List Nat} (h : RImg w W v rs Ds) (ha : Below W.heap.size W (wc.alloc (.cells #[.slice pc m cc] 52))) (hin : In wc pc m cc D) (hu : U8 wc pc) (hg : (wc.alloc (.cells #[.slice pc m cc] 52)).grownBy w4 v.ownBlock)
    {v1 : Value} (hp : w4.ownsRow w.heap.size 52 1 v1 (rs.length + 1) (rs.map srV ++ [.slice pc m cc])) : RImg w w4 v1 (rs ++ [⟨pc, m, cc⟩]) (Ds ++ [D]) := by
  have hrA := owns_below h.row ha
  have uA : AllU8 (wc.alloc (.cells #[.slice pc m cc] 52)) (rs ++ [⟨pc, m, cc⟩]) := (h.u8.below ha).snoc (hu.below (below_alloc wc _))
  have eA : EachIn (wc.alloc (.cells #[.slice pc m cc] 52)) (rs ++ [⟨pc, m, cc⟩]) (Ds ++ [D]) := (h.each.below ha).snoc (r := ⟨pc, m, cc⟩) (hin.below (below_alloc wc _))
  have s4 := grow_same uA hrA (by decide) hg
  exact ⟨by rw [List.length_append, List.map_append]; exact hp, eA.sameU uA s4, uA.same s4, (bt h.bel ha).grown hg (Nat.le_trans h.bel.size ha.size) (fun j hj => (h.row.lt j hj).1)⟩
set_option linter.unusedSimpArgs false in
set_option maxRecDepth 100000 in
set_option maxHeartbeats 2000000 in
theorem rimage_any {w : World} {r : Nat} {V : RV} {t : RS} (h : RefIn w r V t) :
    Calls Tryz.prog 14 #[.pointer (some ⟨r, 0, none⟩)] w fun e w' => Below w.heap.size w w' ∧ ((rimgE t = 0 ∧ ∃ v rs, e = .returned (.tuple #[v, .int .i64 0]) ∧ w'.ownsRow w.heap.size 52 1 v rs.length (rs.map srV) ∧ EachIn w' rs (rimgD t) ∧ AllU8 w' rs) ∨
      (rimgE t ≠ 0 ∧ e = .returned (.tuple #[.slice none 0 0, .int .i64 (rimgE t)]))) := by
  obtain ⟨i0, hi, hz0, hz1, hz2⟩ := info_parts infoB
  have hn8 : (t.secs.length : Int) ≤ 8192 := by have := h.n2; omega
  have HD : Hid (rimgD t = (rrL t t.secs.length).map (·.1)) := rfl
  go_enter Tryz.func14, Tryz.ntmps14
  go_wp2_with fail
  go_loopw [4, 5] (fun v i wr => ∃ (k : Nat) (rs : List SR), k ≤ t.secs.length ∧ i = .int .i64 (k : Int) ∧ RImg w wr v rs ((rrL t k).map (·.1)) ∧ Hid (∀ x ∈ rrL t k, x.2 = 0)) (fun _ i _ => t.secs.length - (intOf i).toNat)
  case atStart => exact ⟨0, [], Nat.zero_le _, rfl, ⟨World.ownsRow_nil _ _ _ _, EachIn.nil _, (fun r hr => by simp at hr), Below.refl _ _⟩, fun x hx => by simp [rrL] at hx⟩
  case round =>
    obtain ⟨k, rs, hk, rfl, hI, hE⟩ := hrel
    have hr := h.below hI.bel
    have hsz := rsize_any hr
    by_cases hlt : k < t.secs.length
    · have hki : (k : Int) < (t.secs.length : Int) := by omega
      have hrd := rread_any hr (k : Int)
      have HU : Hid (rrL t (k + 1) = rrL t k ++ [(rrD t (k : Int), rrE t (k : Int))]) := rrL_succ t k
      by_cases he : rrE t (k : Int) = 0
      · have hrs : rs.length < 100000 := by have h1 := hI.each.len; rw [List.length_map, rrL, List.length_map, List.length_range] at h1; have := h.n2; omega
        rw [he] at hrd HU
        generalize rrD t (k : Int) = D at *
        obtain ⟨m, hm⟩ : ∃ m, D.length = m := ⟨_, rfl⟩
        rw [hm] at hrd
        clear he
        go_wp2_with (first
          | (go_at_call 55; refine hsz.mono ?_; rintro e w' ⟨rfl, hw'⟩; have hw2 := hw'.symm; subst hw2; clear hw')
          | (go_at_call 56; refine hrd.mono ?_; rintro e w3 ⟨p3, c3, rfl, hin3, hb3, hu3⟩)
          | (at_builtin; refine wpList_append_own _ rfl (.tmp 23) (.tmp 25) 45 rfl w.heap.size 52 i0 (.slice none 0 0) 1 24 Tryz.underlying45 hi hz0 hz1 hz2 rfl (by decide) _ rs.length (rs.map srV) rfl (owns_below hI.row (bt hb3 (below_alloc w3 _))) ⟨w3.heap.size, 0, none⟩ 1 1 [.slice p3 m c3] rfl rfl (fun j u hj => by
              cases j with
              | zero => simp at hj; subst hj; exact (Blk.new' w3 52 #[.slice p3 m c3]).cell' rfl
              | succ j => simp at hj) (by intro u hu; simp at hu; subst hu; rfl) (by unfold maxLen; omega) (by omega) (Nat.le_trans hI.bel.size (bt hb3 (below_alloc w3 _)).size) ?_; intro v1 w4 hown1 hgrow1 _))
        go_roundw
        case rel => exact ⟨k + 1, _, by omega, by go_num, by rw [HU.out, List.map_append]; exact hI.grown (bt hb3 (below_alloc w3 _)) hin3 hu3 hgrow1 hown1, by
            show ∀ x ∈ rrL t (k + 1), x.2 = 0
            rw [HU.out]
            intro x hx
            rcases List.mem_append.1 hx with h' | h'
            · exact hE.out x h'
            · rw [List.mem_singleton.1 h']⟩
        case measure => simp [intOf]; omega
      · have hst := rimgE_stop hlt hE.out he
        generalize rrE t (k : Int) = E at *
        have hEb : (E != 0) = true := by simp [he]
        go_wp2_with (first
          | (go_at_call 55; refine hsz.mono ?_; rintro e w' ⟨rfl, hw'⟩; have hw2 := hw'.symm; subst hw2; clear hw')
          | (go_at_call 56; refine hrd.mono ?_; rintro e w3 ⟨p3, c3, rfl, hin3, hb3, hu3⟩))
        go_ret2
        exact ⟨bt hI.bel hb3, .inr ⟨by rw [hst]; exact he, by rw [hst]; rfl⟩⟩
    · obtain rfl : k = t.secs.length := by omega
      have hki : ¬ (t.secs.length : Int) < (t.secs.length : Int) := by omega
      have hz := rimgE_zero hE.out
      go_wp2_with (go_at_call 55; refine hsz.mono ?_; rintro e w' ⟨rfl, hw'⟩; have hw2 := hw'.symm; subst hw2; clear hw')
      go_ret2
      exact ⟨hI.bel, .inl ⟨hz, _, rs, rfl, hI.row, by rw [HD.out]; exact hI.each, hI.u8⟩⟩
/-- A slice of slices of bytes, to be read. -/
structure RdB (w : World) (p : Option Addr) (n c : Nat) (rs : List SR) (Ds : List (List Nat)) : Prop where
  len : rs.length = n
  each : EachIn w rs Ds
  at' : 0 < n → ∃ b o, p = some ⟨b, o, none⟩ ∧ b < w.heap.size ∧ ∀ i r, rs[i]? = some r → w.cell? ⟨b, o + i, none⟩ = some (srV r)
  cap : n ≤ c
theorem rdB_of {w : World} {B : Nat} {v : Value} {rs : List SR} {Ds : List (List Nat)} (h : w.ownsRow B 52 1 v rs.length (rs.map srV)) (he : EachIn w rs Ds) : ∃ p c, v = .slice p rs.length c ∧ RdB w p rs.length c rs Ds := by
  rcases Nat.eq_zero_or_pos rs.length with h0 | h0
  · obtain ⟨p, c, hv⟩ := owns_slice h
    exact ⟨p, c, hv, rfl, he, fun h' => by omega, by omega⟩
  · obtain ⟨g, cap, hv, hlt, hc⟩ := owns_at h h0
    refine ⟨_, _, hv, rfl, he, fun _ => ⟨g, 0, rfl, hlt, fun i r hr => ?_⟩, hc⟩
    rw [hv] at h
    have hi : i < rs.length := (List.getElem?_eq_some_iff.1 hr).1
    rw [Nat.zero_add, h.cellAt i (by omega), List.getElem?_map, hr]; rfl
theorem RdB.below {w w' : World} {p : Option Addr} {n c : Nat} {rs : List SR} {Ds : List (List Nat)} (h : RdB w p n c rs Ds) (hb : Below w.heap.size w w') : RdB w' p n c rs Ds :=
  ⟨h.len, h.each.below hb, fun h0 => by
    obtain ⟨b, o, hp, hlt, hc⟩ := h.at' h0
    exact ⟨b, o, hp, Nat.lt_of_lt_of_le hlt hb.size, fun i r hr => (hb.cell (p := ⟨b, o + i, none⟩) hlt).trans (hc i r hr)⟩, h.cap⟩
set_option linter.unusedSimpArgs false in
set_option maxRecDepth 100000 in
set_option maxHeartbeats 2000000 in
theorem sameImage_any {w : World} {p q : Option Addr} {n m c d : Nat} {ra rb : List SR} {Da Db : List (List Nat)} (ha : RdB w p n c ra Da) (hb : RdB w q m d rb Db) (hn : n ≤ 100000) :
    Calls Tryz.prog 15 #[.slice p n c, .slice q m d] w fun e w' => e = .returned (.bool (Da == Db)) ∧ Below w.heap.size w w' := by
  have la := ha.each.len
  have lb := hb.each.len
  have lra := ha.len
  have lrb := hb.len
  by_cases hnm : n = m
  · subst hnm
    have hni : (n : Int) ≤ 100000 := by omega
    have HA : Hid (Da.length = n) := by show _ = _; omega
    have HB : Hid (Db.length = n) := by show _ = _; omega
    clear la lb
    go_enter Tryz.func15, Tryz.ntmps15
    go_wp2_with fail
    go_loopw [5] (fun i wr => ∃ k : Nat, k ≤ n ∧ i = .int .i64 (k : Int) ∧ Hid (Da.take k = Db.take k) ∧ Below w.heap.size w wr) (fun i _ => n - (intOf i).toNat)
    case atStart => exact ⟨0, Nat.zero_le _, rfl, by show _ = _; simp, Below.refl _ _⟩
    case round =>
      obtain ⟨k, hk, rfl, hT, hB⟩ := hrel
      by_cases hlt : k < n
      · have hki : (k : Int) < (n : Int) := by omega
        have a1 := ha.below hB
        have b1 := hb.below hB
        obtain ⟨ba, oa, rfl, _, fa⟩ := a1.at' (by omega)
        obtain ⟨bb, ob, rfl, _, fb⟩ := b1.at' (by omega)
        obtain ⟨xa, hxa⟩ : ∃ x, ra[k]? = some x := ⟨_, List.getElem?_eq_getElem (by omega)⟩
        obtain ⟨xb, hxb⟩ : ∃ x, rb[k]? = some x := ⟨_, List.getElem?_eq_getElem (by omega)⟩
        obtain ⟨ya, hya⟩ : ∃ x, Da[k]? = some x := ⟨_, List.getElem?_eq_getElem (by rw [HA.out]; exact hlt)⟩
        obtain ⟨yb, hyb⟩ : ∃ x, Db[k]? = some x := ⟨_, List.getElem?_eq_getElem (by rw [HB.out]; exact hlt)⟩
        have ca := fa k xa hxa
        have cb := fb k xb hxb
        unfold srV at ca cb
        have ia := a1.each.each k xa ya hxa hya
        have ib := b1.each.each k xb yb hxb hyb
        have va := conv_in ia
        have vb := conv_in ib
        have hse := str_eq ia.byte ib.byte
        have HY : Hid (Da.take (k + 1) = Db.take (k + 1) ↔ ya = yb) := by
          show _ ↔ _
          rw [List.take_add_one, List.take_add_one, hya, hyb, hT.out]
          simp
        have HN : Hid (ya ≠ yb → Da ≠ Db) := by
          intro h e
          rw [e, hyb] at hya
          cases hya
          exact h rfl
        clear fa fb hxa hxb hya hyb a1 b1 va vb
        by_cases hy : ya = yb
        · have HYY : Hid (Da.take (k + 1) = Db.take (k + 1)) := HY.out.2 hy
          rw [show (ya == yb) = true from by simp [hy]] at hse
          clear HY HN
          go_wp2_with fail
          refine wp_region_noPanic ?_
          refine wp_region_held_drew (S := fun X => X.cell? ⟨ba, oa + k, none⟩ = some (.slice xa.p xa.n xa.c) ∧ X.cell? ⟨bb, ob + k, none⟩ = some (.slice xb.p xb.n xb.c) ∧ In X xa.p xa.n xa.c ya ∧ In X xb.p xb.n xb.c yb) (by kernel_rfl) ⟨ca, cb, ia.below ((Below.refl _ _).drew), ib.below ((Below.refl _ _).drew)⟩ (fun hHeld => ?_)
          refine wpAnyH_take (i := 0) (v := ?_) rfl (by kernel_rfl) (by kernel_rfl) (by kernel_rfl) (fun _ _ _ h => h) (Or.inl ⟨by rfl, ?_⟩) hHeld ?_
          rotate_left
          · intro w' hSw; try dsimp only at hSw
            obtain ⟨s1, s2, s3, s4⟩ := hSw
            have v3 := conv_in s3
            have v4 := conv_in s4
            go_simp; try (with_reducible rfl)
          try simp only [Act.put, List.getElem_toArray, List.getElem_cons_succ, List.getElem_cons_zero, List.setIfInBounds_toArray, List.set_cons_zero, List.set_cons_succ]
          refine wpAnyH_take (i := 1) (v := ?_) rfl (by kernel_rfl) (by kernel_rfl) (by kernel_rfl) (fun _ _ _ h => h) (Or.inl ⟨by rfl, ?_⟩) hHeld ?_
          rotate_left
          · intro w' hSw; try dsimp only at hSw
            obtain ⟨s1, s2, s3, s4⟩ := hSw
            have v3 := conv_in s3
            have v4 := conv_in s4
            go_simp; try (with_reducible rfl)
          try simp only [Act.put, List.getElem_toArray, List.getElem_cons_succ, List.getElem_cons_zero, List.setIfInBounds_toArray, List.set_cons_zero, List.set_cons_succ]
          refine wpAnyH_take (i := 2) (v := ?_) rfl (by kernel_rfl) (by kernel_rfl) (by kernel_rfl) (fun _ _ _ h => h) (Or.inl ⟨by rfl, ?_⟩) hHeld ?_
          rotate_left
          · intro w' hSw; try dsimp only at hSw
            obtain ⟨s1, s2, s3, s4⟩ := hSw
            have v3 := conv_in s3
            have v4 := conv_in s4
            go_simp; try (with_reducible rfl)
          try simp only [Act.put, List.getElem_toArray, List.getElem_cons_succ, List.getElem_cons_zero, List.setIfInBounds_toArray, List.set_cons_zero, List.set_cons_succ]
          refine wpAnyH_take (i := 3) (v := ?_) rfl (by kernel_rfl) (by kernel_rfl) (by kernel_rfl) (fun _ _ _ h => h) (Or.inl ⟨by rfl, ?_⟩) hHeld ?_
          rotate_left
          · intro w' hSw; try dsimp only at hSw
            obtain ⟨s1, s2, s3, s4⟩ := hSw
            have v3 := conv_in s3
            have v4 := conv_in s4
            go_simp; try (with_reducible rfl)
          try simp only [Act.put, List.getElem_toArray, List.getElem_cons_succ, List.getElem_cons_zero, List.setIfInBounds_toArray, List.set_cons_zero, List.set_cons_succ]
          refine wpAnyH_take (i := 4) (v := ?_) rfl (by kernel_rfl) (by kernel_rfl) (by kernel_rfl) (fun _ _ _ h => h) (Or.inl ⟨by rfl, ?_⟩) hHeld ?_
          rotate_left
          · intro w' hSw; try dsimp only at hSw
            obtain ⟨s1, s2, s3, s4⟩ := hSw
            have v3 := conv_in s3
            have v4 := conv_in s4
            go_simp; try (with_reducible rfl)
          try simp only [Act.put, List.getElem_toArray, List.getElem_cons_succ, List.getElem_cons_zero, List.setIfInBounds_toArray, List.set_cons_zero, List.set_cons_succ]
          refine wpAnyH_take (i := 5) (v := ?_) rfl (by kernel_rfl) (by kernel_rfl) (by kernel_rfl) (fun _ _ _ h => h) (Or.inl ⟨by rfl, ?_⟩) hHeld ?_
          rotate_left
          · intro w' hSw; try dsimp only at hSw
            obtain ⟨s1, s2, s3, s4⟩ := hSw
            have v3 := conv_in s3
            have v4 := conv_in s4
            go_simp; try (with_reducible rfl)
          try simp only [Act.put, List.getElem_toArray, List.getElem_cons_succ, List.getElem_cons_zero, List.setIfInBounds_toArray, List.set_cons_zero, List.set_cons_succ]
          refine wpAnyH_take (i := 6) (v := ?_) rfl (by kernel_rfl) (by kernel_rfl) (by kernel_rfl) (fun _ _ _ h => h) (Or.inl ⟨by rfl, ?_⟩) hHeld ?_
          rotate_left
          · intro w' hSw; try dsimp only at hSw
            obtain ⟨s1, s2, s3, s4⟩ := hSw
            have v3 := conv_in s3
            have v4 := conv_in s4
            go_simp; try (with_reducible rfl)
          try simp only [Act.put, List.getElem_toArray, List.getElem_cons_succ, List.getElem_cons_zero, List.setIfInBounds_toArray, List.set_cons_zero, List.set_cons_succ]
          refine wpAnyH_take (i := 7) (v := ?_) rfl (by kernel_rfl) (by kernel_rfl) (by kernel_rfl) (fun _ _ _ h => h) (Or.inl ⟨by rfl, ?_⟩) hHeld ?_
          rotate_left
          · intro w' hSw; try dsimp only at hSw
            obtain ⟨s1, s2, s3, s4⟩ := hSw
            have v3 := conv_in s3
            have v4 := conv_in s4
            go_simp; try (with_reducible rfl)
          try simp only [Act.put, List.getElem_toArray, List.getElem_cons_succ, List.getElem_cons_zero, List.setIfInBounds_toArray, List.set_cons_zero, List.set_cons_succ]
          refine wpAnyH_take (i := 8) (v := ?_) rfl (by kernel_rfl) (by kernel_rfl) (by kernel_rfl) (fun _ _ _ h => h) (Or.inl ⟨by rfl, ?_⟩) hHeld ?_
          rotate_left
          · intro w' hSw; try dsimp only at hSw
            obtain ⟨s1, s2, s3, s4⟩ := hSw
            have v3 := conv_in s3
            have v4 := conv_in s4
            go_simp; try (with_reducible rfl)
          try simp only [Act.put, List.getElem_toArray, List.getElem_cons_succ, List.getElem_cons_zero, List.setIfInBounds_toArray, List.set_cons_zero, List.set_cons_succ]
          refine wpAnyH_take (i := 9) (v := ?_) rfl (by kernel_rfl) (by kernel_rfl) (by kernel_rfl) (fun _ _ _ h => h) (Or.inl ⟨by rfl, ?_⟩) hHeld ?_
          rotate_left
          · intro w' hSw; try dsimp only at hSw
            obtain ⟨s1, s2, s3, s4⟩ := hSw
            have v3 := conv_in s3
            have v4 := conv_in s4
            go_simp; try (with_reducible rfl)
          try simp only [Act.put, List.getElem_toArray, List.getElem_cons_succ, List.getElem_cons_zero, List.setIfInBounds_toArray, List.set_cons_zero, List.set_cons_succ]
          refine wpAnyH_take (i := 10) (v := ?_) rfl (by kernel_rfl) (by kernel_rfl) (by kernel_rfl) (fun _ _ _ h => h) (Or.inl ⟨by rfl, ?_⟩) hHeld ?_
          rotate_left
          · intro w' hSw; try dsimp only at hSw
            go_simp; try (with_reducible rfl)
          try simp only [Act.put, List.getElem_toArray, List.getElem_cons_succ, List.getElem_cons_zero, List.setIfInBounds_toArray, List.set_cons_zero, List.set_cons_succ]
          refine wpAnyH_done (by kernel_rfl) ?_ _
          refine NoPanic.normal ?_
          go_wp2_with fail
          go_roundw
          case rel => exact ⟨k + 1, by omega, by go_num, HYY, hB.drew⟩
          case measure => simp [intOf]; omega
        · have HDD : Hid ((Da == Db) = false) := beq_eq_false_iff_ne.2 (HN.out hy)
          rw [show (ya == yb) = false from beq_eq_false_iff_ne.2 hy] at hse
          clear HY HN
          go_wp2_with fail
          refine wp_region_noPanic ?_
          refine wp_region_held_drew (S := fun X => X.cell? ⟨ba, oa + k, none⟩ = some (.slice xa.p xa.n xa.c) ∧ X.cell? ⟨bb, ob + k, none⟩ = some (.slice xb.p xb.n xb.c) ∧ In X xa.p xa.n xa.c ya ∧ In X xb.p xb.n xb.c yb) (by kernel_rfl) ⟨ca, cb, ia.below ((Below.refl _ _).drew), ib.below ((Below.refl _ _).drew)⟩ (fun hHeld => ?_)
          refine wpAnyH_take (i := 0) (v := ?_) rfl (by kernel_rfl) (by kernel_rfl) (by kernel_rfl) (fun _ _ _ h => h) (Or.inl ⟨by rfl, ?_⟩) hHeld ?_
          rotate_left
          · intro w' hSw; try dsimp only at hSw
            obtain ⟨s1, s2, s3, s4⟩ := hSw
            have v3 := conv_in s3
            have v4 := conv_in s4
            go_simp; try (with_reducible rfl)
          try simp only [Act.put, List.getElem_toArray, List.getElem_cons_succ, List.getElem_cons_zero, List.setIfInBounds_toArray, List.set_cons_zero, List.set_cons_succ]
          refine wpAnyH_take (i := 1) (v := ?_) rfl (by kernel_rfl) (by kernel_rfl) (by kernel_rfl) (fun _ _ _ h => h) (Or.inl ⟨by rfl, ?_⟩) hHeld ?_
          rotate_left
          · intro w' hSw; try dsimp only at hSw
            obtain ⟨s1, s2, s3, s4⟩ := hSw
            have v3 := conv_in s3
            have v4 := conv_in s4
            go_simp; try (with_reducible rfl)
          try simp only [Act.put, List.getElem_toArray, List.getElem_cons_succ, List.getElem_cons_zero, List.setIfInBounds_toArray, List.set_cons_zero, List.set_cons_succ]
          refine wpAnyH_take (i := 2) (v := ?_) rfl (by kernel_rfl) (by kernel_rfl) (by kernel_rfl) (fun _ _ _ h => h) (Or.inl ⟨by rfl, ?_⟩) hHeld ?_
          rotate_left
          · intro w' hSw; try dsimp only at hSw
            obtain ⟨s1, s2, s3, s4⟩ := hSw
            have v3 := conv_in s3
            have v4 := conv_in s4
            go_simp; try (with_reducible rfl)
          try simp only [Act.put, List.getElem_toArray, List.getElem_cons_succ, List.getElem_cons_zero, List.setIfInBounds_toArray, List.set_cons_zero, List.set_cons_succ]
          refine wpAnyH_take (i := 3) (v := ?_) rfl (by kernel_rfl) (by kernel_rfl) (by kernel_rfl) (fun _ _ _ h => h) (Or.inl ⟨by rfl, ?_⟩) hHeld ?_
          rotate_left
          · intro w' hSw; try dsimp only at hSw
            obtain ⟨s1, s2, s3, s4⟩ := hSw
            have v3 := conv_in s3
            have v4 := conv_in s4
            go_simp; try (with_reducible rfl)
          try simp only [Act.put, List.getElem_toArray, List.getElem_cons_succ, List.getElem_cons_zero, List.setIfInBounds_toArray, List.set_cons_zero, List.set_cons_succ]
          refine wpAnyH_take (i := 4) (v := ?_) rfl (by kernel_rfl) (by kernel_rfl) (by kernel_rfl) (fun _ _ _ h => h) (Or.inl ⟨by rfl, ?_⟩) hHeld ?_
          rotate_left
          · intro w' hSw; try dsimp only at hSw
            obtain ⟨s1, s2, s3, s4⟩ := hSw
            have v3 := conv_in s3
            have v4 := conv_in s4
            go_simp; try (with_reducible rfl)
          try simp only [Act.put, List.getElem_toArray, List.getElem_cons_succ, List.getElem_cons_zero, List.setIfInBounds_toArray, List.set_cons_zero, List.set_cons_succ]
          refine wpAnyH_take (i := 5) (v := ?_) rfl (by kernel_rfl) (by kernel_rfl) (by kernel_rfl) (fun _ _ _ h => h) (Or.inl ⟨by rfl, ?_⟩) hHeld ?_
          rotate_left
          · intro w' hSw; try dsimp only at hSw
            obtain ⟨s1, s2, s3, s4⟩ := hSw
            have v3 := conv_in s3
            have v4 := conv_in s4
            go_simp; try (with_reducible rfl)
          try simp only [Act.put, List.getElem_toArray, List.getElem_cons_succ, List.getElem_cons_zero, List.setIfInBounds_toArray, List.set_cons_zero, List.set_cons_succ]
          refine wpAnyH_take (i := 6) (v := ?_) rfl (by kernel_rfl) (by kernel_rfl) (by kernel_rfl) (fun _ _ _ h => h) (Or.inl ⟨by rfl, ?_⟩) hHeld ?_
          rotate_left
          · intro w' hSw; try dsimp only at hSw
            obtain ⟨s1, s2, s3, s4⟩ := hSw
            have v3 := conv_in s3
            have v4 := conv_in s4
            go_simp; try (with_reducible rfl)
          try simp only [Act.put, List.getElem_toArray, List.getElem_cons_succ, List.getElem_cons_zero, List.setIfInBounds_toArray, List.set_cons_zero, List.set_cons_succ]
          refine wpAnyH_take (i := 7) (v := ?_) rfl (by kernel_rfl) (by kernel_rfl) (by kernel_rfl) (fun _ _ _ h => h) (Or.inl ⟨by rfl, ?_⟩) hHeld ?_
          rotate_left
          · intro w' hSw; try dsimp only at hSw
            obtain ⟨s1, s2, s3, s4⟩ := hSw
            have v3 := conv_in s3
            have v4 := conv_in s4
            go_simp; try (with_reducible rfl)
          try simp only [Act.put, List.getElem_toArray, List.getElem_cons_succ, List.getElem_cons_zero, List.setIfInBounds_toArray, List.set_cons_zero, List.set_cons_succ]
          refine wpAnyH_take (i := 8) (v := ?_) rfl (by kernel_rfl) (by kernel_rfl) (by kernel_rfl) (fun _ _ _ h => h) (Or.inl ⟨by rfl, ?_⟩) hHeld ?_
          rotate_left
          · intro w' hSw; try dsimp only at hSw
            obtain ⟨s1, s2, s3, s4⟩ := hSw
            have v3 := conv_in s3
            have v4 := conv_in s4
            go_simp; try (with_reducible rfl)
          try simp only [Act.put, List.getElem_toArray, List.getElem_cons_succ, List.getElem_cons_zero, List.setIfInBounds_toArray, List.set_cons_zero, List.set_cons_succ]
          refine wpAnyH_take (i := 9) (v := ?_) rfl (by kernel_rfl) (by kernel_rfl) (by kernel_rfl) (fun _ _ _ h => h) (Or.inl ⟨by rfl, ?_⟩) hHeld ?_
          rotate_left
          · intro w' hSw; try dsimp only at hSw
            obtain ⟨s1, s2, s3, s4⟩ := hSw
            have v3 := conv_in s3
            have v4 := conv_in s4
            go_simp; try (with_reducible rfl)
          try simp only [Act.put, List.getElem_toArray, List.getElem_cons_succ, List.getElem_cons_zero, List.setIfInBounds_toArray, List.set_cons_zero, List.set_cons_succ]
          refine wpAnyH_take (i := 10) (v := ?_) rfl (by kernel_rfl) (by kernel_rfl) (by kernel_rfl) (fun _ _ _ h => h) (Or.inl ⟨by rfl, ?_⟩) hHeld ?_
          rotate_left
          · intro w' hSw; try dsimp only at hSw
            go_simp; try (with_reducible rfl)
          try simp only [Act.put, List.getElem_toArray, List.getElem_cons_succ, List.getElem_cons_zero, List.setIfInBounds_toArray, List.set_cons_zero, List.set_cons_succ]
          refine wpAnyH_done (by kernel_rfl) ?_ _
          refine NoPanic.normal ?_
          go_wp2_with fail
          go_ret
          exact ⟨by rw [HDD.out]; rfl, hB.drew⟩
      · obtain rfl : k = n := by omega
        have hki : ¬ (k : Int) < (k : Int) := by omega
        have e : (Da == Db) = true := by
          have := hT.out
          rw [List.take_of_length_le (by rw [HA.out]; exact Nat.le_refl _), List.take_of_length_le (by rw [HB.out]; exact Nat.le_refl _)] at this
          simpa using this
        go_wp2_with fail
        go_ret
        exact ⟨rfl, hB⟩
  · have e : (Da == Db) = false := by
      rw [beq_eq_false_iff_ne]
      intro e
      rw [e] at la
      omega
    have hni : (n : Int) ≠ (m : Int) := by omega
    rw [e]
    go_enter Tryz.func15, Tryz.ntmps15
    go_wp2
    go_ret
    exact ⟨rfl, Below.refl _ _⟩
end Go.Proofs.YtdmnddikcpfmfaaGreat
