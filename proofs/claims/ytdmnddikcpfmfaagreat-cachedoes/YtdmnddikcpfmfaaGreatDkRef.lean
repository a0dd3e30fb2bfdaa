/-
  The document's disk in memory; its small calls.
-/
import Derived.Test.YtdmnddikcpfmfaaGreatDkGather
namespace Go.Proofs.YtdmnddikcpfmfaaGreat
open Go.RowKit
theorem image_any {w : World} {d sb : Nat} {lv : Value} {s : DS} (hD : DiskIn w d sb lv s) :
    Calls Tryz.prog 13 #[ramI d] w fun e w' => Below w.heap.size w w' ∧ ((imgE s = 0 ∧ ∃ v rs, e = .returned (.tuple #[v, .int .i64 0]) ∧ w'.ownsRow w.heap.size 52 1 v rs.length (rs.map srV) ∧ EachIn w' rs (imgD s) ∧ AllU8 w' rs) ∨
      (imgE s ≠ 0 ∧ e = .returned (.tuple #[.slice none 0 0, .int .i64 (imgE s)]))) := by
  have hg := callsIn_wide.1 (gather_in 6 (Nat.le_refl _) hD)
  go_enter Tryz.func13, Tryz.ntmps13
  go_wp2_with fail
  refine hg.mono ?_
  rintro e w' ⟨hb, ⟨he, v, rs, rfl, h1, h2, h3⟩ | ⟨he, rfl⟩⟩
  · go_wp2_with fail
    go_ret2
    exact ⟨hb, .inl ⟨he, v, rs, rfl, h1, h2, h3⟩⟩
  · go_wp2_with fail
    go_ret2
    exact ⟨hb, .inr ⟨he, rfl⟩⟩
/-- What the reference's copied answers. -/
theorem copied_any (p : Option Addr) (c : Nat) (xs : List Nat) (w : World) (hx : In w p 256 c xs) :
    Calls Tryz.prog 93 #[.slice p 256 c] w fun e w' => ∃ p' c', e = .returned (.slice p' 256 c') ∧ In w' p' 256 c' xs ∧ Below w.heap.size w w' ∧ U8 w' p' := by
  have HX : Hid (xs.length = 256) := hx.len
  obtain ⟨i0, hi, hz0, hz1, hz2⟩ := info_parts info5
  obtain ⟨b, o, rfl, _, _⟩ := hx.at' (by omega)
  have hcs := hx.cells rfl
  go_enter Tryz.func93, Tryz.ntmps93
  go_wp2_with (at_builtin; refine wpList_append_own _ rfl (.tmp 4) (.tmp 5) 52 rfl w.heap.size 5 i0 (.int .u8 0) 1 1 Tryz.underlying52 hi hz0 hz1 hz2 rfl (by decide) (.slice none 0 0) 0 [] rfl (World.ownsRow_nil _ _ _ _) ⟨b, o, none⟩ 256 c (vals xs) rfl (by rw [vals_length, HX.out]) hcs (vals_one _) (by unfold maxLen; omega) (by omega) (Nat.le_refl _) ?_; intro v1 w1 hown1 hgrow1 _)
  go_ret
  rw [List.nil_append, Nat.zero_add] at hown1
  obtain ⟨p', c', hv, hin⟩ := in_of_owns hown1 hx.byte (by omega)
  rw [hv] at hown1
  exact ⟨p', c', congrArg Ending.returned hv, hin, below_grown0 hgrow1, owns_u8 hown1⟩
/-- The document's disk. -/
structure RS where
  secs : List (List Nat)
  bad : List Bool
  gone : Bool
  cut : Bool
  left : Int
  many : Nat
  wrote : List (Int × List Nat)
/-- Where its slices lie. -/
structure RV where
  sv : Value
  bv : Value
  wv : Value
  rs : List SR
  ws : List SR
def refV (V : RV) (t : RS) : List Value := [V.sv, V.bv, .bool t.gone, .bool t.cut, .int .i64 t.left, .int .i64 (t.many : Int), V.wv]
def rwV (x : Int × SR) : List Value := [.int .i64 x.1, srV x.2]
def flatR (ks : List Int) (ws : List SR) : List Value := ((ks.zip ws).map rwV).flatten
theorem flatR_snoc (ks : List Int) (ws : List SR) (k : Int) (r : SR) (h : ks.length = ws.length) : flatR (ks ++ [k]) (ws ++ [r]) = flatR ks ws ++ rwV (k, r) := by
  rw [flatR, flatR, List.zip_append h, List.map_append, List.flatten_append]; simp
def valsBo (bs : List Bool) : List Value := bs.map .bool
structure RefIn (w : World) (r : Nat) (V : RV) (t : RS) : Prop where
  blk : Blk w r 66 (refV V t)
  srow : w.ownsRow 0 52 1 V.sv V.rs.length (V.rs.map srV)
  sec : EachIn w V.rs t.secs
  su8 : AllU8 w V.rs
  brow : w.ownsRow 0 4 1 V.bv t.bad.length (valsBo t.bad)
  wrow : w.ownsRow 0 124 2 V.wv V.ws.length (flatR (t.wrote.map (·.1)) V.ws)
  wec : EachIn w V.ws (t.wrote.map (·.2))
  wu8 : AllU8 w V.ws
  ok : ∀ D ∈ t.secs, Is D
  wok : ∀ x ∈ t.wrote, Is x.2
  bl : t.bad.length = t.secs.length
  n1 : 1 ≤ t.secs.length
  n2 : t.secs.length ≤ 8192
  wl : t.wrote.length ≤ 2000
  lc : t.cut = true → 0 ≤ t.left
  lim : t.many ≤ 2000
  le : -9223372036854775808 ≤ t.left ∧ t.left ≤ 9223372036854775807
def fpR (r : Nat) (V : RV) (k : Nat) : Prop := k = r ∨ V.sv.ownBlock = some k ∨ V.bv.ownBlock = some k ∨ V.wv.ownBlock = some k
theorem RefIn.lt {w : World} {r : Nat} {V : RV} {t : RS} (h : RefIn w r V t) {k : Nat} (hk : fpR r V k) : k < w.heap.size := by
  rcases hk with rfl | hk | hk | hk
  · exact h.blk.lt
  · exact (owns_row h.srow hk).choose_spec.2
  · exact (owns_row h.brow hk).choose_spec.2
  · exact (owns_row h.wrow hk).choose_spec.2
theorem EachIn.lt {w : World} {rs : List SR} (hu : AllU8 w rs) {r : SR} (hr : r ∈ rs) {a : Addr} (ha : r.p = some a) : a.block < w.heap.size := by
  obtain ⟨cs, hc⟩ := hu r hr a ha
  exact (Array.getElem?_eq_some_iff.1 hc).1
theorem RefIn.same {w w' : World} {r : Nat} {V : RV} {t : RS} (h : RefIn w r V t) (hs : ∀ k, fpR r V k → w'.heap[k]? = w.heap[k]?) (h5 : ∀ (k : Nat) (cs : Array Value), w.heap[k]? = some (Obj.cells cs 5 (0, 0)) → w'.heap[k]? = w.heap[k]?) : RefIn w' r V t := by
  have e5 : ∀ rs, AllU8 w rs → ∀ r ∈ rs, ∀ a, r.p = some a → w'.heap[a.block]? = w.heap[a.block]? := fun rs hu r hr a ha => by
    obtain ⟨cs, hc⟩ := hu r hr a ha
    exact h5 _ _ hc
  exact ⟨h.blk.same (hs _ (.inl rfl)), owns_same h.srow (fun k hk => hs k (.inr (.inl hk))), h.sec.sameU h.su8 (e5 _ h.su8), h.su8.same (e5 _ h.su8), owns_same h.brow (fun k hk => hs k (.inr (.inr (.inl hk)))), owns_same h.wrow (fun k hk => hs k (.inr (.inr (.inr hk)))), h.wec.sameU h.wu8 (e5 _ h.wu8), h.wu8.same (e5 _ h.wu8), h.ok, h.wok, h.bl, h.n1, h.n2, h.wl, h.lc, h.lim, h.le⟩
theorem RefIn.below {w w' : World} {r : Nat} {V : RV} {t : RS} (h : RefIn w r V t) (hb : Below w.heap.size w w') : RefIn w' r V t :=
  h.same (fun k hk => hb.block k (h.lt hk)) (fun k _ hc => hb.block k (Array.getElem?_eq_some_iff.1 hc).1)
/-- The two disks' blocks are apart: no block has two types. -/
theorem apart_fp {w : World} {r : Nat} {V : RV} {t : RS} {d sb : Nat} {lv : Value} {s : DS} (h : RefIn w r V t) (hD : DiskIn w d sb lv s) {k : Nat} (h1 : fpR r V k) (h2 : fpD d sb lv k) : False := by
  have t1 : ∃ cs e fr, w.heap[k]? = some (.cells cs e fr) ∧ (e = 66 ∨ e = 52 ∨ e = 4 ∨ e = 124) := by
    rcases h1 with rfl | hk | hk | hk
    · exact ⟨_, _, _, h.blk, .inl rfl⟩
    · obtain ⟨cs, hc, _⟩ := owns_row h.srow hk; exact ⟨_, _, _, hc, .inr (.inl rfl)⟩
    · obtain ⟨cs, hc, _⟩ := owns_row h.brow hk; exact ⟨_, _, _, hc, .inr (.inr (.inl rfl))⟩
    · obtain ⟨cs, hc, _⟩ := owns_row h.wrow hk; exact ⟨_, _, _, hc, .inr (.inr (.inr rfl))⟩
  have t2 : ∃ cs e fr, w.heap[k]? = some (.cells cs e fr) ∧ (e = 62 ∨ e = 102 ∨ e = 173) := by
    rcases h2 with rfl | rfl | hk
    · exact ⟨_, _, _, hD.ram, .inl rfl⟩
    · exact ⟨_, _, _, hD.row, .inr (.inl rfl)⟩
    · obtain ⟨cs, hc, _⟩ := owns_row hD.log hk; exact ⟨_, _, _, hc, .inr (.inr rfl)⟩
  obtain ⟨c1, e1, f1, q1, r1⟩ := t1
  obtain ⟨c2, e2, f2, q2, r2⟩ := t2
  rw [q1] at q2
  cases q2
  rcases r1 with rfl | rfl | rfl | rfl <;> rcases r2 with h' | h' | h' <;> cases h'
theorem u8_fp {w : World} {d sb : Nat} {lv : Value} {s : DS} (hD : DiskIn w d sb lv s) {k : Nat} {cs : Array Value} (h1 : w.heap[k]? = some (.cells cs 5 (0, 0))) (h2 : fpD d sb lv k) : False := by
  rcases h2 with rfl | rfl | hk
  · rw [show w.heap[k]? = _ from hD.ram] at h1; cases h1
  · rw [show w.heap[k]? = _ from hD.row] at h1; cases h1
  · obtain ⟨c, hc, _⟩ := owns_row hD.log hk; rw [hc] at h1; cases h1
theorem u8_fpR {w : World} {r : Nat} {V : RV} {t : RS} (h : RefIn w r V t) {k : Nat} {cs : Array Value} (h1 : w.heap[k]? = some (.cells cs 5 (0, 0))) (h2 : fpR r V k) : False := by
  rcases h2 with rfl | hk | hk | hk
  · rw [show w.heap[k]? = _ from h.blk] at h1; cases h1
  · obtain ⟨c, hc, _⟩ := owns_row h.srow hk; rw [hc] at h1; cases h1
  · obtain ⟨c, hc, _⟩ := owns_row h.brow hk; rw [hc] at h1; cases h1
  · obtain ⟨c, hc, _⟩ := owns_row h.wrow hk; rw [hc] at h1; cases h1
/-- The document's disk abides what is done with the program's, and the other way round. -/
theorem RefIn.keepD {w w' : World} {r : Nat} {V : RV} {t : RS} {d sb : Nat} {lv : Value} {s : DS} (h : RefIn w r V t) (hD : DiskIn w d sb lv s) (hk : Keep (fpD d sb lv) w w') : RefIn w' r V t :=
  h.same (fun k h1 => hk.block k (h.lt h1) (fun h2 => apart_fp h hD h1 h2)) (fun k _ hc => hk.block k (Array.getElem?_eq_some_iff.1 hc).1 (fun h2 => u8_fp hD hc h2))
theorem DiskIn.keepR {w w' : World} {r : Nat} {V : RV} {t : RS} {d sb : Nat} {lv : Value} {s : DS} (hD : DiskIn w d sb lv s) (h : RefIn w r V t) (hk : Keep (fpR r V) w w') : DiskIn w' d sb lv s :=
  hD.keep hk (fun _ h2 h1 => apart_fp h hD h1 h2)
theorem rsize_any {w : World} {r : Nat} {V : RV} {t : RS} (h : RefIn w r V t) : Calls Tryz.prog 55 #[.pointer (some ⟨r, 0, none⟩)] w fun e w' => e = .returned (.int .i64 (t.secs.length : Int)) ∧ w' = w := by
  obtain ⟨p, c, hv⟩ := owns_slice h.srow
  have h0 := h.blk.cell' (i := 0) (v := V.sv) rfl
  rw [hv, h.sec.len] at h0
  go_enter Tryz.func55, Tryz.ntmps55
  go_wp2
  go_ret
  exact ⟨rfl, rfl⟩
theorem there_any {w : World} {r : Nat} {V : RV} {t : RS} (h : RefIn w r V t) (i : Int) : Calls Tryz.prog 87 #[.pointer (some ⟨r, 0, none⟩), .int .i64 i] w fun e w' => e = .returned (.bool (hasB t.secs.length i)) ∧ w' = w := by
  obtain ⟨p, c, hv⟩ := owns_slice h.srow
  have h0 := h.blk.cell' (i := 0) (v := V.sv) rfl
  rw [hv, h.sec.len] at h0
  by_cases hi : 0 ≤ i
  · go_enter Tryz.func87, Tryz.ntmps87
    go_wp2
    go_ret
    exact ⟨ret_bool (by simp [hasB, hi]), rfl⟩
  · go_enter Tryz.func87, Tryz.ntmps87
    go_wp2
    go_ret
    exact ⟨ret_bool (by simp [hasB]; omega), rfl⟩
end Go.Proofs.YtdmnddikcpfmfaaGreat
