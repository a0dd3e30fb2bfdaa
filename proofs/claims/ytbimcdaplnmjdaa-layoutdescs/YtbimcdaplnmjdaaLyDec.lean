/-
  What layout.take, readSuper and DecodeSuper answer.
-/
import Derived.Test.YtbimcdaplnmjdaaLyEnc
import Derived.Test.YtbimcdaplnmjdaaState
namespace Go.Proofs.Ytbimcdaplnmjdaa
open Go.RowKit
theorem ret_super {fn : Func} {p : Tmp} (h : fn.results = #[.cell p 43]) {R : Ending → World → Prop} {a : Act} {w : World} {g : Nat} {t : TypeId} {x0 x1 x2 x3 x4 : Value} (hp : a.tmps.getD p undef = .pointer (some ⟨g, 0, none⟩))
    (hb : Blk w g t [x0, x1, x2, x3, x4]) (hd : a.defers = []) (hR : R (.returned (.agg #[x0, x1, x2, x3, x4])) w) : bodyPost Try.prog fn R .ret a w :=
  bodyPost_ret (results_cell_row h _ _ g t #[x0, x1, x2, x3, x4] (0, 0) _ hp hb Try.underlying43 rfl (by kernel_rfl)) hd hR
theorem ret_superE {fn : Func} {p u : Tmp} (h : fn.results = #[.cell p 43, .tmp u]) {R : Ending → World → Prop} {a : Act} {w : World} {g : Nat} {t : TypeId} {x0 x1 x2 x3 x4 v : Value} (hp : a.tmps.getD p undef = .pointer (some ⟨g, 0, none⟩))
    (hb : Blk w g t [x0, x1, x2, x3, x4]) (hd : a.defers = []) (hu : a.tmps.getD u undef = v) (hR : R (.returned (.tuple #[.agg #[x0, x1, x2, x3, x4], v])) w) : bodyPost Try.prog fn R .ret a w := by
  refine bodyPost_ret (v := .tuple #[.agg #[x0, x1, x2, x3, x4], v]) ?_ hd hR
  rw [results_cell_tmp h, hp, hu]
  have := run_loadVar_mid w g 0 43 [x0, x1, x2, x3, x4] _ (hb.range 0 5 _ rfl) Try.underlying43 rfl (by kernel_rfl)
  simp only [asAddr, Sem.run_pure, Result.andThen_ok, this]
theorem size_super {x0 x1 x2 x3 x4 : Value} : (Try.prog.info? 43).map (·.size) = some [x0, x1, x2, x3, x4].length := by kernel_rfl
theorem one5 {a b c e : Int} {d : Bool} : ∀ v ∈ [Value.int .i64 a, .int .i64 b, .int .i64 c, .bool d, .int .i64 e], v.oneCell' = true := by simp [Value.oneCell']
theorem super_ne {w : World} {g i : Nat} {a b c e : Int} {d : Bool} {x : Int} {t : TypeId} (h : Blk w g t [.int .i64 a, .int .i64 b, .int .i64 c, .bool d, .int .i64 e]) (hc : w.cell? ⟨g, i, none⟩ = some (.int .u64 x)) : False := by
  rw [h.cell i] at hc
  match i, hc with
  | 0, hc => cases hc
  | 1, hc => cases hc
  | 2, hc => cases hc
  | 3, hc => cases hc
  | 4, hc => cases hc
  | n + 5, hc => simp at hc
theorem turned5 {w w' : World} {g b o : Nat} {v1 v2 v3 v4 v5 : Value} (ht : Turned w w' g) (hne : b ≠ g) (h : w.cell? ⟨b, o + 1, none⟩ = some v1 ∧ w.cell? ⟨b, o + 2, none⟩ = some v2 ∧ w.cell? ⟨b, o + 3, none⟩ = some v3 ∧ w.cell? ⟨b, o + 4, none⟩ = some v4 ∧ w.cell? ⟨b, o + 5, none⟩ = some v5) :
    w'.cell? ⟨b, o + 1, none⟩ = some v1 ∧ w'.cell? ⟨b, o + 2, none⟩ = some v2 ∧ w'.cell? ⟨b, o + 3, none⟩ = some v3 ∧ w'.cell? ⟨b, o + 4, none⟩ = some v4 ∧ w'.cell? ⟨b, o + 5, none⟩ = some v5 := by
  have hk := fun j => World.cell?_of_block (a := ⟨b, j, none⟩) (ht.block b hne)
  exact ⟨(hk _).trans h.1, (hk _).trans h.2.1, (hk _).trans h.2.2.1, (hk _).trans h.2.2.2.1, (hk _).trans h.2.2.2.2⟩
theorem unpack_take {ws : List Int} {xs : List Nat} (h : widthOk ws = true) (h8 : atW ws ws.length = 8 * bytesW ws) (hl : bytesW ws ≤ xs.length) : unpackL ws (xs.take (bytesW ws)) = valsTo ws (xs.take (bytesW ws)) ws.length := by
  have e : unpackE ws (xs.take (bytesW ws)) = 0 := by
    unfold unpackE
    rw [if_neg (by rw [h]; decide), if_neg (by rw [List.length_take]; omega), if_neg]
    unfold tailN
    rw [h8, Nat.sub_self]
    intro h; exact h rfl
  unfold unpackL
  rw [if_pos e]
set_option linter.unusedSimpArgs false in
set_option maxHeartbeats 4000000 in
set_option maxRecDepth 100000 in
theorem take_any (p q : Option Addr) (n c m d : Nat) (ws : List Int) (xs : List Nat) (w : World) (hx : In w p n c xs) (hy : InI w q m d ws) (hok : widthOk ws = true) (hn : bytesW ws ≤ n) :
    Calls Try.prog 73 #[.slice p n c, .slice q m d] w fun e w' => ∃ p' n' c', e = .returned (.slice p' n' c') ∧ In64 w' p' n' c' (unpackL ws (xs.take (bytesW ws))) ∧ Below w.heap.size w w' := by
  have hsl := slice_front p n c (bytesW ws) hn hx.cap
  have hf := hx.front (bytesW ws) hn
  have HW : Hid (widthOk ws = true) := hok
  have hr := hx.room
  clear hok
  go_enter Try.func73, Try.ntmps73
  go_wp2_with (first
      | (go_at_call 67; refine (width_ok q m d ws _ hy HW.out).mono ?_; rintro e w' ⟨rfl, hw'⟩; have hw2 := hw'.symm; subst hw2; clear hw')
      | (go_at_call 76; refine (unpack_any q p m d (bytesW ws) c ws (xs.take (bytesW ws)) _ hy hf).mono ?_; rintro e w2 ⟨p2, n2, c2, rfl, hin2, hb2⟩))
  go_ret
  exact ⟨_, _, _, rfl, hin2, hb2⟩
/-- The fields of a superblock's bytes. -/
def fS (xs : List Nat) (i : Nat) : Nat := getN (xs.take 23) (atW wsS i) (eI wsS i).toNat
def rdB (xs : List Nat) : Int := (fS xs 1 : Int)
def rdJ (xs : List Nat) : Int := (fS xs 2 : Int)
def rdC (xs : List Nat) : Bool := (fS xs 3 : Int) == 1
def rdO (xs : List Nat) : Int := (fS xs 4 : Int)
def rdM (xs : List Nat) : Int := IntKind.i64.wrap (fS xs 5 : Int)
theorem fS_lt (xs : List Nat) : fS xs 1 < 4294967296 ∧ fS xs 2 < 65536 ∧ fS xs 3 < 256 ∧ fS xs 4 < 4294967296 ∧ fS xs 5 < 18446744073709551616 :=
  ⟨getN_lt _ _ 32, getN_lt _ _ 16, getN_lt _ _ 8, getN_lt _ _ 32, getN_lt _ _ 64⟩
theorem wrapI (n : Nat) (h : n < 9223372036854775808) : IntKind.i64.wrap (n : Int) = (n : Int) := by rw [IntKind.wrap_i64]; omega
theorem fS_vals {xs : List Nat} (h : 23 ≤ xs.length) (i : Nat) (hi : i < 6) : (unpackL wsS (xs.take 23)).getD i 0 = fS xs i := by
  have := unpack_take (xs := xs) wsS_ok (by decide +kernel) (by rw [wsS_bytes]; exact h)
  rw [wsS_bytes] at this
  rw [this, valsTo_getD wsS _ i (by simpa [wsS] using hi)]
  rfl
theorem unpS_length {xs : List Nat} (h : 23 ≤ xs.length) : (unpackL wsS (xs.take 23)).length = 6 := by
  have := unpack_take (xs := xs) wsS_ok (by decide +kernel) (by rw [wsS_bytes]; exact h)
  rw [wsS_bytes] at this
  rw [this, valsTo_length]
  rfl
set_option linter.unusedSimpArgs false in
set_option maxHeartbeats 4000000 in
set_option maxRecDepth 100000 in
theorem readSuper_any (p : Option Addr) (n c : Nat) (xs : List Nat) (w : World) (hx : In w p n c xs) (hn : 23 ≤ n) :
    Calls Try.prog 61 #[.slice p n c] w fun e w' => e = .returned (.agg #[.int .i64 (rdB xs), .int .i64 (rdJ xs), .int .i64 (rdO xs), .bool (rdC xs), .int .i64 (rdM xs)]) ∧ Below w.heap.size w w' := by
  have hb0 := below_alloc w (.cells #[.int .i64 0, .int .i64 0, .int .i64 0, .bool false, .int .i64 0] 43)
  have r0 := Blk.new' w 43 #[.int .i64 0, .int .i64 0, .int .i64 0, .bool false, .int .i64 0]
  have HX : Hid (23 ≤ xs.length) := by show _ ≤ _; rw [hx.len]; exact hn
  have hl := fS_lt xs
  have hv := fS_vals HX.out
  have hu := unpS_length HX.out
  have hx0 := hx.below hb0
  unfold rdB rdJ rdC rdO rdM
  have e1 := hv 1 (by decide)
  have e2 := hv 2 (by decide)
  have e3 := hv 3 (by decide)
  have e4 := hv 4 (by decide)
  have e5 := hv 5 (by decide)
  clear hv
  generalize fS xs 1 = f1 at *
  generalize fS xs 2 = f2 at *
  generalize fS xs 3 = f3 at *
  generalize fS xs 4 = f4 at *
  generalize fS xs 5 = f5 at *
  have E1 : Hid _ := e1
  have E2 : Hid _ := e2
  have E3 : Hid _ := e3
  have E4 : Hid _ := e4
  have E5 : Hid _ := e5
  clear e1 e2 e3 e4 e5
  go_enter Try.func61, Try.ntmps61
  go_upto_region 2 with (first
    | (go_at_call 56; refine (superW_any _).mono ?_; rintro e w2 ⟨p2, rfl, hin2, hb2⟩)
    | (go_at_call 73; refine (take_any p p2 n c 6 6 wsS xs _ (hx0.below hb2) hin2 wsS_ok (by rw [wsS_bytes]; exact hn)).mono ?_; rintro e w3 ⟨p3, n3, c3, rfl, hin3, hb3⟩))
  rw [wsS_bytes] at hin3
  have hl3 := hin3.len
  rw [hu] at hl3
  subst hl3
  have r1 := (r0.kept hb2).kept hb3
  have hB3 := bt (bt hb0 hb2) hb3
  obtain ⟨b5, o5, rfl, hb5, hc5⟩ := hin3.at' (by decide)
  have hcap := hin3.cap
  have d1 := hc5 1 (by decide)
  have d2 := hc5 2 (by decide)
  have d3 := hc5 3 (by decide)
  have d4 := hc5 4 (by decide)
  have d5 := hc5 5 (by decide)
  unfold el at d1 d2 d3 d4 d5
  rw [E1.out] at d1
  rw [E2.out] at d2
  rw [E3.out] at d3
  rw [E4.out] at d4
  rw [E5.out] at d5
  have hne : b5 ≠ w.heap.size := fun e => by rw [e] at d1; exact super_ne r1 d1
  clear hc5 hu hb2 hb3 hin2 hin3 hx hx0
  have hv1 : IntKind.i64.wrap (f1 : Int) = (f1 : Int) := wrapI _ (by omega)
  have hv2 : IntKind.i64.wrap (f2 : Int) = (f2 : Int) := wrapI _ (by omega)
  have hv4 : IntKind.i64.wrap (f4 : Int) = (f4 : Int) := wrapI _ (by omega)
  refine wp_region_noPanic ?_
  refine wp_region_held_drew (S := fun X => X.cell? ⟨b5, o5 + 1, none⟩ = some (.int .u64 (f1 : Int)) ∧ X.cell? ⟨b5, o5 + 2, none⟩ = some (.int .u64 (f2 : Int)) ∧ X.cell? ⟨b5, o5 + 3, none⟩ = some (.int .u64 (f3 : Int)) ∧ X.cell? ⟨b5, o5 + 4, none⟩ = some (.int .u64 (f4 : Int)) ∧ X.cell? ⟨b5, o5 + 5, none⟩ = some (.int .u64 (f5 : Int))) (by kernel_rfl) ⟨d1, d2, d3, d4, d5⟩ (fun hHeld => ?_)
  refine wpAnyH_take (i := 0) (v := ?_) rfl (by kernel_rfl) (by kernel_rfl) (by kernel_rfl) (fun _ _ _ h => h) (Or.inl ⟨by kernel_rfl, ?_⟩) hHeld ?_
  rotate_left
  · intro w' hSw; try dsimp only at hSw
    go_simp; try (with_reducible rfl)
  try simp only [Act.put, List.getElem_toArray, List.getElem_cons_succ, List.getElem_cons_zero, List.setIfInBounds_toArray, List.set_cons_zero, List.set_cons_succ]
  refine wpAnyH_take (i := 1) (v := ?_) rfl (by kernel_rfl) (by kernel_rfl) (by kernel_rfl) (fun _ _ _ h => h) (Or.inl ⟨by kernel_rfl, ?_⟩) hHeld ?_
  rotate_left
  · intro w' hSw; try dsimp only at hSw
    go_simp; try (with_reducible rfl)
  try simp only [Act.put, List.getElem_toArray, List.getElem_cons_succ, List.getElem_cons_zero, List.setIfInBounds_toArray, List.set_cons_zero, List.set_cons_succ]
  refine wpAnyH_take (i := 2) (v := ?_) rfl (by kernel_rfl) (by kernel_rfl) (by kernel_rfl) (fun _ _ _ h => h) (Or.inl ⟨by kernel_rfl, ?_⟩) hHeld ?_
  rotate_left
  · intro w' hSw; try dsimp only at hSw
    obtain ⟨q1, q2, q3, q4, q5⟩ := hSw
    go_simp; try (with_reducible rfl)
  try simp only [Act.put, List.getElem_toArray, List.getElem_cons_succ, List.getElem_cons_zero, List.setIfInBounds_toArray, List.set_cons_zero, List.set_cons_succ]
  refine wpAnyH_take (i := 3) (v := ?_) rfl (by kernel_rfl) (by kernel_rfl) (by kernel_rfl) (fun _ _ _ h => h) (Or.inl ⟨by kernel_rfl, ?_⟩) hHeld ?_
  rotate_left
  · intro w' hSw; try dsimp only at hSw
    go_simp; try (with_reducible rfl)
  try simp only [Act.put, List.getElem_toArray, List.getElem_cons_succ, List.getElem_cons_zero, List.setIfInBounds_toArray, List.set_cons_zero, List.set_cons_succ]
  refine wpAnyH_take (i := 4) (v := ?_) rfl (by kernel_rfl) (by kernel_rfl) (by kernel_rfl) (fun _ _ _ h => h) (Or.inl ⟨by kernel_rfl, ?_⟩) hHeld ?_
  rotate_left
  · intro w' hSw; try dsimp only at hSw
    go_simp; try (with_reducible rfl)
  try simp only [Act.put, List.getElem_toArray, List.getElem_cons_succ, List.getElem_cons_zero, List.setIfInBounds_toArray, List.set_cons_zero, List.set_cons_succ]
  refine wpAnyH_take (i := 5) (v := ?_) rfl (by kernel_rfl) (by kernel_rfl) (by kernel_rfl) (fun _ _ _ h => h) (Or.inl ⟨by kernel_rfl, ?_⟩) hHeld ?_
  rotate_left
  · intro w' hSw; try dsimp only at hSw
    go_simp; try (with_reducible rfl)
  try simp only [Act.put, List.getElem_toArray, List.getElem_cons_succ, List.getElem_cons_zero, List.setIfInBounds_toArray, List.set_cons_zero, List.set_cons_succ]
  refine wpAnyH_take (i := 6) (v := ?_) rfl (by kernel_rfl) (by kernel_rfl) (by kernel_rfl) (fun _ _ _ h => h) (Or.inl ⟨by kernel_rfl, ?_⟩) hHeld ?_
  rotate_left
  · intro w' hSw; try dsimp only at hSw
    obtain ⟨q1, q2, q3, q4, q5⟩ := hSw
    go_simp; try (with_reducible rfl)
  try simp only [Act.put, List.getElem_toArray, List.getElem_cons_succ, List.getElem_cons_zero, List.setIfInBounds_toArray, List.set_cons_zero, List.set_cons_succ]
  refine wpAnyH_take (i := 7) (v := ?_) rfl (by kernel_rfl) (by kernel_rfl) (by kernel_rfl) (fun _ _ _ h => h) (Or.inl ⟨by kernel_rfl, ?_⟩) hHeld ?_
  rotate_left
  · intro w' hSw; try dsimp only at hSw
    go_simp; try (with_reducible rfl)
  try simp only [Act.put, List.getElem_toArray, List.getElem_cons_succ, List.getElem_cons_zero, List.setIfInBounds_toArray, List.set_cons_zero, List.set_cons_succ]
  refine wpAnyH_take (i := 8) (v := ?_) rfl (by kernel_rfl) (by kernel_rfl) (by kernel_rfl) (fun _ _ _ h => h) (Or.inl ⟨by kernel_rfl, ?_⟩) hHeld ?_
  rotate_left
  · intro w' hSw; try dsimp only at hSw
    go_simp; try (with_reducible rfl)
  try simp only [Act.put, List.getElem_toArray, List.getElem_cons_succ, List.getElem_cons_zero, List.setIfInBounds_toArray, List.set_cons_zero, List.set_cons_succ]
  refine wpAnyH_take (i := 9) (v := ?_) rfl (by kernel_rfl) (by kernel_rfl) (by kernel_rfl) (fun _ _ _ h => h) (Or.inl ⟨by kernel_rfl, ?_⟩) hHeld ?_
  rotate_left
  · intro w' hSw; try dsimp only at hSw
    go_simp; try (with_reducible rfl)
  try simp only [Act.put, List.getElem_toArray, List.getElem_cons_succ, List.getElem_cons_zero, List.setIfInBounds_toArray, List.set_cons_zero, List.set_cons_succ]
  refine wpAnyH_take (i := 10) (v := ?_) rfl (by kernel_rfl) (by kernel_rfl) (by kernel_rfl) (fun _ _ _ h => h) (Or.inl ⟨by kernel_rfl, ?_⟩) hHeld ?_
  rotate_left
  · intro w' hSw; try dsimp only at hSw
    go_simp; try (with_reducible rfl)
  try simp only [Act.put, List.getElem_toArray, List.getElem_cons_succ, List.getElem_cons_zero, List.setIfInBounds_toArray, List.set_cons_zero, List.set_cons_succ]
  refine wpAnyH_take (i := 11) (v := ?_) rfl (by kernel_rfl) (by kernel_rfl) (by kernel_rfl) (fun _ _ _ h => h) (Or.inl ⟨by kernel_rfl, ?_⟩) hHeld ?_
  rotate_left
  · intro w' hSw; try dsimp only at hSw
    obtain ⟨q1, q2, q3, q4, q5⟩ := hSw
    go_simp; try (with_reducible rfl)
  try simp only [Act.put, List.getElem_toArray, List.getElem_cons_succ, List.getElem_cons_zero, List.setIfInBounds_toArray, List.set_cons_zero, List.set_cons_succ]
  refine wpAnyH_take (i := 12) (v := ?_) rfl (by kernel_rfl) (by kernel_rfl) (by kernel_rfl) (fun _ _ _ h => h) (Or.inl ⟨by kernel_rfl, ?_⟩) hHeld ?_
  rotate_left
  · intro w' hSw; try dsimp only at hSw
    go_simp; try (with_reducible rfl)
  try simp only [Act.put, List.getElem_toArray, List.getElem_cons_succ, List.getElem_cons_zero, List.setIfInBounds_toArray, List.set_cons_zero, List.set_cons_succ]
  refine wpAnyH_take (i := 13) (v := ?_) rfl (by kernel_rfl) (by kernel_rfl) (by kernel_rfl) (fun _ _ _ h => h) (Or.inl ⟨by kernel_rfl, ?_⟩) hHeld ?_
  rotate_left
  · intro w' hSw; try dsimp only at hSw
    go_simp; try (with_reducible rfl)
  try simp only [Act.put, List.getElem_toArray, List.getElem_cons_succ, List.getElem_cons_zero, List.setIfInBounds_toArray, List.set_cons_zero, List.set_cons_succ]
  refine wpAnyH_take (i := 14) (v := ?_) rfl (by kernel_rfl) (by kernel_rfl) (by kernel_rfl) (fun _ _ _ h => h) (Or.inl ⟨by kernel_rfl, ?_⟩) hHeld ?_
  rotate_left
  · intro w' hSw; try dsimp only at hSw
    go_simp; try (with_reducible rfl)
  try simp only [Act.put, List.getElem_toArray, List.getElem_cons_succ, List.getElem_cons_zero, List.setIfInBounds_toArray, List.set_cons_zero, List.set_cons_succ]
  refine wpAnyH_take (i := 15) (v := ?_) rfl (by kernel_rfl) (by kernel_rfl) (by kernel_rfl) (fun _ _ _ h => h) (Or.inl ⟨by kernel_rfl, ?_⟩) hHeld ?_
  rotate_left
  · intro w' hSw; try dsimp only at hSw
    obtain ⟨q1, q2, q3, q4, q5⟩ := hSw
    go_simp; try (with_reducible rfl)
  try simp only [Act.put, List.getElem_toArray, List.getElem_cons_succ, List.getElem_cons_zero, List.setIfInBounds_toArray, List.set_cons_zero, List.set_cons_succ]
  refine wpAnyH_take (i := 16) (v := ?_) rfl (by kernel_rfl) (by kernel_rfl) (by kernel_rfl) (fun _ _ _ h => h) (Or.inl ⟨by kernel_rfl, ?_⟩) hHeld ?_
  rotate_left
  · intro w' hSw; try dsimp only at hSw
    go_simp; try (with_reducible rfl)
  try simp only [Act.put, List.getElem_toArray, List.getElem_cons_succ, List.getElem_cons_zero, List.setIfInBounds_toArray, List.set_cons_zero, List.set_cons_succ]
  refine wpAnyH_take (i := 17) (v := ?_) rfl (by kernel_rfl) (by kernel_rfl) (by kernel_rfl) (fun _ _ _ h => h) (Or.inl ⟨by kernel_rfl, ?_⟩) hHeld ?_
  rotate_left
  · intro w' hSw; try dsimp only at hSw
    go_simp; try (with_reducible rfl)
  try simp only [Act.put, List.getElem_toArray, List.getElem_cons_succ, List.getElem_cons_zero, List.setIfInBounds_toArray, List.set_cons_zero, List.set_cons_succ]
  refine wpAnyH_take (i := 18) (v := ?_) rfl (by kernel_rfl) (by kernel_rfl) (by kernel_rfl) (fun _ _ _ h => h) (Or.inl ⟨by kernel_rfl, ?_⟩) hHeld ?_
  rotate_left
  · intro w' hSw; try dsimp only at hSw
    go_simp; try (with_reducible rfl)
  try simp only [Act.put, List.getElem_toArray, List.getElem_cons_succ, List.getElem_cons_zero, List.setIfInBounds_toArray, List.set_cons_zero, List.set_cons_succ]
  refine wpAnyH_take (i := 19) (v := ?_) rfl (by kernel_rfl) (by kernel_rfl) (by kernel_rfl) (fun _ _ _ h => h) (Or.inl ⟨by kernel_rfl, ?_⟩) hHeld ?_
  rotate_left
  · intro w' hSw; try dsimp only at hSw
    obtain ⟨q1, q2, q3, q4, q5⟩ := hSw
    go_simp; try (with_reducible rfl)
  try simp only [Act.put, List.getElem_toArray, List.getElem_cons_succ, List.getElem_cons_zero, List.setIfInBounds_toArray, List.set_cons_zero, List.set_cons_succ]
  refine wpAnyH_take (i := 20) (v := ?_) rfl (by kernel_rfl) (by kernel_rfl) (by kernel_rfl) (fun _ _ _ h => h) (Or.inl ⟨by kernel_rfl, ?_⟩) hHeld ?_
  rotate_left
  · intro w' hSw; try dsimp only at hSw
    go_simp; try (with_reducible rfl)
  try simp only [Act.put, List.getElem_toArray, List.getElem_cons_succ, List.getElem_cons_zero, List.setIfInBounds_toArray, List.set_cons_zero, List.set_cons_succ]
  refine wpAnyH_take (i := 21) (v := ?_) rfl (by kernel_rfl) (by kernel_rfl) (by kernel_rfl) (fun _ _ _ h => h) (Or.inl ⟨by kernel_rfl, ?_⟩) hHeld ?_
  rotate_left
  · intro w' hSw; try dsimp only at hSw
    go_simp; try (with_reducible rfl)
  try simp only [Act.put, List.getElem_toArray, List.getElem_cons_succ, List.getElem_cons_zero, List.setIfInBounds_toArray, List.set_cons_zero, List.set_cons_succ]
  refine wpAnyH_ready (rs := [22]) (by kernel_rfl) (by simp) ?_
  refine AllReadyH.cons rfl (fun K hK => ?_) AllReadyH.nil
  refine wp_store_blk 43 (.tmp 2) (.tmp 28) rfl _ 0 [.int .i64 (f1 : Int), .int .i64 (f2 : Int), .int .i64 (f4 : Int), .bool ((f3 : Int) == 1), .int .i64 (IntKind.i64.wrap (f5 : Int))] rfl (by first | rfl | (rw [hv1, hv2, hv4])) r1.drew (by simp) size_super one5 ?_
  intro w8 b8 t8
  have hS8 := turned5 t8 (show b5 ≠ w.heap.size from hne) ⟨d1, d2, d3, d4, d5⟩
  refine hK.out _ _ hS8 (fun hHeld => ?_)
  clear hK K
  try simp only [Act.put, List.getElem_toArray, List.getElem_cons_succ, List.getElem_cons_zero, List.setIfInBounds_toArray, List.set_cons_zero, List.set_cons_succ]
  refine wpAnyH_done (by kernel_rfl) ?_ _
  refine NoPanic.normal ?_
  go_wp2
  refine ret_super rfl rfl b8 rfl ⟨rfl, t8.below hB3.drew (Nat.le_refl _)⟩
/-- Whether bytes are a superblock's. -/
def decOk (xs : List Nat) : Bool := (xs.length == 256) && (supE (rdB xs) (rdJ xs) (rdO xs) (rdM xs) == 0) && (supL (rdB xs) (rdJ xs) (rdO xs) (rdC xs) (rdM xs) == xs)
/-- 111 is ErrSuper. -/
def decE (xs : List Nat) : Int := if decOk xs then 0 else 111
def decV (xs : List Nat) : Array Value := if decOk xs then #[.int .i64 (rdB xs), .int .i64 (rdJ xs), .int .i64 (rdO xs), .bool (rdC xs), .int .i64 (rdM xs)] else #[.int .i64 0, .int .i64 0, .int .i64 0, .bool false, .int .i64 0]
theorem dec_no {xs : List Nat} (h : decOk xs = false) : decE xs = 111 ∧ decV xs = #[.int .i64 0, .int .i64 0, .int .i64 0, .bool false, .int .i64 0] := by unfold decE decV; rw [h]; exact ⟨rfl, rfl⟩
theorem dec_ok {xs : List Nat} (h : decOk xs = true) : decE xs = 0 ∧ decV xs = #[.int .i64 (rdB xs), .int .i64 (rdJ xs), .int .i64 (rdO xs), .bool (rdC xs), .int .i64 (rdM xs)] := by unfold decE decV; rw [h]; exact ⟨rfl, rfl⟩
set_option linter.unusedSimpArgs false in
set_option maxHeartbeats 4000000 in
set_option maxRecDepth 100000 in
theorem decodeSuper_any (p : Option Addr) (n c : Nat) (xs : List Nat) (w : World) (hx : In w p n c xs) :
    Calls Try.prog 34 #[.slice p n c] w fun e w' => e = .returned (.tuple #[.agg (decV xs), .int .i64 (decE xs)]) ∧ Below w.heap.size w w' := by
  have hb0 := below_alloc w (.cells #[.int .i64 0, .int .i64 0, .int .i64 0, .bool false, .int .i64 0] 43)
  have r0 := Blk.new' w 43 #[.int .i64 0, .int .i64 0, .int .i64 0, .bool false, .int .i64 0]
  have hx0 := hx.below hb0
  have HL : Hid (xs.length = n) := hx.len
  by_cases hn : n = 256
  · have hnz : ((n : Int) != 256) = false := by rw [hn]; rfl
    have hen := fun w => encodeSuper_any (rdB xs) (rdJ xs) (rdO xs) (rdC xs) (rdM xs) w
    have hrs := fun w hx => readSuper_any p n c xs w hx (by omega)
    by_cases he : supE (rdB xs) (rdJ xs) (rdO xs) (rdM xs) = 0
    · cases hq : (supL (rdB xs) (rdJ xs) (rdO xs) (rdC xs) (rdM xs) == xs) with
      | true =>
        have hok : decOk xs = true := by unfold decOk; rw [HL.out, hn, he, hq]; rfl
        rw [(dec_ok hok).1, (dec_ok hok).2]
        rw [he] at hen
        have HQ : Hid (_ = true) := hq
        clear hok he hq hn
        generalize rdB xs = xb at *
        generalize rdJ xs = xj at *
        generalize rdO xs = xo at *
        generalize rdC xs = xc at *
        generalize rdM xs = xm at *
        go_enter Try.func34, Try.ntmps34
        go_wp2_with (first
            | (go_at_call 61; refine (hrs _ hx0).mono ?_; rintro e w1 ⟨rfl, hb1⟩; have r1 := (r0.kept hb1).alloc (.cells #[.int .i64 xb, .int .i64 xj, .int .i64 xo, .bool xc, .int .i64 xm] 43); have hB1 := bt (bt hb0 hb1) (below_alloc w1 (.cells #[.int .i64 xb, .int .i64 xj, .int .i64 xo, .bool xc, .int .i64 xm] 43)); have s1 := Blk.new' w1 43 #[.int .i64 xb, .int .i64 xj, .int .i64 xo, .bool xc, .int .i64 xm])
            | (go_at_call 32; refine (hen _).mono ?_; rintro e w2 ⟨p2, n2, c2, rfl, hin2, hb2⟩; have r2 := r1.kept hb2; have hB2 := bt hB1 hb2; have s2 := s1.kept hb2; have d0 := s2.cell' (i := 0) rfl; have d1 := s2.cell' (i := 1) rfl; have d2 := s2.cell' (i := 2) rfl; have d3 := s2.cell' (i := 3) rfl; have d4 := s2.cell' (i := 4) rfl)
            | (go_at_call 36; refine (equal_any p2 p n2 c2 n c _ xs _ hin2 (hx.below hB2)).mono ?_; rintro e w' ⟨rfl, hw'⟩; have hw2 := hw'.symm; subst hw2; clear hw'; rw [HQ.out])
            | (refine wpList_store_blk rfl 43 (.tmp 2) (.tmp 27) rfl _ 0 [.int .i64 xb, .int .i64 xj, .int .i64 xo, .bool xc, .int .i64 xm] rfl rfl r2 (by simp) size_super one5 ?_; intro w8 b8 t8))
        refine ret_superE rfl rfl b8 rfl rfl ⟨rfl, t8.below hB2 (Nat.le_refl _)⟩
      | false =>
        have hok : decOk xs = false := by unfold decOk; rw [hq]; simp
        rw [(dec_no hok).1, (dec_no hok).2]
        rw [he] at hen
        have HQ : Hid (_ = false) := hq
        clear hok he hq hn
        generalize rdB xs = xb at *
        generalize rdJ xs = xj at *
        generalize rdO xs = xo at *
        generalize rdC xs = xc at *
        generalize rdM xs = xm at *
        go_enter Try.func34, Try.ntmps34
        go_wp2_with (first
            | (go_at_call 61; refine (hrs _ hx0).mono ?_; rintro e w1 ⟨rfl, hb1⟩; have r1 := (r0.kept hb1).alloc (.cells #[.int .i64 xb, .int .i64 xj, .int .i64 xo, .bool xc, .int .i64 xm] 43); have hB1 := bt (bt hb0 hb1) (below_alloc w1 (.cells #[.int .i64 xb, .int .i64 xj, .int .i64 xo, .bool xc, .int .i64 xm] 43)); have s1 := Blk.new' w1 43 #[.int .i64 xb, .int .i64 xj, .int .i64 xo, .bool xc, .int .i64 xm])
            | (go_at_call 32; refine (hen _).mono ?_; rintro e w2 ⟨p2, n2, c2, rfl, hin2, hb2⟩; have r2 := r1.kept hb2; have hB2 := bt hB1 hb2; have s2 := s1.kept hb2; have d0 := s2.cell' (i := 0) rfl; have d1 := s2.cell' (i := 1) rfl; have d2 := s2.cell' (i := 2) rfl; have d3 := s2.cell' (i := 3) rfl; have d4 := s2.cell' (i := 4) rfl)
            | (go_at_call 36; refine (equal_any p2 p n2 c2 n c _ xs _ hin2 (hx.below hB2)).mono ?_; rintro e w' ⟨rfl, hw'⟩; have hw2 := hw'.symm; subst hw2; clear hw'; rw [HQ.out])
            | (refine wpList_store_blk rfl 43 (.tmp 2) (.tmp 26) rfl _ 0 [.int .i64 0, .int .i64 0, .int .i64 0, .bool false, .int .i64 0] rfl rfl r2 (by simp) size_super one5 ?_; intro w8 b8 t8))
        refine ret_superE rfl rfl b8 rfl rfl ⟨rfl, t8.below hB2 (Nat.le_refl _)⟩
    · have hok : decOk xs = false := by unfold decOk; rw [show (supE (rdB xs) (rdJ xs) (rdO xs) (rdM xs) == 0) = false from by rw [beq_eq_false_iff_ne]; exact he]; simp
      rw [(dec_no hok).1, (dec_no hok).2]
      have hez : (supE (rdB xs) (rdJ xs) (rdO xs) (rdM xs) != 0) = true := by rw [bne_iff_ne]; exact he
      clear hok he hn
      generalize supE (rdB xs) (rdJ xs) (rdO xs) (rdM xs) = ee at *
      generalize rdB xs = xb at *
      generalize rdJ xs = xj at *
      generalize rdO xs = xo at *
      generalize rdC xs = xc at *
      generalize rdM xs = xm at *
      go_enter Try.func34, Try.ntmps34
      go_wp2_with (first
          | (go_at_call 61; refine (hrs _ hx0).mono ?_; rintro e w1 ⟨rfl, hb1⟩; have r1 := (r0.kept hb1).alloc (.cells #[.int .i64 xb, .int .i64 xj, .int .i64 xo, .bool xc, .int .i64 xm] 43); have hB1 := bt (bt hb0 hb1) (below_alloc w1 (.cells #[.int .i64 xb, .int .i64 xj, .int .i64 xo, .bool xc, .int .i64 xm] 43)); have s1 := Blk.new' w1 43 #[.int .i64 xb, .int .i64 xj, .int .i64 xo, .bool xc, .int .i64 xm])
          | (go_at_call 32; refine (hen _).mono ?_; rintro e w2 ⟨p2, n2, c2, rfl, hin2, hb2⟩; have r2 := r1.kept hb2; have hB2 := bt hB1 hb2; have s2 := s1.kept hb2; have d0 := s2.cell' (i := 0) rfl; have d1 := s2.cell' (i := 1) rfl; have d2 := s2.cell' (i := 2) rfl; have d3 := s2.cell' (i := 3) rfl; have d4 := s2.cell' (i := 4) rfl)
          | (refine wpList_store_blk rfl 43 (.tmp 2) (.tmp 26) rfl _ 0 [.int .i64 0, .int .i64 0, .int .i64 0, .bool false, .int .i64 0] rfl rfl r2 (by simp) size_super one5 ?_; intro w8 b8 t8))
      refine ret_superE rfl rfl b8 rfl rfl ⟨rfl, t8.below hB2 (Nat.le_refl _)⟩
  · have hnz : ((n : Int) != 256) = true := by rw [bne_iff_ne]; omega
    have hok : decOk xs = false := by unfold decOk; rw [HL.out, show (n == 256) = false from by rw [beq_eq_false_iff_ne]; exact hn]; rfl
    rw [(dec_no hok).1, (dec_no hok).2]
    clear hok hn
    go_enter Try.func34, Try.ntmps34
    go_wp2_with (refine wpList_store_blk rfl 43 (.tmp 2) (.tmp 10) rfl _ 0 [.int .i64 0, .int .i64 0, .int .i64 0, .bool false, .int .i64 0] rfl rfl r0 (by simp) size_super one5 ?_; intro w8 b8 t8)
    refine ret_superE rfl rfl b8 rfl rfl ⟨rfl, t8.below hb0 (Nat.le_refl _)⟩
end Go.Proofs.Ytbimcdaplnmjdaa
