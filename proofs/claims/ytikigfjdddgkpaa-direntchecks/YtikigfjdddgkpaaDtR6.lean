/-
  What the reference's put and Empty answer.
-/
import Derived.Test.YtikigfjdddgkpaaDtWith
import Derived.Test.YtikigfjdddgkpaaDtR1
import Derived.Deep.Cut
namespace Go.Proofs.Ytikigfjdddgkpaa
open Go.RowKit
/-- A byte laid into a row: the facts behind it. -/
theorem put_byte {w : World} {B g C A : Nat} {xs : List Nat} (h : w.ownsRow B 5 1 (.slice (some ⟨g, 0, none⟩) 256 C) 256 (vals xs)) (hA : A < 256) : (∃ v, w.cell? ⟨g, A, none⟩ = some v) ∧ w.frozen? ⟨g, A, none⟩ = false ∧ ∀ y : Nat, (w.setCell ⟨g, A, none⟩ (.int .u8 (y : Int))).ownsRow B 5 1 (.slice (some ⟨g, 0, none⟩) 256 C) 256 (vals (spl xs A [y])) := by
  have hl : xs.length = 256 := by have := h.1; simpa [vals] using this
  refine ⟨⟨(vals xs)[A]'(by rw [vals_length]; omega), ?_⟩, h.frozenAt _, fun y => ?_⟩
  · rw [h.cellAt _ (by omega), List.getElem?_eq_getElem]
  · have := (h.stored A (.int .u8 (y : Int))).1
    rw [← vals_set1, spl_set _ (by omega)] at this
    exact this
theorem own_some {w : World} {B : Nat} {e : TypeId} {z : Nat} {v : Value} {n : Nat} {xs : List Value} (h : w.ownsRow B e z v n xs) (h0 : 0 < n) : ∃ g C, v = .slice (some ⟨g, 0, none⟩) n C := by
  rcases h.2 with ⟨_, h0'⟩ | ⟨g, cap, cur, hv, _⟩
  · omega
  · exact ⟨g, cap, hv⟩
set_option linter.unusedSimpArgs false in
set_option linter.unusedVariables false in
set_option maxRecDepth 100000 in
set_option maxHeartbeats 8000000 in
theorem rput_any (b o c a L I K : Nat) (nm : List UInt8) (xs : List Nat) (w : World) (hx : In w (some ⟨b, o, none⟩) 256 c xs) (ha : a + 8 + nm.length ≤ 256) (hL : L < 65536) (hI : I < 4294967296) (hK : K < 256) :
    Calls Try.prog 41 #[.slice (some ⟨b, o, none⟩) 256 c, (Rc.mk (a : Int) (L : Int) nm (I : Int) (K : Int)).val] w fun e w' => ∃ v, e = .returned v ∧ w'.ownsRow w.heap.size 5 1 v 256 (vals (spl xs a (encN L I K nm))) ∧ Below w.heap.size w w' := by
  have HXL : Hid (xs.length = 256) := hx.len
  obtain ⟨i0, hi, hz0, hz1, hz2⟩ := info_parts info5
  have hb0 := below_alloc w (.cells #[.int .i64 (a : Int), .int .i64 (L : Int), .string ⟨nm.toArray⟩, .int .i64 (I : Int), .int .i64 (K : Int)] 62)
  have k1 := Blk.new' w 62 #[.int .i64 (a : Int), .int .i64 (L : Int), .string ⟨nm.toArray⟩, .int .i64 (I : Int), .int .i64 (K : Int)]
  have hx0 := hx.below hb0
  have HFL : Hid (∀ j u, (vals xs)[j]? = some u → (w.alloc (.cells #[.int .i64 (a : Int), .int .i64 (L : Int), .string ⟨nm.toArray⟩, .int .i64 (I : Int), .int .i64 (K : Int)] 62)).cell? ((⟨b, o, none⟩ : Addr).add j) = some u) := hx0.cells rfl
  go_enter Try.func41, Try.ntmps41
  go_upto_region 2 with (at_builtin; refine wpList_append_own _ rfl (.const (.slice none 0 0)) (.tmp 6) 22 rfl (w.heap.size + 1) 5 i0 (.int .u8 0) 1 1 Try.underlying22 hi hz0 hz1 hz2 rfl (by decide) (.slice none 0 0) 0 [] rfl ⟨rfl, .inl ⟨rfl, rfl⟩⟩ ⟨b, o, none⟩ 256 c (vals xs) rfl (by rw [vals_length]; exact HXL.out) HFL.out (vals_one _) (by unfold maxLen; omega) (by omega) (by simp) ?_; intro v1 w1 hown1 hgrow1 _; have k2 := k1.grown hgrow1 (by simp [Value.ownBlock]); rw [List.nil_append, Nat.zero_add] at hown1; obtain ⟨g, C, rfl⟩ := own_some hown1 (by omega); have hgB := owns_newP hown1 _ rfl; dsimp only at hgB; have hB1 : Below w.heap.size w w1 := hb0.grown hgrow1 (by simp) (fun k hk => by simp [Value.ownBlock] at hk))
  have hgw : w.heap.size ≠ g := by omega
  have hgw2 : w.heap.size ≤ g := by omega
  clear hgrow1 k1 hx0 hb0
  obtain ⟨⟨y0, c0⟩, f0, p0⟩ := put_byte hown1 (A := a) (by omega)
  have d0 := k2.cell' (i := 0) rfl
  have d1 := k2.cell' (i := 1) rfl
  have d2 := k2.cell' (i := 2) rfl
  have d3 := k2.cell' (i := 3) rfl
  have d4 := k2.cell' (i := 4) rfl
  have P0 : Hid (∀ y : Nat, (w1.setCell ⟨g, a, none⟩ (.int .u8 (y : Int))).ownsRow (w.heap.size + 1) 5 1 (.slice (some ⟨g, 0, none⟩) 256 C) 256 (vals (spl (xs) a [y]))) := p0
  clear p0
  go_upto_region 4 with fail
  have z0 := P0.out (I / 16777216)
  rw [show (((I / 16777216 : Nat)) : Int) = (I : Int) / 16777216 from by omega] at z0
  have t0 := k2.setOther ⟨g, a, none⟩ (.int .u8 ((I : Int) / 16777216)) hgw
  have b0 := hB1.setCell (p := ⟨g, a, none⟩) hgw2 (.int .u8 ((I : Int) / 16777216))
  generalize World.setCell w1 _ _ = X0 at z0 t0 b0 ⊢
  clear P0 y0 c0 f0 hown1 k2 hB1 d0 d1 d2 d3 d4
  obtain ⟨A1, E1⟩ : ∃ A, a + 1 = A := ⟨_, rfl⟩
  have e1 : (a : Int) + 1 = (A1 : Int) := by omega
  have v1 : IntKind.i64.wrap (A1 : Int) = (A1 : Int) := wrap_small _ (by omega) (by omega)
  have m1 : (A1 : Int) < 256 := by omega
  obtain ⟨⟨y1, c1⟩, f1, p1⟩ := put_byte z0 (A := A1) (by omega)
  have d0 := t0.cell' (i := 0) rfl
  have d1 := t0.cell' (i := 1) rfl
  have d2 := t0.cell' (i := 2) rfl
  have d3 := t0.cell' (i := 3) rfl
  have d4 := t0.cell' (i := 4) rfl
  have HE1 : Hid (a + 1 = A1) := E1
  clear E1
  have P1 : Hid (∀ y : Nat, (X0.setCell ⟨g, A1, none⟩ (.int .u8 (y : Int))).ownsRow (w.heap.size + 1) 5 1 (.slice (some ⟨g, 0, none⟩) 256 C) 256 (vals (spl (spl (xs) a [I / 16777216]) A1 [y]))) := p1
  clear p1
  go_upto_region 5 with fail
  have z1 := P1.out (I / 65536 % 256)
  rw [show (((I / 65536 % 256 : Nat)) : Int) = (I : Int) / 65536 % 256 from by omega] at z1
  have t1 := t0.setOther ⟨g, A1, none⟩ (.int .u8 ((I : Int) / 65536 % 256)) hgw
  have b1 := b0.setCell (p := ⟨g, A1, none⟩) hgw2 (.int .u8 ((I : Int) / 65536 % 256))
  generalize World.setCell X0 _ _ = X1 at z1 t1 b1 ⊢
  clear P1 y1 c1 f1 z0 t0 b0 d0 d1 d2 d3 d4
  clear e1 v1 m1
  obtain ⟨A2, E2⟩ : ∃ A, a + 2 = A := ⟨_, rfl⟩
  have e2 : (a : Int) + 2 = (A2 : Int) := by omega
  have v2 : IntKind.i64.wrap (A2 : Int) = (A2 : Int) := wrap_small _ (by omega) (by omega)
  have m2 : (A2 : Int) < 256 := by omega
  obtain ⟨⟨y2, c2⟩, f2, p2⟩ := put_byte z1 (A := A2) (by omega)
  have d0 := t1.cell' (i := 0) rfl
  have d1 := t1.cell' (i := 1) rfl
  have d2 := t1.cell' (i := 2) rfl
  have d3 := t1.cell' (i := 3) rfl
  have d4 := t1.cell' (i := 4) rfl
  have HE2 : Hid (a + 2 = A2) := E2
  clear E2
  have P2 : Hid (∀ y : Nat, (X1.setCell ⟨g, A2, none⟩ (.int .u8 (y : Int))).ownsRow (w.heap.size + 1) 5 1 (.slice (some ⟨g, 0, none⟩) 256 C) 256 (vals (spl (spl (spl (xs) a [I / 16777216]) A1 [I / 65536 % 256]) A2 [y]))) := p2
  clear p2
  go_upto_region 6 with fail
  have z2 := P2.out (I / 256 % 256)
  rw [show (((I / 256 % 256 : Nat)) : Int) = (I : Int) / 256 % 256 from by omega] at z2
  have t2 := t1.setOther ⟨g, A2, none⟩ (.int .u8 ((I : Int) / 256 % 256)) hgw
  have b2 := b1.setCell (p := ⟨g, A2, none⟩) hgw2 (.int .u8 ((I : Int) / 256 % 256))
  generalize World.setCell X1 _ _ = X2 at z2 t2 b2 ⊢
  clear P2 y2 c2 f2 z1 t1 b1 d0 d1 d2 d3 d4
  clear e2 v2 m2
  obtain ⟨A3, E3⟩ : ∃ A, a + 3 = A := ⟨_, rfl⟩
  have e3 : (a : Int) + 3 = (A3 : Int) := by omega
  have v3 : IntKind.i64.wrap (A3 : Int) = (A3 : Int) := wrap_small _ (by omega) (by omega)
  have m3 : (A3 : Int) < 256 := by omega
  obtain ⟨⟨y3, c3⟩, f3, p3⟩ := put_byte z2 (A := A3) (by omega)
  have d0 := t2.cell' (i := 0) rfl
  have d1 := t2.cell' (i := 1) rfl
  have d2 := t2.cell' (i := 2) rfl
  have d3 := t2.cell' (i := 3) rfl
  have d4 := t2.cell' (i := 4) rfl
  have HE3 : Hid (a + 3 = A3) := E3
  clear E3
  have P3 : Hid (∀ y : Nat, (X2.setCell ⟨g, A3, none⟩ (.int .u8 (y : Int))).ownsRow (w.heap.size + 1) 5 1 (.slice (some ⟨g, 0, none⟩) 256 C) 256 (vals (spl (spl (spl (spl (xs) a [I / 16777216]) A1 [I / 65536 % 256]) A2 [I / 256 % 256]) A3 [y]))) := p3
  clear p3
  go_upto_region 7 with fail
  have z3 := P3.out (I % 256)
  rw [show (((I % 256 : Nat)) : Int) = (I : Int) % 256 from by omega] at z3
  have t3 := t2.setOther ⟨g, A3, none⟩ (.int .u8 ((I : Int) % 256)) hgw
  have b3 := b2.setCell (p := ⟨g, A3, none⟩) hgw2 (.int .u8 ((I : Int) % 256))
  generalize World.setCell X2 _ _ = X3 at z3 t3 b3 ⊢
  clear P3 y3 c3 f3 z2 t2 b2 d0 d1 d2 d3 d4
  clear e3 v3 m3
  obtain ⟨A4, E4⟩ : ∃ A, a + 4 = A := ⟨_, rfl⟩
  have e4 : (a : Int) + 4 = (A4 : Int) := by omega
  have v4 : IntKind.i64.wrap (A4 : Int) = (A4 : Int) := wrap_small _ (by omega) (by omega)
  have m4 : (A4 : Int) < 256 := by omega
  obtain ⟨⟨y4, c4⟩, f4, p4⟩ := put_byte z3 (A := A4) (by omega)
  have d0 := t3.cell' (i := 0) rfl
  have d1 := t3.cell' (i := 1) rfl
  have d2 := t3.cell' (i := 2) rfl
  have d3 := t3.cell' (i := 3) rfl
  have d4 := t3.cell' (i := 4) rfl
  have HE4 : Hid (a + 4 = A4) := E4
  clear E4
  have P4 : Hid (∀ y : Nat, (X3.setCell ⟨g, A4, none⟩ (.int .u8 (y : Int))).ownsRow (w.heap.size + 1) 5 1 (.slice (some ⟨g, 0, none⟩) 256 C) 256 (vals (spl (spl (spl (spl (spl (xs) a [I / 16777216]) A1 [I / 65536 % 256]) A2 [I / 256 % 256]) A3 [I % 256]) A4 [y]))) := p4
  clear p4
  go_upto_region 8 with fail
  have z4 := P4.out (L / 256)
  rw [show (((L / 256 : Nat)) : Int) = (L : Int) / 256 from by omega] at z4
  have t4 := t3.setOther ⟨g, A4, none⟩ (.int .u8 ((L : Int) / 256)) hgw
  have b4 := b3.setCell (p := ⟨g, A4, none⟩) hgw2 (.int .u8 ((L : Int) / 256))
  generalize World.setCell X3 _ _ = X4 at z4 t4 b4 ⊢
  clear P4 y4 c4 f4 z3 t3 b3 d0 d1 d2 d3 d4
  clear e4 v4 m4
  obtain ⟨A5, E5⟩ : ∃ A, a + 5 = A := ⟨_, rfl⟩
  have e5 : (a : Int) + 5 = (A5 : Int) := by omega
  have v5 : IntKind.i64.wrap (A5 : Int) = (A5 : Int) := wrap_small _ (by omega) (by omega)
  have m5 : (A5 : Int) < 256 := by omega
  obtain ⟨⟨y5, c5⟩, f5, p5⟩ := put_byte z4 (A := A5) (by omega)
  have d0 := t4.cell' (i := 0) rfl
  have d1 := t4.cell' (i := 1) rfl
  have d2 := t4.cell' (i := 2) rfl
  have d3 := t4.cell' (i := 3) rfl
  have d4 := t4.cell' (i := 4) rfl
  have HE5 : Hid (a + 5 = A5) := E5
  clear E5
  have P5 : Hid (∀ y : Nat, (X4.setCell ⟨g, A5, none⟩ (.int .u8 (y : Int))).ownsRow (w.heap.size + 1) 5 1 (.slice (some ⟨g, 0, none⟩) 256 C) 256 (vals (spl (spl (spl (spl (spl (spl (xs) a [I / 16777216]) A1 [I / 65536 % 256]) A2 [I / 256 % 256]) A3 [I % 256]) A4 [L / 256]) A5 [y]))) := p5
  clear p5
  go_upto_region 9 with fail
  have z5 := P5.out (L % 256)
  rw [show (((L % 256 : Nat)) : Int) = (L : Int) % 256 from by omega] at z5
  have t5 := t4.setOther ⟨g, A5, none⟩ (.int .u8 ((L : Int) % 256)) hgw
  have b5 := b4.setCell (p := ⟨g, A5, none⟩) hgw2 (.int .u8 ((L : Int) % 256))
  generalize World.setCell X4 _ _ = X5 at z5 t5 b5 ⊢
  clear P5 y5 c5 f5 z4 t4 b4 d0 d1 d2 d3 d4
  clear e5 v5 m5
  obtain ⟨A6, E6⟩ : ∃ A, a + 6 = A := ⟨_, rfl⟩
  have e6 : (a : Int) + 6 = (A6 : Int) := by omega
  have v6 : IntKind.i64.wrap (A6 : Int) = (A6 : Int) := wrap_small _ (by omega) (by omega)
  have m6 : (A6 : Int) < 256 := by omega
  obtain ⟨⟨y6, c6⟩, f6, p6⟩ := put_byte z5 (A := A6) (by omega)
  have d0 := t5.cell' (i := 0) rfl
  have d1 := t5.cell' (i := 1) rfl
  have d2 := t5.cell' (i := 2) rfl
  have d3 := t5.cell' (i := 3) rfl
  have d4 := t5.cell' (i := 4) rfl
  have HE6 : Hid (a + 6 = A6) := E6
  clear E6
  have P6 : Hid (∀ y : Nat, (X5.setCell ⟨g, A6, none⟩ (.int .u8 (y : Int))).ownsRow (w.heap.size + 1) 5 1 (.slice (some ⟨g, 0, none⟩) 256 C) 256 (vals (spl (spl (spl (spl (spl (spl (spl (xs) a [I / 16777216]) A1 [I / 65536 % 256]) A2 [I / 256 % 256]) A3 [I % 256]) A4 [L / 256]) A5 [L % 256]) A6 [y]))) := p6
  clear p6
  go_upto_region 10 with fail
  have z6 := P6.out (nm.length)
  rw [show (((nm.length : Nat)) : Int) = (nm.length : Int) from by omega] at z6
  have t6 := t5.setOther ⟨g, A6, none⟩ (.int .u8 ((nm.length : Int))) hgw
  have b6 := b5.setCell (p := ⟨g, A6, none⟩) hgw2 (.int .u8 ((nm.length : Int)))
  generalize World.setCell X5 _ _ = X6 at z6 t6 b6 ⊢
  clear P6 y6 c6 f6 z5 t5 b5 d0 d1 d2 d3 d4
  clear e6 v6 m6
  obtain ⟨A7, E7⟩ : ∃ A, a + 7 = A := ⟨_, rfl⟩
  have e7 : (a : Int) + 7 = (A7 : Int) := by omega
  have v7 : IntKind.i64.wrap (A7 : Int) = (A7 : Int) := wrap_small _ (by omega) (by omega)
  have m7 : (A7 : Int) < 256 := by omega
  obtain ⟨⟨y7, c7⟩, f7, p7⟩ := put_byte z6 (A := A7) (by omega)
  have d0 := t6.cell' (i := 0) rfl
  have d1 := t6.cell' (i := 1) rfl
  have d2 := t6.cell' (i := 2) rfl
  have d3 := t6.cell' (i := 3) rfl
  have d4 := t6.cell' (i := 4) rfl
  have HE7 : Hid (a + 7 = A7) := E7
  clear E7
  have P7 : Hid (∀ y : Nat, (X6.setCell ⟨g, A7, none⟩ (.int .u8 (y : Int))).ownsRow (w.heap.size + 1) 5 1 (.slice (some ⟨g, 0, none⟩) 256 C) 256 (vals (spl (spl (spl (spl (spl (spl (spl (spl (xs) a [I / 16777216]) A1 [I / 65536 % 256]) A2 [I / 256 % 256]) A3 [I % 256]) A4 [L / 256]) A5 [L % 256]) A6 [nm.length]) A7 [y]))) := p7
  clear p7
  go_upto_region 11 with fail
  have z7 := P7.out (K)
  rw [show (((K : Nat)) : Int) = (K : Int) from by omega] at z7
  have t7 := t6.setOther ⟨g, A7, none⟩ (.int .u8 ((K : Int))) hgw
  have b7 := b6.setCell (p := ⟨g, A7, none⟩) hgw2 (.int .u8 ((K : Int)))
  generalize World.setCell X6 _ _ = X7 at z7 t7 b7 ⊢
  clear P7 y7 c7 f7 z6 t6 b6 d0 d1 d2 d3 d4
  clear e7 v7 m7
  have HB4 : Hid (bytesB 4 I = [I / 16777216, I / 65536 % 256, I / 256 % 256, I % 256]) := by show _ = _; simp [bytesB, Nat.div_div_eq_div_mul]; omega
  have HB2 : Hid (bytesB 2 L = [L / 256, L % 256]) := by show _ = _; simp [bytesB]; omega
  have HZ : Hid (spl (spl (spl (spl (spl (spl (spl (spl (xs) a [I / 16777216]) A1 [I / 65536 % 256]) A2 [I / 256 % 256]) A3 [I % 256]) A4 [L / 256]) A5 [L % 256]) A6 [nm.length]) A7 [K] = spl xs a (bytesB 4 I ++ bytesB 2 L ++ [nm.length] ++ [K])) := by
    show _ = _
    have hl := HXL.out
    rw [HB4.out, HB2.out, ← HE1.out, ← HE2.out, ← HE3.out, ← HE4.out, ← HE5.out, ← HE6.out, ← HE7.out]
    rw [spl_spl (xs := xs) (o := a) (q := a + 1) (ys := [I / 16777216]) (zs := [I / 65536 % 256]) rfl (by simp only [List.length_cons, List.length_nil]; omega), List.cons_append, List.nil_append, spl_spl (xs := xs) (o := a) (q := a + 2) (ys := [I / 16777216, I / 65536 % 256]) (zs := [I / 256 % 256]) rfl (by simp only [List.length_cons, List.length_nil]; omega), List.cons_append, List.cons_append, List.nil_append, spl_spl (xs := xs) (o := a) (q := a + 3) (ys := [I / 16777216, I / 65536 % 256, I / 256 % 256]) (zs := [I % 256]) rfl (by simp only [List.length_cons, List.length_nil]; omega), List.cons_append, List.cons_append, List.cons_append, List.nil_append, spl_spl (xs := xs) (o := a) (q := a + 4) (ys := [I / 16777216, I / 65536 % 256, I / 256 % 256, I % 256]) (zs := [L / 256]) rfl (by simp only [List.length_cons, List.length_nil]; omega), List.cons_append, List.cons_append, List.cons_append, List.cons_append, List.nil_append, spl_spl (xs := xs) (o := a) (q := a + 5) (ys := [I / 16777216, I / 65536 % 256, I / 256 % 256, I % 256, L / 256]) (zs := [L % 256]) rfl (by simp only [List.length_cons, List.length_nil]; omega), List.cons_append, List.cons_append, List.cons_append, List.cons_append, List.cons_append, List.nil_append, spl_spl (xs := xs) (o := a) (q := a + 6) (ys := [I / 16777216, I / 65536 % 256, I / 256 % 256, I % 256, L / 256, L % 256]) (zs := [nm.length]) rfl (by simp only [List.length_cons, List.length_nil]; omega), List.cons_append, List.cons_append, List.cons_append, List.cons_append, List.cons_append, List.cons_append, List.nil_append, spl_spl (xs := xs) (o := a) (q := a + 7) (ys := [I / 16777216, I / 65536 % 256, I / 256 % 256, I % 256, L / 256, L % 256, nm.length]) (zs := [K]) rfl (by simp only [List.length_cons, List.length_nil]; omega), List.cons_append, List.cons_append, List.cons_append, List.cons_append, List.cons_append, List.cons_append, List.cons_append, List.nil_append]
    rfl
  rw [HZ.out] at z7
  clear HZ
  have hcap : 256 ≤ C := by
    rcases z7.2 with ⟨hn, _⟩ | ⟨g', cap, cur, hv, _, _, hc, _⟩
    · cases hn
    · cases hv; exact hc
  have hsl8 : ∃ o8 C8, (∀ W, (Instr.slice 22 (.slice (some ⟨g, 0, none⟩) 256 C) (some (.int .i64 ((a : Int) + 8))) none none).run Try.prog W = .ok (.slice (some ⟨g, o8, none⟩) (256 - (a + 8)) C8) W) ∧ o8 ≤ a + 8 ∧ (1 ≤ nm.length → o8 = a + 8) := by
    have ha8 : (a : Int) + 8 = ((a + 8 : Nat) : Int) := by omega
    rcases Nat.lt_or_ge (a + 8) 256 with h8 | h8
    · refine ⟨a + 8, C - (a + 8), fun W => ?_, Nat.le_refl _, fun _ => rfl⟩
      rw [ha8, slice_back g 0 256 C (a + 8) h8 hcap W, Nat.zero_add]
    · have h9 : a + 8 = 256 := by omega
      refine ⟨if C = 256 then 0 else 256, C - 256, fun W => ?_, by split <;> omega, fun h => by omega⟩
      rw [ha8, h9]
      by_cases hc : C = 256
      · subst hc
        simp [Instr.slice, Instr.sliceBounds, Instr.sliceBound, run_underlying Try.underlying22, asIntOf]
      · simp [Instr.slice, Instr.sliceBounds, Instr.sliceBound, run_underlying Try.underlying22, asIntOf, hc, addr_add]
  obtain ⟨o8, C8, hsl8, ho8, ho8'⟩ := hsl8
  obtain ⟨w6, hcp, h6, t6⟩ : ∃ w6, (Builtin.copy_ #[22, 9] 3 #[.slice (some ⟨g, o8, none⟩) (256 - (a + 8)) C8, .string ⟨nm.toArray⟩]).run Try.prog X7.drew = .ok (.int .i64 (nm.length : Int)) w6 ∧ w6.ownsRow (w.heap.size + 1) 5 1 (.slice (some ⟨g, 0, none⟩) 256 C) 256 (vals (spl xs a (encN L I K nm))) ∧ Turned X7.drew w6 g := by
    obtain ⟨w6, q1, q2, q3⟩ := copy_str (o := o8) (m := 256 - (a + 8)) (c := C8) (l := nm) (h := (show X7.drew.ownsRow (w.heap.size + 1) 5 1 (.slice (some ⟨g, 0, none⟩) 256 C) 256 _ from z7.drew)) (by omega) (by omega)
    refine ⟨w6, q1, ?_, q3⟩
    by_cases hn : nm = []
    · subst hn
      rw [show ofNm [] = [] from rfl, spl_nil] at q2
      rw [show encN L I K [] = bytesB 4 I ++ bytesB 2 L ++ [([] : List UInt8).length] ++ [K] from by simp [encN, ofNm]]
      exact q2
    · have hl : 1 ≤ nm.length := by cases nm with | nil => exact absurd rfl hn | cons x t => simp
      rw [ho8' hl, spl_spl (by simp [bytesB_length]) (by simp [bytesB_length, HXL.out, ofNm_length]; omega)] at q2
      exact q2
  clear ho8 ho8' hcap HE1 HE2 HE3 HE4 HE5 HE6 HE7
  generalize 256 - (a + 8) = M8 at hcp hsl8
  have hwr8 : IntKind.i64.wrap ((a : Int) + 8) = (a : Int) + 8 := wrap_small _ (by omega) (by omega)
  refine wp_region_noPanic ?_
  refine wp_region_held_drew (S := fun X => Blk X w.heap.size 62 [.int .i64 (a : Int), .int .i64 (L : Int), .string ⟨nm.toArray⟩, .int .i64 (I : Int), .int .i64 (K : Int)]) (by kernel_rfl) t7.drew (fun hHeld => ?_)
  refine wpAnyH_take (i := 0) (v := ?_) rfl (by kernel_rfl) (by kernel_rfl) (by kernel_rfl) (fun _ _ _ h => h) (Or.inl ⟨by rfl, ?_⟩) hHeld ?_
  rotate_left
  · intro w' hSw; try dsimp only at hSw
    go_simp; try (with_reducible rfl)
  try simp only [Act.put, List.getElem_toArray, List.getElem_cons_succ, List.getElem_cons_zero, List.setIfInBounds_toArray, List.set_cons_zero, List.set_cons_succ]
  refine wpAnyH_take (i := 1) (v := ?_) rfl (by kernel_rfl) (by kernel_rfl) (by kernel_rfl) (fun _ _ _ h => h) (Or.inl ⟨by rfl, ?_⟩) hHeld ?_
  rotate_left
  · intro w' hSw; try dsimp only at hSw
    go_simp; try (with_reducible rfl)
  try simp only [Act.put, List.getElem_toArray, List.getElem_cons_succ, List.getElem_cons_zero, List.setIfInBounds_toArray, List.set_cons_zero, List.set_cons_succ]
  refine wpAnyH_take (i := 2) (v := ?_) rfl (by kernel_rfl) (by kernel_rfl) (by kernel_rfl) (fun _ _ _ h => h) (Or.inl ⟨by rfl, ?_⟩) hHeld ?_
  rotate_left
  · intro w' hSw; try dsimp only at hSw
    have d0 := hSw.cell' (i := 0) rfl
    have d1 := hSw.cell' (i := 1) rfl
    have d2 := hSw.cell' (i := 2) rfl
    have d3 := hSw.cell' (i := 3) rfl
    have d4 := hSw.cell' (i := 4) rfl
    go_simp; try (with_reducible rfl)
  try simp only [Act.put, List.getElem_toArray, List.getElem_cons_succ, List.getElem_cons_zero, List.setIfInBounds_toArray, List.set_cons_zero, List.set_cons_succ]
  refine wpAnyH_take (i := 3) (v := ?_) rfl (by kernel_rfl) (by kernel_rfl) (by kernel_rfl) (fun _ _ _ h => h) (Or.inl ⟨by rfl, ?_⟩) hHeld ?_
  rotate_left
  · intro w' hSw; try dsimp only at hSw
    go_simp; try (with_reducible rfl)
  try simp only [Act.put, List.getElem_toArray, List.getElem_cons_succ, List.getElem_cons_zero, List.setIfInBounds_toArray, List.set_cons_zero, List.set_cons_succ]
  refine wpAnyH_take (i := 4) (v := ?_) rfl (by kernel_rfl) (by kernel_rfl) (by kernel_rfl) (fun _ _ _ h => h) (Or.inl ⟨by rfl, ?_⟩) hHeld ?_
  rotate_left
  · intro w' hSw; try dsimp only at hSw
    go_simp; try (with_reducible rfl)
  try simp only [Act.put, List.getElem_toArray, List.getElem_cons_succ, List.getElem_cons_zero, List.setIfInBounds_toArray, List.set_cons_zero, List.set_cons_succ]
  refine wpAnyH_take (i := 5) (v := ?_) rfl (by kernel_rfl) (by kernel_rfl) (by kernel_rfl) (fun _ _ _ h => h) (Or.inl ⟨by rfl, ?_⟩) hHeld ?_
  rotate_left
  · intro w' hSw; try dsimp only at hSw
    go_simp; try (with_reducible rfl)
  try simp only [Act.put, List.getElem_toArray, List.getElem_cons_succ, List.getElem_cons_zero, List.setIfInBounds_toArray, List.set_cons_zero, List.set_cons_succ]
  refine wpAnyH_take (i := 6) (v := ?_) rfl (by kernel_rfl) (by kernel_rfl) (by kernel_rfl) (fun _ _ _ h => h) (Or.inl ⟨by rfl, ?_⟩) hHeld ?_
  rotate_left
  · intro w' hSw; try dsimp only at hSw
    go_simp; try (with_reducible rfl)
  try simp only [Act.put, List.getElem_toArray, List.getElem_cons_succ, List.getElem_cons_zero, List.setIfInBounds_toArray, List.set_cons_zero, List.set_cons_succ]
  refine wpAnyH_take (i := 7) (v := ?_) rfl (by kernel_rfl) (by kernel_rfl) (by kernel_rfl) (fun _ _ _ h => h) (Or.inl ⟨by rfl, ?_⟩) hHeld ?_
  rotate_left
  · intro w' hSw; try dsimp only at hSw
    have d0 := hSw.cell' (i := 0) rfl
    have d1 := hSw.cell' (i := 1) rfl
    have d2 := hSw.cell' (i := 2) rfl
    have d3 := hSw.cell' (i := 3) rfl
    have d4 := hSw.cell' (i := 4) rfl
    go_simp; try (with_reducible rfl)
  try simp only [Act.put, List.getElem_toArray, List.getElem_cons_succ, List.getElem_cons_zero, List.setIfInBounds_toArray, List.set_cons_zero, List.set_cons_succ]
  refine wpAnyH_ready (rs := [8]) (by kernel_rfl) (by simp) ?_
  refine AllReadyH.cons rfl (fun K hK => ?_) AllReadyH.nil
  go_simp
  refine hK.out _ _ (t7.drew.turned t6 (by omega)) (fun hHeld => ?_)
  clear hK K
  try simp only [Act.put, List.getElem_toArray, List.getElem_cons_succ, List.getElem_cons_zero, List.setIfInBounds_toArray, List.set_cons_zero, List.set_cons_succ]
  refine wpAnyH_done (by kernel_rfl) ?_ _
  refine NoPanic.normal ?_
  clear hcp
  go_wp2
  go_ret
  exact ⟨_, rfl, owns_base h6 (by omega), t6.below b7.drew (by omega)⟩
theorem rput_rc (b o c : Nat) (r : Rc) (xs : List Nat) (w : World) (hx : In w (some ⟨b, o, none⟩) 256 c xs) (hr : LayOk r) :
    Calls Try.prog 41 #[.slice (some ⟨b, o, none⟩) 256 c, r.val] w fun e w' => ∃ v, e = .returned v ∧ w'.ownsRow w.heap.size 5 1 v 256 (vals (layR xs r)) ∧ Below w.heap.size w w' := by
  obtain ⟨a, l, nm, i, k⟩ := r
  obtain ⟨h0, h1, h2, h3, h4, h5, h6, h7⟩ := hr
  dsimp only at h0 h1 h2 h3 h4 h5 h6 h7
  obtain ⟨a, rfl⟩ := Int.eq_ofNat_of_zero_le h0
  obtain ⟨l, rfl⟩ := Int.eq_ofNat_of_zero_le h2
  obtain ⟨i, rfl⟩ := Int.eq_ofNat_of_zero_le h4
  obtain ⟨k, rfl⟩ := Int.eq_ofNat_of_zero_le h6
  exact rput_any b o c a l i k nm xs w hx (by omega) (by omega) (by omega) (by omega)
set_option linter.unusedSimpArgs false in
set_option linter.unusedVariables false in
set_option maxRecDepth 100000 in
set_option maxHeartbeats 8000000 in
theorem rempty_any (w : World) : Calls Try.prog 19 #[] w fun e w' => ∃ v, e = .returned v ∧ w'.ownsRow w.heap.size 5 1 v 256 (vals emptyL) ∧ Below w.heap.size w w' := by
  obtain ⟨i0, hi, hz0, hz1, hz2⟩ := info_parts info5
  have hlay : ∀ W, W.ownsRow w.heap.size 5 1 (.slice (some ⟨w.heap.size, 0, none⟩) 256 256) 256 (zerosV 256) → Calls Try.prog 41 #[.slice (some ⟨w.heap.size, 0, none⟩) 256 256, .agg #[.int .i64 0, .int .i64 256, .string ⟨#[]⟩, .int .i64 0, .int .i64 0]] W fun e w' => ∃ v, e = .returned v ∧ w'.ownsRow W.heap.size 5 1 v 256 (vals emptyL) ∧ Below W.heap.size W w' := fun W h => by
    rw [zerosV_vals] at h
    obtain ⟨p, c, he, hin⟩ := in_of_owns h (by simp) (by omega)
    cases he
    exact rput_rc w.heap.size 0 256 rcE (List.replicate 256 0) W hin (by refine ⟨?_, ?_, ?_, ?_, ?_, ?_, ?_, ?_⟩ <;> decide)
  go_enter Try.func19, Try.ntmps19
  go_wp2_with (at_make; refine wpList_make_full _ rfl _ _ 22 rfl w.heap.size 5 i0 (.int .u8 0) 1 Try.underlying22 hi hz0 hz1 .i64 .i64 _ _ 256 rfl rfl rfl rfl (by rw [hz2]; omega) (by decide) (Nat.le_refl _) ?_; intro w1 hown1 hgrow1; clear hi hz0 hz1 hz2)
  refine (hlay w1 (owns_of_block (Nat.le_refl _) (zerosV_length 256) (by decide) (made_block hown1))).mono ?_
  rintro e2 w2 ⟨v, rfl, hown2, hb2⟩
  go_wp2
  go_ret
  exact ⟨_, rfl, owns_base hown2 (below_grown0 hgrow1).size, bt (below_grown0 hgrow1) hb2⟩
end Go.Proofs.Ytikigfjdddgkpaa
