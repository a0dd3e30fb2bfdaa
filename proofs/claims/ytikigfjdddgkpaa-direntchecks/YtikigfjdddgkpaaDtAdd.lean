/-
  What dirent.Add answers.
-/
import Derived.Test.YtikigfjdddgkpaaDtAddP
namespace Go.Proofs.Ytikigfjdddgkpaa
open Go.RowKit
/-- What a change answers. -/
def ChAns (O : Int × List Nat) (w w' : World) (e : Ending) : Prop := ∃ v n, e = .returned (.tuple #[v, .int .i64 O.1]) ∧ w'.ownsRow w.heap.size 5 1 v n (vals O.2) ∧ Below w.heap.size w w'
theorem ch_no {k : Int} {w w' : World} (hb : Below w.heap.size w w') : ChAns (k, []) w w' (.returned (.tuple #[.slice none 0 0, .int .i64 k])) :=
  ⟨.slice none 0 0, 0, rfl, ⟨rfl, .inl ⟨rfl, rfl⟩⟩, hb⟩
set_option linter.unusedSimpArgs false in
set_option linter.unusedVariables false in
set_option maxRecDepth 100000 in
set_option maxHeartbeats 8000000 in
theorem add_any (p : Option Addr) (n c : Nat) (xs : List Nat) (x : Ent) (w : World) (hx : In w p n c xs) :
    Calls Try.prog 26 #[.slice p n c, x.val] w fun e w' => ChAns (addO xs x) w w' e := by
  have HB : Hid (∀ y ∈ xs, y < 256) := hx.byte
  have hb0 := below_alloc w (.cells #[.string ⟨x.nm.toArray⟩, .int .i64 x.ino, .int .i64 x.kd] 24)
  have x0 := Blk.new' w 24 #[.string ⟨x.nm.toArray⟩, .int .i64 x.ino, .int .i64 x.kd]
  have hck := fun w => check_any x w
  by_cases hc0 : chkE x.nm x.ino x.kd = 0
  · rw [hc0] at hck
    have hle : x.nm.length ≤ 100000 := by have := nmOk_len (chkE_zero.1 hc0).1; omega
    have HC0 : Hid (chkE x.nm x.ino x.kd = 0) := hc0
    clear hc0
    cases hro : recsO xs with
    | none =>
      have HE : Hid (addO xs x = (160, [])) := addO_dir HC0.out hro
      have HS : Hid (stE xs = 160) := by show _ = _; simp [stE, hro]
      rw [HE.out]
      clear hro
      go_enter Try.func26, Try.ntmps26
      go_wp2_with (first
        | (go_at_call 13; refine (hck _).mono ?_; rintro e1 w1 ⟨rfl, hb1⟩; have hB1 := bt hb0 hb1)
        | (go_at_call 39; refine (recordsOf_any p n c xs _ (hx.below hB1)).mono ?_; rintro e2 w2 ⟨v2, n2, rfl, ho2, hb2⟩; have hB2 := bt hB1 hb2; rw [HS.out]))
      go_ret2
      exact ch_no hB2
    | some rs =>
      have HS : Hid (stE xs = 0 ∧ recsL xs = rs) := by refine ⟨?_, ?_⟩; simp [stE, hro]; simp [recsL, hro]
      have HRO : Hid (recsO xs = some rs) := hro
      have HOK : Hid (∀ r ∈ rs, RcOk r) := recsO_ok HB.out hro
      have hrl : rs.length ≤ 32 := recsO_count hro
      have hln := recsO_len hro
      have hnn := hx.len
      rw [hln] at hnn
      subst hnn
      obtain ⟨b, o, hpe, hbl, -⟩ := hx.at' (by decide)
      subst hpe
      clear hro hln
      by_cases hp : 0 ≤ placeE rs x.nm
      · have HE : Hid (addO xs x = (5, [])) := addO_twice HC0.out HRO.out hp
        rw [HE.out]
        go_enter Try.func26, Try.ntmps26
        go_wp2_with (first
          | (go_at_call 13; refine (hck _).mono ?_; rintro e1 w1 ⟨rfl, hb1⟩; have hB1 := bt hb0 hb1; have x1 := x0.kept hb1)
          | (go_at_call 39; refine (recordsOf_any _ 256 c xs _ (hx.below hB1)).mono ?_; rintro e2 w2 ⟨v2, n2, rfl, ho2, hb2⟩; have hB2 := bt hB1 hb2; rw [HS.out.1]; rw [HS.out.2] at ho2; have ho2' := ho2; obtain ⟨p2, c2, hv2, hi2⟩ := in_of_ownsR ho2 (by have := ho2.1; rw [flatR_length] at this; omega); subst hv2; have x2 := x1.kept hb2; have z0 := x2.cell' (i := 0) rfl; have hn2 := hi2.len; have hn2' : n2 ≤ 1000 := by omega)
          | (go_at_call 46; refine (placeOf_any _ n2 c2 rs x.nm _ hi2 (by omega)).mono ?_; rintro e3 w3 ⟨rfl, hb3⟩; have hB3 := bt hB2 hb3; have x3 := x2.kept hb3; have hi3 := hi2.below hb3))
        go_ret2
        exact ch_no hB3
      · by_cases hf : fitE rs x < 0
        · have HE : Hid (addO xs x = (6, [])) := addO_full HC0.out HRO.out hp hf
          rw [HE.out]
          go_enter Try.func26, Try.ntmps26
          go_wp2_with (first
            | (go_at_call 13; refine (hck _).mono ?_; rintro e1 w1 ⟨rfl, hb1⟩; have hB1 := bt hb0 hb1; have x1 := x0.kept hb1)
            | (go_at_call 39; refine (recordsOf_any _ 256 c xs _ (hx.below hB1)).mono ?_; rintro e2 w2 ⟨v2, n2, rfl, ho2, hb2⟩; have hB2 := bt hB1 hb2; rw [HS.out.1]; rw [HS.out.2] at ho2; have ho2' := ho2; obtain ⟨p2, c2, hv2, hi2⟩ := in_of_ownsR ho2 (by have := ho2.1; rw [flatR_length] at this; omega); subst hv2; have x2 := x1.kept hb2; have z0 := x2.cell' (i := 0) rfl; have hn2 := hi2.len; have hn2' : n2 ≤ 1000 := by omega)
            | (go_at_call 46; refine (placeOf_any _ n2 c2 rs x.nm _ hi2 (by omega)).mono ?_; rintro e3 w3 ⟨rfl, hb3⟩; have hB3 := bt hB2 hb3; have x3 := x2.kept hb3; have hi3 := hi2.below hb3)
            | (go_at_call 47; refine (idxFit_any _ n2 c2 rs w.heap.size (fitsB x) _ hi3 (by omega) (fun r hr W hW => fits_any r x w.heap.size 24 W (x3.kept hW) (by have := (HOK.out r hr).len; omega) (by have := (HOK.out r hr).need; have := needE_ge r.nm; omega) (by have := (HOK.out r hr).fit; have := (HOK.out r hr).pl; omega) hle)).mono ?_; rintro e4 w4 ⟨rfl, hb4⟩; rw [show idxOf (fitsB x) rs 0 = fitE rs x from rfl]; have hB4 := bt hB3 hb4; have x4 := x3.kept hb4; have hi4 := hi3.below hb4))
          go_ret2
          exact ch_no hB4
        · obtain ⟨k, hk, hkl, hks⟩ := fit_sat (rs := rs) (x := x) (by omega)
          have HE : Hid (addO xs x = (0, layR (layR xs (leftR (eR rs k))) (newR (eR rs k) x))) := addO_ok HC0.out HRO.out hp hk
          rw [HE.out]
          have hrk := HOK.out (eR rs k) (eR_mem hkl)
          have hsp := fun W => split_any (eR rs k) W (by have := hrk.len; omega) hrk.pl (by have := hrk.fit; have := hrk.pl; have := hrk.need; have := needE_ge (eR rs k).nm; omega) (by have := hrk.need; have := needE_ge (eR rs k).nm; omega) (by have := hrk.fit; have := hrk.pl; omega)
          have HLO : Hid (LayOk (leftR (eR rs k)) ∧ LayOk (newR (eR rs k) x)) := ⟨hrk.left, hrk.new HC0.out hks⟩
          have HNW : Hid (newR (eR rs k) x = ⟨(addR (eR rs k)).pl, (addR (eR rs k)).ln, x.nm, x.ino, x.kd⟩) := rfl
          have HKL : Hid (k < rs.length) := hkl
          have hfi : ¬ (fitE rs x < 0) := hf
          have HKE : Hid (fitE rs x = (k : Int)) := hk
          clear hrk hk hf
          have HG : Hid (layR (layR xs (leftR (eR rs k))) (newR (eR rs k) x) = [leftR (eR rs k), newR (eR rs k) x].foldl layR xs) := rfl
          rw [HG.out]
          have HAL : Hid (∀ r ∈ [leftR (eR rs k), newR (eR rs k) x], LayOk r) := by
            intro r hr
            simp only [List.mem_cons, List.not_mem_nil, or_false] at hr
            rcases hr with rfl | rfl
            · exact HLO.out.1
            · exact HLO.out.2
          rw [HNW.out] at HAL ⊢
          clear HLO HNW HG HE
          generalize leftR (eR rs k) = Lf at *
          generalize addR (eR rs k) = Ad at *
          obtain ⟨l1, l2, l3, l4, l5⟩ := Lf
          obtain ⟨a1, a2, a3, a4, a5⟩ := Ad
          dsimp only [Rc.val] at hsp HAL ⊢
          go_enter Try.func26, Try.ntmps26
          go_wp2_with (first
            | (go_at_call 13; refine (hck _).mono ?_; rintro e1 w1 ⟨rfl, hb1⟩; have hB1 := bt hb0 hb1; have x1 := x0.kept hb1)
            | (go_at_call 39; refine (recordsOf_any _ 256 c xs _ (hx.below hB1)).mono ?_; rintro e2 w2 ⟨v2, n2, rfl, ho2, hb2⟩; have hB2 := bt hB1 hb2; rw [HS.out.1]; rw [HS.out.2] at ho2; have ho2' := ho2; obtain ⟨p2, c2, hv2, hi2⟩ := in_of_ownsR ho2 (by have := ho2.1; rw [flatR_length] at this; omega); subst hv2; have x2 := x1.kept hb2; have z0 := x2.cell' (i := 0) rfl; have hn2 := hi2.len; have hn2' : n2 ≤ 1000 := by omega)
            | (go_at_call 46; refine (placeOf_any _ n2 c2 rs x.nm _ hi2 (by omega)).mono ?_; rintro e3 w3 ⟨rfl, hb3⟩; have hB3 := bt hB2 hb3; have x3 := x2.kept hb3; have hi3 := hi2.below hb3)
            | (go_at_call 47; refine (idxFit_any _ n2 c2 rs w.heap.size (fitsB x) _ hi3 (by omega) (fun r hr W hW => fits_any r x w.heap.size 24 W (x3.kept hW) (by have := (HOK.out r hr).len; omega) (by have := (HOK.out r hr).need; have := needE_ge r.nm; omega) (by have := (HOK.out r hr).fit; have := (HOK.out r hr).pl; omega) hle)).mono ?_; rintro e4 w4 ⟨rfl, hb4⟩; rw [show idxOf (fitsB x) rs 0 = (k : Int) from HKE.out]; have hB4 := bt hB3 hb4; have x4 := x3.kept hb4; have hi4 := hi3.below hb4; obtain ⟨gb, og, hpe4, -, hc4⟩ := hi4.at' (by have := HKL.out; omega); subst hpe4; obtain ⟨q0, q1, q2, q3, q4⟩ := hc4 k (by have := HKL.out; omega); have hkn : (k : Int) < (n2 : Int) := (by have := HKL.out; omega); clear hc4)
            | (go_at_call 50; refine (hsp _).mono ?_; rintro e5 w5 ⟨rfl, hb5⟩; have hB5 := bt hB4 hb5; have x5 := x4.kept hb5; have k10 := (Blk.new' w5 69 #[.int .i64 0, .int .i64 0, .string ⟨#[]⟩, .int .i64 0, .int .i64 0]).alloc (.cells #[.int .i64 0, .int .i64 0, .string ⟨#[]⟩, .int .i64 0, .int .i64 0] 69); have k11 := Blk.newAt (w := w5.alloc (.cells #[.int .i64 0, .int .i64 0, .string ⟨#[]⟩, .int .i64 0, .int .i64 0] 69)) (g := w5.heap.size + 1) 69 #[.int .i64 0, .int .i64 0, .string ⟨#[]⟩, .int .i64 0, .int .i64 0] (by simp); have hs5 := hB5.size; have hxl5 := x5.lt; have hB6 := (hB5.alloc hs5 (.cells #[.int .i64 0, .int .i64 0, .string ⟨#[]⟩, .int .i64 0, .int .i64 0] 69)).alloc (by simp; omega) (.cells #[.int .i64 0, .int .i64 0, .string ⟨#[]⟩, .int .i64 0, .int .i64 0] 69); have x6 := (x5.alloc (.cells #[.int .i64 0, .int .i64 0, .string ⟨#[]⟩, .int .i64 0, .int .i64 0] 69)).alloc (.cells #[.int .i64 0, .int .i64 0, .string ⟨#[]⟩, .int .i64 0, .int .i64 0] 69))
            | (refine wpList_store_blk rfl 69 (.tmp 10) (.tmp 41) rfl _ 0 [.int .i64 l1, .int .i64 l2, .string ⟨l3.toArray⟩, .int .i64 l4, .int .i64 l5] rfl rfl k10 (by simp) (by kernel_rfl) (by simp [Value.oneCell']) ?_; intro w6 h6 t6; replace h6 : Blk w6 _ 69 [.int .i64 l1, .int .i64 l2, .string ⟨l3.toArray⟩, .int .i64 l4, .int .i64 l5] := h6; have k11b := k11.turned t6 (by omega); have x7 := x6.turned t6 (by omega); have hB7 := t6.below hB6 hs5)
            | (refine wpList_store_blk rfl 69 (.tmp 11) (.tmp 42) rfl _ 0 [.int .i64 a1, .int .i64 a2, .string ⟨a3.toArray⟩, .int .i64 a4, .int .i64 a5] rfl rfl k11b (by simp) (by kernel_rfl) (by simp [Value.oneCell']) ?_; intro w7 h7 t7; replace h7 : Blk w7 _ 69 [.int .i64 a1, .int .i64 a2, .string ⟨a3.toArray⟩, .int .i64 a4, .int .i64 a5] := h7; have h6b := h6.turned t7 (by omega); have x8 := x7.turned t7 (by omega); have y0 := x8.cell' (i := 0) rfl; have y1 := x8.cell' (i := 1) rfl; have y2 := x8.cell' (i := 2) rfl; have hB8 := t7.below hB7 (by omega))
            | (refine wpList_store_blk rfl 24 (.tmp 44) (.tmp 43) rfl _ 2 [.string ⟨x.nm.toArray⟩, .int .i64 x.ino, .int .i64 x.kd] rfl rfl h7 (by simp) (by kernel_rfl) (by simp [Value.oneCell']) ?_; intro w8 h8 t8; replace h8 : Blk w8 _ 69 [.int .i64 a1, .int .i64 a2, .string ⟨x.nm.toArray⟩, .int .i64 x.ino, .int .i64 x.kd] := h8; have h6c := h6b.turned t8 (by omega); have hB8b := t8.below hB8 (by omega); have d0 := h6c.cell' (i := 0) rfl; have d1 := h6c.cell' (i := 1) rfl; have d2 := h6c.cell' (i := 2) rfl; have d3 := h6c.cell' (i := 3) rfl; have d4 := h6c.cell' (i := 4) rfl; have f0 := h8.cell' (i := 0) rfl; have f1 := h8.cell' (i := 1) rfl; have f2 := h8.cell' (i := 2) rfl; have f3 := h8.cell' (i := 3) rfl; have f4 := h8.cell' (i := 4) rfl)
            | (go_at_call 51; refine (with_any b o c xs _ 2 2 [⟨l1, l2, l3, l4, l5⟩, ⟨a1, a2, x.nm, x.ino, x.kd⟩] _ (hx.below (hB8b.alloc hB8b.size _)) (inR_lit w8 [⟨l1, l2, l3, l4, l5⟩, ⟨a1, a2, x.nm, x.ino, x.kd⟩] (by show 2 ≤ 1000; omega)) (by omega) HAL.out).mono ?_; rintro e9 w9 ⟨v9, rfl, ho9, hb9⟩; have ho9 := owns_base (B' := w.heap.size) ho9 (by simp; have := hB8b.size; omega); have hB9 := (hB8b.alloc hB8b.size _).trans (hb9.mono (by simp; have := hB8b.size; omega))))
          go_ret2
          exact ⟨_, _, rfl, ho9, hB9⟩
  · have HE : Hid (addO xs x = (chkE x.nm x.ino x.kd, [])) := addO_chk hc0
    rw [HE.out]
    have hne : (chkE x.nm x.ino x.kd != 0) = true := by rw [bne_iff_ne]; exact hc0
    clear hc0
    go_enter Try.func26, Try.ntmps26
    go_wp2_with (go_at_call 13; refine (hck _).mono ?_; rintro e1 w1 ⟨rfl, hb1⟩; have hB1 := bt hb0 hb1)
    go_ret2
    exact ch_no hB1
end Go.Proofs.Ytikigfjdddgkpaa
