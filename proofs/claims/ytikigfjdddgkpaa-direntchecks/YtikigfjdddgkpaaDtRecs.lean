/-
  What dirent.recordsOf and State answer.
-/
import Derived.Test.YtikigfjdddgkpaaDtRec
import Derived.Test.YtikigfjdddgkpaaDtIdx
namespace Go.Proofs.Ytikigfjdddgkpaa
open Go.RowKit
theorem recAt_some {xs : List Nat} {a : Nat} {r : Rc} (h : recAt xs a = some r) :
    a + 8 ≤ xs.length ∧ r = rcAt xs a ∧ r.ln % 4 = 0 ∧ needE r.nm ≤ r.ln ∧ r.ln ≤ (xs.length : Int) - a ∧ (if r.has then nmOk r.nm && inoOk r.ino r.kd else r.nm == [] && r.kd == 0) = true := by
  by_cases h1 : xs.length < a + 8
  · rw [recAt_short h1] at h; cases h
  by_cases h2 : xs.length < a + 8 + xs.getD (a + 6) 0
  · rw [recAt_name h1 h2] at h; cases h
  by_cases h3 : (lnAt xs a : Int) % 4 ≠ 0 ∨ (lnAt xs a : Int) < needE (nmAt xs a) ∨ ((xs.length : Int) - a) < (lnAt xs a : Int)
  · rw [recAt_bad h3] at h; cases h
  rw [recAt_ok h2 h3] at h
  by_cases h4 : (if (rcAt xs a).has = true then nmOk (nmAt xs a) && inoOk (inAt xs a : Nat) (kdAt xs a : Nat) else nmAt xs a == [] && ((kdAt xs a : Nat) : Int) == 0) = true
  · rw [if_pos h4] at h
    cases h
    have g1 : (lnAt xs a : Int) % 4 = 0 := Classical.byContradiction fun g => h3 (.inl g)
    have g2 : ¬ (lnAt xs a : Int) < needE (nmAt xs a) := fun g => h3 (.inr (.inl g))
    have g3 : ¬ ((xs.length : Int) - a) < (lnAt xs a : Int) := fun g => h3 (.inr (.inr g))
    exact ⟨by omega, rfl, g1, by show needE (nmAt xs a) ≤ (lnAt xs a : Int); omega, by show (lnAt xs a : Int) ≤ _; omega, h4⟩
  · rw [if_neg h4] at h
    cases h
theorem needE_ge (l : List UInt8) : 8 ≤ needE l := by unfold needE; omega
theorem recAt_ln {xs : List Nat} {a : Nat} {r : Rc} (h : recAt xs a = some r) : 8 ≤ r.ln ∧ r.ln ≤ (xs.length : Int) - a ∧ r.pl = (a : Int) := by
  obtain ⟨h0, h1, -, h3, h4, -⟩ := recAt_some h
  have := needE_ge r.nm
  exact ⟨by omega, h4, by rw [h1]; rfl⟩
theorem recsFrom_bad {xs : List Nat} {f a : Nat} {acc : List Rc} (h : a < xs.length) (hr : recAt xs a = none) : recsFrom xs f a acc = none := by
  cases f with
  | zero => rfl
  | succ f => rw [recsFrom, if_pos h, hr]
theorem recsFrom_twice {xs : List Nat} {f a : Nat} {acc : List Rc} {r : Rc} (h : a < xs.length) (hr : recAt xs a = some r) (hp : 0 ≤ placeE acc r.nm) : recsFrom xs f a acc = none := by
  cases f with
  | zero => rfl
  | succ f => rw [recsFrom, if_pos h, hr]; exact if_neg (by omega)
theorem recsFrom_next {xs : List Nat} {f a : Nat} {acc : List Rc} {r : Rc} (h : a < xs.length) (hr : recAt xs a = some r) (hp : ¬ 0 ≤ placeE acc r.nm) (hf : 1 ≤ f) : recsFrom xs f a acc = recsFrom xs (f - 1) (a + r.ln.toNat) (acc ++ [r]) := by
  cases f with
  | zero => omega
  | succ f => rw [recsFrom, if_pos h, hr]; exact if_pos (by omega)
theorem recsFrom_end {xs : List Nat} {f a : Nat} {acc : List Rc} (h : ¬ a < xs.length) (hf : 1 ≤ f) : recsFrom xs f a acc = some acc := by
  cases f with
  | zero => omega
  | succ f => rw [recsFrom, if_neg h]
theorem new_five (W : World) (x y z u v : Value) : ∀ j i, [x, y, z, u, v][j]? = some i → (W.alloc (.cells #[x, y, z, u, v] 69)).cell? ((⟨W.heap.size, 0, none⟩ : Addr).add j) = some i := by
  intro j i hi
  rw [addr_add, Nat.zero_add]
  exact (Blk.new' W 69 #[x, y, z, u, v]).cell' hi
theorem own_lt {w : World} {B : Nat} {e : TypeId} {s : Nat} {v : Value} {n : Nat} {xs : List Value} (h : w.ownsRow B e s v n xs) : ∀ k, v.ownBlock = some k → k < w.heap.size := by
  intro k hk
  rcases h.2 with ⟨rfl, rfl⟩ | ⟨g, cap, cur, rfl, _, hg, _⟩
  · simp [Value.ownBlock] at hk
  · simp [Value.ownBlock] at hk
    subst hk
    exact (Array.getElem?_eq_some_iff.1 hg).1
/-- What recordsOf answers. -/
def RecsAns (xs : List Nat) (w w' : World) (e : Ending) : Prop := ∃ v n, e = .returned (.tuple #[v, .int .i64 (stE xs)]) ∧ w'.ownsRow w.heap.size 69 5 v n (flatR (recsL xs)) ∧ Below w.heap.size w w'
theorem recs_no {xs : List Nat} (h : recsO xs = none) {w w' : World} (hb : Below w.heap.size w w') : RecsAns xs w w' (.returned (.tuple #[.slice none 0 0, .int .i64 160])) := by
  refine ⟨.slice none 0 0, 0, ?_, ?_, hb⟩
  · rw [show stE xs = 160 from by simp [stE, h]]
  · rw [show recsL xs = [] from by simp [recsL, h]]
    exact ⟨rfl, .inl ⟨rfl, rfl⟩⟩
theorem recs_yes {xs : List Nat} {l : List Rc} (h : recsO xs = some l) {w w' : World} (hb : Below w.heap.size w w') {v : Value} {n : Nat} (ho : w'.ownsRow w.heap.size 69 5 v n (flatR l)) : RecsAns xs w w' (.returned (.tuple #[v, .int .i64 0])) := by
  refine ⟨v, n, ?_, ?_, hb⟩
  · rw [show stE xs = 0 from by simp [stE, h]]
  · rw [show recsL xs = l from by simp [recsL, h]]
    exact ho
set_option linter.unusedSimpArgs false in
set_option linter.unusedVariables false in
set_option maxRecDepth 100000 in
set_option maxHeartbeats 8000000 in
theorem recordsOf_any (p : Option Addr) (n c : Nat) (xs : List Nat) (w : World) (hx : In w p n c xs) :
    Calls Try.prog 39 #[.slice p n c] w fun e w' => RecsAns xs w w' e := by
  have HL : Hid (xs.length = n) := hx.len
  by_cases hn : n = 256
  · subst hn
    obtain ⟨b, o, hpe, -, -⟩ := hx.at' (by decide)
    subst hpe
    obtain ⟨i0, hi, hz0, hz1, hz2⟩ := info_parts infoR
    go_enter Try.func39, Try.ntmps39
    go_wp2
    go_step3
    go_wp2
    go_step3
    go_wp2
    go_loopw [4, 5] (fun v t wr => ∃ (a f : Nat) (acc : List Rc), t = .int .i64 (a : Int) ∧ wr.ownsRow w.heap.size 69 5 v acc.length (flatR acc) ∧ Below w.heap.size w wr ∧ a ≤ 256 ∧ Hid (8 * acc.length ≤ a ∧ 257 ≤ f + a ∧ recsFrom xs f a acc = recsO xs)) (fun _ t _ => 257 - (intOf t).toNat)
    case atStart => exact ⟨0, 257, [], rfl, ⟨rfl, .inl ⟨rfl, rfl⟩⟩, Below.refl _ _, Nat.zero_le _, ⟨by simp, by omega, by unfold recsO; rw [HL.out, if_pos rfl]⟩⟩
    case round =>
      obtain ⟨a, f, acc, rfl, hown, hbel, ha, HI⟩ := hrel
      obtain ⟨pv, cv, hpv⟩ := owns_slice hown
      subst hpv
      by_cases hlt : a < 256
      · have hki : (a : Int) < 256 := by omega
        have hra := recordAt_any b o c a xs wr (hx.below hbel) hlt
        go_wp2_with fail
        refine hra.mono ?_
        rintro e1 w1 ⟨r, v, rfl, hrv, hb1⟩
        have hown1 := owns_below hown hb1
        have hbel1 := hbel.trans (hb1.mono hbel.size)
        cases v with
        | false =>
          have HF : Hid (recsO xs = none) := by show _ = _; rw [← HI.out.2.2]; exact recsFrom_bad (by rw [HL.out]; exact hlt) hrv
          clear hown hrv hra
          go_wp2
          rw [Exit.noGoto_ret]
          go_ret2
          exact recs_no HF.out (hbel1.alloc (by have := hbel1.size; omega) _)
        | true =>
          clear hown hra
          obtain ⟨l8, lle, -⟩ := recAt_ln hrv
          rw [HL.out] at lle
          have hal : acc.length ≤ 32 := by have := HI.out.1; omega
          obtain ⟨p2, c2, hpe, hin2⟩ := in_of_ownsR hown1 (by omega)
          cases hpe
          obtain ⟨R0, hR0⟩ : ∃ R0 : Obj, R0 = .cells #[.int .i64 r.pl, .int .i64 r.ln, .string ⟨r.nm.toArray⟩, .int .i64 r.ino, .int .i64 r.kd] 69 := ⟨_, rfl⟩
          have hpl := placeOf_any pv acc.length cv acc r.nm _ (hin2.below (below_alloc w1 R0)) (by omega)
          have k6 := Blk.new' w1 69 #[.int .i64 r.pl, .int .i64 r.ln, .string ⟨r.nm.toArray⟩, .int .i64 r.ino, .int .i64 r.kd]
          rw [hR0] at hpl
          by_cases hp : 0 ≤ placeE acc r.nm
          · have HF : Hid (recsO xs = none) := by show _ = _; rw [← HI.out.2.2]; exact recsFrom_twice (by rw [HL.out]; exact hlt) hrv hp
            clear hrv hR0 R0
            go_wp2_with (go_at_call 46; refine hpl.mono ?_; rintro e2 w2 ⟨rfl, hb2⟩)
            rw [Exit.noGoto_ret]
            go_ret2
            exact recs_no HF.out (hbel1.trans ((bt (below_alloc w1 _) hb2).mono hbel1.size))
          · have HF : Hid (recsFrom xs (f - 1) (a + r.ln.toNat) (acc ++ [r]) = recsO xs) := by show _ = _; rw [← HI.out.2.2]; exact (recsFrom_next (by rw [HL.out]; exact hlt) hrv hp (by have := HI.out.2.1; omega)).symm
            clear hrv hR0 R0
            go_wp2_with (first
              | (go_at_call 46; refine hpl.mono ?_; rintro e2 w2 ⟨rfl, hb2⟩; have k7 := k6.kept hb2; have d0 := k7.cell' (i := 0) rfl; have d1 := k7.cell' (i := 1) rfl; have d2 := k7.cell' (i := 2) rfl; have d3 := k7.cell' (i := 3) rfl; have d4 := k7.cell' (i := 4) rfl; have hown2 := owns_below hown1 (bt (below_alloc w1 _) hb2); have hbel2 := hbel1.trans ((bt (below_alloc w1 _) hb2).mono hbel1.size); have hsz2 := hbel2.size)
              | (at_builtin; refine wpList_append_own _ rfl (.tmp 21) (.tmp 23) 64 rfl w.heap.size 69 i0 (.agg #[.int .i64 0, .int .i64 0, .string ⟨#[]⟩, .int .i64 0, .int .i64 0]) 5 48 Try.underlying64 hi hz0 hz1 hz2 rfl (by decide) _ acc.length _ rfl (owns_below hown2 (below_alloc _ _)) ⟨_, 0, none⟩ 1 1 [.int .i64 r.pl, .int .i64 r.ln, .string ⟨r.nm.toArray⟩, .int .i64 r.ino, .int .i64 r.kd] rfl rfl (new_five _ _ _ _ _ _) (by simp [Value.oneCell']) (by unfold maxLen; omega) (by omega) (by simp; omega) ?_; intro v1 w5 hown5 hgrow5 _; have k8 := (k7.alloc _).grown hgrow5 (fun he => by have := own_lt hown1 _ he.symm; omega); have d15 := k8.cell' (i := 1) rfl))
            go_roundw
            case rel =>
              rw [flatR_snoc] at hown5
              refine ⟨a + r.ln.toNat, f - 1, acc ++ [r], val_int (by omega), by rw [List.length_append, List.length_singleton]; exact hown5, below_appP hbel2 (Nat.le_refl _) hown2 hgrow5, by omega, ⟨by rw [List.length_append, List.length_singleton]; have := HI.out.1; omega, by have := HI.out.2.1; omega, HF.out⟩⟩
            case measure => simp [intOf]; omega
      · have hki : ¬ (a : Int) < 256 := by omega
        have HF : Hid (recsO xs = some acc) := by show _ = _; rw [← HI.out.2.2]; exact recsFrom_end (by rw [HL.out]; exact hlt) (by have := HI.out.2.1; omega)
        go_wp2
        go_ret2
        exact recs_yes HF.out hbel hown
  · have HR : Hid (recsO xs = none) := by show _ = _; unfold recsO; rw [HL.out, if_neg hn]
    have hne : ((n : Int) != 256) = true := by rw [bne_iff_ne]; omega
    go_enter Try.func39, Try.ntmps39
    go_wp2
    go_step3
    go_wp2
    rw [Exit.noGoto_ret]
    go_ret2
    exact recs_no HR.out (Below.refl _ _)
end Go.Proofs.Ytikigfjdddgkpaa
