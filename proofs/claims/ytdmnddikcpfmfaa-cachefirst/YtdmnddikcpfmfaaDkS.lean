/-
  A disk in memory: what its blocks hold.
-/
import Derived.Test.YtdmnddikcpfmfaaDkCells
namespace Go.Proofs.Ytdmnddikcpfmfaa
open Go.RowKit
def z256 : List Nat := List.replicate 256 0
theorem z256_length : z256.length = 256 := List.length_replicate
/-- A sector's bytes, or those of a write. -/
def Is (d : List Nat) : Prop := d.length = 256 ∧ ∀ y ∈ d, y < 256
theorem is_z256 : Is z256 := ⟨z256_length, fun y hy => by rw [List.eq_of_mem_replicate hy]; omega⟩
/-- A sector as cells. -/
def secV (x : List Nat × Bool) : List Value := vals x.1 ++ [.bool x.2]
def flatS (l : List (List Nat × Bool)) : List Value := (l.map secV).flatten
/-- A write as cells. -/
def wrV (x : Nat × List Nat) : List Value := .int .i64 (x.1 : Int) :: vals x.2
def flatW (l : List (Nat × List Nat)) : List Value := (l.map wrV).flatten
theorem secV_length {x : List Nat × Bool} (h : x.1.length = 256) : (secV x).length = 257 := by simp [secV, vals_length, h]
theorem wrV_length {x : Nat × List Nat} (h : x.2.length = 256) : (wrV x).length = 257 := by simp [wrV, vals_length, h]
theorem secV_one (x : List Nat × Bool) : ∀ v ∈ secV x, v.oneCell' = true := by
  intro v hv
  rcases List.mem_append.1 hv with h | h
  · exact vals_one _ v h
  · rw [List.mem_singleton.1 h]; rfl
theorem wrV_one (x : Nat × List Nat) : ∀ v ∈ wrV x, v.oneCell' = true := by
  intro v hv
  rcases List.mem_cons.1 hv with h | h
  · rw [h]; rfl
  · exact vals_one _ v h
theorem flat_length {α : Type} (f : α → List Value) (n : Nat) : ∀ (l : List α), (∀ x ∈ l, (f x).length = n) → (l.map f).flatten.length = l.length * n
  | [], _ => by simp
  | x :: r, h => by
    have e := flat_length f n r (fun y hy => h y (List.mem_cons_of_mem _ hy))
    rw [List.map_cons, List.flatten_cons, List.length_append, e, h x (List.mem_cons_self ..), List.length_cons, Nat.add_mul, Nat.one_mul, Nat.add_comm]
theorem flat_get {α : Type} (f : α → List Value) (n : Nat) : ∀ (l : List α), (∀ x ∈ l, (f x).length = n) → ∀ (i : Nat) (x : α), l[i]? = some x → ((l.map f).flatten.drop (i * n)).take n = f x
  | [], _, i, x, h => by simp at h
  | y :: r, hl, 0, x, h => by
    have hy := hl y (List.mem_cons_self ..)
    have e : y = x := by simpa using h
    subst e
    rw [Nat.zero_mul, List.drop_zero, List.map_cons, List.flatten_cons, List.take_left' hy]
  | y :: r, hl, i + 1, x, h => by
    have hy := hl y (List.mem_cons_self ..)
    have e := flat_get f n r (fun z hz => hl z (List.mem_cons_of_mem _ hz)) i x (by simpa using h)
    rw [List.map_cons, List.flatten_cons, List.drop_append, hy, Nat.add_mul, Nat.one_mul, List.drop_of_length_le (by omega), List.nil_append, Nat.add_sub_cancel, e]
theorem flat_set {α : Type} (f : α → List Value) (n : Nat) : ∀ (l : List α), (∀ x ∈ l, (f x).length = n) → ∀ (i : Nat) (y : α), i < l.length → (l.map f).flatten.take (i * n) ++ f y ++ (l.map f).flatten.drop (i * n + n) = ((l.set i y).map f).flatten
  | [], _, i, y, h => by simp at h
  | x :: r, hl, 0, y, h => by
    have hx := hl x (List.mem_cons_self ..)
    rw [Nat.zero_mul, List.take_zero, List.nil_append, Nat.zero_add, List.map_cons, List.flatten_cons, List.drop_left' hx, List.set_cons_zero, List.map_cons, List.flatten_cons]
  | x :: r, hl, i + 1, y, h => by
    have hx := hl x (List.mem_cons_self ..)
    have e := flat_set f n r (fun z hz => hl z (List.mem_cons_of_mem _ hz)) i y (by simpa using h)
    rw [List.set_cons_succ, List.map_cons, List.flatten_cons, List.map_cons, List.flatten_cons, ← e, List.take_append, List.drop_append, hx, Nat.add_mul, Nat.one_mul, List.take_of_length_le (by omega), List.drop_of_length_le (by omega)]
    rw [List.nil_append, Nat.add_sub_cancel, show i * n + n + n - n = i * n + n from by omega, List.append_assoc, List.append_assoc, List.append_assoc]
theorem flatS_length {l : List (List Nat × Bool)} (h : ∀ x ∈ l, Is x.1) : (flatS l).length = l.length * 257 := flat_length secV 257 l (fun x hx => secV_length (h x hx).1)
theorem flatW_length {l : List (Nat × List Nat)} (h : ∀ x ∈ l, Is x.2) : (flatW l).length = l.length * 257 := flat_length wrV 257 l (fun x hx => wrV_length (h x hx).1)
theorem flatW_snoc (l : List (Nat × List Nat)) (x : Nat × List Nat) : flatW (l ++ [x]) = flatW l ++ wrV x := by simp [flatW]
theorem infoSec : (Try.prog.info? 82).map (fun i => (i.zero, i.size, i.bytes)) = some (some (.agg (secV (z256, false)).toArray), 257, 257) := by kernel_rfl
theorem infoWr : (Try.prog.info? 87).map (fun i => (i.zero, i.size, i.bytes)) = some (some (.agg (wrV (0, z256)).toArray), 257, 264) := by kernel_rfl
theorem infoD : (Try.prog.info? 80).map (fun i => (i.zero, i.size, i.bytes)) = some (some (.agg (vals z256).toArray), 256, 256) := by kernel_rfl
/-- What a disk is. -/
structure DS where
  secs : List (List Nat × Bool)
  on : Bool
  left : Int
  writes : Nat
  log : List (Nat × List Nat)
  cap : Nat
  sp : List Value
def ramV (sb : Nat) (lv : Value) (s : DS) : List Value := [.slice (some ⟨sb, 0, none⟩) s.secs.length s.cap, .bool s.on, .int .i64 s.left, .int .i64 (s.writes : Int), lv]
structure DiskIn (w : World) (d sb : Nat) (lv : Value) (s : DS) : Prop where
  ram : Blk w d 66 (ramV sb lv s)
  row : Blk w sb 82 (flatS s.secs ++ s.sp)
  log : w.ownsRow 0 87 257 lv s.log.length (flatW s.log)
  okS : ∀ x ∈ s.secs, Is x.1
  okL : ∀ x ∈ s.log, Is x.2
  n1 : 1 ≤ s.secs.length
  n2 : s.secs.length ≤ 8192
  ll : s.log.length = s.writes
  lw : s.writes ≤ 1024
  capn : s.secs.length ≤ s.cap
  le : -9223372036854775808 ≤ s.left ∧ s.left ≤ 9223372036854775807
/-- The blocks that a disk stands in. -/
def fpD (d sb : Nat) (lv : Value) (k : Nat) : Prop := k = d ∨ k = sb ∨ lv.ownBlock = some k
theorem blk_ne {w : World} {g k : Nat} {t u : TypeId} {cs ds : List Value} (h : Blk w g t cs) (h' : Blk w k u ds) (hne : t ≠ u) : g ≠ k := by
  rintro rfl
  rw [Blk, h'] at h
  simp at h
  exact hne h.2.symm
theorem owns_row {w : World} {B : Nat} {e : TypeId} {z : Nat} {v : Value} {n : Nat} {xs : List Value} (h : w.ownsRow B e z v n xs) {k : Nat} (hk : v.ownBlock = some k) : ∃ cs, w.heap[k]? = some (.cells cs e (0, 0)) ∧ k < w.heap.size := by
  rcases h.2 with ⟨rfl, _⟩ | ⟨g, cap, cur, rfl, _, hh, _⟩
  · simp [Value.ownBlock] at hk
  · simp [Value.ownBlock] at hk
    subst hk
    refine ⟨cur, hh, ?_⟩
    rcases Nat.lt_or_ge g w.heap.size with h' | h'
    · exact h'
    · rw [Array.getElem?_eq_none h'] at hh; simp at hh
theorem owns_ne {w : World} {B : Nat} {e : TypeId} {z : Nat} {v : Value} {n : Nat} {xs : List Value} (h : w.ownsRow B e z v n xs) {k : Nat} (hk : v.ownBlock = some k) {g : Nat} {t : TypeId} {cs : List Value} (hb : Blk w g t cs) (hne : t ≠ e) : k ≠ g := by
  rintro rfl
  obtain ⟨c, hc, _⟩ := owns_row h hk
  rw [Blk, hc] at hb
  simp at hb
  exact hne hb.2.symm
theorem owns_same {w w' : World} {B : Nat} {e : TypeId} {z : Nat} {v : Value} {n : Nat} {xs : List Value} (h : w.ownsRow B e z v n xs) (hs : ∀ k, v.ownBlock = some k → w'.heap[k]? = w.heap[k]?) : w'.ownsRow B e z v n xs := by
  refine ⟨h.1, ?_⟩
  rcases h.2 with h' | ⟨g, cap, cur, rfl, hg, hh, hr⟩
  · exact .inl h'
  · exact .inr ⟨g, cap, cur, rfl, hg, (hs g rfl).trans hh, hr⟩
theorem DiskIn.lt {w : World} {d sb : Nat} {lv : Value} {s : DS} (h : DiskIn w d sb lv s) {k : Nat} (hk : fpD d sb lv k) : k < w.heap.size := by
  rcases hk with rfl | rfl | hk
  · exact h.ram.lt
  · exact h.row.lt
  · exact (owns_row h.log hk).choose_spec.2
theorem DiskIn.same {w w' : World} {d sb : Nat} {lv : Value} {s : DS} (h : DiskIn w d sb lv s) (hs : ∀ k, fpD d sb lv k → w'.heap[k]? = w.heap[k]?) : DiskIn w' d sb lv s :=
  ⟨h.ram.same (hs d (.inl rfl)), h.row.same (hs sb (.inr (.inl rfl))), owns_same h.log (fun k hk => hs k (.inr (.inr hk))), h.okS, h.okL, h.n1, h.n2, h.ll, h.lw, h.capn, h.le⟩
theorem DiskIn.below {w w' : World} {d sb : Nat} {lv : Value} {s : DS} (h : DiskIn w d sb lv s) (hb : Below w.heap.size w w') : DiskIn w' d sb lv s := h.same fun k hk => hb.block k (h.lt hk)
theorem DiskIn.keep {w w' : World} {d sb : Nat} {lv : Value} {s : DS} {S : Nat → Prop} (h : DiskIn w d sb lv s) (hb : Keep S w w') (hd : ∀ k, fpD d sb lv k → ¬ S k) : DiskIn w' d sb lv s := h.same fun k hk => hb.block k (h.lt hk) (hd k hk)
theorem DiskIn.nds {w : World} {d sb : Nat} {lv : Value} {s : DS} (h : DiskIn w d sb lv s) : d ≠ sb := blk_ne h.ram h.row (by decide)
theorem DiskIn.ndl {w : World} {d sb : Nat} {lv : Value} {s : DS} (h : DiskIn w d sb lv s) {k : Nat} (hk : lv.ownBlock = some k) : k ≠ d ∧ k ≠ sb := ⟨owns_ne h.log hk h.ram (by decide), owns_ne h.log hk h.row (by decide)⟩
/-- The sector i of a disk, in its row. -/
theorem DiskIn.sec {w : World} {d sb : Nat} {lv : Value} {s : DS} (h : DiskIn w d sb lv s) {i : Nat} {x : List Nat × Bool} (hx : s.secs[i]? = some x) : w.rangeAt sb (i * 257) (secV x) :=
  h.row.range (i * 257) 257 _ (by
    have hi : i < s.secs.length := (List.getElem?_eq_some_iff.1 hx).1
    have hl := flatS_length h.okS
    rw [List.drop_append_of_le_length (by omega), List.take_append_of_le_length (by rw [List.length_drop]; omega)]
    exact flat_get secV 257 s.secs (fun y hy => secV_length (h.okS y hy).1) i x hx)
theorem DiskIn.hurt {w : World} {d sb : Nat} {lv : Value} {s : DS} (h : DiskIn w d sb lv s) {i : Nat} {x : List Nat × Bool} (hx : s.secs[i]? = some x) : w.cell? ⟨sb, i * 257 + 256, none⟩ = some (.bool x.2) := by
  have hl := (h.okS x (List.mem_of_getElem? hx)).1
  exact h.sec hx 256 _ (by rw [secV, List.getElem?_append_right (by rw [vals_length, hl]; exact Nat.le_refl _), vals_length, hl]; rfl)
theorem DiskIn.data {w : World} {d sb : Nat} {lv : Value} {s : DS} (h : DiskIn w d sb lv s) {i : Nat} {x : List Nat × Bool} (hx : s.secs[i]? = some x) : In w (some ⟨sb, i * 257, none⟩) 256 256 x.1 := by
  obtain ⟨hl, hb⟩ := h.okS x (List.mem_of_getElem? hx)
  exact ⟨hl, Nat.le_refl _, by unfold maxLen; omega, by omega, hb, fun _ => ⟨sb, i * 257, rfl, h.row.lt, fun j hj => h.sec hx j _ (by
    rw [secV, List.getElem?_append_left (by rw [vals_length, hl]; exact hj), vals_get _ _ (by omega)])⟩, fun h => by cases h⟩
end Go.Proofs.Ytdmnddikcpfmfaa
