/-
  The cache and its disk in the law's loop, and what lies beside them.
-/
import Derived.Test.YtdmnddikcpfmfaaCkPins
import Derived.Test.YtdmnddikcpfmfaaCkFstP
import Derived.Test.YtdmnddikcpfmfaaCkOneW
namespace Go.Proofs.Ytdmnddikcpfmfaa
open Go.RowKit Go.Maps Go.Shelf
structure FstW (B : Nat) (w W : World) (r d c k : Nat) (s : CS) : Prop where
  up : CUp B w W s
  sc : Hid (s.c = c)
  sd : Hid (s.d = d)
  sr : Hid (s.room = r)
  one : ∃ mu, OneI s.P s.ds mu k
theorem FstW.after {B : Nat} {w W W' : World} {r d c k k' : Nat} {s s' : CS} (h : FstW B w W r d c k s) (hA : CAfter W W' s s') (h1 : ∃ mu, OneI s'.P s'.ds mu k') : FstW B w W' r d c k' s' :=
  ⟨h.up.next hA, hA.c.trans h.sc.out, hA.d.trans h.sd.out, hA.room.trans h.sr.out, h1⟩
theorem FstW.kept {B : Nat} {w W W' : World} {r d c k : Nat} {s : CS} (h : FstW B w W r d c k s) (hb : Below W.heap.size W W') : FstW B w W' r d c k s := ⟨h.up.kept hb, h.sc, h.sd, h.sr, h.one⟩
theorem FstW.mono {B : Nat} {w W : World} {r d c k k' : Nat} {s : CS} (h : FstW B w W r d c k s) (hk : k ≤ k') : FstW B w W r d c k' s := ⟨h.up, h.sc, h.sd, h.sr, by obtain ⟨mu, h1⟩ := h.one; exact ⟨mu, h1.mono hk⟩⟩
theorem FstW.wr {B : Nat} {w W : World} {r d c k : Nat} {s : CS} (h : FstW B w W r d c k s) (hk : k ≤ 1000) : s.ds.writes + dirtyN s.P ≤ 1024 ∧ s.ds.writes < 1024 := by
  obtain ⟨mu, h1⟩ := h.one
  have := h1.wr
  omega
theorem FstW.sl {B : Nat} {w W : World} {r d c k : Nat} {s : CS} (h : FstW B w W r d c k s) : s.ds.secs.length = 60 := by obtain ⟨mu, h1⟩ := h.one; exact h1.sl
theorem FstW.kd {B : Nat} {w W : World} {r d c k : Nat} {s : CS} (h : FstW B w W r d c k s) : (s.P.map (·.k)).Nodup := by obtain ⟨mu, h1⟩ := h.one; exact h1.kd
theorem FstW.lens {B : Nat} {w W : World} {r d c k : Nat} {s : CS} (h : FstW B w W r d c k s) : ∀ j, j < 60 → (secD (roomR s.room s.P s.ds).2.2 j).length = 256 := fun j hj =>
  secD_len (lenS_room h.up.cin.lenS _) (by rw [roomR_secs, h.sl]; exact hj)
theorem FstW.rd {B : Nat} {w W : World} {r d c k : Nat} {s : CS} (h : FstW B w W r d c k s) {m : Nat} (hm : m < 60) : readE s.ds (m : Int) = 0 ∧ readD s.ds (m : Int) = secD s.ds m := by
  obtain ⟨mu, h1⟩ := h.one; exact one_read h1 hm
theorem InI.same2 {w w' : World} {p : Option Addr} {n c : Nat} {xs : List Int} (h : InI w p n c xs) (hs : ∀ a, p = some a → 0 < n → a.block < w.heap.size → w'.heap[a.block]? = w.heap[a.block]?) : InI w' p n c xs :=
  ⟨h.len, h.cap, h.max, h.room, fun h0 => by
    obtain ⟨b, o, hp, hlt, hc⟩ := h.at' h0
    have e := hs _ hp h0 hlt
    refine ⟨b, o, hp, ?_, fun i hi => ?_⟩
    · rcases Nat.lt_or_ge b w'.heap.size with h' | h'
      · exact h'
      · rw [Array.getElem?_eq_none h', Array.getElem?_eq_getElem hlt] at e; cases e
    · have := hc i hi
      simp only [World.cell?] at this ⊢
      rw [e]
      exact this, h.nil⟩
/-- What the law holds beside: the call's box, the disk as it was, what is pinned, what is metadata. -/
structure SideW (W : World) (B1 g : Nat) (cs : List Value) (d2 sb2 : Nat) (lv2 : Value) (ds2 : DS) (pp : Option Addr) (pn pc : Nat) (pk : List Int) (mp : Option Addr) (mn mc : Nat) (mk : List Int) : Prop where
  box : Blk W g 34 cs
  was : DiskIn W d2 sb2 lv2 ds2
  pin : InI W pp pn pc pk
  met : InI W mp mn mc mk
  hw : ∀ k, fpD d2 sb2 lv2 k → B1 ≤ k
  hp : ∀ a, pp = some a → B1 ≤ a.block
  hm : ∀ a, mp = some a → B1 ≤ a.block
theorem SideW.kept {W W' : World} {B1 g : Nat} {cs : List Value} {d2 sb2 : Nat} {lv2 : Value} {ds2 : DS} {pp : Option Addr} {pn pc : Nat} {pk : List Int} {mp : Option Addr} {mn mc : Nat} {mk : List Int} (h : SideW W B1 g cs d2 sb2 lv2 ds2 pp pn pc pk mp mn mc mk) (hb : Below W.heap.size W W') : SideW W' B1 g cs d2 sb2 lv2 ds2 pp pn pc pk mp mn mc mk :=
  ⟨h.box.kept hb, h.was.same (fun k hk => hb.block k (h.was.lt hk)), h.pin.below hb, h.met.below hb, h.hw, h.hp, h.hm⟩
theorem SideW.next {W W' : World} {s s' : CS} {B1 g : Nat} {cs : List Value} {d2 sb2 : Nat} {lv2 : Value} {ds2 : DS} {pp : Option Addr} {pn pc : Nat} {pk : List Int} {mp : Option Addr} {mn mc : Nat} {mk : List Int} (h : SideW W B1 g cs d2 sb2 lv2 ds2 pp pn pc pk mp mn mc mk) (hC : CIn W s) (hA : CAfter W W' s s') (hf : ∀ k, fpC s k → k < B1) : SideW W' B1 g cs d2 sb2 lv2 ds2 pp pn pc pk mp mn mc mk := by
  have hno : ∀ k, B1 ≤ k → ¬ fpC s k := fun k hk e => by have := hf k e; omega
  exact ⟨hA.blk hC h.box (by decide) (by decide) (by decide) (by decide), h.was.same (fun k hk => hA.keep.block k (h.was.lt hk) (hno k (h.hw k hk))), h.pin.same2 (fun a ha _ hl => hA.keep.block _ hl (hno _ (h.hp a ha))), h.met.same2 (fun a ha _ hl => hA.keep.block _ hl (hno _ (h.hm a ha))), h.hw, h.hp, h.hm⟩
theorem fst_start (r d sb : Nat) (lv : Value) (c e bm : Nat) : ∃ mu, OneI (newC d sb lv (newD 60) c e bm r).P (newC d sb lv (newD 60) c e bm r).ds mu 0 := ⟨_, one_start r d sb lv c e bm⟩
end Go.Proofs.Ytdmnddikcpfmfaa
