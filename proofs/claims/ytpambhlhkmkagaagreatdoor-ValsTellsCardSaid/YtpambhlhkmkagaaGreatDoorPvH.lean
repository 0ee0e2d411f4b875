/-
  PaceW, WirU, WirX, WirZ, WirNA, WirO1, WirRT, WirAA, WirAB, in one text.
-/
import Derived.Test.YtpambhlhkmkagaaGreatDoorProg
import Derived.WalkKit
import Derived.WalkSpells
import Derived.WalkLawsBesides
import Derived.BigQuiet
import Derived.BigRegion
import Derived.RegionTactic
import Derived.ChangeAlike
import Derived.Deep.QuietTactic
import Derived.StillTailTactics
import Derived.Deep.RegionHeld3
import Derived.Deep.DeepCutAuto
import Derived.KernelRfl
import Derived.Laws.Externs
import Derived.Below
import Derived.OwnWalk
import Derived.Shelf.Spec.BitsCarry
import Derived.Test.YtpambhlhkmkagaaGreatDoorPvF
import Derived.Lib.Bytes
import Derived.Test.YtpambhlhkmkagaaGreatDoorBlkM
import Derived.Test.YtpambhlhkmkagaaGreatDoorWirM
import Derived.Test.YtpambhlhkmkagaaGreatDoorWirS
import Derived.Test.YtpambhlhkmkagaaGreatDoorPvD
import Derived.Test.YtpambhlhkmkagaaGreatDoorPvE
import Derived.ProofKit
import Derived.OpenShut
import Derived.ShutString
import Derived.ChangeOld
import Derived.Lib.SmallJoins
namespace Go.Proofs.YtpambhlhkmkagaaGreatDoor
namespace PaceA
open Go.RowKit Go.Shelf


theorem hide {p : Prop} (h : p) : Hid p := h
/-! ### Compare -/
end PaceA
end Go.Proofs.YtpambhlhkmkagaaGreatDoor

namespace Go.Proofs.YtpambhlhkmkagaaGreatDoor
namespace WirU
open Go.RowKit
open BlkM WirM WirS WirA WirB WirC WirD WirE WirF WirG WirH WirI WirJ WirK WirL WirN WirO WirP WirQ WirR WirT

/-- A writer that was made behind w0. -/
structure LW (w0 w : World) (W : Nat) (lim : Int) (v : Value) (zs : List Int) (err : Int) : Prop where
  st : WSt w W lim v zs err
  up : w0.heap.size ≤ W
  new : NewB w0 v
  low : Below w0.heap.size w0 w
theorem LW.size {w0 w : World} {W : Nat} {lim : Int} {v : Value} {zs : List Int} {err : Int} (h : LW w0 w W lim v zs err) : w0.heap.size ≤ w.heap.size := h.low.size
theorem Step.low {w0 w w' : World} {W : Nat} {v v' : Value} (hs : Step w W v w' v') (hW : w0.heap.size ≤ W) (hv : NewB w0 v) (hb : Below w0.heap.size w0 w) : Below w0.heap.size w0 w' ∧ NewB w0 v' :=
  ⟨hb.trans (hs.1.below hb.size (fun k hk hx => by
    rcases hx with rfl | hx
    · omega
    · have := hv k hx
      omega)), fun k hk => by
    rcases hs.2 k hk with hx | hx
    · exact hv k hx
    · exact Nat.le_trans hb.size hx⟩
/-- What is above may grow: a world behind. -/
theorem LW.more {w0 w w' : World} {W : Nat} {lim : Int} {v : Value} {zs : List Int} {err : Int} (h : LW w0 w W lim v zs err) (hb : Below w.heap.size w w') : LW w0 w' W lim v zs err :=
  ⟨h.st.below hb, h.up, h.new, h.low.trans (hb.mono h.low.size)⟩
/-- A reader that was made behind w0. -/
structure LR (w0 w : World) (R : Nat) (a : Option Addr) (c : Nat) (bs : List Int) (at' : Nat) (fe fa : Int) : Prop where
  st : RSt w R a c bs at' fe fa
  up : w0.heap.size ≤ R
  low : Below w0.heap.size w0 w
theorem LR.more {w0 w w' : World} {R : Nat} {a : Option Addr} {c : Nat} {bs : List Int} {at' : Nat} {fe fa : Int} (h : LR w0 w R a c bs at' fe fa) (hb : Below w.heap.size w w') : LR w0 w' R a c bs at' fe fa :=
  ⟨h.st.below hb, h.up, h.low.trans (hb.mono h.low.size)⟩
/-! ### SameBytes -/
theorem st_inj {zs ys : List Int} (hz : ∀ x ∈ zs, 0 ≤ x ∧ x < 256) (hy : ∀ x ∈ ys, 0 ≤ x ∧ x < 256) (h1 : (st zs).toList = (st ys).toList) : zs = ys := by
  unfold st at h1
  rw [Lib.strOfNums_toList, Lib.strOfNums_toList] at h1
  have key : ∀ (l : List Int), (∀ x ∈ l, 0 ≤ x ∧ x < 256) → (Lib.bytesOf l).map (fun b => (b.toNat : Int)) = l := by
    intro l hl
    induction l with
    | nil => rfl
    | cons x l ih =>
      have hx := hl x (by simp)
      simp only [Lib.bytesOf, List.map_cons] at ih ⊢
      rw [ih (fun y hy => hl y (by simp [hy]))]
      congr 1
      have : x.toNat < 256 := by omega
      simp [Nat.mod_eq_of_lt this]
      omega
  rw [← key zs hz, ← key ys hy, h1]
theorem same_any (w : World) (a b : Option Addr) (n c m d : Nat) (zs ys : List Int) (hx : BIn w (.slice a n c) zs) (hy : BIn w (.slice b m d) ys) (rz : ∀ x ∈ zs, 0 ≤ x ∧ x < 256) (ry : ∀ x ∈ ys, 0 ≤ x ∧ x < 256) :
    Calls Tryz.prog 14 #[.slice a n c, .slice b m d] w fun e w' => e = .returned (.bool (decide (zs = ys))) ∧ w = w' := by
  have h1 := conv_any w a n c zs hx
  have h2 := conv_any w b m d ys hy
  have hq : ((st zs).toList == (st ys).toList) = decide (zs = ys) := by
    by_cases h : zs = ys
    · subst h; simp
    · have hne : ¬ (st zs).toList = (st ys).toList := fun e => h (st_inj rz ry e)
      simp [h, hne]
  have HQ := hide hq
  clear hq
  generalize st zs = s at h1 HQ
  generalize st ys = t at h2 HQ
  clear hx hy
  go_enter Tryz.func14, Tryz.ntmps14
  go_wp2
  go_ret
  exact ⟨by rw [← HQ.out]; rfl, rfl⟩
end WirU
end Go.Proofs.YtpambhlhkmkagaaGreatDoor

namespace Go.Proofs.YtpambhlhkmkagaaGreatDoor
namespace WirX
open Go.RowKit
open BlkM WirM WirS WirA WirB WirC WirD WirE WirF WirG WirH WirI WirJ WirK WirL WirN WirO WirP WirQ WirR WirT WirU

/-- An object: what is known of it in a world, the blocks that it lies in. -/
structure Thg where
  ok : World → Prop
  foot : Nat → Prop
  stable : ∀ {X : Nat → Prop} {w w' : World}, ok w → Fr X w w' → (∀ k, foot k → ¬ X k) → ok w'
  inside : ∀ {w : World}, ok w → ∀ k, foot k → k < w.heap.size
/-- Objects that were made behind w0, each apart from the others. -/
structure Bag (w0 w : World) (l : List Thg) : Prop where
  low : Below w0.heap.size w0 w
  all : ∀ o ∈ l, o.ok w ∧ ∀ k, o.foot k → w0.heap.size ≤ k
  apart : l.Pairwise fun o o' => ∀ k, o.foot k → ¬ o'.foot k
theorem Bag.nil {w0 w : World} (h : Below w0.heap.size w0 w) : Bag w0 w [] := ⟨h, (fun _ h => by cases h), List.Pairwise.nil⟩
theorem Bag.head {w0 w : World} {o : Thg} {l : List Thg} (h : Bag w0 w (o :: l)) : o.ok w := (h.all o (by simp)).1
theorem Bag.drop {w0 w : World} {o : Thg} {l : List Thg} (h : Bag w0 w (o :: l)) : Bag w0 w l := ⟨h.low, fun o' h' => h.all o' (by simp [h']), (List.pairwise_cons.1 h.apart).2⟩
theorem Bag.more {w0 w w' : World} {l : List Thg} (h : Bag w0 w l) (hb : Below w.heap.size w w') : Bag w0 w' l :=
  ⟨h.low.trans (hb.mono h.low.size), fun o ho => ⟨o.stable (X := fun _ => False) (h.all o ho).1 (Fr.of_below hb) (fun _ _ h => h), (h.all o ho).2⟩, h.apart⟩
/-- The first object acts: its own blocks may change, and new ones come. -/
theorem Bag.act {w0 w w' : World} {o o' : Thg} {l : List Thg} (h : Bag w0 w (o :: l)) (hf : Fr o.foot w w') (ho : o'.ok w') (hn : ∀ k, o'.foot k → o.foot k ∨ w.heap.size ≤ k) : Bag w0 w' (o' :: l) := by
  have hp := List.pairwise_cons.1 h.apart
  refine ⟨h.low.trans (hf.below h.low.size (fun k hk hx => by have := (h.all o (by simp)).2 k hx; omega)), fun x hx => ?_, List.pairwise_cons.2 ⟨fun x hx k hk hx' => ?_, hp.2⟩⟩
  · rcases List.mem_cons.1 hx with rfl | hx
    · refine ⟨ho, fun k hk => ?_⟩
      rcases hn k hk with h1 | h1
      · exact (h.all o (by simp)).2 k h1
      · exact Nat.le_trans h.low.size h1
    · have := h.all x (by simp [hx])
      exact ⟨x.stable this.1 hf (fun k hk hx' => hp.1 x hx k hx' hk), this.2⟩
  · rcases hn k hk with h1 | h1
    · exact hp.1 x hx k h1 hx'
    · have := x.inside (h.all x (by simp [hx])).1 k hx'
      omega
/-- A new object. -/
theorem Bag.new {w0 w w' : World} {o : Thg} {l : List Thg} (h : Bag w0 w l) (hb : Below w.heap.size w w') (ho : o.ok w') (hn : ∀ k, o.foot k → w.heap.size ≤ k) : Bag w0 w' (o :: l) := by
  have hm := h.more hb
  refine ⟨hm.low, fun x hx => ?_, List.pairwise_cons.2 ⟨fun x hx k hk hx' => ?_, h.apart⟩⟩
  · rcases List.mem_cons.1 hx with rfl | hx
    · exact ⟨ho, fun k hk => Nat.le_trans h.low.size (hn k hk)⟩
    · exact hm.all x hx
  · have := x.inside (h.all x hx).1 k hx'
    have := hn k hk
    omega
theorem Bag.perm {w0 w : World} {l l' : List Thg} (h : Bag w0 w l) (hp : l.Perm l') : Bag w0 w l' :=
  ⟨h.low, fun o ho => h.all o (hp.mem_iff.2 ho), (hp.pairwise_iff (fun hab k hk hk' => hab k hk' hk)).1 h.apart⟩
theorem Bag.swap {w0 w : World} {o o' : Thg} {l : List Thg} (h : Bag w0 w (o :: o' :: l)) : Bag w0 w (o' :: o :: l) := h.perm (.swap _ _ _)
/-- The first one goes to the end. -/
theorem Bag.last {w0 w : World} {o : Thg} {l : List Thg} (h : Bag w0 w (o :: l)) : Bag w0 w (l ++ [o]) := h.perm (List.perm_append_singleton o l).symm
/-- A writer. -/
def wtr (W : Nat) (lim : Int) (v : Value) (zs : List Int) (err : Int) : Thg where
  ok w := WSt w W lim v zs err
  foot k := Xw W v k
  stable h hf hX := h.fr hf hX
  inside h k hk := by
    rcases hk with rfl | hk
    · exact h.lt
    · exact h.own.lt k hk
/-- A slice of memory of its own. -/
def own (v : Value) (zs : List Int) : Thg where
  ok w := Own w 5 v zs
  foot k := v.ownBlock = some k
  stable h hf hX := h.fr hf hX
  inside h k hk := h.lt k hk
theorem bag_wtr {w0 w w' : World} {l : List Thg} {W : Nat} {lim : Int} {v : Value} {zs : List Int} {err : Int} (h : Bag w0 w l) (hW : w.heap.size ≤ W) (hs : WSt w' W lim v zs err) (hn : NewB w v) (hb : Below w.heap.size w w') : Bag w0 w' (wtr W lim v zs err :: l) :=
  h.new hb hs (fun k hk => by
    rcases hk with rfl | hk
    · exact hW
    · exact hn k hk)
theorem bag_own {w0 w w' : World} {l : List Thg} {v : Value} {zs : List Int} (h : Bag w0 w l) (hs : Own w' 5 v zs) (hn : NewB w v) (hb : Below w.heap.size w w') : Bag w0 w' (own v zs :: l) := h.new hb hs hn
theorem bag_write {w0 w w' : World} {l : List Thg} {W : Nat} {lim : Int} {v v' : Value} {zs zs' : List Int} {err err' : Int} (h : Bag w0 w (wtr W lim v zs err :: l)) (hs : WSt w' W lim v' zs' err') (hf : Step w W v w' v') : Bag w0 w' (wtr W lim v' zs' err' :: l) :=
  h.act hf.1 hs (fun k hk => by
    rcases hk with rfl | hk
    · exact .inl (.inl rfl)
    · rcases hf.2 k hk with h1 | h1
      · exact .inl (.inr h1)
      · exact .inr h1)
/-- A writing call on the first writer. -/
def BW (w0 : World) (l : List Thg) (W : Nat) (lim : Int) (zs' : List Int) (err' : Int) (e : Ending) (w' : World) : Prop := e = .returned (.int .i64 err') ∧ ∃ v', Bag w0 w' (wtr W lim v' zs' err' :: l)
theorem bw_of {w0 w : World} {l : List Thg} {W : Nat} {lim : Int} {v : Value} {zs zs' : List Int} {err err' : Int} {f : FuncId} {args : Array Value} (h : Bag w0 w (wtr W lim v zs err :: l)) (C : Calls Tryz.prog f args w (Wrote w W lim v zs' err')) : Calls Tryz.prog f args w (BW w0 l W lim zs' err') :=
  C.mono fun _ _ ⟨h1, v', h2, h3⟩ => ⟨h1, v', bag_write h h2 h3⟩
end WirX
end Go.Proofs.YtpambhlhkmkagaaGreatDoor

namespace Go.Proofs.YtpambhlhkmkagaaGreatDoor
namespace WirZ
open Go.RowKit PaceA
open BlkM WirM WirS WirA WirB WirC WirD WirE WirF WirG WirH WirI WirJ WirK WirL WirN WirO WirP WirQ WirR WirT WirU WirX

/-- A thing. -/
structure Td where
  kd : Int
  n : Int
  v : Value
  h : List Int
  k : List Int
  u : Int
  is : Bool
  lh : h.length = 32
  lk : k.length = 4
def Td.cells (t : Td) : List Value := .int .i64 t.kd :: .int .i64 t.n :: t.v :: (b8 t.h ++ (b8 t.k ++ [.int .u64 t.u, .bool t.is]))
theorem Td.len (t : Td) : t.cells.length = 41 := by simp [Td.cells, b8_len, t.lh, t.lk]
end WirZ
end Go.Proofs.YtpambhlhkmkagaaGreatDoor

namespace Go.Proofs.YtpambhlhkmkagaaGreatDoor
namespace WirNA
open Go.RowKit PaceA
open BlkM WirM WirS WirA WirB WirC WirD WirE WirF WirG WirH WirI WirJ WirK WirL WirN WirO WirP WirQ WirR WirT WirU WirX WirZ

/-- A thing, as it comes in. -/
structure Wf (w : World) (t : Td) (va : Option Addr) (vn vc : Nat) (zs : List Int) : Prop where
  hv : t.v = .slice va vn vc
  bin : BIn w (.slice va vn vc) zs
  rz : ∀ x ∈ zs, 0 ≤ x ∧ x < 256
  n0 : -9223372036854775808 ≤ t.n
  n1 : t.n ≤ 9223372036854775807
  u0 : 0 ≤ t.u
  u1 : t.u < 18446744073709551616
theorem Wf.len {w : World} {t : Td} {va : Option Addr} {vn vc : Nat} {zs : List Int} (h : Wf w t va vn vc zs) : vn = zs.length := by
  obtain ⟨_, _, e, _⟩ := h.bin
  cases e
  rfl
theorem Wf.more {w W U : World} {t : Td} {va : Option Addr} {vn vc : Nat} {zs : List Int} (h : Wf w t va vn vc zs) (hU : Below W.heap.size W U) (hW : Below w.heap.size w W) : Wf U t va vn vc zs :=
  ⟨h.hv, h.bin.below (hW.trans (hU.mono hW.size)), h.rz, h.n0, h.n1, h.u0, h.u1⟩
end WirNA
end Go.Proofs.YtpambhlhkmkagaaGreatDoor

namespace Go.Proofs.YtpambhlhkmkagaaGreatDoor
namespace WirO1
open Go.RowKit PaceA Go.WideShapes Go.ChangeShapes Go.ChangeAt
open BlkM WirM WirS WirA WirB WirC WirD WirE WirF WirG WirH WirI WirJ WirK WirL WirN WirO WirP WirQ WirR WirT WirU WirX WirZ WirNA

section
variable {H : Type} {enc : TypeId × Value → H} {W : World}

theorem row8 {T : TypeId} {k : Nat} (hT : Tryz.prog.underlying T = some (.array k 5)) (hc : Tryz.prog.cellsOf T = k) {fuel : Nat} {cs : List Value} {x : DataW H × List MemPlace} (h : DataW.trod enc Tryz.prog W 0 (fun _ => true) true fuel T cs = some x) :
    ∃ l : List Int, cs = b8 l ∧ l.length = k ∧ ∀ x ∈ l, 0 ≤ x ∧ x < 256 := by
  have c1 : Tryz.prog.cellsOf 5 = 1 := by kernel_rfl
  obtain ⟨xs, m1, rfl, _, hlen, hn, hel⟩ := DataW.trod_array hT h
  simp only [c1, Nat.mul_one] at hel
  rw [hc] at hlen
  have key : ∀ i (hi : i < cs.length), ∃ z : Int, cs[i] = .int .u8 z ∧ 0 ≤ z ∧ z < 256 := by
    intro i hi
    have h1 := hel i (by omega)
    rw [List.getElem?_eq_getElem (show i < xs.length by omega)] at h1
    obtain ⟨z, e1, _, hw⟩ := DataW.trod_int Tryz.underlying5 h1
    have e : (cs.drop i).take 1 = [cs[i]] := by
      rw [List.drop_eq_getElem_cons hi]
      rfl
    rw [e] at e1
    refine ⟨z, by simpa using e1, ?_⟩
    simp [Lit.wf, IntKind.min, IntKind.max, IntKind.signed, IntKind.bits] at hw
    omega
  refine ⟨cs.map fun | .int _ z => z | _ => 0, ?_, by rw [List.length_map]; exact hlen, ?_⟩
  · apply List.ext_getElem
    · simp [b8]
    · intro i h1 h2
      obtain ⟨z, e, _⟩ := key i h1
      simp only [b8, List.getElem_map]
      rw [e]
  · intro x hx
    obtain ⟨c, hc, rfl⟩ := List.mem_map.1 hx
    obtain ⟨i, hi, rfl⟩ := List.getElem_of_mem hc
    obtain ⟨z, e, h0, h1⟩ := key i hi
    rw [e]
    exact ⟨h0, h1⟩

theorem part {cs : List Value} (n : Nat) {p : List Value} (k m : Nat) (h : (cs.drop n).take k = p) (e : n + k = m) : cs.drop n = p ++ cs.drop m := by
  subst h e
  rw [← List.drop_drop, List.take_append_drop]
end
end WirO1
end Go.Proofs.YtpambhlhkmkagaaGreatDoor

namespace Go.Proofs.YtpambhlhkmkagaaGreatDoor
namespace WirRT
open Go.RowKit PaceA
open BlkM WirM WirS WirA WirB WirC WirD WirE WirF WirG WirH WirI WirJ WirK WirL WirN WirO WirP WirQ WirR WirT WirU WirX WirZ WirNA

abbrev rng (zs : List Int) : Prop := ∀ x ∈ zs, 0 ≤ x ∧ x < 256
/-- The k last digits. -/
def dg (n : Int) : Nat → List Int
  | 0 => []
  | k + 1 => (n / 2 ^ (8 * k) % 256) :: dg n k
theorem dg_len (n : Int) : ∀ k, (dg n k).length = k
  | 0 => rfl
  | k + 1 => by rw [dg, List.length_cons, dg_len n k]
theorem dg_snoc (n : Int) : ∀ k, dg n (k + 1) = dg (n / 256) k ++ [n % 256]
  | 0 => by simp [dg]
  | k + 1 => by
    rw [dg, dg_snoc n k, dg, List.cons_append]
    congr 2
    rw [show (2 : Int) ^ (8 * (k + 1)) = 256 * 2 ^ (8 * k) by rw [show 8 * (k + 1) = 8 + 8 * k by omega, Int.pow_add]; rfl, Int.ediv_ediv_of_nonneg (by decide)]
theorem cp_dg (n : Int) (k : Nat) (hk : k ≤ 8) : ∀ i, i ≤ k → cp n k i = (k : Int) :: (List.replicate (k - i) 0 ++ (dg n i ++ List.replicate (8 - k) 0))
  | 0, _ => by rw [cp, dg, List.nil_append, Nat.sub_zero, List.replicate_append_replicate, show k + (8 - k) = 8 by omega]
  | i + 1, h => by
    obtain ⟨m, hm⟩ : ∃ m, k - i = m + 1 := ⟨k - i - 1, by omega⟩
    rw [cp, cp_dg n k hk i (by omega), hm, show k - (i + 1) = m by omega, List.set_cons_succ, List.replicate_succ', List.append_assoc, List.set_append, if_neg (by simp), List.length_replicate, Nat.sub_self, List.singleton_append, List.set_cons_zero, dg, List.cons_append]
theorem cp_full (n : Int) (k : Nat) (hk : k ≤ 8) : (cp n k k).take (k + 1) = (k : Int) :: dg n k := by
  rw [cp_dg n k hk k (Nat.le_refl _), Nat.sub_self, List.replicate_zero, List.nil_append, List.take_succ_cons, List.take_append_of_le_length (by rw [dg_len]; exact Nat.le_refl _), List.take_of_length_le (by rw [dg_len]; exact Nat.le_refl _)]
theorem bl_pos (x : Nat) (h0 : x ≠ 0) (h : x < 2 ^ 64) : 1 ≤ Lib.bitLen x := by rw [Lib.bitLen_half x h0 h]; omega
theorem rng_part {bs : List Int} (h : rng bs) (i k : Nat) : rng ((bs.drop i).take k) := fun x hx => h x (List.mem_of_mem_drop (List.mem_of_mem_take hx))
/-- What is read between two places is written so. -/
def Fits (bs : List Int) (at' p : Nat) (news : List Int) : Prop := at' ≤ p ∧ p ≤ bs.length ∧ bs.take at' ++ news = bs.take p
end WirRT
end Go.Proofs.YtpambhlhkmkagaaGreatDoor

namespace Go.Proofs.YtpambhlhkmkagaaGreatDoor
namespace WirAA
open Go.RowKit PaceA
open BlkM WirM WirS WirA WirB WirC WirD WirE WirF WirG WirH WirI WirJ WirK WirL WirN WirO WirP WirQ WirR WirT WirU WirX WirZ WirNA WirRT

/-- A box. -/
def box (T : TypeId) (X : Nat) (cs : List Value) : Thg where
  ok w := At w X T cs
  foot k := k = X
  stable h hf hX := At.fr h hf (hX X rfl)
  inside h k hk := by subst hk; exact h.lt
theorem bag_box {w0 w w' : World} {l : List Thg} {T : TypeId} {X : Nat} {cs : List Value} (h : Bag w0 w l) (hX : X = w.heap.size) (hA : At w' X T cs) (hb : Below w.heap.size w w') : Bag w0 w' (box T X cs :: l) :=
  h.new hb hA (fun k hk => by rw [show k = X from hk, hX]; exact Nat.le_refl _)
theorem bag_set {w0 w : World} {l : List Thg} {T : TypeId} {X : Nat} {cs : List Value} (h : Bag w0 w (box T X cs :: l)) (i : Nat) (v : Value) : Bag w0 (w.setCell ⟨X, i, none⟩ v) (box T X (cs.set i v) :: l) :=
  h.act ((Fr.refl _ w).setCell X i v (fun _ => rfl)) (At.setCell h.head i v) (fun _ hk => .inl hk)
theorem bag_sets {w0 w : World} {l : List Thg} {T : TypeId} {X : Nat} {cs : List Value} (h : Bag w0 w (box T X cs :: l)) (o : Nat) (vs : List Value) (hl : o + vs.length ≤ cs.length) : Bag w0 (w.setCells X o vs) (box T X (cs.take o ++ (vs ++ cs.drop (o + vs.length))) :: l) :=
  h.act (fr_setCells X vs o w w (Fr.refl _ w)) (heap_setCells_one X T vs o cs w h.head hl) (fun _ hk => .inl hk)
theorem num_code {bs : List Int} {at' : Nat} {c : Int} (h : numO bs at' = .inl c) : c ≠ 0 := by
  unfold numO at h
  split at h
  · cases h; decide
  split at h
  · cases h; decide
  split at h
  · cases h; decide
  split at h
  · cases h; decide
  · cases h
theorem row_code {n : Nat} {bs : List Int} {at' : Nat} {c : Int} (h : rowO n bs at' = .inl c) : c ≠ 0 := by
  unfold rowO at h
  split at h
  · cases h; decide
  · cases h
/-! ### Written -/
end WirAA
end Go.Proofs.YtpambhlhkmkagaaGreatDoor

namespace Go.Proofs.YtpambhlhkmkagaaGreatDoor
namespace WirAB
open Go.RowKit PaceA
open BlkM WirM WirS WirA WirB WirC WirD WirE WirF WirG WirH WirI WirJ WirK WirL WirN WirO WirP WirQ WirR WirT WirU WirX WirZ WirNA WirRT WirAA

theorem sCx {P : Program} {ops : Array Oper} {rest : List Oper} {o : Oper} {a : Act} {w : World} {Q : Exit → Act → World → Prop} {f : FuncId} {args : Array Value} {R : Ending → World → Prop} (hw : Region.wanted o (yielded ops a.tmps) = true) (hrun : (execOp a.eval o).run P w = .ok (.enter f args) w)
    (hc : Calls P f args w R) (h : ∀ e w', R e w' → ∃ v, e = .returned v ∧ wpList P ops Q rest (a.put o.dst v) w') : wpList P ops Q (o :: rest) a w :=
  stepW hw fun _ hK => by
    unfold Oper.wp
    rw [hrun, Oper.upon_enter]
    exact hc.mono (by
      intro e w' hq
      obtain ⟨v, rfl, hh⟩ := h e w' hq
      exact hK _ _ hh)
end WirAB
end Go.Proofs.YtpambhlhkmkagaaGreatDoor

