/-
  WirU, WirX, in one text.
-/
import Derived.Test.YtfmegeibnjmfpaaDoorPdD
import Derived.Test.YtfmegeibnjmfpaaDoorPdE
import Derived.Lib.Bytes
import Derived.Test.YtfmegeibnjmfpaaDoorBlkM
import Derived.Test.YtfmegeibnjmfpaaDoorWirM
import Derived.Test.YtfmegeibnjmfpaaDoorWirS
import Derived.Test.YtfmegeibnjmfpaaDoorPdB
import Derived.Test.YtfmegeibnjmfpaaDoorPdC
namespace Go.Proofs.YtfmegeibnjmfpaaDoor
namespace WirU
open Go.RowKit
open BlkM WirM WirS WirA WirB WirC WirD WirE WirF WirG WirH WirI WirJ WirK WirL WirN WirO WirP WirQ WirR WirT

/-- A writer that was made behind w0. -/
structure LW (w0 w : World) (W : Nat) (lim : Int) (v : Value) (zs : List Int) (err : Int) : Prop where
  st : WSt w W lim v zs err
  up : w0.heap.size ≤ W
  new : NewB w0 v
  low : Below w0.heap.size w0 w
theorem LW.size {w0 w : World} {W : Nat} {lim : Int} {v : Value} {zs : List Int} {err : Int} (h : LW w0 w W lim v zs err) : w0.heap.size ≤ w.heap.size := h.low.size
theorem Step.low {w0 w w' : World} {W : Nat} {v v' : Value} (hs : Step w W v w' v') (hW : w0.heap.size ≤ W) (hv : NewB w0 v) (hb : Below w0.heap.size w0 w) : Below w0.heap.size w0 w' ∧ NewB w0 v' :=
  ⟨hb.trans (hs.1.below hb.size (fun k hk hx => by
    rcases hx with rfl | hx
    · omega
    · have := hv k hx
      omega)), fun k hk => by
    rcases hs.2 k hk with hx | hx
    · exact hv k hx
    · exact Nat.le_trans hb.size hx⟩
/-- What is above may grow: a world behind. -/
theorem LW.more {w0 w w' : World} {W : Nat} {lim : Int} {v : Value} {zs : List Int} {err : Int} (h : LW w0 w W lim v zs err) (hb : Below w.heap.size w w') : LW w0 w' W lim v zs err :=
  ⟨h.st.below hb, h.up, h.new, h.low.trans (hb.mono h.low.size)⟩
/-- A reader that was made behind w0. -/
structure LR (w0 w : World) (R : Nat) (a : Option Addr) (c : Nat) (bs : List Int) (at' : Nat) (fe fa : Int) : Prop where
  st : RSt w R a c bs at' fe fa
  up : w0.heap.size ≤ R
  low : Below w0.heap.size w0 w
theorem LR.more {w0 w w' : World} {R : Nat} {a : Option Addr} {c : Nat} {bs : List Int} {at' : Nat} {fe fa : Int} (h : LR w0 w R a c bs at' fe fa) (hb : Below w.heap.size w w') : LR w0 w' R a c bs at' fe fa :=
  ⟨h.st.below hb, h.up, h.low.trans (hb.mono h.low.size)⟩
/-! ### SameBytes -/
theorem st_inj {zs ys : List Int} (hz : ∀ x ∈ zs, 0 ≤ x ∧ x < 256) (hy : ∀ x ∈ ys, 0 ≤ x ∧ x < 256) (h1 : (st zs).toList = (st ys).toList) : zs = ys := by
  unfold st at h1
  rw [Lib.strOfNums_toList, Lib.strOfNums_toList] at h1
  have key : ∀ (l : List Int), (∀ x ∈ l, 0 ≤ x ∧ x < 256) → (Lib.bytesOf l).map (fun b => (b.toNat : Int)) = l := by
    intro l hl
    induction l with
    | nil => rfl
    | cons x l ih =>
      have hx := hl x (by simp)
      simp only [Lib.bytesOf, List.map_cons] at ih ⊢
      rw [ih (fun y hy => hl y (by simp [hy]))]
      congr 1
      have : x.toNat < 256 := by omega
      simp [Nat.mod_eq_of_lt this]
      omega
  rw [← key zs hz, ← key ys hy, h1]
theorem same_any (w : World) (a b : Option Addr) (n c m d : Nat) (zs ys : List Int) (hx : BIn w (.slice a n c) zs) (hy : BIn w (.slice b m d) ys) (rz : ∀ x ∈ zs, 0 ≤ x ∧ x < 256) (ry : ∀ x ∈ ys, 0 ≤ x ∧ x < 256) :
    Calls Tryd.prog 35 #[.slice a n c, .slice b m d] w fun e w' => e = .returned (.bool (decide (zs = ys))) ∧ w = w' := by
  have h1 := conv_any w a n c zs hx
  have h2 := conv_any w b m d ys hy
  have hq : ((st zs).toList == (st ys).toList) = decide (zs = ys) := by
    by_cases h : zs = ys
    · subst h; simp
    · have hne : ¬ (st zs).toList = (st ys).toList := fun e => h (st_inj rz ry e)
      simp [h, hne]
  have HQ := hide hq
  clear hq
  generalize st zs = s at h1 HQ
  generalize st ys = t at h2 HQ
  clear hx hy
  go_enter Tryd.func35, Tryd.ntmps35
  go_wp2
  go_ret
  exact ⟨by rw [← HQ.out]; rfl, rfl⟩
end WirU
end Go.Proofs.YtfmegeibnjmfpaaDoor

namespace Go.Proofs.YtfmegeibnjmfpaaDoor
namespace WirX
open Go.RowKit
open BlkM WirM WirS WirA WirB WirC WirD WirE WirF WirG WirH WirI WirJ WirK WirL WirN WirO WirP WirQ WirR WirT WirU

/-- An object: what is known of it in a world, the blocks that it lies in. -/
structure Thg where
  ok : World → Prop
  foot : Nat → Prop
  stable : ∀ {X : Nat → Prop} {w w' : World}, ok w → Fr X w w' → (∀ k, foot k → ¬ X k) → ok w'
  inside : ∀ {w : World}, ok w → ∀ k, foot k → k < w.heap.size
/-- Objects that were made behind w0, each apart from the others. -/
structure Bag (w0 w : World) (l : List Thg) : Prop where
  low : Below w0.heap.size w0 w
  all : ∀ o ∈ l, o.ok w ∧ ∀ k, o.foot k → w0.heap.size ≤ k
  apart : l.Pairwise fun o o' => ∀ k, o.foot k → ¬ o'.foot k
theorem Bag.nil {w0 w : World} (h : Below w0.heap.size w0 w) : Bag w0 w [] := ⟨h, (fun _ h => by cases h), List.Pairwise.nil⟩
theorem Bag.head {w0 w : World} {o : Thg} {l : List Thg} (h : Bag w0 w (o :: l)) : o.ok w := (h.all o (by simp)).1
theorem Bag.drop {w0 w : World} {o : Thg} {l : List Thg} (h : Bag w0 w (o :: l)) : Bag w0 w l := ⟨h.low, fun o' h' => h.all o' (by simp [h']), (List.pairwise_cons.1 h.apart).2⟩
theorem Bag.more {w0 w w' : World} {l : List Thg} (h : Bag w0 w l) (hb : Below w.heap.size w w') : Bag w0 w' l :=
  ⟨h.low.trans (hb.mono h.low.size), fun o ho => ⟨o.stable (X := fun _ => False) (h.all o ho).1 (Fr.of_below hb) (fun _ _ h => h), (h.all o ho).2⟩, h.apart⟩
/-- The first object acts: its own blocks may change, and new ones come. -/
theorem Bag.act {w0 w w' : World} {o o' : Thg} {l : List Thg} (h : Bag w0 w (o :: l)) (hf : Fr o.foot w w') (ho : o'.ok w') (hn : ∀ k, o'.foot k → o.foot k ∨ w.heap.size ≤ k) : Bag w0 w' (o' :: l) := by
  have hp := List.pairwise_cons.1 h.apart
  refine ⟨h.low.trans (hf.below h.low.size (fun k hk hx => by have := (h.all o (by simp)).2 k hx; omega)), fun x hx => ?_, List.pairwise_cons.2 ⟨fun x hx k hk hx' => ?_, hp.2⟩⟩
  · rcases List.mem_cons.1 hx with rfl | hx
    · refine ⟨ho, fun k hk => ?_⟩
      rcases hn k hk with h1 | h1
      · exact (h.all o (by simp)).2 k h1
      · exact Nat.le_trans h.low.size h1
    · have := h.all x (by simp [hx])
      exact ⟨x.stable this.1 hf (fun k hk hx' => hp.1 x hx k hx' hk), this.2⟩
  · rcases hn k hk with h1 | h1
    · exact hp.1 x hx k h1 hx'
    · have := x.inside (h.all x (by simp [hx])).1 k hx'
      omega
/-- A new object. -/
theorem Bag.new {w0 w w' : World} {o : Thg} {l : List Thg} (h : Bag w0 w l) (hb : Below w.heap.size w w') (ho : o.ok w') (hn : ∀ k, o.foot k → w.heap.size ≤ k) : Bag w0 w' (o :: l) := by
  have hm := h.more hb
  refine ⟨hm.low, fun x hx => ?_, List.pairwise_cons.2 ⟨fun x hx k hk hx' => ?_, h.apart⟩⟩
  · rcases List.mem_cons.1 hx with rfl | hx
    · exact ⟨ho, fun k hk => Nat.le_trans h.low.size (hn k hk)⟩
    · exact hm.all x hx
  · have := x.inside (h.all x hx).1 k hx'
    have := hn k hk
    omega
theorem Bag.perm {w0 w : World} {l l' : List Thg} (h : Bag w0 w l) (hp : l.Perm l') : Bag w0 w l' :=
  ⟨h.low, fun o ho => h.all o (hp.mem_iff.2 ho), (hp.pairwise_iff (fun hab k hk hk' => hab k hk' hk)).1 h.apart⟩
theorem Bag.swap {w0 w : World} {o o' : Thg} {l : List Thg} (h : Bag w0 w (o :: o' :: l)) : Bag w0 w (o' :: o :: l) := h.perm (.swap _ _ _)
/-- The first one goes to the end. -/
theorem Bag.last {w0 w : World} {o : Thg} {l : List Thg} (h : Bag w0 w (o :: l)) : Bag w0 w (l ++ [o]) := h.perm (List.perm_append_singleton o l).symm
/-- A writer. -/
def wtr (W : Nat) (lim : Int) (v : Value) (zs : List Int) (err : Int) : Thg where
  ok w := WSt w W lim v zs err
  foot k := Xw W v k
  stable h hf hX := h.fr hf hX
  inside h k hk := by
    rcases hk with rfl | hk
    · exact h.lt
    · exact h.own.lt k hk
/-- A slice of memory of its own. -/
def own (v : Value) (zs : List Int) : Thg where
  ok w := Own w 5 v zs
  foot k := v.ownBlock = some k
  stable h hf hX := h.fr hf hX
  inside h k hk := h.lt k hk
theorem bag_wtr {w0 w w' : World} {l : List Thg} {W : Nat} {lim : Int} {v : Value} {zs : List Int} {err : Int} (h : Bag w0 w l) (hW : w.heap.size ≤ W) (hs : WSt w' W lim v zs err) (hn : NewB w v) (hb : Below w.heap.size w w') : Bag w0 w' (wtr W lim v zs err :: l) :=
  h.new hb hs (fun k hk => by
    rcases hk with rfl | hk
    · exact hW
    · exact hn k hk)
theorem bag_own {w0 w w' : World} {l : List Thg} {v : Value} {zs : List Int} (h : Bag w0 w l) (hs : Own w' 5 v zs) (hn : NewB w v) (hb : Below w.heap.size w w') : Bag w0 w' (own v zs :: l) := h.new hb hs hn
theorem bag_write {w0 w w' : World} {l : List Thg} {W : Nat} {lim : Int} {v v' : Value} {zs zs' : List Int} {err err' : Int} (h : Bag w0 w (wtr W lim v zs err :: l)) (hs : WSt w' W lim v' zs' err') (hf : Step w W v w' v') : Bag w0 w' (wtr W lim v' zs' err' :: l) :=
  h.act hf.1 hs (fun k hk => by
    rcases hk with rfl | hk
    · exact .inl (.inl rfl)
    · rcases hf.2 k hk with h1 | h1
      · exact .inl (.inr h1)
      · exact .inr h1)
/-- A writing call on the first writer. -/
def BW (w0 : World) (l : List Thg) (W : Nat) (lim : Int) (zs' : List Int) (err' : Int) (e : Ending) (w' : World) : Prop := e = .returned (.int .i64 err') ∧ ∃ v', Bag w0 w' (wtr W lim v' zs' err' :: l)
theorem bw_of {w0 w : World} {l : List Thg} {W : Nat} {lim : Int} {v : Value} {zs zs' : List Int} {err err' : Int} {f : FuncId} {args : Array Value} (h : Bag w0 w (wtr W lim v zs err :: l)) (C : Calls Tryd.prog f args w (Wrote w W lim v zs' err')) : Calls Tryd.prog f args w (BW w0 l W lim zs' err') :=
  C.mono fun _ _ ⟨h1, v', h2, h3⟩ => ⟨h1, v', bag_write h h2 h3⟩
theorem fault_eq (e a' f b' : Int) (W : World) : (binOp .eql 76 (.agg #[.int .i64 e, .int .i64 a']) (.agg #[.int .i64 f, .int .i64 b'])).run Tryd.prog W = .ok (.bool (e == f && a' == b')) W := by
  have p0 : ∀ (x y : Int) (V : World), (part 30 #[.int .i64 x, .int .i64 y] 0).run Tryd.prog V = .ok (.int .i64 x) V := fun x y V => by kernel_rfl
  have p1 : ∀ (x y : Int) (V : World), (part 3 #[.int .i64 x, .int .i64 y] 1).run Tryd.prog V = .ok (.int .i64 y) V := fun x y V => by kernel_rfl
  have k1 : ∀ d : Nat, (Op.equalIn (d + 2) 76 (.agg #[.int .i64 e, .int .i64 a']) (.agg #[.int .i64 f, .int .i64 b'])).run Tryd.prog W = .ok (e == f && a' == b') W := fun d => by
    simp [Op.equalIn, run_underlying Tryd.underlying76, run_underlying Tryd.underlying30, run_underlying Tryd.underlying3, p0, p1]
    by_cases h1 : e = f <;> by_cases h2 : a' = b' <;> simp [h1, h2]
  simp only [binOp]
  simp [Op.equal, Op.maxDepth, k1 9998]
end WirX
end Go.Proofs.YtfmegeibnjmfpaaDoor

