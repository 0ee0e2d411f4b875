/-
  Several objects side by side in memory, each in blocks of its own.
-/
import Derived.Test.YtplinpbmncccoaaWirW
namespace Go.Proofs.Ytplinpbmncccoaa
namespace WirX
open Go.RowKit
open BlkM WirM WirS WirA WirB WirC WirD WirE WirF WirG WirH WirI WirJ WirK WirL WirN WirO WirP WirQ WirR WirT WirU WirV WirW

/-- An object: what is known of it in a world, the blocks that it lies in. -/
structure Thg where
  ok : World → Prop
  foot : Nat → Prop
  stable : ∀ {X : Nat → Prop} {w w' : World}, ok w → Fr X w w' → (∀ k, foot k → ¬ X k) → ok w'
  inside : ∀ {w : World}, ok w → ∀ k, foot k → k < w.heap.size
/-- Objects that were made behind w0, each apart from the others. -/
structure Bag (w0 w : World) (l : List Thg) : Prop where
  low : Below w0.heap.size w0 w
  all : ∀ o ∈ l, o.ok w ∧ ∀ k, o.foot k → w0.heap.size ≤ k
  apart : l.Pairwise fun o o' => ∀ k, o.foot k → ¬ o'.foot k
theorem Bag.nil {w0 w : World} (h : Below w0.heap.size w0 w) : Bag w0 w [] := ⟨h, (fun _ h => by cases h), List.Pairwise.nil⟩
theorem Bag.head {w0 w : World} {o : Thg} {l : List Thg} (h : Bag w0 w (o :: l)) : o.ok w := (h.all o (by simp)).1
theorem Bag.drop {w0 w : World} {o : Thg} {l : List Thg} (h : Bag w0 w (o :: l)) : Bag w0 w l := ⟨h.low, fun o' h' => h.all o' (by simp [h']), (List.pairwise_cons.1 h.apart).2⟩
theorem Bag.more {w0 w w' : World} {l : List Thg} (h : Bag w0 w l) (hb : Below w.heap.size w w') : Bag w0 w' l :=
  ⟨h.low.trans (hb.mono h.low.size), fun o ho => ⟨o.stable (X := fun _ => False) (h.all o ho).1 (Fr.of_below hb) (fun _ _ h => h), (h.all o ho).2⟩, h.apart⟩
/-- The first object acts: its own blocks may change, and new ones come. -/
theorem Bag.act {w0 w w' : World} {o o' : Thg} {l : List Thg} (h : Bag w0 w (o :: l)) (hf : Fr o.foot w w') (ho : o'.ok w') (hn : ∀ k, o'.foot k → o.foot k ∨ w.heap.size ≤ k) : Bag w0 w' (o' :: l) := by
  have hp := List.pairwise_cons.1 h.apart
  refine ⟨h.low.trans (hf.below h.low.size (fun k hk hx => by have := (h.all o (by simp)).2 k hx; omega)), fun x hx => ?_, List.pairwise_cons.2 ⟨fun x hx k hk hx' => ?_, hp.2⟩⟩
  · rcases List.mem_cons.1 hx with rfl | hx
    · refine ⟨ho, fun k hk => ?_⟩
      rcases hn k hk with h1 | h1
      · exact (h.all o (by simp)).2 k h1
      · exact Nat.le_trans h.low.size h1
    · have := h.all x (by simp [hx])
      exact ⟨x.stable this.1 hf (fun k hk hx' => hp.1 x hx k hx' hk), this.2⟩
  · rcases hn k hk with h1 | h1
    · exact hp.1 x hx k h1 hx'
    · have := x.inside (h.all x (by simp [hx])).1 k hx'
      omega
/-- A new object. -/
theorem Bag.new {w0 w w' : World} {o : Thg} {l : List Thg} (h : Bag w0 w l) (hb : Below w.heap.size w w') (ho : o.ok w') (hn : ∀ k, o.foot k → w.heap.size ≤ k) : Bag w0 w' (o :: l) := by
  have hm := h.more hb
  refine ⟨hm.low, fun x hx => ?_, List.pairwise_cons.2 ⟨fun x hx k hk hx' => ?_, h.apart⟩⟩
  · rcases List.mem_cons.1 hx with rfl | hx
    · exact ⟨ho, fun k hk => Nat.le_trans h.low.size (hn k hk)⟩
    · exact hm.all x hx
  · have := x.inside (h.all x hx).1 k hx'
    have := hn k hk
    omega
theorem Bag.perm {w0 w : World} {l l' : List Thg} (h : Bag w0 w l) (hp : l.Perm l') : Bag w0 w l' :=
  ⟨h.low, fun o ho => h.all o (hp.mem_iff.2 ho), (hp.pairwise_iff (fun hab k hk hk' => hab k hk' hk)).1 h.apart⟩
theorem Bag.swap {w0 w : World} {o o' : Thg} {l : List Thg} (h : Bag w0 w (o :: o' :: l)) : Bag w0 w (o' :: o :: l) := h.perm (.swap _ _ _)
/-- The first one goes to the end. -/
theorem Bag.last {w0 w : World} {o : Thg} {l : List Thg} (h : Bag w0 w (o :: l)) : Bag w0 w (l ++ [o]) := h.perm (List.perm_append_singleton o l).symm
/-- A reader. -/
def rdr (R : Nat) (a : Option Addr) (c : Nat) (bs : List Int) (at' : Nat) (fe fa : Int) : Thg where
  ok w := RSt w R a c bs at' fe fa
  foot k := k = R ∨ (Value.slice a bs.length c).ownBlock = some k
  stable h hf hX := h.fr hf (hX R (.inl rfl)) (fun k hk => hX k (.inr hk))
  inside h k hk := by
    rcases hk with rfl | hk
    · exact h.lt
    · exact h.olt k hk
/-- A writer. -/
def wtr (W : Nat) (lim : Int) (v : Value) (zs : List Int) (err : Int) : Thg where
  ok w := WSt w W lim v zs err
  foot k := Xw W v k
  stable h hf hX := h.fr hf hX
  inside h k hk := by
    rcases hk with rfl | hk
    · exact h.lt
    · exact h.own.lt k hk
/-- A slice of memory of its own. -/
def own (v : Value) (zs : List Int) : Thg where
  ok w := Own w 5 v zs
  foot k := v.ownBlock = some k
  stable h hf hX := h.fr hf hX
  inside h k hk := h.lt k hk
theorem bag_rdr {w0 w w' : World} {l : List Thg} {R : Nat} {a : Option Addr} {c : Nat} {bs : List Int} (h : Bag w0 w l) (hR : w.heap.size ≤ R) (hs : RSt w' R a c bs 0 0 0) (hn : NewB w (.slice a bs.length c)) (hb : Below w.heap.size w w') : Bag w0 w' (rdr R a c bs 0 0 0 :: l) :=
  h.new hb hs (fun k hk => by
    rcases hk with rfl | hk
    · exact hR
    · exact hn k hk)
theorem bag_wtr {w0 w w' : World} {l : List Thg} {W : Nat} {lim : Int} {v : Value} {zs : List Int} {err : Int} (h : Bag w0 w l) (hW : w.heap.size ≤ W) (hs : WSt w' W lim v zs err) (hn : NewB w v) (hb : Below w.heap.size w w') : Bag w0 w' (wtr W lim v zs err :: l) :=
  h.new hb hs (fun k hk => by
    rcases hk with rfl | hk
    · exact hW
    · exact hn k hk)
theorem bag_own {w0 w w' : World} {l : List Thg} {v : Value} {zs : List Int} (h : Bag w0 w l) (hs : Own w' 5 v zs) (hn : NewB w v) (hb : Below w.heap.size w w') : Bag w0 w' (own v zs :: l) := h.new hb hs hn
/-- What a call on the first reader leaves. -/
theorem bag_read {w0 w w' : World} {l : List Thg} {R : Nat} {a : Option Addr} {c : Nat} {bs : List Int} {at' p : Nat} {fe fa fe' fa' : Int} (h : Bag w0 w (rdr R a c bs at' fe fa :: l)) (hs : RSt w' R a c bs p fe' fa') (hf : Fr (Xr R) w w') : Bag w0 w' (rdr R a c bs p fe' fa' :: l) :=
  h.act (hf.mono fun _ _ hx => .inl hx) hs (fun _ hk => .inl hk)
theorem bag_write {w0 w w' : World} {l : List Thg} {W : Nat} {lim : Int} {v v' : Value} {zs zs' : List Int} {err err' : Int} (h : Bag w0 w (wtr W lim v zs err :: l)) (hs : WSt w' W lim v' zs' err') (hf : Step w W v w' v') : Bag w0 w' (wtr W lim v' zs' err' :: l) :=
  h.act hf.1 hs (fun k hk => by
    rcases hk with rfl | hk
    · exact .inl (.inl rfl)
    · rcases hf.2 k hk with h1 | h1
      · exact .inl (.inr h1)
      · exact .inr h1)
/-- A writing call on the first writer. -/
def BW (w0 : World) (l : List Thg) (W : Nat) (lim : Int) (zs' : List Int) (err' : Int) (e : Ending) (w' : World) : Prop := e = .returned (.int .i64 err') ∧ ∃ v', Bag w0 w' (wtr W lim v' zs' err' :: l)
theorem bw_of {w0 w : World} {l : List Thg} {W : Nat} {lim : Int} {v : Value} {zs zs' : List Int} {err err' : Int} {f : FuncId} {args : Array Value} (h : Bag w0 w (wtr W lim v zs err :: l)) (C : Calls Try.prog f args w (Wrote w W lim v zs' err')) : Calls Try.prog f args w (BW w0 l W lim zs' err') :=
  C.mono fun _ _ ⟨h1, v', h2, h3⟩ => ⟨h1, v', bag_write h h2 h3⟩
/-- A reading call on the first reader: a value, or none. -/
def BR (w0 : World) (l : List Thg) (R : Nat) (a : Option Addr) (c : Nat) (bs : List Int) (v : Value) (p : Nat) (fe fa : Int) (e : Ending) (w' : World) : Prop := e = .returned v ∧ Bag w0 w' (rdr R a c bs p fe fa :: l)
theorem br_of {α : Type} {f : α → Value} {w0 w : World} {l : List Thg} {R : Nat} {a : Option Addr} {c : Nat} {bs : List Int} {at' p : Nat} {g : FuncId} {args : Array Value} {zero : Value} {o : Sum Int (α × Nat)} {x : α} (h : Bag w0 w (rdr R a c bs at' 0 0 :: l)) (ho : o = .inr (x, p))
    (C : Calls Try.prog g args w (ReadPost w R a c bs at' zero (outOf f o))) : Calls Try.prog g args w (BR w0 l R a c bs (f x) p 0 0) := by
  subst ho
  exact C.mono fun _ _ ⟨v, h1, h2, h3, h4⟩ => ⟨by rw [h1, h2], bag_read h h3 h4⟩
def BF (w0 : World) (l : List Thg) (R : Nat) (a : Option Addr) (c : Nat) (bs : List Int) (v : Value) (fe fa : Int) (e : Ending) (w' : World) : Prop := e = .returned v ∧ ∃ p, Bag w0 w' (rdr R a c bs p fe fa :: l)
theorem bf_of {α : Type} {f : α → Value} {w0 w : World} {l : List Thg} {R : Nat} {a : Option Addr} {c : Nat} {bs : List Int} {at' : Nat} {g : FuncId} {args : Array Value} {zero : Value} {o : Sum Int (α × Nat)} {code : Int} (h : Bag w0 w (rdr R a c bs at' 0 0 :: l)) (ho : o = .inl code)
    (C : Calls Try.prog g args w (ReadPost w R a c bs at' zero (outOf f o))) : Calls Try.prog g args w (BF w0 l R a c bs zero code at') := by
  subst ho
  exact C.mono fun _ _ ⟨h1, ⟨p, h2⟩, h3⟩ => ⟨h1, p, bag_read h h2 h3⟩
theorem br_rest {w0 w : World} {l : List Thg} {R : Nat} {a : Option Addr} {c : Nat} {bs : List Int} {at' : Nat} {fe fa : Int} (h : Bag w0 w (rdr R a c bs at' fe fa :: l)) : Calls Try.prog 33 #[.pointer (some ⟨R, 0, none⟩)] w (BR w0 l R a c bs (.int .i64 (restN bs at' fe)) at' fe fa) :=
  (rest_any w R a c bs at' fe fa h.head).mono fun _ _ ⟨h1, q, h2⟩ => ⟨h1, by rw [h2]; exact h.more (below_drewN (Below.refl _ _) q)⟩
theorem br_end {w0 w : World} {l : List Thg} {R : Nat} {a : Option Addr} {c : Nat} {bs : List Int} {at' : Nat} {fe fa : Int} (h : Bag w0 w (rdr R a c bs at' fe fa :: l)) : Calls Try.prog 35 #[.pointer (some ⟨R, 0, none⟩)] w (BR w0 l R a c bs (fault (endE bs at' fe) (endA bs at' fe fa)) at' fe fa) :=
  (end_any w R a c bs at' fe fa h.head).mono fun _ _ ⟨h1, h2⟩ => ⟨h1, h.more h2⟩
theorem fault_eq (e a' f b' : Int) (W : World) : (binOp .eql 55 (.agg #[.int .i64 e, .int .i64 a']) (.agg #[.int .i64 f, .int .i64 b'])).run Try.prog W = .ok (.bool (e == f && a' == b')) W := by
  have p0 : ∀ (x y : Int) (V : World), (part 26 #[.int .i64 x, .int .i64 y] 0).run Try.prog V = .ok (.int .i64 x) V := fun x y V => by kernel_rfl
  have p1 : ∀ (x y : Int) (V : World), (part 3 #[.int .i64 x, .int .i64 y] 1).run Try.prog V = .ok (.int .i64 y) V := fun x y V => by kernel_rfl
  have k1 : ∀ d : Nat, (Op.equalIn (d + 2) 55 (.agg #[.int .i64 e, .int .i64 a']) (.agg #[.int .i64 f, .int .i64 b'])).run Try.prog W = .ok (e == f && a' == b') W := fun d => by
    simp [Op.equalIn, run_underlying Try.underlying55, run_underlying Try.underlying26, run_underlying Try.underlying3, p0, p1]
    by_cases h1 : e = f <;> by_cases h2 : a' = b' <;> simp [h1, h2]
  simp only [binOp]
  simp [Op.equal, Op.maxDepth, k1 9998]
/-- ends. -/
theorem ends_any (w0 w : World) (l : List Thg) (R : Nat) (a : Option Addr) (c : Nat) (bs : List Int) (at' : Nat) (fe fa e a' : Int) (h : Bag w0 w (rdr R a c bs at' fe fa :: l)) (h1 : endE bs at' fe = e) (h2 : endA bs at' fe fa = a') :
    Calls Try.prog 46 #[.pointer (some ⟨R, 0, none⟩), .int .i64 e, .int .i64 a'] w (BR w0 l R a c bs (.bool true) at' fe fa) := by
  have H := WirS.hide (br_end h)
  rw [h1, h2] at H
  have hq : ∀ W : World, (binOp .eql 55 (.agg #[.int .i64 e, .int .i64 a']) (.agg #[.int .i64 e, .int .i64 a'])).run Try.prog W = .ok (.bool true) W := fun W => by
    rw [fault_eq]
    simp
  unfold fault at H
  clear h h1 h2
  go_enter Try.func46, Try.ntmps46
  go_wp2_with ((go_at_call 35; refine (H.out).mono ?_; rintro e w1 ⟨rfl, hs⟩; have HS := WirS.hide hs; clear hs))
  go_ret
  exact ⟨rfl, HS.out⟩
end WirX
end Go.Proofs.Ytplinpbmncccoaa
