/-
  back, on what was written: as it was; cut off; behind a fault.
-/
import Derived.Test.YtkdgndgejhkmpaaWirBB
import Derived.Test.YtkdgndgejhkmpaaWirBC
import Derived.Test.YtkdgndgejhkmpaaWirBA
namespace Go.Proofs.Ytkdgndgejhkmpaa
namespace WirBD
open Go.RowKit PaceA FltC
open BlkM WirM WirS WirA WirB WirC WirD WirE WirF WirG WirH WirI WirJ WirK WirL WirN WirO WirP WirQ WirR WirT WirU WirV WirW WirX WirZ WirNA WirRT WirAA WirAB WirBE WirBB WirBC WirBA

def ΦA {α : Type} (v : α) (q : Nat) : α → Nat → Int → Int → Prop := fun x p fe fa => x = v ∧ p = q ∧ fe = 0 ∧ fa = 0
def ΦB {α : Type} (at' : Nat) : α → Nat → Int → Int → Prop := fun _ _ fe fa => fe = 6 ∧ fa = (at' : Int)
def ΦC {α : Type} (q : Nat) (fe0 fa0 : Int) : α → Nat → Int → Int → Prop := fun _ p fe fa => p = q ∧ fe = fe0 ∧ fa = fa0
section
variable {w0 U : World} {L : List Thg} {R : Nat} {a : Option Addr} {c : Nat} {bs : List Int} {at' p : Nat} {g : FuncId} {args : Array Value}
theorem a_of {α β : Type} {f : α → Value} {f' : β → Value} {zero : Value} {o : Sum Int (α × Nat)} {x : α} (y : β) (hy : f' y = f x) (h : Bag w0 U (rdr R a c bs at' 0 0 :: L)) (ho : o = .inr (x, p)) (C : Calls Try.prog g args U (ReadPost U R a c bs at' zero (outOf f o))) : Calls Try.prog g args U (Rk w0 L R a c bs f' (ΦA y p)) :=
  (br_of h ho C).mono fun _ _ ⟨h1, h2⟩ => ⟨y, p, 0, 0, by rw [hy]; exact h1, h2, rfl, rfl, rfl, rfl⟩
theorem b_of {α β : Type} {f : α → Value} {f' : β → Value} {zero : Value} {o : Sum Int (α × Nat)} (y : β) (hy : f' y = zero) (h : Bag w0 U (rdr R a c bs at' 0 0 :: L)) (ho : o = .inl 6) (C : Calls Try.prog g args U (ReadPost U R a c bs at' zero (outOf f o))) : Calls Try.prog g args U (Rk w0 L R a c bs f' (ΦB at')) :=
  (bf_of h ho C).mono fun _ _ ⟨h1, q, h2⟩ => ⟨y, q, 6, at', by rw [hy]; exact h1, h2, rfl, rfl⟩
theorem c_of {β : Type} {f' : β → Value} {zero : Value} {fe fa : Int} (y : β) (hy : f' y = zero) (h : Bag w0 U (rdr R a c bs at' fe fa :: L)) (C : Calls Try.prog g args U fun e w' => e = .returned zero ∧ Below U.heap.size U w') : Calls Try.prog g args U (Rk w0 L R a c bs f' (ΦC at' fe fa)) :=
  C.mono fun _ _ ⟨h1, h2⟩ => ⟨y, at', fe, fa, by rw [hy]; exact h1, h.more h2, rfl, rfl, rfl⟩
theorem bag_new_own {w' : World} {va : Option Addr} {vn vc : Nat} {x : List Int} {q : Nat} {fe fa : Int} (h : Bag w0 U (rdr R a c bs at' fe fa :: L)) (hb : Bag w0 w' (rdr R a c bs q 0 0 :: L)) (h5 : Own w' 5 (.slice va vn vc) x) (h6 : NewB U (.slice va vn vc)) : Bag w0 w' (own (.slice va vn vc) x :: rdr R a c bs q 0 0 :: L) := by
  refine ⟨hb.low, fun y hy => ?_, List.pairwise_cons.2 ⟨fun y hy k hk hk' => ?_, hb.apart⟩⟩
  · rcases List.mem_cons.1 hy with rfl | hy
    · exact ⟨h5, fun k hk => Nat.le_trans h.low.size (h6 k hk)⟩
    · exact hb.all y hy
  · have hn := h6 k hk
    rcases List.mem_cons.1 hy with rfl | hy
    · rcases hk' with rfl | hk'
      · have := h.head.lt; omega
      · have := h.head.olt k hk'; omega
    · have := y.inside (h.all y (by simp [hy])).1 k hk'
      omega
theorem aB_of {o : Sum Int (List Int × Nat)} {x : List Int} (hr : rng x) (h : Bag w0 U (rdr R a c bs at' 0 0 :: L)) (ho : o = .inr (x, p)) (C : Calls Try.prog g args U (ReadPost U R a c bs at' (.slice none 0 0) (outB U o))) : Calls Try.prog g args U (RkB w0 L R a c bs (ΦA x p)) := by
  subst ho
  refine C.mono fun _ w' ⟨v, h1, ⟨va, vn, vc, hv, h5, h6⟩, h3, h4⟩ => ⟨va, vn, vc, x, p, 0, 0, by rw [h1, hv], bag_new_own h (bag_read h h3 h4) h5 h6, hr, rfl, rfl, rfl, rfl⟩
theorem bB_of {o : Sum Int (List Int × Nat)} (h : Bag w0 U (rdr R a c bs at' 0 0 :: L)) (ho : o = .inl 6) (C : Calls Try.prog g args U (ReadPost U R a c bs at' (.slice none 0 0) (outB U o))) : Calls Try.prog g args U (RkB w0 L R a c bs (ΦB at')) := by
  subst ho
  exact C.mono fun _ w' ⟨h1, ⟨q, h2⟩, h3⟩ => ⟨none, 0, 0, [], q, 6, at', h1, (bag_read h h2 h3).new (Below.refl _ w') (own_nil w') (fun k hk => by cases hk), (fun _ h => by cases h), rfl, rfl⟩
theorem cB_of {fe fa : Int} (h : Bag w0 U (rdr R a c bs at' fe fa :: L)) (C : Calls Try.prog g args U fun e w' => e = .returned (.slice none 0 0) ∧ Below U.heap.size U w') : Calls Try.prog g args U (RkB w0 L R a c bs (ΦC at' fe fa)) :=
  C.mono fun _ w' ⟨h1, h2⟩ => ⟨none, 0, 0, [], at', fe, fa, h1, (h.more h2).new (Below.refl _ w') (own_nil w') (fun k hk => by cases hk), (fun _ h => by cases h), rfl, rfl, rfl⟩
end
theorem canon_back (u : Nat) : ((canon u == u) || (isN (canon u) && isN u)) = true := by
  cases h : isN u with
  | false => simp [canon, h]
  | true =>
    rw [canon_nan h]
    have : isN 9221120237041090560 = true := by decide
    rw [this]
    simp
def sub32 (l : List Int) (h : l.length = 32) : { l : List Int // l.length = 32 } := ⟨l, h⟩
/-- The answer true, and the reader moved on. -/
def Good (w0 : World) (l : List Thg) (R : Nat) (a : Option Addr) (c : Nat) (bs : List Int) (p : Nat) (e : Ending) (w' : World) : Prop := e = .returned (.bool true) ∧ Bag w0 w' (rdr R a c bs p 0 0 :: l)
theorem good_of {α : Type} {w0 : World} {l : List Thg} {R : Nat} {a : Option Addr} {c : Nat} {bs : List Int} {p : Nat} {gt : α → Bool} {v : α} (hg : gt v = true) {e : Ending} {w' : World} (h : Bk w0 l R a c bs gt (ΦA v p) e w') : Good w0 l R a c bs p e w' := by
  obtain ⟨x, q, fe, fa, h1, h2, rfl, rfl, rfl, rfl⟩ := h
  exact ⟨by rw [h1, hg], h2⟩
theorem back_ok (w0 U : World) (l : List Thg) (R : Nat) (a : Option Addr) (c : Nat) (bs : List Int) (at' p cut : Nat) (x : Te) (hw : Wf w0 x.t x.va x.vn x.vc x.zs) (hs : x.vn ≤ 300) (hk : 0 ≤ x.t.kd ∧ x.t.kd ≤ 7) (hn : x.t.kd = 0 → 0 ≤ x.t.n)
    (hf : Fits bs at' p (form x.t x.zs)) (hc : cut ≤ bs.length) (hp : p ≤ cut) (h : Bag w0 U (rdr R a c (bs.take cut) at' 0 0 :: l)) :
    Calls Try.prog 38 #[.pointer (some ⟨R, 0, none⟩), .agg x.t.cells.toArray] U (Good w0 l R a c (bs.take cut) p) := by
  have hlen := hw.len
  obtain ⟨u, hu⟩ := Int.eq_ofNat_of_zero_le hw.u0
  have hu1 := hw.u1
  have hn1 := hw.n1
  have h300 : x.zs.length ≤ 300 := by omega
  obtain k | k | k | k | k | k | k | k : x.t.kd = 0 ∨ x.t.kd = 1 ∨ x.t.kd = 2 ∨ x.t.kd = 3 ∨ x.t.kd = 4 ∨ x.t.kd = 5 ∨ x.t.kd = 6 ∨ x.t.kd = 7 := by omega
  · exact (back0 w0 U l R a c _ at' 0 0 x.t _ k (fun V L hV => a_of x.t.n rfl hV ((num_oc (hn k) (by omega) (by simpa [form, k] using hf) hc).1 hp) (num_read V R a c _ at' hV.head)) h).mono fun _ _ hh => good_of (by simp) hh
  · have ho : sizedO (bs.take cut) at' (x.vn : Int) = .inr (x.zs, p) := by rw [hlen]; exact (sized_oc (zs := x.zs) (by omega) (by simpa [form, k] using hf) hc).1 hp
    exact (back1 w0 U l R a c _ at' 0 0 x.t _ k x.va x.vn x.vc hw.hv x.zs hw.bin (fun V L hV => a_of (f := fun zs => .string (st zs)) (f' := fun zs => .string (st zs)) x.zs rfl hV ho (text_read V R a c _ at' x.vn hV.head)) h).mono fun _ _ hh => good_of (by simp) hh
  · have ho : sizedO (bs.take cut) at' (x.vn : Int) = .inr (x.zs, p) := by rw [hlen]; exact (sized_oc (zs := x.zs) (by omega) (by simpa [form, k] using hf) hc).1 hp
    exact (back2 w0 U l R a c _ at' 0 0 x.t _ k x.va x.vn x.vc hw.hv x.zs hw.bin hw.rz (fun V L hV => aB_of hw.rz hV ho (bytes_read V R a c _ at' x.vn hV.head)) h).mono fun _ _ hh => good_of (by simp) hh
  · exact (back3 w0 U l R a c _ at' 0 0 x.t _ k (fun V L hV => a_of (f := aggB) (f' := fun x : { l : List Int // l.length = 32 } => aggB x.1) ⟨x.t.h, x.t.lh⟩ rfl hV ((row_oc x.t.lh (by simpa [form, k] using hf) hc).1 hp) (hash_read V R a c _ at' hV.head)) h).mono fun _ _ hh => good_of (by simp) hh
  · exact (back4 w0 U l R a c _ at' 0 0 x.t _ k (fun V L hV => a_of (f := aggB) (f' := fun x : { l : List Int // l.length = 4 } => aggB x.1) ⟨x.t.k, x.t.lk⟩ rfl hV ((row_oc x.t.lk (by simpa [form, k] using hf) hc).1 hp) (key_read V R a c _ at' hV.head)) h).mono fun _ _ hh => good_of (by simp) hh
  · exact (back5 w0 U l R a c _ at' 0 0 x.t _ k (fun V L hV => a_of x.t.u rfl hV ((word_oc hw.u0 hu1 (by simpa [form, k] using hf) hc).1 hp) (word_read V R a c _ at' hV.head)) h).mono fun _ _ hh => good_of (by simp) hh
  · exact (back6 w0 U l R a c _ at' 0 0 x.t _ k u hu (fun V L hV => a_of (canon u) rfl hV ((pace_oc (canon_lt (by omega)) (canon_canon u) (by simpa [form, k, hu] using hf) hc).1 hp) (pace_read V R a c _ at' hV.head)) h).mono fun _ _ hh => good_of (gt := fun y => (y == u) || (isN y && isN u)) (v := canon u) (canon_back u) hh
  · exact (back7 w0 U l R a c _ at' 0 0 x.t _ k (fun V L hV => a_of x.t.is rfl hV ((bool_oc (by simpa [form, k] using hf) hc).1 hp) (bool_read V R a c _ at' hV.head)) h).mono fun _ _ hh => good_of (by simp) hh
/-- Some answer, and a fault. -/
def Ill (w0 : World) (l : List Thg) (R : Nat) (a : Option Addr) (c : Nat) (bs : List Int) (fe fa : Int) (e : Ending) (w' : World) : Prop := ∃ b p, e = .returned (.bool b) ∧ Bag w0 w' (rdr R a c bs p fe fa :: l)
theorem ill_b {α : Type} {w0 : World} {l : List Thg} {R : Nat} {a : Option Addr} {c : Nat} {bs : List Int} {at' : Nat} {gt : α → Bool} {e : Ending} {w' : World} (h : Bk w0 l R a c bs gt (ΦB at') e w') : Ill w0 l R a c bs 6 (at' : Int) e w' := by
  obtain ⟨x, q, fe, fa, h1, h2, rfl, rfl⟩ := h
  exact ⟨_, q, h1, h2⟩
theorem ill_c {α : Type} {w0 : World} {l : List Thg} {R : Nat} {a : Option Addr} {c : Nat} {bs : List Int} {at' : Nat} {fe0 fa0 : Int} {gt : α → Bool} {e : Ending} {w' : World} (h : Bk w0 l R a c bs gt (ΦC at' fe0 fa0) e w') : Ill w0 l R a c bs fe0 fa0 e w' := by
  obtain ⟨x, q, fe, fa, h1, h2, rfl, rfl, rfl⟩ := h
  exact ⟨_, _, h1, h2⟩
theorem back_cut (w0 U : World) (l : List Thg) (R : Nat) (a : Option Addr) (c : Nat) (bs : List Int) (at' p cut : Nat) (x : Te) (hw : Wf w0 x.t x.va x.vn x.vc x.zs) (hs : x.vn ≤ 300) (hk : 0 ≤ x.t.kd ∧ x.t.kd ≤ 7) (hn : x.t.kd = 0 → 0 ≤ x.t.n)
    (hf : Fits bs at' p (form x.t x.zs)) (hc : cut ≤ bs.length) (hp : cut < p) (h : Bag w0 U (rdr R a c (bs.take cut) at' 0 0 :: l)) :
    Calls Try.prog 38 #[.pointer (some ⟨R, 0, none⟩), .agg x.t.cells.toArray] U (Ill w0 l R a c (bs.take cut) 6 (at' : Int)) := by
  have hlen := hw.len
  obtain ⟨u, hu⟩ := Int.eq_ofNat_of_zero_le hw.u0
  have hu1 := hw.u1
  have hn1 := hw.n1
  have h300 : x.zs.length ≤ 300 := by omega
  obtain k | k | k | k | k | k | k | k : x.t.kd = 0 ∨ x.t.kd = 1 ∨ x.t.kd = 2 ∨ x.t.kd = 3 ∨ x.t.kd = 4 ∨ x.t.kd = 5 ∨ x.t.kd = 6 ∨ x.t.kd = 7 := by omega
  · exact (back0 w0 U l R a c _ at' 0 0 x.t _ k (fun V L hV => b_of 0 rfl hV ((num_oc (hn k) (by omega) (by simpa [form, k] using hf) hc).2 hp) (num_read V R a c _ at' hV.head)) h).mono fun _ _ hh => ill_b hh
  · have ho : sizedO (bs.take cut) at' (x.vn : Int) = .inl 6 := by rw [hlen]; exact (sized_oc (zs := x.zs) (by omega) (by simpa [form, k] using hf) hc).2 hp
    exact (back1 w0 U l R a c _ at' 0 0 x.t _ k x.va x.vn x.vc hw.hv x.zs hw.bin (fun V L hV => b_of (f := fun zs => .string (st zs)) (f' := fun zs => .string (st zs)) [] rfl hV ho (text_read V R a c _ at' x.vn hV.head)) h).mono fun _ _ hh => ill_b hh
  · have ho : sizedO (bs.take cut) at' (x.vn : Int) = .inl 6 := by rw [hlen]; exact (sized_oc (zs := x.zs) (by omega) (by simpa [form, k] using hf) hc).2 hp
    exact (back2 w0 U l R a c _ at' 0 0 x.t _ k x.va x.vn x.vc hw.hv x.zs hw.bin hw.rz (fun V L hV => bB_of hV ho (bytes_read V R a c _ at' x.vn hV.head)) h).mono fun _ _ hh => ill_b hh
  · exact (back3 w0 U l R a c _ at' 0 0 x.t _ k (fun V L hV => b_of (f' := fun x : { l : List Int // l.length = 32 } => aggB x.1) ⟨zz 32, by simp [zz]⟩ rfl hV ((row_oc x.t.lh (by simpa [form, k] using hf) hc).2 hp) (hash_read V R a c _ at' hV.head)) h).mono fun _ _ hh => ill_b hh
  · exact (back4 w0 U l R a c _ at' 0 0 x.t _ k (fun V L hV => b_of (f' := fun x : { l : List Int // l.length = 4 } => aggB x.1) ⟨zz 4, by simp [zz]⟩ rfl hV ((row_oc x.t.lk (by simpa [form, k] using hf) hc).2 hp) (key_read V R a c _ at' hV.head)) h).mono fun _ _ hh => ill_b hh
  · exact (back5 w0 U l R a c _ at' 0 0 x.t _ k (fun V L hV => b_of 0 rfl hV ((word_oc hw.u0 hu1 (by simpa [form, k] using hf) hc).2 hp) (word_read V R a c _ at' hV.head)) h).mono fun _ _ hh => ill_b hh
  · exact (back6 w0 U l R a c _ at' 0 0 x.t _ k u hu (fun V L hV => b_of 0 rfl hV ((pace_oc (canon_lt (by omega)) (canon_canon u) (by simpa [form, k, hu] using hf) hc).2 hp) (pace_read V R a c _ at' hV.head)) h).mono fun _ _ hh => ill_b hh
  · exact (back7 w0 U l R a c _ at' 0 0 x.t _ k (fun V L hV => b_of false rfl hV ((bool_oc (by simpa [form, k] using hf) hc).2 hp) (bool_read V R a c _ at' hV.head)) h).mono fun _ _ hh => ill_b hh
theorem back_ill (w0 U : World) (l : List Thg) (R : Nat) (a : Option Addr) (c : Nat) (bs : List Int) (at' : Nat) (fe fa : Int) (hfe : fe ≠ 0) (x : Te) (hw : Wf w0 x.t x.va x.vn x.vc x.zs) (hk : 0 ≤ x.t.kd ∧ x.t.kd ≤ 7) (h : Bag w0 U (rdr R a c bs at' fe fa :: l)) :
    Calls Try.prog 38 #[.pointer (some ⟨R, 0, none⟩), .agg x.t.cells.toArray] U (Ill w0 l R a c bs fe fa) := by
  obtain ⟨u, hu⟩ := Int.eq_ofNat_of_zero_le hw.u0
  obtain k | k | k | k | k | k | k | k : x.t.kd = 0 ∨ x.t.kd = 1 ∨ x.t.kd = 2 ∨ x.t.kd = 3 ∨ x.t.kd = 4 ∨ x.t.kd = 5 ∨ x.t.kd = 6 ∨ x.t.kd = 7 := by omega
  · exact (back0 w0 U l R a c _ at' fe fa x.t _ k (fun V L hV => c_of 0 rfl hV (num_fault V R a c _ at' fe fa hV.head hfe)) h).mono fun _ _ hh => ill_c hh
  · exact (back1 w0 U l R a c _ at' fe fa x.t _ k x.va x.vn x.vc hw.hv x.zs hw.bin (fun V L hV => c_of [] rfl hV (text_fault V R a c _ at' fe fa x.vn hV.head hfe)) h).mono fun _ _ hh => ill_c hh
  · exact (back2 w0 U l R a c _ at' fe fa x.t _ k x.va x.vn x.vc hw.hv x.zs hw.bin hw.rz (fun V L hV => cB_of hV (bytes_fault V R a c _ at' fe fa x.vn hV.head hfe)) h).mono fun _ _ hh => ill_c hh
  · exact (back3 w0 U l R a c _ at' fe fa x.t _ k (fun V L hV => c_of (f' := fun x : { l : List Int // l.length = 32 } => aggB x.1) ⟨zz 32, by simp [zz]⟩ rfl hV (hash_fault V R a c _ at' fe fa hV.head hfe)) h).mono fun _ _ hh => ill_c hh
  · exact (back4 w0 U l R a c _ at' fe fa x.t _ k (fun V L hV => c_of (f' := fun x : { l : List Int // l.length = 4 } => aggB x.1) ⟨zz 4, by simp [zz]⟩ rfl hV (key_fault V R a c _ at' fe fa hV.head hfe)) h).mono fun _ _ hh => ill_c hh
  · exact (back5 w0 U l R a c _ at' fe fa x.t _ k (fun V L hV => c_of 0 rfl hV (word_fault V R a c _ at' fe fa hV.head hfe)) h).mono fun _ _ hh => ill_c hh
  · exact (back6 w0 U l R a c _ at' fe fa x.t _ k u hu (fun V L hV => c_of 0 rfl hV (pace_fault V R a c _ at' fe fa hV.head hfe)) h).mono fun _ _ hh => ill_c hh
  · exact (back7 w0 U l R a c _ at' fe fa x.t _ k (fun V L hV => c_of false rfl hV (bool_fault V R a c _ at' fe fa hV.head hfe)) h).mono fun _ _ hh => ill_c hh
end WirBD
end Go.Proofs.Ytkdgndgejhkmpaa
