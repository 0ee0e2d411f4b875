/-
  A thing read; a thing written: what is left, beside other objects.
-/
import Derived.Test.YtplinpbmncccoaaWirRT
namespace Go.Proofs.Ytplinpbmncccoaa
namespace WirAA
open Go.RowKit PaceA FltC
open BlkM WirM WirS WirA WirB WirC WirD WirE WirF WirG WirH WirI WirJ WirK WirL WirN WirO WirP WirQ WirR WirT WirU WirV WirW WirX WirZ WirNA WirRT

/-- A box. -/
def box (T : TypeId) (X : Nat) (cs : List Value) : Thg where
  ok w := At w X T cs
  foot k := k = X
  stable h hf hX := At.fr h hf (hX X rfl)
  inside h k hk := by subst hk; exact h.lt
theorem bag_box {w0 w w' : World} {l : List Thg} {T : TypeId} {X : Nat} {cs : List Value} (h : Bag w0 w l) (hX : X = w.heap.size) (hA : At w' X T cs) (hb : Below w.heap.size w w') : Bag w0 w' (box T X cs :: l) :=
  h.new hb hA (fun k hk => by rw [show k = X from hk, hX]; exact Nat.le_refl _)
theorem bag_set {w0 w : World} {l : List Thg} {T : TypeId} {X : Nat} {cs : List Value} (h : Bag w0 w (box T X cs :: l)) (i : Nat) (v : Value) : Bag w0 (w.setCell ⟨X, i, none⟩ v) (box T X (cs.set i v) :: l) :=
  h.act ((Fr.refl _ w).setCell X i v (fun _ => rfl)) (At.setCell h.head i v) (fun _ hk => .inl hk)
theorem bag_sets {w0 w : World} {l : List Thg} {T : TypeId} {X : Nat} {cs : List Value} (h : Bag w0 w (box T X cs :: l)) (o : Nat) (vs : List Value) (hl : o + vs.length ≤ cs.length) : Bag w0 (w.setCells X o vs) (box T X (cs.take o ++ (vs ++ cs.drop (o + vs.length))) :: l) :=
  h.act (fr_setCells X vs o w w (Fr.refl _ w)) (heap_setCells_one X T vs o cs w h.head hl) (fun _ hk => .inl hk)
theorem num_code {bs : List Int} {at' : Nat} {c : Int} (h : numO bs at' = .inl c) : c ≠ 0 := by
  unfold numO at h
  split at h
  · cases h; decide
  split at h
  · cases h; decide
  split at h
  · cases h; decide
  split at h
  · cases h; decide
  · cases h
theorem word_code {bs : List Int} {at' : Nat} {c : Int} (h : wordO bs at' = .inl c) : c ≠ 0 := by
  unfold wordO at h
  split at h
  · cases h; decide
  · cases h
theorem row_code {n : Nat} {bs : List Int} {at' : Nat} {c : Int} (h : rowO n bs at' = .inl c) : c ≠ 0 := by
  unfold rowO at h
  split at h
  · cases h; decide
  · cases h
theorem pace_code {bs : List Int} {at' : Nat} {c : Int} (h : paceO bs at' = .inl c) : c ≠ 0 := by
  unfold paceO at h
  split at h
  · cases h; decide
  split at h
  · cases h
  · cases h; decide
theorem bool_code {bs : List Int} {at' : Nat} {c : Int} (h : boolO bs at' = .inl c) : c ≠ 0 := by
  unfold boolO at h
  split at h
  · cases h; decide
  split at h
  · cases h; decide
  · cases h
theorem sized_code {bs : List Int} {at' : Nat} {most : Int} {c : Int} (h : sizedO bs at' most = .inl c) : c ≠ 0 := by
  unfold sizedO at h
  split at h
  · rename_i x hx
    cases h
    exact num_code hx
  split at h
  · cases h; decide
  split at h
  · cases h; decide
  · cases h
/-- What a reading call leaves: a value that was there, or none and a fault. -/
def Rd {α : Type} (w0 : World) (l : List Thg) (R : Nat) (a : Option Addr) (c : Nat) (bs : List Int) (f : α → Value) (z : α) (o : Sum Int (α × Nat)) (e : Ending) (w' : World) : Prop :=
  ∃ x p fe fa, e = .returned (f x) ∧ Bag w0 w' (rdr R a c bs p fe fa :: l) ∧ ((fe = 0 ∧ fa = 0 ∧ o = .inr (x, p)) ∨ (fe ≠ 0 ∧ x = z ∧ o = .inl fe))
theorem rd_of {α : Type} {f : α → Value} {w0 w : World} {l : List Thg} {R : Nat} {a : Option Addr} {c : Nat} {bs : List Int} {at' : Nat} {g : FuncId} {args : Array Value} {z : α} {o : Sum Int (α × Nat)} (h : Bag w0 w (rdr R a c bs at' 0 0 :: l)) (hc : ∀ c, o = .inl c → c ≠ 0)
    (C : Calls Try.prog g args w (ReadPost w R a c bs at' (f z) (outOf f o))) : Calls Try.prog g args w (Rd w0 l R a c bs f z o) := by
  cases o with
  | inl code => exact C.mono fun _ _ ⟨h1, ⟨p, h2⟩, h3⟩ => ⟨z, p, code, at', h1, bag_read h h2 h3, .inr ⟨hc _ rfl, rfl, rfl⟩⟩
  | inr x => exact C.mono fun _ _ ⟨v, h1, h2, h3, h4⟩ => ⟨x.1, x.2, 0, 0, by rw [h1, h2], bag_read h h3 h4, .inl ⟨rfl, rfl, rfl⟩⟩
/-- Likewise of bytes: memory of their own. -/
def RdB (w0 : World) (l : List Thg) (R : Nat) (a : Option Addr) (c : Nat) (bs : List Int) (o : Sum Int (List Int × Nat)) (e : Ending) (w' : World) : Prop :=
  ∃ va vn vc x p fe fa, e = .returned (.slice va vn vc) ∧ Bag w0 w' (own (.slice va vn vc) x :: rdr R a c bs p fe fa :: l) ∧ ((fe = 0 ∧ fa = 0 ∧ o = .inr (x, p)) ∨ (fe ≠ 0 ∧ x = [] ∧ o = .inl fe))
theorem own_nil (w : World) : Own w 5 (.slice none 0 0) [] := ⟨by simp [b8], .inl ⟨rfl, rfl⟩⟩
theorem rdB_of {w0 w : World} {l : List Thg} {R : Nat} {a : Option Addr} {c : Nat} {bs : List Int} {at' : Nat} {g : FuncId} {args : Array Value} {o : Sum Int (List Int × Nat)} (h : Bag w0 w (rdr R a c bs at' 0 0 :: l)) (hc : ∀ c, o = .inl c → c ≠ 0)
    (C : Calls Try.prog g args w (ReadPost w R a c bs at' (.slice none 0 0) (outB w o))) : Calls Try.prog g args w (RdB w0 l R a c bs o) := by
  cases o with
  | inl code => exact C.mono fun _ w' ⟨h1, ⟨p, h2⟩, h3⟩ => ⟨none, 0, 0, [], p, code, at', h1, (bag_read h h2 h3).new (Below.refl _ w') (own_nil w') (fun k hk => by cases hk), .inr ⟨hc _ rfl, rfl, rfl⟩⟩
  | inr x =>
    refine C.mono fun _ w' ⟨v, h1, ⟨va, vn, vc, hv, h5, h6⟩, h3, h4⟩ => ⟨va, vn, vc, x.1, x.2, 0, 0, by rw [h1, hv], ?_, .inl ⟨rfl, rfl, rfl⟩⟩
    have hb := bag_read h h3 h4
    refine ⟨hb.low, fun y hy => ?_, List.pairwise_cons.2 ⟨fun y hy k hk hk' => ?_, hb.apart⟩⟩
    · rcases List.mem_cons.1 hy with rfl | hy
      · exact ⟨h5, fun k hk => Nat.le_trans h.low.size (h6 k hk)⟩
      · exact hb.all y hy
    · have hn := h6 k hk
      rcases List.mem_cons.1 hy with rfl | hy
      · rcases hk' with rfl | hk'
        · have := h.head.lt; omega
        · have := h.head.olt k hk'; omega
      · have := y.inside (h.all y (by simp [hy])).1 k hk'
        omega
theorem b_num {w0 w : World} {l : List Thg} {R : Nat} {a : Option Addr} {c : Nat} {bs : List Int} {at' : Nat} (h : Bag w0 w (rdr R a c bs at' 0 0 :: l)) :
    Calls Try.prog 37 #[.pointer (some ⟨R, 0, none⟩)] w (Rd w0 l R a c bs (.int .i64) ((0 : Int)) (numO bs at')) := rd_of h (fun _ h => num_code h) (num_read w R a c bs at' h.head)
theorem b_hash {w0 w : World} {l : List Thg} {R : Nat} {a : Option Addr} {c : Nat} {bs : List Int} {at' : Nat} (h : Bag w0 w (rdr R a c bs at' 0 0 :: l)) :
    Calls Try.prog 40 #[.pointer (some ⟨R, 0, none⟩)] w (Rd w0 l R a c bs (aggB) (zz 32) (rowO 32 bs at')) := rd_of h (fun _ h => row_code h) (hash_read w R a c bs at' h.head)
theorem b_key {w0 w : World} {l : List Thg} {R : Nat} {a : Option Addr} {c : Nat} {bs : List Int} {at' : Nat} (h : Bag w0 w (rdr R a c bs at' 0 0 :: l)) :
    Calls Try.prog 41 #[.pointer (some ⟨R, 0, none⟩)] w (Rd w0 l R a c bs (aggB) (zz 4) (rowO 4 bs at')) := rd_of h (fun _ h => row_code h) (key_read w R a c bs at' h.head)
theorem b_word {w0 w : World} {l : List Thg} {R : Nat} {a : Option Addr} {c : Nat} {bs : List Int} {at' : Nat} (h : Bag w0 w (rdr R a c bs at' 0 0 :: l)) :
    Calls Try.prog 42 #[.pointer (some ⟨R, 0, none⟩)] w (Rd w0 l R a c bs (.int .u64) ((0 : Int)) (wordO bs at')) := rd_of h (fun _ h => word_code h) (word_read w R a c bs at' h.head)
theorem b_pace {w0 w : World} {l : List Thg} {R : Nat} {a : Option Addr} {c : Nat} {bs : List Int} {at' : Nat} (h : Bag w0 w (rdr R a c bs at' 0 0 :: l)) :
    Calls Try.prog 43 #[.pointer (some ⟨R, 0, none⟩)] w (Rd w0 l R a c bs (.float .f64) ((0 : Nat)) (paceO bs at')) := rd_of h (fun _ h => pace_code h) (pace_read w R a c bs at' h.head)
theorem b_bool {w0 w : World} {l : List Thg} {R : Nat} {a : Option Addr} {c : Nat} {bs : List Int} {at' : Nat} (h : Bag w0 w (rdr R a c bs at' 0 0 :: l)) :
    Calls Try.prog 44 #[.pointer (some ⟨R, 0, none⟩)] w (Rd w0 l R a c bs (.bool) (false) (boolO bs at')) := rd_of h (fun _ h => bool_code h) (bool_read w R a c bs at' h.head)
theorem b_text {w0 w : World} {l : List Thg} {R : Nat} {a : Option Addr} {c : Nat} {bs : List Int} {at' : Nat} (most : Int) (h : Bag w0 w (rdr R a c bs at' 0 0 :: l)) :
    Calls Try.prog 38 #[.pointer (some ⟨R, 0, none⟩), .int .i64 most] w (Rd w0 l R a c bs (fun zs => .string (st zs)) [] (sizedO bs at' most)) := rd_of h (fun _ h => sized_code h) (text_read w R a c bs at' most h.head)
theorem b_bytes {w0 w : World} {l : List Thg} {R : Nat} {a : Option Addr} {c : Nat} {bs : List Int} {at' : Nat} (most : Int) (h : Bag w0 w (rdr R a c bs at' 0 0 :: l)) :
    Calls Try.prog 39 #[.pointer (some ⟨R, 0, none⟩), .int .i64 most] w (RdB w0 l R a c bs (sizedO bs at' most)) := rdB_of h (fun _ h => sized_code h) (bytes_read w R a c bs at' most h.head)
/-! ### Written -/
/-- The bytes of a thing. -/
def form (t : Td) (zs : List Int) : List Int :=
  if t.kd = 0 then numB t.n else if t.kd = 1 ∨ t.kd = 2 then numB (zs.length : Int) ++ zs else if t.kd = 3 then t.h else if t.kd = 4 then t.k else if t.kd = 5 then wordB t.u else if t.kd = 6 then wordB (canon t.u.toNat : Int) else boolB t.is
def Put (w0 : World) (l : List Thg) (W : Nat) (lim : Int) (zs' : List Int) (w' : World) : Prop := ∃ v', Bag w0 w' (wtr W lim v' zs' 0 :: l)
theorem puts_bag (w0 w : World) (l : List Thg) (W : Nat) (lim : Int) (v : Value) (ys : List Int) (t : Td) (va : Option Addr) (vn vc : Nat) (zs : List Int) (h : Bag w0 w (wtr W lim v ys 0 :: l)) (hk : 0 ≤ t.kd ∧ t.kd ≤ 7) (hn : t.kd = 0 → 0 ≤ t.n)
    (ht : Wf w t va vn vc zs) (hap : Apart W v (.slice va vn vc)) (hs : zs.length ≤ 1099511627776) (hl : ((ys.length + (form t zs).length : Nat) : Int) ≤ lim) :
    Calls Try.prog 23 #[.pointer (some ⟨W, 0, none⟩), .agg t.cells.toArray] w (Ans 0 (Put w0 l W lim (ys ++ form t zs))) := by
  have hb := PW_below w t
  have hB := h.more hb
  have hl' : ∀ news : List Int, news = form t zs → putE lim 0 ys news.length = 0 ∧ putZ lim 0 ys news = ys ++ news := fun news e => by
    subst e
    have : putE lim 0 ys (form t zs).length = 0 := by
      unfold putE
      rw [if_neg (by simp), if_neg (by omega)]
    exact ⟨this, by unfold putZ; rw [if_pos this]⟩
  have fin : ∀ {f : FuncId} {args : Array Value} (news : List Int), news = form t zs → Calls Try.prog f args (PW w t) (Wrote (PW w t) W lim v (putZ lim 0 ys news) (putE lim 0 ys news.length)) → Calls Try.prog f args (PW w t) (Ans 0 (Put w0 l W lim (ys ++ form t zs))) := fun news e C => by
    obtain ⟨h1, h2⟩ := hl' news e
    rw [h1, h2] at C
    subst e
    exact (bw_of hB C).mono fun _ _ hh => hh
  have hlen := ht.len
  have ht' := ht.more hb (Below.refl _ _)
  obtain ⟨x, hx⟩ := Int.eq_ofNat_of_zero_le ht.u0
  have hu1 := ht.u1
  have hn1 := ht.n1
  obtain k | k | k | k | k | k | k | k : t.kd = 0 ∨ t.kd = 1 ∨ t.kd = 2 ∨ t.kd = 3 ∨ t.kd = 4 ∨ t.kd = 5 ∨ t.kd = 6 ∨ t.kd = 7 := by omega
  · exact puts0 w _ t va vn vc ht.hv k _ _ (fin (numB t.n) (by simp [form, k]) (num_any _ W lim v ys 0 t.n (hn k) (by omega) hB.head))
  · exact puts1 w _ t va vn vc ht.hv zs ht.bin k _ _ (fin (numB (st zs).size ++ tb (st zs)) (by simp [form, k, st_size, tb_st zs ht.rz]) (text_any _ W lim v ys 0 (st zs) (by rw [st_size]; omega) hB.head))
  · exact puts2 w _ t va vn vc ht.hv k _ _ (fin (numB vn ++ zs) (by simp [form, k, hlen]) (bytes_any _ W lim v ys 0 va vn vc zs ht'.bin hap (by omega) hB.head))
  · exact puts3 w _ t k _ _ (fin t.h (by simp [form, k]) (hash_any _ W lim v ys 0 t.h t.lh hB.head))
  · exact puts4 w _ t k _ _ (fin t.k (by simp [form, k]) (key_any _ W lim v ys 0 t.k t.lk hB.head))
  · exact puts5 w _ t va vn vc ht.hv k _ _ (fin (wordB t.u) (by simp [form, k]) (WirF.word_any _ W lim v ys 0 t.u ht.u0 ht.u1 hB.head))
  · exact puts6 w _ t x hx k _ _ (fin (wordB (canon x : Int)) (by simp [form, k, hx]) (wpace_any _ W lim v ys 0 x (by omega) hB.head))
  · exact puts7 w _ t va vn vc ht.hv k _ _ (fin (boolB t.is) (by simp [form, k]) (bool_any _ W lim v ys 0 t.is hB.head))
end WirAA
end Go.Proofs.Ytplinpbmncccoaa
