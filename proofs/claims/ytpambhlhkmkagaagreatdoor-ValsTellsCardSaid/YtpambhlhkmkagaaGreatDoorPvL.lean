/-
  WrwC, CmTe, CmVw, in one text.
-/
import Derived.Test.YtpambhlhkmkagaaGreatDoorPvI
import Derived.Test.YtpambhlhkmkagaaGreatDoorBlkM
import Derived.Test.YtpambhlhkmkagaaGreatDoorWirM
import Derived.Test.YtpambhlhkmkagaaGreatDoorWirS
import Derived.Test.YtpambhlhkmkagaaGreatDoorPvD
import Derived.Test.YtpambhlhkmkagaaGreatDoorPvE
import Derived.Test.YtpambhlhkmkagaaGreatDoorPvF
import Derived.Test.YtpambhlhkmkagaaGreatDoorPvK
import Derived.Test.YtpambhlhkmkagaaGreatDoorPvH
import Derived.Test.YtpambhlhkmkagaaGreatDoorPvO
namespace Go.Proofs.YtpambhlhkmkagaaGreatDoor
namespace WrwC
open Go.RowKit PaceA
open BlkM WirM WirS WirA WrwA WrwB
open WirD (nb numB nb_le)
open WirE (NewB)

open WirRT (dg_len)
open WirBC (numB_dg)
open WirX (Thg Bag own)

theorem bin_len {w : World} {a : Option Addr} {n c : Nat} {zs : List Int} (h : BIn w (.slice a n c) zs) : n = zs.length := by
  obtain ⟨_, _, e, _⟩ := h
  cases e
  rfl
theorem put_at {w0 w : World} {l : List Thg} {X : Nat} {lim : Int} {v : Value} {zs : List Int} {err : Int} (ns : List Int) (hB : Bag w0 w (rwt X lim v zs err :: l)) (hl : ns.length ≤ 1099511627776 - 1048576) :
    Hid (∀ U a n c, Below w.heap.size w U → BIn U (.slice a n c) ns → Calls Tryz.prog 55 #[.pointer (some ⟨X, 0, none⟩), .slice a n c] U (RBW w0 l X lim (putZ lim err zs ns) (putE lim err zs ns.length))) :=
  WirS.hide (fun U a n c hb hx => put_any w0 U l X lim v zs err a n c ns (hB.more hb) hx (by rw [show n = ns.length from bin_len hx]; exact hl))
theorem numB_len (n : Int) (h1 : n < 18446744073709551616) : (numB n).length ≤ 9 := by
  rw [numB_dg _ h1, List.length_cons, dg_len]
  have := nb_le n h1
  omega
theorem num_any (w0 w : World) (l : List Thg) (X : Nat) (lim : Int) (v : Value) (zs : List Int) (err n : Int) (hB : Bag w0 w (rwt X lim v zs err :: l)) (hn : 0 ≤ n) (h1 : n < 9223372036854775808) :
    Calls Tryz.prog 31 #[.pointer (some ⟨X, 0, none⟩), .int .i64 n] w (RBW w0 l X lim (putZ lim err zs (numB n)) (putE lim err zs (numB n).length)) := by
  have c2 : w.cell? ⟨X, 2, none⟩ = some (.int .i64 err) := by rw [hB.head.cell.cell]; rfl
  have hd : decide (n < 0) = false := decide_eq_false (by omega)
  have P := put_at (numB n) hB (by have := numB_len n (by omega); omega)
  have N := WirS.hide (number_any w n hn h1)
  have HB := WirS.hide hB
  clear hB
  by_cases he : err = 0
  · subst he
    generalize putE lim 0 zs (numB n).length = E at P ⊢
    generalize putZ lim 0 zs (numB n) = Z at P ⊢
    go_enter Tryz.func31, Tryz.ntmps31
    go_wp2_with (first
      | (go_at_call 56; refine (N.out).mono ?_; rintro e U ⟨a, m, c, hm, rfl, hd⟩; have HD := WirS.hide hd; clear hd hm)
      | (go_at_call 55; refine (P.out _ a m c HD.out.2.2 HD.out.1.bin).mono ?_; rintro e U2 ⟨rfl, hq⟩; have HQ := WirS.hide hq; clear hq))
    go_ret
    exact ⟨rfl, HQ.out⟩
  · have e1 : (err == 0) = false := by simpa using he
    have e2 : (err != 0) = true := by simpa using he
    have hE : putE lim err zs (numB n).length = err := by unfold putE; rw [if_pos he]
    have hZ : putZ lim err zs (numB n) = zs := by unfold putZ; rw [hE, if_neg he]
    rw [hE, hZ]
    clear he hE hZ P N
    go_enter Tryz.func31, Tryz.ntmps31
    go_wp2_with fail
    go_ret
    exact ⟨rfl, v, HB.out⟩
set_option maxHeartbeats 800000 in
theorem key_any (w0 w : World) (l : List Thg) (X : Nat) (lim : Int) (v : Value) (zs : List Int) (err : Int) (h : List Int) (hl : h.length = 4) (hB : Bag w0 w (rwt X lim v zs err :: l)) :
    Calls Tryz.prog 32 #[.pointer (some ⟨X, 0, none⟩), .agg (b8 h).toArray] w (RBW w0 l X lim (putZ lim err zs h) (putE lim err zs h.length)) := by
  have hx := BIn.new w 24 h 4 4 (0, 0) (by omega) (Nat.le_refl _)
  rw [show h.take 4 = h by rw [← hl, List.take_length]] at hx
  have hb : Below w.heap.size w (w.alloc (.cells (b8 h).toArray 24)) := Below.alloc (Below.refl _ _) (Nat.le_refl _) _
  have hz := no_zero w _ hb
  obtain ⟨a1, m1, c1, U1, hm1, r1, n1, _⟩ := cat hz (hx.below (Below.alloc (Below.refl _ _) (Nat.le_refl _) _)) (by simp; omega)
  rw [List.nil_append] at n1
  have P := put_at h hB (by omega)
  have Q := WirS.hide (P.out U1 a1 m1 c1 n1.2.2 n1.1.bin)
  generalize putE lim err zs h.length = E at Q ⊢
  generalize putZ lim err zs h = Z at Q ⊢
  clear hB hx hb hz n1 hm1 P hl
  go_enter Tryz.func32, Tryz.ntmps32
  go_upto_region 1 with fail
  refine wp_region_lit ?_
  refine sV (.pointer (some ⟨X, 0, none⟩)) (w.alloc (.cells (b8 h).toArray 24)) (by kernel_rfl) (by kernel_rfl) ?_
  simp only [Act.put, List.setIfInBounds_toArray, List.set_cons_succ, List.set_cons_zero]
  refine sV (.slice (some ⟨(w.alloc (.cells (b8 h).toArray 24)).heap.size, 0, none⟩) 0 0) ((w.alloc (.cells (b8 h).toArray 24)).alloc (.cells #[] 5)) (by kernel_rfl) (by kernel_rfl) ?_
  simp only [Act.put, List.setIfInBounds_toArray, List.set_cons_succ, List.set_cons_zero]
  refine sV (.slice (some ⟨w.heap.size, 0, none⟩) 4 4) ((w.alloc (.cells (b8 h).toArray 24)).alloc (.cells #[] 5)) (by kernel_rfl) (by kernel_rfl) ?_
  simp only [Act.put, List.setIfInBounds_toArray, List.set_cons_succ, List.set_cons_zero]
  refine sA (by kernel_rfl) 35 35 _ _ (by rfl) (.slice (some ⟨(w.alloc (.cells (b8 h).toArray 24)).heap.size, 0, none⟩) 0 0) (.slice (some ⟨w.heap.size, 0, none⟩) 4 4) (by kernel_rfl) (by kernel_rfl) (.slice a1 m1 c1) (U1) r1 ?_
  simp only [Act.put, List.setIfInBounds_toArray, List.set_cons_succ, List.set_cons_zero]
  refine WirAB.sCx (by kernel_rfl) (by kernel_rfl) Q.out ?_
  rintro e U2 ⟨rfl, hq⟩
  refine ⟨_, rfl, ?_⟩
  simp only [Act.put, List.setIfInBounds_toArray, List.set_cons_succ, List.set_cons_zero]
  have HQ := WirS.hide hq
  clear hq Q r1
  go_wp2_with fail
  go_ret
  exact ⟨rfl, HQ.out⟩
end WrwC
end Go.Proofs.YtpambhlhkmkagaaGreatDoor

namespace Go.Proofs.YtpambhlhkmkagaaGreatDoor
namespace CmTe
open Go.RowKit
open BlkM WirM WirS CmA
open WirA (putZ putE)
open WirD (numB)

open WirE (NewB)
open WirX (Thg Bag own bag_own)
open WirAA (box bag_box)
open WirAB (sCx)
open ValJ (w_ok numB_le)
open WrwB (rwt RW RBW)
open ValA (Vd VIn)


/-- A writing call on the document's writer, which has room. -/
def Rr (w0 : World) (l : List Thg) (W : Nat) (lim : Int) (ys : List Int) (e : Ending) (w' : World) : Prop := e = .returned (.int .i64 0) ∧ ∃ v', Bag w0 w' (rwt W lim v' ys 0 :: l)
theorem r_num {w0 w : World} {l : List Thg} {W : Nat} {lim : Int} {v : Value} {ys : List Int} (n : Int) (h : Bag w0 w (rwt W lim v ys 0 :: l)) (h0 : 0 ≤ n) (h1 : n < 9223372036854775808) (hl : ((ys.length + (numB n).length : Nat) : Int) ≤ lim) :
    Calls Tryz.prog 31 #[.pointer (some ⟨W, 0, none⟩), .int .i64 n] w (Rr w0 l W lim (ys ++ numB n)) := by
  obtain ⟨e1, e2⟩ := w_ok hl
  have C := WrwC.num_any w0 w l W lim v ys 0 n h h0 h1
  rw [e1, e2] at C
  exact C
/-! ### Who -/
end CmTe
end Go.Proofs.YtpambhlhkmkagaaGreatDoor

namespace Go.Proofs.YtpambhlhkmkagaaGreatDoor
namespace CmVw
open Go.RowKit Go.WideShapes Go.ChangeShapes Go.ChangeAt
open BlkM WirM WirS ValA
open WirO1 (row8)

theorem list_of {α : Type} {P : Nat → α → Prop} : ∀ n, (∀ i, i < n → ∃ x, P i x) → ∃ l : List α, l.length = n ∧ ∀ i x, l[i]? = some x → P i x
  | 0, _ => ⟨[], rfl, fun i x h => by simp at h⟩
  | n + 1, h => by
    obtain ⟨l, hl, hp⟩ := list_of n (fun i hi => h i (by omega))
    obtain ⟨x, hx⟩ := h n (by omega)
    refine ⟨l ++ [x], by simp [hl], fun i y hy => ?_⟩
    rcases Nat.lt_or_ge i n with hi | hi
    · rw [List.getElem?_append_left (by omega)] at hy
      exact hp i y hy
    · rw [List.getElem?_append_right (by omega), hl] at hy
      obtain rfl : i = n := by
        have := (List.getElem?_eq_some_iff.1 hy).1
        simp at this
        omega
      simp at hy
      subst hy
      exact hx
theorem add_two (a : Addr) (n m : Nat) : a.add (n + m) = (a.add n).add m := by
  unfold Addr.add
  by_cases h1 : n = 0
  · subst h1
    simp
  · by_cases h2 : m = 0
    · subst h2
      simp
    · have h3 : ¬ n + m = 0 := by omega
      simp [h1, h2, Nat.add_assoc]
section
variable {H : Type} {enc : TypeId × Value → H} {W : World}
theorem val_open {fuel : Nat} {cs : List Value} {x : DataW H × List MemPlace} (h : DataW.trod enc Tryz.prog W 0 (fun _ => true) true fuel 55 cs = some x) : ∃ v : Vd, cs = v.cells ∧ v.ok := by
  have cI : Tryz.prog.cellsOf 3 = 1 := by kernel_rfl
  have cK : Tryz.prog.cellsOf 24 = 4 := by kernel_rfl
  have cT : Tryz.prog.cellsOf 55 = 5 := by kernel_rfl
  obtain ⟨xs, n, _, _, hl, hlen, hf⟩ := DataW.trod_struct Tryz.underlying55 h
  rw [cT] at hl
  have e0 := hf 0 _ rfl
  have e1 := hf 1 _ rfl
  clear hf
  match xs, hlen with
  | [y0, y1], _ =>
  obtain ⟨lk, p0, hlk, rk⟩ := row8 (k := 4) Tryz.underlying24 cK e0
  obtain ⟨n1, p1, _, w1⟩ := DataW.trod_int Tryz.underlying3 e1
  have p0 : (cs.drop 0).take (Tryz.prog.cellsOf 24) = _ := p0
  have p1 : (cs.drop 4).take (Tryz.prog.cellsOf 3) = _ := p1
  rw [cK] at p0
  rw [cI] at p1
  have q0 := WirO1.part 0 4 4 p0 rfl
  have q1 := WirO1.part 4 1 5 p1 rfl
  have q2 : cs.drop 5 = [] := List.drop_eq_nil_of_le (by omega)
  rw [q1, q2, List.drop_zero] at q0
  simp [Lit.wf, IntKind.min, IntKind.max, IntKind.signed, IntKind.bits] at w1
  obtain _ | ⟨a, _ | ⟨b, _ | ⟨c, _ | ⟨d, _ | ⟨e, l⟩⟩⟩⟩⟩ := lk <;> simp at hlk
  refine ⟨⟨a, b, c, d, n1⟩, by simpa [Vd.cells, b8] using q0, ⟨rk a (by simp), rk b (by simp), rk c (by simp), rk d (by simp), ⟨by show _ ≤ n1; omega, by show n1 < _; omega⟩⟩⟩
theorem vals_in {fuel : Nat} {cs : List Value} {x : DataW H × List MemPlace} (h : DataW.trod enc Tryz.prog W 0 (fun _ => true) true fuel 22 cs = some x) :
    ∃ la ln lc vs, cs = [.slice la ln lc] ∧ VIn W la ln lc vs := by
  rcases DataW.trod_slice Tryz.underlying22 h with ⟨hcs, _⟩ | ⟨a, len, cap, elems, rest, n, _, hcs, _, _, hl, hm, hlen, hel, _, _⟩
  · exact ⟨none, 0, 0, [], hcs, VIn.nil W none 0 (by decide)⟩
  · have cT : Tryz.prog.cellsOf 55 = 5 := by kernel_rfl
    rw [cT] at hel
    have each : ∀ i, i < len → ∃ x : Vd, (∀ j v, x.cells[j]? = some v → W.cell? (a.add (i * 5 + j)) = some v) ∧ x.ok := by
      intro i hi
      have h1 := hel i hi
      rw [List.getElem?_eq_getElem (show i < elems.length by omega), Option.bind_eq_some_iff] at h1
      obtain ⟨cs', hc, ht⟩ := h1
      obtain ⟨_, hcl, hat⟩ := World.cells?_some hc
      obtain ⟨v, rfl, hok⟩ := val_open ht
      refine ⟨v, fun j u hj => ?_, hok⟩
      have hj2 : j < 5 := (List.getElem?_eq_some_iff.1 hj).1
      rw [add_two a, hat j hj2]
      exact hj
    obtain ⟨vs, hvs, hp⟩ := list_of len each
    refine ⟨some a, len, cap, vs, hcs, ⟨hvs, hl, by unfold maxLen at hm; omega, fun hpos => ?_, fun x hx => ?_⟩⟩
    · obtain ⟨b, off, spot⟩ := a
      obtain ⟨x0, hx0⟩ : ∃ x0, vs[0]? = some x0 := ⟨_, List.getElem?_eq_getElem (by omega)⟩
      have h0 := (hp 0 x0 hx0).1 0 _ rfl
      have hspot : spot = none := by simpa [Addr.add] using World.cell?_spot h0
      subst hspot
      refine ⟨b, off, rfl, ?_, fun i x hx j v hj => ?_⟩
      · rw [Go.WideShapes.add_plain] at h0
        unfold World.cell? at h0
        rcases Nat.lt_or_ge b W.heap.size with h | h
        · exact h
        · have : W.heap[b]? = none := by simp [h]
          simp [this] at h0
      · have h2 := (hp i x hx).1 j v hj
        rw [Go.WideShapes.add_plain] at h2
        rw [Nat.add_assoc]
        exact h2
    · obtain ⟨i, hi, rfl⟩ := List.getElem_of_mem hx
      exact (hp i _ (List.getElem?_eq_getElem hi)).2
end
end CmVw
end Go.Proofs.YtpambhlhkmkagaaGreatDoor

