/-
  ValI, ValJ, ValK, ValL, ValZ, in one text.
-/
import Derived.Test.YtackcnncjeajpaaVal1
import Derived.Test.YtackcnncjeajpaaWideG
import Derived.Laws.OwnMore
import Derived.Test.YtackcnncjeajpaaWirAA
import Derived.Test.YtackcnncjeajpaaWirBC
namespace Go.Proofs.Ytackcnncjeajpaa
namespace ValI
open Go.RowKit
open BlkM WirM WirS WirA WirB ValA ValB ValC ValD ValP
open WideG (sumTo sumRes)

theorem mkI (a : Operand → Value) (o : Oper) (x y : Operand) (n : Nat) (ho : o.op = Op.makeSlice 77 x y) (hx : a x = .int .i64 (n : Int)) (hy : a y = .int .i64 (n : Int)) (hn : n ≤ 1000000) (W : World) :
    (execOp a o).run Try.prog W = .ok (.value (.slice (some ⟨W.heap.size, 0, none⟩) n n)) (W.alloc (.cells (List.replicate n (.int .i64 0)).toArray 3)) := by
  obtain ⟨i0, hi, hz0, hz1, hz2⟩ := info_parts (show (Try.prog.info? 3).map (fun i => (i.zero, i.size, i.bytes)) = some (some (.int .i64 0), 1, 8) by kernel_rfl)
  have hr := run_make (P := Try.prog) W 77 3 i0 _ Try.underlying77 hi hz0 .i64 .i64 (n : Int) (n : Int) (by omega) (Int.le_refl _) (by rw [hz2]; omega) (by omega)
  simp only [Int.toNat_natCast, hz1, Nat.mul_one] at hr
  have hm : madeCells (Value.int .i64 0).cells n = (List.replicate n (Value.int .i64 0)).toArray := by
    apply Array.ext'
    exact toList_madeCells_one _ n
  rw [hm] at hr
  unfold execOp
  rw [ho]
  simp only [hx, hy]
  simp [hr]
/-- The sum of all power. -/
def sumP (vs : List Vd) : Int := sumTo (vs.map Vd.p) vs.length
def tell (t e : Int) : Value := .tuple #[.agg #[.int .u64 (t / 18446744073709551616), .int .u64 (t % 18446744073709551616)], .int .i64 e]
set_option maxRecDepth 10000 in
set_option maxHeartbeats 2000000 in
theorem total_bad (w : World) (a : Option Addr) (n c : Nat) (vs : List Vd) (h : VIn w a n c vs) (hc : chk vs ≠ 0) :
    Calls Try.prog 65 #[.slice a n c] w fun e w' => e = .returned (.tuple #[.agg #[.int .u64 0, .int .u64 0], .int .i64 (chk vs)]) ∧ Below w.heap.size w w' := by
  obtain ⟨W0, e0⟩ : ∃ X, X = w.alloc (.cells #[.int .u64 0, .int .u64 0] 98) := ⟨_, rfl⟩
  have hA : At W0 w.heap.size 98 [.int .u64 0, .int .u64 0] := by rw [e0]; exact At.new w _ _
  have hB : Below w.heap.size w W0 := by rw [e0]; exact Below.alloc (Below.refl _ _) (Nat.le_refl _) _
  have HC := WirS.hide (check_any W0 a n c vs (h.below hB))
  generalize chk vs = cd at *
  have hn0 : (cd == 0) = false := by simpa using hc
  have hn1 : (cd != 0) = true := by simpa using hc
  have HA := WirS.hide hA
  have HB := WirS.hide hB
  have E0 := WirS.hide e0
  clear h e0 hA hB hc
  go_enter Try.func65, Try.ntmps65
  go_upto_region 1 with fail
  rw [← E0.out]
  go_upto_region 2 with ((go_at_call 58; refine (HC.out).mono ?_; rintro e u ⟨rfl, hb⟩; have HU := WirS.hide hb; clear hb))
  have hu := HA.out.below HU.out HA.out.lt
  have c0 : u.cell? ⟨w.heap.size, 0, none⟩ = some (.int .u64 0) := hu.cell 0
  have c1 : u.cell? ⟨w.heap.size, 1, none⟩ = some (.int .u64 0) := hu.cell 1
  have f0 := hu.frozen 0
  have f1 := hu.frozen 1
  have HBU := WirS.hide (HB.out.trans (HU.out.mono HB.out.size))
  clear hu
  go_wp2_with fail
  exact bodyPost_ret (v := .tuple #[.agg #[.int .u64 0, .int .u64 0], .int .i64 cd]) (by simp [results, Try.results65, go_sem, c0, c1]) rfl ⟨rfl, (HBU.out.setCell (Nat.le_refl _) _).setCell (Nat.le_refl _) _⟩
def MidT (w w1 : World) (vs : List Vd) (n : Nat) (i : Value) (U : World) : Prop :=
  ∃ (k : Nat) (cs : List Value), k ≤ n ∧ i = .int .i64 (k : Int) ∧ At U w1.heap.size 3 cs ∧ cs.length = n ∧ (∀ j x, j < k → vs[j]? = some x → cs[j]? = some (.int .i64 x.p)) ∧ At U w.heap.size 98 [.int .u64 0, .int .u64 0] ∧ Below w.heap.size w U
set_option maxRecDepth 10000 in
set_option maxHeartbeats 4000000 in
theorem total_ok (w : World) (a : Option Addr) (n c : Nat) (vs : List Vd) (h : VIn w a n c vs) (hc : chk vs = 0) :
    Calls Try.prog 65 #[.slice a n c] w fun e w' => e = .returned (tell (sumP vs) 0) ∧ Below w.heap.size w w' := by
  obtain ⟨v0, v64, hup, hpw⟩ := (chk_up vs).1 hc
  have hlen := h.len
  obtain ⟨W0, e0⟩ : ∃ X, X = w.alloc (.cells #[.int .u64 0, .int .u64 0] 98) := ⟨_, rfl⟩
  have hA : At W0 w.heap.size 98 [.int .u64 0, .int .u64 0] := by rw [e0]; exact At.new w _ _
  have hB : Below w.heap.size w W0 := by rw [e0]; exact Below.alloc (Below.refl _ _) (Nat.le_refl _) _
  have HC := WirS.hide (check_any W0 a n c vs (h.below hB))
  rw [hc] at HC
  have hn64 : n ≤ 64 := by omega
  have HA := WirS.hide hA
  have HB := WirS.hide hB
  have E0 := WirS.hide e0
  have H := WirS.hide h
  have HL := WirS.hide hlen
  have HP := WirS.hide hpw
  unfold tell
  obtain ⟨hi, ehi⟩ : ∃ x, x = sumP vs / 18446744073709551616 := ⟨_, rfl⟩
  obtain ⟨lo, elo⟩ : ∃ x, x = sumP vs % 18446744073709551616 := ⟨_, rfl⟩
  rw [← ehi, ← elo]
  have EHI := WirS.hide ehi
  have ELO := WirS.hide elo
  clear h e0 hA hB hc v0 v64 hup hpw hlen ehi elo
  go_enter Try.func65, Try.ntmps65
  go_upto_region 1 with fail
  rw [← E0.out]
  go_upto_region 4 with ((go_at_call 58; refine (HC.out).mono ?_; rintro e w1 ⟨rfl, hb⟩; have HU := WirS.hide hb; clear hb))
  have HT := WirS.hide (HA.out.below HU.out HA.out.lt)
  have HB1 := WirS.hide (HB.out.trans (HU.out.mono HB.out.size))
  have hXS : w.heap.size ≠ w1.heap.size := by have := HT.out.lt; omega
  refine wp_region_lit ?_
  refine sV (.slice a n c) (w1) (by kernel_rfl) (by kernel_rfl) ?_
  simp only [Act.put, List.setIfInBounds_toArray, List.set_cons_succ, List.set_cons_zero]
  refine sV (.int .i64 (n : Int)) (w1) (by kernel_rfl) (by kernel_rfl) ?_
  simp only [Act.put, List.setIfInBounds_toArray, List.set_cons_succ, List.set_cons_zero]
  refine sV (.slice (some ⟨w1.heap.size, 0, none⟩) n n) (w1.alloc (.cells (List.replicate n (.int .i64 0)).toArray 3)) (by kernel_rfl) (mkI _ _ _ _ n (by rfl) (by kernel_rfl) (by kernel_rfl) (by omega) w1) ?_
  simp only [Act.put, List.setIfInBounds_toArray, List.set_cons_succ, List.set_cons_zero]
  have HST := WirS.hide (show MidT w w1 vs n (.int .i64 0) (w1.alloc (.cells (List.replicate n (.int .i64 0)).toArray 3)) from
    ⟨0, _, Nat.zero_le _, rfl, At.new w1 _ _, List.length_replicate, fun j x hj _ => absurd hj (by omega), HT.out.alloc _, HB1.out.alloc HB1.out.size _⟩)
  clear HT
  go_wp2_with fail
  go_loopw [19] (fun i wr => MidT w w1 vs n i wr) (fun i _ => n - (intOf i).toNat)
  case atStart => exact HST.out
  case round =>
    clear HST
    obtain ⟨k, cs, hk, rfl, hX, hcl, hcs, hS, hBr⟩ := hrel
    by_cases hlt : k < n
    · obtain ⟨x, B, o, hx, hmem, rfl, hBl, hr⟩ := (H.out.below hBr).cell hlt
      have r0 : wr.cell? ⟨B, o + k * 5, none⟩ = some (.int .u8 x.a) := hr 0 _ rfl
      have r1 : wr.cell? ⟨B, o + k * 5 + 1, none⟩ = some (.int .u8 x.b) := hr 1 _ rfl
      have r2 : wr.cell? ⟨B, o + k * 5 + 2, none⟩ = some (.int .u8 x.c) := hr 2 _ rfl
      have r3 : wr.cell? ⟨B, o + k * 5 + 3, none⟩ = some (.int .u8 x.d) := hr 3 _ rfl
      have r4 : wr.cell? ⟨B, o + k * 5 + 4, none⟩ = some (.int .i64 x.p) := hr 4 _ rfl
      have hkl : (k : Int) < (n : Int) := by omega
      obtain ⟨y, hy⟩ : ∃ y, cs[k]? = some y := ⟨_, List.getElem?_eq_getElem (by omega)⟩
      have ck : wr.cell? ⟨w1.heap.size, k, none⟩ = some y := (hX.cell k).trans hy
      have fk := hX.frozen k
      have hXl := hX.lt
      have HBr := WirS.hide hBr
      have HX := WirS.hide hX
      have HS := WirS.hide hS
      have HCS := WirS.hide hcs
      have HCL := WirS.hide hcl
      have HXX := WirS.hide hx
      clear hr hx hmem hBr hX hS hcs hcl hy
      go_wp2_with fail
      go_roundw
      case rel =>
        refine ⟨k + 1, cs.set k (.int .i64 x.p), by omega, by go_num, (HX.out.setCell k _).alloc _, by rw [List.length_set]; exact HCL.out, fun j z hj hz => ?_, (HS.out.setCell_other hXS _ _).alloc _, (HBr.out.setCell (p := ⟨w1.heap.size, k, none⟩) HB1.out.size _).alloc (by simpa using HBr.out.size) _⟩
        have := HCL.out
        by_cases e : j = k
        · subst e
          rw [HXX.out] at hz
          cases hz
          rw [List.getElem?_set_self (by omega)]
        · rw [List.getElem?_set_ne (by omega)]
          exact HCS.out j z (by omega) hz
      case measure => simp [intOf]; omega
    · obtain rfl : k = n := by omega
      have hlen := HL.out
      have hp : ∀ j, (vs.map Vd.p).getD j 0 ≤ 4611686018427387904 ∧ 0 ≤ (vs.map Vd.p).getD j 0 := fun j => by
        by_cases hj : j < vs.length
        · have := HP.out (vs[j]'hj) (List.getElem_mem _)
          rw [List.getD_eq_getElem?_getD, List.getElem?_map, List.getElem?_eq_getElem hj]
          simp
          omega
        · rw [List.getD_eq_getElem?_getD, List.getElem?_eq_none (by simp; omega)]
          simp
      have hsum := WideG.sum_any (vs.map Vd.p) (some ⟨w1.heap.size, 0, none⟩) w1.heap.size 0 k k wr (by simp [hlen]) (by omega) (fun j _ => by have := hp j; omega) (.inr rfl) (fun j hj => by
        have hx : vs[j]? = some (vs[j]'(by omega)) := List.getElem?_eq_getElem _
        rw [Nat.zero_add, hX.cell, hcs j _ hj hx, List.getD_eq_getElem?_getD, List.getElem?_map, hx]
        rfl) hX.lt
      have HSum := WirS.hide (show Calls Try.prog 72 #[.slice (some ⟨w1.heap.size, 0, none⟩) k k] wr (fun e w' => e = .returned (.tuple #[.agg #[.int .u64 (sumP vs / 18446744073709551616), .int .u64 (sumP vs % 18446744073709551616)], .int .i64 0]) ∧ Below wr.heap.size wr w') from hsum.mono (fun e w' ⟨V, h1, h2, h3⟩ => by
        rcases h2 with ⟨_, h2⟩ | ⟨⟨j, _, h2⟩, _⟩
        · refine ⟨by rw [h1, h2]; unfold sumP; rw [List.length_map], h3⟩
        · have := hp j
          omega))
      rw [← EHI.out, ← ELO.out] at HSum
      have HS := WirS.hide hS
      have HBr := WirS.hide hBr
      clear hp hsum hX hS hcs hcl hBr hlen
      go_upto_region 10 with fail
      refine wp_region_lit ?_
      refine sV (.slice (some ⟨w1.heap.size, 0, none⟩) k k) (wr) (by kernel_rfl) (by kernel_rfl) ?_
      simp only [Act.put, List.setIfInBounds_toArray, List.set_cons_succ, List.set_cons_zero]
      refine sC (by kernel_rfl) (by kernel_rfl) HSum.out ?_
      rintro w2 hb
      simp only [Act.put, List.setIfInBounds_toArray, List.set_cons_succ, List.set_cons_zero]
      have hu := HS.out.below hb HS.out.lt
      have c0 : w2.cell? ⟨w.heap.size, 0, none⟩ = some (.int .u64 0) := hu.cell 0
      have c1 : w2.cell? ⟨w.heap.size, 1, none⟩ = some (.int .u64 0) := hu.cell 1
      have f0 := hu.frozen 0
      have f1 := hu.frozen 1
      have hlt2 := hu.lt
      have HB2 := WirS.hide (HBr.out.trans (hb.mono HBr.out.size))
      clear hu hb
      go_wp2_with fail
      exact bodyPost_ret (v := .tuple #[.agg #[.int .u64 hi, .int .u64 lo], .int .i64 0]) (by simp [results, Try.results65, go_sem, c0, c1]) rfl ⟨rfl, (HB2.out.setCell (Nat.le_refl _) _).setCell (Nat.le_refl _) _⟩
end ValI
end Go.Proofs.Ytackcnncjeajpaa

namespace Go.Proofs.Ytackcnncjeajpaa
namespace ValJ
open Go.RowKit
open BlkM WirM WirS ValA ValB ValC ValD ValP
open WirA (WSt Wrote putZ putE)
open WirD (numB numB_len nb_le nb)
open WirE (newB_nil NewB)
open WirX (Thg Bag BW bw_of wtr bag_wtr own bag_own)
open WirAA (box bag_box)

theorem numB_le (n : Int) (h : n < 18446744073709551616) : (numB n).length ≤ 9 := by
  rw [numB_len n h]
  have := nb_le n h
  omega
/-- A set's bytes, of each validator and of the first ones. -/
def item (x : Vd) : List Int := x.key ++ numB x.p
def items (vs : List Vd) : List Int := vs.flatMap item
def enc (vs : List Vd) : List Int := numB (vs.length : Int) ++ items vs
theorem items_app (a b : List Vd) : items (a ++ b) = items a ++ items b := by simp [items]
theorem items_succ {vs : List Vd} {k : Nat} {x : Vd} (h : vs[k]? = some x) : items (vs.take (k + 1)) = items (vs.take k) ++ (x.key ++ numB x.p) := by
  rw [List.take_add_one, h, items_app]
  simp [items, item]
theorem items_len : ∀ vs : List Vd, (∀ x ∈ vs, x.ok) → (items vs).length ≤ 13 * vs.length
  | [], _ => by simp [items]
  | x :: l, h => by
    have h1 := numB_le x.p (by have := (h x (by simp)).p; omega)
    have h2 := items_len l (fun y hy => h y (by simp [hy]))
    have e : items (x :: l) = (x.key ++ numB x.p) ++ items l := by simp [items, item]
    rw [e]
    simp only [List.length_append, List.length_cons, Vd.key, List.length_nil]
    omega
theorem w_ok {lim : Int} {ys news : List Int} (hl : ((ys.length + news.length : Nat) : Int) ≤ lim) : putE lim 0 ys news.length = 0 ∧ putZ lim 0 ys news = ys ++ news := by
  have h : putE lim 0 ys news.length = 0 := by
    unfold putE
    rw [if_neg (by simp), if_neg (by omega)]
  exact ⟨h, by unfold putZ; rw [if_pos h]⟩
/-- A writing call on the first writer, which has room. -/
def Wr (w0 : World) (l : List Thg) (W : Nat) (lim : Int) (ys : List Int) (e : Ending) (w' : World) : Prop := e = .returned (.int .i64 0) ∧ ∃ v', Bag w0 w' (wtr W lim v' ys 0 :: l)
theorem w_num {w0 w : World} {l : List Thg} {W : Nat} {lim : Int} {v : Value} {ys : List Int} (n : Int) (h : Bag w0 w (wtr W lim v ys 0 :: l)) (h0 : 0 ≤ n) (h1 : n < 9223372036854775808) (hl : ((ys.length + (numB n).length : Nat) : Int) ≤ lim) :
    Calls Try.prog 42 #[.pointer (some ⟨W, 0, none⟩), .int .i64 n] w (Wr w0 l W lim (ys ++ numB n)) := by
  obtain ⟨e1, e2⟩ := w_ok hl
  have C := bw_of h (WirE.num_any w W lim v ys 0 n h0 h1 h.head)
  rw [e1, e2] at C
  exact C
theorem w_key {w0 w : World} {l : List Thg} {W : Nat} {lim : Int} {v : Value} {ys : List Int} (x : Vd) (h : Bag w0 w (wtr W lim v ys 0 :: l)) (hl : ((ys.length + 4 : Nat) : Int) ≤ lim) :
    Calls Try.prog 85 #[.pointer (some ⟨W, 0, none⟩), .agg #[.int .u8 x.a, .int .u8 x.b, .int .u8 x.c, .int .u8 x.d]] w (Wr w0 l W lim (ys ++ x.key)) := by
  obtain ⟨e1, e2⟩ := w_ok (news := x.key) hl
  have C := bw_of h (WirF.key_any w W lim v ys 0 x.key rfl h.head)
  rw [e1, e2] at C
  exact C
set_option maxRecDepth 10000 in
set_option maxHeartbeats 2000000 in
theorem encode_bad (w : World) (a : Option Addr) (n c : Nat) (vs : List Vd) (h : VIn w a n c vs) (hc : chk vs ≠ 0) :
    Calls Try.prog 61 #[.slice a n c] w fun e w' => e = .returned (.tuple #[.slice none 0 0, .int .i64 (chk vs)]) ∧ Below w.heap.size w w' := by
  have HC := WirS.hide (check_any w a n c vs h)
  generalize chk vs = cd at *
  have hn0 : (cd == 0) = false := by simpa using hc
  have hn1 : (cd != 0) = true := by simpa using hc
  clear h hc
  go_enter Try.func61, Try.ntmps61
  go_wp2_with ((go_at_call 58; refine (HC.out).mono ?_; rintro e u ⟨rfl, hb⟩; have HU := WirS.hide hb; clear hb))
  go_ret2
  exact ⟨rfl, HU.out⟩
def MidE (w : World) (W n : Nat) (vs : List Vd) (i : Value) (U : World) : Prop :=
  ∃ (k : Nat) (v : Value), k ≤ n ∧ i = .int .i64 (k : Int) ∧ Bag w U [wtr W 1048576 v (numB (n : Int) ++ items (vs.take k)) 0]
set_option maxRecDepth 10000 in
set_option maxHeartbeats 4000000 in
theorem encode_ok (w : World) (a : Option Addr) (n c : Nat) (vs : List Vd) (h : VIn w a n c vs) (hc : chk vs = 0) :
    Calls Try.prog 61 #[.slice a n c] w fun e w' => ∃ va vn vc, e = .returned (.tuple #[.slice va vn vc, .int .i64 0]) ∧ WirM.Own w' 5 (.slice va vn vc) (enc vs) ∧ NewB w (.slice va vn vc) ∧ Below w.heap.size w w' := by
  obtain ⟨v0, v64, hup, hpw⟩ := (chk_up vs).1 hc
  have hlen := h.len
  have HC := WirS.hide (check_any w a n c vs h)
  rw [hc] at HC
  have hn64 : n ≤ 64 := by omega
  have H := WirS.hide h
  have HL := WirS.hide hlen
  have HP := WirS.hide hpw
  have HIL := WirS.hide (fun k => Nat.le_trans (items_len (vs.take k) (fun x hx => h.ok x (List.mem_of_mem_take hx))) (Nat.mul_le_mul_left 13 (List.length_take_le' k vs)))
  have HNL := WirS.hide (numB_le (n : Int) (by omega))
  clear h hc v0 v64 hup hpw hlen
  go_enter Try.func61, Try.ntmps61
  go_upto_region 4 with ((go_at_call 58; refine (HC.out).mono ?_; rintro e w1 ⟨rfl, hb⟩; have HB1 := WirS.hide (Bag.nil hb); clear hb))
  go_upto_region 7 with ((go_at_call 17; refine (WirF.new_any _ 1048576 (by omega) (by omega)).mono ?_; rintro e w2 ⟨W, rfl, hW, hs, hb2⟩; have H2 := WirS.hide (bag_wtr HB1.out hW hs (newB_nil _ _ _) hb2); clear hW hs hb2 HB1))
  have HN := WirS.hide (w_num (n : Int) H2.out (by omega) (by omega) (by have := HNL.out; simp; omega))
  rw [List.nil_append] at HN
  go_upto_region 8 with ((go_at_call 42; refine (HN.out).mono ?_; rintro e w3 ⟨rfl, v3, hb⟩; have H3 := WirS.hide hb; clear hb HN H2))
  go_wp2_with fail
  go_loopw [27] (fun i wr => MidE w W n vs i wr) (fun i _ => n - (intOf i).toNat)
  case atStart => exact ⟨0, v3, Nat.zero_le _, rfl, by rw [List.take_zero]; simpa [items] using H3.out⟩
  case round =>
    clear H3
    obtain ⟨k, v, hk, rfl, hB⟩ := hrel
    by_cases hlt : k < n
    · obtain ⟨x, B, o, hx, hmem, rfl, hBl, hr⟩ := (H.out.below hB.low).cell hlt
      have r0 : wr.cell? ⟨B, o + k * 5, none⟩ = some (.int .u8 x.a) := hr 0 _ rfl
      have r1 : wr.cell? ⟨B, o + k * 5 + 1, none⟩ = some (.int .u8 x.b) := hr 1 _ rfl
      have r2 : wr.cell? ⟨B, o + k * 5 + 2, none⟩ = some (.int .u8 x.c) := hr 2 _ rfl
      have r3 : wr.cell? ⟨B, o + k * 5 + 3, none⟩ = some (.int .u8 x.d) := hr 3 _ rfl
      have r4 : wr.cell? ⟨B, o + k * 5 + 4, none⟩ = some (.int .i64 x.p) := hr 4 _ rfl
      have hkl : (k : Int) < (n : Int) := by omega
      obtain ⟨X, hXe⟩ : ∃ X, X = wr.heap.size := ⟨_, rfl⟩
      have hbx := (bag_box (T := 100) (cs := x.cells) hB hXe (w' := wr.alloc (.cells #[.int .u8 x.a, .int .u8 x.b, .int .u8 x.c, .int .u8 x.d, .int .i64 x.p] 100)) (by rw [hXe]; exact At.new wr _ _) (Below.alloc (Below.refl _ _) (Nat.le_refl _) _)).swap
      have hps := HP.out x hmem
      have hil := HIL.out k
      have hnl := HNL.out
      have hxl := numB_le x.p (by omega)
      have hvl := HL.out
      have hil2 : (items (vs.take k)).length ≤ 832 := Nat.le_trans hil (by omega)
      have HK := WirS.hide (w_key x hbx (by rw [List.length_append]; omega))
      have HNX := WirS.hide (fun (U : World) (v' : Value) (hb : Bag w U [wtr W 1048576 v' ((numB (n : Int) ++ items (vs.take k)) ++ x.key) 0, box 100 X x.cells]) => w_num x.p hb (by omega) (by omega) (by simp only [List.length_append, Vd.key, List.length_cons, List.length_nil]; omega))
      have HXX := WirS.hide hx
      clear hr hx hmem hB hbx hps hil hnl hxl hvl hil2
      go_wp2_with (first | (go_at_call 85; refine (HK.out).mono ?_; rintro e u1 ⟨rfl, v1, hb1⟩; have HB1 := WirS.hide hb1; have d4 : u1.cell? ⟨X, 4, none⟩ = some (.int .i64 x.p) := hb1.swap.head.cell 4; rw [hXe] at d4; clear hb1) | (go_at_call 42; refine (HNX.out _ _ HB1.out).mono ?_; rintro e u2 ⟨rfl, v2, hb2⟩; have HB2 := WirS.hide hb2; clear hb2))
      go_roundw
      case rel => exact ⟨k + 1, v2, by omega, by go_num, by rw [items_succ HXX.out, ← List.append_assoc, ← List.append_assoc]; exact HB2.out.swap.drop⟩
      case measure => simp [intOf]; omega
    · obtain rfl : k = n := by omega
      have hD := WirF.done_ok wr W 1048576 v _ hB.head
      rw [List.take_of_length_le (by rw [HL.out]; exact Nat.le_refl _)] at hD
      rw [show numB (k : Int) ++ items vs = enc vs by unfold enc; rw [HL.out]] at hD
      have HD := WirS.hide hD
      have HBl := WirS.hide hB.low
      clear hB hD
      go_wp2_with ((go_at_call 24; refine (HD.out).mono ?_; rintro e u2 ⟨da, dn, dc, rfl, ho, hnw, hb⟩; have HO := WirS.hide ho; have HNW := WirS.hide hnw; have HB2 := WirS.hide hb; clear ho hnw hb))
      go_ret2
      exact ⟨_, _, _, rfl, HO.out, fun q hq => Nat.le_trans HBl.out.size (HNW.out q hq), HBl.out.trans (HB2.out.mono HBl.out.size)⟩
end ValJ
end Go.Proofs.Ytackcnncjeajpaa

namespace Go.Proofs.Ytackcnncjeajpaa
namespace ValK
open Go.RowKit
open BlkM WirM WirS ValA ValB ValC ValD ValP ValJ
open WirG (RSt)
open WirH (bin_sub)
open WirJ (numO outOf)
open WirK (numO_ok)
open WirI (ReadPost)
open WirO (rowO)
open WirP (aggB)
open WirT (fault endE endA)
open WirX (Thg Bag rdr bag_rdr)
open WirAA (num_code row_code)
open WirRT (rng)

/-- A fault, or where the reader stands. -/
abbrev St := Sum (Int × Int) Nat
/-- A reader in such a state. -/
def rdS (R : Nat) (a : Option Addr) (c : Nat) (bs : List Int) (s : St) : Thg where
  ok w := match s with
    | .inl f => f.1 ≠ 0 ∧ ∃ p, RSt w R a c bs p f.1 f.2
    | .inr p => RSt w R a c bs p 0 0
  foot k := k = R ∨ (Value.slice a bs.length c).ownBlock = some k
  stable {X w w'} h hf hX := by
    cases s with
    | inl f => exact ⟨h.1, h.2.imp fun p hp => hp.fr hf (hX R (.inl rfl)) (fun k hk => hX k (.inr hk))⟩
    | inr p => exact RSt.fr h hf (hX R (.inl rfl)) (fun k hk => hX k (.inr hk))
  inside {w} h k hk := by
    cases s with
    | inl f =>
      obtain ⟨p, hp⟩ := h.2
      rcases hk with rfl | hk
      · exact hp.lt
      · exact hp.olt k hk
    | inr p =>
      have hp : RSt w R a c bs p 0 0 := h
      rcases hk with rfl | hk
      · exact hp.lt
      · exact hp.olt k hk
theorem bag_rdS {w0 w w' : World} {l : List Thg} {R : Nat} {a : Option Addr} {c : Nat} {bs : List Int} (h : Bag w0 w l) (hR : w.heap.size ≤ R) (hs : RSt w' R a c bs 0 0 0) (hn : WirE.NewB w (.slice a bs.length c)) (hb : Below w.heap.size w w') : Bag w0 w' (rdS R a c bs (.inr 0) :: l) :=
  h.new hb hs (fun k hk => by
    rcases hk with rfl | hk
    · exact hR
    · exact hn k hk)
/-- A number is read; a key is. -/
def rN (bs : List Int) : St → Int × St
  | .inl f => (0, .inl f)
  | .inr p => match numO bs p with
    | .inl c => (0, .inl (c, (p : Int)))
    | .inr x => (x.1, .inr x.2)
def rK (bs : List Int) : St → List Int × St
  | .inl f => ([0, 0, 0, 0], .inl f)
  | .inr p => match rowO 4 bs p with
    | .inl c => ([0, 0, 0, 0], .inl (c, (p : Int)))
    | .inr x => (x.1, .inr x.2)
def mkV (k : List Int) (p : Int) : Vd := ⟨k.getD 0 0, k.getD 1 0, k.getD 2 0, k.getD 3 0, p⟩
theorem rK_len (bs : List Int) (s : St) : (rK bs s).1.length = 4 := by
  unfold rK
  cases s with
  | inl f => rfl
  | inr p =>
    cases h : rowO 4 bs p with
    | inl c => simp only [h]; rfl
    | inr x =>
      simp only [h]
      unfold rowO at h
      split at h
      · cases h
      · cases h
        simp only [List.length_take, List.length_drop]
        omega
theorem rK_rng {bs : List Int} (hr : rng bs) (s : St) : rng (rK bs s).1 := by
  unfold rK
  cases s with
  | inl f => intro x hx; simp at hx; omega
  | inr p =>
    cases h : rowO 4 bs p with
    | inl c => simp only [h]; intro x hx; simp at hx; omega
    | inr x =>
      simp only [h]
      unfold rowO at h
      split at h
      · cases h
      · cases h
        exact WirRT.rng_part hr p 4
theorem rN_ok {bs : List Int} (hr : rng bs) (s : St) : 0 ≤ (rN bs s).1 ∧ (rN bs s).1 ≤ 9223372036854775807 := by
  unfold rN
  cases s with
  | inl f => simp
  | inr p =>
    cases h : numO bs p with
    | inl c => simp [h]
    | inr x =>
      simp only [h]
      have := numO_ok hr h
      omega
theorem mkV_key (k : List Int) (p : Int) (h : k.length = 4) : (mkV k p).key = k := by
  obtain _ | ⟨a, _ | ⟨b, _ | ⟨c, _ | ⟨d, _ | ⟨e, l⟩⟩⟩⟩⟩ := k <;> simp at h
  rfl
theorem mkV_ok {bs : List Int} (hr : rng bs) (s t : St) : (mkV (rK bs s).1 (rN bs t).1).ok := by
  have h1 := rK_rng hr s
  have h2 := rN_ok hr t
  have h3 := rK_len bs s
  have hg : ∀ i, i < 4 → 0 ≤ (rK bs s).1.getD i 0 ∧ (rK bs s).1.getD i 0 < 256 := fun i hi => by
    rw [List.getD_eq_getElem?_getD, List.getElem?_eq_getElem (by omega)]
    exact h1 _ (List.getElem_mem _)
  exact ⟨hg 0 (by decide), hg 1 (by decide), hg 2 (by decide), hg 3 (by decide), ⟨by have := h2.1; show -9223372036854775808 ≤ (rN bs t).1; omega, by have := h2.2; show (rN bs t).1 < 9223372036854775808; omega⟩⟩
/-- What the reader tells in the end. -/
def endS (bs : List Int) : St → Int × Int
  | .inl f => f
  | .inr p => if p < bs.length then (4, (p : Int)) else (0, 0)
/-- So many validators are read. -/
def itS (bs : List Int) (s : St) : Nat → List Vd × St
  | 0 => ([], s)
  | k + 1 => ((itS bs s k).1 ++ [mkV (rK bs (itS bs s k).2).1 (rN bs (rK bs (itS bs s k).2).2).1], (rN bs (rK bs (itS bs s k).2).2).2)
theorem itS_len (bs : List Int) (s : St) : ∀ k, (itS bs s k).1.length = k
  | 0 => rfl
  | k + 1 => by simp [itS, itS_len bs s k]
theorem itS_ok {bs : List Int} (hr : rng bs) (s : St) : ∀ k, ∀ x ∈ (itS bs s k).1, x.ok
  | 0 => fun x hx => by cases hx
  | k + 1 => fun x hx => by
    rcases List.mem_append.1 hx with hx | hx
    · exact itS_ok hr s k x hx
    · rw [List.mem_singleton.1 hx]
      exact mkV_ok hr _ _
/-- The fault, and the set. -/
def dec (bs : List Int) : (Int × Int) × List Vd :=
  if 64 < (rN bs (.inr 0)).1 then ((4, 0), []) else
  if (endS bs (itS bs (rN bs (.inr 0)).2 (rN bs (.inr 0)).1.toNat).2).1 ≠ 0 then (endS bs (itS bs (rN bs (.inr 0)).2 (rN bs (.inr 0)).1.toNat).2, []) else
  if chk (itS bs (rN bs (.inr 0)).2 (rN bs (.inr 0)).1.toNat).1 ≠ 0 then ((chk (itS bs (rN bs (.inr 0)).2 (rN bs (.inr 0)).1.toNat).1, 0), []) else
  ((0, 0), (itS bs (rN bs (.inr 0)).2 (rN bs (.inr 0)).1.toNat).1)

/-! ### The calls -/
theorem s_num {w0 w : World} {l : List Thg} {R : Nat} {a : Option Addr} {c : Nat} {bs : List Int} {s : St} (h : Bag w0 w (rdS R a c bs s :: l)) :
    Calls Try.prog 34 #[.pointer (some ⟨R, 0, none⟩)] w fun e w' => e = .returned (.int .i64 (rN bs s).1) ∧ Bag w0 w' (rdS R a c bs (rN bs s).2 :: l) := by
  cases s with
  | inl f =>
    obtain ⟨hne, p, hp⟩ := h.head
    exact (WirL.num_fault w R a c bs p f.1 f.2 hp hne).mono fun e w' ⟨h1, h2⟩ => ⟨h1, h.more h2⟩
  | inr p =>
    have hp : RSt w R a c bs p 0 0 := h.head
    refine (WirL.num_read w R a c bs p hp).mono fun e w' hq => ?_
    unfold rN
    cases ho : numO bs p with
    | inl c =>
      rw [ho] at hq
      obtain ⟨h1, h2, h3⟩ := hq
      simp only [ho]
      exact ⟨h1, h.act (h3.mono fun _ _ hx => .inl hx) ⟨num_code ho, h2⟩ (fun _ hk => .inl hk)⟩
    | inr x =>
      rw [ho] at hq
      obtain ⟨v, h1, h2, h3, h4⟩ := hq
      simp only [ho]
      exact ⟨by rw [h1, h2], h.act (h4.mono fun _ _ hx => .inl hx) h3 (fun _ hk => .inl hk)⟩
theorem agg4 (k : List Int) (h : k.length = 4) : aggB k = .agg #[.int .u8 (k.getD 0 0), .int .u8 (k.getD 1 0), .int .u8 (k.getD 2 0), .int .u8 (k.getD 3 0)] := by
  obtain _ | ⟨a, _ | ⟨b, _ | ⟨c, _ | ⟨d, _ | ⟨e, l⟩⟩⟩⟩⟩ := k <;> simp at h
  rfl
theorem s_key {w0 w : World} {l : List Thg} {R : Nat} {a : Option Addr} {c : Nat} {bs : List Int} {s : St} (h : Bag w0 w (rdS R a c bs s :: l)) :
    Calls Try.prog 38 #[.pointer (some ⟨R, 0, none⟩)] w fun e w' => e = .returned (.agg #[.int .u8 ((rK bs s).1.getD 0 0), .int .u8 ((rK bs s).1.getD 1 0), .int .u8 ((rK bs s).1.getD 2 0), .int .u8 ((rK bs s).1.getD 3 0)]) ∧ Bag w0 w' (rdS R a c bs (rK bs s).2 :: l) := by
  rw [← agg4 _ (rK_len bs s)]
  cases s with
  | inl f =>
    obtain ⟨hne, p, hp⟩ := h.head
    exact (WirR.key_fault w R a c bs p f.1 f.2 hp hne).mono fun e w' ⟨h1, h2⟩ => ⟨h1, h.more h2⟩
  | inr p =>
    have hp : RSt w R a c bs p 0 0 := h.head
    refine (WirR.key_read w R a c bs p hp).mono fun e w' hq => ?_
    unfold rK
    cases ho : rowO 4 bs p with
    | inl c =>
      rw [ho] at hq
      obtain ⟨h1, h2, h3⟩ := hq
      simp only [ho]
      exact ⟨h1, h.act (h3.mono fun _ _ hx => .inl hx) ⟨row_code ho, h2⟩ (fun _ hk => .inl hk)⟩
    | inr x =>
      rw [ho] at hq
      obtain ⟨v, h1, h2, h3, h4⟩ := hq
      simp only [ho]
      exact ⟨by rw [h1, h2], h.act (h4.mono fun _ _ hx => .inl hx) h3 (fun _ hk => .inl hk)⟩
theorem s_end {w0 w : World} {l : List Thg} {R : Nat} {a : Option Addr} {c : Nat} {bs : List Int} {s : St} (h : Bag w0 w (rdS R a c bs s :: l)) :
    Calls Try.prog 32 #[.pointer (some ⟨R, 0, none⟩)] w fun e w' => e = .returned (.agg #[.int .i64 (endS bs s).1, .int .i64 (endS bs s).2]) ∧ Bag w0 w' (rdS R a c bs s :: l) := by
  cases s with
  | inl f =>
    obtain ⟨hne, p, hp⟩ := h.head
    refine (WirT.end_any w R a c bs p f.1 f.2 hp).mono fun e w' ⟨h1, h2⟩ => ⟨?_, h.more h2⟩
    have h0 : ¬ 0 < WirL.restN bs p f.1 := by unfold WirL.restN; rw [if_neg hne]; omega
    rw [h1]
    unfold fault endE endA
    rw [if_neg h0, if_neg h0]
    rfl
  | inr p =>
    have hp : RSt w R a c bs p 0 0 := h.head
    refine (WirT.end_any w R a c bs p 0 0 hp).mono fun e w' ⟨h1, h2⟩ => ⟨?_, h.more h2⟩
    rw [h1]
    have hle := hp.le
    unfold fault endE endA WirL.restN endS
    by_cases hlt : p < bs.length
    · simp [hlt]
    · have : p = bs.length := by omega
      simp [this]
end ValK
end Go.Proofs.Ytackcnncjeajpaa

namespace Go.Proofs.Ytackcnncjeajpaa
namespace ValL
open Go.RowKit
open BlkM WirM WirS ValA ValB ValC ValD ValP ValJ ValK
open WirX (Thg Bag)
open WirAA (box bag_box bag_sets)
open WirRT (rng)
open WirE (NewB)

def z0 : Vd := ⟨0, 0, 0, 0, 0⟩
theorem cells_made (n : Nat) : (madeCells z0.cells.toArray (n * 5)).toList = cellsL (List.replicate n z0) := by
  apply List.ext_getElem?
  intro j
  by_cases hj : j < n * 5
  · have h1 := cellsL_get (List.replicate n z0) (j / 5) z0 (by rw [List.getElem?_replicate, if_pos (by omega)]) (j % 5) _ (List.getElem?_eq_getElem (show j % 5 < z0.cells.length by rw [cells_len]; omega))
    rw [show j / 5 * 5 + j % 5 = j by omega] at h1
    rw [h1]
    have h5 : j % 5 < 5 := Nat.mod_lt _ (by decide)
    simp [madeCells, hj, Vd.cells]
    rw [List.getElem?_eq_getElem (by simpa using h5)]
    rfl
  · rw [List.getElem?_eq_none (by rw [Array.length_toList, size_madeCells]; omega), List.getElem?_eq_none (by rw [cellsL_len, List.length_replicate]; omega)]
theorem mkL (a : Operand → Value) (o : Oper) (x y : Operand) (n : Nat) (ho : o.op = Op.makeSlice 80 x y) (hx : a x = .int .i64 (n : Int)) (hy : a y = .int .i64 (n : Int)) (hn : n ≤ 1000000) (W : World) :
    (execOp a o).run Try.prog W = .ok (.value (.slice (some ⟨W.heap.size, 0, none⟩) n n)) (W.alloc (.cells (cellsL (List.replicate n z0)).toArray 100)) := by
  obtain ⟨i0, hi, hz0, hz1, hz2⟩ := info_parts (show (Try.prog.info? 100).map (fun i => (i.zero, i.size, i.bytes)) = some (some (.agg z0.cells.toArray), 5, 16) by kernel_rfl)
  have hr := run_make (P := Try.prog) W 80 100 i0 _ Try.underlying80 hi hz0 .i64 .i64 (n : Int) (n : Int) (by omega) (Int.le_refl _) (by rw [hz2]; omega) (by omega)
  simp only [Int.toNat_natCast, hz1] at hr
  have hm : madeCells (Value.agg z0.cells.toArray).cells (n * 5) = (cellsL (List.replicate n z0)).toArray := by
    apply Array.ext'
    exact cells_made n
  rw [hm] at hr
  unfold execOp
  rw [ho]
  simp only [hx, hy]
  simp [hr]
theorem ix5 (B o ln lc k : Nat) (hk : k < ln) (W : World) : (Instr.indexAt 80 (.slice (some ⟨B, o, none⟩) ln lc) (.int .i64 (k : Int))).run Try.prog W = .ok (.pointer (some ⟨B, o + k * 5, none⟩)) W := by
  simp [Instr.indexAt, run_underlying Try.underlying80, asIntOf, go_sem]
  intro h
  omega
theorem op5 (a : Operand → Value) (ob : Oper) (x y : Operand) (B o ln lc k : Nat) (ho : ob.op = Op.indexAddr 80 x y) (hx : a x = .slice (some ⟨B, o, none⟩) ln lc) (hy : a y = .int .i64 (k : Int)) (hk : k < ln) (W : World) :
    (execOp a ob).run Try.prog W = .ok (.value (.pointer (some ⟨B, o + k * 5, none⟩))) W := by
  unfold execOp
  rw [ho]
  simp only [hx, hy]
  simp [ix5 B o ln lc k hk W]
theorem there5 {w : World} {X : Nat} {T : TypeId} {cs : List Value} (h : At w X T cs) (o n : Nat) (hl : o + n ≤ cs.length) : w.there X o n := fun j hj =>
  ⟨by rw [h.cell, List.getElem?_eq_getElem (by omega)]; rfl, h.frozen _⟩
theorem cellsL_put (ls : List Vd) (x : Vd) (m : Nat) : (cellsL (ls ++ List.replicate (m + 1) z0)).take (ls.length * 5) ++ (x.cells ++ (cellsL (ls ++ List.replicate (m + 1) z0)).drop (ls.length * 5 + x.cells.length)) = cellsL ((ls ++ [x]) ++ List.replicate m z0) := by
  have e : cellsL (List.replicate (m + 1) z0) = z0.cells ++ cellsL (List.replicate m z0) := by rw [List.replicate_succ]; simp [cellsL]
  have e2 : cellsL [x] = x.cells := by simp [cellsL]
  rw [cellsL_app, cellsL_app, cellsL_app, e2, e, List.take_left' (cellsL_len ls)]
  rw [← List.drop_drop, List.drop_left' (cellsL_len ls), List.drop_left' (by rw [cells_len]; rfl), List.append_assoc]
/-- Cells of a block: a set of memory of its own. -/
theorem own_at {w : World} {X n : Nat} {vs : List Vd} (h : At w X 100 (cellsL vs)) (hn : vs.length = n) (h64 : n ≤ 1000000) (hok : ∀ x ∈ vs, x.ok) : OwnV w (.slice (some ⟨X, 0, none⟩) n n) vs :=
  ⟨⟨cellsL_len vs, .inr ⟨X, n, _, by rw [hn], Nat.zero_le _, h, by omega, by unfold maxLen; omega, by rw [List.size_toArray, cellsL_len, hn], List.take_of_length_le (by rw [cellsL_len]; exact Nat.le_refl _)⟩⟩, hok⟩
def MidD (w : World) (R : Nat) (a : Option Addr) (c : Nat) (bs : List Int) (s : St) (S X n : Nat) (i : Value) (U : World) : Prop :=
  ∃ k : Nat, k ≤ n ∧ i = .int .i64 (k : Int) ∧ Bag w U [rdS R a c bs (itS bs s k).2, box 100 X (cellsL ((itS bs s k).1 ++ List.replicate (n - k) z0)), box 55 S [.int .i64 0, .int .i64 0]]
def DecP (w : World) (bs : List Int) (e : Ending) (w' : World) : Prop :=
  ∃ va vn vc, e = .returned (.tuple #[.slice va vn vc, .agg #[.int .i64 (dec bs).1.1, .int .i64 (dec bs).1.2]]) ∧ OwnV w' (.slice va vn vc) (dec bs).2 ∧ NewB w (.slice va vn vc) ∧ Below w.heap.size w w'
set_option maxRecDepth 10000 in
set_option maxHeartbeats 4000000 in
theorem decode_any (w : World) (b : Option Addr) (n c : Nat) (bs : List Int) (hb : BIn w (.slice b n c) bs) (hr : rng bs) (hn : n ≤ 1099511627776) :
    Calls Try.prog 48 #[.slice b n c] w (DecP w bs) := by
  obtain ⟨S, eS⟩ : ∃ S, S = w.heap.size := ⟨_, rfl⟩
  obtain ⟨W0, e0⟩ : ∃ X, X = w.alloc (.cells #[.int .i64 0, .int .i64 0] 55) := ⟨_, rfl⟩
  have hbag : Bag w W0 [box 55 S [.int .i64 0, .int .i64 0]] := bag_box (Bag.nil (Below.refl _ _)) eS (by rw [e0, eS]; exact At.new w _ _) (by rw [e0]; exact Below.alloc (Below.refl _ _) (Nat.le_refl _) _)
  have HRD := WirS.hide (WirT.newReader_any W0 b n c bs (hb.below hbag.low) hr hn)
  have H0 := WirS.hide hbag
  have E0 := WirS.hide e0
  have HR := WirS.hide hr
  obtain ⟨s0, es0⟩ : ∃ s0, (rN bs (.inr 0)).2 = s0 := ⟨_, rfl⟩
  obtain ⟨N, eN⟩ : ∃ N, (rN bs (.inr 0)).1 = N := ⟨_, rfl⟩
  have hN := rN_ok hr (.inr 0)
  rw [eN] at hN
  have hdec : dec bs = if 64 < N then ((4, 0), []) else if (endS bs (itS bs s0 N.toNat).2).1 ≠ 0 then (endS bs (itS bs s0 N.toNat).2, []) else if chk (itS bs s0 N.toNat).1 ≠ 0 then ((chk (itS bs s0 N.toNat).1, 0), []) else ((0, 0), (itS bs s0 N.toNat).1) := by
    unfold dec
    rw [es0, eN]
  have HD := WirS.hide hdec
  have HES := WirS.hide es0
  have HEN := WirS.hide eN
  have HSN := WirS.hide eS
  obtain ⟨hN0, hN1⟩ := hN
  clear hb hbag e0 hr hdec es0 eN
  go_enter Try.func48, Try.ntmps48
  go_upto_region 1 with fail
  rw [← E0.out]
  rw [← eS]
  clear eS
  go_upto_region 2 with ((go_at_call 27; refine (HRD.out).mono ?_; rintro e w2 ⟨R, a, c2, rfl, hR, hs, hnw, hb2⟩; have H2 := WirS.hide (bag_rdS H0.out hR hs hnw hb2); clear hR hs hnw hb2 H0 HRD))
  have HNum := WirS.hide (s_num H2.out)
  rw [HES.out, HEN.out] at HNum
  go_upto_region 3 with ((go_at_call 34; refine (HNum.out).mono ?_; rintro e w3 ⟨rfl, hb⟩; have H3 := WirS.hide hb; clear hb HNum H2))
  by_cases h64 : 64 < N
  · have HD2 := WirS.hide (show dec bs = ((4, 0), []) by rw [HD.out, if_pos h64])
    have hS := H3.out.swap.head
    have hlt := At.lt hS
    have c0 : w3.cell? ⟨S, 0, none⟩ = some (.int .i64 0) := At.cell hS 0
    have c1 : w3.cell? ⟨S, 1, none⟩ = some (.int .i64 0) := At.cell hS 1
    have f0 := At.frozen hS 0
    have f1 := At.frozen hS 1
    have HB := WirS.hide H3.out.low
    clear hS
    go_wp2_with fail
    refine bodyPost_ret (v := .tuple #[.slice none 0 0, .agg #[.int .i64 4, .int .i64 0]]) (by simp [results, Try.results48, go_sem, c0, c1]) rfl ⟨none, 0, 0, by rw [HD2.out], by rw [HD2.out]; exact OwnV.nil _, fun q hq => by simp [Value.ownBlock] at hq, ?_⟩
    exact (HB.out.setCell (by rw [← HSN.out]; exact Nat.le_refl _) _).setCell (by rw [← HSN.out]; exact Nat.le_refl _) _
  obtain ⟨m, rfl⟩ : ∃ m : Nat, N = (m : Int) := ⟨N.toNat, by omega⟩
  have HD2 := WirS.hide (show dec bs = if (endS bs (itS bs s0 m).2).1 ≠ 0 then (endS bs (itS bs s0 m).2, []) else if chk (itS bs s0 m).1 ≠ 0 then ((chk (itS bs s0 m).1, 0), []) else ((0, 0), (itS bs s0 m).1) by rw [HD.out, if_neg h64, Int.toNat_natCast])
  clear HD
  have hm64 : m ≤ 64 := by omega
  go_upto_region 5 with fail
  refine wp_region_lit ?_
  refine sV (.int .i64 (m : Int)) (w3) (by kernel_rfl) (by kernel_rfl) ?_
  simp only [Act.put, List.setIfInBounds_toArray, List.set_cons_succ, List.set_cons_zero]
  refine sV (.slice (some ⟨w3.heap.size, 0, none⟩) m m) (w3.alloc (.cells (cellsL (List.replicate m z0)).toArray 100)) (by kernel_rfl) (mkL _ _ _ _ m (by rfl) (by kernel_rfl) (by kernel_rfl) (by omega) w3) ?_
  simp only [Act.put, List.setIfInBounds_toArray, List.set_cons_succ, List.set_cons_zero]
  obtain ⟨X, eX⟩ : ∃ X, X = w3.heap.size := ⟨_, rfl⟩
  have H4 := WirS.hide (bag_box (T := 100) (cs := cellsL (List.replicate m z0)) H3.out eX (w' := w3.alloc (.cells (cellsL (List.replicate m z0)).toArray 100)) (by rw [eX]; exact At.new w3 _ _) (Below.alloc (Below.refl _ _) (Nat.le_refl _) _)).swap
  rw [← eX]
  clear eX H3
  generalize World.alloc w3 _ = w4 at *
  go_wp2_with fail
  go_loopw [21] (fun i wr => MidD w R a c2 bs s0 S X m i wr) (fun i _ => m - (intOf i).toNat)
  case atStart => exact ⟨0, Nat.zero_le _, rfl, H4.out⟩
  case round =>
    clear H4
    obtain ⟨k, hk, rfl, hB⟩ := hrel
    by_cases hlt : k < m
    · have hkl : (k : Int) < (m : Int) := by omega
      obtain ⟨q, hq⟩ : ∃ q, m - k = q + 1 := ⟨m - k - 1, by omega⟩
      rw [hq] at hB
      obtain ⟨kl, ekl⟩ : ∃ y, (rK bs (itS bs s0 k).2).1 = y := ⟨_, rfl⟩
      obtain ⟨s1, es1⟩ : ∃ y, (rK bs (itS bs s0 k).2).2 = y := ⟨_, rfl⟩
      obtain ⟨pn, epn⟩ : ∃ y, (rN bs s1).1 = y := ⟨_, rfl⟩
      obtain ⟨s2, es2⟩ : ∃ y, (rN bs s1).2 = y := ⟨_, rfl⟩
      have HIT := WirS.hide (show itS bs s0 (k + 1) = ((itS bs s0 k).1 ++ [mkV kl pn], s2) by rw [itS, ekl, es1, epn, es2])
      have hkey := s_key hB
      rw [ekl, es1] at hkey
      have HK := WirS.hide hkey
      have HN := WirS.hide (fun (U : World) (l : List Thg) (h : Bag w U (rdS R a c2 bs s1 :: l)) => show Calls Try.prog 34 #[.pointer (some ⟨R, 0, none⟩)] U (fun e w' => e = .returned (.int .i64 pn) ∧ Bag w w' (rdS R a c2 bs s2 :: l)) from by
        have := s_num h
        rw [epn, es2] at this
        exact this)
      have HLN := WirS.hide (itS_len bs s0 k)
      have HQ := WirS.hide hq
      clear hB hkey hq ekl es1 epn es2
      go_upto_region 9 with fail
      refine wp_region_lit ?_
      refine sV (.slice (some ⟨X, 0, none⟩) m m) (wr) (by kernel_rfl) (by kernel_rfl) ?_
      simp only [Act.put, List.setIfInBounds_toArray, List.set_cons_succ, List.set_cons_zero]
      refine sV (.int .i64 (k : Int)) (wr) (by kernel_rfl) (by kernel_rfl) ?_
      simp only [Act.put, List.setIfInBounds_toArray, List.set_cons_succ, List.set_cons_zero]
      refine sV (.pointer (some ⟨R, 0, none⟩)) (wr) (by kernel_rfl) (by kernel_rfl) ?_
      simp only [Act.put, List.setIfInBounds_toArray, List.set_cons_succ, List.set_cons_zero]
      refine sC (by kernel_rfl) (by kernel_rfl) HK.out ?_
      rintro u1 hb1
      simp only [Act.put, List.setIfInBounds_toArray, List.set_cons_succ, List.set_cons_zero]
      have HB1 := WirS.hide hb1
      clear hb1
      refine sV (.pointer (some ⟨R, 0, none⟩)) (u1) (by kernel_rfl) (by kernel_rfl) ?_
      simp only [Act.put, List.setIfInBounds_toArray, List.set_cons_succ, List.set_cons_zero]
      refine sC (by kernel_rfl) (by kernel_rfl) (HN.out _ _ HB1.out) ?_
      rintro u2 hb2
      simp only [Act.put, List.setIfInBounds_toArray, List.set_cons_succ, List.set_cons_zero]
      refine sV (.agg #[.int .u8 (kl.getD 0 0), .int .u8 (kl.getD 1 0), .int .u8 (kl.getD 2 0), .int .u8 (kl.getD 3 0), .int .i64 pn]) (u2) (by kernel_rfl) (by kernel_rfl) ?_
      simp only [Act.put, List.setIfInBounds_toArray, List.set_cons_succ, List.set_cons_zero]
      refine sV (.pointer (some ⟨X, 0 + k * 5, none⟩)) u2 (by kernel_rfl) (op5 _ _ _ _ X 0 m m k rfl (by kernel_rfl) (by kernel_rfl) hlt u2) ?_
      simp only [Act.put, List.setIfInBounds_toArray, List.set_cons_succ, List.set_cons_zero]
      rw [Nat.zero_add]
      have hlen : (cellsL ((itS bs s0 k).1 ++ List.replicate (q + 1) z0)).length = (k + (q + 1)) * 5 := by rw [cellsL_len, List.length_append, List.length_replicate, HLN.out]
      refine wpList_store_mid (by rfl) _ _ _ (by rfl) X (k * 5) #[.int .u8 (kl.getD 0 0), .int .u8 (kl.getD 1 0), .int .u8 (kl.getD 2 0), .int .u8 (kl.getD 3 0), .int .i64 pn] (by kernel_rfl) (by kernel_rfl) (there5 hb2.swap.head (k * 5) 5 (by rw [hlen]; omega)) (by kernel_rfl) (by kernel_rfl) ?_
      have HB3 := WirS.hide (bag_sets hb2.swap (k * 5) (mkV kl pn).cells (by rw [hlen, cells_len]; omega))
      have hput := cellsL_put (itS bs s0 k).1 (mkV kl pn) q
      rw [HLN.out] at hput
      rw [hput] at HB3
      obtain ⟨u3, eu3⟩ : ∃ Y, Y = u2.setCells X (k * 5) (mkV kl pn).cells := ⟨_, rfl⟩
      rw [← eu3] at HB3
      change wpList _ _ _ _ _ (u2.setCells X (k * 5) (mkV kl pn).cells)
      rw [← eu3]
      clear hb2 hlen hput eu3 HB1 HK HN
      go_wp2_with fail
      go_roundw
      case rel =>
        refine ⟨k + 1, by omega, by go_num, ?_⟩
        have := HQ.out
        rw [HIT.out, show m - (k + 1) = q by omega]
        exact HB3.out.swap
      case measure => simp [intOf]; omega
    · obtain rfl : k = m := by omega
      rw [Nat.sub_self, List.replicate_zero, List.append_nil] at hB
      obtain ⟨ls, els⟩ : ∃ y, (itS bs s0 k).1 = y := ⟨_, rfl⟩
      obtain ⟨s1, es1⟩ : ∃ y, (itS bs s0 k).2 = y := ⟨_, rfl⟩
      have hll : ls.length = k := by rw [← els]; exact itS_len bs s0 k
      have hok : ∀ x ∈ ls, x.ok := by rw [← els]; exact itS_ok HR.out s0 k
      rw [els, es1] at hB HD2
      obtain ⟨fe, efe⟩ : ∃ y, (endS bs s1).1 = y := ⟨_, rfl⟩
      obtain ⟨fa, efa⟩ : ∃ y, (endS bs s1).2 = y := ⟨_, rfl⟩
      have hend := s_end hB
      rw [efe, efa] at hend
      rw [efe, show endS bs s1 = (fe, fa) by rw [← efe, ← efa]] at HD2
      have HE := WirS.hide hend
      have HLL := WirS.hide hll
      have HOK := WirS.hide hok
      clear hB hend hll hok els es1 efe efa
      go_upto_region 12 with ((go_at_call 32; refine (HE.out).mono ?_; rintro e u1 ⟨rfl, hb⟩; have HB1 := WirS.hide hb; clear hb HE))
      obtain ⟨F, eF⟩ : ∃ F, F = u1.heap.size := ⟨_, rfl⟩
      obtain ⟨w5, e5⟩ : ∃ Y, Y = u1.alloc (.cells #[.int .i64 fe, .int .i64 fa] 55) := ⟨_, rfl⟩
      have hb5 := bag_box (T := 55) (cs := [.int .i64 fe, .int .i64 fa]) HB1.out eF (w' := w5) (by rw [e5, eF]; exact At.new u1 _ _) (by rw [e5]; exact Below.alloc (Below.refl _ _) (Nat.le_refl _) _)
      rw [← e5, ← eF]
      have hFS : S ≠ F := by have := At.lt HB1.out.drop.swap.head; omega
      clear eF e5 HB1
      have hSA := hb5.drop.drop.drop.head
      have hFA := hb5.head
      have c0 : w5.cell? ⟨S, 0, none⟩ = some (.int .i64 0) := At.cell hSA 0
      have c1 : w5.cell? ⟨S, 1, none⟩ = some (.int .i64 0) := At.cell hSA 1
      have f0 : w5.frozen? ⟨S, 0, none⟩ = false := At.frozen hSA 0
      have f1 : w5.frozen? ⟨S, 1, none⟩ = false := At.frozen hSA 1
      have d0 : w5.cell? ⟨F, 0, none⟩ = some (.int .i64 fe) := At.cell hFA 0
      have d1 : w5.cell? ⟨F, 1, none⟩ = some (.int .i64 fa) := At.cell hFA 1
      have HB5 := WirS.hide hb5
      clear hb5 hSA hFA
      by_cases hfe : fe = 0
      · subst hfe
        have hown := own_at (At.below (B := w5.heap.size) HB5.out.drop.drop.head (Below.refl _ _) (At.lt HB5.out.drop.drop.head)) HLL.out (by omega) HOK.out
        have HCk := WirS.hide (check_any w5 _ k k ls hown.vin)
        have HOwn := WirS.hide hown
        rw [if_neg (by simp)] at HD2
        clear hown
        by_cases hck : chk ls = 0
        · rw [if_neg (by rw [hck]; simp)] at HD2
          rw [hck] at HCk
          go_upto_region 17 with ((go_at_call 58; refine (HCk.out).mono ?_; rintro e u6 ⟨rfl, hb⟩; have HB6 := WirS.hide hb; clear hb))
          have hSA := HB5.out.drop.drop.drop.head
          have hS6 := At.below hSA HB6.out (At.lt hSA)
          have g0 : u6.cell? ⟨S, 0, none⟩ = some (.int .i64 0) := At.cell hS6 0
          have g1 : u6.cell? ⟨S, 1, none⟩ = some (.int .i64 0) := At.cell hS6 1
          have k0 : u6.frozen? ⟨S, 0, none⟩ = false := At.frozen hS6 0
          have k1 : u6.frozen? ⟨S, 1, none⟩ = false := At.frozen hS6 1
          have hSX : S ≠ X := by
            have := List.pairwise_cons.1 (HB5.out.drop.drop.apart)
            exact fun e => this.1 (box 55 S [.int .i64 0, .int .i64 0]) (by simp) X rfl (by exact e.symm)
          have HXw := WirS.hide ((HB5.out.all (box 100 X (cellsL ls)) (by simp)).2 X rfl)
          clear hSA hS6 c0 c1 f0 f1 d0 d1
          go_wp2_with fail
          refine bodyPost_ret (v := .tuple #[.slice (some ⟨X, 0, none⟩) k k, .agg #[.int .i64 0, .int .i64 0]]) (by simp [results, Try.results48, go_sem, g0, g1]) rfl ⟨_, _, _, by rw [HD2.out], ?_, ?_, ?_⟩
          · rw [HD2.out]
            exact (HOwn.out.below HB6.out).fr (X := fun q => q = S) (((Fr.refl (fun q => q = S) u6).setCell S 0 _ (fun _ => rfl)).setCell S 1 _ (fun _ => rfl)) (fun q hq hx => by simp [Value.ownBlock] at hq; omega)
          · intro q hq
            simp [Value.ownBlock] at hq
            have := HXw.out
            omega
          · exact ((HB5.out.low.trans (HB6.out.mono HB5.out.low.size)).setCell (by rw [← HSN.out]; exact Nat.le_refl _) _).setCell (by rw [← HSN.out]; exact Nat.le_refl _) _
        · obtain ⟨cd, hcd⟩ : ∃ cd, chk ls = cd := ⟨_, rfl⟩
          rw [if_pos (by simpa using hck), hcd] at HD2
          rw [hcd] at HCk hck
          have hn0 : (cd == 0) = false := by simpa using hck
          have hn1 : (cd != 0) = true := by simpa using hck
          clear hcd hck
          go_upto_region 16 with ((go_at_call 58; refine (HCk.out).mono ?_; rintro e u6 ⟨rfl, hb⟩; have HB6 := WirS.hide hb; clear hb))
          have hSA := HB5.out.drop.drop.drop.head
          have hS6 := At.below hSA HB6.out (At.lt hSA)
          have g0 : u6.cell? ⟨S, 0, none⟩ = some (.int .i64 0) := At.cell hS6 0
          have g1 : u6.cell? ⟨S, 1, none⟩ = some (.int .i64 0) := At.cell hS6 1
          have k0 : u6.frozen? ⟨S, 0, none⟩ = false := At.frozen hS6 0
          have k1 : u6.frozen? ⟨S, 1, none⟩ = false := At.frozen hS6 1
          clear hSA hS6 c0 c1 f0 f1 d0 d1
          go_wp2_with fail
          refine bodyPost_ret (v := .tuple #[.slice none 0 0, .agg #[.int .i64 cd, .int .i64 0]]) (by simp [results, Try.results48, go_sem, g0, g1]) rfl ⟨_, _, _, by rw [HD2.out], by rw [HD2.out]; exact OwnV.nil _, fun q hq => by simp [Value.ownBlock] at hq, ?_⟩
          exact ((HB5.out.low.trans (HB6.out.mono HB5.out.low.size)).setCell (by rw [← HSN.out]; exact Nat.le_refl _) _).setCell (by rw [← HSN.out]; exact Nat.le_refl _) _
      · rw [if_pos (by simpa using hfe)] at HD2
        have hn0 : (fe == 0) = false := by simpa using hfe
        have hn1 : (fe != 0) = true := by simpa using hfe
        clear hfe
        go_upto_region 13 with fail
        go_region
        go_wp2_with fail
        refine bodyPost_ret (v := .tuple #[.slice none 0 0, .agg #[.int .i64 fe, .int .i64 fa]]) (by simp [results, Try.results48, go_sem, c0, c1]) rfl ⟨_, _, _, by rw [HD2.out], by rw [HD2.out]; exact OwnV.nil _, fun q hq => by simp [Value.ownBlock] at hq, ?_⟩
        exact ((HB5.out.low.setCell (by rw [← HSN.out]; exact Nat.le_refl _) _).setCell (by rw [← HSN.out]; exact Nat.le_refl _) _).drew
end ValL
end Go.Proofs.Ytackcnncjeajpaa

namespace Go.Proofs.Ytackcnncjeajpaa
namespace ValZ
open Go.RowKit
open BlkM WirM WirS ValA ValB ValC ValD ValP ValJ ValK
open WirD (numB)
open WirJ (numO)
open WirO (rowO)
open WirRT (rng Fits fits_trans num_fits row_fits)
open WirBC (num_oc row_oc)
open WirAA (num_code row_code)

/-- A state's place lies within the bytes. -/
def stOk (bs : List Int) : St → Prop
  | .inl f => f.1 ≠ 0 ∧ 0 ≤ f.2 ∧ f.2 ≤ (bs.length : Int)
  | .inr p => p ≤ bs.length
theorem rN_st {bs : List Int} (hr : rng bs) {s : St} (h : stOk bs s) : stOk bs (rN bs s).2 := by
  cases s with
  | inl f => exact h
  | inr p =>
    unfold rN
    cases ho : numO bs p with
    | inl c => simp only [ho]; exact ⟨num_code ho, by omega, by have : p ≤ bs.length := h; omega⟩
    | inr x =>
      simp only [ho]
      obtain ⟨n, q⟩ := x
      exact (num_fits hr ho).2.2.2.1
theorem rK_st {bs : List Int} {s : St} (h : stOk bs s) : stOk bs (rK bs s).2 := by
  cases s with
  | inl f => exact h
  | inr p =>
    unfold rK
    cases ho : rowO 4 bs p with
    | inl c => simp only [ho]; exact ⟨row_code ho, by omega, by have : p ≤ bs.length := h; omega⟩
    | inr x =>
      simp only [ho]
      obtain ⟨n, q⟩ := x
      exact (row_fits ho).2.2.1
theorem itS_st {bs : List Int} (hr : rng bs) {s : St} (h : stOk bs s) : ∀ k, stOk bs (itS bs s k).2
  | 0 => h
  | k + 1 => rN_st hr (rK_st (itS_st hr h k))
theorem endS_st {bs : List Int} {s : St} (h : stOk bs s) : 0 ≤ (endS bs s).2 ∧ (endS bs s).2 ≤ (bs.length : Int) := by
  cases s with
  | inl f => exact h.2
  | inr p =>
    unfold endS
    by_cases hp : p < bs.length
    · simp only [hp, if_true]
      omega
    · simp only [hp, if_false]
      omega
/-- A fault leaves no set, and stands within the bytes. -/
theorem dec_fault {bs : List Int} (hr : rng bs) (h : (dec bs).1 ≠ (0, 0)) : (dec bs).2 = [] ∧ 0 ≤ (dec bs).1.2 ∧ (dec bs).1.2 ≤ (bs.length : Int) := by
  have h0 : stOk bs (.inr 0) := Nat.zero_le _
  have h1 := endS_st (itS_st hr (rN_st hr h0) (rN bs (.inr 0)).1.toNat)
  unfold dec at h ⊢
  by_cases c1 : 64 < (rN bs (.inr 0)).1
  · rw [if_pos c1]
    exact ⟨rfl, by simp, by simp⟩
  · rw [if_neg c1] at h ⊢
    by_cases c2 : (endS bs (itS bs (rN bs (.inr 0)).2 (rN bs (.inr 0)).1.toNat).2).1 ≠ 0
    · rw [if_pos c2]
      exact ⟨rfl, h1⟩
    · rw [if_neg c2] at h ⊢
      by_cases c3 : chk (itS bs (rN bs (.inr 0)).2 (rN bs (.inr 0)).1.toNat).1 ≠ 0
      · rw [if_pos c3]
        exact ⟨rfl, by simp, by simp⟩
      · rw [if_neg c3] at h
        exact absurd rfl h
theorem itS_fits {bs : List Int} (hr : rng bs) (p0 : Nat) (h0 : p0 ≤ bs.length) : ∀ k p, (itS bs (.inr p0) k).2 = .inr p → Fits bs p0 p (items (itS bs (.inr p0) k).1)
  | 0, p, h => by
    cases h
    exact ⟨Nat.le_refl _, h0, by simp [items, itS]⟩
  | k + 1, p, h => by
    rw [itS] at h ⊢
    simp only at h ⊢
    cases hs : (itS bs (.inr p0) k).2 with
    | inl f =>
      rw [hs] at h
      simp [rK, rN] at h
    | inr q =>
      have ih := itS_fits hr p0 h0 k q hs
      rw [hs] at h
      cases hk : rowO 4 bs q with
      | inl c => simp [rK, rN, hk] at h
      | inr x =>
        obtain ⟨kl, q1⟩ := x
        obtain ⟨hl, f1⟩ := row_fits hk
        cases hn : numO bs q1 with
        | inl c => simp [rK, rN, hk, hn] at h
        | inr y =>
          obtain ⟨m, q2⟩ := y
          obtain ⟨_, _, f2⟩ := num_fits hr hn
          simp [rK, rN, hk, hn] at h
          subst h
          have e : (rK bs (.inr q)).1 = kl := by simp [rK, hk]
          have e2 : (rN bs (rK bs (.inr q)).2).1 = m := by simp [rK, rN, hk, hn]
          rw [e, e2, items_app]
          have e3 : items [mkV kl m] = kl ++ numB m := by
            simp only [items, List.flatMap_cons, List.flatMap_nil, List.append_nil, item, mkV_key kl m hl]
            rfl
          rw [e3]
          exact fits_trans ih (fits_trans f1 f2)
/-- What is decoded is encoded as the bytes were. -/
theorem enc_dec {bs : List Int} (hr : rng bs) (h : (dec bs).1 = (0, 0)) : chk (dec bs).2 = 0 ∧ enc (dec bs).2 = bs := by
  unfold dec at h ⊢
  by_cases c1 : 64 < (rN bs (.inr 0)).1
  · rw [if_pos c1] at h
    cases h
  · rw [if_neg c1] at h ⊢
    by_cases c2 : (endS bs (itS bs (rN bs (.inr 0)).2 (rN bs (.inr 0)).1.toNat).2).1 ≠ 0
    · rw [if_pos c2] at h
      simp only at h
      rw [h] at c2
      exact absurd rfl c2
    · rw [if_neg c2] at h ⊢
      by_cases c3 : chk (itS bs (rN bs (.inr 0)).2 (rN bs (.inr 0)).1.toNat).1 ≠ 0
      · rw [if_pos c3] at h
        simp only [Prod.mk.injEq, and_true] at h
        exact absurd h c3
      · rw [if_neg c3]
        refine ⟨by simpa using c3, ?_⟩
        have c2' : (endS bs (itS bs (rN bs (.inr 0)).2 (rN bs (.inr 0)).1.toNat).2).1 = 0 := by simpa using c2
        cases hn : numO bs 0 with
        | inl c =>
          have e1 : (rN bs (.inr 0)).2 = .inl (c, 0) := by simp [rN, hn]
          have hst := itS_st hr (s := .inl (c, 0)) (show stOk bs (.inl (c, 0)) from ⟨num_code hn, by omega, by omega⟩) (rN bs (.inr 0)).1.toNat
          have e0 : (rN bs (.inr 0)).1 = 0 := by simp [rN, hn]
          rw [e1, e0] at c2'
          simp only [Int.toNat_zero, itS, endS] at c2'
          exact absurd c2' (num_code hn)
        | inr x =>
          obtain ⟨m, p0⟩ := x
          obtain ⟨hm0, _, f0⟩ := num_fits hr hn
          have e1 : (rN bs (.inr 0)).2 = .inr p0 := by simp [rN, hn]
          have e0 : (rN bs (.inr 0)).1 = m := by simp [rN, hn]
          rw [e0, e1] at c2' ⊢
          have hst := itS_st hr (s := .inr p0) f0.2.1 m.toNat
          cases hs : (itS bs (.inr p0) m.toNat).2 with
          | inl f =>
            rw [hs] at c2' hst
            exact absurd c2' hst.1
          | inr p =>
            have hf := itS_fits hr p0 f0.2.1 m.toNat p hs
            rw [hs] at c2' hst
            have hp : p = bs.length := by
              unfold endS at c2'
              by_cases hp : p < bs.length
              · simp [hp] at c2'
              · have : p ≤ bs.length := hst
                omega
            have hff := fits_trans f0 hf
            subst hp
            have := hff.2.2
            rw [List.take_zero, List.nil_append, List.take_length] at this
            unfold enc
            rw [itS_len, show ((m.toNat : Nat) : Int) = m by omega]
            exact this
/-- Where each validator's bytes begin. -/
def pos (vs : List Vd) (k : Nat) : Nat := (numB (vs.length : Int)).length + (items (vs.take k)).length
theorem enc_take (vs : List Vd) (r : List Int) (k : Nat) : (enc vs ++ r).take (pos vs k) = numB (vs.length : Int) ++ items (vs.take k) := by
  have e : enc vs ++ r = (numB (vs.length : Int) ++ items (vs.take k)) ++ (items (vs.drop k) ++ r) := by
    unfold enc
    rw [show items vs = items (vs.take k) ++ items (vs.drop k) by rw [← items_app, List.take_append_drop]]
    simp only [List.append_assoc]
  rw [e, List.take_left' (by unfold pos; rw [List.length_append])]
theorem pos_le (vs : List Vd) (r : List Int) (k : Nat) : pos vs k ≤ (enc vs ++ r).length := by
  have := congrArg List.length (enc_take vs r k)
  rw [List.length_take] at this
  have e : (numB (vs.length : Int) ++ items (vs.take k)).length = pos vs k := by unfold pos; rw [List.length_append]
  omega
theorem fits_key {vs : List Vd} {r : List Int} {k : Nat} {x : Vd} (h : vs[k]? = some x) : Fits (enc vs ++ r) (pos vs k) (pos vs k + 4) x.key ∧ Fits (enc vs ++ r) (pos vs k + 4) (pos vs (k + 1)) (numB x.p) := by
  have h1 := enc_take vs r k
  have h2 := enc_take vs r (k + 1)
  have hl := pos_le vs r (k + 1)
  have e : pos vs (k + 1) = pos vs k + 4 + (numB x.p).length := by
    unfold pos
    rw [items_succ h]
    simp only [List.length_append, Vd.key, List.length_cons, List.length_nil]
    omega
  have h3 : (enc vs ++ r).take (pos vs k + 4) = (enc vs ++ r).take (pos vs k) ++ x.key := by
    have := congrArg (List.take (pos vs k + 4)) h2
    rw [List.take_take, Nat.min_eq_left (by omega), items_succ h, ← List.append_assoc, ← List.append_assoc, ← h1] at this
    rw [this]
    have hlen : ((enc vs ++ r).take (pos vs k) ++ x.key).length = pos vs k + 4 := by
      rw [List.length_append, List.length_take, Nat.min_eq_left (pos_le vs r k)]
      rfl
    rw [List.take_left' hlen]
  refine ⟨⟨by omega, by omega, h3.symm⟩, ⟨by omega, hl, ?_⟩⟩
  rw [h3, h2, h1, items_succ h]
  simp only [List.append_assoc]
theorem fits_num (vs : List Vd) (r : List Int) : Fits (enc vs ++ r) 0 (pos vs 0) (numB (vs.length : Int)) := by
  refine ⟨Nat.zero_le _, pos_le vs r 0, ?_⟩
  rw [enc_take vs r 0]
  simp [items]
/-- What comes of the first bytes of a set's, cut off somewhere. -/
theorem itS_cut {vs : List Vd} {r : List Int} {cut : Nat} (hv : ∀ x ∈ vs, 0 ≤ x.p ∧ x.p < 9223372036854775808) (hok : ∀ x ∈ vs, x.ok) (hc : cut ≤ (enc vs ++ r).length) (h0 : pos vs 0 ≤ cut) : ∀ k, k ≤ vs.length →
    (pos vs k ≤ cut → itS ((enc vs ++ r).take cut) (.inr (pos vs 0)) k = (vs.take k, .inr (pos vs k))) ∧ (cut < pos vs k → ∃ q, (itS ((enc vs ++ r).take cut) (.inr (pos vs 0)) k).2 = .inl (6, q))
  | 0, _ => ⟨fun _ => by simp [itS], fun h => absurd h0 (by omega)⟩
  | k + 1, hk => by
    obtain ⟨i1, i2⟩ := itS_cut hv hok hc h0 k (by omega)
    have hx : vs[k]? = some (vs[k]'(by omega)) := List.getElem?_eq_getElem _
    obtain ⟨x, ex⟩ : ∃ x, vs[k]'(by omega) = x := ⟨_, rfl⟩
    rw [ex] at hx
    have hm : x ∈ vs := List.mem_of_getElem? hx
    obtain ⟨f1, f2⟩ := fits_key (r := r) hx
    have o1 := row_oc (n := 4) (show x.key.length = 4 from rfl) f1 hc
    have o2 := num_oc (hv x hm).1 (hv x hm).2 f2 hc
    have hle := f2.1
    have ht : vs.take (k + 1) = vs.take k ++ [x] := by rw [List.take_add_one, hx]; rfl
    have hmk : mkV x.key x.p = x := rfl
    rw [itS]
    simp only
    by_cases hp : pos vs k ≤ cut
    · rw [i1 hp]
      by_cases h4 : pos vs k + 4 ≤ cut
      · by_cases h5 : pos vs (k + 1) ≤ cut
        · refine ⟨fun _ => ?_, fun h => absurd h5 (by omega)⟩
          simp [rK, rN, o1.1 h4, o2.1 h5, ht, hmk]
        · refine ⟨fun h => absurd h h5, fun _ => ⟨((pos vs k + 4 : Nat) : Int), ?_⟩⟩
          simp [rK, rN, o1.1 h4, o2.2 (by omega)]
      · refine ⟨fun h => by omega, fun _ => ⟨(pos vs k : Int), ?_⟩⟩
        simp [rK, rN, o1.2 (by omega)]
    · obtain ⟨q, hq⟩ := i2 (by omega)
      refine ⟨fun h => by have := f1.1; omega, fun _ => ⟨q, ?_⟩⟩
      rw [hq]
      simp [rK, rN]
theorem pos_full (vs : List Vd) : pos vs vs.length = (enc vs).length := by
  unfold pos enc
  rw [List.take_length, List.length_append]
theorem pw_of {vs : List Vd} (h : chk vs = 0) : ∀ x ∈ vs, 0 ≤ x.p ∧ x.p < 9223372036854775808 := fun x hx => by
  have := ((chk_up vs).1 h).2.2.2 x hx
  omega
/-- A set's bytes, and more: decoded. -/
theorem dec_whole {vs : List Vd} (hc : chk vs = 0) (hok : ∀ x ∈ vs, x.ok) (r : List Int) : dec (enc vs ++ r) = if r = [] then ((0, 0), vs) else ((4, ((enc vs).length : Int)), []) := by
  have h64 := ((chk_up vs).1 hc).2.1
  have hn := (num_oc (n := (vs.length : Int)) (by omega) (by omega) (fits_num vs r) (Nat.le_refl _)).1 (pos_le vs r 0)
  have hi := (itS_cut (pw_of hc) hok (Nat.le_refl _) (pos_le vs r 0) vs.length (Nat.le_refl _)).1 (pos_le vs r vs.length)
  rw [List.take_length] at hn hi
  rw [List.take_length] at hi
  have e0 : (rN (enc vs ++ r) (.inr 0)).1 = (vs.length : Int) := by simp [rN, hn]
  have e1 : (rN (enc vs ++ r) (.inr 0)).2 = .inr (pos vs 0) := by simp [rN, hn]
  unfold dec
  rw [e0, e1, if_neg (by omega), Int.toNat_natCast, hi, pos_full]
  simp only
  by_cases hr : r = []
  · subst hr
    rw [if_pos rfl, List.append_nil, if_neg (by simp [endS]), if_neg (by simp [hc])]
  · have hlen : (enc vs).length < (enc vs ++ r).length := by
      have := List.length_pos_iff.2 hr
      rw [List.length_append]
      omega
    rw [if_neg hr]
    simp only [endS, hlen, if_true]
    rw [if_pos (by simp)]
/-- Cut off anywhere, it is none. -/
theorem dec_cut {vs : List Vd} (hc : chk vs = 0) (hok : ∀ x ∈ vs, x.ok) {cut : Nat} (h : cut < (enc vs).length) : (dec ((enc vs).take cut)).1.1 ≠ 0 := by
  have h64 := ((chk_up vs).1 hc).2.1
  have hcl : cut ≤ (enc vs ++ []).length := by rw [List.append_nil]; omega
  have hn := num_oc (n := (vs.length : Int)) (by omega) (by omega) (fits_num vs []) hcl
  rw [List.append_nil] at hn
  by_cases h0 : pos vs 0 ≤ cut
  · have hn1 := hn.1 h0
    have e0 : (rN ((enc vs).take cut) (.inr 0)).1 = (vs.length : Int) := by simp [rN, hn1]
    have e1 : (rN ((enc vs).take cut) (.inr 0)).2 = .inr (pos vs 0) := by simp [rN, hn1]
    obtain ⟨q, hq⟩ := (itS_cut (pw_of hc) hok hcl h0 vs.length (Nat.le_refl _)).2 (by rw [pos_full]; exact h)
    rw [List.append_nil] at hq
    unfold dec
    rw [e0, e1, if_neg (by omega), Int.toNat_natCast, hq]
    simp [endS]
  · have hn1 := hn.2 (by omega)
    have e0 : (rN ((enc vs).take cut) (.inr 0)).1 = 0 := by simp [rN, hn1]
    have e1 : (rN ((enc vs).take cut) (.inr 0)).2 = .inl (6, 0) := by simp [rN, hn1]
    unfold dec
    rw [e0, e1, if_neg (by omega)]
    simp [itS, endS]
end ValZ
end Go.Proofs.Ytackcnncjeajpaa

