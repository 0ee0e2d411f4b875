/-
  HdF, HdG, HdP, HdQ, in one text.
-/
import Derived.Test.YtfmegeibnjmfpaaDoorPdP
import Derived.Test.YtfmegeibnjmfpaaDoorPdO
import Derived.Test.YtfmegeibnjmfpaaDoorPdL
import Derived.Deep.MidRow
import Derived.Test.YtfmegeibnjmfpaaDoorPdM
namespace Go.Proofs.YtfmegeibnjmfpaaDoor
namespace HdF
open Go.RowKit
open BlkM WirM WirS HdA HdB HdC HdE
open WirN (zz)
open WirO (rowO)
open WirJ (st sizedO)
open WirX (Thg Bag)
open WirAA (box bag_box bag_sets)
open ValK ValSK

theorem zz_len (n : Nat) : (zz n).length = n := by simp [zz]
/-- A header of nothing. -/
def hd0 : Hd := ⟨⟨#[]⟩, 0, 0, zz 128, zz_len 128⟩
/-- One of its hashes is another one. -/
def put (t : Hd) (i : Nat) (l : List Int) (hi : i < 4) (hl : l.length = 32) : Hd := ⟨t.ch, t.ht, t.tm, t.hs.take (32 * i) ++ (l ++ t.hs.drop (32 * i + 32)), by
  have := t.lh
  simp only [List.length_append, List.length_take, List.length_drop, hl]
  omega⟩
theorem put_cells (t : Hd) (i : Nat) (l : List Int) (hi : i < 4) (hl : l.length = 32) : t.cells.take (3 + 32 * i) ++ (b8 l ++ t.cells.drop (3 + 32 * i + (b8 l).length)) = (put t i l hi hl).cells := by
  have e1 : t.cells.take (3 + 32 * i) = .string t.ch :: .int .i64 t.ht :: .int .i64 t.tm :: (b8 t.hs).take (32 * i) := by
    rw [show 3 + 32 * i = 32 * i + 1 + 1 + 1 by omega]
    rfl
  have e2 : t.cells.drop (3 + 32 * i + (b8 l).length) = (b8 t.hs).drop (32 * i + 32) := by
    rw [b8_len, hl, show 3 + 32 * i + 32 = 32 * i + 32 + 1 + 1 + 1 by omega]
    rfl
  rw [e1, e2]
  simp [Hd.cells, put, b8, List.map_take, List.map_drop]
/-- A hash is stored into the box of a header. -/
theorem bag_put {w0 w : World} {l : List Thg} {T : TypeId} {X : Nat} {t : Hd} (h : Bag w0 w (box T X t.cells :: l)) (i : Nat) (x : List Int) (hi : i < 4) (hl : x.length = 32) : Bag w0 (w.setCells X (3 + 32 * i) (b8 x)) (box T X (put t i x hi hl).cells :: l) := by
  have := bag_sets h (3 + 32 * i) (b8 x) (by rw [b8_len, hl, t.len]; omega)
  rwa [put_cells t i x hi hl] at this
/-- What is read: a name, a number, a number, four hashes, and the state behind each. -/
abbrev rT (bs : List Int) (s : St) : List Int × St := rO [] (fun p => sizedO bs p 32) s
abbrev rH (bs : List Int) (s : St) : List Int × St := rO (zz 32) (rowO 32 bs) s
theorem rH_len (bs : List Int) (s : St) : (rH bs s).1.length = 32 := by
  cases s with
  | inl f => rfl
  | inr p =>
    rcases ho : rowO 32 bs p with cd | x
    · unfold rH
      rw [rO_l ho]; rfl
    · unfold rH
      rw [rO_r ho]
      unfold rowO at ho
      split at ho
      · cases ho
      · cases ho
        simp only [List.length_take, List.length_drop]
        omega
def s1 (bs : List Int) : St := (rT bs (.inr 0)).2
def s2 (bs : List Int) : St := (rN bs (s1 bs)).2
def s3 (bs : List Int) : St := (rN bs (s2 bs)).2
/-- The states ahead of the hashes. -/
def sH (bs : List Int) : Nat → St
  | 0 => s3 bs
  | k + 1 => (rH bs (sH bs k)).2
def hA (bs : List Int) : Hd := ⟨st (rT bs (.inr 0)).1, (rN bs (s1 bs)).1, (rN bs (s2 bs)).1, zz 128, zz_len 128⟩
/-- The header behind so many hashes. -/
def hK (bs : List Int) (k : Nat) : Hd := match k with
  | 0 => hA bs
  | 1 => put (hA bs) 0 (rH bs (sH bs 0)).1 (by decide) (rH_len _ _)
  | 2 => put (put (hA bs) 0 (rH bs (sH bs 0)).1 (by decide) (rH_len _ _)) 1 (rH bs (sH bs 1)).1 (by decide) (rH_len _ _)
  | 3 => put (put (put (hA bs) 0 (rH bs (sH bs 0)).1 (by decide) (rH_len _ _)) 1 (rH bs (sH bs 1)).1 (by decide) (rH_len _ _)) 2 (rH bs (sH bs 2)).1 (by decide) (rH_len _ _)
  | _ => put (put (put (put (hA bs) 0 (rH bs (sH bs 0)).1 (by decide) (rH_len _ _)) 1 (rH bs (sH bs 1)).1 (by decide) (rH_len _ _)) 2 (rH bs (sH bs 2)).1 (by decide) (rH_len _ _)) 3 (rH bs (sH bs 3)).1 (by decide) (rH_len _ _)
theorem hK_ch (bs : List Int) (k : Nat) : (hK bs k).ch = st (rT bs (.inr 0)).1 := by
  unfold hK
  split <;> rfl
/-- The fault, and the header. -/
def hdec (bs : List Int) : (Int × Int) × Hd :=
  if (endS bs (sH bs 4)).1 ≠ 0 then (endS bs (sH bs 4), hd0) else
  if hchk (hK bs 4) ≠ 0 then ((hchk (hK bs 4), 0), hd0) else ((0, 0), hK bs 4)
theorem one_cells (t : Hd) : t.cells.toArray.all (·.oneCell') = true := all_oneCell_toArray (fun v hv => by
  simp only [Hd.cells, List.mem_cons] at hv
  rcases hv with rfl | rfl | rfl | hv
  · rfl
  · rfl
  · rfl
  · exact one_b8 t.hs v hv)
theorem al_hd (a : Operand → Value) (o : Oper) (ho : o.op = Op.alloc 58) (W : World) : (execOp a o).run Tryd.prog W = .ok (.value (.pointer (some ⟨W.heap.size, 0, none⟩))) (W.alloc (.cells hd0.cells.toArray 58)) := by
  unfold execOp
  rw [ho]
  kernel_rfl
/-- What a func returns that keeps both results in rows. -/
theorem retRows {P : Program} {w : World} {g k : Nat} {T U : TypeId} {cs ds : List Value} (hg : At w g T cs) (hk : At w k U ds) {fn : Func} {p q : Tmp} {ty tz : TypeId} (h : fn.results = #[.cell p ty, .cell q tz]) (tmps : Array Value) (hp : tmps.getD p undef = .pointer (some ⟨g, 0, none⟩)) (hq : tmps.getD q undef = .pointer (some ⟨k, 0, none⟩))
    (d e : TypeDesc) (n m : Nat) (hu : P.underlying ty = some d) (hd : (match d with | .struct _ | .array _ _ => true | _ => false) = true) (hi : (P.info? ty).map (·.size) = some n) (hn : cs.length = n)
    (hu2 : P.underlying tz = some e) (hd2 : (match e with | .struct _ | .array _ _ => true | _ => false) = true) (hi2 : (P.info? tz).map (·.size) = some m) (hm : ds.length = m) :
    (results fn tmps).run P w = .ok (.tuple #[.agg cs.toArray, .agg ds.toArray]) w := by
  have hp' : tmps[p]?.getD undef = .pointer (some ⟨g, 0, none⟩) := by simpa using hp
  have hq' : tmps[q]?.getD undef = .pointer (some ⟨k, 0, none⟩) := by simpa using hq
  have l1 := run_loadVar_row (P := P) w g T ty cs.toArray (0, 0) d hg hu hd (by rw [hi, ← hn]; simp)
  have l2 := run_loadVar_row (P := P) w k U tz ds.toArray (0, 0) e hk hu2 hd2 (by rw [hi2, ← hm]; simp)
  simp [results, h, hp', hq', asAddr, l1, l2]
end HdF
end Go.Proofs.YtfmegeibnjmfpaaDoor

namespace Go.Proofs.YtfmegeibnjmfpaaDoor
namespace HdG
open Go.RowKit
open BlkM WirM WirS HdA HdB HdC HdE HdF
open WirJ (st sizedO)
open WirO (rowO)
open WirP (aggB)
open WirX (Thg Bag)
open WirAA (box bag_box bag_sets)
open WirAB (turn3 there_at)
open WirRT (rng)
open ValK ValSK ValSM

/-- A whole box is stored. -/
theorem bag_row {w0 w : World} {l : List Thg} {T : TypeId} {X : Nat} {cs : List Value} (h : Bag w0 w (box T X cs :: l)) (c : List Value) : Bag w0 (w.setRow X c.toArray) (box T X c :: l) :=
  h.act (WirO.Fr.setRow (Fr.refl _ _) X _ (fun _ => rfl)) (At.put h.head c) (fun _ hk => .inl hk)
def FT : TypeId := 76
def HT : TypeId := 58
def f2 (a b : Int) : List Value := [.int .i64 a, .int .i64 b]
def HDec (w : World) (D : (Int × Int) × Hd) (e : Ending) (w' : World) : Prop :=
  e = .returned (.tuple #[.agg D.2.cells.toArray, .agg #[.int .i64 D.1.1, .int .i64 D.1.2]]) ∧ Below w.heap.size w w'
/-- Both results are stored; what is told then. -/
theorem ends {w U : World} {A0 A1 : Nat} {cs ds : List Value} (h : Bag w U [box FT A1 ds, box HT A0 cs]) (t : Hd) (a b : Int) (_ : cs.length = 131) (_ : ds.length = 2) : Bag w ((U.setRow A0 t.cells.toArray).setRow A1 (f2 a b).toArray) [box FT A1 (f2 a b), box HT A0 t.cells] :=
  bag_row (bag_row h.swap t.cells).swap (f2 a b)
set_option maxRecDepth 20000 in
set_option maxHeartbeats 16000000 in
theorem decode_any (w : World) (b : Option Addr) (n c : Nat) (bs : List Int) (hb : BIn w (.slice b n c) bs) (hr : rng bs) (hn : n ≤ 1099511627776) :
    Calls Tryd.prog 51 #[.slice b n c] w (HDec w (hdec bs)) := by
  obtain ⟨A0, eA0⟩ : ∃ A, w.heap.size = A := ⟨_, rfl⟩
  obtain ⟨W1, e1⟩ : ∃ X, X = w.alloc (.cells hd0.cells.toArray 58) := ⟨_, rfl⟩
  obtain ⟨A1, eA1⟩ : ∃ A, W1.heap.size = A := ⟨_, rfl⟩
  obtain ⟨W2, e2⟩ : ∃ X, X = W1.alloc (.cells (f2 0 0).toArray 76) := ⟨_, rfl⟩
  have hb1 : Bag w W1 [box HT A0 hd0.cells] := bag_box (Bag.nil (Below.refl _ _)) eA0.symm (by rw [e1, ← eA0]; exact At.new _ _ _) (by rw [e1]; exact Below.alloc (Below.refl _ _) (Nat.le_refl _) _)
  have hb2 : Bag w W2 [box FT A1 (f2 0 0), box HT A0 hd0.cells] := bag_box hb1 eA1.symm (by rw [e2, ← eA1]; exact At.new _ _ _) (by rw [e2]; exact Below.alloc (Below.refl _ _) (Nat.le_refl _) _)
  have HRD := WirS.hide (WirT.newReader_any W2 b n c bs (hb.below hb2.low) hr hn)
  have H2 := WirS.hide hb2
  have HBL := WirS.hide (show bs.length ≤ 1099511627776 by obtain ⟨_, _, e, _⟩ := hb; cases e; omega)
  have E1 := WirS.hide e1
  have E2 := WirS.hide e2
  have EA0 := WirS.hide eA0
  obtain ⟨D, hD⟩ : ∃ D, hdec bs = D := ⟨_, rfl⟩
  have HDD := WirS.hide hD
  rw [hD]
  clear hb hr hn hb1 hb2 e1 e2 hD
  go_enter Tryd.func51, Tryd.ntmps51
  go_upto_region 0 with fail
  refine wp_region_lit ?_
  refine sV (.pointer (some ⟨w.heap.size, 0, none⟩)) (w.alloc (.cells hd0.cells.toArray 58)) (by kernel_rfl) (al_hd _ _ (by rfl) w) ?_
  simp only [Act.put, List.setIfInBounds_toArray, List.set_cons_succ, List.set_cons_zero]
  rw [← E1.out, eA0]
  refine sV (.pointer (some ⟨W1.heap.size, 0, none⟩)) (W1.alloc (.cells (f2 0 0).toArray 76)) (by kernel_rfl) (by kernel_rfl) ?_
  simp only [Act.put, List.setIfInBounds_toArray, List.set_cons_succ, List.set_cons_zero]
  rw [← E2.out, eA1]
  clear E1 E2 eA0 eA1
  go_upto_region 2 with ((go_at_call 71; refine (HRD.out).mono ?_; rintro e u2 ⟨R, ra, rc, rfl, hR, hs, hnw, hb2⟩; have H3 := WirS.hide (bag_rdS H2.out hR hs hnw hb2); clear hR hs hnw hb2 H2 HRD))
  refine wp_region_lit ?_
  refine sV (.pointer (some ⟨R, 0, none⟩)) (u2) (by kernel_rfl) (by kernel_rfl) ?_
  simp only [Act.put, List.setIfInBounds_toArray, List.set_cons_succ, List.set_cons_zero]
  refine sC (R := fun w' => Bag w w' [rdS R ra rc bs (s1 bs), box FT A1 (f2 0 0), box HT A0 hd0.cells]) (v := .string (st (rT bs (.inr 0)).1)) (by kernel_rfl) (by kernel_rfl) (p_text 32 H3.out) ?_
  rintro u3 hb3
  simp only [Act.put, List.setIfInBounds_toArray, List.set_cons_succ, List.set_cons_zero]
  have H4 := WirS.hide hb3
  clear hb3 H3
  refine sV (.pointer (some ⟨R, 0, none⟩)) (u3) (by kernel_rfl) (by kernel_rfl) ?_
  simp only [Act.put, List.setIfInBounds_toArray, List.set_cons_succ, List.set_cons_zero]
  refine sC (R := fun w' => Bag w w' [rdS R ra rc bs (s2 bs), box FT A1 (f2 0 0), box HT A0 hd0.cells]) (v := .int .i64 (rN bs (s1 bs)).1) (by kernel_rfl) (by kernel_rfl) (s_num H4.out) ?_
  rintro u4 hb4
  simp only [Act.put, List.setIfInBounds_toArray, List.set_cons_succ, List.set_cons_zero]
  have H5 := WirS.hide hb4
  clear hb4 H4
  refine sV (.pointer (some ⟨R, 0, none⟩)) (u4) (by kernel_rfl) (by kernel_rfl) ?_
  simp only [Act.put, List.setIfInBounds_toArray, List.set_cons_succ, List.set_cons_zero]
  refine sC (R := fun w' => Bag w w' [rdS R ra rc bs (sH bs 0), box FT A1 (f2 0 0), box HT A0 hd0.cells]) (v := .int .i64 (rN bs (s2 bs)).1) (by kernel_rfl) (by kernel_rfl) (s_num H5.out) ?_
  rintro u5 hb5
  simp only [Act.put, List.setIfInBounds_toArray, List.set_cons_succ, List.set_cons_zero]
  have H6 := WirS.hide hb5
  clear hb5 H5
  refine sV (.agg (hK bs 0).cells.toArray) (u5) (by kernel_rfl) (by kernel_rfl) ?_
  simp only [Act.put, List.setIfInBounds_toArray, List.set_cons_succ, List.set_cons_zero]
  refine sV (.pointer (some ⟨u5.heap.size, 0, none⟩)) (u5.alloc (.cells hd0.cells.toArray 58)) (by kernel_rfl) (al_hd _ _ (by rfl) u5) ?_
  simp only [Act.put, List.setIfInBounds_toArray, List.set_cons_succ, List.set_cons_zero]
  obtain ⟨X, eX⟩ : ∃ X, u5.heap.size = X := ⟨_, rfl⟩
  have hb6 := bag_box (T := HT) (cs := hd0.cells) (X := X) H6.out eX.symm (w' := u5.alloc (.cells hd0.cells.toArray 58)) (by rw [← eX]; exact At.new _ _ _) (Below.alloc (Below.refl _ _) (Nat.le_refl _) _)
  rw [eX]
  clear eX H6
  generalize World.alloc u5 _ = u6 at *
  refine stepStore (by rfl) _ _ _ (by rfl) X (hK bs 0).cells (by kernel_rfl) (by kernel_rfl) hb6.head 131 (by kernel_rfl) hd0.len (hK bs 0).len (one_cells _) ?_
  simp only [Act.put]
  have HH0 := WirS.hide (bag_row hb6 (hK bs 0).cells).swap
  clear hb6
  generalize World.setRow u6 X _ = u7 at *
  have HQ := WirS.hide (fun U => hashes_any U X)
  go_upto_region 4 with ((go_at_call 55; refine (HQ.out _).mono ?_; rintro e v0 ⟨rfl, hb⟩; have H0 := WirS.hide (HH0.out.more hb); clear hb))
  unfold ptrs
  clear HQ HH0
  refine wp_loop_rounds 5 ?_
  rw [rounds_succ]
  go_upto_region 5 with fail
  refine wp_region_lit ?_
  refine sV (.pointer (some ⟨X, 3, none⟩)) (v0) (by kernel_rfl) (by kernel_rfl) ?_
  simp only [Act.put, List.setIfInBounds_toArray, List.set_cons_succ, List.set_cons_zero]
  refine sV (.pointer (some ⟨X, 3, none⟩)) (v0) (by kernel_rfl) (by kernel_rfl) ?_
  simp only [Act.put, List.setIfInBounds_toArray, List.set_cons_succ, List.set_cons_zero]
  go_upto_region 6 with fail
  refine wp_region_lit ?_
  refine sV (.pointer (some ⟨X, 3, none⟩)) (v0) (by kernel_rfl) (by kernel_rfl) ?_
  simp only [Act.put, List.setIfInBounds_toArray, List.set_cons_succ, List.set_cons_zero]
  refine sV (.pointer (some ⟨R, 0, none⟩)) (v0) (by kernel_rfl) (by kernel_rfl) ?_
  simp only [Act.put, List.setIfInBounds_toArray, List.set_cons_succ, List.set_cons_zero]
  refine sC (R := fun w' => Bag w w' [rdS R ra rc bs (sH bs (0 + 1)), box HT X (hK bs 0).cells, box FT A1 (f2 0 0), box HT A0 hd0.cells]) (v := aggB (rH bs (sH bs 0)).1) (by kernel_rfl) (by kernel_rfl) (p_hash H0.out) ?_
  rintro y0 hb
  simp only [Act.put, List.setIfInBounds_toArray, List.set_cons_succ, List.set_cons_zero]
  refine sV (.pointer (some ⟨X, 3, none⟩)) (y0) (by kernel_rfl) (by kernel_rfl) ?_
  simp only [Act.put, List.setIfInBounds_toArray, List.set_cons_succ, List.set_cons_zero]
  refine wpList_store_mid (by rfl) _ _ _ (by rfl) X 3 (b8 (rH bs (sH bs 0)).1).toArray (by kernel_rfl) (by kernel_rfl) (there_at hb.swap.head 3 _ (by rw [List.size_toArray, b8_len, rH_len, (hK bs 0).len]; decide)) (by rw [List.size_toArray, b8_len, rH_len]; kernel_rfl) (all_oneCell_toArray (one_b8 _)) ?_
  simp only [Act.put]
  have H1 := WirS.hide (show Bag w (y0.setCells X 3 (b8 (rH bs (sH bs 0)).1).toArray.toList) [rdS R ra rc bs (sH bs 1), box HT X (hK bs 1).cells, box FT A1 (f2 0 0), box HT A0 hd0.cells] from (bag_put hb.swap 0 (rH bs (sH bs 0)).1 (by decide) (rH_len _ _)).swap)
  clear hb H0
  generalize World.setCells y0 X 3 _ = v1 at *
  go_wp2_with fail
  rw [rounds_succ]
  go_upto_region 5 with fail
  refine wp_region_lit ?_
  refine sV (.pointer (some ⟨X, 35, none⟩)) (v1) (by kernel_rfl) (by kernel_rfl) ?_
  simp only [Act.put, List.setIfInBounds_toArray, List.set_cons_succ, List.set_cons_zero]
  refine sV (.pointer (some ⟨X, 35, none⟩)) (v1) (by kernel_rfl) (by kernel_rfl) ?_
  simp only [Act.put, List.setIfInBounds_toArray, List.set_cons_succ, List.set_cons_zero]
  go_upto_region 6 with fail
  refine wp_region_lit ?_
  refine sV (.pointer (some ⟨X, 35, none⟩)) (v1) (by kernel_rfl) (by kernel_rfl) ?_
  simp only [Act.put, List.setIfInBounds_toArray, List.set_cons_succ, List.set_cons_zero]
  refine sV (.pointer (some ⟨R, 0, none⟩)) (v1) (by kernel_rfl) (by kernel_rfl) ?_
  simp only [Act.put, List.setIfInBounds_toArray, List.set_cons_succ, List.set_cons_zero]
  refine sC (R := fun w' => Bag w w' [rdS R ra rc bs (sH bs (1 + 1)), box HT X (hK bs 1).cells, box FT A1 (f2 0 0), box HT A0 hd0.cells]) (v := aggB (rH bs (sH bs 1)).1) (by kernel_rfl) (by kernel_rfl) (p_hash H1.out) ?_
  rintro y1 hb
  simp only [Act.put, List.setIfInBounds_toArray, List.set_cons_succ, List.set_cons_zero]
  refine sV (.pointer (some ⟨X, 35, none⟩)) (y1) (by kernel_rfl) (by kernel_rfl) ?_
  simp only [Act.put, List.setIfInBounds_toArray, List.set_cons_succ, List.set_cons_zero]
  refine wpList_store_mid (by rfl) _ _ _ (by rfl) X 35 (b8 (rH bs (sH bs 1)).1).toArray (by kernel_rfl) (by kernel_rfl) (there_at hb.swap.head 35 _ (by rw [List.size_toArray, b8_len, rH_len, (hK bs 1).len]; decide)) (by rw [List.size_toArray, b8_len, rH_len]; kernel_rfl) (all_oneCell_toArray (one_b8 _)) ?_
  simp only [Act.put]
  have H2 := WirS.hide (show Bag w (y1.setCells X 35 (b8 (rH bs (sH bs 1)).1).toArray.toList) [rdS R ra rc bs (sH bs 2), box HT X (hK bs 2).cells, box FT A1 (f2 0 0), box HT A0 hd0.cells] from (bag_put hb.swap 1 (rH bs (sH bs 1)).1 (by decide) (rH_len _ _)).swap)
  clear hb H1
  generalize World.setCells y1 X 35 _ = v2 at *
  go_wp2_with fail
  rw [rounds_succ]
  go_upto_region 5 with fail
  refine wp_region_lit ?_
  refine sV (.pointer (some ⟨X, 67, none⟩)) (v2) (by kernel_rfl) (by kernel_rfl) ?_
  simp only [Act.put, List.setIfInBounds_toArray, List.set_cons_succ, List.set_cons_zero]
  refine sV (.pointer (some ⟨X, 67, none⟩)) (v2) (by kernel_rfl) (by kernel_rfl) ?_
  simp only [Act.put, List.setIfInBounds_toArray, List.set_cons_succ, List.set_cons_zero]
  go_upto_region 6 with fail
  refine wp_region_lit ?_
  refine sV (.pointer (some ⟨X, 67, none⟩)) (v2) (by kernel_rfl) (by kernel_rfl) ?_
  simp only [Act.put, List.setIfInBounds_toArray, List.set_cons_succ, List.set_cons_zero]
  refine sV (.pointer (some ⟨R, 0, none⟩)) (v2) (by kernel_rfl) (by kernel_rfl) ?_
  simp only [Act.put, List.setIfInBounds_toArray, List.set_cons_succ, List.set_cons_zero]
  refine sC (R := fun w' => Bag w w' [rdS R ra rc bs (sH bs (2 + 1)), box HT X (hK bs 2).cells, box FT A1 (f2 0 0), box HT A0 hd0.cells]) (v := aggB (rH bs (sH bs 2)).1) (by kernel_rfl) (by kernel_rfl) (p_hash H2.out) ?_
  rintro y2 hb
  simp only [Act.put, List.setIfInBounds_toArray, List.set_cons_succ, List.set_cons_zero]
  refine sV (.pointer (some ⟨X, 67, none⟩)) (y2) (by kernel_rfl) (by kernel_rfl) ?_
  simp only [Act.put, List.setIfInBounds_toArray, List.set_cons_succ, List.set_cons_zero]
  refine wpList_store_mid (by rfl) _ _ _ (by rfl) X 67 (b8 (rH bs (sH bs 2)).1).toArray (by kernel_rfl) (by kernel_rfl) (there_at hb.swap.head 67 _ (by rw [List.size_toArray, b8_len, rH_len, (hK bs 2).len]; decide)) (by rw [List.size_toArray, b8_len, rH_len]; kernel_rfl) (all_oneCell_toArray (one_b8 _)) ?_
  simp only [Act.put]
  have H3 := WirS.hide (show Bag w (y2.setCells X 67 (b8 (rH bs (sH bs 2)).1).toArray.toList) [rdS R ra rc bs (sH bs 3), box HT X (hK bs 3).cells, box FT A1 (f2 0 0), box HT A0 hd0.cells] from (bag_put hb.swap 2 (rH bs (sH bs 2)).1 (by decide) (rH_len _ _)).swap)
  clear hb H2
  generalize World.setCells y2 X 67 _ = v3 at *
  go_wp2_with fail
  rw [rounds_succ]
  go_upto_region 5 with fail
  refine wp_region_lit ?_
  refine sV (.pointer (some ⟨X, 99, none⟩)) (v3) (by kernel_rfl) (by kernel_rfl) ?_
  simp only [Act.put, List.setIfInBounds_toArray, List.set_cons_succ, List.set_cons_zero]
  refine sV (.pointer (some ⟨X, 99, none⟩)) (v3) (by kernel_rfl) (by kernel_rfl) ?_
  simp only [Act.put, List.setIfInBounds_toArray, List.set_cons_succ, List.set_cons_zero]
  go_upto_region 6 with fail
  refine wp_region_lit ?_
  refine sV (.pointer (some ⟨X, 99, none⟩)) (v3) (by kernel_rfl) (by kernel_rfl) ?_
  simp only [Act.put, List.setIfInBounds_toArray, List.set_cons_succ, List.set_cons_zero]
  refine sV (.pointer (some ⟨R, 0, none⟩)) (v3) (by kernel_rfl) (by kernel_rfl) ?_
  simp only [Act.put, List.setIfInBounds_toArray, List.set_cons_succ, List.set_cons_zero]
  refine sC (R := fun w' => Bag w w' [rdS R ra rc bs (sH bs (3 + 1)), box HT X (hK bs 3).cells, box FT A1 (f2 0 0), box HT A0 hd0.cells]) (v := aggB (rH bs (sH bs 3)).1) (by kernel_rfl) (by kernel_rfl) (p_hash H3.out) ?_
  rintro y3 hb
  simp only [Act.put, List.setIfInBounds_toArray, List.set_cons_succ, List.set_cons_zero]
  refine sV (.pointer (some ⟨X, 99, none⟩)) (y3) (by kernel_rfl) (by kernel_rfl) ?_
  simp only [Act.put, List.setIfInBounds_toArray, List.set_cons_succ, List.set_cons_zero]
  refine wpList_store_mid (by rfl) _ _ _ (by rfl) X 99 (b8 (rH bs (sH bs 3)).1).toArray (by kernel_rfl) (by kernel_rfl) (there_at hb.swap.head 99 _ (by rw [List.size_toArray, b8_len, rH_len, (hK bs 3).len]; decide)) (by rw [List.size_toArray, b8_len, rH_len]; kernel_rfl) (all_oneCell_toArray (one_b8 _)) ?_
  simp only [Act.put]
  have H4 := WirS.hide (show Bag w (y3.setCells X 99 (b8 (rH bs (sH bs 3)).1).toArray.toList) [rdS R ra rc bs (sH bs 4), box HT X (hK bs 4).cells, box FT A1 (f2 0 0), box HT A0 hd0.cells] from (bag_put hb.swap 3 (rH bs (sH bs 3)).1 (by decide) (rH_len _ _)).swap)
  clear hb H3
  generalize World.setCells y3 X 99 _ = v4 at *
  go_wp2_with fail
  rw [rounds_succ]
  obtain ⟨fe, fa, he⟩ : ∃ fe fa, endS bs (sH bs 4) = (fe, fa) := ⟨_, _, rfl⟩
  obtain ⟨T, hT⟩ : ∃ T, hK bs 4 = T := ⟨_, rfl⟩
  obtain ⟨cd, hcd⟩ : ∃ cd, hchk T = cd := ⟨_, rfl⟩
  have HDE := WirS.hide (show D = if fe ≠ 0 then ((fe, fa), hd0) else if cd ≠ 0 then ((cd, 0), hd0) else ((0, 0), T) by
    rw [← HDD.out]
    unfold hdec
    rw [he, hT, hcd])
  have HCK := WirS.hide (fun U => check_any U T (by rw [← hT, hK_ch, WirNA.st_size]; have h1 : (rT bs (.inr 0)).1.length ≤ bs.length := ValSO.rO_len 32 bs (.inr 0); have := HBL.out; omega))
  rw [hcd] at HCK
  have HE := WirS.hide (s_end H4.out)
  rw [he] at HE
  rw [hT] at H4 HE
  clear he hT hcd HDD
  go_upto_region 9 with ((go_at_call 75; refine (HE.out).mono ?_; rintro e z1 ⟨rfl, hb⟩; have H5 := WirS.hide hb; clear hb HE))
  obtain ⟨F, eF⟩ : ∃ F, z1.heap.size = F := ⟨_, rfl⟩
  obtain ⟨z2, e5⟩ : ∃ Y, Y = z1.alloc (.cells #[.int .i64 fe, .int .i64 fa] 76) := ⟨_, rfl⟩
  have hb5 := bag_box (T := FT) (cs := f2 fe fa) H5.out eF.symm (w' := z2) (by rw [e5, ← eF]; exact At.new _ _ _) (by rw [e5]; exact Below.alloc (Below.refl _ _) (Nat.le_refl _) _)
  rw [← e5, eF]
  clear eF e5 H5 H4
  have d0 : z2.cell? ⟨F, 0, none⟩ = some (.int .i64 fe) := hb5.head.cell 0
  have d1 : z2.cell? ⟨F, 1, none⟩ = some (.int .i64 fa) := hb5.head.cell 1
  have H6 := WirS.hide hb5
  clear hb5
  by_cases hfe : fe = 0
  · have n1 : (fe != 0) = false := by simp [hfe]
    have HFE := WirS.hide hfe
    clear hfe
    go_upto_region 11 with fail
    refine wp_region_lit ?_
    refine sL (by kernel_rfl) _ _ (by rfl) _ (by kernel_rfl) H6.out.drop.drop.head _ _ Tryd.underlying58 rfl (by kernel_rfl) T.len ?_
    simp only [Act.put, List.setIfInBounds_toArray, List.set_cons_succ, List.set_cons_zero]
    refine sC (R := fun w' => Below z2.heap.size z2 w') (by kernel_rfl) (by kernel_rfl) (HCK.out z2) ?_
    rintro z3 hb
    simp only [Act.put, List.setIfInBounds_toArray, List.set_cons_succ, List.set_cons_zero]
    have H7 := WirS.hide (H6.out.more hb).drop.drop
    clear hb H6 d0 d1
    by_cases hc0 : cd = 0
    · have n2 : (cd != 0) = false := by simp [hc0]
      have HDF := WirS.hide (show D = ((0, 0), T) by rw [HDE.out, if_neg (by simp [HFE.out]), if_neg (by simp [hc0])])
      clear hc0
      go_upto_region 14 with fail
      refine wp_region_lit ?_
      refine sL (by kernel_rfl) _ _ (by rfl) _ (by kernel_rfl) H7.out.head _ _ Tryd.underlying58 rfl (by kernel_rfl) T.len ?_
      simp only [Act.put, List.setIfInBounds_toArray, List.set_cons_succ, List.set_cons_zero]
      refine sV (.agg (f2 0 0).toArray) (z3) (by kernel_rfl) (by kernel_rfl) ?_
      simp only [Act.put, List.setIfInBounds_toArray, List.set_cons_succ, List.set_cons_zero]
      have hfin := ends H7.out.drop T 0 0 hd0.len rfl
      refine stepStore (by rfl) _ _ _ (by rfl) A0 T.cells (by kernel_rfl) (by kernel_rfl) H7.out.drop.swap.head 131 (by kernel_rfl) hd0.len T.len (one_cells _) ?_
      simp only [Act.put]
      refine stepStore (by rfl) _ _ _ (by rfl) A1 (f2 0 0) (by kernel_rfl) (by kernel_rfl) (bag_row H7.out.drop.swap T.cells).swap.head 2 (by kernel_rfl) rfl rfl (by kernel_rfl) ?_
      simp only [Act.put]
      have HFIN := WirS.hide hfin
      clear hfin
      go_wp2_with fail
      refine bodyPost_ret (retRows HFIN.out.swap.head HFIN.out.head Tryd.results51 _ (by rfl) (by rfl) _ _ 131 2 Tryd.underlying58 rfl (by kernel_rfl) T.len Tryd.underlying76 rfl (by kernel_rfl) rfl) rfl ?_
      exact ⟨by rw [HDF.out]; rfl, HFIN.out.low⟩
    · have n2 : (cd != 0) = true := by simpa using hc0
      have HDF := WirS.hide (show D = ((cd, 0), hd0) by rw [HDE.out, if_neg (by simp [HFE.out]), if_pos hc0])
      clear hc0
      go_upto_region 13 with fail
      refine wp_region_lit ?_
      refine sV (.agg hd0.cells.toArray) (z3) (by kernel_rfl) (by kernel_rfl) ?_
      simp only [Act.put, List.setIfInBounds_toArray, List.set_cons_succ, List.set_cons_zero]
      refine sV (.int .i64 cd) (z3) (by kernel_rfl) (by kernel_rfl) ?_
      simp only [Act.put, List.setIfInBounds_toArray, List.set_cons_succ, List.set_cons_zero]
      refine sV (.agg (f2 cd 0).toArray) (z3) (by kernel_rfl) (by kernel_rfl) ?_
      simp only [Act.put, List.setIfInBounds_toArray, List.set_cons_succ, List.set_cons_zero]
      have hfin := ends H7.out.drop hd0 cd 0 hd0.len rfl
      refine stepStore (by rfl) _ _ _ (by rfl) A0 hd0.cells (by kernel_rfl) (by kernel_rfl) H7.out.drop.swap.head 131 (by kernel_rfl) hd0.len hd0.len (one_cells _) ?_
      simp only [Act.put]
      refine stepStore (by rfl) _ _ _ (by rfl) A1 (f2 cd 0) (by kernel_rfl) (by kernel_rfl) (bag_row H7.out.drop.swap hd0.cells).swap.head 2 (by kernel_rfl) rfl rfl (by kernel_rfl) ?_
      simp only [Act.put]
      have HFIN := WirS.hide hfin
      clear hfin
      go_wp2_with fail
      refine bodyPost_ret (retRows HFIN.out.swap.head HFIN.out.head Tryd.results51 _ (by rfl) (by rfl) _ _ 131 2 Tryd.underlying58 rfl (by kernel_rfl) hd0.len Tryd.underlying76 rfl (by kernel_rfl) rfl) rfl ?_
      exact ⟨by rw [HDF.out]; rfl, HFIN.out.low⟩
  · have n1 : (fe != 0) = true := by simpa using hfe
    have HDF := WirS.hide (show D = ((fe, fa), hd0) by rw [HDE.out, if_pos hfe])
    clear hfe
    go_upto_region 10 with fail
    have H7 : Hid (Bag w z2.drew [box HT A0 hd0.cells, box FT F (f2 fe fa), box FT A1 (f2 0 0)]) := WirS.hide (turn3 (H6.out.swap.drop.swap.drop.swap.more (below_drewN (Below.refl _ _) 1)))
    refine wp_region_noPanic ?_
    refine wp_region_held_drew (S := fun w' => w'.cell? ⟨F, 0, none⟩ = some (.int .i64 fe) ∧ w'.cell? ⟨F, 1, none⟩ = some (.int .i64 fa)) (by kernel_rfl) ⟨d0, d1⟩ (fun hHeld => ?_)
    generalize World.drew z2 = z3 at *
    refine' wpAnyH_take (i := 0) (oi := _) (v := .agg hd0.cells.toArray) rfl (by kernel_rfl) (by kernel_rfl) (by kernel_rfl) (fun _ _ _ h => h) (Or.inl ⟨by kernel_rfl, ?hy0⟩) (by assumption) ?rest0
    case hy0 =>
      intro W _
      kernel_rfl
    case rest0 =>
    simp only [List.getElem_toArray, List.getElem_cons_zero, Act.put, List.setIfInBounds_toArray, List.set_cons_succ, List.set_cons_zero]
    refine' wpAnyH_take (i := 1) (oi := _) (v := .agg (f2 fe fa).toArray) rfl (by kernel_rfl) (by kernel_rfl) (by kernel_rfl) (fun _ _ _ h => h) (Or.inl ⟨by kernel_rfl, ?hy1⟩) (by assumption) ?rest1
    case hy1 =>
      intro W hS
      obtain ⟨k0, k1⟩ := hS
      go_simp
      try rfl
    case rest1 =>
    simp only [List.getElem_toArray, List.getElem_cons_succ, List.getElem_cons_zero, Act.put, List.setIfInBounds_toArray, List.set_cons_succ, List.set_cons_zero]
    refine wpAnyH_ready (rs := [2]) (by kernel_rfl) (by simp) ?_
    refine AllReadyH.cons rfl (fun K hK => ?_) AllReadyH.nil
    rw [if_pos (by kernel_rfl)]
    refine wp_store_row _ _ _ (by rfl) A0 hd0.cells.toArray (by kernel_rfl) (by kernel_rfl) HT hd0.cells.toArray H7.out.head (by kernel_rfl) rfl (one_cells _) ?_
    simp only [Act.put]
    have H8 := WirS.hide (bag_row H7.out hd0.cells)
    refine hK.out _ _ ⟨H8.out.swap.head.cell 0, H8.out.swap.head.cell 1⟩ (fun hHeld => ?_)
    clear hK K
    generalize World.setRow z3 A0 _ = z4 at *
    refine wpAnyH_ready (rs := [3]) (by kernel_rfl) (by simp) ?_
    refine AllReadyH.cons rfl (fun K hK => ?_) AllReadyH.nil
    rw [if_pos (by kernel_rfl)]
    refine wp_store_row _ _ _ (by rfl) A1 (f2 fe fa).toArray (by kernel_rfl) (by kernel_rfl) FT (f2 0 0).toArray (turn3 H8.out).head (by kernel_rfl) rfl (by kernel_rfl) ?_
    simp only [Act.put]
    have H9 := WirS.hide (bag_row (turn3 H8.out) (f2 fe fa))
    refine hK.out _ _ ⟨H9.out.swap.head.cell 0, H9.out.swap.head.cell 1⟩ (fun hHeld => ?_)
    clear hK K
    generalize World.setRow z4 A1 _ = z5 at *
    refine wpAnyH_done (by kernel_rfl) ?_ _
    refine NoPanic.normal ?_
    go_wp2_with fail
    refine bodyPost_ret (retRows H9.out.drop.drop.head H9.out.head Tryd.results51 _ (by rfl) (by rfl) _ _ 131 2 Tryd.underlying58 rfl (by kernel_rfl) hd0.len Tryd.underlying76 rfl (by kernel_rfl) rfl) rfl ?_
    exact ⟨by rw [HDF.out]; rfl, H9.out.low⟩
end HdG
end Go.Proofs.YtfmegeibnjmfpaaDoor

namespace Go.Proofs.YtfmegeibnjmfpaaDoor
namespace HdP
open Go.RowKit
open BlkM WirM WirS HdA HdB HdC HdE HdF
open WirD (numB)
open WirE (tb)
open WirJ (st sizedO numO)
open WirO (rowO)
open WirN (zz)
open WirRT (rng Fits fits_trans fits_of num_fits row_fits sized_fits tb_st rng_part)
open WirBC (num_oc row_oc sized_oc)
open ValK ValSK

theorem st_tb (s : ByteArray) : st (tb s) = s := by
  obtain ⟨⟨l⟩⟩ := s
  unfold st WirE.tb strOfNums
  have e : ((fun n : Int => UInt8.ofNat n.toNat) ∘ fun b : UInt8 => (b.toNat : Int)) = id := by funext b; simp
  congr 1
  simp [e]
theorem Hd.ext {t u : Hd} (h1 : t.ch = u.ch) (h2 : t.ht = u.ht) (h3 : t.tm = u.tm) (h4 : t.hs = u.hs) : t = u := by
  obtain ⟨a, b, c, d, _⟩ := t
  obtain ⟨a', b', c', d', _⟩ := u
  simp at h1 h2 h3 h4
  subst h1 h2 h3 h4
  rfl
/-- The hashes, once all of them are read. -/
theorem hs4 (bs : List Int) : (hK bs 4).hs = (rH bs (sH bs 0)).1 ++ ((rH bs (sH bs 1)).1 ++ ((rH bs (sH bs 2)).1 ++ (rH bs (sH bs 3)).1)) := by
  have l0 := rH_len bs (sH bs 0)
  have l1 := rH_len bs (sH bs 1)
  have l2 := rH_len bs (sH bs 2)
  have l3 := rH_len bs (sH bs 3)
  have e : hK bs 4 = put (put (put (put (hA bs) 0 (rH bs (sH bs 0)).1 (by decide) l0) 1 (rH bs (sH bs 1)).1 (by decide) l1) 2 (rH bs (sH bs 2)).1 (by decide) l2) 3 (rH bs (sH bs 3)).1 (by decide) l3 := rfl
  rw [e]
  simp only [put, hA]
  clear e
  generalize (rH bs (sH bs 0)).1 = a at *
  generalize (rH bs (sH bs 1)).1 = b at *
  generalize (rH bs (sH bs 2)).1 = c at *
  generalize (rH bs (sH bs 3)).1 = d at *
  have hz : (zz 128) = zz 32 ++ (zz 32 ++ (zz 32 ++ zz 32)) := by simp [zz]
  rw [hz]
  have z : (zz 32).length = 32 := zz_len 32
  generalize zz 32 = z1 at *
  simp [List.take_append, List.drop_append, l0, l1, l2, z, List.take_of_length_le, List.drop_of_length_le]
theorem ch4 (bs : List Int) : (hK bs 4).ch = st (rT bs (.inr 0)).1 := hK_ch bs 4
theorem ht4 (bs : List Int) : (hK bs 4).ht = (rN bs (s1 bs)).1 := rfl
theorem tm4 (bs : List Int) : (hK bs 4).tm = (rN bs (s2 bs)).1 := rfl
theorem parts4 (t : Hd) : t.part 0 ++ (t.part 1 ++ (t.part 2 ++ t.part 3)) = t.hs := by
  have h0 := take_part t 0
  have h1 := take_part t 1
  have h2 := take_part t 2
  have h3 := take_part t 3
  rw [show t.hs.take (32 * (3 + 1)) = t.hs from List.take_of_length_le (by rw [t.lh]; decide)] at h3
  rw [← h3, ← h2, ← h1, ← h0]
  simp

/-! ### Cut off -/
/-- A reader of bytes that are cut off, which should stand at p. -/
def Gd (cut p : Nat) (s : St) : Prop := (p ≤ cut → s = .inr p) ∧ (cut < p → ∃ q, s = .inl (6, q))
theorem gd_num {bs : List Int} {cut p p' : Nat} {s : St} {n : Int} (h : Gd cut p s) (h0 : 0 ≤ n) (h1 : n < 9223372036854775808) (hf : Fits bs p p' (numB n)) (hc : cut ≤ bs.length) : Gd cut p' (rN (bs.take cut) s).2 ∧ (p' ≤ cut → (rN (bs.take cut) s).1 = n) := by
  have hpp := hf.1
  by_cases hp : p ≤ cut
  · rw [h.1 hp]
    obtain ⟨a, b⟩ := num_oc h0 h1 hf hc
    by_cases hp' : p' ≤ cut
    · have e : rN (bs.take cut) (.inr p) = (n, .inr p') := by simp only [rN, a hp']
      rw [e]
      exact ⟨⟨fun _ => rfl, fun h => absurd hp' (by omega)⟩, fun _ => rfl⟩
    · have e : rN (bs.take cut) (.inr p) = (0, .inl (6, (p : Int))) := by simp only [rN, b (by omega)]
      rw [e]
      exact ⟨⟨fun h => absurd h hp', fun _ => ⟨_, rfl⟩⟩, fun h => absurd h hp'⟩
  · obtain ⟨q, hq⟩ := h.2 (by omega)
    rw [hq]
    exact ⟨⟨fun h => absurd h (by omega), fun _ => ⟨q, rfl⟩⟩, fun h => absurd h (by omega)⟩
theorem gd_hash {bs : List Int} {cut p p' : Nat} {s : St} {l : List Int} (h : Gd cut p s) (hl : l.length = 32) (hf : Fits bs p p' l) (hc : cut ≤ bs.length) : Gd cut p' (rH (bs.take cut) s).2 ∧ (p' ≤ cut → (rH (bs.take cut) s).1 = l) := by
  have hpp := hf.1
  by_cases hp : p ≤ cut
  · rw [h.1 hp]
    obtain ⟨a, b⟩ := row_oc hl hf hc
    by_cases hp' : p' ≤ cut
    · have e : rH (bs.take cut) (.inr p) = (l, .inr p') := rO_r (a hp')
      rw [e]
      exact ⟨⟨fun _ => rfl, fun h => absurd hp' (by omega)⟩, fun _ => rfl⟩
    · have e : rH (bs.take cut) (.inr p) = (zz 32, .inl (6, (p : Int))) := rO_l (b (by omega))
      rw [e]
      exact ⟨⟨fun h => absurd h hp', fun _ => ⟨_, rfl⟩⟩, fun h => absurd h hp'⟩
  · obtain ⟨q, hq⟩ := h.2 (by omega)
    rw [hq]
    exact ⟨⟨fun h => absurd h (by omega), fun _ => ⟨q, rfl⟩⟩, fun h => absurd h (by omega)⟩
theorem sized_more {bs : List Int} {p : Nat} {m m' : Int} {o : Sum Int (List Int × Nat)} (h : sizedO bs p m = o) (h4 : o ≠ .inl 4) (hm : max m 0 ≤ max m' 0) : sizedO bs p m' = o := by
  unfold sizedO at h ⊢
  split at h
  · exact h
  · rename_i x hx
    by_cases h1 : max m 0 < x.1
    · rw [if_pos h1] at h
      exact absurd h.symm h4
    · rw [if_neg h1] at h
      simp only [show ¬ max m' 0 < x.1 by omega, if_false]
      exact h
theorem gd_text {bs zs : List Int} {cut p' : Nat} (hz : zs.length ≤ 32) (hf : Fits bs 0 p' (numB (zs.length : Int) ++ zs)) (hc : cut ≤ bs.length) : Gd cut p' (rT (bs.take cut) (.inr 0)).2 ∧ (p' ≤ cut → (rT (bs.take cut) (.inr 0)).1 = zs) := by
  obtain ⟨a, b⟩ := sized_oc (by omega) hf hc
  by_cases hp' : p' ≤ cut
  · have e : rT (bs.take cut) (.inr 0) = (zs, .inr p') := rO_r (o := fun p => sizedO (bs.take cut) p 32) (sized_more (a hp') (by simp) (by omega))
    rw [e]
    exact ⟨⟨fun _ => rfl, fun h => absurd hp' (by omega)⟩, fun _ => rfl⟩
  · have e : rT (bs.take cut) (.inr 0) = ([], .inl (6, ((0 : Nat) : Int))) := rO_l (o := fun p => sizedO (bs.take cut) p 32) (sized_more (b (by omega)) (by simp) (by omega))
    rw [e]
    exact ⟨⟨fun h => absurd h hp', fun _ => ⟨_, rfl⟩⟩, fun h => absurd h hp'⟩
/-- Where a list's parts lie. -/
theorem fits_app (a b c : List Int) : Fits (a ++ (b ++ c)) a.length (a ++ b).length b := by
  refine ⟨by simp, by simp, ?_⟩
  rw [List.take_left' rfl, ← List.append_assoc, List.take_left' rfl]
theorem read_cut {t : Hd} (ho : HOk t) (r : List Int) {cut : Nat} (hc : cut ≤ (hform t ++ r).length) :
    Gd cut (hform t).length (sH ((hform t ++ r).take cut) 4) ∧ ((hform t).length ≤ cut → hK ((hform t ++ r).take cut) 4 = t) := by
  have hsz := ho.size
  have hp := parts4 t
  have l0 := t.part_len 0 (by decide)
  have l1 := t.part_len 1 (by decide)
  have l2 := t.part_len 2 (by decide)
  have l3 := t.part_len 3 (by decide)
  obtain ⟨A, hA⟩ : ∃ A, A = numB t.ch.size ++ tb t.ch := ⟨_, rfl⟩
  have hA2 : A = numB ((tb t.ch).length : Int) ++ tb t.ch := by rw [hA, tb_len]
  have hform1 : hform t ++ r = A ++ (numB t.ht ++ (numB t.tm ++ (t.part 0 ++ (t.part 1 ++ (t.part 2 ++ (t.part 3 ++ r)))))) := by
    unfold hform hpre
    rw [← hp, hA]
    simp
  obtain ⟨bs, hbs⟩ : ∃ bs, bs = hform t ++ r := ⟨_, rfl⟩
  rw [← hbs] at hc ⊢
  rw [← hbs] at hform1
  have f1 : Fits bs 0 A.length (numB ((tb t.ch).length : Int) ++ tb t.ch) := by
    rw [hform1, ← hA2]
    have := fits_app [] A (numB t.ht ++ (numB t.tm ++ (t.part 0 ++ (t.part 1 ++ (t.part 2 ++ (t.part 3 ++ r))))))
    simpa using this
  have f2 : Fits bs A.length (A ++ numB t.ht).length (numB t.ht) := by rw [hform1]; exact fits_app _ _ _
  have f3 : Fits bs (A ++ numB t.ht).length ((A ++ numB t.ht) ++ numB t.tm).length (numB t.tm) := by rw [hform1, ← List.append_assoc]; exact fits_app _ _ _
  have f4 : Fits bs ((A ++ numB t.ht) ++ numB t.tm).length (((A ++ numB t.ht) ++ numB t.tm) ++ t.part 0).length (t.part 0) := by rw [hform1, ← List.append_assoc, ← List.append_assoc]; exact fits_app _ _ _
  have f5 : Fits bs (((A ++ numB t.ht) ++ numB t.tm) ++ t.part 0).length ((((A ++ numB t.ht) ++ numB t.tm) ++ t.part 0) ++ t.part 1).length (t.part 1) := by rw [hform1, ← List.append_assoc, ← List.append_assoc, ← List.append_assoc]; exact fits_app _ _ _
  have f6 : Fits bs ((((A ++ numB t.ht) ++ numB t.tm) ++ t.part 0) ++ t.part 1).length (((((A ++ numB t.ht) ++ numB t.tm) ++ t.part 0) ++ t.part 1) ++ t.part 2).length (t.part 2) := by rw [hform1, ← List.append_assoc, ← List.append_assoc, ← List.append_assoc, ← List.append_assoc]; exact fits_app _ _ _
  have f7 : Fits bs (((((A ++ numB t.ht) ++ numB t.tm) ++ t.part 0) ++ t.part 1) ++ t.part 2).length ((((((A ++ numB t.ht) ++ numB t.tm) ++ t.part 0) ++ t.part 1) ++ t.part 2) ++ t.part 3).length (t.part 3) := by rw [hform1, ← List.append_assoc, ← List.append_assoc, ← List.append_assoc, ← List.append_assoc, ← List.append_assoc]; exact fits_app _ _ _
  have hend : ((((((A ++ numB t.ht) ++ numB t.tm) ++ t.part 0) ++ t.part 1) ++ t.part 2) ++ t.part 3).length = (hform t).length := by
    unfold hform hpre
    rw [← hp, hA]
    simp
  rw [hend] at f7
  have m1 := f2.1
  have m2 := f3.1
  have m3 := f4.1
  have m4 := f5.1
  have m5 := f6.1
  have m6 := f7.1
  obtain ⟨g1, v1⟩ := gd_text (by rw [tb_len]; omega) f1 hc
  obtain ⟨g2, v2⟩ := gd_num g1 (by have := ho.ht; omega) (by have := ho.ht; omega) f2 hc
  obtain ⟨g3, v3⟩ := gd_num g2 (by have := ho.tm; omega) (by have := ho.tm; omega) f3 hc
  obtain ⟨g4, v4⟩ := gd_hash g3 l0 f4 hc
  obtain ⟨g5, v5⟩ := gd_hash g4 l1 f5 hc
  obtain ⟨g6, v6⟩ := gd_hash g5 l2 f6 hc
  obtain ⟨g7, v7⟩ := gd_hash g6 l3 f7 hc
  refine ⟨g7, fun hl => ?_⟩
  refine Hd.ext ?_ ?_ ?_ ?_
  · rw [ch4, v1 (by omega), st_tb]
  · rw [ht4]
    exact v2 (by omega)
  · rw [tm4]
    exact v3 (by omega)
  · rw [hs4, ← hp]
    have a0 : (rH (bs.take cut) (sH (bs.take cut) 0)).1 = t.part 0 := v4 (by omega)
    have a1 : (rH (bs.take cut) (sH (bs.take cut) 1)).1 = t.part 1 := v5 (by omega)
    have a2 : (rH (bs.take cut) (sH (bs.take cut) 2)).1 = t.part 2 := v6 (by omega)
    have a3 : (rH (bs.take cut) (sH (bs.take cut) 3)).1 = t.part 3 := v7 (by omega)
    rw [a0, a1, a2, a3]
theorem dec_whole {t : Hd} (ho : HOk t) (r : List Int) : hdec (hform t ++ r) = if r = [] then ((0, 0), t) else ((4, ((hform t).length : Int)), hd0) := by
  obtain ⟨g, v⟩ := read_cut ho r (Nat.le_refl _)
  rw [List.take_length] at g v
  have hle : (hform t).length ≤ (hform t ++ r).length := by simp
  have hs := g.1 hle
  have ht := v hle
  unfold hdec
  rw [hs, ht, chk_ok ho]
  by_cases h : r = []
  · subst h
    unfold endS
    simp
  · have hp : 0 < r.length := List.length_pos_iff.2 h
    have e : endS (hform t ++ r) (.inr (hform t).length) = (4, ((hform t).length : Int)) := by
      show (if (hform t).length < (hform t ++ r).length then _ else _) = _
      rw [if_pos (by rw [List.length_append]; omega)]
    rw [e, if_neg h]
    rfl
theorem dec_cut {t : Hd} (ho : HOk t) {cut : Nat} (h : cut < (hform t).length) : ∃ q, hdec ((hform t).take cut) = ((6, q), hd0) := by
  obtain ⟨g, v⟩ := read_cut ho [] (cut := cut) (by rw [List.append_nil]; omega)
  rw [List.append_nil] at g
  obtain ⟨q, hq⟩ := g.2 h
  refine ⟨q, ?_⟩
  unfold hdec
  rw [hq]
  rfl

/-! ### What is decoded is encoded so -/
theorem rN_inv {bs : List Int} (hr : rng bs) {s : St} {p : Nat} (h : (rN bs s).2 = .inr p) : ∃ q, s = .inr q ∧ Fits bs q p (numB (rN bs s).1) := by
  cases s with
  | inl f => cases h
  | inr q =>
    refine ⟨q, rfl, ?_⟩
    cases hn : numO bs q with
    | inl c => simp only [rN, hn] at h; cases h
    | inr x =>
      have e : rN bs (.inr q) = (x.1, .inr x.2) := by simp only [rN, hn]
      rw [e] at h ⊢
      cases h
      exact (num_fits hr hn).2.2
theorem rH_inv {bs : List Int} {s : St} {p : Nat} (h : (rH bs s).2 = .inr p) : ∃ q, s = .inr q ∧ Fits bs q p (rH bs s).1 := by
  cases s with
  | inl f => cases h
  | inr q =>
    refine ⟨q, rfl, ?_⟩
    cases hn : rowO 32 bs q with
    | inl c => rw [show rH bs (.inr q) = _ from rO_l hn] at h; cases h
    | inr x =>
      rw [show rH bs (.inr q) = _ from rO_r hn] at h ⊢
      cases h
      exact (row_fits hn).2
theorem rT_inv {bs : List Int} (hr : rng bs) {s : St} {p : Nat} (h : (rT bs s).2 = .inr p) : ∃ q, s = .inr q ∧ rng (rT bs s).1 ∧ Fits bs q p (numB ((rT bs s).1.length : Int) ++ (rT bs s).1) := by
  cases s with
  | inl f => cases h
  | inr q =>
    refine ⟨q, rfl, ?_⟩
    cases hn : sizedO bs q 32 with
    | inl c => rw [show rT bs (.inr q) = _ from rO_l (o := fun p => sizedO bs p 32) hn] at h; cases h
    | inr x =>
      rw [show rT bs (.inr q) = _ from rO_r (o := fun p => sizedO bs p 32) hn] at h ⊢
      cases h
      obtain ⟨a, _, b⟩ := sized_fits hr hn
      exact ⟨a, b⟩
theorem enc_dec {bs : List Int} (hr : rng bs) (h : (hdec bs).1 = (0, 0)) : HOk (hdec bs).2 ∧ hform (hdec bs).2 = bs ∧ hdec bs = ((0, 0), hK bs 4) := by
  unfold hdec at h ⊢
  by_cases h1 : (endS bs (sH bs 4)).1 = 0
  · rw [if_neg (by simpa using h1)] at h ⊢
    by_cases h2 : hchk (hK bs 4) = 0
    · rw [if_neg (by simpa using h2)]
      refine ⟨ok_of h2, ?_, rfl⟩
      cases hs : sH bs 4 with
      | inl f =>
        exfalso
        -- a fault has a code
        have key : ∀ s : St, (∀ f, s = .inl f → f.1 ≠ 0) → (∀ f, (rN bs s).2 = .inl f → f.1 ≠ 0) ∧ (∀ f, (rH bs s).2 = .inl f → f.1 ≠ 0) := fun s hs => by
          cases s with
          | inl g => exact ⟨fun f e => by cases e; exact hs g rfl, fun f e => by cases e; exact hs g rfl⟩
          | inr p =>
            constructor
            · intro f e
              cases hn : numO bs p with
              | inl c => simp only [rN, hn] at e; cases e; exact WirAA.num_code hn
              | inr x => simp only [rN, hn] at e; cases e
            · intro f e
              cases hn : rowO 32 bs p with
              | inl c => rw [show rH bs (.inr p) = _ from rO_l hn] at e; cases e; exact WirAA.row_code hn
              | inr x => rw [show rH bs (.inr p) = _ from rO_r hn] at e; cases e
        have k1 : ∀ f, s1 bs = .inl f → f.1 ≠ 0 := fun f e => by
          unfold s1 at e
          cases hn : sizedO bs 0 32 with
          | inl c => rw [show rT bs (.inr 0) = _ from rO_l (o := fun p => sizedO bs p 32) hn] at e; cases e; exact WirAA.sized_code hn
          | inr x => rw [show rT bs (.inr 0) = _ from rO_r (o := fun p => sizedO bs p 32) hn] at e; cases e
        have k2 := (key _ k1).1
        have k3 := (key _ k2).1
        have k4 := (key _ k3).2
        have k5 := (key _ k4).2
        have k6 := (key _ k5).2
        have k7 := (key _ k6).2
        rw [hs] at h1
        exact k7 f hs h1
      | inr p =>
        rw [hs] at h1
        have hpl : ¬ p < bs.length := fun hlt => by
          have e : endS bs (.inr p) = (4, (p : Int)) := by
            show (if p < bs.length then _ else _) = _
            rw [if_pos hlt]
          rw [e] at h1
          cases h1
        obtain ⟨q6, e6, f6⟩ := rH_inv (s := sH bs 3) hs
        obtain ⟨q5, e5, f5⟩ := rH_inv (s := sH bs 2) e6
        obtain ⟨q4, e4, f4⟩ := rH_inv (s := sH bs 1) e5
        obtain ⟨q3, e3, f3⟩ := rH_inv (s := sH bs 0) e4
        obtain ⟨q2, e2, f2⟩ := rN_inv hr (s := s2 bs) e3
        obtain ⟨q1, e1, f1⟩ := rN_inv hr (s := s1 bs) e2
        obtain ⟨q0, e0, hz, f0⟩ := rT_inv hr (s := .inr 0) e1
        cases e0
        have hall := fits_trans f0 (fits_trans f1 (fits_trans f2 (fits_trans f3 (fits_trans f4 (fits_trans f5 f6)))))
        have hpe : p = bs.length := by have := hall.2.1; omega
        have h3 := hall.2.2
        rw [hpe, List.take_length, List.take_zero, List.nil_append] at h3
        show hform (hK bs 4) = bs
        unfold hform hpre
        rw [hs4, ch4, ht4, tm4, tb_st _ hz, WirNA.st_size]
        refine Eq.trans ?_ h3
        simp
    · rw [if_pos (by simpa using h2)] at h
      exact absurd (by simpa using h) h2
  · rw [if_pos (by simpa using h1)] at h
    have h' : endS bs (sH bs 4) = (0, 0) := h
    exact absurd (by rw [h']) h1

/-! ### Where a fault is -/
def stOk (bs : List Int) : St → Prop
  | .inl f => 0 ≤ f.2 ∧ f.2 ≤ (bs.length : Int)
  | .inr p => p ≤ bs.length
theorem ok_o {α : Type} {z : α} {bs : List Int} {o : Nat → Sum Int (α × Nat)} (ho : ∀ p x, o p = .inr x → x.2 ≤ bs.length) {s : St} (h : stOk bs s) : stOk bs (rO z o s).2 := by
  cases s with
  | inl f => exact h
  | inr p =>
    cases hn : o p with
    | inl c =>
      rw [rO_l hn]
      have : p ≤ bs.length := h
      exact ⟨by show (0 : Int) ≤ (p : Int); omega, by show (p : Int) ≤ (bs.length : Int); omega⟩
    | inr x =>
      rw [rO_r hn]
      exact ho p x hn
theorem ok_n {bs : List Int} (hr : rng bs) {s : St} (h : stOk bs s) : stOk bs (rN bs s).2 := by
  cases s with
  | inl f => exact h
  | inr p =>
    cases hn : numO bs p with
    | inl c =>
      simp only [rN, hn]
      have : p ≤ bs.length := h
      exact ⟨by show (0 : Int) ≤ (p : Int); omega, by show (p : Int) ≤ (bs.length : Int); omega⟩
    | inr x =>
      simp only [rN, hn]
      exact (numO_bd hr hn).2.2
theorem sH_ok {bs : List Int} (hr : rng bs) : ∀ k, stOk bs (sH bs k)
  | 0 => ok_n hr (ok_n hr (ok_o (fun p x hx => by
      have := (sized_fits hr (l := x.1) (p := x.2) hx).2.2.2.1
      exact this) (Nat.zero_le _)))
  | k + 1 => ok_o (fun p x hx => (row_fits (l := x.1) (p := x.2) hx).2.2.1) (sH_ok hr k)
theorem dec_fault {bs : List Int} (hr : rng bs) (h : (hdec bs).1.1 ≠ 0) : (hdec bs).2 = hd0 ∧ 0 ≤ (hdec bs).1.2 ∧ (hdec bs).1.2 ≤ (bs.length : Int) := by
  have hk := sH_ok hr 4
  unfold hdec at h ⊢
  split
  · rename_i h1
    refine ⟨rfl, ?_⟩
    show 0 ≤ (endS bs (sH bs 4)).2 ∧ (endS bs (sH bs 4)).2 ≤ (bs.length : Int)
    cases hs : sH bs 4 with
    | inl f => rw [hs] at hk; exact hk
    | inr p =>
      rw [hs] at hk
      have : p ≤ bs.length := hk
      have e : endS bs (.inr p) = if p < bs.length then (4, (p : Int)) else (0, 0) := rfl
      rw [e]
      split
      · exact ⟨by show (0 : Int) ≤ (p : Int); omega, by show (p : Int) ≤ (bs.length : Int); omega⟩
      · exact ⟨Int.le_refl _, by show (0 : Int) ≤ (bs.length : Int); omega⟩
  · split
    · exact ⟨rfl, Int.le_refl _, by show (0 : Int) ≤ (bs.length : Int); omega⟩
    · rename_i h1 h2
      rw [if_neg h1, if_neg h2] at h
      exact absurd rfl h
end HdP
end Go.Proofs.YtfmegeibnjmfpaaDoor

namespace Go.Proofs.YtfmegeibnjmfpaaDoor
namespace HdQ
open Go.RowKit Go.Lib
open BlkM WirM WirS HdA HdB HdE HdF

theorem eqHd (l m : List Int) (hl : l.length = 32) (hm : m.length = 32) (d : Nat) (W : World) : (Op.equalIn (d + 2) 26 (.agg (b8 l).toArray) (.agg (b8 m).toArray)).run Tryd.prog W = .ok (decide (l = m)) W := by
  have hi : (Tryd.prog.info? 5).isSome = true := by kernel_rfl
  obtain ⟨i, hi⟩ := Option.isSome_iff_exists.1 hi
  have hc : Tryd.prog.cellsOf 5 = 1 := by kernel_rfl
  rw [run_equalIn_array W (d + 1) (b8 l).toArray (b8 m).toArray Tryd.underlying26 hi, hc, WirBE.eqItems8 l m hl hm d W (List.range 32) (fun i hi => List.mem_range.1 hi)]
  simp only [WirBE.ext32 hl hm]
theorem part_hash (t : Hd) (i o : Nat) (_ : i < 4) (ho : o = 3 + 32 * i) (W : World) : (part 26 t.cells.toArray o).run Tryd.prog W = .ok (.agg (b8 (t.part i)).toArray) W := by
  subst ho
  have ha : (isAgg 26).run Tryd.prog W = .ok true W := by kernel_rfl
  have e1 : t.cells.drop (3 + 32 * i) = (b8 t.hs).drop (32 * i) := by
    rw [show 3 + 32 * i = 32 * i + 1 + 1 + 1 by omega]
    rfl
  have he : (t.cells.drop (3 + 32 * i)).take 32 = b8 (t.part i) := by
    rw [e1]
    simp [b8, Hd.part, List.map_take, List.map_drop]
  simp [part, ha, he]
/-- Are two headers one? -/
def same (t u : Hd) : Bool := t.ch == u.ch && (t.ht == u.ht && (t.tm == u.tm && (decide (t.part 0 = u.part 0) && (decide (t.part 1 = u.part 1) && (decide (t.part 2 = u.part 2) && decide (t.part 3 = u.part 3))))))
set_option maxHeartbeats 4000000 in
theorem hkey (t u : Hd) (W : World) : ∀ d : Nat, (Op.equalIn (d + 3) 58 (.agg t.cells.toArray) (.agg u.cells.toArray)).run Tryd.prog W = .ok (same t u) W := by
  have p0 : ∀ (t : Hd) (V : World), (part 9 t.cells.toArray 0).run Tryd.prog V = .ok (.string t.ch) V := fun t V => by kernel_rfl
  have p1 : ∀ (t : Hd) (V : World), (part 3 t.cells.toArray 1).run Tryd.prog V = .ok (.int .i64 t.ht) V := fun t V => by kernel_rfl
  have p2 : ∀ (t : Hd) (V : World), (part 3 t.cells.toArray 2).run Tryd.prog V = .ok (.int .i64 t.tm) V := fun t V => by kernel_rfl
  have p3 := fun (t : Hd) => part_hash t 0 3 (by decide) rfl
  have p4 := fun (t : Hd) => part_hash t 1 35 (by decide) rfl
  have p5 := fun (t : Hd) => part_hash t 2 67 (by decide) rfl
  have p6 := fun (t : Hd) => part_hash t 3 99 (by decide) rfl
  have q0 := fun d V => eqHd (t.part 0) (u.part 0) (t.part_len 0 (by decide)) (u.part_len 0 (by decide)) d V
  have q1 := fun d V => eqHd (t.part 1) (u.part 1) (t.part_len 1 (by decide)) (u.part_len 1 (by decide)) d V
  have q2 := fun d V => eqHd (t.part 2) (u.part 2) (t.part_len 2 (by decide)) (u.part_len 2 (by decide)) d V
  have q3 := fun d V => eqHd (t.part 3) (u.part 3) (t.part_len 3 (by decide)) (u.part_len 3 (by decide)) d V
  have k0 : ∀ d V, (Op.equalIn (d + 1) 9 (.string t.ch) (.string u.ch)).run Tryd.prog V = .ok (t.ch == u.ch) V := fun d V => by
    simp [Op.equalIn, run_underlying Tryd.underlying9]
  have k1 : ∀ d V, (Op.equalIn (d + 1) 3 (.int .i64 t.ht) (.int .i64 u.ht)).run Tryd.prog V = .ok (t.ht == u.ht) V := fun d V => by
    simp [Op.equalIn, run_underlying Tryd.underlying3]
  have k2 : ∀ d V, (Op.equalIn (d + 1) 3 (.int .i64 t.tm) (.int .i64 u.tm)).run Tryd.prog V = .ok (t.tm == u.tm) V := fun d V => by
    simp [Op.equalIn, run_underlying Tryd.underlying3]
  intro d
  rw [Op.equalIn]
  simp only [Sem.run_bind, run_underlying Tryd.underlying58, Result.andThen_ok]
  unfold same
  generalize (t.ch == u.ch) = e0 at *
  generalize (t.ht == u.ht) = e1 at *
  generalize (t.tm == u.tm) = e2 at *
  generalize decide (t.part 0 = u.part 0) = e3 at *
  generalize decide (t.part 1 = u.part 1) = e4 at *
  generalize decide (t.part 2 = u.part 2) = e5 at *
  generalize decide (t.part 3 = u.part 3) = e6 at *
  cases e0 with
  | false => simp [p0, p1, p2, p3, p4, p5, p6, q0, q1, q2, q3, k0, k1, k2]
  | true =>
    cases e1 with
    | false => simp [p0, p1, p2, p3, p4, p5, p6, q0, q1, q2, q3, k0, k1, k2]
    | true =>
      cases e2 with
      | false => simp [p0, p1, p2, p3, p4, p5, p6, q0, q1, q2, q3, k0, k1, k2]
      | true =>
        cases e3 with
        | false => simp [p0, p1, p2, p3, p4, p5, p6, q0, q1, q2, q3, k0, k1, k2]
        | true =>
          cases e4 with
          | false => simp [p0, p1, p2, p3, p4, p5, p6, q0, q1, q2, q3, k0, k1, k2]
          | true =>
            cases e5 with
            | false => simp [p0, p1, p2, p3, p4, p5, p6, q0, q1, q2, q3, k0, k1, k2]
            | true =>
              cases e6 with
              | false => simp [p0, p1, p2, p3, p4, p5, p6, q0, q1, q2, q3, k0, k1, k2]
              | true =>
                simp [p0, p1, p2, p3, p4, p5, p6, q0, q1, q2, q3, k0, k1, k2]
theorem heq (t u : Hd) (W : World) : (binOp .eql 58 (.agg t.cells.toArray) (.agg u.cells.toArray)).run Tryd.prog W = .ok (.bool (same t u)) W := by
  simp only [binOp]
  simp [Op.equal, Op.maxDepth, hkey t u W 9997]
theorem hneq (t u : Hd) (W : World) : (binOp .neq 58 (.agg t.cells.toArray) (.agg u.cells.toArray)).run Tryd.prog W = .ok (.bool (!same t u)) W := by
  simp only [binOp]
  simp [Op.equal, Op.maxDepth, hkey t u W 9997]
theorem ch_self (s : ByteArray) : (s == s) = true := by
  first | simp | exact beq_self_eq_true s | (obtain ⟨d⟩ := s; show (d == d) = true; simp)
theorem same_self (t : Hd) : same t t = true := by simp [same, ch_self]
theorem heq_self (t : Hd) (W : World) : (binOp .eql 58 (.agg t.cells.toArray) (.agg t.cells.toArray)).run Tryd.prog W = .ok (.bool true) W := by rw [heq, same_self]
end HdQ
end Go.Proofs.YtfmegeibnjmfpaaDoor

