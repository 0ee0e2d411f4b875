/-
  CmTe, CmSv, CmOk, CmVw, in one text.
-/
import Derived.Test.YthcemghamdmjmaaCgF
import Derived.Test.YthcemghamdmjmaaCgG
import Derived.Test.YthcemghamdmjmaaCgE
import Derived.Test.YthcemghamdmjmaaPkV
import Derived.Test.YthcemghamdmjmaaPkL
import Derived.Laws.StructEq
import Derived.Test.YthcemghamdmjmaaPkG
namespace Go.Proofs.Ythcemghamdmjmaa
namespace CmTe
open Go.RowKit
open BlkM WirM WirS CmA CmP CmB CmJ CmL CmF CmH CmT
open WirA (putZ putE)
open WirD (numB)
open WirF (wordB)
open WirE (NewB)
open WirX (Thg Bag own bag_own)
open WirAA (box bag_box)
open WirAB (sCx)
open ValJ (w_ok numB_le)
open WrwB (rwt RW RBW)
open ValA (Vd VIn)
open CmS (KIn OwnK TK TKE kcells keyAt far whoE whoL WP wp_none app_key opV)

theorem ixT (B o ln lc k : Nat) (hk : k < ln) (W : World) : (Instr.indexAt 92 (.slice (some ⟨B, o, none⟩) ln lc) (.int .i64 (k : Int))).run Try.prog W = .ok (.pointer (some ⟨B, o + k * 2, none⟩)) W := by
  have hs : (sizeOf (Try.prog.elem 92)).run Try.prog W = .ok 2 W := by kernel_rfl
  simp [Instr.indexAt, run_underlying Try.underlying92, asIntOf, go_sem]
  intro h
  omega
theorem opT (a : Operand → Value) (ob : Oper) (x y : Operand) (B o ln lc k : Nat) (ho : ob.op = Op.indexAddr 92 x y) (hx : a x = .slice (some ⟨B, o, none⟩) ln lc) (hy : a y = .int .i64 (k : Int)) (hk : k < ln) (W : World) :
    (execOp a ob).run Try.prog W = .ok (.value (.pointer (some ⟨B, o + k * 2, none⟩))) W := by
  unfold execOp
  rw [ho]
  simp only [hx, hy]
  simp [ixT B o ln lc k hk W]

/-- A writing call on the document's writer, which has room. -/
def Rr (w0 : World) (l : List Thg) (W : Nat) (lim : Int) (ys : List Int) (e : Ending) (w' : World) : Prop := e = .returned (.int .i64 0) ∧ ∃ v', Bag w0 w' (rwt W lim v' ys 0 :: l)
theorem r_num {w0 w : World} {l : List Thg} {W : Nat} {lim : Int} {v : Value} {ys : List Int} (n : Int) (h : Bag w0 w (rwt W lim v ys 0 :: l)) (h0 : 0 ≤ n) (h1 : n < 9223372036854775808) (hl : ((ys.length + (numB n).length : Nat) : Int) ≤ lim) :
    Calls Try.prog 104 #[.pointer (some ⟨W, 0, none⟩), .int .i64 n] w (Rr w0 l W lim (ys ++ numB n)) := by
  obtain ⟨e1, e2⟩ := w_ok hl
  have C := WrwC.num_any w0 w l W lim v ys 0 n h h0 h1
  rw [e1, e2] at C
  exact C
theorem r_hash {w0 w : World} {l : List Thg} {W : Nat} {lim : Int} {v : Value} {ys : List Int} (hs : List Int) (hh : hs.length = 32) (h : Bag w0 w (rwt W lim v ys 0 :: l)) (hl : ((ys.length + hs.length : Nat) : Int) ≤ lim) :
    Calls Try.prog 107 #[.pointer (some ⟨W, 0, none⟩), .agg (b8 hs).toArray] w (Rr w0 l W lim (ys ++ hs)) := by
  obtain ⟨e1, e2⟩ := w_ok hl
  have C := WrwC.hash_any w0 w l W lim v ys 0 hs hh h
  rw [e1, e2] at C
  exact C
theorem r_word {w0 w : World} {l : List Thg} {W : Nat} {lim : Int} {v : Value} {ys : List Int} (n : Int) (h : Bag w0 w (rwt W lim v ys 0 :: l)) (h0 : 0 ≤ n) (hl : ((ys.length + (wordB n).length : Nat) : Int) ≤ lim) :
    Calls Try.prog 109 #[.pointer (some ⟨W, 0, none⟩), .int .u64 n] w (Rr w0 l W lim (ys ++ wordB n)) := by
  obtain ⟨e1, e2⟩ := w_ok hl
  have C := WrwC.word_any w0 w l W lim v ys 0 n h h0
  rw [e1, e2] at C
  exact C
set_option maxRecDepth 10000 in
set_option maxHeartbeats 4000000 in
theorem rencode_bad (w : World) (ht : Int) (h : List Int) (a : Option Addr) (n c : Nat) (vs : List Vt) (hl : h.length = 32) (hv : VtIn w a n c vs) (hc : chk ht vs ≠ 0) :
    Calls Try.prog 67 #[.agg (ccl ht h (.slice a n c)).toArray] w fun e w' => e = .returned (.tuple #[.slice none 0 0, .int .i64 (chk ht vs)]) ∧ Below w.heap.size w w' := by
  have HL := WirS.hide hl
  have hbX := bag_box (w0 := w) (T := TC) (cs := ccl ht h (.slice a n c)) (X := w.heap.size) (Bag.nil (Below.refl _ _)) rfl (w' := w.alloc (.cells (ccl ht h (.slice a n c)).toArray TC)) (At.new _ _ _) (Below.alloc (Below.refl _ _) (Nat.le_refl _) _)
  have HCK := WirS.hide (fun U (hU : Below w.heap.size w U) => rcheck_any U ht h a n c vs hl (hv.below hU))
  generalize chk ht vs = cd at *
  have hn0 : (cd == 0) = false := by simpa using hc
  have hn1 : (cd != 0) = true := by simpa using hc
  clear hl hv hc
  go_enter Try.func67, Try.ntmps67
  go_upto_region 0 with fail
  refine wp_region_lit ?_
  refine sV (.pointer (some ⟨w.heap.size, 0, none⟩)) (w.alloc (.cells (ccl ht h (.slice a n c)).toArray TC)) (by kernel_rfl) (by kernel_rfl) ?_
  simp only [Act.put, List.setIfInBounds_toArray, List.set_cons_succ, List.set_cons_zero]
  obtain ⟨X, eX⟩ : ∃ A, w.heap.size = A := ⟨_, rfl⟩
  rw [eX] at hbX ⊢
  clear eX
  generalize World.alloc w _ = x0 at *
  have H0 := WirS.hide hbX
  clear hbX
  go_upto_region 1 with fail
  refine wp_region_lit ?_
  refine sL (by kernel_rfl) _ _ (by rfl) _ (by kernel_rfl) H0.out.head _ _ UC rfl (by kernel_rfl) (by rw [ccl_len _ _ _ HL.out]) ?_
  simp only [Act.put, List.setIfInBounds_toArray, List.set_cons_succ, List.set_cons_zero]
  refine sC (R := fun w' => Below x0.heap.size x0 w') (by kernel_rfl) (by kernel_rfl) (HCK.out x0 H0.out.low) ?_
  rintro x1 hb
  simp only [Act.put, List.setIfInBounds_toArray, List.set_cons_succ, List.set_cons_zero]
  have H1 := WirS.hide (H0.out.more hb)
  clear hb H0
  go_wp2_with fail
  go_ret2
  exact ⟨rfl, H1.out.low⟩
def MidE (w : World) (W X : Nat) (cx : List Value) (n : Nat) (hd : List Int) (vs : List Vt) (i : Value) (U : World) : Prop :=
  ∃ (k : Nat) (v : Value), k ≤ n ∧ i = .int .i64 (k : Int) ∧ Bag w U [rwt W 65536 v (hd ++ citems (vs.take k)) 0, box TC X cx]
set_option maxRecDepth 10000 in
set_option maxHeartbeats 8000000 in
theorem rencode_ok (w : World) (ht : Int) (h : List Int) (a : Option Addr) (n c : Nat) (vs : List Vt) (hl : h.length = 32) (hv : VtIn w a n c vs) (hc : chk ht vs = 0) :
    Calls Try.prog 67 #[.agg (ccl ht h (.slice a n c)).toArray] w (EncP w (cform ht h vs)) := by
  have hlen := hv.len
  obtain ⟨c1, c2, c3⟩ := (chk_up ht vs).1 hc
  have hn64 : n ≤ 64 := by omega
  have HL := WirS.hide hl
  have HV := WirS.hide hv
  have HLE := WirS.hide hlen
  have HOK := WirS.hide (vs_ok hc hv.ok)
  have HIL := WirS.hide (fun k => Nat.le_trans (citems_len (vs.take k) (fun x hx => hv.ok x (List.mem_of_mem_take hx))) (Nat.mul_le_mul_left 17 (List.length_take_le' k vs)))
  have HHL := WirS.hide (chead_len ht h n hl (by omega) (by omega))
  have HTL := WirS.hide (numB_le ht (by omega))
  have HNL := WirS.hide (numB_le (n : Int) (by omega))
  have HT := WirS.hide c1
  have hbX := bag_box (w0 := w) (T := TC) (cs := ccl ht h (.slice a n c)) (X := w.heap.size) (Bag.nil (Below.refl _ _)) rfl (w' := w.alloc (.cells (ccl ht h (.slice a n c)).toArray TC)) (At.new _ _ _) (Below.alloc (Below.refl _ _) (Nat.le_refl _) _)
  have HCK := WirS.hide (fun U (hU : Below w.heap.size w U) => rcheck_any U ht h a n c vs hl (hv.below hU))
  rw [hc] at HCK
  have HFM := WirS.hide (show cform ht h vs = chead ht h n ++ citems vs by unfold cform; rw [hlen])
  rw [HFM.out]
  clear hl hv hc hlen c1 c2 c3
  go_enter Try.func67, Try.ntmps67
  go_upto_region 0 with fail
  refine wp_region_lit ?_
  refine sV (.pointer (some ⟨w.heap.size, 0, none⟩)) (w.alloc (.cells (ccl ht h (.slice a n c)).toArray TC)) (by kernel_rfl) (by kernel_rfl) ?_
  simp only [Act.put, List.setIfInBounds_toArray, List.set_cons_succ, List.set_cons_zero]
  obtain ⟨X, eX⟩ : ∃ A, w.heap.size = A := ⟨_, rfl⟩
  rw [eX] at hbX ⊢
  clear eX
  generalize World.alloc w _ = x0 at *
  have H0 := WirS.hide hbX
  clear hbX
  go_upto_region 1 with fail
  refine wp_region_lit ?_
  refine sL (by kernel_rfl) _ _ (by rfl) _ (by kernel_rfl) H0.out.head _ _ UC rfl (by kernel_rfl) (by rw [ccl_len _ _ _ HL.out]) ?_
  simp only [Act.put, List.setIfInBounds_toArray, List.set_cons_succ, List.set_cons_zero]
  refine sC (R := fun w' => Below x0.heap.size x0 w') (by kernel_rfl) (by kernel_rfl) (HCK.out x0 H0.out.low) ?_
  rintro x1 hb
  simp only [Act.put, List.setIfInBounds_toArray, List.set_cons_succ, List.set_cons_zero]
  have H1 := WirS.hide (H0.out.more hb)
  clear hb H0
  go_upto_region 5 with ((go_at_call 21; refine (WrwB.new_any _ 65536 (by omega) (by omega)).mono ?_; rintro e w2 ⟨W, rfl, hW, hs, hb2⟩; have H2 := WirS.hide (Bag.new (o := rwt W 65536 (.slice none 0 0) [] 0) H1.out hb2 hs (fun k hk => by rcases hk with rfl | hk; exact hW; simp [Value.ownBlock] at hk)); clear hW hs hb2 H1))
  have HN := WirS.hide (r_num ht H2.out (by have := HT.out; omega) (by have := HT.out; omega) (by have := HTL.out; simp; omega))
  rw [List.nil_append] at HN
  have k0 : w2.cell? ⟨X, 0, none⟩ = some (.int .i64 ht) := H2.out.drop.head.cell 0
  go_upto_region 6 with ((go_at_call 104; refine (HN.out).mono ?_; rintro e w3 ⟨rfl, v3, hb⟩; have H3 := WirS.hide hb; clear hb HN))
  clear k0 H2
  refine wp_region_lit ?_
  refine sV (.pointer (some ⟨W, 0, none⟩)) (w3) (by kernel_rfl) (by kernel_rfl) ?_
  simp only [Act.put, List.setIfInBounds_toArray, List.set_cons_succ, List.set_cons_zero]
  refine sV (.pointer (some ⟨X, 1, none⟩)) (w3) (by kernel_rfl) (by kernel_rfl) ?_
  simp only [Act.put, List.setIfInBounds_toArray, List.set_cons_succ, List.set_cons_zero]
  refine wpList_load_mid' (by kernel_rfl) _ _ (by rfl) X 1 (by kernel_rfl) (b8 h) _ (range_hash H3.out.drop.head) Try.underlying34 (by rfl) (by rw [b8_len, HL.out]; kernel_rfl) ?_
  simp only [Act.put, List.setIfInBounds_toArray, List.set_cons_succ, List.set_cons_zero]
  refine sCx (by kernel_rfl) (by kernel_rfl) (r_hash h HL.out H3.out (by have := HTL.out; have := HL.out; omega)) ?_
  rintro e w4 ⟨rfl, v4, hb⟩
  refine ⟨_, rfl, ?_⟩
  simp only [Act.put, List.setIfInBounds_toArray, List.set_cons_succ, List.set_cons_zero]
  have H4 := WirS.hide hb
  clear hb H3
  have HN := WirS.hide (r_num (n : Int) H4.out (by omega) (by omega) (by have := HTL.out; have := HNL.out; have := HL.out; rw [List.length_append]; omega))
  have k33 : w4.cell? ⟨X, 33, none⟩ = some (.slice a n c) := (H4.out.drop.head.cell 33).trans (ccl_33 _ _ _ HL.out)
  go_upto_region 8 with ((go_at_call 104; refine (HN.out).mono ?_; rintro e w5 ⟨rfl, v5, hb⟩; have H5 := WirS.hide hb; clear hb HN))
  clear k33 H4
  have H6 : Hid (Bag w w5 [rwt W 65536 v5 (chead ht h n) 0, box TC X (ccl ht h (.slice a n c))]) := H5
  clear H5
  go_wp2_with fail
  go_loopw [7] (fun i wr => MidE w W X (ccl ht h (.slice a n c)) n (chead ht h n) vs i wr) (fun i _ => n - (intOf i).toNat)
  case atStart => exact ⟨0, v5, Nat.zero_le _, rfl, by rw [List.take_zero]; simpa [citems] using H6.out⟩
  case round =>
    clear H6
    obtain ⟨k, v, hk, rfl, hB⟩ := hrel
    generalize chead ht h n = hd at *
    have k33 : wr.cell? ⟨X, 33, none⟩ = some (.slice a n c) := (hB.drop.head.cell 33).trans (ccl_33 _ _ _ HL.out)
    by_cases hlt : k < n
    · obtain ⟨x, B, o, hx, hmem, rfl, hBl, hr⟩ := (HV.out.below hB.low).cell hlt
      have r0 : wr.cell? ⟨B, o + k * 2, none⟩ = some (.int .i64 x.at') := hr 0 _ rfl
      have hkl : (k : Int) < (n : Int) := by omega
      obtain ⟨o1, o2, o3, o4⟩ := HOK.out x hmem
      have hil := HIL.out k
      have hhl := HHL.out
      have hvl := HLE.out
      have hil2 : (citems (vs.take k)).length ≤ 1088 := Nat.le_trans hil (by omega)
      have hal := numB_le x.at' (by omega)
      have HK := WirS.hide (r_num x.at' hB o1 o2 (by rw [List.length_append]; omega))
      have HW := WirS.hide (fun (U : World) (v' : Value) (hb : Bag w U [rwt W 65536 v' ((hd ++ citems (vs.take k)) ++ numB x.at') 0, box TC X (ccl ht h (.slice (some ⟨B, o, none⟩) n c))]) => r_word x.sg hb o3 (by simp only [List.length_append, wordB_len]; omega))
      have HXX := WirS.hide hx
      have HR1 := WirS.hide (fun (U : World) (hU : Below w.heap.size w U) => show U.cell? ⟨B, o + k * 2 + 1, none⟩ = some (.int .u64 x.sg) from by
        obtain ⟨x', B', o', hx', _, e', _, hr'⟩ := (HV.out.below hU).cell hlt
        cases e'
        rw [hx] at hx'
        cases hx'
        exact hr' 1 _ rfl)
      clear hr hx hmem hB o1 o2 o3 o4 hil hhl hvl hil2 hal
      go_wp2_with (first | (go_at_call 104; refine (HK.out).mono ?_; rintro e u1 ⟨rfl, v1, hb1⟩; have HB1 := WirS.hide hb1; have l33 : u1.cell? ⟨X, 33, none⟩ = some (.slice (some ⟨B, o, none⟩) n c) := (hb1.drop.head.cell 33).trans (ccl_33 _ _ _ HL.out); have l1 := HR1.out u1 hb1.low; clear hb1) | (go_at_call 109; refine (HW.out _ _ HB1.out).mono ?_; rintro e u2 ⟨rfl, v2, hb2⟩; have HB2 := WirS.hide hb2; clear hb2))
      go_roundw
      case rel => exact ⟨k + 1, v2, by omega, by go_num, by rw [citems_succ HXX.out, ← List.append_assoc, ← List.append_assoc]; exact HB2.out⟩
      case measure => simp [intOf]; omega
    · obtain rfl : k = n := by omega
      have hD := WrwB.done_ok wr W 65536 v _ hB.head
      rw [List.take_of_length_le (by rw [HLE.out]; exact Nat.le_refl _)] at hD
      have HD := WirS.hide hD
      have HBl := WirS.hide hB.low
      clear hB hD
      go_wp2_with ((go_at_call 28; refine (HD.out).mono ?_; rintro e u2 ⟨da, dn, dc, rfl, ho, hnw, hb⟩; have HO := WirS.hide ho; have HNW := WirS.hide hnw; have HB2 := WirS.hide hb; clear ho hnw hb))
      go_ret2
      exact ⟨_, _, _, rfl, HO.out, fun q hq => Nat.le_trans HBl.out.size (HNW.out q hq), HBl.out.trans (HB2.out.mono HBl.out.size)⟩
/-! ### Who -/
def MidW (w : World) (X : Nat) (cx : List Value) (vs : List Vt) (ls : List Vd) (n : Nat) (s i : Value) (U : World) : Prop :=
  ∃ (k : Nat) (sa : Option Addr) (sn sc : Nat), k ≤ n ∧ i = .int .i64 (k : Int) ∧ s = .slice sa sn sc ∧ OwnK U (.slice sa sn sc) ((vs.take k).map (keyAt ls)) ∧ CmI.NewB w (.slice sa sn sc) ∧ far ls.length vs = far ls.length (vs.drop k) ∧ Below w.heap.size w U ∧ At U X TC cx ∧ (Value.slice sa sn sc).ownBlock ≠ some X
set_option maxRecDepth 10000 in
set_option maxHeartbeats 8000000 in
theorem rwho_any (w : World) (ht : Int) (h : List Int) (a b : Option Addr) (n c m d : Nat) (vs : List Vt) (ls : List Vd) (hl : h.length = 32) (hv : VtIn w a n c vs) (hw : VIn w b m d ls) (_hm : m ≤ 1000) :
    Calls Try.prog 69 #[.agg (ccl ht h (.slice a n c)).toArray, .slice b m d] w (WP w (whoE ht vs m) (whoL ht vs ls)) := by
  obtain ⟨X, eX⟩ : ∃ A, w.heap.size = A := ⟨_, rfl⟩
  obtain ⟨W0, e0⟩ : ∃ Y, Y = w.alloc (.cells (ccl ht h (.slice a n c)).toArray TC) := ⟨_, rfl⟩
  have hA : At W0 X TC (ccl ht h (.slice a n c)) := by rw [e0, ← eX]; exact At.new w _ _
  have hB : Below w.heap.size w W0 := by rw [e0]; exact Below.alloc (Below.refl _ _) (Nat.le_refl _) _
  have HA := WirS.hide hA
  have HB := WirS.hide hB
  have HV := WirS.hide hv
  have HW := WirS.hide hw
  have HLN := WirS.hide hv.len
  have HLM := WirS.hide hw.len
  have HL := WirS.hide hl
  have E0 := WirS.hide e0
  have EX := WirS.hide eX
  have HCK := WirS.hide (rcheck_any W0 ht h a n c vs hl (hv.below hB))
  clear hA hB e0
  by_cases hc : chk ht vs = 0
  · have hup := (chk_up ht vs).1 hc
    have hn64 : n ≤ 64 := by have := hup.2.1; have := hv.len; omega
    have HUP := WirS.hide hup.2.2
    have hwE : whoE ht vs m = if far m vs = true then 3 else 0 := by unfold whoE; rw [if_neg (by simpa using hc)]
    have hwL : whoL ht vs ls = if far m vs = true then [] else vs.map (keyAt ls) := by
      unfold whoL
      rw [hw.len, hwE]
      by_cases e : far m vs = true
      · rw [if_pos e, if_pos e, if_neg (by decide)]
      · rw [if_neg e, if_neg e, if_pos rfl]
    obtain ⟨rc, hrc⟩ : ∃ r : Int, (if far m vs = true then 3 else 0) = r := ⟨_, rfl⟩
    obtain ⟨rk, hrk⟩ : ∃ r : List (List Int), (if far m vs = true then [] else vs.map (keyAt ls)) = r := ⟨_, rfl⟩
    rw [hwE, hwL, hrc, hrk]
    have HRC := WirS.hide hrc
    have HRK := WirS.hide hrk
    rw [hc] at HCK
    clear hl hv hw hc hup hwE hwL hrc hrk
    go_enter Try.func69, Try.ntmps69
    go_upto_region 1 with fail
    rw [show w.alloc (.cells (ccl ht h (.slice a n c)).toArray TC) = W0 from E0.out.symm]
    clear E0 eX
    refine wp_region_lit ?_
    refine sL (by kernel_rfl) _ _ (by rfl) _ (by kernel_rfl) HA.out _ _ CmJ.UC rfl (by kernel_rfl) (by rw [ccl_len _ _ _ HL.out]) ?_
    simp only [Act.put, List.setIfInBounds_toArray, List.set_cons_succ, List.set_cons_zero]
    refine sC (R := fun w' => Below W0.heap.size W0 w') (by kernel_rfl) (by kernel_rfl) HCK.out ?_
    rintro u0 hb
    simp only [Act.put, List.setIfInBounds_toArray, List.set_cons_succ, List.set_cons_zero]
    have HA0 := WirS.hide (HA.out.below hb HA.out.lt)
    have HB0 := WirS.hide (HB.out.trans (hb.mono HB.out.size))
    clear hb HCK
    have HST := WirS.hide (show MidW w X (ccl ht h (.slice a n c)) vs ls n (.slice none 0 0) (.int .i64 0) u0 from ⟨0, none, 0, 0, Nat.zero_le _, rfl, rfl, OwnK.nil u0, (fun k hk => by simp [Value.ownBlock] at hk), rfl, HB0.out, HA0.out, by simp [Value.ownBlock]⟩)
    go_wp2_with fail
    go_loopw [7, 8] (fun s i wr => MidW w X (ccl ht h (.slice a n c)) vs ls n s i wr) (fun _ i _ => n - (intOf i).toNat)
    case atStart => exact HST.out
    case round =>
      clear HST HA0
      obtain ⟨k, sa, sn, sc, hk, rfl, rfl, hO, hNB, hE, hBw, hAX, hoX⟩ := hrel
      have HO := WirS.hide hO
      have HNB := WirS.hide hNB
      have HBW := WirS.hide hBw
      have HAX := WirS.hide hAX
      have HOX := WirS.hide hoX
      have k33 : wr.cell? ⟨X, 33, none⟩ = some (.slice a n c) := (hAX.cell 33).trans (ccl_33 _ _ _ HL.out)
      rw [HLM.out] at hE
      by_cases hlt : k < n
      · obtain ⟨x, Bx, ox, hx, hmem, rfl, hBl2, hr⟩ := (HV.out.below hBw).cell hlt
        have hkl : (k : Int) < (n : Int) := by omega
        have hxp := HUP.out.rng x hmem
        have htk : vs.take k ++ [x] = vs.take (k + 1) := by rw [List.take_add_one, hx]; rfl
        rw [drop_get hx] at hE
        have HTK := WirS.hide htk
        obtain ⟨q, hq⟩ : ∃ q : Nat, x.at' = (q : Int) := ⟨x.at'.toNat, by omega⟩
        have r0 : wr.cell? ⟨Bx, ox + k * 2, none⟩ = some (.int .i64 (q : Int)) := by rw [← hq]; exact hr 0 _ rfl
        by_cases hqm : (m : Int) ≤ (q : Int)
        · have hE2 : far m vs = true := by rw [hE]; simp [far, hq]; exact .inl (by omega)
          have HE := WirS.hide hE2
          have d1 : decide ((m : Int) ≤ (q : Int)) = true := by simpa using hqm
          clear hE hE2 hq hr hx hmem hxp hO hNB hBw htk hAX hoX
          go_wp2_with fail
          refine bodyPost_ret (v := .tuple #[.slice none 0 0, .int .i64 3]) (by simp [results, Try.results69, go_sem]) rfl ?_
          rw [← HRC.out, ← HRK.out, if_pos HE.out, if_pos HE.out]
          exact wp_none rfl HBW.out
        · have hE2 : far m vs = far m (vs.drop (k + 1)) := by rw [hE]; simp [far, hq]; omega
          have HE := WirS.hide hE2
          have d1 : decide ((m : Int) ≤ (q : Int)) = false := by simpa using hqm
          have hqm2 : q < m := by omega
          obtain ⟨y, By, oy, hy, _, rfl, _, hyr⟩ := (HW.out.below hBw).cell hqm2
          have hky : keyAt ls x = y.key := by unfold keyAt; rw [hq, Int.toNat_natCast, hy]; rfl
          have HKR := WirS.hide (show wr.rangeAt By (oy + q * 5) (b8 y.key) from fun j v hj => hyr j v (by
            have hj4 : j < 4 := (List.getElem?_eq_some_iff.1 hj).1
            have : ∀ j, j < 4 → (b8 y.key)[j]? = y.cells[j]? := fun j h => by
              obtain rfl | rfl | rfl | rfl : j = 0 ∨ j = 1 ∨ j = 2 ∨ j = 3 := by omega
              all_goals rfl
            rw [← this j hj4]
            exact hj))
          have hsl : sn = ((vs.take k).map (keyAt ls)).length := by obtain ⟨va, vc, e⟩ := HO.out.len_of; cases e; rfl
          have hal : Below wr.heap.size wr (wr.alloc (.cells (b8 y.key).toArray TKE)) := Below.alloc (Below.refl _ _) (Nat.le_refl _) _
          obtain ⟨v', u9, hrun, ho, hf, hnw⟩ := app_key (wr.alloc (.cells (b8 y.key).toArray TKE)) TK (.slice sa sn sc) ((vs.take k).map (keyAt ls)) y.key rfl wr.heap.size (HO.out.below hal) (At.new _ _ _) (by rw [List.length_map, List.length_take]; omega)
          obtain ⟨ia, ic, rfl⟩ := ho.len_of
          have HIO := WirS.hide (show OwnK u9 (.slice ia ((vs.take k).map (keyAt ls) ++ [y.key]).length ic) ((vs.take (k + 1)).map (keyAt ls)) from by rw [← HTK.out, List.map_append, List.map_cons, List.map_nil, hky]; exact ho)
          obtain ⟨im, him⟩ : ∃ i, ((vs.take k).map (keyAt ls) ++ [y.key]).length = i := ⟨_, rfl⟩
          rw [him] at HIO hrun hnw
          have HBF := WirS.hide (show Below w.heap.size w u9 from (HBW.out.trans (hal.mono HBW.out.size)).trans (hf.below (Nat.le_trans HBW.out.size hal.size) (fun q hq hx => by have := HNB.out q hx; omega)))
          have HNN := WirS.hide (show CmI.NewB w (.slice ia im ic) from fun q hq => by
            rcases hnw q hq with h | h
            · exact HNB.out q h
            · exact Nat.le_trans (Nat.le_trans HBW.out.size hal.size) h)
          have HAN := WirS.hide (show At u9 X TC (ccl ht h (.slice (some ⟨Bx, ox, none⟩) n c)) from At.fr (hAX.below hal hAX.lt) hf hoX)
          have HON := WirS.hide (show (Value.slice ia im ic).ownBlock ≠ some X from fun e => by
            rcases hnw X e with h | h
            · exact hoX h
            · have := hAX.lt
              simp at h
              omega)
          have HRUN := WirS.hide hrun
          clear hE hE2 hy hyr hky hsl hal ho hf hnw hrun him hq hr hx hmem hxp hO hNB hBw htk hAX hoX
          go_upto_region 10 with fail
          refine wp_region_lit ?_
          refine sV (.slice sa sn sc) (wr) (by kernel_rfl) (by kernel_rfl) ?_
          simp only [Act.put, List.setIfInBounds_toArray, List.set_cons_succ, List.set_cons_zero]
          refine sV (.slice (some ⟨By, oy, none⟩) m d) (wr) (by kernel_rfl) (by kernel_rfl) ?_
          simp only [Act.put, List.setIfInBounds_toArray, List.set_cons_succ, List.set_cons_zero]
          refine sV (.pointer (some ⟨X, 33, none⟩)) (wr) (by kernel_rfl) (by kernel_rfl) ?_
          simp only [Act.put, List.setIfInBounds_toArray, List.set_cons_succ, List.set_cons_zero]
          refine sP (by kernel_rfl) _ _ (by rfl) ⟨X, 33, none⟩ (by kernel_rfl) (.slice (some ⟨Bx, ox, none⟩) n c) k33 (by kernel_rfl) ?_
          simp only [Act.put, List.setIfInBounds_toArray, List.set_cons_succ, List.set_cons_zero]
          refine sV (.int .i64 (k : Int)) (wr) (by kernel_rfl) (by kernel_rfl) ?_
          simp only [Act.put, List.setIfInBounds_toArray, List.set_cons_succ, List.set_cons_zero]
          refine sV (.pointer (some ⟨Bx, ox + k * 2, none⟩)) wr (by kernel_rfl) (opT _ _ _ _ Bx ox n c k (by rfl) (by kernel_rfl) (by kernel_rfl) hlt wr) ?_
          simp only [Act.put, List.setIfInBounds_toArray, List.set_cons_succ, List.set_cons_zero]
          refine sV (.pointer (some ⟨Bx, ox + k * 2, none⟩)) (wr) (by kernel_rfl) (by kernel_rfl) ?_
          simp only [Act.put, List.setIfInBounds_toArray, List.set_cons_succ, List.set_cons_zero]
          refine sP (by kernel_rfl) _ _ (by rfl) ⟨Bx, ox + k * 2, none⟩ (by kernel_rfl) (.int .i64 (q : Int)) r0 (by kernel_rfl) ?_
          simp only [Act.put, List.setIfInBounds_toArray, List.set_cons_succ, List.set_cons_zero]
          refine sV (.pointer (some ⟨By, oy + q * 5, none⟩)) wr (by kernel_rfl) (opV _ _ (.tmp 31) (.tmp 37) By oy m d q (by kernel_rfl) (by kernel_rfl) (by kernel_rfl) hqm2 wr) ?_
          simp only [Act.put, List.setIfInBounds_toArray, List.set_cons_succ, List.set_cons_zero]
          refine sV (.pointer (some ⟨By, oy + q * 5, none⟩)) (wr) (by kernel_rfl) (by kernel_rfl) ?_
          simp only [Act.put, List.setIfInBounds_toArray, List.set_cons_succ, List.set_cons_zero]
          refine wpList_load_mid (by rfl) _ _ (by rfl) By (oy + q * 5) (by kernel_rfl) (b8 y.key) _ HKR.out Try.underlying36 (by rfl) (by kernel_rfl) ?_
          simp only [Act.put, List.setIfInBounds_toArray, List.set_cons_succ, List.set_cons_zero]
          refine sV (.slice (some ⟨wr.heap.size, 0, none⟩) 1 1) (wr.alloc (.cells (b8 y.key).toArray TKE)) (by kernel_rfl) (by kernel_rfl) ?_
          simp only [Act.put, List.setIfInBounds_toArray, List.set_cons_succ, List.set_cons_zero]
          refine sA (by kernel_rfl) TK TK _ _ (by rfl) (.slice sa sn sc) (.slice (some ⟨wr.heap.size, 0, none⟩) 1 1) (by kernel_rfl) (by kernel_rfl) (.slice ia im ic) (u9) HRUN.out ?_
          simp only [Act.put, List.setIfInBounds_toArray, List.set_cons_succ, List.set_cons_zero]
          clear HRUN
          go_wp2_with fail
          go_roundw
          case rel => exact ⟨k + 1, ia, im, ic, by omega, by go_num, rfl, HIO.out, HNN.out, by rw [HLM.out]; exact HE.out, HBF.out, HAN.out, HON.out⟩
          case measure => simp [intOf]; omega
      · have hkn : k = n := by omega
        have hE2 : ¬ far m vs = true := by
          rw [hE, List.drop_eq_nil_of_le (by rw [HLN.out]; omega)]
          simp [far]
        have HE := WirS.hide hE2
        have HOF : Hid (OwnK wr (.slice sa sn sc) (vs.map (keyAt ls))) := by
          have h := HO.out
          rw [List.take_of_length_le (by rw [HLN.out]; omega)] at h
          exact h
        clear hE hE2 hO hNB hBw hkn hAX hoX
        go_wp2_with fail
        refine bodyPost_ret (v := .tuple #[.slice sa sn sc, .int .i64 0]) (by simp [results, Try.results69, go_sem]) rfl ?_
        rw [← HRC.out, ← HRK.out, if_neg HE.out, if_neg HE.out]
        exact ⟨sa, sn, sc, rfl, HOF.out, HNB.out, HBW.out⟩
  · have hwE : whoE ht vs m = chk ht vs := by unfold whoE; rw [if_pos hc]
    have hwL : whoL ht vs ls = [] := by unfold whoL; rw [hw.len, hwE, if_neg hc]
    rw [hwE, hwL]
    generalize chk ht vs = cd at *
    have d1 : (cd != 0) = true := by simpa using hc
    clear hl hv hw hc hwE hwL
    go_enter Try.func69, Try.ntmps69
    go_upto_region 1 with fail
    rw [show w.alloc (.cells (ccl ht h (.slice a n c)).toArray TC) = W0 from E0.out.symm]
    clear E0 eX
    refine wp_region_lit ?_
    refine sL (by kernel_rfl) _ _ (by rfl) _ (by kernel_rfl) HA.out _ _ CmJ.UC rfl (by kernel_rfl) (by rw [ccl_len _ _ _ HL.out]) ?_
    simp only [Act.put, List.setIfInBounds_toArray, List.set_cons_succ, List.set_cons_zero]
    refine sC (R := fun w' => Below W0.heap.size W0 w') (by kernel_rfl) (by kernel_rfl) HCK.out ?_
    rintro u0 hb
    simp only [Act.put, List.setIfInBounds_toArray, List.set_cons_succ, List.set_cons_zero]
    have HB0 := WirS.hide (HB.out.trans (hb.mono HB.out.size))
    clear hb HCK
    go_wp2_with fail
    refine bodyPost_ret (v := .tuple #[.slice none 0 0, .int .i64 cd]) (by simp [results, Try.results69, go_sem]) rfl ?_
    exact wp_none rfl HB0.out
end CmTe
end Go.Proofs.Ythcemghamdmjmaa

namespace Go.Proofs.Ythcemghamdmjmaa
namespace CmSv
open Go.RowKit
open BlkM WirM WirS WirA WirB ValA 
open WirBE (eqItems4 ext4)

theorem eqKd (l m : List Int) (hl : l.length = 4) (hm : m.length = 4) (d : Nat) (W : World) : (Op.equalIn (d + 1 + 1) 36 (.agg (b8 l).toArray) (.agg (b8 m).toArray)).run Try.prog W = .ok (decide (l = m)) W := by
  have hi : (Try.prog.info? 5).isSome = true := by kernel_rfl
  obtain ⟨i, hi⟩ := Option.isSome_iff_exists.1 hi
  have hc : Try.prog.cellsOf 5 = 1 := by kernel_rfl
  rw [run_equalIn_array W (d + 1) (b8 l).toArray (b8 m).toArray Try.underlying36 hi, hc, eqItems4 l m hl hm d W (List.range 4) (fun i hi => List.mem_range.1 hi)]
  simp only [ext4 hl hm]
def Vd.same (x y : Vd) : Bool := decide (x.key = y.key) && x.p == y.p
theorem Vd.same_iff (x y : Vd) : Vd.same x y = true ↔ x = y := by
  cases x
  cases y
  simp [Vd.same, Vd.key]
  omega
theorem part_key (x : Vd) (W : World) : (part 36 #[.int .u8 x.a, .int .u8 x.b, .int .u8 x.c, .int .u8 x.d, .int .i64 x.p] 0).run Try.prog W = .ok (.agg (b8 x.key).toArray) W := by kernel_rfl
theorem part_pow (x : Vd) (W : World) : (part 3 #[.int .u8 x.a, .int .u8 x.b, .int .u8 x.c, .int .u8 x.d, .int .i64 x.p] 4).run Try.prog W = .ok (.int .i64 x.p) W := by kernel_rfl
theorem eq_vals (x y : Vd) (W : World) : (binOp .eql 187 (.agg #[.int .u8 x.a, .int .u8 x.b, .int .u8 x.c, .int .u8 x.d, .int .i64 x.p]) (.agg #[.int .u8 y.a, .int .u8 y.b, .int .u8 y.c, .int .u8 y.d, .int .i64 y.p])).run Try.prog W = .ok (.bool (Vd.same x y)) W := by
  have hf : (Try.prog.fieldsOf 187).toList.map (fun f => (f.name, f.type, f.offset)) = [("Key", 36, 0), ("Power", 3, 4)] := by kernel_rfl
  have h : (Op.equalIn (9997 + 1 + 1 + 1) 187 (.agg #[.int .u8 x.a, .int .u8 x.b, .int .u8 x.c, .int .u8 x.d, .int .i64 x.p]) (.agg #[.int .u8 y.a, .int .u8 y.b, .int .u8 y.c, .int .u8 y.d, .int .i64 y.p])).run Try.prog W = .ok (Vd.same x y) W := by
    rw [run_equalIn_struct W (9997 + 1 + 1) 187 _ _ (by kernel_rfl) (by kernel_rfl)]
    generalize (Try.prog.fieldsOf 187).toList = L at hf ⊢
    obtain _ | ⟨f1, _ | ⟨f2, _ | ⟨f3, L⟩⟩⟩ := L
    · simp at hf
    · simp at hf
    · simp only [List.map_cons, List.map_nil, List.cons.injEq, Prod.mk.injEq, and_true] at hf
      obtain ⟨⟨n1, t1, o1⟩, n2, t2, o2⟩ := hf
      have e2 : (Op.equalIn (9997 + 1 + 1) 3 (.int .i64 x.p) (.int .i64 y.p)).run Try.prog W = .ok (x.p == y.p) W := run_equalIn_int W (9997 + 1) 3 .i64 .i64 x.p y.p Try.underlying3
      simp only [Op.eqFields, n1, t1, o1, n2, t2, o2, show (("Key" : String) ≠ "_") = True by simp, show (("Power" : String) ≠ "_") = True by simp, if_true, Sem.run_bind, part_key, part_pow, eqKd _ _ (show x.key.length = 4 from rfl) (show y.key.length = 4 from rfl), e2, Result.andThen_ok, Sem.run_ite, Sem.run_pure]
      unfold Vd.same
      by_cases hk : x.key = y.key <;> by_cases hp : x.p = y.p <;> simp [hk, hp]
    · simp at hf
  simp only [binOp]
  simp [Op.equal, Op.maxDepth, h]
theorem eq_val (x : Vd) (W : World) : (binOp .eql 187 (.agg #[.int .u8 x.a, .int .u8 x.b, .int .u8 x.c, .int .u8 x.d, .int .i64 x.p]) (.agg #[.int .u8 x.a, .int .u8 x.b, .int .u8 x.c, .int .u8 x.d, .int .i64 x.p])).run Try.prog W = .ok (.bool true) W := by
  rw [eq_vals, (Vd.same_iff x x).2 rfl]
def MidS (w : World) (n : Nat) (s i : Value) (U : World) : Prop := ∃ k : Nat, k ≤ n ∧ s = .bool true ∧ i = .int .i64 (k : Int) ∧ Below w.heap.size w U
set_option maxRecDepth 10000 in
set_option maxHeartbeats 2000000 in
theorem same_any (w : World) (a b : Option Addr) (n c d : Nat) (vs : List Vd) (h : VIn w a n c vs) (h' : VIn w b n d vs) :
    Calls Try.prog 53 #[.slice a n c, .slice b n d] w fun e w' => e = .returned (.bool true) ∧ Below w.heap.size w w' := by
  have hns : n ≤ 9223372036854775807 := Nat.le_trans h.cap h.small
  have H := WirS.hide h
  have H' := WirS.hide h'
  clear h h'
  go_enter Try.func53, Try.ntmps53
  go_wp2_with fail
  go_loopw [5, 6] (fun s i wr => MidS w n s i wr) (fun _ i _ => n - (intOf i).toNat)
  case atStart => exact ⟨0, Nat.zero_le _, by simp, rfl, Below.refl _ _⟩
  case round =>
    obtain ⟨k, hk, rfl, rfl, hB⟩ := hrel
    by_cases hlt : k < n
    · obtain ⟨x, B, o, hx, hmem, rfl, hBl, hr⟩ := (H.out.below hB).cell hlt
      obtain ⟨y, B', o', hy, hmem', rfl, hBl', hr'⟩ := (H'.out.below hB).cell hlt
      obtain rfl : x = y := by rw [hx] at hy; exact Option.some.inj hy
      have r0 : wr.cell? ⟨B, o + k * 5, none⟩ = some (.int .u8 x.a) := hr 0 _ rfl
      have r1 : wr.cell? ⟨B, o + k * 5 + 1, none⟩ = some (.int .u8 x.b) := hr 1 _ rfl
      have r2 : wr.cell? ⟨B, o + k * 5 + 2, none⟩ = some (.int .u8 x.c) := hr 2 _ rfl
      have r3 : wr.cell? ⟨B, o + k * 5 + 3, none⟩ = some (.int .u8 x.d) := hr 3 _ rfl
      have r4 : wr.cell? ⟨B, o + k * 5 + 4, none⟩ = some (.int .i64 x.p) := hr 4 _ rfl
      have s0 : wr.cell? ⟨B', o' + k * 5, none⟩ = some (.int .u8 x.a) := hr' 0 _ rfl
      have s1 : wr.cell? ⟨B', o' + k * 5 + 1, none⟩ = some (.int .u8 x.b) := hr' 1 _ rfl
      have s2 : wr.cell? ⟨B', o' + k * 5 + 2, none⟩ = some (.int .u8 x.c) := hr' 2 _ rfl
      have s3 : wr.cell? ⟨B', o' + k * 5 + 3, none⟩ = some (.int .u8 x.d) := hr' 3 _ rfl
      have s4 : wr.cell? ⟨B', o' + k * 5 + 4, none⟩ = some (.int .i64 x.p) := hr' 4 _ rfl
      have hkl : (k : Int) < (n : Int) := by omega
      have HB := WirS.hide hB
      have hq := eq_val x
      clear hr hx hB hmem hr' hmem' hy
      go_upto_region 5 with fail
      go_quiet (fail)
      go_wp2_with fail
      go_roundw
      case rel => exact ⟨k + 1, by omega, rfl, by go_num, by first | exact below_drewN (below_drewN HB.out _) _ | exact below_drewN HB.out _⟩
      case measure => simp [intOf]; omega
    · have HB := WirS.hide hB
      clear hB
      go_wp2_with fail
      go_ret
      exact ⟨rfl, HB.out⟩
def NewB (w : World) (v : Value) : Prop := ∀ k, v.ownBlock = some k → w.heap.size ≤ k
theorem ownv_new (w : World) : OwnV (w.alloc (.cells #[] 187)) (.slice (some ⟨w.heap.size, 0, none⟩) 0 0) [] := ⟨World.ownsRow_made w #[] 0 (Nat.zero_le _) (Nat.zero_le _) (by simp), fun x hx => by cases hx⟩
theorem cp_row (w : World) (a : Option Addr) (n c : Nat) (vs : List Vd) (h : VIn w a n c vs) (hn : n ≤ 1000) :
    ∃ v1 u1, (Builtin.append_ #[80, 80] 80 #[.slice (some ⟨w.heap.size, 0, none⟩) 0 0, .slice a n c]).run Try.prog (w.alloc (.cells #[] 187)) = .ok v1 u1 ∧ OwnV u1 v1 vs ∧ NewB w v1 ∧ Below w.heap.size w u1 := by
  have hb : Below w.heap.size w (w.alloc (.cells #[] 187)) := Below.alloc (Below.refl _ _) (Nat.le_refl _) _
  have hl := h.len
  obtain ⟨v', u', hrun, ho, hf, hn'⟩ := app_vals (w.alloc (.cells #[] 187)) 80 80 (.slice (some ⟨w.heap.size, 0, none⟩) 0 0) (.slice a n c) [] vs (ownv_new w) ((h.below hb).src Try.underlying80) h.ok (by simp; omega)
  refine ⟨v', u', hrun, ho, fun q hq => ?_, hb.trans (hf.below (by simp) (fun q hq hx => by simp [Value.ownBlock] at hx; omega))⟩
  rcases hn' q hq with h3 | h3
  · simp [Value.ownBlock] at h3
    omega
  · simp at h3
    omega
theorem copyv_any (w : World) (a : Option Addr) (n c : Nat) (vs : List Vd) (h : VIn w a n c vs) (hn : n ≤ 1000) :
    Calls Try.prog 63 #[.slice a n c] w fun e w' => ∃ va vc, e = .returned (.slice va n vc) ∧ OwnV w' (.slice va n vc) vs ∧ NewB w (.slice va n vc) ∧ Below w.heap.size w w' := by
  have hl := h.len
  obtain ⟨v1, u1, hrun, ho, hnb, hb⟩ := cp_row w a n c vs h hn
  obtain ⟨va, vc, rfl⟩ := ho.len_of
  rw [hl] at ho hnb hrun
  have HO := WirS.hide ho
  have HN := WirS.hide hnb
  have HB := WirS.hide hb
  clear h ho hnb hb hl
  go_enter Try.func63, Try.ntmps63
  go_upto_region 1 with fail
  refine wp_region_lit ?_
  refine sV (.slice (some ⟨w.heap.size, 0, none⟩) 0 0) (w.alloc (.cells #[] 187)) (by kernel_rfl) (by kernel_rfl) ?_
  simp only [Act.put, List.setIfInBounds_toArray, List.set_cons_succ, List.set_cons_zero]
  refine sV (.slice a n c) (w.alloc (.cells #[] 187)) (by kernel_rfl) (by kernel_rfl) ?_
  simp only [Act.put, List.setIfInBounds_toArray, List.set_cons_succ, List.set_cons_zero]
  refine sA (by kernel_rfl) 80 80 _ _ (by rfl) (.slice (some ⟨w.heap.size, 0, none⟩) 0 0) (.slice a n c) (by kernel_rfl) (by kernel_rfl) (.slice va n vc) (u1) hrun ?_
  simp only [Act.put, List.setIfInBounds_toArray, List.set_cons_succ, List.set_cons_zero]
  go_wp2_with fail
  go_ret
  exact ⟨_, _, rfl, HO.out, HN.out, HB.out⟩
end CmSv
end Go.Proofs.Ythcemghamdmjmaa

namespace Go.Proofs.Ythcemghamdmjmaa
namespace CmOk
open Go.RowKit
open BlkM WirM WirS CmA CmS

def MidOk (W0 : World) (g n : Nat) (i : Value) (U : World) : Prop := ∃ (k : Nat) (cur : Array Value), k ≤ n ∧ i = .int .i64 (k : Int) ∧ U.heap[g]? = some (.cells cur TKE) ∧ n * 4 ≤ cur.size ∧ Fr (fun k => k = g) W0 U
theorem row_cell {U : World} {g j : Nat} {cur : Array Value} {T : TypeId} (h : U.heap[g]? = some (.cells cur T)) (hj : j < cur.size) : (∃ v, U.cell? ⟨g, j, none⟩ = some v) ∧ U.frozen? ⟨g, j, none⟩ = false := by
  refine ⟨⟨cur[j], ?_⟩, by simp [World.frozen?, h]⟩
  simp only [World.cell?, h]
  simp [hj]
set_option maxRecDepth 10000 in
set_option maxHeartbeats 2000000 in
theorem over_any (w : World) (a : Option Addr) (n c : Nat) (ks : List (List Int)) (hv : OwnK w (.slice a n c) ks) (hn : n ≤ 1000) :
    Calls Try.prog 73 #[.slice a n c] w fun e w' => e = .returned (.tuple #[]) ∧ Fr (fun k => (Value.slice a n c).ownBlock = some k) w w' := by
  by_cases h0 : n = 0
  · subst h0
    clear hv
    go_enter Try.func73, Try.ntmps73
    go_wp2_with fail
    refine wp_loop_rounds 1 ?_
    rw [rounds_succ]
    go_wp2_with fail
    first | go_end0 | refine bodyPost_ret (results_none rfl _ _ _) rfl ?_
    exact ⟨rfl, Fr.refl _ _⟩
  · obtain ⟨g, cur, rfl, hg, hs⟩ : ∃ g cur, a = some ⟨g, 0, none⟩ ∧ w.heap[g]? = some (.cells cur TKE) ∧ n * 4 ≤ cur.size := by
      obtain ⟨⟨hl2, ⟨e, _⟩ | ⟨g, cap, cur, e, hb, hg, h1, h2, h3, h4⟩⟩, _⟩ := hv
      · cases e
        exact absurd rfl h0
      · cases e
        exact ⟨g, cur, rfl, hg, by omega⟩
    have HST := WirS.hide (show MidOk w g n (.int .i64 0) w from ⟨0, cur, Nat.zero_le _, rfl, hg, hs, Fr.refl _ _⟩)
    clear hg hs hv
    go_enter Try.func73, Try.ntmps73
    go_wp2_with fail
    go_loopw [2] (fun i wr => MidOk w g n i wr) (fun i _ => n - (intOf i).toNat)
    case atStart => exact HST.out
    case round =>
      clear HST
      obtain ⟨k, cur, hk, rfl, hg, hs, hf⟩ := hrel
      have HF := WirS.hide hf
      by_cases hlt : k < n
      · obtain ⟨⟨v0, c0⟩, f0⟩ := row_cell (j := k * 4) hg (by omega)
        obtain ⟨⟨v1, c1⟩, f1⟩ := row_cell (j := k * 4 + 1) hg (by omega)
        obtain ⟨⟨v2, c2⟩, f2⟩ := row_cell (j := k * 4 + 2) hg (by omega)
        obtain ⟨⟨v3, c3⟩, f3⟩ := row_cell (j := k * 4 + 3) hg (by omega)
        have hkl : (k : Int) < (n : Int) := by omega
        have HG := WirS.hide hg
        have HS := WirS.hide hs
        clear hg hs hf
        go_wp2_with fail
        go_roundw
        case rel =>
          refine ⟨k + 1, _, by omega, by go_num, heap_setCell_same _ _ _ _ _ _ (heap_setCell_same _ _ _ _ _ _ (heap_setCell_same _ _ _ _ _ _ (heap_setCell_same _ _ _ _ _ _ HG.out))), by simpa using HS.out, ?_⟩
          exact (((HF.out.setCell g _ _ (fun _ => rfl)).setCell g _ _ (fun _ => rfl)).setCell g _ _ (fun _ => rfl)).setCell g _ _ (fun _ => rfl)
        case measure => simp [intOf]; omega
      · have hkl : ¬ (k : Int) < (n : Int) := by omega
        clear hg hs hf
        go_wp2_with fail
        first | go_end0 | refine bodyPost_ret (results_none rfl _ _ _) rfl ?_
        exact ⟨rfl, HF.out.mono (fun q _ hq => by rw [hq]; rfl)⟩
end CmOk
end Go.Proofs.Ythcemghamdmjmaa

namespace Go.Proofs.Ythcemghamdmjmaa
namespace CmVw
open Go.RowKit Go.WideShapes Go.ChangeShapes Go.ChangeAt
open BlkM WirM WirS ValA
open WirO1 (row8)

theorem list_of {α : Type} {P : Nat → α → Prop} : ∀ n, (∀ i, i < n → ∃ x, P i x) → ∃ l : List α, l.length = n ∧ ∀ i x, l[i]? = some x → P i x
  | 0, _ => ⟨[], rfl, fun i x h => by simp at h⟩
  | n + 1, h => by
    obtain ⟨l, hl, hp⟩ := list_of n (fun i hi => h i (by omega))
    obtain ⟨x, hx⟩ := h n (by omega)
    refine ⟨l ++ [x], by simp [hl], fun i y hy => ?_⟩
    rcases Nat.lt_or_ge i n with hi | hi
    · rw [List.getElem?_append_left (by omega)] at hy
      exact hp i y hy
    · rw [List.getElem?_append_right (by omega), hl] at hy
      obtain rfl : i = n := by
        have := (List.getElem?_eq_some_iff.1 hy).1
        simp at this
        omega
      simp at hy
      subst hy
      exact hx
theorem add_two (a : Addr) (n m : Nat) : a.add (n + m) = (a.add n).add m := by
  unfold Addr.add
  by_cases h1 : n = 0
  · subst h1
    simp
  · by_cases h2 : m = 0
    · subst h2
      simp
    · have h3 : ¬ n + m = 0 := by omega
      simp [h1, h2, Nat.add_assoc]
section
variable {H : Type} {enc : TypeId × Value → H} {W : World}
theorem val_open {fuel : Nat} {cs : List Value} {x : DataW H × List MemPlace} (h : DataW.trod enc Try.prog W 0 (fun _ => true) true fuel 187 cs = some x) : ∃ v : Vd, cs = v.cells ∧ v.ok := by
  have cI : Try.prog.cellsOf 3 = 1 := by kernel_rfl
  have cK : Try.prog.cellsOf 36 = 4 := by kernel_rfl
  have cT : Try.prog.cellsOf 187 = 5 := by kernel_rfl
  obtain ⟨xs, n, _, _, hl, hlen, hf⟩ := DataW.trod_struct Try.underlying187 h
  rw [cT] at hl
  have e0 := hf 0 _ rfl
  have e1 := hf 1 _ rfl
  clear hf
  match xs, hlen with
  | [y0, y1], _ =>
  obtain ⟨lk, p0, hlk, rk⟩ := row8 (k := 4) Try.underlying36 cK e0
  obtain ⟨n1, p1, _, w1⟩ := DataW.trod_int Try.underlying3 e1
  have p0 : (cs.drop 0).take (Try.prog.cellsOf 36) = _ := p0
  have p1 : (cs.drop 4).take (Try.prog.cellsOf 3) = _ := p1
  rw [cK] at p0
  rw [cI] at p1
  have q0 := WirO1.part 0 4 4 p0 rfl
  have q1 := WirO1.part 4 1 5 p1 rfl
  have q2 : cs.drop 5 = [] := List.drop_eq_nil_of_le (by omega)
  rw [q1, q2, List.drop_zero] at q0
  simp [Lit.wf, IntKind.min, IntKind.max, IntKind.signed, IntKind.bits] at w1
  obtain _ | ⟨a, _ | ⟨b, _ | ⟨c, _ | ⟨d, _ | ⟨e, l⟩⟩⟩⟩⟩ := lk <;> simp at hlk
  refine ⟨⟨a, b, c, d, n1⟩, by simpa [Vd.cells, b8] using q0, ⟨rk a (by simp), rk b (by simp), rk c (by simp), rk d (by simp), ⟨by show _ ≤ n1; omega, by show n1 < _; omega⟩⟩⟩
theorem vals_in {fuel : Nat} {cs : List Value} {x : DataW H × List MemPlace} (h : DataW.trod enc Try.prog W 0 (fun _ => true) true fuel 80 cs = some x) :
    ∃ la ln lc vs, cs = [.slice la ln lc] ∧ VIn W la ln lc vs := by
  rcases DataW.trod_slice Try.underlying80 h with ⟨hcs, _⟩ | ⟨a, len, cap, elems, rest, n, _, hcs, _, _, hl, hm, hlen, hel, _, _⟩
  · exact ⟨none, 0, 0, [], hcs, VIn.nil W none 0 (by decide)⟩
  · have cT : Try.prog.cellsOf 187 = 5 := by kernel_rfl
    rw [cT] at hel
    have each : ∀ i, i < len → ∃ x : Vd, (∀ j v, x.cells[j]? = some v → W.cell? (a.add (i * 5 + j)) = some v) ∧ x.ok := by
      intro i hi
      have h1 := hel i hi
      rw [List.getElem?_eq_getElem (show i < elems.length by omega), Option.bind_eq_some_iff] at h1
      obtain ⟨cs', hc, ht⟩ := h1
      obtain ⟨_, hcl, hat⟩ := World.cells?_some hc
      obtain ⟨v, rfl, hok⟩ := val_open ht
      refine ⟨v, fun j u hj => ?_, hok⟩
      have hj2 : j < 5 := (List.getElem?_eq_some_iff.1 hj).1
      rw [add_two a, hat j hj2]
      exact hj
    obtain ⟨vs, hvs, hp⟩ := list_of len each
    refine ⟨some a, len, cap, vs, hcs, ⟨hvs, hl, by unfold maxLen at hm; omega, fun hpos => ?_, fun x hx => ?_⟩⟩
    · obtain ⟨b, off, spot⟩ := a
      obtain ⟨x0, hx0⟩ : ∃ x0, vs[0]? = some x0 := ⟨_, List.getElem?_eq_getElem (by omega)⟩
      have h0 := (hp 0 x0 hx0).1 0 _ rfl
      have hspot : spot = none := by simpa [Addr.add] using World.cell?_spot h0
      subst hspot
      refine ⟨b, off, rfl, ?_, fun i x hx j v hj => ?_⟩
      · rw [Go.WideShapes.add_plain] at h0
        unfold World.cell? at h0
        rcases Nat.lt_or_ge b W.heap.size with h | h
        · exact h
        · have : W.heap[b]? = none := by simp [h]
          simp [this] at h0
      · have h2 := (hp i x hx).1 j v hj
        rw [Go.WideShapes.add_plain] at h2
        rw [Nat.add_assoc]
        exact h2
    · obtain ⟨i, hi, rfl⟩ := List.getElem_of_mem hx
      exact (hp i _ (List.getElem?_eq_getElem hi)).2
end
end CmVw
end Go.Proofs.Ythcemghamdmjmaa

