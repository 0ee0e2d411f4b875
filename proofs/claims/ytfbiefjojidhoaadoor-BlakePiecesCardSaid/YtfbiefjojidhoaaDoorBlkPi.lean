/-
  BlakePieces walked.
-/
import Derived.Test.YtfbiefjojidhoaaDoorBlkS
import Derived.Test.YtfbiefjojidhoaaDoorKitC
import Derived.Deep.RegionHeld3
import Derived.ProofKit
import Derived.OpenShut
import Derived.ShutString
import Derived.ChangeOld
import Derived.Lib.SmallJoins
namespace Go.Proofs.YtfbiefjojidhoaaDoor
namespace BlkPi
open Go.RowKit
open BlkM BlkA BlkG BlkI BlkJ BlkK BlkL BlkO BlkP BlkQ BlkR BlkS WirM WirS KitB KitC

/-- Where a part of bytes begins. -/
def sa (a : Option Addr) (c at' : Nat) : Option Addr := if c = at' then a else a.map (·.add at')
theorem bin_sub {w : World} {a : Option Addr} {c : Nat} {bs : List Int} (h : WirM.BIn w (.slice a bs.length c) bs) (at' n : Nat) (hn : at' + n ≤ bs.length) : WirM.BIn w (.slice (sa a c at') n (c - at')) ((bs.drop at').take n) := by
  obtain ⟨a', c', e1, hc, hz⟩ := h
  obtain ⟨rfl, rfl⟩ : a = a' ∧ c = c' := by cases e1; exact ⟨rfl, rfl⟩
  have hl : ((bs.drop at').take n).length = n := by simp; omega
  refine ⟨_, _, by rw [hl], by rw [hl]; omega, fun hne => ?_⟩
  have hpos : 0 < n := by
    have := List.length_pos_iff.2 hne
    omega
  obtain ⟨B, o, rfl, hB, hcell⟩ := hz (by intro h; subst h; simp at hn; omega)
  have hca : ¬ c = at' := by omega
  refine ⟨B, o + at', by simp [sa, hca, Addr.add_lit], hB, fun i hi => ?_⟩
  rw [hl] at hi
  rw [Nat.add_assoc, hcell (at' + i) (by omega)]
  simp [List.getD, hi]
theorem slR (a : Option Addr) (len cap l m n : Nat) (hm : m = l + n) (h : m ≤ len) (hc : len ≤ cap) (Y : World) : (Instr.sliceAt 22 (.slice a len cap) (some (.int .i64 (l : Int))) (some (.int .i64 (m : Int))) none).run Tryd.prog Y = .ok (.slice (sa a cap l) n (cap - l)) Y := by
  have hu : Tryd.prog.underlying 22 = some (.slice (Tryd.prog.elem 22)) := by kernel_rfl
  rw [run_sliceAt_slice Y 22 _ _ _ _ hu, run_slice_lh Y 22 a len cap hu .i64 .i64 (l : Int) (m : Int) (by omega) (by omega) (by omega)]
  have hs : (sizeOf (Tryd.prog.elem 22)).run Tryd.prog Y = .ok 1 Y := by kernel_rfl
  rw [hs]
  simp [sliced, sa]
  omega

theorem slH (a : Option Addr) (len cap m : Nat) (h : m ≤ cap) (Y : World) : (Instr.sliceAt 22 (.slice a len cap) none (some (.int .i64 (m : Int))) none).run Tryd.prog Y = .ok (.slice (sa a cap 0) m (cap - 0)) Y := by
  have hu : Tryd.prog.underlying 22 = some (.slice (Tryd.prog.elem 22)) := by kernel_rfl
  rw [run_sliceAt_slice Y 22 _ _ _ _ hu, run_slice_h Y 22 a len cap hu .i64 (m : Int) (by omega) (by omega)]
  have hs : (sizeOf (Tryd.prog.elem 22)).run Tryd.prog Y = .ok 1 Y := by kernel_rfl
  rw [hs]
  simp [sliced, sa]
theorem Fr.setRow {X : Nat → Prop} {w w' : World} (h : Fr X w w') (V : Nat) (c : Array Value) (hV : V < w.heap.size → X V) : Fr X w (w'.setRow V c) :=
  ⟨h.os, h.tape, h.output, by simpa using h.size, fun k hk hx => by
    rw [setRow_other w' V k c (fun e => by subst e; exact hx (hV hk))]
    exact h.block k hk hx⟩
theorem fr_chg {w w' : World} {V : Nat} {cs : List Value} (h : Chg w V cs w') : Fr (fun k => k = V) w w' :=
  (Fr.setRow (X := fun k => k = V) (Fr.refl _ w) V cs.toArray (fun _ => rfl)).trans (Fr.of_below (show Below (w.setRow V cs.toArray).heap.size (w.setRow V cs.toArray) w' by unfold Chg at h; simpa using h))
theorem st_fr {X : Nat → Prop} {w w' : World} {S : Nat} {l : List Int} (h : St w S l) (hf : Fr X w w') (hS : ¬ X S) : St w' S l := by
  obtain ⟨h0, c, h1, h2⟩ := h
  exact ⟨h0, c, h1, At.fr h2 hf hS⟩
theorem bat_of {w : World} {S : Nat} {v : Value} {zs : List Int} (h : WirM.BIn w v zs) (hS : v.ownBlock ≠ some S) : BAt w S v zs := by
  obtain ⟨a, cap, rfl, hc, hz⟩ := h
  refine ⟨a, cap, rfl, hc, fun hne => ?_⟩
  obtain ⟨B, o, rfl, hB, hcell⟩ := hz hne
  exact ⟨B, o, rfl, fun e => hS (by rw [← e]; rfl), hB, hcell⟩
theorem at_range {w : World} {V : Nat} {T : TypeId} {cs : List Value} (h : At w V T cs) : w.rangeAt V 0 cs := fun j v hj => by rw [Nat.zero_add, h.cell]; exact hj
theorem sCx {P : Program} {ops : Array Oper} {rest : List Oper} {o : Oper} {a : Act} {w : World} {Q : Exit → Act → World → Prop} {f : FuncId} {args : Array Value} {R : Ending → World → Prop} (hw : Region.wanted o (yielded ops a.tmps) = true) (hrun : (execOp a.eval o).run P w = .ok (.enter f args) w)
    (hc : Calls P f args w R) (h : ∀ e w', R e w' → ∃ v, e = .returned v ∧ wpList P ops Q rest (a.put o.dst v) w') : wpList P ops Q (o :: rest) a w :=
  stepW hw fun _ hK => by
    unfold Oper.wp
    rw [hrun, Oper.upon_enter]
    exact hc.mono (by
      intro e w' hq
      obtain ⟨v, rfl, hh⟩ := h e w' hq
      exact hK _ _ hh)
theorem opS (a : Operand → Value) (ob : Oper) (x y z : Operand) (b : Option Addr) (n c l m N : Nat) (v : Value) (ho : ob.op = Op.slice 22 x (some y) (some z) none) (hx : a x = .slice b n c) (hy : a y = .int .i64 (l : Int)) (hz : a z = .int .i64 ((l : Int) + (N : Int))) (hm : m = l + N) (h : m ≤ n) (hc : n ≤ c) (hv : v = .slice (sa b c l) N (c - l)) (W : World) :
    (execOp a ob).run Tryd.prog W = .ok (.value v) W := by
  have h1 := slR b n c l m N hm h hc W
  rw [hm, Int.natCast_add] at h1
  unfold execOp
  rw [ho]
  simp only [hx, hy, hz, Option.map]
  simp [h1, hv]
theorem addN (l N : Nat) (h : l + N ≤ 1000) (W : World) : (binOp .add 3 (.int .i64 (l : Int)) (.int .i64 (N : Int))).run Tryd.prog W = .ok (.int .i64 ((l : Int) + (N : Int))) W := by
  have w : IntKind.i64.wrap ((l : Int) + (N : Int)) = (l : Int) + (N : Int) := IntWalk.i64_in _ (by omega)
  simp [binOp, go_sem]
  exact w
/-- A list of ints, as it comes in. -/
structure KIn (w : World) (a : Option Addr) (n : Nat) (ks : List Int) : Prop where
  cell : ∀ i, i < n → ∃ B o, a = some ⟨B, o, none⟩ ∧ B < w.heap.size ∧ ∀ i, i < n → w.cell? ⟨B, o + i, none⟩ = some (.int .i64 (ks.getD i 0))
def MidP (w : World) (bs : List Int) (S n np : Nat) (a i : Value) (U : World) : Prop :=
  ∃ k A : Nat, k ≤ np + 1 ∧ i = .int .i64 (k : Int) ∧ a = .int .i64 (A : Int) ∧ A ≤ n ∧ (np < k → A = n) ∧ Below w.heap.size w U ∧ St U S (bs.take A)
set_option maxRecDepth 10000 in
set_option maxHeartbeats 6000000 in
theorem pieces_any (w : World) (b : Option Addr) (n c : Nat) (bs : List Int) (hb : WirM.BIn w (.slice b n c) bs) (hr : rng bs) (ka : Option Addr) (np kc : Nat) (ks : List Int) (hk : KIn w ka np ks) (hg : Glob w) :
    Calls Tryd.prog 7 #[.slice b n c, .slice ka np kc] w fun e w' => e = .returned (.bool true) ∧ Below w.heap.size w w' := by
  have hn : n = bs.length := by
    obtain ⟨_, _, e, _⟩ := hb
    cases e
    rfl
  have hcn : n ≤ c := by
    obtain ⟨_, _, e, h, _⟩ := hb
    cases e
    exact h
  have HB := WirS.hide hb
  have HR := WirS.hide hr
  have HK := WirS.hide hk
  have HG := WirS.hide hg
  clear hb hr hk hg
  by_cases hbig : 400 < n
  · have hbi : (400 : Int) < (n : Int) := by omega
    go_enter Tryd.func7, Tryd.ntmps7
    go_wp2_with ((go_at_call 6; refine (known_any w HG.out).mono ?_; rintro e w1 ⟨rfl, h1⟩; have H1 := WirS.hide h1; clear h1))
    go_ret
    exact ⟨rfl, H1.out⟩
  by_cases hkn : 12 < np
  · have hbi : ¬ (400 : Int) < (n : Int) := by omega
    have hki : (12 : Int) < (np : Int) := by omega
    go_enter Tryd.func7, Tryd.ntmps7
    go_wp2_with ((go_at_call 6; refine (known_any w HG.out).mono ?_; rintro e w1 ⟨rfl, h1⟩; have H1 := WirS.hide h1; clear h1))
    go_ret
    exact ⟨rfl, H1.out⟩
  have hbi : ¬ (400 : Int) < (n : Int) := by omega
  have hki : ¬ (12 : Int) < (np : Int) := by omega
  have HN := WirS.hide hn
  have HN4 := WirS.hide hbig
  have HCN := WirS.hide hcn
  have HKN := WirS.hide hkn
  clear hbig hkn hn hcn
  go_enter Tryd.func7, Tryd.ntmps7
  go_upto_region 4 with ((go_at_call 6; refine (known_any w HG.out).mono ?_; rintro e w1 ⟨rfl, h1⟩; have H1 := WirS.hide h1; clear h1))
  go_upto_region 9 with ((go_at_call 23; refine (new_any _ (HG.out.below H1.out HG.out.1)).mono ?_; rintro e w2 ⟨S, rfl, hS, hSt, hB2⟩; have HS := WirS.hide (Nat.le_trans H1.out.size hS); have HSt := WirS.hide hSt; have H2 := WirS.hide (H1.out.trans (hB2.mono H1.out.size)); clear hS hSt hB2 H1))
  go_loopw [7, 8] (fun a i wr => MidP w bs S n np a i wr) (fun _ i _ => np + 1 - (intOf i).toNat)
  case atStart => exact ⟨0, 0, Nat.zero_le _, rfl, rfl, Nat.zero_le _, (fun h => by omega), H2.out, HSt.out⟩
  case round =>
    clear HSt H2
    obtain ⟨k, A, hk, rfl, rfl, hA, hAn, hlow, hst⟩ := hrel
    have HLow := WirS.hide hlow
    have HSt := WirS.hide hst
    have HAn := WirS.hide hAn
    clear hlow hst hAn
    by_cases hkn : k ≤ np
    · obtain ⟨N0, hN0⟩ : ∃ N0, N0 = n - A := ⟨_, rfl⟩
      have hsub : (n : Int) - (A : Int) = (N0 : Int) := by omega
      have hN0b : (N0 : Int) ≤ 400 := by omega
      have HN0 := WirS.hide hN0
      clear hN0
      have hki2 : (k : Int) ≤ (np : Int) := by omega
      by_cases hlt : k < np
      · obtain ⟨B, o, rfl, hB, hcell⟩ := HK.out.cell k hlt
        have ck := (HLow.out.cell (p := ⟨B, o + k, none⟩) hB).trans (hcell k hlt)
        generalize ks.getD k 0 = q at ck
        have hkl : (k : Int) < (np : Int) := by omega
        have HP := WirS.hide (fun U => KitB.pick_any U q ((N0 : Int) + 1) (by omega) (by have := HN4.out; omega))
        have hpr := KitB.pick_range q ((N0 : Int) + 1) (by omega)
        generalize KitB.pick q ((N0 : Int) + 1) = g at HP hpr
        obtain ⟨N, rfl⟩ := Int.eq_ofNat_of_zero_le hpr.1
        have hAN1 : A + N ≤ n := by have := HN0.out; omega
        have HEnd := WirS.hide (show np < k + 1 → A + N = n from fun h => by omega)
        have hn400 := HN4.out
        clear hcell hB hpr
        go_upto_region 14 with ((go_at_call 25; refine (HP.out _).mono ?_; rintro e u ⟨rfl, rfl⟩))
        clear HP ck hn400
        have HCp := WirS.hide (copy_any wr (sa b c A) N (c - A) ((bs.drop A).take N) (bin_sub (by have h5 := WirM.BIn.below HB.out HLow.out; rwa [HN.out] at h5) A N (by have := HN.out; omega)) (by have := HN4.out; omega))
        refine wp_region_lit ?_
        refine sV (.slice b n c) (wr) (by kernel_rfl) (by kernel_rfl) ?_
        simp only [Act.put, List.setIfInBounds_toArray, List.set_cons_succ, List.set_cons_zero]
        refine sV (.int .i64 (A : Int)) (wr) (by kernel_rfl) (by kernel_rfl) ?_
        simp only [Act.put, List.setIfInBounds_toArray, List.set_cons_succ, List.set_cons_zero]
        refine sV (.int .i64 (A : Int)) (wr) (by kernel_rfl) (by kernel_rfl) ?_
        simp only [Act.put, List.setIfInBounds_toArray, List.set_cons_succ, List.set_cons_zero]
        refine sV (.int .i64 (N : Int)) (wr) (by kernel_rfl) (by kernel_rfl) ?_
        simp only [Act.put, List.setIfInBounds_toArray, List.set_cons_succ, List.set_cons_zero]
        refine sB (by kernel_rfl) .add _ _ _ _ (by rfl) (.int .i64 (A : Int)) (.int .i64 (N : Int)) (by kernel_rfl) (by kernel_rfl) (.int .i64 ((A : Int) + (N : Int))) (addN A N (by omega) wr) (by kernel_rfl) ?_
        simp only [Act.put, List.setIfInBounds_toArray, List.set_cons_succ, List.set_cons_zero]
        obtain ⟨sv, hsv⟩ : ∃ v, v = Value.slice (sa b c A) N (c - A) := ⟨_, rfl⟩
        refine sV sv wr (by kernel_rfl) (opS _ _ _ _ _ b n c A (A + N) N sv rfl (by kernel_rfl) (by kernel_rfl) (by kernel_rfl) rfl hAN1 HCN.out hsv wr) ?_
        simp only [Act.put, List.setIfInBounds_toArray, List.set_cons_succ, List.set_cons_zero]
        rw [← hsv] at HCp
        refine sCx (by kernel_rfl) (by kernel_rfl) HCp.out ?_
        rintro e u1 ⟨pa, pn, pc, rfl, ho, hnw, hb1⟩
        refine ⟨_, rfl, ?_⟩
        simp only [Act.put, List.setIfInBounds_toArray, List.set_cons_succ, List.set_cons_zero]
        have HO := WirS.hide ho
        have HNW := WirS.hide hnw
        have HB1 := WirS.hide hb1
        clear ho hnw hb1 HCp hsv
        go_upto_region 15 with fail
        have hSlt := HSt.out.lt
        have HSt1 := WirS.hide (HSt.out.below HB1.out hSlt)
        have hoff : (Value.slice pa pn pc).ownBlock ≠ some S := fun e => by have := HNW.out S e; omega
        have HOff := WirS.hide hoff
        have hS0 : S ≠ 0 := HSt.out.1
        have hlen1 : (bs.take A).length + ((bs.drop A).take N).length < 4611686018427387904 := by
          have := HN4.out
          have := HN.out
          rw [List.length_take, List.length_take, List.length_drop]
          omega
        have HGl := WirS.hide (HG.out.below HLow.out HG.out.1)
        have HWr := WirS.hide (swr_any u1 S (bs.take A) ((bs.drop A).take N) (.slice pa pn pc) HSt1.out (bat_of (Own.bin HO.out) hoff) (rng_take (rng_drop HR.out A) N) (HGl.out.below HB1.out HGl.out.1) hlen1)
        have hS1 : S < u1.heap.size := HSt1.out.lt
        clear hoff hlen1 HSt1
        go_upto_region 16 with ((go_at_call 21; refine (HWr.out).mono ?_; rintro e u2 ⟨rfl, hst, cs, hch⟩; have HSt2 := WirS.hide hst; have HCh := WirS.hide hch; clear hst hch HWr))
        have HO2 := WirS.hide (Own.fr HO.out (fr_chg HCh.out) (fun k hk e => HOff.out (by rw [hk, e])))
        have hpn : pn ≤ 1099511627776 := by
          obtain ⟨_, _, e, _⟩ := Own.bin HO2.out
          have h1 : pn = ((bs.drop A).take N).length := by injection e
          have := HN4.out
          have := HN.out
          rw [List.length_take, List.length_drop] at h1
          omega
        have HOv := WirS.hide (over_any u2 pa pn pc _ HO2.out hpn)
        clear hpn
        go_upto_region 17 with ((go_at_call 27; refine (HOv.out).mono ?_; rintro e u3 ⟨rfl, _, hfr⟩; have HFr := WirS.hide hfr; clear hfr HOv))
        have HAN := WirS.hide (show bs.take A ++ (bs.drop A).take N = bs.take (A + N) from (List.take_add).symm)
        have HSt3 := WirS.hide (show St u3 S (bs.take (A + N)) by rw [← HAN.out]; exact st_fr HSt2.out HFr.out HOff.out)
        have HLow3 := WirS.hide (show Below w.heap.size w u3 from
          ((HLow.out.trans (HB1.out.mono HLow.out.size)).trans (HCh.out.below_of HS.out (Nat.le_trans HLow.out.size HB1.out.size))).trans (HFr.out.below (Nat.le_trans HLow.out.size (Nat.le_trans HB1.out.size HCh.out.size)) (fun q hq e => by have := HNW.out q e; have := HLow.out.size; omega)))
        clear HO HO2 HNW HB1 HCh HFr HSt2 HOff hSlt hS1 HGl HLow HSt
        have hb4 : (A : Int) + (N : Int) ≤ 400 := by omega
        go_upto_region 18 with fail
        obtain ⟨A1, hA1⟩ : ∃ A1 : Nat, A1 = A + N := ⟨_, rfl⟩
        rw [show (A : Int) + (N : Int) = (A1 : Int) by omega]
        rw [← hA1] at HSt3 HEnd
        have HA1 := WirS.hide (show A1 ≤ n ∧ A1 ≤ 400 by omega)
        obtain ⟨X, hX⟩ : ∃ X, X = sumL (bs.take A1) := ⟨_, rfl⟩
        have HX := WirS.hide hX
        have HXL := WirS.hide (show (b8 X).length = 32 by rw [hX, b8_len]; exact sumL_len _)
        clear hA1 hX hAN1 hb4 HAN
        refine wp_region_lit ?_
        refine sV (.pointer (some ⟨S, 0, none⟩)) (u3) (by kernel_rfl) (by kernel_rfl) ?_
        simp only [Act.put, List.setIfInBounds_toArray, List.set_cons_succ, List.set_cons_zero]
        refine sC (by kernel_rfl) (by kernel_rfl) (HX.out ▸ ssum_any u3 S (bs.take A1) HSt3.out (HG.out.below HLow3.out HG.out.1)) ?_
        intro x18 hb18
        simp only [Act.put, List.setIfInBounds_toArray, List.set_cons_succ, List.set_cons_zero]
        refine sV (.tuple #[.agg (b8 X).toArray, .int .i64 0]) (x18) (by kernel_rfl) (by kernel_rfl) ?_
        simp only [Act.put, List.setIfInBounds_toArray, List.set_cons_succ, List.set_cons_zero]
        refine sV (.agg (b8 X).toArray) (x18) (by kernel_rfl) (by kernel_rfl) ?_
        simp only [Act.put, List.setIfInBounds_toArray, List.set_cons_succ, List.set_cons_zero]
        refine sV (.int .i64 0) (x18) (by kernel_rfl) (by kernel_rfl) ?_
        simp only [Act.put, List.setIfInBounds_toArray, List.set_cons_succ, List.set_cons_zero]
        refine stepVal (v := .pointer (some ⟨x18.heap.size, 0, none⟩)) (w' := x18.alloc (.cells (b8 zH).toArray 26)) (by rfl) (alH _ _ rfl x18) ?_
        refine stepStore (by rfl) _ _ _ (by rfl) _ (b8 X) (by kernel_rfl) (by kernel_rfl) (At.new x18 26 (b8 zH)) 32 (by kernel_rfl) (by rw [b8_len]; rfl) HXL.out (oneCells_b8 _) ?_
        obtain ⟨H18, eH⟩ : ∃ H, H = x18.heap.size := ⟨_, rfl⟩
        obtain ⟨Y18, eY⟩ : ∃ Z, Z = (x18.alloc (.cells (b8 zH).toArray 26)).setRow x18.heap.size (b8 X).toArray := ⟨_, rfl⟩
        have HA18 := WirS.hide (show At Y18 H18 26 (b8 X) by rw [eY, eH]; exact (At.new x18 26 (b8 zH)).put _)
        have HY18 := WirS.hide (show Below u3.heap.size u3 Y18 by
          rw [eY]
          exact Below.setRowOwn (hb18.alloc hb18.size _) hb18.size _)
        rw [← eY, ← eH]
        clear eY eH hb18
        have HSt4 := WirS.hide (HSt3.out.below HY18.out HSt3.out.lt)
        have HLow4 := WirS.hide (HLow3.out.trans (HY18.out.mono HLow3.out.size))
        go_upto_region 19 with fail
        refine wp_region_lit ?_
        refine sV (.pointer (some ⟨S, 0, none⟩)) (Y18) (by kernel_rfl) (by kernel_rfl) ?_
        simp only [Act.put, List.setIfInBounds_toArray, List.set_cons_succ, List.set_cons_zero]
        refine sC (by kernel_rfl) (by kernel_rfl) (HX.out ▸ ssum_any Y18 S (bs.take A1) HSt4.out (HG.out.below HLow4.out HG.out.1)) ?_
        intro x19 hb19
        simp only [Act.put, List.setIfInBounds_toArray, List.set_cons_succ, List.set_cons_zero]
        refine sV (.tuple #[.agg (b8 X).toArray, .int .i64 0]) (x19) (by kernel_rfl) (by kernel_rfl) ?_
        simp only [Act.put, List.setIfInBounds_toArray, List.set_cons_succ, List.set_cons_zero]
        refine sV (.agg (b8 X).toArray) (x19) (by kernel_rfl) (by kernel_rfl) ?_
        simp only [Act.put, List.setIfInBounds_toArray, List.set_cons_succ, List.set_cons_zero]
        refine sV (.int .i64 0) (x19) (by kernel_rfl) (by kernel_rfl) ?_
        simp only [Act.put, List.setIfInBounds_toArray, List.set_cons_succ, List.set_cons_zero]
        refine stepVal (v := .pointer (some ⟨x19.heap.size, 0, none⟩)) (w' := x19.alloc (.cells (b8 zH).toArray 26)) (by rfl) (alH _ _ rfl x19) ?_
        refine stepStore (by rfl) _ _ _ (by rfl) _ (b8 X) (by kernel_rfl) (by kernel_rfl) (At.new x19 26 (b8 zH)) 32 (by kernel_rfl) (by rw [b8_len]; rfl) HXL.out (oneCells_b8 _) ?_
        obtain ⟨H19, eH⟩ : ∃ H, H = x19.heap.size := ⟨_, rfl⟩
        obtain ⟨Y19, eY⟩ : ∃ Z, Z = (x19.alloc (.cells (b8 zH).toArray 26)).setRow x19.heap.size (b8 X).toArray := ⟨_, rfl⟩
        have HA19 := WirS.hide (show At Y19 H19 26 (b8 X) by rw [eY, eH]; exact (At.new x19 26 (b8 zH)).put _)
        have HY19 := WirS.hide (show Below Y18.heap.size Y18 Y19 by
          rw [eY]
          exact Below.setRowOwn (hb19.alloc hb19.size _) hb19.size _)
        rw [← eY, ← eH]
        clear eY eH hb19
        have HSt5 := WirS.hide (HSt4.out.below HY19.out HSt4.out.lt)
        have HLow5 := WirS.hide (HLow4.out.trans (HY19.out.mono HLow4.out.size))
        have r1 : Y19.rangeAt H18 0 (b8 X) := at_range (HA18.out.below HY19.out HA18.out.lt)
        have r2 : Y19.rangeAt H19 0 (b8 X) := at_range HA19.out
        go_upto_region 20 with fail
        have HR18 := WirS.hide (HA18.out.below HY19.out HA18.out.lt)
        have lx : X.length = 32 := by rw [HX.out]; exact sumL_len _
        have hne : ∀ W, (binOp .neq 26 (.agg (b8 X).toArray) (.agg (b8 X).toArray)).run Tryd.prog W = .ok (.bool false) W := fun W => by rw [neqH X X lx lx W]; simp
        have hg1 : ∀ W, (eqGuard .neq 26 (.tmp 86) (.tmp 87) (.agg (b8 X).toArray) (.agg (b8 X).toArray)).run Tryd.prog W = .ok () W := fun W => by kernel_rfl
        have hg2 : ∀ W, (eqGuard .neq 26 (.tmp 91) (.tmp 95) (.agg (b8 X).toArray) (.agg (b8 X).toArray)).run Tryd.prog W = .ok () W := fun W => by kernel_rfl
        have hu0 := Tryd.underlying26
        have hi0 : (Tryd.prog.info? 26).map (·.size) = some (b8 X).length := by rw [HXL.out]; kernel_rfl
        have hsl : ∀ Y, (Instr.sliceAt 22 (.slice b n c) none (some (.int .i64 (A1 : Int))) none).run Tryd.prog Y = .ok (.slice (sa b c 0) A1 (c - 0)) Y := slH b n c A1 (by have := HA1.out.1; have := HCN.out; omega)
        have HLowY := WirS.hide HLow5.out
        have HSumP := WirS.hide (show ∀ U, Below Y19.heap.size Y19 U → Calls Tryd.prog 11 #[.slice (sa b c 0) A1 (c - 0)] U (fun e w' => e = .returned (.agg (b8 X).toArray) ∧ Below U.heap.size U w') from fun U hU => by
          have hl := HLowY.out.trans (hU.mono HLowY.out.size)
          have h5 := WirM.BIn.below HB.out hl
          rw [HN.out] at h5
          have h6 := bin_sub h5 0 A1 (by have := HA1.out.1; have := HN.out; omega)
          rw [List.drop_zero] at h6
          rw [HX.out]
          exact sumP_any U _ (bs.take A1) h6 (rng_take HR.out A1) (HG.out.below hl HG.out.1) (by have := HA1.out.2; rw [List.length_take]; omega))
        have HLenP := WirS.hide (show ∀ U, Below Y19.heap.size Y19 U → Calls Tryd.prog 22 #[.pointer (some ⟨S, 0, none⟩)] U (fun e w' => e = .returned (.int .i64 (A1 : Int)) ∧ U = w') from fun U hU => by
          have hlen : (bs.take A1).length = A1 := by have := HA1.out.1; have := HN.out; rw [List.length_take]; omega
          have := slen_any U S (bs.take A1) (HSt5.out.below hU HSt5.out.lt) (by rw [hlen]; have := HA1.out.2; omega)
          rwa [hlen] at this)
        clear lx r1 r2
        refine wp_region_noPanic ?_
        refine wp_region_held_drew (S := fun w' => w'.rangeAt H18 0 (b8 X) ∧ w'.rangeAt H19 0 (b8 X) ∧ Below Y19.heap.size Y19 w') (by kernel_rfl) ?_ (fun hHeld => ?_)
        · (refine ⟨range_of HR18.out ?_, range_of HA19.out ?_, ?_⟩ <;> exact (by repeat' (first | with_reducible assumption | with_reducible exact Below.refl _ _ | with_reducible refine Below.setCell ?_ ?_ _ | with_reducible refine below_drewN ?_ _ | with_reducible refine Below.drew ?_ | with_reducible refine Below.alloc ?_ ?_ _ | with_reducible refine Below.trans ?_ (Below.mono (by with_reducible assumption) ?_) | omega | (simp; done) | (simp; omega))))
        refine' wpAnyH_take (i := 0) (oi := _) (v := _) rfl (by kernel_rfl) (by kernel_rfl) (by kernel_rfl) (fun _ _ _ h => h) (Or.inl ⟨by kernel_rfl, ?hy⟩) (by assumption) ?rest2
        case hy =>
          intro w hSw
          try dsimp only at hSw
          go_simp
          try with_reducible rfl
        case rest2 =>
        try simp only [Act.put, List.setIfInBounds_toArray]
        refine' wpAnyH_take (i := 1) (oi := _) (v := _) rfl (by kernel_rfl) (by kernel_rfl) (by kernel_rfl) (fun _ _ _ h => h) (Or.inl ⟨by kernel_rfl, ?hy⟩) (by assumption) ?rest2
        case hy =>
          intro w hSw
          try dsimp only at hSw
          go_simp
          try with_reducible rfl
        case rest2 =>
        try simp only [Act.put]
        refine' wpAnyH_take (i := 2) (oi := _) (v := _) rfl (by kernel_rfl) (by kernel_rfl) (by kernel_rfl) (fun _ _ _ h => h) (Or.inl ⟨by kernel_rfl, ?hy⟩) (by assumption) ?rest2
        case hy =>
          intro w hSw
          try dsimp only at hSw
          go_simp
          try with_reducible rfl
        case rest2 =>
        try simp only [Act.put]
        refine' wpAnyH_take (i := 3) (oi := _) (v := _) rfl (by kernel_rfl) (by kernel_rfl) (by kernel_rfl) (fun _ _ _ h => h) (Or.inl ⟨by kernel_rfl, ?hy⟩) (by assumption) ?rest2
        case hy =>
          intro w hSw
          try dsimp only at hSw
          go_simp
          try with_reducible rfl
        case rest2 =>
        try simp only [Act.put]
        refine' wpAnyH_take (i := 4) (oi := _) (v := _) rfl (by kernel_rfl) (by kernel_rfl) (by kernel_rfl) (fun _ _ _ h => h) (Or.inl ⟨by kernel_rfl, ?hy⟩) (by assumption) ?rest2
        case hy =>
          intro w hSw
          try dsimp only at hSw
          go_simp
          try with_reducible rfl
        case rest2 =>
        try simp only [Act.put]
        refine' wpAnyH_take (i := 5) (oi := _) (v := _) rfl (by kernel_rfl) (by kernel_rfl) (by kernel_rfl) (fun _ _ _ h => h) (Or.inl ⟨by kernel_rfl, ?hy⟩) (by assumption) ?rest2
        case hy =>
          intro w hSw
          try dsimp only at hSw
          go_simp
          try with_reducible rfl
        case rest2 =>
        try simp only [Act.put]
        refine' wpAnyH_take (i := 6) (oi := _) (v := _) rfl (by kernel_rfl) (by kernel_rfl) (by kernel_rfl) (fun _ _ _ h => h) (Or.inl ⟨by kernel_rfl, ?hy⟩) (by assumption) ?rest2
        case hy =>
          intro w hSw
          try dsimp only at hSw
          go_simp
          try with_reducible rfl
        case rest2 =>
        try simp only [Act.put]
        refine' wpAnyH_take (i := 7) (oi := _) (v := _) rfl (by kernel_rfl) (by kernel_rfl) (by kernel_rfl) (fun _ _ _ h => h) (Or.inl ⟨by kernel_rfl, ?hy⟩) (by assumption) ?rest2
        case hy =>
          intro w hSw
          try dsimp only at hSw
          go_simp
          try with_reducible rfl
        case rest2 =>
        try simp only [Act.put]
        refine' wpAnyH_take (i := 8) (oi := _) (v := _) rfl (by kernel_rfl) (by kernel_rfl) (by kernel_rfl) (fun _ _ _ h => h) (Or.inl ⟨by kernel_rfl, ?hy⟩) (by assumption) ?rest2
        case hy =>
          intro w hSw
          try dsimp only at hSw
          go_simp
          try with_reducible rfl
        case rest2 =>
        try simp only [Act.put]
        refine' wpAnyH_take (i := 9) (oi := _) (v := _) rfl (by kernel_rfl) (by kernel_rfl) (by kernel_rfl) (fun _ _ _ h => h) (Or.inl ⟨by kernel_rfl, ?hy⟩) (by assumption) ?rest2
        case hy =>
          intro w hSw
          try dsimp only at hSw
          go_simp
          try with_reducible rfl
        case rest2 =>
        try simp only [Act.put]
        refine' wpAnyH_take (i := 10) (oi := _) (v := _) rfl (by kernel_rfl) (by kernel_rfl) (by kernel_rfl) (fun _ _ _ h => h) (Or.inl ⟨by kernel_rfl, ?hy⟩) (by assumption) ?rest2
        case hy =>
          intro w hSw
          try dsimp only at hSw
          go_simp
          try with_reducible rfl
        case rest2 =>
        try simp only [Act.put]
        refine' wpAnyH_take (i := 11) (oi := _) (v := _) rfl (by kernel_rfl) (by kernel_rfl) (by kernel_rfl) (fun _ _ _ h => h) (yieldsIf_load_mid (by kernel_rfl) 26 (.tmp 12) (by kernel_rfl) H18 0 (by kernel_rfl) (b8 X) _ ?hS ?hu ?hd ?hi) (by assumption) ?rest2
        case hS =>
          intro w hSw
          try dsimp only at hSw
          go_split_ands
          assumption
        case hu => assumption
        case hd => rfl
        case hi => first | assumption | (simp only [*]; done)
        case rest2 =>
        try simp only [Act.put]
        refine' wpAnyH_take (i := 12) (oi := _) (v := _) rfl (by kernel_rfl) (by kernel_rfl) (by kernel_rfl) (fun _ _ _ h => h) (yieldsIf_load_mid (by kernel_rfl) 26 (.tmp 14) (by kernel_rfl) H19 0 (by kernel_rfl) (b8 X) _ ?hS ?hu ?hd ?hi) (by assumption) ?rest2
        case hS =>
          intro w hSw
          try dsimp only at hSw
          go_split_ands
          assumption
        case hu => assumption
        case hd => rfl
        case hi => first | assumption | (simp only [*]; done)
        case rest2 =>
        try simp only [Act.put]
        refine' wpAnyH_take (i := 13) (oi := _) (v := _) rfl (by kernel_rfl) (by kernel_rfl) (by kernel_rfl) (fun _ _ _ h => h) (Or.inl ⟨by kernel_rfl, ?hy⟩) (by assumption) ?rest2
        case hy =>
          intro w hSw
          try dsimp only at hSw
          go_simp
          try with_reducible rfl
        case rest2 =>
        try simp only [Act.put]
        refine' wpAnyH_take (i := 14) (oi := _) (v := _) rfl (by kernel_rfl) (by kernel_rfl) (by kernel_rfl) (fun _ _ _ h => h) (Or.inl ⟨by kernel_rfl, ?hy⟩) (by assumption) ?rest2
        case hy =>
          intro w hSw
          try dsimp only at hSw
          go_simp
          try with_reducible rfl
        case rest2 =>
        try simp only [Act.put]
        refine' wpAnyH_take (i := 15) (oi := _) (v := _) rfl (by kernel_rfl) (by kernel_rfl) (by kernel_rfl) (fun _ _ _ h => h) (Or.inl ⟨by kernel_rfl, ?hy⟩) (by assumption) ?rest2
        case hy =>
          intro w hSw
          try dsimp only at hSw
          go_simp
          try with_reducible rfl
        case rest2 =>
        try simp only [Act.put]
        refine' wpAnyH_take (i := 16) (oi := _) (v := _) rfl (by kernel_rfl) (by kernel_rfl) (by kernel_rfl) (fun _ _ _ h => h) (yieldsIf_load_mid (by kernel_rfl) 26 (.tmp 12) (by kernel_rfl) H18 0 (by kernel_rfl) (b8 X) _ ?hS ?hu ?hd ?hi) (by assumption) ?rest2
        case hS =>
          intro w hSw
          try dsimp only at hSw
          go_split_ands
          assumption
        case hu => assumption
        case hd => rfl
        case hi => first | assumption | (simp only [*]; done)
        case rest2 =>
        try simp only [Act.put]
        refine' wpAnyH_take (i := 17) (oi := _) (v := _) rfl (by kernel_rfl) (by kernel_rfl) (by kernel_rfl) (fun _ _ _ h => h) (Or.inl ⟨by kernel_rfl, ?hy⟩) (by assumption) ?rest2
        case hy =>
          intro w hSw
          try dsimp only at hSw
          go_simp
          try with_reducible rfl
        case rest2 =>
        try simp only [Act.put]
        refine' wpAnyH_take (i := 18) (oi := _) (v := _) rfl (by kernel_rfl) (by kernel_rfl) (by kernel_rfl) (fun _ _ _ h => h) (Or.inl ⟨by kernel_rfl, ?hy⟩) (by assumption) ?rest2
        case hy =>
          intro w hSw
          try dsimp only at hSw
          go_simp
          try with_reducible rfl
        case rest2 =>
        try simp only [Act.put]
        refine' wpAnyH_take (i := 19) (oi := _) (v := _) rfl (by kernel_rfl) (by kernel_rfl) (by kernel_rfl) (fun _ _ _ h => h) (Or.inl ⟨by kernel_rfl, ?hy⟩) (by assumption) ?rest2
        case hy =>
          intro w hSw
          try dsimp only at hSw
          go_simp
          try with_reducible rfl
        case rest2 =>
        try simp only [Act.put]
        refine wpAnyH_ready (rs := [20]) (by kernel_rfl) (by simp) ?_
        refine AllReadyH.cons rfl (fun K hK => ?_) AllReadyH.nil
        go_simp
        refine (HSumP.out _ (by repeat' (first | with_reducible assumption | with_reducible exact Below.refl _ _ | with_reducible refine Below.setCell ?_ ?_ _ | with_reducible refine below_drewN ?_ _ | with_reducible refine Below.drew ?_ | with_reducible refine Below.alloc ?_ ?_ _ | with_reducible refine Below.trans ?_ (Below.mono (by with_reducible assumption) ?_) | omega | (simp; done) | (simp; omega)))).mono ?_
        rintro e y1 ⟨rfl, hu⟩
        (have hB := Below.trans (B := Y19.heap.size) (a := Y19) (b := _) (c := y1) (by repeat' (first | with_reducible assumption | with_reducible exact Below.refl _ _ | with_reducible refine Below.setCell ?_ ?_ _ | with_reducible refine below_drewN ?_ _ | with_reducible refine Below.drew ?_ | with_reducible refine Below.alloc ?_ ?_ _ | with_reducible refine Below.trans ?_ (Below.mono (by with_reducible assumption) ?_) | omega | (simp; done) | (simp; omega))) (hu.mono (by first | omega | (simp; done) | (simp; omega))); have := Below.size hB; clear hu)
        refine hK.out _ _ ?_ (fun hHeld => ?_)
        · (refine ⟨range_of HR18.out ?_, range_of HA19.out ?_, ?_⟩ <;> exact (by repeat' (first | with_reducible assumption | with_reducible exact Below.refl _ _ | with_reducible refine Below.setCell ?_ ?_ _ | with_reducible refine below_drewN ?_ _ | with_reducible refine Below.drew ?_ | with_reducible refine Below.alloc ?_ ?_ _ | with_reducible refine Below.trans ?_ (Below.mono (by with_reducible assumption) ?_) | omega | (simp; done) | (simp; omega))))
        clear hK K
        try simp only [Act.put, List.setIfInBounds_toArray, List.set_cons_zero, List.set_cons_succ]
        refine' wpAnyH_take (i := 21) (oi := _) (v := _) rfl (by kernel_rfl) (by kernel_rfl) (by kernel_rfl) (fun _ _ _ h => h) (Or.inl ⟨by kernel_rfl, ?hy⟩) (by assumption) ?rest2
        case hy =>
          intro w hSw
          try dsimp only at hSw
          go_simp
          try with_reducible rfl
        case rest2 =>
        try simp only [List.getElem_toArray, List.getElem_cons_succ, List.getElem_cons_zero, Act.put, List.setIfInBounds_toArray, List.set_cons_zero, List.set_cons_succ]
        refine' wpAnyH_take (i := 22) (oi := _) (v := _) rfl (by kernel_rfl) (by kernel_rfl) (by kernel_rfl) (fun _ _ _ h => h) (Or.inl ⟨by kernel_rfl, ?hy⟩) (by assumption) ?rest2
        case hy =>
          intro w hSw
          try dsimp only at hSw
          go_simp
          try with_reducible rfl
        case rest2 =>
        try simp only [List.getElem_toArray, List.getElem_cons_succ, List.getElem_cons_zero, Act.put, List.setIfInBounds_toArray, List.set_cons_zero, List.set_cons_succ]
        refine' wpAnyH_take (i := 23) (oi := _) (v := _) rfl (by kernel_rfl) (by kernel_rfl) (by kernel_rfl) (fun _ _ _ h => h) (Or.inl ⟨by kernel_rfl, ?hy⟩) (by assumption) ?rest2
        case hy =>
          intro w hSw
          try dsimp only at hSw
          go_simp
          try with_reducible rfl
        case rest2 =>
        try simp only [List.getElem_toArray, List.getElem_cons_succ, List.getElem_cons_zero, Act.put, List.setIfInBounds_toArray, List.set_cons_zero, List.set_cons_succ]
        refine' wpAnyH_take (i := 24) (oi := _) (v := _) rfl (by kernel_rfl) (by kernel_rfl) (by kernel_rfl) (fun _ _ _ h => h) (Or.inl ⟨by kernel_rfl, ?hy⟩) (by assumption) ?rest2
        case hy =>
          intro w hSw
          try dsimp only at hSw
          go_simp
          try with_reducible rfl
        case rest2 =>
        try simp only [List.getElem_toArray, List.getElem_cons_succ, List.getElem_cons_zero, Act.put, List.setIfInBounds_toArray, List.set_cons_zero, List.set_cons_succ]
        refine' wpAnyH_take (i := 26) (oi := _) (v := _) rfl (by kernel_rfl) (by kernel_rfl) (by kernel_rfl) (fun _ _ _ h => h) (Or.inl ⟨by kernel_rfl, ?hy⟩) (by assumption) ?rest2
        case hy =>
          intro w hSw
          try dsimp only at hSw
          go_simp
          try with_reducible rfl
        case rest2 =>
        try simp only [List.getElem_toArray, List.getElem_cons_succ, List.getElem_cons_zero, Act.put, List.setIfInBounds_toArray, List.set_cons_zero, List.set_cons_succ]
        refine wpAnyH_ready (rs := [25]) (by kernel_rfl) (by simp) ?_
        refine AllReadyH.cons rfl (fun K hK => ?_) AllReadyH.nil
        go_simp
        refine (HLenP.out _ (by repeat' (first | with_reducible assumption | with_reducible exact Below.refl _ _ | with_reducible refine Below.setCell ?_ ?_ _ | with_reducible refine below_drewN ?_ _ | with_reducible refine Below.drew ?_ | with_reducible refine Below.alloc ?_ ?_ _ | with_reducible refine Below.trans ?_ (Below.mono (by with_reducible assumption) ?_) | omega | (simp; done) | (simp; omega)))).mono ?_
        rintro e y2 ⟨rfl, rfl⟩
        refine hK.out _ _ ?_ (fun hHeld => ?_)
        · (refine ⟨range_of HR18.out ?_, range_of HA19.out ?_, ?_⟩ <;> exact (by repeat' (first | with_reducible assumption | with_reducible exact Below.refl _ _ | with_reducible refine Below.setCell ?_ ?_ _ | with_reducible refine below_drewN ?_ _ | with_reducible refine Below.drew ?_ | with_reducible refine Below.alloc ?_ ?_ _ | with_reducible refine Below.trans ?_ (Below.mono (by with_reducible assumption) ?_) | omega | (simp; done) | (simp; omega))))
        clear hK K
        try simp only [Act.put, List.setIfInBounds_toArray, List.set_cons_zero, List.set_cons_succ]
        refine' wpAnyH_take (i := 27) (oi := _) (v := _) rfl (by kernel_rfl) (by kernel_rfl) (by kernel_rfl) (fun _ _ _ h => h) (Or.inl ⟨by kernel_rfl, ?hy⟩) (by assumption) ?rest2
        case hy =>
          intro w hSw
          try dsimp only at hSw
          go_simp
          try with_reducible rfl
        case rest2 =>
        try simp only [List.getElem_toArray, List.getElem_cons_succ, List.getElem_cons_zero, Act.put, List.setIfInBounds_toArray, List.set_cons_zero, List.set_cons_succ]
        refine' wpAnyH_take (i := 28) (oi := _) (v := _) rfl (by kernel_rfl) (by kernel_rfl) (by kernel_rfl) (fun _ _ _ h => h) (Or.inl ⟨by kernel_rfl, ?hy⟩) (by assumption) ?rest2
        case hy =>
          intro w hSw
          try dsimp only at hSw
          go_simp
          try with_reducible rfl
        case rest2 =>
        try simp only [List.getElem_toArray, List.getElem_cons_succ, List.getElem_cons_zero, Act.put, List.setIfInBounds_toArray, List.set_cons_zero, List.set_cons_succ]
        refine wpAnyH_done (by kernel_rfl) ?_ _
        refine NoPanic.normal ?_
        have HBy := WirS.hide hB
        go_wp2_with fail
        go_roundw
        case rel => exact ⟨k + 1, A1, by omega, by go_num, rfl, HA1.out.1, HEnd.out, HLowY.out.trans (HBy.out.mono HLowY.out.size), HSt5.out.below HBy.out HSt5.out.lt⟩
        case measure => simp [intOf]; omega
      · obtain rfl : k = np := by omega
        obtain ⟨N, rfl⟩ : ∃ N, N = N0 := ⟨_, rfl⟩
        have hAN1 : A + N ≤ n := by have := HN0.out; omega
        have HEnd := WirS.hide (show k < k + 1 → A + N = n from fun _ => by have := HN0.out; omega)
        go_upto_region 14 with fail
        have HCp := WirS.hide (copy_any wr (sa b c A) N (c - A) ((bs.drop A).take N) (bin_sub (by have h5 := WirM.BIn.below HB.out HLow.out; rwa [HN.out] at h5) A N (by have := HN.out; omega)) (by have := HN4.out; omega))
        refine wp_region_lit ?_
        refine sV (.slice b n c) (wr) (by kernel_rfl) (by kernel_rfl) ?_
        simp only [Act.put, List.setIfInBounds_toArray, List.set_cons_succ, List.set_cons_zero]
        refine sV (.int .i64 (A : Int)) (wr) (by kernel_rfl) (by kernel_rfl) ?_
        simp only [Act.put, List.setIfInBounds_toArray, List.set_cons_succ, List.set_cons_zero]
        refine sV (.int .i64 (A : Int)) (wr) (by kernel_rfl) (by kernel_rfl) ?_
        simp only [Act.put, List.setIfInBounds_toArray, List.set_cons_succ, List.set_cons_zero]
        refine sV (.int .i64 (N : Int)) (wr) (by kernel_rfl) (by kernel_rfl) ?_
        simp only [Act.put, List.setIfInBounds_toArray, List.set_cons_succ, List.set_cons_zero]
        refine sB (by kernel_rfl) .add _ _ _ _ (by rfl) (.int .i64 (A : Int)) (.int .i64 (N : Int)) (by kernel_rfl) (by kernel_rfl) (.int .i64 ((A : Int) + (N : Int))) (addN A N (by omega) wr) (by kernel_rfl) ?_
        simp only [Act.put, List.setIfInBounds_toArray, List.set_cons_succ, List.set_cons_zero]
        obtain ⟨sv, hsv⟩ : ∃ v, v = Value.slice (sa b c A) N (c - A) := ⟨_, rfl⟩
        refine sV sv wr (by kernel_rfl) (opS _ _ _ _ _ b n c A (A + N) N sv rfl (by kernel_rfl) (by kernel_rfl) (by kernel_rfl) rfl hAN1 HCN.out hsv wr) ?_
        simp only [Act.put, List.setIfInBounds_toArray, List.set_cons_succ, List.set_cons_zero]
        rw [← hsv] at HCp
        refine sCx (by kernel_rfl) (by kernel_rfl) HCp.out ?_
        rintro e u1 ⟨pa, pn, pc, rfl, ho, hnw, hb1⟩
        refine ⟨_, rfl, ?_⟩
        simp only [Act.put, List.setIfInBounds_toArray, List.set_cons_succ, List.set_cons_zero]
        have HO := WirS.hide ho
        have HNW := WirS.hide hnw
        have HB1 := WirS.hide hb1
        clear ho hnw hb1 HCp hsv
        go_upto_region 15 with fail
        have hSlt := HSt.out.lt
        have HSt1 := WirS.hide (HSt.out.below HB1.out hSlt)
        have hoff : (Value.slice pa pn pc).ownBlock ≠ some S := fun e => by have := HNW.out S e; omega
        have HOff := WirS.hide hoff
        have hS0 : S ≠ 0 := HSt.out.1
        have hlen1 : (bs.take A).length + ((bs.drop A).take N).length < 4611686018427387904 := by
          have := HN4.out
          have := HN.out
          rw [List.length_take, List.length_take, List.length_drop]
          omega
        have HGl := WirS.hide (HG.out.below HLow.out HG.out.1)
        have HWr := WirS.hide (swr_any u1 S (bs.take A) ((bs.drop A).take N) (.slice pa pn pc) HSt1.out (bat_of (Own.bin HO.out) hoff) (rng_take (rng_drop HR.out A) N) (HGl.out.below HB1.out HGl.out.1) hlen1)
        have hS1 : S < u1.heap.size := HSt1.out.lt
        clear hoff hlen1 HSt1
        go_upto_region 16 with ((go_at_call 21; refine (HWr.out).mono ?_; rintro e u2 ⟨rfl, hst, cs, hch⟩; have HSt2 := WirS.hide hst; have HCh := WirS.hide hch; clear hst hch HWr))
        have HO2 := WirS.hide (Own.fr HO.out (fr_chg HCh.out) (fun k hk e => HOff.out (by rw [hk, e])))
        have hpn : pn ≤ 1099511627776 := by
          obtain ⟨_, _, e, _⟩ := Own.bin HO2.out
          have h1 : pn = ((bs.drop A).take N).length := by injection e
          have := HN4.out
          have := HN.out
          rw [List.length_take, List.length_drop] at h1
          omega
        have HOv := WirS.hide (over_any u2 pa pn pc _ HO2.out hpn)
        clear hpn
        go_upto_region 17 with ((go_at_call 27; refine (HOv.out).mono ?_; rintro e u3 ⟨rfl, _, hfr⟩; have HFr := WirS.hide hfr; clear hfr HOv))
        have HAN := WirS.hide (show bs.take A ++ (bs.drop A).take N = bs.take (A + N) from (List.take_add).symm)
        have HSt3 := WirS.hide (show St u3 S (bs.take (A + N)) by rw [← HAN.out]; exact st_fr HSt2.out HFr.out HOff.out)
        have HLow3 := WirS.hide (show Below w.heap.size w u3 from
          ((HLow.out.trans (HB1.out.mono HLow.out.size)).trans (HCh.out.below_of HS.out (Nat.le_trans HLow.out.size HB1.out.size))).trans (HFr.out.below (Nat.le_trans HLow.out.size (Nat.le_trans HB1.out.size HCh.out.size)) (fun q hq e => by have := HNW.out q e; have := HLow.out.size; omega)))
        clear HO HO2 HNW HB1 HCh HFr HSt2 HOff hSlt hS1 HGl HLow HSt
        have hb4 : (A : Int) + (N : Int) ≤ 400 := by omega
        go_upto_region 18 with fail
        obtain ⟨A1, hA1⟩ : ∃ A1 : Nat, A1 = A + N := ⟨_, rfl⟩
        rw [show (A : Int) + (N : Int) = (A1 : Int) by omega]
        rw [← hA1] at HSt3 HEnd
        have HA1 := WirS.hide (show A1 ≤ n ∧ A1 ≤ 400 by omega)
        obtain ⟨X, hX⟩ : ∃ X, X = sumL (bs.take A1) := ⟨_, rfl⟩
        have HX := WirS.hide hX
        have HXL := WirS.hide (show (b8 X).length = 32 by rw [hX, b8_len]; exact sumL_len _)
        clear hA1 hX hAN1 hb4 HAN
        refine wp_region_lit ?_
        refine sV (.pointer (some ⟨S, 0, none⟩)) (u3) (by kernel_rfl) (by kernel_rfl) ?_
        simp only [Act.put, List.setIfInBounds_toArray, List.set_cons_succ, List.set_cons_zero]
        refine sC (by kernel_rfl) (by kernel_rfl) (HX.out ▸ ssum_any u3 S (bs.take A1) HSt3.out (HG.out.below HLow3.out HG.out.1)) ?_
        intro x18 hb18
        simp only [Act.put, List.setIfInBounds_toArray, List.set_cons_succ, List.set_cons_zero]
        refine sV (.tuple #[.agg (b8 X).toArray, .int .i64 0]) (x18) (by kernel_rfl) (by kernel_rfl) ?_
        simp only [Act.put, List.setIfInBounds_toArray, List.set_cons_succ, List.set_cons_zero]
        refine sV (.agg (b8 X).toArray) (x18) (by kernel_rfl) (by kernel_rfl) ?_
        simp only [Act.put, List.setIfInBounds_toArray, List.set_cons_succ, List.set_cons_zero]
        refine sV (.int .i64 0) (x18) (by kernel_rfl) (by kernel_rfl) ?_
        simp only [Act.put, List.setIfInBounds_toArray, List.set_cons_succ, List.set_cons_zero]
        refine stepVal (v := .pointer (some ⟨x18.heap.size, 0, none⟩)) (w' := x18.alloc (.cells (b8 zH).toArray 26)) (by rfl) (alH _ _ rfl x18) ?_
        refine stepStore (by rfl) _ _ _ (by rfl) _ (b8 X) (by kernel_rfl) (by kernel_rfl) (At.new x18 26 (b8 zH)) 32 (by kernel_rfl) (by rw [b8_len]; rfl) HXL.out (oneCells_b8 _) ?_
        obtain ⟨H18, eH⟩ : ∃ H, H = x18.heap.size := ⟨_, rfl⟩
        obtain ⟨Y18, eY⟩ : ∃ Z, Z = (x18.alloc (.cells (b8 zH).toArray 26)).setRow x18.heap.size (b8 X).toArray := ⟨_, rfl⟩
        have HA18 := WirS.hide (show At Y18 H18 26 (b8 X) by rw [eY, eH]; exact (At.new x18 26 (b8 zH)).put _)
        have HY18 := WirS.hide (show Below u3.heap.size u3 Y18 by
          rw [eY]
          exact Below.setRowOwn (hb18.alloc hb18.size _) hb18.size _)
        rw [← eY, ← eH]
        clear eY eH hb18
        have HSt4 := WirS.hide (HSt3.out.below HY18.out HSt3.out.lt)
        have HLow4 := WirS.hide (HLow3.out.trans (HY18.out.mono HLow3.out.size))
        go_upto_region 19 with fail
        refine wp_region_lit ?_
        refine sV (.pointer (some ⟨S, 0, none⟩)) (Y18) (by kernel_rfl) (by kernel_rfl) ?_
        simp only [Act.put, List.setIfInBounds_toArray, List.set_cons_succ, List.set_cons_zero]
        refine sC (by kernel_rfl) (by kernel_rfl) (HX.out ▸ ssum_any Y18 S (bs.take A1) HSt4.out (HG.out.below HLow4.out HG.out.1)) ?_
        intro x19 hb19
        simp only [Act.put, List.setIfInBounds_toArray, List.set_cons_succ, List.set_cons_zero]
        refine sV (.tuple #[.agg (b8 X).toArray, .int .i64 0]) (x19) (by kernel_rfl) (by kernel_rfl) ?_
        simp only [Act.put, List.setIfInBounds_toArray, List.set_cons_succ, List.set_cons_zero]
        refine sV (.agg (b8 X).toArray) (x19) (by kernel_rfl) (by kernel_rfl) ?_
        simp only [Act.put, List.setIfInBounds_toArray, List.set_cons_succ, List.set_cons_zero]
        refine sV (.int .i64 0) (x19) (by kernel_rfl) (by kernel_rfl) ?_
        simp only [Act.put, List.setIfInBounds_toArray, List.set_cons_succ, List.set_cons_zero]
        refine stepVal (v := .pointer (some ⟨x19.heap.size, 0, none⟩)) (w' := x19.alloc (.cells (b8 zH).toArray 26)) (by rfl) (alH _ _ rfl x19) ?_
        refine stepStore (by rfl) _ _ _ (by rfl) _ (b8 X) (by kernel_rfl) (by kernel_rfl) (At.new x19 26 (b8 zH)) 32 (by kernel_rfl) (by rw [b8_len]; rfl) HXL.out (oneCells_b8 _) ?_
        obtain ⟨H19, eH⟩ : ∃ H, H = x19.heap.size := ⟨_, rfl⟩
        obtain ⟨Y19, eY⟩ : ∃ Z, Z = (x19.alloc (.cells (b8 zH).toArray 26)).setRow x19.heap.size (b8 X).toArray := ⟨_, rfl⟩
        have HA19 := WirS.hide (show At Y19 H19 26 (b8 X) by rw [eY, eH]; exact (At.new x19 26 (b8 zH)).put _)
        have HY19 := WirS.hide (show Below Y18.heap.size Y18 Y19 by
          rw [eY]
          exact Below.setRowOwn (hb19.alloc hb19.size _) hb19.size _)
        rw [← eY, ← eH]
        clear eY eH hb19
        have HSt5 := WirS.hide (HSt4.out.below HY19.out HSt4.out.lt)
        have HLow5 := WirS.hide (HLow4.out.trans (HY19.out.mono HLow4.out.size))
        have r1 : Y19.rangeAt H18 0 (b8 X) := at_range (HA18.out.below HY19.out HA18.out.lt)
        have r2 : Y19.rangeAt H19 0 (b8 X) := at_range HA19.out
        go_upto_region 20 with fail
        have HR18 := WirS.hide (HA18.out.below HY19.out HA18.out.lt)
        have lx : X.length = 32 := by rw [HX.out]; exact sumL_len _
        have hne : ∀ W, (binOp .neq 26 (.agg (b8 X).toArray) (.agg (b8 X).toArray)).run Tryd.prog W = .ok (.bool false) W := fun W => by rw [neqH X X lx lx W]; simp
        have hg1 : ∀ W, (eqGuard .neq 26 (.tmp 86) (.tmp 87) (.agg (b8 X).toArray) (.agg (b8 X).toArray)).run Tryd.prog W = .ok () W := fun W => by kernel_rfl
        have hg2 : ∀ W, (eqGuard .neq 26 (.tmp 91) (.tmp 95) (.agg (b8 X).toArray) (.agg (b8 X).toArray)).run Tryd.prog W = .ok () W := fun W => by kernel_rfl
        have hu0 := Tryd.underlying26
        have hi0 : (Tryd.prog.info? 26).map (·.size) = some (b8 X).length := by rw [HXL.out]; kernel_rfl
        have hsl : ∀ Y, (Instr.sliceAt 22 (.slice b n c) none (some (.int .i64 (A1 : Int))) none).run Tryd.prog Y = .ok (.slice (sa b c 0) A1 (c - 0)) Y := slH b n c A1 (by have := HA1.out.1; have := HCN.out; omega)
        have HLowY := WirS.hide HLow5.out
        have HSumP := WirS.hide (show ∀ U, Below Y19.heap.size Y19 U → Calls Tryd.prog 11 #[.slice (sa b c 0) A1 (c - 0)] U (fun e w' => e = .returned (.agg (b8 X).toArray) ∧ Below U.heap.size U w') from fun U hU => by
          have hl := HLowY.out.trans (hU.mono HLowY.out.size)
          have h5 := WirM.BIn.below HB.out hl
          rw [HN.out] at h5
          have h6 := bin_sub h5 0 A1 (by have := HA1.out.1; have := HN.out; omega)
          rw [List.drop_zero] at h6
          rw [HX.out]
          exact sumP_any U _ (bs.take A1) h6 (rng_take HR.out A1) (HG.out.below hl HG.out.1) (by have := HA1.out.2; rw [List.length_take]; omega))
        have HLenP := WirS.hide (show ∀ U, Below Y19.heap.size Y19 U → Calls Tryd.prog 22 #[.pointer (some ⟨S, 0, none⟩)] U (fun e w' => e = .returned (.int .i64 (A1 : Int)) ∧ U = w') from fun U hU => by
          have hlen : (bs.take A1).length = A1 := by have := HA1.out.1; have := HN.out; rw [List.length_take]; omega
          have := slen_any U S (bs.take A1) (HSt5.out.below hU HSt5.out.lt) (by rw [hlen]; have := HA1.out.2; omega)
          rwa [hlen] at this)
        clear lx r1 r2
        refine wp_region_noPanic ?_
        refine wp_region_held_drew (S := fun w' => w'.rangeAt H18 0 (b8 X) ∧ w'.rangeAt H19 0 (b8 X) ∧ Below Y19.heap.size Y19 w') (by kernel_rfl) ?_ (fun hHeld => ?_)
        · (refine ⟨range_of HR18.out ?_, range_of HA19.out ?_, ?_⟩ <;> exact (by repeat' (first | with_reducible assumption | with_reducible exact Below.refl _ _ | with_reducible refine Below.setCell ?_ ?_ _ | with_reducible refine below_drewN ?_ _ | with_reducible refine Below.drew ?_ | with_reducible refine Below.alloc ?_ ?_ _ | with_reducible refine Below.trans ?_ (Below.mono (by with_reducible assumption) ?_) | omega | (simp; done) | (simp; omega))))
        refine' wpAnyH_take (i := 0) (oi := _) (v := _) rfl (by kernel_rfl) (by kernel_rfl) (by kernel_rfl) (fun _ _ _ h => h) (Or.inl ⟨by kernel_rfl, ?hy⟩) (by assumption) ?rest2
        case hy =>
          intro w hSw
          try dsimp only at hSw
          go_simp
          try with_reducible rfl
        case rest2 =>
        try simp only [Act.put, List.setIfInBounds_toArray]
        refine' wpAnyH_take (i := 1) (oi := _) (v := _) rfl (by kernel_rfl) (by kernel_rfl) (by kernel_rfl) (fun _ _ _ h => h) (Or.inl ⟨by kernel_rfl, ?hy⟩) (by assumption) ?rest2
        case hy =>
          intro w hSw
          try dsimp only at hSw
          go_simp
          try with_reducible rfl
        case rest2 =>
        try simp only [Act.put]
        refine' wpAnyH_take (i := 2) (oi := _) (v := _) rfl (by kernel_rfl) (by kernel_rfl) (by kernel_rfl) (fun _ _ _ h => h) (Or.inl ⟨by kernel_rfl, ?hy⟩) (by assumption) ?rest2
        case hy =>
          intro w hSw
          try dsimp only at hSw
          go_simp
          try with_reducible rfl
        case rest2 =>
        try simp only [Act.put]
        refine' wpAnyH_take (i := 3) (oi := _) (v := _) rfl (by kernel_rfl) (by kernel_rfl) (by kernel_rfl) (fun _ _ _ h => h) (Or.inl ⟨by kernel_rfl, ?hy⟩) (by assumption) ?rest2
        case hy =>
          intro w hSw
          try dsimp only at hSw
          go_simp
          try with_reducible rfl
        case rest2 =>
        try simp only [Act.put]
        refine' wpAnyH_take (i := 4) (oi := _) (v := _) rfl (by kernel_rfl) (by kernel_rfl) (by kernel_rfl) (fun _ _ _ h => h) (Or.inl ⟨by kernel_rfl, ?hy⟩) (by assumption) ?rest2
        case hy =>
          intro w hSw
          try dsimp only at hSw
          go_simp
          try with_reducible rfl
        case rest2 =>
        try simp only [Act.put]
        refine' wpAnyH_take (i := 5) (oi := _) (v := _) rfl (by kernel_rfl) (by kernel_rfl) (by kernel_rfl) (fun _ _ _ h => h) (Or.inl ⟨by kernel_rfl, ?hy⟩) (by assumption) ?rest2
        case hy =>
          intro w hSw
          try dsimp only at hSw
          go_simp
          try with_reducible rfl
        case rest2 =>
        try simp only [Act.put]
        refine' wpAnyH_take (i := 6) (oi := _) (v := _) rfl (by kernel_rfl) (by kernel_rfl) (by kernel_rfl) (fun _ _ _ h => h) (Or.inl ⟨by kernel_rfl, ?hy⟩) (by assumption) ?rest2
        case hy =>
          intro w hSw
          try dsimp only at hSw
          go_simp
          try with_reducible rfl
        case rest2 =>
        try simp only [Act.put]
        refine' wpAnyH_take (i := 7) (oi := _) (v := _) rfl (by kernel_rfl) (by kernel_rfl) (by kernel_rfl) (fun _ _ _ h => h) (Or.inl ⟨by kernel_rfl, ?hy⟩) (by assumption) ?rest2
        case hy =>
          intro w hSw
          try dsimp only at hSw
          go_simp
          try with_reducible rfl
        case rest2 =>
        try simp only [Act.put]
        refine' wpAnyH_take (i := 8) (oi := _) (v := _) rfl (by kernel_rfl) (by kernel_rfl) (by kernel_rfl) (fun _ _ _ h => h) (Or.inl ⟨by kernel_rfl, ?hy⟩) (by assumption) ?rest2
        case hy =>
          intro w hSw
          try dsimp only at hSw
          go_simp
          try with_reducible rfl
        case rest2 =>
        try simp only [Act.put]
        refine' wpAnyH_take (i := 9) (oi := _) (v := _) rfl (by kernel_rfl) (by kernel_rfl) (by kernel_rfl) (fun _ _ _ h => h) (Or.inl ⟨by kernel_rfl, ?hy⟩) (by assumption) ?rest2
        case hy =>
          intro w hSw
          try dsimp only at hSw
          go_simp
          try with_reducible rfl
        case rest2 =>
        try simp only [Act.put]
        refine' wpAnyH_take (i := 10) (oi := _) (v := _) rfl (by kernel_rfl) (by kernel_rfl) (by kernel_rfl) (fun _ _ _ h => h) (Or.inl ⟨by kernel_rfl, ?hy⟩) (by assumption) ?rest2
        case hy =>
          intro w hSw
          try dsimp only at hSw
          go_simp
          try with_reducible rfl
        case rest2 =>
        try simp only [Act.put]
        refine' wpAnyH_take (i := 11) (oi := _) (v := _) rfl (by kernel_rfl) (by kernel_rfl) (by kernel_rfl) (fun _ _ _ h => h) (yieldsIf_load_mid (by kernel_rfl) 26 (.tmp 12) (by kernel_rfl) H18 0 (by kernel_rfl) (b8 X) _ ?hS ?hu ?hd ?hi) (by assumption) ?rest2
        case hS =>
          intro w hSw
          try dsimp only at hSw
          go_split_ands
          assumption
        case hu => assumption
        case hd => rfl
        case hi => first | assumption | (simp only [*]; done)
        case rest2 =>
        try simp only [Act.put]
        refine' wpAnyH_take (i := 12) (oi := _) (v := _) rfl (by kernel_rfl) (by kernel_rfl) (by kernel_rfl) (fun _ _ _ h => h) (yieldsIf_load_mid (by kernel_rfl) 26 (.tmp 14) (by kernel_rfl) H19 0 (by kernel_rfl) (b8 X) _ ?hS ?hu ?hd ?hi) (by assumption) ?rest2
        case hS =>
          intro w hSw
          try dsimp only at hSw
          go_split_ands
          assumption
        case hu => assumption
        case hd => rfl
        case hi => first | assumption | (simp only [*]; done)
        case rest2 =>
        try simp only [Act.put]
        refine' wpAnyH_take (i := 13) (oi := _) (v := _) rfl (by kernel_rfl) (by kernel_rfl) (by kernel_rfl) (fun _ _ _ h => h) (Or.inl ⟨by kernel_rfl, ?hy⟩) (by assumption) ?rest2
        case hy =>
          intro w hSw
          try dsimp only at hSw
          go_simp
          try with_reducible rfl
        case rest2 =>
        try simp only [Act.put]
        refine' wpAnyH_take (i := 14) (oi := _) (v := _) rfl (by kernel_rfl) (by kernel_rfl) (by kernel_rfl) (fun _ _ _ h => h) (Or.inl ⟨by kernel_rfl, ?hy⟩) (by assumption) ?rest2
        case hy =>
          intro w hSw
          try dsimp only at hSw
          go_simp
          try with_reducible rfl
        case rest2 =>
        try simp only [Act.put]
        refine' wpAnyH_take (i := 15) (oi := _) (v := _) rfl (by kernel_rfl) (by kernel_rfl) (by kernel_rfl) (fun _ _ _ h => h) (Or.inl ⟨by kernel_rfl, ?hy⟩) (by assumption) ?rest2
        case hy =>
          intro w hSw
          try dsimp only at hSw
          go_simp
          try with_reducible rfl
        case rest2 =>
        try simp only [Act.put]
        refine' wpAnyH_take (i := 16) (oi := _) (v := _) rfl (by kernel_rfl) (by kernel_rfl) (by kernel_rfl) (fun _ _ _ h => h) (yieldsIf_load_mid (by kernel_rfl) 26 (.tmp 12) (by kernel_rfl) H18 0 (by kernel_rfl) (b8 X) _ ?hS ?hu ?hd ?hi) (by assumption) ?rest2
        case hS =>
          intro w hSw
          try dsimp only at hSw
          go_split_ands
          assumption
        case hu => assumption
        case hd => rfl
        case hi => first | assumption | (simp only [*]; done)
        case rest2 =>
        try simp only [Act.put]
        refine' wpAnyH_take (i := 17) (oi := _) (v := _) rfl (by kernel_rfl) (by kernel_rfl) (by kernel_rfl) (fun _ _ _ h => h) (Or.inl ⟨by kernel_rfl, ?hy⟩) (by assumption) ?rest2
        case hy =>
          intro w hSw
          try dsimp only at hSw
          go_simp
          try with_reducible rfl
        case rest2 =>
        try simp only [Act.put]
        refine' wpAnyH_take (i := 18) (oi := _) (v := _) rfl (by kernel_rfl) (by kernel_rfl) (by kernel_rfl) (fun _ _ _ h => h) (Or.inl ⟨by kernel_rfl, ?hy⟩) (by assumption) ?rest2
        case hy =>
          intro w hSw
          try dsimp only at hSw
          go_simp
          try with_reducible rfl
        case rest2 =>
        try simp only [Act.put]
        refine' wpAnyH_take (i := 19) (oi := _) (v := _) rfl (by kernel_rfl) (by kernel_rfl) (by kernel_rfl) (fun _ _ _ h => h) (Or.inl ⟨by kernel_rfl, ?hy⟩) (by assumption) ?rest2
        case hy =>
          intro w hSw
          try dsimp only at hSw
          go_simp
          try with_reducible rfl
        case rest2 =>
        try simp only [Act.put]
        refine wpAnyH_ready (rs := [20]) (by kernel_rfl) (by simp) ?_
        refine AllReadyH.cons rfl (fun K hK => ?_) AllReadyH.nil
        go_simp
        refine (HSumP.out _ (by repeat' (first | with_reducible assumption | with_reducible exact Below.refl _ _ | with_reducible refine Below.setCell ?_ ?_ _ | with_reducible refine below_drewN ?_ _ | with_reducible refine Below.drew ?_ | with_reducible refine Below.alloc ?_ ?_ _ | with_reducible refine Below.trans ?_ (Below.mono (by with_reducible assumption) ?_) | omega | (simp; done) | (simp; omega)))).mono ?_
        rintro e y1 ⟨rfl, hu⟩
        (have hB := Below.trans (B := Y19.heap.size) (a := Y19) (b := _) (c := y1) (by repeat' (first | with_reducible assumption | with_reducible exact Below.refl _ _ | with_reducible refine Below.setCell ?_ ?_ _ | with_reducible refine below_drewN ?_ _ | with_reducible refine Below.drew ?_ | with_reducible refine Below.alloc ?_ ?_ _ | with_reducible refine Below.trans ?_ (Below.mono (by with_reducible assumption) ?_) | omega | (simp; done) | (simp; omega))) (hu.mono (by first | omega | (simp; done) | (simp; omega))); have := Below.size hB; clear hu)
        refine hK.out _ _ ?_ (fun hHeld => ?_)
        · (refine ⟨range_of HR18.out ?_, range_of HA19.out ?_, ?_⟩ <;> exact (by repeat' (first | with_reducible assumption | with_reducible exact Below.refl _ _ | with_reducible refine Below.setCell ?_ ?_ _ | with_reducible refine below_drewN ?_ _ | with_reducible refine Below.drew ?_ | with_reducible refine Below.alloc ?_ ?_ _ | with_reducible refine Below.trans ?_ (Below.mono (by with_reducible assumption) ?_) | omega | (simp; done) | (simp; omega))))
        clear hK K
        try simp only [Act.put, List.setIfInBounds_toArray, List.set_cons_zero, List.set_cons_succ]
        refine' wpAnyH_take (i := 21) (oi := _) (v := _) rfl (by kernel_rfl) (by kernel_rfl) (by kernel_rfl) (fun _ _ _ h => h) (Or.inl ⟨by kernel_rfl, ?hy⟩) (by assumption) ?rest2
        case hy =>
          intro w hSw
          try dsimp only at hSw
          go_simp
          try with_reducible rfl
        case rest2 =>
        try simp only [List.getElem_toArray, List.getElem_cons_succ, List.getElem_cons_zero, Act.put, List.setIfInBounds_toArray, List.set_cons_zero, List.set_cons_succ]
        refine' wpAnyH_take (i := 22) (oi := _) (v := _) rfl (by kernel_rfl) (by kernel_rfl) (by kernel_rfl) (fun _ _ _ h => h) (Or.inl ⟨by kernel_rfl, ?hy⟩) (by assumption) ?rest2
        case hy =>
          intro w hSw
          try dsimp only at hSw
          go_simp
          try with_reducible rfl
        case rest2 =>
        try simp only [List.getElem_toArray, List.getElem_cons_succ, List.getElem_cons_zero, Act.put, List.setIfInBounds_toArray, List.set_cons_zero, List.set_cons_succ]
        refine' wpAnyH_take (i := 23) (oi := _) (v := _) rfl (by kernel_rfl) (by kernel_rfl) (by kernel_rfl) (fun _ _ _ h => h) (Or.inl ⟨by kernel_rfl, ?hy⟩) (by assumption) ?rest2
        case hy =>
          intro w hSw
          try dsimp only at hSw
          go_simp
          try with_reducible rfl
        case rest2 =>
        try simp only [List.getElem_toArray, List.getElem_cons_succ, List.getElem_cons_zero, Act.put, List.setIfInBounds_toArray, List.set_cons_zero, List.set_cons_succ]
        refine' wpAnyH_take (i := 24) (oi := _) (v := _) rfl (by kernel_rfl) (by kernel_rfl) (by kernel_rfl) (fun _ _ _ h => h) (Or.inl ⟨by kernel_rfl, ?hy⟩) (by assumption) ?rest2
        case hy =>
          intro w hSw
          try dsimp only at hSw
          go_simp
          try with_reducible rfl
        case rest2 =>
        try simp only [List.getElem_toArray, List.getElem_cons_succ, List.getElem_cons_zero, Act.put, List.setIfInBounds_toArray, List.set_cons_zero, List.set_cons_succ]
        refine' wpAnyH_take (i := 26) (oi := _) (v := _) rfl (by kernel_rfl) (by kernel_rfl) (by kernel_rfl) (fun _ _ _ h => h) (Or.inl ⟨by kernel_rfl, ?hy⟩) (by assumption) ?rest2
        case hy =>
          intro w hSw
          try dsimp only at hSw
          go_simp
          try with_reducible rfl
        case rest2 =>
        try simp only [List.getElem_toArray, List.getElem_cons_succ, List.getElem_cons_zero, Act.put, List.setIfInBounds_toArray, List.set_cons_zero, List.set_cons_succ]
        refine wpAnyH_ready (rs := [25]) (by kernel_rfl) (by simp) ?_
        refine AllReadyH.cons rfl (fun K hK => ?_) AllReadyH.nil
        go_simp
        refine (HLenP.out _ (by repeat' (first | with_reducible assumption | with_reducible exact Below.refl _ _ | with_reducible refine Below.setCell ?_ ?_ _ | with_reducible refine below_drewN ?_ _ | with_reducible refine Below.drew ?_ | with_reducible refine Below.alloc ?_ ?_ _ | with_reducible refine Below.trans ?_ (Below.mono (by with_reducible assumption) ?_) | omega | (simp; done) | (simp; omega)))).mono ?_
        rintro e y2 ⟨rfl, rfl⟩
        refine hK.out _ _ ?_ (fun hHeld => ?_)
        · (refine ⟨range_of HR18.out ?_, range_of HA19.out ?_, ?_⟩ <;> exact (by repeat' (first | with_reducible assumption | with_reducible exact Below.refl _ _ | with_reducible refine Below.setCell ?_ ?_ _ | with_reducible refine below_drewN ?_ _ | with_reducible refine Below.drew ?_ | with_reducible refine Below.alloc ?_ ?_ _ | with_reducible refine Below.trans ?_ (Below.mono (by with_reducible assumption) ?_) | omega | (simp; done) | (simp; omega))))
        clear hK K
        try simp only [Act.put, List.setIfInBounds_toArray, List.set_cons_zero, List.set_cons_succ]
        refine' wpAnyH_take (i := 27) (oi := _) (v := _) rfl (by kernel_rfl) (by kernel_rfl) (by kernel_rfl) (fun _ _ _ h => h) (Or.inl ⟨by kernel_rfl, ?hy⟩) (by assumption) ?rest2
        case hy =>
          intro w hSw
          try dsimp only at hSw
          go_simp
          try with_reducible rfl
        case rest2 =>
        try simp only [List.getElem_toArray, List.getElem_cons_succ, List.getElem_cons_zero, Act.put, List.setIfInBounds_toArray, List.set_cons_zero, List.set_cons_succ]
        refine' wpAnyH_take (i := 28) (oi := _) (v := _) rfl (by kernel_rfl) (by kernel_rfl) (by kernel_rfl) (fun _ _ _ h => h) (Or.inl ⟨by kernel_rfl, ?hy⟩) (by assumption) ?rest2
        case hy =>
          intro w hSw
          try dsimp only at hSw
          go_simp
          try with_reducible rfl
        case rest2 =>
        try simp only [List.getElem_toArray, List.getElem_cons_succ, List.getElem_cons_zero, Act.put, List.setIfInBounds_toArray, List.set_cons_zero, List.set_cons_succ]
        refine wpAnyH_done (by kernel_rfl) ?_ _
        refine NoPanic.normal ?_
        have HBy := WirS.hide hB
        go_wp2_with fail
        go_roundw
        case rel => exact ⟨k + 1, A1, by omega, by go_num, rfl, HA1.out.1, HEnd.out, HLowY.out.trans (HBy.out.mono HLowY.out.size), HSt5.out.below HBy.out HSt5.out.lt⟩
        case measure => simp [intOf]
    · obtain rfl : A = n := HAn.out (by omega)
      go_wp2_with fail
      go_ret
      exact ⟨rfl, HLow.out⟩
theorem k_some (W : World) (x : Addr) (l c : Nat) (zs : List Int) (hl : l ≤ c) (hz : zs.length = c) (hcell : ∀ i, i < zs.length → W.cell? (x.add i) = some (.int .i64 (zs.getD i 0))) : KIn W (some x) l zs := ⟨fun j hj => by
  obtain ⟨b, off, rfl, hc⟩ := Go.ints_at hcell (by omega)
  refine ⟨b, off, rfl, ?_, fun i hi => hc i (by omega)⟩
  have h0 := hc 0 (by omega)
  unfold World.cell? at h0
  rcases Nat.lt_or_ge b W.heap.size with h | h
  · exact h
  · have : W.heap[b]? = none := by simp [h]
    simp [this] at h0⟩
theorem ints_in {H : Type} {enc : TypeId × Value → H} {W : World} {fuel : Nat} {cs : List Value} {x : DataW H × List MemPlace} (h : DataW.trod enc Tryd.prog W 0 (fun _ => true) true fuel 53 cs = some x) :
    ∃ va vn vc zs, cs = [.slice va vn vc] ∧ KIn W va vn zs := by
  rcases Go.ChangeShapes.open_ints Tryd.underlying53 Tryd.underlying3 (by kernel_rfl) h with ⟨hcs, _⟩ | ⟨a, l, c, zs, hcs, _, hl, hm, hz, _, hcell, hwz⟩
  · exact ⟨none, 0, 0, [], hcs, ⟨fun i hi => by omega⟩⟩
  · exact ⟨some a, l, c, zs, hcs, k_some W a l c zs hl (by simpa using hz) hcell⟩
theorem pieces_row (w : World) (b : Option Addr) (n c : Nat) (bs : List Int) (ka : Option Addr) (np kc : Nat) (ks : List Int) (hb : BlkK.BIn w (.slice b n c) bs ∧ rng bs) (hk : KIn w ka np ks) (hg : Glob w) :
    Calls Tryd.prog 7 #[.slice b n c, .slice ka np kc] w fun e w' => e = .returned (.bool true) ∧ Below w.heap.size w w' := pieces_any w b n c bs hb.1 hb.2 ka np kc ks hk hg
end BlkPi
end Go.Proofs.YtfbiefjojidhoaaDoor
