/-
  WireBack walked.
-/
import Derived.Test.YtkdgndgejhkmpaaWirBF
import Derived.Test.YtkdgndgejhkmpaaWirBH
import Derived.Test.YtkdgndgejhkmpaaWirAC
namespace Go.Proofs.Ytkdgndgejhkmpaa
namespace WirBG
open Go.RowKit PaceA FltC
open BlkM WirM WirS WirA WirB WirC WirD WirE WirF WirG WirH WirI WirJ WirK WirL WirN WirO WirP WirQ WirR WirT WirU WirV WirW WirX WirY WirZ WirNA WirRT WirAA WirAB WirBE WirBB WirBC WirBA WirBD WirBF WirBH WirAC

theorem fault_neq (e a' f b' : Int) (W : World) : (binOp .neq 55 (.agg #[.int .i64 e, .int .i64 a']) (.agg #[.int .i64 f, .int .i64 b'])).run Try.prog W = .ok (.bool (!(e == f && a' == b'))) W := by
  have p0 : ∀ (x y : Int) (V : World), (part 26 #[.int .i64 x, .int .i64 y] 0).run Try.prog V = .ok (.int .i64 x) V := fun x y V => by kernel_rfl
  have p1 : ∀ (x y : Int) (V : World), (part 3 #[.int .i64 x, .int .i64 y] 1).run Try.prog V = .ok (.int .i64 y) V := fun x y V => by kernel_rfl
  have k1 : ∀ d : Nat, (Op.equalIn (d + 2) 55 (.agg #[.int .i64 e, .int .i64 a']) (.agg #[.int .i64 f, .int .i64 b'])).run Try.prog W = .ok (e == f && a' == b') W := fun d => by
    simp [Op.equalIn, run_underlying Try.underlying55, run_underlying Try.underlying26, run_underlying Try.underlying3, p0, p1]
    by_cases h1 : e = f <;> by_cases h2 : a' = b' <;> simp [h1, h2]
  simp only [binOp]
  simp [Op.equal, Op.maxDepth, k1 9998]
/-- Every number of these things is none below 0. -/
def Nums (l : List Te) : Prop := ∀ x ∈ l, x.t.kd = 0 → 0 ≤ x.t.n
theorem Nums.succ {ts : List Te} {k : Nat} {x : Te} (h : Nums (ts.take k)) (hx : ts[k]? = some x) (hn : x.t.kd = 0 → 0 ≤ x.t.n) : Nums (ts.take (k + 1)) := by
  rw [List.take_add_one, hx]
  intro y hy
  rcases List.mem_append.1 hy with hy | hy
  · exact h y hy
  · simp at hy
    subst hy
    exact hn
def Mid1 (w : World) (ts : List Te) (W ln : Nat) (i : Value) (U : World) : Prop :=
  ∃ (k : Nat) (v : Value), k ≤ ln ∧ i = .int .i64 (k : Int) ∧ Nums (ts.take k) ∧ Bag w U [wtr W 1048576 v (fms (ts.take k)) 0]
def Mid2 (w : World) (ts : List Te) (R : Nat) (a : Option Addr) (c : Nat) (b : Value) (ln : Nat) (i : Value) (U : World) : Prop :=
  ∃ k : Nat, k ≤ ln ∧ i = .int .i64 (k : Int) ∧ Bag w U [rdr R a c ((fms ts).take (fms ts).length) (fms (ts.take k)).length 0 0, binb b (fms ts)]
def Mid3 (w : World) (ts : List Te) (R : Nat) (a : Option Addr) (c cut : Nat) (ln : Nat) (i : Value) (U : World) : Prop :=
  ∃ (k p : Nat) (fe fa : Int), k ≤ ln ∧ i = .int .i64 (k : Int) ∧ ((fe = 0 ∧ fa = 0 ∧ p = (fms (ts.take k)).length ∧ p ≤ cut) ∨ (fe = 6 ∧ fa ≤ (cut : Int))) ∧ Bag w U [rdr R a c ((fms ts).take cut) p fe fa]
/-- A thing is written: what is nothing writes nothing. -/
theorem puts_fm (w0 w : World) (W : Nat) (lim : Int) (v : Value) (ys : List Int) (x : Te) (h : Bag w0 w [wtr W lim v ys 0]) (ht : Wf w0 x.t x.va x.vn x.vc x.zs) (hs : x.vn ≤ 300) (hn : x.t.kd = 0 → 0 ≤ x.t.n)
    (hl : ((ys.length + (fm x).length : Nat) : Int) ≤ lim) :
    Calls Try.prog 14 #[.pointer (some ⟨W, 0, none⟩), .agg x.t.cells.toArray] w (Ans 0 (Put w0 [] W lim (ys ++ fm x))) := by
  have hlen := ht.len
  by_cases hk : 0 ≤ x.t.kd ∧ x.t.kd ≤ 7
  · have e : fm x = form x.t x.zs := by unfold fm; rw [if_pos hk]
    rw [e] at hl ⊢
    refine puts_bag2 w0 w [] W lim v ys x.t x.va x.vn x.vc x.zs h hk hn (ht.more h.low (Below.refl _ _)) (fun hne k hkk hX => ?_) (by omega) hl
    obtain ⟨a', c', e1, _, hz⟩ := ht.bin
    have hva : x.va = a' := by injection e1
    rw [hva] at hkk
    obtain ⟨B, o, e2, hB, _⟩ := hz hne
    rw [e2] at hkk
    have hkB : k = B := by simpa [Value.ownBlock] using hkk.symm
    have := (h.all (wtr W lim v ys 0) (by simp)).2 k hX
    omega
  · have e : fm x = [] := by unfold fm; rw [if_neg hk]
    rw [e, List.append_nil]
    exact (putsE w _ x.t hk).mono fun _ _ ⟨h1, h2⟩ => ⟨h1, v, by rw [h2]; exact h.more (PW_below _ _)⟩
set_option maxHeartbeats 4000000 in
theorem back_law (w : World) (la : Option Addr) (ln lc : Nat) (ts : List Te) (hL : LIn w la ln ts) (q : Int) :
    Calls Try.prog 7 #[.slice la ln lc, .int .i64 q] w fun e w' => e = .returned (.bool true) ∧ Below w.heap.size w w' := by
  have HL := WirS.hide hL
  clear hL
  cases hlong : isLong ts with
  | true =>
    have HG := WirS.hide hlong
    clear hlong
    go_enter Try.func7, Try.ntmps7
    go_wp2_with (first | (go_at_call 6; refine (known_any w).mono ?_; rintro e w1 ⟨rfl, h1⟩; have H1 := WirS.hide h1; clear h1) | (go_at_call 9; refine (show Calls _ _ _ _ (fun e w' => e = .returned (.bool true) ∧ w' = _) from HG.out ▸ long_any _ la ln lc ts (HL.out.below H1.out)).mono ?_; rintro e w2 ⟨rfl, rfl⟩))
    go_ret
    exact ⟨rfl, H1.out⟩
  | false =>
    obtain ⟨hln, hvs⟩ := long_no hlong
    have HG := WirS.hide hlong
    have HV := WirS.hide hvs
    have hlt := HL.out.len
    have hl30 : ln ≤ 30 := by omega
    have HT := WirS.hide (show (fms ts).length ≤ 9270 from Nat.le_trans (fms_len ts (fun x hx => fm_len x (by have h1 := (HL.out.wf x hx).1.len; have h2 := HV.out x hx; omega) (HL.out.wf x hx).1.n1)) (by omega))
    clear hlong hvs hln hlt
    go_enter Try.func7, Try.ntmps7
    go_upto_region 4 with (first | (go_at_call 6; refine (known_any w).mono ?_; rintro e w1 ⟨rfl, h1⟩; have H1 := WirS.hide h1; clear h1) | (go_at_call 9; refine (show Calls _ _ _ _ (fun e w' => e = .returned (.bool false) ∧ w' = _) from HG.out ▸ long_any _ la ln lc ts (HL.out.below H1.out)).mono ?_; rintro e w2 ⟨rfl, rfl⟩))
    have HB1 := WirS.hide (Bag.nil H1.out)
    clear H1
    go_upto_region 8 with ((go_at_call 11; refine (new_any _ 1048576 (by omega) (by omega)).mono ?_; rintro e w3 ⟨W, rfl, hW, hs, hb3⟩; have H3 := WirS.hide (bag_wtr HB1.out hW hs (newB_nil _ _ _) hb3); clear hW hs hb3 HB1))
    go_loopw [8] (fun i wr => Mid1 w ts W ln i wr) (fun i _ => ln - (intOf i).toNat)
    case atStart => exact ⟨0, _, Nat.zero_le _, rfl, (fun x hx => by simp at hx), H3.out⟩
    case round =>
      clear H3
      obtain ⟨k, v, hk, rfl, hnum, hbag⟩ := hrel
      have HBg := WirS.hide hbag
      have HN := WirS.hide hnum
      clear hbag hnum
      by_cases hlt : k < ln
      · obtain ⟨x, B, o, hx, hmem, rfl, hB, hr⟩ := (HL.out.below HBg.out.low).cell hlt
        have hwf := (HL.out.wf x hmem).1
        have hr0 : wr.cell? ⟨B, o + k * 41, none⟩ = some (.int .i64 x.t.kd) := hr 0 _ rfl
        have hr1 : wr.cell? ⟨B, o + k * 41 + 1, none⟩ = some (.int .i64 x.t.n) := hr 1 _ rfl
        have hkl : (k : Int) < (ln : Int) := by omega
        have HR := WirS.hide hr
        have HX := WirS.hide hx
        have HW := WirS.hide hwf
        have HS := WirS.hide (HV.out x hmem)
        have HM := WirS.hide hmem
        clear hr hx hwf hmem
        by_cases hneg : x.t.kd = 0 ∧ x.t.n < 0
        · obtain ⟨h1, h2⟩ := hneg
          rw [h1] at hr0
          go_wp2_with fail
          go_ret
          exact ⟨rfl, HBg.out.low⟩
        · have HNN := WirS.hide (show x.t.kd = 0 → 0 ≤ x.t.n from fun h => Int.not_lt.1 fun h2 => hneg ⟨h, h2⟩)
          have HLE := WirS.hide (show (((fms (ts.take k)).length + (fm x).length : Nat) : Int) ≤ 1048576 by
            have h1 := fms_take_le ts (k + 1)
            rw [fms_succ HX.out, List.length_append] at h1
            have := HT.out
            omega)
          rcases (show (x.t.kd == 0) = false ∨ (x.t.kd = 0 ∧ ¬ x.t.n < 0) from (by
            by_cases h : x.t.kd = 0
            · exact .inr ⟨h, fun h2 => hneg ⟨h, h2⟩⟩
            · exact .inl (by simpa using h))) with hz | ⟨hz, hnn⟩
          · clear hneg
            go_upto_region 12 with fail
            refine wp_region_lit ?_
            refine sV (.pointer (some ⟨W, 0, none⟩)) (wr) (by kernel_rfl) (by kernel_rfl) ?_
            simp only [Act.put, List.setIfInBounds_toArray, List.set_cons_succ, List.set_cons_zero]
            refine sV (.slice (some ⟨B, o, none⟩) ln lc) (wr) (by kernel_rfl) (by kernel_rfl) ?_
            simp only [Act.put, List.setIfInBounds_toArray, List.set_cons_succ, List.set_cons_zero]
            refine sV (.int .i64 (k : Int)) (wr) (by kernel_rfl) (by kernel_rfl) ?_
            simp only [Act.put, List.setIfInBounds_toArray, List.set_cons_succ, List.set_cons_zero]
            refine sV (.pointer (some ⟨B, o + k * 41, none⟩)) wr (by kernel_rfl) (opX _ _ _ _ B o ln lc k rfl (by kernel_rfl) (by kernel_rfl) hlt wr) ?_
            simp only [Act.put, List.setIfInBounds_toArray, List.set_cons_succ, List.set_cons_zero]
            refine wpList_load_mid (by rfl) _ _ (by rfl) B (o + k * 41) (by kernel_rfl) x.t.cells _ HR.out Try.underlying39 (by rfl) (by rw [x.t.len]; kernel_rfl) ?_
            simp only [Act.put, List.setIfInBounds_toArray, List.set_cons_succ, List.set_cons_zero]
            refine sC (by kernel_rfl) (by kernel_rfl) (puts_fm w wr W 1048576 v _ x HBg.out HW.out HS.out HNN.out HLE.out) ?_
            rintro u ⟨v', hb'⟩
            simp only [Act.put, List.setIfInBounds_toArray, List.set_cons_succ, List.set_cons_zero]
            have HB' := WirS.hide hb'
            clear hb' hr0 hr1
            refine sV (.bool false) (u) (by kernel_rfl) (by kernel_rfl) ?_
            simp only [Act.put, List.setIfInBounds_toArray, List.set_cons_succ, List.set_cons_zero]
            go_wp2_with fail
            go_roundw
            case rel => exact ⟨k + 1, v', by omega, by go_num, HN.out.succ HX.out HNN.out, by rw [fms_succ HX.out]; exact HB'.out⟩
            case measure => simp [intOf]; omega
          · clear hneg
            rw [hz] at hr0
            clear hz
            go_upto_region 12 with fail
            refine wp_region_lit ?_
            refine sV (.pointer (some ⟨W, 0, none⟩)) (wr) (by kernel_rfl) (by kernel_rfl) ?_
            simp only [Act.put, List.setIfInBounds_toArray, List.set_cons_succ, List.set_cons_zero]
            refine sV (.slice (some ⟨B, o, none⟩) ln lc) (wr) (by kernel_rfl) (by kernel_rfl) ?_
            simp only [Act.put, List.setIfInBounds_toArray, List.set_cons_succ, List.set_cons_zero]
            refine sV (.int .i64 (k : Int)) (wr) (by kernel_rfl) (by kernel_rfl) ?_
            simp only [Act.put, List.setIfInBounds_toArray, List.set_cons_succ, List.set_cons_zero]
            refine sV (.pointer (some ⟨B, o + k * 41, none⟩)) wr (by kernel_rfl) (opX _ _ _ _ B o ln lc k rfl (by kernel_rfl) (by kernel_rfl) hlt wr) ?_
            simp only [Act.put, List.setIfInBounds_toArray, List.set_cons_succ, List.set_cons_zero]
            refine wpList_load_mid (by rfl) _ _ (by rfl) B (o + k * 41) (by kernel_rfl) x.t.cells _ HR.out Try.underlying39 (by rfl) (by rw [x.t.len]; kernel_rfl) ?_
            simp only [Act.put, List.setIfInBounds_toArray, List.set_cons_succ, List.set_cons_zero]
            refine sC (by kernel_rfl) (by kernel_rfl) (puts_fm w wr W 1048576 v _ x HBg.out HW.out HS.out HNN.out HLE.out) ?_
            rintro u ⟨v', hb'⟩
            simp only [Act.put, List.setIfInBounds_toArray, List.set_cons_succ, List.set_cons_zero]
            have HB' := WirS.hide hb'
            clear hb' hr0 hr1
            refine sV (.bool false) (u) (by kernel_rfl) (by kernel_rfl) ?_
            simp only [Act.put, List.setIfInBounds_toArray, List.set_cons_succ, List.set_cons_zero]
            go_wp2_with fail
            go_roundw
            case rel => exact ⟨k + 1, v', by omega, by go_num, HN.out.succ HX.out HNN.out, by rw [fms_succ HX.out]; exact HB'.out⟩
            case measure => simp [intOf]; omega
      · obtain rfl : k = ln := by omega
        have htk : ts.take k = ts := List.take_of_length_le (by rw [HL.out.len]; exact Nat.le_refl _)
        have hb1 := HBg.out
        have hn1 := HN.out
        rw [htk] at hb1 hn1
        have HBs := WirS.hide hb1
        have HNs := WirS.hide hn1
        have HRg := WirS.hide (fms_rng ts (fun x hx => fm_rng x (HL.out.wf x hx).1.rz (HL.out.wf x hx).2.1 (HL.out.wf x hx).2.2 (by have h1 := (HL.out.wf x hx).1.len; have h2 := HV.out x hx; omega) (HL.out.wf x hx).1.n1))
        clear hb1 hn1 HN HBg htk
        go_upto_region 17 with ((go_at_call 18; refine (done_ok _ W 1048576 v _ HBs.out.head).mono ?_; rintro e u2 ⟨da, dn, dc, rfl, ho, hnw, hb⟩; have HU := WirS.hide (bag_binb (bag_own HBs.out ho hnw hb)); clear ho hnw hb HBs))
        have hdn : dn = (fms ts).length := by
          obtain ⟨_, _, e, _⟩ := HU.out.head.1
          injection e
        have HDN := WirS.hide hdn
        have HDL := WirS.hide (show dn ≤ 9270 from hdn ▸ HT.out)
        clear hdn
        go_upto_region 19 with ((go_at_call 21; refine (newReader_any _ da dn dc (fms ts) HU.out.head.1 HRg.out (by have := HDL.out; omega)).mono ?_; rintro e u3 ⟨R, ra, rc, rfl, hR, hs, hnw, hb2⟩; have HR0 := WirS.hide (turn3 (bag_rdr HU.out hR hs hnw hb2)).drop.swap; clear hR hs hnw hb2))
        clear HU
        go_loopw [12] (fun i wr => Mid2 w ts R ra rc (.slice da dn dc) k i wr) (fun i _ => k - (intOf i).toNat)
        case atStart => exact ⟨0, Nat.zero_le _, rfl, by rw [List.take_length]; exact HR0.out⟩
        case round =>
          clear HR0
          obtain ⟨j, hj, rfl, hbag⟩ := hrel
          have HBg := WirS.hide hbag
          clear hbag
          by_cases hjl : j < k
          · obtain ⟨x, B, o, hx, hmem, rfl, hB, hr⟩ := (HL.out.below HBg.out.low).cell hjl
            have hkl : (j : Int) < (k : Int) := by omega
            have HR := WirS.hide hr
            have HC := WirS.hide (back_fm w _ _ R ra rc (fms ts) _ _ (fms ts).length x (HL.out.wf x hmem).1 (HV.out x hmem) (HNs.out x hmem) (fms_fits hx) (Nat.le_refl _) (fms_take_le ts (j + 1)) HBg.out)
            clear hr hx hmem
            go_upto_region 21 with fail
            refine wp_region_lit ?_
            refine sV (.pointer (some ⟨R, 0, none⟩)) (wr) (by kernel_rfl) (by kernel_rfl) ?_
            simp only [Act.put, List.setIfInBounds_toArray, List.set_cons_succ, List.set_cons_zero]
            refine sV (.slice (some ⟨B, o, none⟩) k lc) (wr) (by kernel_rfl) (by kernel_rfl) ?_
            simp only [Act.put, List.setIfInBounds_toArray, List.set_cons_succ, List.set_cons_zero]
            refine sV (.int .i64 (j : Int)) (wr) (by kernel_rfl) (by kernel_rfl) ?_
            simp only [Act.put, List.setIfInBounds_toArray, List.set_cons_succ, List.set_cons_zero]
            refine sV (.pointer (some ⟨B, o + j * 41, none⟩)) wr (by kernel_rfl) (opX _ _ _ _ B o k lc j rfl (by kernel_rfl) (by kernel_rfl) hjl wr) ?_
            simp only [Act.put, List.setIfInBounds_toArray, List.set_cons_succ, List.set_cons_zero]
            refine wpList_load_mid (by rfl) _ _ (by rfl) B (o + j * 41) (by kernel_rfl) x.t.cells _ HR.out Try.underlying39 (by rfl) (by rw [x.t.len]; kernel_rfl) ?_
            simp only [Act.put, List.setIfInBounds_toArray, List.set_cons_succ, List.set_cons_zero]
            refine sC (by kernel_rfl) (by kernel_rfl) HC.out ?_
            intro u hb'
            simp only [Act.put, List.setIfInBounds_toArray, List.set_cons_succ, List.set_cons_zero]
            have HB' := WirS.hide hb'
            clear hb' HC
            refine sV (.bool false) (u) (by kernel_rfl) (by kernel_rfl) ?_
            simp only [Act.put, List.setIfInBounds_toArray, List.set_cons_succ, List.set_cons_zero]
            go_wp2_with fail
            go_roundw
            case rel => exact ⟨j + 1, by omega, by go_num, HB'.out⟩
            case measure => simp [intOf]; omega
          · obtain rfl : j = k := by omega
            have htk : ts.take j = ts := List.take_of_length_le (by rw [HL.out.len]; exact Nat.le_refl _)
            have hb1 := HBg.out
            rw [htk, List.take_length] at hb1
            have HBz := WirS.hide hb1
            have HRest := WirS.hide (show ∀ U, Bag w U [rdr R ra rc (fms ts) (fms ts).length 0 0, binb (.slice da dn dc) (fms ts)] → Calls Try.prog 24 #[.pointer (some ⟨R, 0, none⟩)] U (BR w [binb (.slice da dn dc) (fms ts)] R ra rc (fms ts) (.int .i64 0) (fms ts).length 0 0) from fun U hU => by
              have := br_rest hU
              rwa [show restN (fms ts) (fms ts).length 0 = 0 by unfold restN; rw [if_pos rfl]; omega] at this)
            have HEnd := WirS.hide (show ∀ U, Bag w U [rdr R ra rc (fms ts) (fms ts).length 0 0, binb (.slice da dn dc) (fms ts)] → Calls Try.prog 26 #[.pointer (some ⟨R, 0, none⟩)] U (BR w [binb (.slice da dn dc) (fms ts)] R ra rc (fms ts) (.agg #[.int .i64 0, .int .i64 0]) (fms ts).length 0 0) from fun U hU => by
              have := br_end hU
              have hr : restN (fms ts) (fms ts).length 0 = 0 := by unfold restN; rw [if_pos rfl]; omega
              rwa [show endE (fms ts) (fms ts).length 0 = 0 by unfold endE; rw [hr]; rfl, show endA (fms ts) (fms ts).length 0 0 = 0 by unfold endA; rw [hr]; rfl] at this)
            have hne := fault_neq 0 0 0 0
            have heq := fault_eq 0 0 0 0
            clear hb1 htk HBg
            by_cases hz : dn = 0
            · have HZ := WirS.hide hz
              have hz2 : ((dn : Int) == 0) = true := by simp [hz]
              clear hz
              go_wp2_with (first | ((go_at_call 24; refine (HRest.out _ HBz.out).mono ?_; rintro e u4 ⟨rfl, hb⟩; clear HBz; have HBz := WirS.hide hb; clear hb)) | ((go_at_call 26; refine (HEnd.out _ HBz.out).mono ?_; rintro e u4 ⟨rfl, hb⟩; clear HBz; have HBz := WirS.hide hb; clear hb)))
              go_ret
              exact ⟨rfl, HBz.out.low⟩
            · have hz2 : ((dn : Int) == 0) = false := by simpa using hz
              have HP := WirS.hide (fun U => KitB.pick_any U q (dn : Int) (by omega) (by have := HDL.out; omega))
              have hpr := KitB.pick_range q (dn : Int) (by omega)
              generalize KitB.pick q (dn : Int) = g at HP hpr
              obtain ⟨cut, rfl⟩ := Int.eq_ofNat_of_zero_le hpr.1
              have HCut := WirS.hide (show cut < dn by omega)
              clear hz hpr
              go_upto_region 26 with (first | ((go_at_call 24; refine (HRest.out _ HBz.out).mono ?_; rintro e u4 ⟨rfl, hb⟩; clear HBz; have HBz := WirS.hide hb; clear hb)) | ((go_at_call 26; refine (HEnd.out _ HBz.out).mono ?_; rintro e u4 ⟨rfl, hb⟩; clear HBz; have HBz := WirS.hide hb; clear hb)) | ((go_at_call 39; refine (HP.out _).mono ?_; rintro e u4 ⟨rfl, rfl⟩)))
              have hcn : dn ≤ dc := by
                obtain ⟨_, _, e, hc, _⟩ := HBz.out.swap.head.1
                injection e with _ e1 e2
                omega
              have hsl := slH da dn dc cut (by have := HCut.out; omega)
              have HNR := WirS.hide (show ∀ U, Bag w U [rdr R ra rc (fms ts) (fms ts).length 0 0, binb (.slice da dn dc) (fms ts)] → Calls Try.prog 21 #[.slice (sa da dc 0) cut (dc - 0)] U (fun e w' => ∃ S sa' sc, e = .returned (.pointer (some ⟨S, 0, none⟩)) ∧ Bag w w' [rdr S sa' sc ((fms ts).take cut) 0 0 0]) from fun U hU => by
                have h5 := hU.swap.head.1
                rw [HDN.out] at h5
                have hsub := bin_sub h5 0 cut (by have := HCut.out; have := HDN.out; omega)
                rw [List.drop_zero] at hsub
                refine (newReader_any U _ cut _ _ hsub (fun y hy => HRg.out y (List.mem_of_mem_take hy)) (by have := HCut.out; have := HDL.out; omega)).mono fun e w' ⟨S, sa', sc, h1, h2, h3, h4, h6⟩ => ⟨S, sa', sc, h1, (bag_rdr hU h2 h3 h4 h6).swap.drop.swap.drop⟩)
              clear hcn
              go_upto_region 28 with ((go_at_call 21; refine (HNR.out _ HBz.out).mono ?_; rintro e u5 ⟨S, ya, yc, rfl, hb⟩; have H5 := WirS.hide hb; clear hb))
              clear HNR HRest HEnd hsl
              go_loopw [14] (fun i wr => Mid3 w ts S ya yc cut j i wr) (fun i _ => j - (intOf i).toNat)
              case atStart => exact ⟨0, 0, 0, 0, Nat.zero_le _, rfl, .inl ⟨rfl, rfl, rfl, Nat.zero_le _⟩, H5.out⟩
              case round =>
                clear H5
                obtain ⟨m, p, fe, fa, hm, rfl, hst, hbag⟩ := hrel
                have HBg := WirS.hide hbag
                have HST := WirS.hide (show St3 cut (fms (ts.take m)).length p fe fa from hst)
                clear hbag hst
                by_cases hml : m < j
                · obtain ⟨x, B, o, hx, hmem, rfl, hB, hr⟩ := (HL.out.below HBg.out.low).cell hml
                  have hkl : (m : Int) < (j : Int) := by omega
                  have HR := WirS.hide hr
                  have HC := WirS.hide (back_3 w _ _ S ya yc (fms ts) _ _ cut p fe fa x (HL.out.wf x hmem).1 (HV.out x hmem) (HNs.out x hmem) (fms_fits hx) (by have := HCut.out; have := HDN.out; omega) HST.out HBg.out)
                  clear hr hx hmem
                  go_upto_region 30 with fail
                  refine wp_region_lit ?_
                  refine sV (.pointer (some ⟨S, 0, none⟩)) (wr) (by kernel_rfl) (by kernel_rfl) ?_
                  simp only [Act.put, List.setIfInBounds_toArray, List.set_cons_succ, List.set_cons_zero]
                  refine sV (.slice (some ⟨B, o, none⟩) j lc) (wr) (by kernel_rfl) (by kernel_rfl) ?_
                  simp only [Act.put, List.setIfInBounds_toArray, List.set_cons_succ, List.set_cons_zero]
                  refine sV (.int .i64 (m : Int)) (wr) (by kernel_rfl) (by kernel_rfl) ?_
                  simp only [Act.put, List.setIfInBounds_toArray, List.set_cons_succ, List.set_cons_zero]
                  refine sV (.pointer (some ⟨B, o + m * 41, none⟩)) wr (by kernel_rfl) (opX _ _ _ _ B o j lc m rfl (by kernel_rfl) (by kernel_rfl) hml wr) ?_
                  simp only [Act.put, List.setIfInBounds_toArray, List.set_cons_succ, List.set_cons_zero]
                  refine wpList_load_mid (by rfl) _ _ (by rfl) B (o + m * 41) (by kernel_rfl) x.t.cells _ HR.out Try.underlying39 (by rfl) (by rw [x.t.len]; kernel_rfl) ?_
                  simp only [Act.put, List.setIfInBounds_toArray, List.set_cons_succ, List.set_cons_zero]
                  refine sCx (by kernel_rfl) (by kernel_rfl) HC.out ?_
                  rintro e u ⟨b, p', fe', fa', rfl, hb', hs'⟩
                  refine ⟨_, rfl, ?_⟩
                  simp only [Act.put, List.setIfInBounds_toArray, List.set_cons_succ, List.set_cons_zero]
                  have HB' := WirS.hide hb'
                  have HS' := WirS.hide hs'
                  clear hb' hs' HC
                  go_wp2_with fail
                  go_roundw
                  case rel => exact ⟨m + 1, p', fe', fa', by omega, by go_num, HS'.out, HB'.out⟩
                  case measure => simp [intOf]; omega
                · obtain rfl : m = j := by omega
                  have htk : ts.take m = ts := List.take_of_length_le (by rw [HL.out.len]; exact Nat.le_refl _)
                  have hst := HST.out
                  rw [htk] at hst
                  obtain ⟨rfl, hfa⟩ : fe = 6 ∧ fa ≤ (cut : Int) := by
                    rcases hst with ⟨_, _, h1, h2⟩ | h
                    · have := HCut.out
                      have := HDN.out
                      omega
                    · exact h
                  have h6 : (6 : Int) ≠ 0 := by decide
                  have HEnd := WirS.hide (show Calls Try.prog 26 #[.pointer (some ⟨S, 0, none⟩)] wr (BR w [] S ya yc ((fms ts).take cut) (.agg #[.int .i64 6, .int .i64 fa]) p 6 fa) from by
                    have := br_end HBg.out
                    rwa [(endF ((fms ts).take cut) p 6 fa h6).1, (endF ((fms ts).take cut) p 6 fa h6).2] at this)
                  have HRest := WirS.hide (show ∀ U, Bag w U [rdr S ya yc ((fms ts).take cut) p 6 fa] → Calls Try.prog 24 #[.pointer (some ⟨S, 0, none⟩)] U (BR w [] S ya yc ((fms ts).take cut) (.int .i64 0) p 6 fa) from fun U hU => by
                    have := br_rest hU
                    rwa [show restN ((fms ts).take cut) p 6 = 0 from rfl] at this)
                  clear htk hst h6
                  go_upto_region 32 with ((go_at_call 26; refine (HEnd.out).mono ?_; rintro e u6 ⟨rfl, hb⟩; have H6 := WirS.hide (hb.more (Below.alloc (Below.refl _ _) (Nat.le_refl _) (.cells #[.int .i64 6, .int .i64 fa] 55))); clear hb))
                  go_wp2_with ((go_at_call 24; refine (HRest.out _ H6.out).mono ?_; rintro e u7 ⟨rfl, hb⟩; have H7 := WirS.hide hb; clear hb))
                  go_ret
                  exact ⟨rfl, H7.out.low⟩
theorem back_row (w : World) (la : Option Addr) (ln lc : Nat) (ts : List Te) (q : Int) (hL : LIn w la ln ts) (_h0 : -9223372036854775808 ≤ q) (_h1 : q ≤ 9223372036854775807) :
    Calls Try.prog 7 #[.slice la ln lc, .int .i64 q] w fun e w' => e = .returned (.bool true) ∧ Below w.heap.size w w' := back_law w la ln lc ts hL q
end WirBG
end Go.Proofs.Ytkdgndgejhkmpaa
