/-
  CommitDecodes walked.
-/
import Derived.Test.YthcemghamdmjmaaCgG
import Derived.Test.YthcemghamdmjmaaCgD
import Derived.Test.YthcemghamdmjmaaPkN
namespace Go.Proofs.Ythcemghamdmjmaa
namespace CmDk
open Go.RowKit
open BlkM WirM WirS CmA CmP CmB CmJ CmL CmF CmM
open ValSF (Lent lent_any kept_any)
open WirE (NewB)
open WirX (Thg Bag)
open WirAA (box bag_box)
open WirAB (sCx)
open WirRT (rng)

def lentT (g n c : Nat) (bs : List Int) : Thg where
  ok w := Lent w g n c bs
  foot k := k = g
  stable h hf hX := h.fr hf (hX g rfl)
  inside h k hk := by subst hk; exact h.lt
def gone : Thg where
  ok _ := True
  foot _ := False
  stable _ _ _ := trivial
  inside _ _ h := h.elim
theorem dvs_len (bs : List Int) : (dvs bs).length ≤ 64 := by
  unfold dvs
  split
  · rename_i h
    exact ((chk_up _ _).1 (cE_zero h).2.2.1).2.1
  · exact Nat.zero_le _
set_option maxRecDepth 20000 in
set_option maxHeartbeats 16000000 in
theorem decodes_any (w : World) (b : Option Addr) (n c : Nat) (bs : List Int) (hb : BIn w (.slice b n c) bs) (hr : rng bs) : Calls Try.prog 12 #[.slice b n c] w fun e w' => e = .returned (.bool true) ∧ Below w.heap.size w w' := by
  by_cases hbig : 1500 < n
  · have g1 : (1500 : Int) < (n : Int) := by omega
    clear hb hr hbig
    go_enter Try.func12, Try.ntmps12
    go_wp2_with (go_at_call 61; refine (CmQ.awake_any _).mono ?_; rintro e u ⟨rfl, hb⟩; have HB := WirS.hide hb; clear hb)
    go_ret
    exact ⟨rfl, HB.out⟩
  have g1 : ¬ (1500 : Int) < (n : Int) := by omega
  have HBI := WirS.hide hb
  have HRG := WirS.hide hr
  have HDL := WirS.hide (dvs_len bs)
  have HHL := WirS.hide (dhh_len bs)
  have HN := WirS.hide (show n ≤ 1500 by omega)
  have HLT := WirS.hide (lent_any w b n c bs hb (by omega))
  have HD1 := WirS.hide (fun (U : World) (a : Option Addr) (m d : Nat) (h : BIn U (.slice a m d) bs) (hm : m ≤ 1099511627776) => decode_any U a m d bs h hr hm)
  have HD2 := WirS.hide (fun (U : World) (hU : Below w.heap.size w U) => CmDd.rdecode_any U b n c bs (hb.below hU) hr (by omega))
  unfold CDP at HD1 HD2
  generalize dht bs = HT at *
  generalize dhh bs = HH at *
  generalize dvs bs = VS at *
  generalize (cE bs).1 = E1 at *
  generalize (cE bs).2 = E2 at *
  clear hb hr hbig
  go_enter Try.func12, Try.ntmps12
  have H1 := WirS.hide (Bag.nil (Below.refl w.heap.size w))
  go_upto_region 3 with fail
  clear g1
  refine wp_region_lit ?_
  refine sV (.slice b n c) (w) (by kernel_rfl) (by kernel_rfl) ?_
  simp only [Act.put, List.setIfInBounds_toArray, List.set_cons_succ, List.set_cons_zero]
  refine sCx (by kernel_rfl) (by kernel_rfl) HLT.out ?_
  rintro e u2 ⟨g, cL, rfl, hl, hg, hb⟩
  refine ⟨_, rfl, ?_⟩
  simp only [Act.put, List.setIfInBounds_toArray, List.set_cons_succ, List.set_cons_zero]
  have H3 := WirS.hide (Bag.new (o := lentT g n cL bs) H1.out hb hl (fun k hk => by subst hk; exact hg))
  clear H1
  clear hl hg hb
  go_upto_region 4 with fail
  refine wp_region_lit ?_
  refine sV (.slice (some ⟨g, 0, none⟩) n cL) (u2) (by kernel_rfl) (by kernel_rfl) ?_
  simp only [Act.put, List.setIfInBounds_toArray, List.set_cons_succ, List.set_cons_zero]
  refine sCx (by kernel_rfl) (by kernel_rfl) (HD1.out u2 _ _ _ (show Lent u2 g n cL bs from (H3.out.all (lentT g n cL bs) (by simp)).1).head (by have := HN.out; omega)) ?_
  rintro e u4 ⟨ma, mn, mc, rfl, ho, hnb, hb⟩
  refine ⟨_, rfl, ?_⟩
  simp only [Act.put, List.setIfInBounds_toArray, List.set_cons_succ, List.set_cons_zero]
  have hmn : VS.length = mn := by obtain ⟨q1, q2, e⟩ := ho.len_of; cases e; rfl
  have H5 := WirS.hide (bag_ownt H3.out ho hnb hb)
  clear H3
  clear ho hnb hb
  refine sV (.tuple #[.agg (ccl HT HH (.slice ma mn mc)).toArray, .agg #[.int .i64 E1, .int .i64 E2]]) (u4) (by kernel_rfl) (by kernel_rfl) ?_
  simp only [Act.put, List.setIfInBounds_toArray, List.set_cons_succ, List.set_cons_zero]
  refine sV (.agg (ccl HT HH (.slice ma mn mc)).toArray) (u4) (by kernel_rfl) (by kernel_rfl) ?_
  simp only [Act.put, List.setIfInBounds_toArray, List.set_cons_succ, List.set_cons_zero]
  refine sV (.agg #[.int .i64 E1, .int .i64 E2]) (u4) (by kernel_rfl) (by kernel_rfl) ?_
  simp only [Act.put, List.setIfInBounds_toArray, List.set_cons_succ, List.set_cons_zero]
  refine sV (.pointer (some ⟨u4.heap.size, 0, none⟩)) (u4.alloc (.cells zcm.toArray TC)) (by kernel_rfl) (by kernel_rfl) ?_
  simp only [Act.put, List.setIfInBounds_toArray, List.set_cons_succ, List.set_cons_zero]
  obtain ⟨L6, eL6⟩ : ∃ A, u4.heap.size = A := ⟨_, rfl⟩
  have hbL6 := bag_box (T := TC) (cs := zcm) (X := L6) H5.out eL6.symm (w' := u4.alloc (.cells zcm.toArray TC)) (by rw [← eL6]; exact At.new _ _ _) (Below.alloc (Below.refl _ _) (Nat.le_refl _) _)
  rw [eL6]
  clear eL6
  generalize World.alloc u4 _ = u7 at *
  have H8 := WirS.hide (hbL6)
  clear H5
  clear hbL6
  refine sV (.pointer (some ⟨u7.heap.size, 0, none⟩)) (u7.alloc (.cells (f2 0 0).toArray FT)) (by kernel_rfl) (by kernel_rfl) ?_
  simp only [Act.put, List.setIfInBounds_toArray, List.set_cons_succ, List.set_cons_zero]
  obtain ⟨L9, eL9⟩ : ∃ A, u7.heap.size = A := ⟨_, rfl⟩
  have hbL9 := bag_box (T := FT) (cs := (f2 0 0)) (X := L9) H8.out eL9.symm (w' := u7.alloc (.cells (f2 0 0).toArray FT)) (by rw [← eL9]; exact At.new _ _ _) (Below.alloc (Below.refl _ _) (Nat.le_refl _) _)
  rw [eL9]
  clear eL9
  generalize World.alloc u7 _ = u10 at *
  have H11 := WirS.hide (hbL9)
  clear H8
  clear hbL9
  have H12 := WirS.hide (H11.out.perm (show [box FT L9 (f2 0 0), box TC L6 zcm, ownt (.slice ma mn mc) VS, lentT g n cL bs].Perm [box TC L6 zcm, box FT L9 (f2 0 0), ownt (.slice ma mn mc) VS, lentT g n cL bs] from ((List.perm_middle (l₁ := [box FT L9 (f2 0 0)])).trans (.cons _ ((List.perm_middle (l₁ := [])).trans (.cons _ ((List.perm_middle (l₁ := [])).trans (.cons _ ((List.perm_middle (l₁ := [])).trans (.cons _ (.refl _)))))))))))
  clear H11
  refine stepStore (by rfl) _ _ _ (by rfl) L6 (ccl HT HH (.slice ma mn mc)) (by kernel_rfl) (by kernel_rfl) H12.out.head 34 (by kernel_rfl) (by rfl) (ccl_len _ _ _ HHL.out) (one_ccl _ _ _ _ _) ?_
  simp only [Act.put]
  have H14 := WirS.hide (bag_row H12.out (ccl HT HH (.slice ma mn mc)))
  clear H12
  generalize World.setRow u10 L6 _ = u13 at *
  have H15 := WirS.hide (H14.out.perm (show [box TC L6 (ccl HT HH (.slice ma mn mc)), box FT L9 (f2 0 0), ownt (.slice ma mn mc) VS, lentT g n cL bs].Perm [box FT L9 (f2 0 0), box TC L6 (ccl HT HH (.slice ma mn mc)), ownt (.slice ma mn mc) VS, lentT g n cL bs] from ((List.perm_middle (l₁ := [box TC L6 (ccl HT HH (.slice ma mn mc))])).trans (.cons _ ((List.perm_middle (l₁ := [])).trans (.cons _ ((List.perm_middle (l₁ := [])).trans (.cons _ ((List.perm_middle (l₁ := [])).trans (.cons _ (.refl _)))))))))))
  clear H14
  refine stepStore (by rfl) _ _ _ (by rfl) L9 (f2 E1 E2) (by kernel_rfl) (by kernel_rfl) H15.out.head 2 (by kernel_rfl) (by rfl) (by rfl) (by kernel_rfl) ?_
  simp only [Act.put]
  have H17 := WirS.hide (bag_row H15.out (f2 E1 E2))
  clear H15
  generalize World.setRow u13 L9 _ = u16 at *
  go_upto_region 5 with fail
  refine wp_region_lit ?_
  refine sV (.slice b n c) (u16) (by kernel_rfl) (by kernel_rfl) ?_
  simp only [Act.put, List.setIfInBounds_toArray, List.set_cons_succ, List.set_cons_zero]
  refine sCx (by kernel_rfl) (by kernel_rfl) (HD2.out u16 H17.out.low) ?_
  rintro e u18 ⟨pa, pn, pc, rfl, ho, hnb, hb⟩
  refine ⟨_, rfl, ?_⟩
  simp only [Act.put, List.setIfInBounds_toArray, List.set_cons_succ, List.set_cons_zero]
  have hpn : VS.length = pn := by obtain ⟨q1, q2, e⟩ := ho.len_of; cases e; rfl
  have H19 := WirS.hide (bag_ownt H17.out ho hnb hb)
  clear H17
  clear ho hnb hb
  refine sV (.tuple #[.agg (ccl HT HH (.slice pa pn pc)).toArray, .agg #[.int .i64 E1, .int .i64 E2]]) (u18) (by kernel_rfl) (by kernel_rfl) ?_
  simp only [Act.put, List.setIfInBounds_toArray, List.set_cons_succ, List.set_cons_zero]
  refine sV (.agg (ccl HT HH (.slice pa pn pc)).toArray) (u18) (by kernel_rfl) (by kernel_rfl) ?_
  simp only [Act.put, List.setIfInBounds_toArray, List.set_cons_succ, List.set_cons_zero]
  refine sV (.agg #[.int .i64 E1, .int .i64 E2]) (u18) (by kernel_rfl) (by kernel_rfl) ?_
  simp only [Act.put, List.setIfInBounds_toArray, List.set_cons_succ, List.set_cons_zero]
  refine sV (.pointer (some ⟨u18.heap.size, 0, none⟩)) (u18.alloc (.cells zcm.toArray TC)) (by kernel_rfl) (by kernel_rfl) ?_
  simp only [Act.put, List.setIfInBounds_toArray, List.set_cons_succ, List.set_cons_zero]
  obtain ⟨L20, eL20⟩ : ∃ A, u18.heap.size = A := ⟨_, rfl⟩
  have hbL20 := bag_box (T := TC) (cs := zcm) (X := L20) H19.out eL20.symm (w' := u18.alloc (.cells zcm.toArray TC)) (by rw [← eL20]; exact At.new _ _ _) (Below.alloc (Below.refl _ _) (Nat.le_refl _) _)
  rw [eL20]
  clear eL20
  generalize World.alloc u18 _ = u21 at *
  have H22 := WirS.hide (hbL20)
  clear H19
  clear hbL20
  refine sV (.pointer (some ⟨u21.heap.size, 0, none⟩)) (u21.alloc (.cells (f2 0 0).toArray FT)) (by kernel_rfl) (by kernel_rfl) ?_
  simp only [Act.put, List.setIfInBounds_toArray, List.set_cons_succ, List.set_cons_zero]
  obtain ⟨L23, eL23⟩ : ∃ A, u21.heap.size = A := ⟨_, rfl⟩
  have hbL23 := bag_box (T := FT) (cs := (f2 0 0)) (X := L23) H22.out eL23.symm (w' := u21.alloc (.cells (f2 0 0).toArray FT)) (by rw [← eL23]; exact At.new _ _ _) (Below.alloc (Below.refl _ _) (Nat.le_refl _) _)
  rw [eL23]
  clear eL23
  generalize World.alloc u21 _ = u24 at *
  have H25 := WirS.hide (hbL23)
  clear H22
  clear hbL23
  have H26 := WirS.hide (H25.out.perm (show [box FT L23 (f2 0 0), box TC L20 zcm, ownt (.slice pa pn pc) VS, box FT L9 (f2 E1 E2), box TC L6 (ccl HT HH (.slice ma mn mc)), ownt (.slice ma mn mc) VS, lentT g n cL bs].Perm [box TC L20 zcm, box FT L23 (f2 0 0), ownt (.slice pa pn pc) VS, box FT L9 (f2 E1 E2), box TC L6 (ccl HT HH (.slice ma mn mc)), ownt (.slice ma mn mc) VS, lentT g n cL bs] from ((List.perm_middle (l₁ := [box FT L23 (f2 0 0)])).trans (.cons _ ((List.perm_middle (l₁ := [])).trans (.cons _ ((List.perm_middle (l₁ := [])).trans (.cons _ ((List.perm_middle (l₁ := [])).trans (.cons _ ((List.perm_middle (l₁ := [])).trans (.cons _ ((List.perm_middle (l₁ := [])).trans (.cons _ ((List.perm_middle (l₁ := [])).trans (.cons _ (.refl _)))))))))))))))))
  clear H25
  refine stepStore (by rfl) _ _ _ (by rfl) L20 (ccl HT HH (.slice pa pn pc)) (by kernel_rfl) (by kernel_rfl) H26.out.head 34 (by kernel_rfl) (by rfl) (ccl_len _ _ _ HHL.out) (one_ccl _ _ _ _ _) ?_
  simp only [Act.put]
  have H28 := WirS.hide (bag_row H26.out (ccl HT HH (.slice pa pn pc)))
  clear H26
  generalize World.setRow u24 L20 _ = u27 at *
  have H29 := WirS.hide (H28.out.perm (show [box TC L20 (ccl HT HH (.slice pa pn pc)), box FT L23 (f2 0 0), ownt (.slice pa pn pc) VS, box FT L9 (f2 E1 E2), box TC L6 (ccl HT HH (.slice ma mn mc)), ownt (.slice ma mn mc) VS, lentT g n cL bs].Perm [box FT L23 (f2 0 0), box TC L20 (ccl HT HH (.slice pa pn pc)), ownt (.slice pa pn pc) VS, box FT L9 (f2 E1 E2), box TC L6 (ccl HT HH (.slice ma mn mc)), ownt (.slice ma mn mc) VS, lentT g n cL bs] from ((List.perm_middle (l₁ := [box TC L20 (ccl HT HH (.slice pa pn pc))])).trans (.cons _ ((List.perm_middle (l₁ := [])).trans (.cons _ ((List.perm_middle (l₁ := [])).trans (.cons _ ((List.perm_middle (l₁ := [])).trans (.cons _ ((List.perm_middle (l₁ := [])).trans (.cons _ ((List.perm_middle (l₁ := [])).trans (.cons _ ((List.perm_middle (l₁ := [])).trans (.cons _ (.refl _)))))))))))))))))
  clear H28
  refine stepStore (by rfl) _ _ _ (by rfl) L23 (f2 E1 E2) (by kernel_rfl) (by kernel_rfl) H29.out.head 2 (by kernel_rfl) (by rfl) (by rfl) (by kernel_rfl) ?_
  simp only [Act.put]
  have H31 := WirS.hide (bag_row H29.out (f2 E1 E2))
  clear H29
  generalize World.setRow u27 L23 _ = u30 at *
  have HMN := WirS.hide hmn
  have HPN := WirS.hide (show pn = mn by rw [← hmn, ← hpn])
  clear hmn hpn
  go_upto_region 6 with fail
  refine wp_region_lit ?_
  refine sL (by kernel_rfl) _ _ (by rfl) _ (by kernel_rfl) (H31.out.all (box TC L6 (ccl HT HH (.slice ma mn mc))) (by simp)).1 _ _ UC rfl (by kernel_rfl) (by rw [ccl_len _ _ _ HHL.out]) ?_
  simp only [Act.put, List.setIfInBounds_toArray, List.set_cons_succ, List.set_cons_zero]
  refine sL (by kernel_rfl) _ _ (by rfl) _ (by kernel_rfl) (H31.out.all (box TC L20 (ccl HT HH (.slice pa pn pc))) (by simp)).1 _ _ UC rfl (by kernel_rfl) (by rw [ccl_len _ _ _ HHL.out]) ?_
  simp only [Act.put, List.setIfInBounds_toArray, List.set_cons_succ, List.set_cons_zero]
  obtain rfl := HPN.out
  refine sC (R := fun w' => Below u30.heap.size u30 w') (v := .bool true) (by kernel_rfl) (by kernel_rfl) (CmN.sc_any u30 HT HH ma pa pn mc pc VS HHL.out ((show OwnT u30 (.slice ma pn mc) VS from (H31.out.all (ownt (.slice ma pn mc) VS) (by simp)).1).vin) ((show OwnT u30 (.slice pa pn pc) VS from (H31.out.all (ownt (.slice pa pn pc) VS) (by simp)).1).vin)) ?_
  rintro u32 hb
  simp only [Act.put, List.setIfInBounds_toArray, List.set_cons_succ, List.set_cons_zero]
  have H33 := WirS.hide (H31.out.more hb)
  clear H31
  clear hb
  refine sV (.bool true) (u32) (by kernel_rfl) (by kernel_rfl) ?_
  simp only [Act.put, List.setIfInBounds_toArray, List.set_cons_succ, List.set_cons_zero]
  refine sL (by kernel_rfl) _ _ (by rfl) _ (by kernel_rfl) (H33.out.all (box FT L9 (f2 E1 E2)) (by simp)).1 _ _ Try.underlying55 rfl (by kernel_rfl) rfl ?_
  simp only [Act.put, List.setIfInBounds_toArray, List.set_cons_succ, List.set_cons_zero]
  refine sL (by kernel_rfl) _ _ (by rfl) _ (by kernel_rfl) (H33.out.all (box FT L23 (f2 E1 E2)) (by simp)).1 _ _ Try.underlying55 rfl (by kernel_rfl) rfl ?_
  simp only [Act.put, List.setIfInBounds_toArray, List.set_cons_succ, List.set_cons_zero]
  refine sB (by kernel_rfl) .eql 55 _ _ _ (by rfl) (.agg #[.int .i64 E1, .int .i64 E2]) (.agg #[.int .i64 E1, .int .i64 E2]) (by kernel_rfl) (by kernel_rfl) (.bool true) (by rw [WirX.fault_eq]; simp) (by kernel_rfl) ?_
  simp only [Act.put, List.setIfInBounds_toArray, List.set_cons_succ, List.set_cons_zero]
  refine sV (.bool true) (u32) (by kernel_rfl) (by kernel_rfl) ?_
  simp only [Act.put, List.setIfInBounds_toArray, List.set_cons_succ, List.set_cons_zero]
  go_upto_region 7 with fail
  refine wp_region_lit ?_
  refine sL (by kernel_rfl) _ _ (by rfl) _ (by kernel_rfl) (H33.out.all (box TC L6 (ccl HT HH (.slice ma pn mc))) (by simp)).1 _ _ UC rfl (by kernel_rfl) (by rw [ccl_len _ _ _ HHL.out]) ?_
  simp only [Act.put, List.setIfInBounds_toArray, List.set_cons_succ, List.set_cons_zero]
  have H34 := WirS.hide (H33.out.perm (show [box FT L23 (f2 E1 E2), box TC L20 (ccl HT HH (.slice pa pn pc)), ownt (.slice pa pn pc) VS, box FT L9 (f2 E1 E2), box TC L6 (ccl HT HH (.slice ma pn mc)), ownt (.slice ma pn mc) VS, lentT g n cL bs].Perm [ownt (.slice ma pn mc) VS, box FT L23 (f2 E1 E2), box TC L20 (ccl HT HH (.slice pa pn pc)), ownt (.slice pa pn pc) VS, box FT L9 (f2 E1 E2), box TC L6 (ccl HT HH (.slice ma pn mc)), lentT g n cL bs] from ((List.perm_middle (l₁ := [box FT L23 (f2 E1 E2), box TC L20 (ccl HT HH (.slice pa pn pc)), ownt (.slice pa pn pc) VS, box FT L9 (f2 E1 E2), box TC L6 (ccl HT HH (.slice ma pn mc))])).trans (.cons _ ((List.perm_middle (l₁ := [])).trans (.cons _ ((List.perm_middle (l₁ := [])).trans (.cons _ ((List.perm_middle (l₁ := [])).trans (.cons _ ((List.perm_middle (l₁ := [])).trans (.cons _ ((List.perm_middle (l₁ := [])).trans (.cons _ ((List.perm_middle (l₁ := [])).trans (.cons _ (.refl _)))))))))))))))))
  clear H33
  refine sC (R := fun w' => Fr (fun k => (Value.slice ma pn mc).ownBlock = some k) u32 w') (by kernel_rfl) (by kernel_rfl) (CmOv.over_any u32 HT HH ma pn mc VS HHL.out H34.out.head (by have h1 := HMN.out; have h2 := HDL.out; omega)) ?_
  rintro u35 hf
  simp only [Act.put, List.setIfInBounds_toArray, List.set_cons_succ, List.set_cons_zero]
  have H36 := WirS.hide ((H34.out.act (o' := gone) hf trivial (fun _ h => h.elim)).drop)
  clear H34
  clear hf
  go_upto_region 8 with fail
  refine wp_region_lit ?_
  refine sV (.bool true) (u35) (by kernel_rfl) (by kernel_rfl) ?_
  simp only [Act.put, List.setIfInBounds_toArray, List.set_cons_succ, List.set_cons_zero]
  refine sV (.bool true) (u35) (by kernel_rfl) (by kernel_rfl) ?_
  simp only [Act.put, List.setIfInBounds_toArray, List.set_cons_succ, List.set_cons_zero]
  refine sV (.slice (some ⟨g, 0, none⟩) n cL) (u35) (by kernel_rfl) (by kernel_rfl) ?_
  simp only [Act.put, List.setIfInBounds_toArray, List.set_cons_succ, List.set_cons_zero]
  refine sV (.slice b n c) (u35) (by kernel_rfl) (by kernel_rfl) ?_
  simp only [Act.put, List.setIfInBounds_toArray, List.set_cons_succ, List.set_cons_zero]
  refine sC (R := fun w' => Below u35.heap.size u35 w') (v := .bool true) (by kernel_rfl) (by kernel_rfl) (kept_any u35 g n cL bs b c (show Lent u35 g n cL bs from (H36.out.all (lentT g n cL bs) (by simp)).1) (HBI.out.below H36.out.low) (by have := HN.out; omega)) ?_
  rintro u37 hb
  simp only [Act.put, List.setIfInBounds_toArray, List.set_cons_succ, List.set_cons_zero]
  have H38 := WirS.hide (H36.out.more hb)
  clear H36
  clear hb
  refine sV (.bool true) (u37) (by kernel_rfl) (by kernel_rfl) ?_
  simp only [Act.put, List.setIfInBounds_toArray, List.set_cons_succ, List.set_cons_zero]
  refine sV (.bool true) (u37) (by kernel_rfl) (by kernel_rfl) ?_
  simp only [Act.put, List.setIfInBounds_toArray, List.set_cons_succ, List.set_cons_zero]
  refine sC (R := fun w' => Below u37.heap.size u37 w') (v := .bool true) (by kernel_rfl) (by kernel_rfl) (CmQ.awake_any u37) ?_
  rintro u39 hb
  simp only [Act.put, List.setIfInBounds_toArray, List.set_cons_succ, List.set_cons_zero]
  have H40 := WirS.hide (H38.out.more hb)
  clear H38
  clear hb
  refine sV (.bool true) (u39) (by kernel_rfl) (by kernel_rfl) ?_
  simp only [Act.put, List.setIfInBounds_toArray, List.set_cons_succ, List.set_cons_zero]
  go_wp2_with fail
  go_ret
  exact ⟨rfl, H40.out.low⟩
theorem decodes_row (w : World) (b : Option Addr) (n c : Nat) (bs : List Int) (hb : BIn w (.slice b n c) bs ∧ rng bs) : Calls Try.prog 12 #[.slice b n c] w fun e w' => e = .returned (.bool true) ∧ Below w.heap.size w w' := decodes_any w b n c bs hb.1 hb.2
end CmDk
end Go.Proofs.Ythcemghamdmjmaa
