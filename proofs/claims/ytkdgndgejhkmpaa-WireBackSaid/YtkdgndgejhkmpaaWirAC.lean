/-
  WireOne walked.
-/
import Derived.Test.YtkdgndgejhkmpaaWirAB
import Derived.Test.YtkdgndgejhkmpaaKitB
namespace Go.Proofs.Ytkdgndgejhkmpaa
namespace WirAC
open Go.RowKit PaceA FltC
open BlkM WirM WirS WirA WirB WirC WirD WirE WirF WirG WirH WirI WirJ WirK WirL WirN WirO WirP WirQ WirR WirT WirU WirV WirW WirX WirY WirZ WirNA WirRT WirAA WirAB

/-- A list of ints, as it comes in. -/
structure KIn (w : World) (a : Option Addr) (n : Nat) (ks : List Int) : Prop where
  cell : ∀ i, i < n → ∃ B o, a = some ⟨B, o, none⟩ ∧ B < w.heap.size ∧ ∀ i, i < n → w.cell? ⟨B, o + i, none⟩ = some (.int .i64 (ks.getD i 0))
theorem again_any (w0 w : World) (l : List Thg) (R : Nat) (a : Option Addr) (c : Nat) (bs : List Int) (at' W : Nat) (lim : Int) (v : Value) (k : Int) (h0 : 0 ≤ k) (h8 : k < 8) (h : Bag w0 w (rdr R a c bs at' 0 0 :: wtr W lim v (bs.take at') 0 :: l)) (hl : (bs.length : Int) ≤ lim) :
    Calls Try.prog 40 #[.pointer (some ⟨R, 0, none⟩), .pointer (some ⟨W, 0, none⟩), .int .i64 k] w (Ag w0 l R a c bs at' W lim) := by
  obtain rfl | rfl | rfl | rfl | rfl | rfl | rfl | rfl : k = 0 ∨ k = 1 ∨ k = 2 ∨ k = 3 ∨ k = 4 ∨ k = 5 ∨ k = 6 ∨ k = 7 := by omega
  · exact again0 w0 w l R a c bs at' W lim v h hl
  · exact again1 w0 w l R a c bs at' W lim v h hl
  · exact again2 w0 w l R a c bs at' W lim v h hl
  · exact again3 w0 w l R a c bs at' W lim v h hl
  · exact again4 w0 w l R a c bs at' W lim v h hl
  · exact again5 w0 w l R a c bs at' W lim v h hl
  · exact again6 w0 w l R a c bs at' W lim v h hl
  · exact again7 w0 w l R a c bs at' W lim v h hl
theorem slH (a : Option Addr) (len cap m : Nat) (h : m ≤ cap) (Y : World) : (Instr.sliceAt 32 (.slice a len cap) none (some (.int .i64 (m : Int))) none).run Try.prog Y = .ok (.slice (sa a cap 0) m (cap - 0)) Y := by
  have hu : Try.prog.underlying 32 = some (.slice (Try.prog.elem 32)) := by kernel_rfl
  rw [run_sliceAt_slice Y 32 _ _ _ _ hu, run_slice_h Y 32 a len cap hu .i64 (m : Int) (by omega) (by omega)]
  have hs : (sizeOf (Try.prog.elem 32)).run Try.prog Y = .ok 1 Y := by kernel_rfl
  rw [hs]
  simp [sliced, sa]
def MidQ (w : World) (bs : List Int) (R : Nat) (a : Option Addr) (c W kn : Nat) (i : Value) (U : World) : Prop :=
  ∃ (k at' : Nat) (v : Value), k ≤ kn ∧ i = .int .i64 (k : Int) ∧ at' ≤ bs.length ∧ Bag w U [rdr R a c bs at' 0 0, wtr W 1048576 v (bs.take at') 0]
set_option maxHeartbeats 2000000 in
theorem one_any (w : World) (b : Option Addr) (n c : Nat) (bs : List Int) (hb : BIn w (.slice b n c) bs) (hr : rng bs) (ka : Option Addr) (kn kc : Nat) (ks : List Int) (hk : KIn w ka kn ks) :
    Calls Try.prog 8 #[.slice b n c, .slice ka kn kc] w fun e w' => e = .returned (.bool true) ∧ Below w.heap.size w w' := by
  have hn : n = bs.length := by
    obtain ⟨_, _, e, _⟩ := hb
    cases e
    rfl
  have HB := WirS.hide hb
  have HR := WirS.hide hr
  have HK := WirS.hide hk
  clear hb hr hk
  by_cases hbig : 600 < n
  · have hbi : (600 : Int) < (n : Int) := by omega
    go_enter Try.func8, Try.ntmps8
    go_wp2_with ((go_at_call 6; refine (known_any w).mono ?_; rintro e w1 ⟨rfl, h1⟩; have H1 := WirS.hide h1; clear h1))
    go_ret
    exact ⟨rfl, H1.out⟩
  by_cases hkn : 30 < kn
  · have hbi : ¬ (600 : Int) < (n : Int) := by omega
    have hki : (30 : Int) < (kn : Int) := by omega
    go_enter Try.func8, Try.ntmps8
    go_wp2_with ((go_at_call 6; refine (known_any w).mono ?_; rintro e w1 ⟨rfl, h1⟩; have H1 := WirS.hide h1; clear h1))
    go_ret
    exact ⟨rfl, H1.out⟩
  have hbi : ¬ (600 : Int) < (n : Int) := by omega
  have hki : ¬ (30 : Int) < (kn : Int) := by omega
  have HN := WirS.hide hn
  have HN6 := WirS.hide hbig
  clear hbig hkn hn
  go_enter Try.func8, Try.ntmps8
  go_upto_region 4 with ((go_at_call 6; refine (known_any w).mono ?_; rintro e w1 ⟨rfl, h1⟩; have H1 := WirS.hide (Bag.nil h1); clear h1))
  go_upto_region 5 with ((go_at_call 21; refine (newReader_any _ b n c bs (HB.out.below H1.out.low) HR.out (by have := HN6.out; omega)).mono ?_; rintro e w2 ⟨R, a, c2, rfl, hR, hs, hnw, hb2⟩; have H2 := WirS.hide (bag_rdr H1.out hR hs hnw hb2); clear hR hs hnw hb2 H1))
  go_upto_region 9 with ((go_at_call 11; refine (new_any _ 1048576 (by omega) (by omega)).mono ?_; rintro e w3 ⟨W, rfl, hW, hs, hb3⟩; have H3 := WirS.hide (bag_wtr H2.out hW hs (newB_nil _ _ _) hb3).swap; clear hW hs hb3 H2))
  go_loopw [9] (fun i wr => MidQ w bs R a c2 W kn i wr) (fun i _ => kn - (intOf i).toNat)
  case atStart => exact ⟨0, 0, _, Nat.zero_le _, rfl, Nat.zero_le _, H3.out⟩
  case round =>
    clear H3
    obtain ⟨k, at', v, hk, rfl, hat, hbag⟩ := hrel
    have HBg := WirS.hide hbag
    by_cases hlt : k < kn
    · obtain ⟨B, o, eka, hB, hcell⟩ := HK.out.cell k hlt
      have ck := (HBg.out.low.cell (p := ⟨B, o + k, none⟩) hB).trans (hcell k hlt)
      generalize ks.getD k 0 = q at ck
      have hpr := KitB.pick_range q 8 (by omega)
      have HP := WirS.hide (fun U => KitB.pick_any U q 8 (by omega) (by omega))
      generalize KitB.pick q 8 = g at hpr HP
      have HG := WirS.hide hpr
      subst eka
      clear hbag hcell hB hpr
      go_upto_region 12 with ((go_at_call 39; refine (HP.out _).mono ?_; rintro e u ⟨rfl, rfl⟩))
      refine wp_region_lit ?_
      refine sV (.pointer (some ⟨R, 0, none⟩)) (wr) (by kernel_rfl) (by kernel_rfl) ?_
      simp only [Act.put, List.setIfInBounds_toArray, List.set_cons_succ, List.set_cons_zero]
      refine sV (.pointer (some ⟨W, 0, none⟩)) (wr) (by kernel_rfl) (by kernel_rfl) ?_
      simp only [Act.put, List.setIfInBounds_toArray, List.set_cons_succ, List.set_cons_zero]
      refine sV (.int .i64 g) (wr) (by kernel_rfl) (by kernel_rfl) ?_
      simp only [Act.put, List.setIfInBounds_toArray, List.set_cons_succ, List.set_cons_zero]
      refine sCx (by kernel_rfl) (by kernel_rfl) (again_any w wr [] R a c2 bs at' W 1048576 v g HG.out.1 HG.out.2 HBg.out (by have := HN6.out; have := HN.out; omega)) ?_
      rintro e u (⟨rfl, p, v', h1, h2, hb⟩ | ⟨rfl, p, fe, fa, hfe, hb⟩)
      · refine ⟨_, rfl, ?_⟩
        simp only [Act.put, List.setIfInBounds_toArray, List.set_cons_succ, List.set_cons_zero]
        have HU := WirS.hide hb
        have HPL := WirS.hide h2
        clear hb HBg HP ck
        go_upto_region 15 with ((go_at_call 18; refine (done_ok _ W 1048576 v' _ HU.out.swap.head).mono ?_; rintro e u2 ⟨da, dn, dc, rfl, ho, hnw, hb⟩; have HU2 := WirS.hide (bag_binb (bag_own HU.out ho hnw hb)).swap; have HD := WirS.hide ho.bin; clear ho hnw hb))
        have hlp : (bs.take p).length = p := by have := HPL.out; rw [List.length_take]; omega
        have hdn : dn = p := by
          obtain ⟨_, _, e, _⟩ := HD.out
          cases e
          exact hlp
        subst hdn
        have hRest := WirS.hide (show Calls Try.prog 24 #[.pointer (some ⟨R, 0, none⟩)] u2 (BR w _ R a c2 bs (.int .i64 ((n : Int) - (dn : Int))) dn 0 0) from by
          have := br_rest HU2.out
          rwa [show restN bs dn 0 = (n : Int) - (dn : Int) by unfold restN; rw [if_pos rfl, HN.out]] at this)
        have hsum : (dn : Int) + ((n : Int) - (dn : Int)) = (n : Int) := by omega
        have hcn : n ≤ c := by
          obtain ⟨_, _, e, hc, _⟩ := HB.out
          cases e
          exact hc
        have hsl := slH b n c dn (by have := HPL.out; have := HN.out; omega)
        have HS := WirS.hide (fun U (hU : Bag w U [rdr R a c2 bs dn 0 0, binb (.slice da dn dc) (bs.take dn), wtr W 1048576 v' (bs.take dn) 0]) => show Calls Try.prog 20 #[.slice da dn dc, .slice (sa b c 0) dn (c - 0)] U (fun e w' => e = .returned (.bool true) ∧ U = w') from (same_any U da (sa b c 0) dn dc dn (c - 0) (bs.take dn) (bs.take dn) hU.swap.head.1 (by
          have h5 := HB.out
          rw [HN.out] at h5
          have := bin_sub h5 0 dn (by have := HPL.out; omega)
          rw [List.drop_zero] at this
          exact this.below hU.low) (fun x hx => HR.out x (List.mem_of_mem_take hx)) (fun x hx => HR.out x (List.mem_of_mem_take hx))).mono fun _ _ ⟨h1, h2⟩ => ⟨by rw [h1]; simp, h2⟩)
        clear hlp hcn
        go_wp2_with (first | ((go_at_call 24; refine (hRest.out).mono ?_; rintro e u3 ⟨rfl, hb⟩; have HU3 := WirS.hide hb; clear hb)) | ((go_at_call 20; refine (HS.out _ HU3.out).mono ?_; rintro e u4 ⟨rfl, rfl⟩)))
        go_roundw
        case rel => exact ⟨k + 1, dn, v', by omega, by go_num, HPL.out, HU3.out.swap.drop⟩
        case measure => simp [intOf]; omega
      · refine ⟨_, rfl, ?_⟩
        simp only [Act.put, List.setIfInBounds_toArray, List.set_cons_succ, List.set_cons_zero]
        have HU := WirS.hide hb
        have E1 : endE bs p fe = fe := (endF bs p fe fa hfe).1
        have HE := WirS.hide (show Calls Try.prog 26 #[.pointer (some ⟨R, 0, none⟩)] u (BR w [] R a c2 bs (.agg #[.int .i64 (endE bs p fe), .int .i64 (endA bs p fe fa)]) p fe fa) from br_end hb)
        rw [E1] at HE
        generalize endA bs p fe fa = fb at HE
        have hq : (fe == 0) = false := by simpa using hfe
        have hq2 : (fe != 0) = true := by simpa using hfe
        have hfd : ∀ Y : World, (Instr.field 55 (.agg #[.int .i64 fe, .int .i64 fb]) 0).run Try.prog Y = .ok (.int .i64 fe) Y := fun Y => by kernel_rfl
        clear hb HBg HP ck E1 hfe
        go_wp2_with ((go_at_call 26; refine (HE.out).mono ?_; rintro e u2 ⟨rfl, hb⟩; have HU2 := WirS.hide hb; clear hb))
        go_ret
        exact ⟨rfl, HU2.out.low⟩
    · clear hbag
      go_wp2_with fail
      go_ret
      exact ⟨rfl, HBg.out.low⟩
theorem k_some (W : World) (x : Addr) (l c : Nat) (zs : List Int) (hl : l ≤ c) (hz : zs.length = c) (hcell : ∀ i, i < zs.length → W.cell? (x.add i) = some (.int .i64 (zs.getD i 0))) : KIn W (some x) l zs := ⟨fun j hj => by
  obtain ⟨b, off, rfl, hc⟩ := Go.ints_at hcell (by omega)
  refine ⟨b, off, rfl, ?_, fun i hi => hc i (by omega)⟩
  have h0 := hc 0 (by omega)
  unfold World.cell? at h0
  rcases Nat.lt_or_ge b W.heap.size with h | h
  · exact h
  · have : W.heap[b]? = none := by simp [h]
    simp [this] at h0⟩
theorem ints_in {H : Type} {enc : TypeId × Value → H} {W : World} {fuel : Nat} {cs : List Value} {x : DataW H × List MemPlace} (h : DataW.trod enc Try.prog W 0 (fun _ => true) true fuel 77 cs = some x) :
    ∃ va vn vc zs, cs = [.slice va vn vc] ∧ KIn W va vn zs := by
  rcases Go.ChangeShapes.open_ints Try.underlying77 Try.underlying3 (by kernel_rfl) h with ⟨hcs, _⟩ | ⟨a, l, c, zs, hcs, _, hl, hm, hz, _, hcell, hwz⟩
  · exact ⟨none, 0, 0, [], hcs, ⟨fun i hi => by omega⟩⟩
  · exact ⟨some a, l, c, zs, hcs, k_some W a l c zs hl (by simpa using hz) hcell⟩
theorem one_row (w : World) (b : Option Addr) (n c : Nat) (bs : List Int) (ka : Option Addr) (kn kc : Nat) (ks : List Int) (hb : BIn w (.slice b n c) bs ∧ rng bs) (hk : KIn w ka kn ks) :
    Calls Try.prog 8 #[.slice b n c, .slice ka kn kc] w fun e w' => e = .returned (.bool true) ∧ Below w.heap.size w w' := one_any w b n c bs hb.1 hb.2 ka kn kc ks hk
end WirAC
end Go.Proofs.Ytkdgndgejhkmpaa
