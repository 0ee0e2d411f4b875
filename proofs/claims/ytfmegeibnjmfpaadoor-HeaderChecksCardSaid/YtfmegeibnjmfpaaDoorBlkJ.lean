/-
  The hash of a digest, by package blake.
-/
import Derived.Test.YtfmegeibnjmfpaaDoorBlkI
import Derived.Lib.SliceRun
import Derived.BigFrame
namespace Go.Proofs.YtfmegeibnjmfpaaDoor
namespace BlkJ
open Go.RowKit
open BlkM BlkA BlkG BlkH BlkI

/-! ### Cells written one after another -/
def putL {α : Type} : List α → Nat → List α → List α
  | cs, _, [] => cs
  | cs, o, v :: r => putL (cs.set o v) (o + 1) r
theorem chg_setCells {w : World} {V : Nat} {T : TypeId} {c0 : List Value} (h0 : At w V T c0) : ∀ (vs : List Value) (o : Nat) (cs : List Value) (w1 : World), Chg w V cs w1 → Chg w V (putL cs o vs) (w1.setCells V o vs)
  | [], _, _, _, h => h
  | v :: r, o, cs, w1, h => by
    unfold putL World.setCells
    exact chg_setCells h0 r (o + 1) _ _ (h.setCell h0 o v)
theorem putL_eq {α : Type} : ∀ (vs cs : List α) (o : Nat), o + vs.length ≤ cs.length → putL cs o vs = cs.take o ++ (vs ++ cs.drop (o + vs.length))
  | [], cs, o, _ => by simp [putL]
  | v :: r, cs, o, h => by
    simp only [List.length_cons] at h
    rw [putL, putL_eq r _ (o + 1) (by rw [List.length_set]; omega), List.take_set, List.drop_set_of_lt (by omega)]
    have hl : o < cs.length := by omega
    rw [List.take_succ_eq_append_getElem hl, List.set_append_right _ _ (by simp; omega)]
    simp [Nat.min_eq_left (Nat.le_of_lt hl), List.length_cons]
    congr 1
    omega
theorem putL_dig (pre : List Value) (n : Int) (h : List Int) (held : Int) (lh : h.length = 8) : ∀ (zs blk : List Int) (e : Nat), blk.length = 64 → e + zs.length ≤ 64 → putL (pre ++ dig n h blk held) (pre.length + 9 + e) (b8 zs) = pre ++ dig n h (putL blk e zs) held
  | [], _, _, _, _ => rfl
  | z :: r, blk, e, hb, he => by
    simp only [List.length_cons] at he
    show putL ((pre ++ dig n h blk held).set (pre.length + 9 + e) (.int .u8 z)) (pre.length + 9 + e + 1) (b8 r) = _
    rw [set_b pre n h blk held lh hb e (by omega) z, Nat.add_assoc (pre.length + 9) e 1, putL_dig pre n h held lh r _ (e + 1) (by rw [List.length_set]; exact hb) (by omega)]
    rfl
/-- The hash, when some bytes have come. -/
def op (h : List Int) : Nat → List Int
  | 0 => List.replicate 32 0
  | k + 1 => (op h k).set k (BlkM.byteOf h k)
theorem op_len (h : List Int) : ∀ k, (op h k).length = 32
  | 0 => rfl
  | k + 1 => by rw [op, List.length_set, op_len h k]
theorem op_get (h : List Int) : ∀ k, k ≤ 32 → ∀ i, i < k → (op h k).getD i 0 = BlkM.byteOf h i
  | 0, _, i, hi => by omega
  | k + 1, hk, i, hi => by
    have hl : k < (op h k).length := by rw [op_len]; omega
    rw [op]
    by_cases e : k = i
    · subst e
      simp [List.getD, hl]
    · rw [← op_get h k (by omega) i (by omega)]
      simp [List.getD, e]
theorem op_all (h : List Int) (z : Nat) (hz : z = 32) : op h z = out h := by
  apply List.ext_getElem
  · rw [op_len, out_len]
  · intro i h1 h2
    have h3 := op_get h z (by omega) i (by rw [op_len] at h1; omega)
    rw [List.getD_eq_getElem?_getD, List.getElem?_eq_getElem h1] at h3
    have h4 : (out h)[i] = BlkM.byteOf h i := by simp [out]
    rw [h4, ← h3]
    rfl
theorem slC (D o e : Nat) (he : e ≤ 64) (Y : World) : (Instr.sliceAt 42 (.pointer (some ⟨D, o, none⟩)) (some (.int .i64 (e : Int))) none none).run Tryd.prog Y = .ok (.slice (some (if 64 = e then ⟨D, o, none⟩ else ⟨D, o + e, none⟩)) (64 - e) (64 - e)) Y := by
  have ha : Tryd.prog.arrayLen 42 = 64 := by kernel_rfl
  rw [run_sliceAt_array_l Y 42 ⟨D, o, none⟩ (by kernel_rfl) .i64 (e : Int) (by omega) (by rw [ha]; omega), ha]
  have hs : (sizeOf (Tryd.prog.elem 42)).run Tryd.prog Y = .ok 1 Y := by kernel_rfl
  rw [hs]
  simp [slicedAt, Addr.add_mid]
theorem wrap8 (n : Int) : IntKind.u8.wrap n = n % 256 := by simp [IntKind.wrap, IntKind.bits, IntKind.signed]
theorem zero8 (w : World) : (zeroValue 5).run Tryd.prog w = .ok (.int .u8 0) w := by kernel_rfl

def MidJ (W1 : World) (h : List Int) (i : Value) (U : World) : Prop :=
  ∃ k : Nat, k ≤ 32 ∧ i = .int .i64 (k : Int) ∧ At U W1.heap.size 26 (b8 (op h k)) ∧ Below W1.heap.size W1 U

set_option maxRecDepth 10000 in
set_option maxHeartbeats 2000000 in
theorem sum_any (w : World) (l : List Int) (c : List Value) (hc : Dg l c) (hg : Glob w) :
    Calls Tryd.prog 43 #[.agg c.toArray] w fun e w' => e = .returned (.agg (b8 (sumL l)).toArray) ∧ Below w.heap.size w w' := by
  obtain ⟨k, e, blk, hDm, hek, rfl⟩ := hc
  have hbl := hDm.1
  have he := hDm.2.2.2.1
  obtain ⟨W0, eW0⟩ : ∃ X, X = ((w.alloc (.cells (dig (l.length : Int) (hs l k) blk (e : Int)).toArray 44)).alloc (.cells #[Value.int .u8 0, Value.int .u8 0, Value.int .u8 0, Value.int .u8 0, Value.int .u8 0, Value.int .u8 0, Value.int .u8 0, Value.int .u8 0, Value.int .u8 0, Value.int .u8 0, Value.int .u8 0, Value.int .u8 0, Value.int .u8 0, Value.int .u8 0, Value.int .u8 0, Value.int .u8 0, Value.int .u8 0, Value.int .u8 0, Value.int .u8 0, Value.int .u8 0, Value.int .u8 0, Value.int .u8 0, Value.int .u8 0, Value.int .u8 0, Value.int .u8 0, Value.int .u8 0, Value.int .u8 0, Value.int .u8 0, Value.int .u8 0, Value.int .u8 0, Value.int .u8 0, Value.int .u8 0] 26)) := ⟨_, rfl⟩
  have hA0 : At W0 w.heap.size 44 (dig (l.length : Int) (hs l k) blk (e : Int)) := by rw [eW0]; exact At.alloc (At.new w _ _) _
  have hz0 : At W0 (w.heap.size + 1) 26 (b8 (List.replicate 32 0)) := by
    rw [eW0]
    have := At.new (w.alloc (.cells (dig (l.length : Int) (hs l k) blk (e : Int)).toArray 44)) 26 (b8 (List.replicate 32 0))
    rw [World.size_alloc] at this
    exact this
  have hB0 : Below w.heap.size w W0 := by rw [eW0]; exact Below.alloc (Below.alloc (Below.refl _ _) (Nat.le_refl _) _) (by simp) _
  have hs0 : W0.heap.size = w.heap.size + 2 := by rw [eW0]; simp
  have ce : W0.cell? ⟨w.heap.size, 73, none⟩ = some (.int .i64 (e : Int)) := by
    have := dig_held [] (l.length : Int) (hs l k) blk (e : Int) (hs_len _ _) hbl
    rw [hA0.cell]
    simpa using this
  have hsl := slC w.heap.size 9 e he
  obtain ⟨W1, hC1, hcl⟩ : ∃ W1, Chg W0 w.heap.size (dig (l.length : Int) (hs l k) (blk.take e ++ List.replicate (64 - e) 0) (e : Int)) W1 ∧ ∀ ty, (Builtin.clear_ #[22] ty #[.slice (some (if 64 = e then ⟨w.heap.size, 9, none⟩ else ⟨w.heap.size, 9 + e, none⟩)) (64 - e) (64 - e)]).run Tryd.prog W0 = .ok (.tuple #[]) W1 := by
    by_cases h64 : e = 64
    · subst h64
      refine ⟨W0, ?_, fun ty => by simp [Builtin.clear_, run_underlying Tryd.underlying22]⟩
      have := Chg.self hA0 (Below.refl _ _)
      rw [List.take_of_length_le (by omega)]
      simpa using this
    · have hne : ¬ 64 = e := fun h => h64 h.symm
      refine ⟨W0.setCells w.heap.size (9 + e) (List.replicate (64 - e) (.int .u8 0)), ?_, fun ty => ?_⟩
      · have h1 := chg_setCells hA0 (b8 (List.replicate (64 - e) 0)) (9 + e) _ _ (Chg.self hA0 (Below.refl _ _))
        have h2 := putL_dig [] (l.length : Int) (hs l k) (e : Int) (hs_len _ _) (List.replicate (64 - e) 0) blk e hbl (by simp; omega)
        rw [putL_eq (List.replicate (64 - e) (0 : Int)) blk e (by simp; omega), List.length_replicate, List.drop_of_length_le (by omega), List.append_nil] at h2
        simp only [List.length_nil, Nat.zero_add, List.nil_append] at h2
        rw [h2, zeros8] at h1
        exact h1
      · rw [if_neg hne]
        exact Lib.run_clear_slice W0 22 5 ty (.int .u8 0) Tryd.underlying22 zero8 rfl rfl w.heap.size (9 + e) (64 - e) (64 - e) (by omega)
          (fun j hj => by rw [hA0.cell]; exact (by
            have := dig_b [] (l.length : Int) (hs l k) blk (e : Int) (hs_len _ _) hbl (e + j) (by omega)
            simp only [List.length_nil, Nat.zero_add, List.nil_append] at this
            rw [Nat.add_assoc, this]; rfl))
          (fun j hj => hA0.frozen _)
  obtain ⟨p, hp⟩ : ∃ p : Addr, (if 64 = e then (⟨w.heap.size, 9, none⟩ : Addr) else ⟨w.heap.size, 9 + e, none⟩) = p := ⟨_, rfl⟩
  simp only [hp] at hsl hcl
  clear hp
  have hfin := Dm_fin hDm hek
  have hlb2 : (blk.take e ++ List.replicate (64 - e) 0).length = 64 := by simp; omega
  have hrb2 : rng (blk.take e ++ List.replicate (64 - e) 0) := rng_append (rng_take hDm.2.1 _) (rng_zero _)
  have HE0 := hide eW0
  have HA0 := hide hA0
  have HZ0 := hide hz0
  have HB0 := hide hB0
  have HS0 := hide hs0
  have HC1 := hide hC1
  have HFIN := hide hfin
  have HLB := hide hlb2
  have HRB := hide hrb2
  have HG := hide hg
  clear eW0 hA0 hz0 hB0 hs0 hC1 hfin hlb2 hrb2 hg hDm hek hbl
  go_enter Tryd.func43, Tryd.ntmps43
  go_upto_region 1 with (fail)
  rw [← HE0.out]
  go_wp2_with (first
    | (go_at_call 66; refine (process_any _ w.heap.size 0 44 [] (l.length : Int) (hs l k) _ (e : Int) 4294967295 (by exact HC1.out.at HA0.out) rfl (hs_len _ _) HLB.out (rng_get HRB.out) ((HG.out.below HB0.out (by have := HG.out.1; omega)).chg HC1.out (by have := HG.out.1; omega))).mono ?_; rintro e w2 ⟨rfl, hp⟩; rw [HFIN.out] at hp))
  have hA2 := hp.at (HC1.out.at HA0.out)
  have hB2 : Below w.heap.size w w2 := (HB0.out.trans (HC1.out.below_of (Nat.le_refl _) (by have := HS0.out; omega))).trans (hp.below_of (Nat.le_refl _) (by have := HC1.out.size; have := HS0.out; omega))
  have hZ2 := hp.other (HC1.out.other HZ0.out (by omega)) (by omega)
  have hst : MidJ w2 (BlkM.fin l) (.int .i64 0) (w2.alloc (.cells #[Value.int .u8 0, Value.int .u8 0, Value.int .u8 0, Value.int .u8 0, Value.int .u8 0, Value.int .u8 0, Value.int .u8 0, Value.int .u8 0, Value.int .u8 0, Value.int .u8 0, Value.int .u8 0, Value.int .u8 0, Value.int .u8 0, Value.int .u8 0, Value.int .u8 0, Value.int .u8 0, Value.int .u8 0, Value.int .u8 0, Value.int .u8 0, Value.int .u8 0, Value.int .u8 0, Value.int .u8 0, Value.int .u8 0, Value.int .u8 0, Value.int .u8 0, Value.int .u8 0, Value.int .u8 0, Value.int .u8 0, Value.int .u8 0, Value.int .u8 0, Value.int .u8 0, Value.int .u8 0] 26)) := ⟨0, by omega, rfl, At.new w2 26 (b8 (List.replicate 32 0)), (by repeat (first | assumption | exact Below.refl _ _ | refine Below.setCell ?_ (by first | omega | (simp; done) | (simp; omega)) _ | refine below_drewN ?_ _ | refine Below.drew ?_ | refine Below.alloc ?_ (by first | omega | (simp; done) | (simp; omega)) _ | refine Below.trans ?_ (Below.mono (by assumption) (by first | omega | (simp; done) | (simp; omega)))))⟩
  have HST := hide hst
  have HA2 := hide hA2
  have HB2 := hide hB2
  have HZ2 := hide hZ2
  have hz2l : w.heap.size + 1 < w2.heap.size := hZ2.lt
  clear hA2 hB2 hZ2 hst hp
  go_loopw [10] (fun i wr => MidJ w2 (BlkM.fin l) i wr) (fun i _ => 32 - (intOf i).toNat)
  case atStart => exact HST.out
  case round =>
    obtain ⟨k, hk, rfl, hm, hB⟩ := hrel
    by_cases hlt : k < 32
    · obtain ⟨i, n, hi, hn, hkn⟩ : ∃ i n : Nat, i < 8 ∧ n < 4 ∧ k = 4 * i + n := ⟨k / 4, k % 4, by omega, by omega, by omega⟩
      obtain ⟨H, hH⟩ : ∃ z, (BlkM.fin l).getD i 0 = z := ⟨_, rfl⟩
      have cH : wr.cell? ⟨w.heap.size, 1 + i, none⟩ = some (.int .u32 H) := by
        have := dig_h [] (l.length : Int) (BlkM.fin l) (blk.take e ++ List.replicate (64 - e) 0) (e : Int) (fin_len l) i hi
        simp only [List.length_nil, Nat.zero_add] at this
        rw [(HA2.out.below hB (by omega)).cell, this, hH]
      have ck := hm.cell k
      rw [b8_get _ k (by rw [op_len]; exact hlt)] at ck
      have fk := hm.frozen k
      have q1 : (k : Int) / 4 = (i : Int) := by omega
      have q3 : (k : Int).tdiv 4 = (i : Int) := by rw [Int.tdiv_eq_ediv_of_nonneg (by omega)]; exact q1
      have NQ : (k : Int) % 4 = (n : Int) := by omega
      have NQ2 : (k : Int).tmod 4 = (n : Int) := by rw [Int.tmod_eq_emod_of_nonneg (by omega)]; exact NQ
      have hi2 : (i : Int) < 8 := by omega
      have hk2 : (k : Int) < 32 := by omega
      have HM := hide hm
      have HB := hide hB
      have HN := hide hkn
      have HH := hide hH
      clear hm hB hkn hH
      match n, hn with
      | 0, _ =>
        obtain ⟨z, hz⟩ : ∃ z, H % 256 = z := ⟨_, rfl⟩
        have HZ := hide hz
        go_wp2_with fail
        go_roundw
        case rel =>
          have e1 : k / 4 = i := by have := HN.out; omega
          have e2 : k % 4 = 0 := by have := HN.out; omega
          have e3 : BlkM.byteOf (BlkM.fin l) k = z := by
            unfold BlkM.byteOf
            rw [e1, e2, HH.out, wrap8, ← HZ.out]
            rw [show 8 * 0 = 0 from rfl, Int.pow_zero, Int.ediv_one]
          refine ⟨k + 1, by omega, by go_num, ?_, Below.setCell HB.out (by simp) _⟩
          rw [op, e3, ← b8_set]
          exact HM.out.setCell k _
        case measure => simp [intOf]; omega
      | 1, _ =>
        obtain ⟨z, hz⟩ : ∃ z, H / 256 % 256 = z := ⟨_, rfl⟩
        have HZ := hide hz
        go_wp2_with fail
        go_roundw
        case rel =>
          have e1 : k / 4 = i := by have := HN.out; omega
          have e2 : k % 4 = 1 := by have := HN.out; omega
          have e3 : BlkM.byteOf (BlkM.fin l) k = z := by
            unfold BlkM.byteOf
            rw [e1, e2, HH.out, wrap8, ← HZ.out]
            rfl
          refine ⟨k + 1, by omega, by go_num, ?_, Below.setCell HB.out (by simp) _⟩
          rw [op, e3, ← b8_set]
          exact HM.out.setCell k _
        case measure => simp [intOf]; omega
      | 2, _ =>
        obtain ⟨z, hz⟩ : ∃ z, H / 65536 % 256 = z := ⟨_, rfl⟩
        have HZ := hide hz
        go_wp2_with fail
        go_roundw
        case rel =>
          have e1 : k / 4 = i := by have := HN.out; omega
          have e2 : k % 4 = 2 := by have := HN.out; omega
          have e3 : BlkM.byteOf (BlkM.fin l) k = z := by
            unfold BlkM.byteOf
            rw [e1, e2, HH.out, wrap8, ← HZ.out]
            rfl
          refine ⟨k + 1, by omega, by go_num, ?_, Below.setCell HB.out (by simp) _⟩
          rw [op, e3, ← b8_set]
          exact HM.out.setCell k _
        case measure => simp [intOf]; omega
      | 3, _ =>
        obtain ⟨z, hz⟩ : ∃ z, H / 16777216 % 256 = z := ⟨_, rfl⟩
        have HZ := hide hz
        go_wp2_with fail
        go_roundw
        case rel =>
          have e1 : k / 4 = i := by have := HN.out; omega
          have e2 : k % 4 = 3 := by have := HN.out; omega
          have e3 : BlkM.byteOf (BlkM.fin l) k = z := by
            unfold BlkM.byteOf
            rw [e1, e2, HH.out, wrap8, ← HZ.out]
            rfl
          refine ⟨k + 1, by omega, by go_num, ?_, Below.setCell HB.out (by simp) _⟩
          rw [op, e3, ← b8_set]
          exact HM.out.setCell k _
        case measure => simp [intOf]; omega
    · obtain rfl : k = 32 := by omega
      rw [op_all _ 32 rfl] at hm
      have HM := hide hm
      have hz3 := HZ2.out.below hB hz2l
      have HZ3 := hide hz3
      have HZ4 := hide (hz3.put (b8 (out (BlkM.fin l))))
      have HB4 := hide (Below.setRowOwn (HB2.out.trans (hB.mono (by omega))) (Nat.le_succ w.heap.size) (b8 (out (BlkM.fin l))).toArray)
      have HL : (b8 (out (BlkM.fin l))).length = 32 := by rw [b8_len, out_len]
      have HLEN := hide HL
      clear hm hB hz3 HL
      go_upto_region 9 with (fail)
      refine wp_region_lit ?_
      refine stepLoad (by rfl) _ _ (by rfl) _ (by rfl) HM.out (.array 32 5) 32 Tryd.underlying26 rfl (by kernel_rfl) HLEN.out ?_
      refine stepStore (by rfl) _ _ _ (by rfl) _ _ (by rfl) (by rfl) HZ3.out 32 (by kernel_rfl) (by rw [b8_len]; rfl) HLEN.out (oneCells_b8 _) ?_
      go_wp2_with fail
      exact bodyPost_ret (retRow HZ4.out Tryd.results43 _ (by rfl) (.array 32 5) 32 Tryd.underlying26 rfl (by kernel_rfl) HLEN.out) rfl ⟨rfl, HB4.out⟩
end BlkJ
end Go.Proofs.YtfmegeibnjmfpaaDoor
