/-
  Bytes are written to a digest, by package blake.
-/
import Derived.Test.YtfmegeibnjmfpaaDoorBlkH
import Derived.Laws.CopyOwn
namespace Go.Proofs.YtfmegeibnjmfpaaDoor
namespace BlkI
open Go.RowKit
open BlkM BlkA BlkG BlkH

/-! ### What a digest knows -/
def rng (l : List Int) : Prop := ∀ x ∈ l, 0 ≤ x ∧ x < 256
theorem rng_get {l : List Int} (h : rng l) (i : Nat) : 0 ≤ l.getD i 0 ∧ l.getD i 0 < 256 := by
  by_cases hi : i < l.length
  · rw [List.getD_eq_getElem?_getD, List.getElem?_eq_getElem hi]
    exact h _ (List.getElem_mem hi)
  · rw [List.getD_eq_getElem?_getD, List.getElem?_eq_none (by omega)]
    simp
theorem rng_take {l : List Int} (h : rng l) (n : Nat) : rng (l.take n) := fun x hx => h x (List.mem_of_mem_take hx)
theorem rng_drop {l : List Int} (h : rng l) (n : Nat) : rng (l.drop n) := fun x hx => h x (List.mem_of_mem_drop hx)
theorem rng_append {l m : List Int} (h : rng l) (k : rng m) : rng (l ++ m) := fun x hx => (List.mem_append.1 hx).elim (h x) (k x)
theorem rng_zero (n : Nat) : rng (List.replicate n 0) := fun x hx => by
  obtain ⟨_, rfl⟩ := List.mem_replicate.1 hx
  omega
def Dm (l : List Int) (k e : Nat) (blk : List Int) : Prop := blk.length = 64 ∧ rng blk ∧ l.length = 64 * k + e ∧ e ≤ 64 ∧ blk.take e = l.drop (64 * k)
def Dg (l : List Int) (c : List Value) : Prop := ∃ k e blk, Dm l k e blk ∧ (e = 0 → k = 0) ∧ c = dig (l.length : Int) (hs l k) blk (e : Int)
theorem Dg_nil : Dg [] BlkG.d0 := ⟨0, 0, n0, ⟨by simp [n0], rng_zero 64, rfl, by omega, rfl⟩, fun _ => rfl, rfl⟩
theorem Dm_full {l blk : List Int} {k : Nat} (h : Dm l k 64 blk) : comp (hs l k) blk (l.length : Int) 0 = hs l (k + 1) ∧ Dm l (k + 1) 0 blk := by
  obtain ⟨h1, h2, h3, h4, h5⟩ := h
  rw [List.take_of_length_le (by omega)] at h5
  refine ⟨?_, h1, h2, by omega, by omega, ?_⟩
  · rw [hs, h3, ← h5, List.take_of_length_le (by omega), show 64 * k + 64 = 64 * (k + 1) by omega]
  · rw [List.drop_of_length_le (by omega)]; rfl
theorem Dm_more {l blk : List Int} {k e : Nat} (h : Dm l k e blk) (news : List Int) (hr : rng news) (he : e + news.length ≤ 64) :
    Dm (l ++ news) k (e + news.length) (blk.take e ++ (news ++ blk.drop (e + news.length))) ∧ hs (l ++ news) k = hs l k := by
  obtain ⟨h1, h2, h3, h4, h5⟩ := h
  refine ⟨⟨?_, rng_append (rng_take h2 _) (rng_append hr (rng_drop h2 _)), by simp; omega, by omega, ?_⟩, hs_append l news k (by omega)⟩
  · simp; omega
  · rw [← List.append_assoc, List.take_append_of_le_length (by simp; omega), List.take_of_length_le (by simp; omega), h5, List.drop_append_of_le_length (by omega)]
theorem Dm_fin {l blk : List Int} {k e : Nat} (h : Dm l k e blk) (hk : e = 0 → k = 0) : comp (hs l k) (blk.take e ++ List.replicate (64 - e) 0) (l.length : Int) 4294967295 = BlkM.fin l := by
  obtain ⟨h1, h2, h3, h4, h5⟩ := h
  have hb : before l.length = k := by unfold before; omega
  unfold BlkM.fin pad
  rw [hb, h5]
  congr 3
  simp
  omega
/-- A part of a row in the midst of cells, written anew. -/
theorem splice (A B C S : List Value) (p m : Nat) (hS : S.length = m) (hp : p + m ≤ B.length) :
    (A ++ (B ++ C)).take (A.length + p) ++ (S ++ (A ++ (B ++ C)).drop (A.length + p + m)) = A ++ ((B.take p ++ (S ++ B.drop (p + m))) ++ C) := by
  rw [List.take_append, List.take_of_length_le (by omega), show A.length + p - A.length = p by omega, List.take_append_of_le_length (by omega),
    List.drop_append, List.drop_of_length_le (by omega), List.nil_append, show A.length + p + m - A.length = p + m by omega, List.drop_append_of_le_length (by omega)]
  simp
theorem dig_splice (pre : List Value) (n : Int) (h blk : List Int) (held : Int) (lh : h.length = 8) (news : List Int) (p m : Nat) (hm : news.length = m) (hp : p + m ≤ blk.length) :
    (pre ++ dig n h blk held).take (pre.length + 9 + p) ++ (b8 news ++ (pre ++ dig n h blk held).drop (pre.length + 9 + p + m)) = pre ++ dig n h (blk.take p ++ (news ++ blk.drop (p + m))) held := by
  have := splice (pre ++ (.int .u64 n :: w32 h)) (b8 blk) [.int .i64 held] (b8 news) p m (by rw [b8_len]; exact hm) (by rw [b8_len]; exact hp)
  rw [show (pre ++ (Value.int .u64 n :: w32 h)).length = pre.length + 9 by simp [w32_len, lh]] at this
  have e1 : pre ++ (Value.int .u64 n :: w32 h) ++ (b8 blk ++ [.int .i64 held]) = pre ++ dig n h blk held := by simp [dig]
  rw [e1] at this
  rw [this]
  simp [dig, b8, List.map_take, List.map_drop]

/-- Bytes handed in, not in block D. -/
def BAt (w : World) (D : Nat) (v : Value) (zs : List Int) : Prop := ∃ a cap, v = .slice a zs.length cap ∧ zs.length ≤ cap ∧ (zs ≠ [] → ∃ B o, a = some ⟨B, o, none⟩ ∧ B ≠ D ∧ B < w.heap.size ∧ ∀ i, i < zs.length → w.cell? ⟨B, o + i, none⟩ = some (.int .u8 (zs.getD i 0)))
theorem BAt.nil (w : World) (D : Nat) : BAt w D (.slice none 0 0) [] := ⟨none, 0, rfl, Nat.le_refl _, fun h => absurd rfl h⟩
def lenV : Value → Nat | .slice _ n _ => n | _ => 0
def Mid (w : World) (D : Nat) (pre : List Value) (l zs : List Int) (v : Value) (U : World) : Prop :=
  ∃ L R c, L ++ R = l ++ zs ∧ Dg L c ∧ Chg w D (pre ++ c) U ∧ BAt w D v R ∧ rng R
theorem slA (D o e : Nat) (he : e < 64) (Y : World) : (Instr.sliceAt 42 (.pointer (some ⟨D, o, none⟩)) (some (.int .i64 (e : Int))) none none).run Tryd.prog Y = .ok (.slice (some ⟨D, o + e, none⟩) (64 - e) (64 - e)) Y := by
  have ha : Tryd.prog.arrayLen 42 = 64 := by kernel_rfl
  rw [run_sliceAt_array_l Y 42 ⟨D, o, none⟩ (by kernel_rfl) .i64 (e : Int) (by omega) (by rw [ha]; omega), ha]
  have hs : (sizeOf (Tryd.prog.elem 42)).run Tryd.prog Y = .ok 1 Y := by kernel_rfl
  have hne : ¬ 64 = e := by omega
  rw [hs]
  simp [slicedAt, hne, Addr.add_mid]
theorem slB (a : Option Addr) (len cap m : Nat) (hm : m ≤ len) (_hc : len ≤ cap) (Y : World) : (Instr.sliceAt 22 (.slice a len cap) (some (.int .i64 (m : Int))) none none).run Tryd.prog Y = .ok (.slice (if cap = m then a else a.map (·.add m)) (len - m) (cap - m)) Y := by
  have hu : Tryd.prog.underlying 22 = some (.slice (Tryd.prog.elem 22)) := by kernel_rfl
  rw [run_sliceAt_slice Y 22 _ _ _ _ hu, run_slice_l Y 22 a len cap hu .i64 (m : Int) (by omega) (by omega)]
  have hs : (sizeOf (Tryd.prog.elem 22)).run Tryd.prog Y = .ok 1 Y := by kernel_rfl
  rw [hs]
  simp [sliced]

set_option maxRecDepth 10000 in
set_option maxHeartbeats 2000000 in
theorem write_any (w : World) (D off : Nat) (T : TypeId) (pre : List Value) (l zs : List Int) (c : List Value) (v : Value) (hat : At w D T (pre ++ c)) (hc : Dg l c) (hoff : pre.length = off) (hb : BAt w D v zs) (hr : rng zs)
    (hg : Glob w) (hD0 : D ≠ 0) (hlen : l.length + zs.length < 4611686018427387904) :
    Calls Tryd.prog 42 #[.pointer (some ⟨D, off, none⟩), v] w fun e w' => e = .returned (.tuple #[]) ∧ ∃ c', Dg (l ++ zs) c' ∧ Chg w D (pre ++ c') w' := by
  have HST := hide (show Mid w D pre l zs v w from ⟨l, zs, c, rfl, hc, Chg.self hat (Below.refl _ _), hb, hr⟩)
  have HAT := hide hat
  have HOFF := hide hoff
  have HG := hide hg
  have HD0 := hide hD0
  have HLEN := hide hlen
  obtain ⟨a0, cap0, rfl, _, _⟩ := hb
  clear hat hc hoff hr hg hD0 hlen
  go_enter Tryd.func42, Tryd.ntmps42
  go_wp2_with fail
  go_loopw [1] (fun v wr => Mid w D pre l zs v wr) (fun v _ => lenV v)
  case atStart => exact HST.out
  case round =>
    obtain ⟨L, R, c, hLR, hDg, hC, hBA, hrR⟩ := hrel
    obtain ⟨a, cap, rfl, hcap, hin⟩ := hBA
    have hLRl : L.length + R.length < 4611686018427387904 := by
      have := congrArg List.length hLR
      simp only [List.length_append] at this
      have := HLEN.out
      omega
    by_cases hR : R = []
    · subst hR
      have HF := hide (show ∃ c', Dg (l ++ zs) c' ∧ Chg w D (pre ++ c') wr from ⟨c, by rw [← hLR, List.append_nil]; exact hDg, hC⟩)
      clear hLR hDg hC hin hrR
      go_wp2_with fail
      go_end0
      exact ⟨rfl, HF.out⟩
    · obtain ⟨B, o, rfl, hBD, hBw, hcells⟩ := hin hR
      have hpos : 0 < R.length := List.length_pos_iff.2 hR
      obtain ⟨k, e, blk, hDm, hek, rfl⟩ := hDg
      have he64 := hDm.2.2.2.1
      have hbl := hDm.1
      have hLk := hDm.2.2.1
      have hA := hC.at HAT.out
      have ce : wr.cell? ⟨D, off + 73, none⟩ = some (.int .i64 (e : Int)) := by rw [hA.cell, ← HOFF.out, dig_held pre _ _ _ _ (hs_len _ _) hbl]
      have fe := hA.frozen (off + 73)
      have gtr : (0 : Int) < (R.length : Int) := by omega
      have HLR := hide hLR
      have HDm := hide hDm
      have HA := hide hA
      have HC := hide hC
      have HCE := hide hcells
      have HRR := hide hrR
      have HLK := hide hLk
      have HBL := hide hbl
      clear hLR hDm hA hC hcells hrR hin hek hLk hbl hR
      by_cases hfull : e = 64
      · subst hfull
        go_wp2_with ((go_at_call 66; refine (process_any _ D off T pre (L.length : Int) (hs L k) blk 64 0 (by exact HA.out) HOFF.out (hs_len _ _) HBL.out (rng_get HDm.out.2.1) (HG.out.chg HC.out HD0.out)).mono ?_; rintro e w1 ⟨rfl, hp⟩; rw [(Dm_full HDm.out).1] at hp; have cp := ((hp.at HA.out).cell (off + 73)).trans (by rw [← HOFF.out, dig_held pre _ _ _ _ (hs_len _ _) HBL.out]); have fp := (hp.at HA.out).frozen (off + 73)))
        obtain ⟨U1, eU1⟩ : ∃ X, X = w1.setCell ⟨D, off + 73, none⟩ (.int .i64 0) := ⟨_, rfl⟩
        rw [← eU1]
        obtain ⟨q, hq⟩ : ∃ q : Nat, q = 0 := ⟨0, rfl⟩
        have hq0 : (0 : Int) = (q : Int) := by omega
        have hq64 : q < 64 := by omega
        have hC1 := (HC.out.trans hp).setCell HAT.out (off + 73) (.int .i64 (q : Int))
        rw [← HOFF.out, set_held pre _ _ _ _ _ (hs_len _ _) HBL.out, HOFF.out] at hC1
        have HC1 := hide (show Chg w D (pre ++ dig (L.length : Int) (hs L (k + 1)) blk ((q : Nat) : Int)) U1 by rw [eU1, hq0]; exact hC1)
        have HDm1 := hide (show Dm L (k + 1) q blk by rw [hq]; exact (Dm_full HDm.out).2)
        clear hC1 eU1 hp cp fp ce fe HA HC HDm hq hq0
        have hA1 := HC1.out.at HAT.out
        have ce : U1.cell? ⟨D, off + 73, none⟩ = some (.int .i64 ((q : Nat) : Int)) := by rw [hA1.cell, ← HOFF.out, dig_held pre _ _ _ _ (hs_len _ _) HBL.out]
        have hsl := slA D (off + 9) q hq64
        obtain ⟨m, hm⟩ : ∃ m, m = Nat.min R.length (64 - q) := ⟨_, rfl⟩
        have hmR : m ≤ R.length := by rw [hm]; exact Nat.min_le_left _ _
        have hm64 : q + m ≤ 64 := by have : m ≤ 64 - q := (by rw [hm]; exact Nat.min_le_right _ _); omega
        have hm0 : 0 < m := by rw [hm]; exact Nat.lt_min.2 ⟨hpos, by omega⟩
        have hnl : (R.take m).length = m := by rw [List.length_take]; omega
        have hcl : (b8 (R.take m)).length = m := by rw [b8_len, hnl]
        have HA1 := hide hA1
        have HM := hide hm
        have HNL := hide hnl
        have HCL := hide hcl
        clear hA1 hm hnl hcl
        go_still_tail 9, (by kernel_rfl)
        refine wpList_copy_own (by rfl) _ _ _ _ (by rfl) 5 Tryd.underlying22 (by kernel_rfl) D (off + 9 + q) (64 - q) (64 - q) ⟨B, o, none⟩ R.length cap (by rfl) (by rfl) _ T (by exact HA1.out) (b8 (R.take m)) (by rw [HCL.out]; exact HM.out) ?_ ?_ ?_ ?_
        · intro j v hj
          have hjm : j < m := by have := (List.getElem?_eq_some_iff.1 hj).1; rw [HCL.out] at this; exact this
          rw [b8_get _ j (by rw [HNL.out]; exact hjm)] at hj
          have h1 := HCE.out j (by omega)
          have h2 := Below.cell HC1.out (p := ⟨B, o + j, none⟩) hBw
          rw [cell_setRow_other w D _ _ (by simpa using hBD), h1] at h2
          rw [Addr.add_mid]
          refine Eq.trans (show _ = U1.cell? ⟨B, o + j, none⟩ from rfl) (h2.trans ?_)
          rw [← hj]
          simp [List.getD, hjm]
        · rw [HCL.out, List.size_toArray, List.length_append, dig_len _ _ _ _ (hs_len _ _) HBL.out, ← HOFF.out]
          omega
        · intro v hv
          obtain ⟨x, _, rfl⟩ := List.mem_map.1 (show v ∈ (R.take m).map (Value.int .u8) from hv)
          rfl
        have hrow := dig_splice pre (L.length : Int) (hs L (k + 1)) blk ((q : Nat) : Int) (hs_len _ _) (R.take m) q m HNL.out (by rw [HBL.out]; exact hm64)
        obtain ⟨bl2, hbl2⟩ : ∃ z, z = blk.take q ++ (R.take m ++ blk.drop (q + m)) := ⟨_, rfl⟩
        rw [← hbl2, HOFF.out] at hrow
        rw [HCL.out, hrow]
        have hmore := Dm_more HDm1.out (R.take m) (rng_take HRR.out m) (by rw [HNL.out]; exact hm64)
        rw [HNL.out, ← hbl2] at hmore
        obtain ⟨U2, eU2⟩ : ∃ X, X = World.setRow { U1 with drawn := U1.drawn + 1 } D (pre ++ dig (L.length : Int) (hs L (k + 1)) bl2 ((q : Nat) : Int)).toArray := ⟨_, rfl⟩
        rw [← eU2]
        have hC2 : Chg w D (pre ++ dig (L.length : Int) (hs L (k + 1)) bl2 ((q : Nat) : Int)) U2 := by
          rw [eU2]
          have h1 := Below.setRow HC1.out.drew D (pre ++ dig (L.length : Int) (hs L (k + 1)) bl2 ((q : Nat) : Int)).toArray
          rw [setRow_setRow] at h1
          exact h1
        have hA2 := hC2.at HAT.out
        have c2 : U2.cell? ⟨D, off + 73, none⟩ = some (.int .i64 ((q : Nat) : Int)) := by rw [hA2.cell, ← HOFF.out, dig_held pre _ _ _ _ (hs_len _ _) hmore.1.1]
        have f2 := hA2.frozen (off + 73)
        have hC3 := hC2.setCell HAT.out (off + 73) (.int .i64 ((q + m : Nat) : Int))
        rw [← HOFF.out, set_held pre _ _ _ _ _ (hs_len _ _) hmore.1.1, HOFF.out] at hC3
        have hcast : ((q + m : Nat) : Int) = ((q : Nat) : Int) + (m : Int) := by omega
        have HC3 := hide hC3
        have HMORE := hide hmore
        have hsl2 := slB (some ⟨B, o, none⟩) R.length cap m hmR hcap
        have HSUM := hide (show 0 ≤ (L.length : Int) ∧ (L.length : Int) + (m : Int) < 18446744073709551616 by omega)
        rw [hcast] at HC3
        have HCAST := hide hcast
        clear hrow hbl2 hmore eU2 hC2 hA2 hC3 HC1 HDm1 ce hsl hcast HA1
        go_wp2_with ((go_at_call 67; refine (count_any _ D off T pre (L.length : Int) (hs L (k + 1)) bl2 (((q : Nat) : Int) + (m : Int)) m (by exact HC3.out.at HAT.out) HOFF.out HSUM.out.1 HSUM.out.2).mono ?_; rintro e w3 ⟨rfl, h3⟩))
        go_roundw
        case rel =>
          have hl2 : ((L ++ R.take m).length : Int) = (L.length : Int) + (m : Int) := by rw [List.length_append, HNL.out]; omega
          have hd2 : (R.drop m).length = R.length - m := by rw [List.length_drop]
          refine ⟨L ++ R.take m, R.drop m, dig ((L ++ R.take m).length : Int) (hs (L ++ R.take m) (k + 1)) bl2 ((q + m : Nat) : Int), ?_, ⟨(k + 1), q + m, bl2, HMORE.out.1, fun h => absurd h (by omega), rfl⟩, ?_, ?_, rng_drop HRR.out m⟩
          · rw [List.append_assoc, List.take_append_drop]
            exact HLR.out
          · rw [hl2, HMORE.out.2, HCAST.out]
            exact HC3.out.trans h3
          · by_cases hcm : cap = m
            · refine ⟨some ⟨B, o, none⟩, cap - m, by simp [hcm, hd2], by omega, fun hne => absurd ?_ hne⟩
              rw [← List.length_eq_zero_iff]
              omega
            · refine ⟨some ⟨B, o + m, none⟩, cap - m, by simp [hcm, hd2], by omega, fun _ => ⟨B, o + m, rfl, hBD, hBw, fun i hi => ?_⟩⟩
              rw [Nat.add_assoc, HCE.out (m + i) (by omega)]
              simp [List.getD, List.getElem?_drop]
        case measure => simp [lenV]; omega
      · have HC1 := hide HC.out
        have HDm1 := hide HDm.out
        have hne64 : ¬ (e : Int) = 64 := by omega
        have hlt64 : e < 64 := by omega
        go_wp2_with fail
        clear HA HC HDm ce fe
        have hA1 := HC1.out.at HAT.out
        have ce : wr.cell? ⟨D, off + 73, none⟩ = some (.int .i64 ((e : Nat) : Int)) := by rw [hA1.cell, ← HOFF.out, dig_held pre _ _ _ _ (hs_len _ _) HBL.out]
        have hsl := slA D (off + 9) e hlt64
        obtain ⟨m, hm⟩ : ∃ m, m = Nat.min R.length (64 - e) := ⟨_, rfl⟩
        have hmR : m ≤ R.length := by rw [hm]; exact Nat.min_le_left _ _
        have hm64 : e + m ≤ 64 := by have : m ≤ 64 - e := (by rw [hm]; exact Nat.min_le_right _ _); omega
        have hm0 : 0 < m := by rw [hm]; exact Nat.lt_min.2 ⟨hpos, by omega⟩
        have hnl : (R.take m).length = m := by rw [List.length_take]; omega
        have hcl : (b8 (R.take m)).length = m := by rw [b8_len, hnl]
        have HA1 := hide hA1
        have HM := hide hm
        have HNL := hide hnl
        have HCL := hide hcl
        clear hA1 hm hnl hcl
        go_still_tail 9, (by kernel_rfl)
        refine wpList_copy_own (by rfl) _ _ _ _ (by rfl) 5 Tryd.underlying22 (by kernel_rfl) D (off + 9 + e) (64 - e) (64 - e) ⟨B, o, none⟩ R.length cap (by rfl) (by rfl) _ T (by exact HA1.out) (b8 (R.take m)) (by rw [HCL.out]; exact HM.out) ?_ ?_ ?_ ?_
        · intro j v hj
          have hjm : j < m := by have := (List.getElem?_eq_some_iff.1 hj).1; rw [HCL.out] at this; exact this
          rw [b8_get _ j (by rw [HNL.out]; exact hjm)] at hj
          have h1 := HCE.out j (by omega)
          have h2 := Below.cell HC1.out (p := ⟨B, o + j, none⟩) hBw
          rw [cell_setRow_other w D _ _ (by simpa using hBD), h1] at h2
          rw [Addr.add_mid]
          refine Eq.trans (show _ = wr.cell? ⟨B, o + j, none⟩ from rfl) (h2.trans ?_)
          rw [← hj]
          simp [List.getD, hjm]
        · rw [HCL.out, List.size_toArray, List.length_append, dig_len _ _ _ _ (hs_len _ _) HBL.out, ← HOFF.out]
          omega
        · intro v hv
          obtain ⟨x, _, rfl⟩ := List.mem_map.1 (show v ∈ (R.take m).map (Value.int .u8) from hv)
          rfl
        have hrow := dig_splice pre (L.length : Int) (hs L k) blk ((e : Nat) : Int) (hs_len _ _) (R.take m) e m HNL.out (by rw [HBL.out]; exact hm64)
        obtain ⟨bl2, hbl2⟩ : ∃ z, z = blk.take e ++ (R.take m ++ blk.drop (e + m)) := ⟨_, rfl⟩
        rw [← hbl2, HOFF.out] at hrow
        rw [HCL.out, hrow]
        have hmore := Dm_more HDm1.out (R.take m) (rng_take HRR.out m) (by rw [HNL.out]; exact hm64)
        rw [HNL.out, ← hbl2] at hmore
        obtain ⟨U2, eU2⟩ : ∃ X, X = World.setRow { wr with drawn := wr.drawn + 1 } D (pre ++ dig (L.length : Int) (hs L k) bl2 ((e : Nat) : Int)).toArray := ⟨_, rfl⟩
        rw [← eU2]
        have hC2 : Chg w D (pre ++ dig (L.length : Int) (hs L k) bl2 ((e : Nat) : Int)) U2 := by
          rw [eU2]
          have h1 := Below.setRow HC1.out.drew D (pre ++ dig (L.length : Int) (hs L k) bl2 ((e : Nat) : Int)).toArray
          rw [setRow_setRow] at h1
          exact h1
        have hA2 := hC2.at HAT.out
        have c2 : U2.cell? ⟨D, off + 73, none⟩ = some (.int .i64 ((e : Nat) : Int)) := by rw [hA2.cell, ← HOFF.out, dig_held pre _ _ _ _ (hs_len _ _) hmore.1.1]
        have f2 := hA2.frozen (off + 73)
        have hC3 := hC2.setCell HAT.out (off + 73) (.int .i64 ((e + m : Nat) : Int))
        rw [← HOFF.out, set_held pre _ _ _ _ _ (hs_len _ _) hmore.1.1, HOFF.out] at hC3
        have hcast : ((e + m : Nat) : Int) = ((e : Nat) : Int) + (m : Int) := by omega
        have HC3 := hide hC3
        have HMORE := hide hmore
        have hsl2 := slB (some ⟨B, o, none⟩) R.length cap m hmR hcap
        have HSUM := hide (show 0 ≤ (L.length : Int) ∧ (L.length : Int) + (m : Int) < 18446744073709551616 by omega)
        rw [hcast] at HC3
        have HCAST := hide hcast
        clear hrow hbl2 hmore eU2 hC2 hA2 hC3 HC1 HDm1 ce hsl hcast HA1
        go_wp2_with ((go_at_call 67; refine (count_any _ D off T pre (L.length : Int) (hs L k) bl2 (((e : Nat) : Int) + (m : Int)) m (by exact HC3.out.at HAT.out) HOFF.out HSUM.out.1 HSUM.out.2).mono ?_; rintro e w3 ⟨rfl, h3⟩))
        go_roundw
        case rel =>
          have hl2 : ((L ++ R.take m).length : Int) = (L.length : Int) + (m : Int) := by rw [List.length_append, HNL.out]; omega
          have hd2 : (R.drop m).length = R.length - m := by rw [List.length_drop]
          refine ⟨L ++ R.take m, R.drop m, dig ((L ++ R.take m).length : Int) (hs (L ++ R.take m) k) bl2 ((e + m : Nat) : Int), ?_, ⟨k, e + m, bl2, HMORE.out.1, fun h => absurd h (by omega), rfl⟩, ?_, ?_, rng_drop HRR.out m⟩
          · rw [List.append_assoc, List.take_append_drop]
            exact HLR.out
          · rw [hl2, HMORE.out.2, HCAST.out]
            exact HC3.out.trans h3
          · by_cases hcm : cap = m
            · refine ⟨some ⟨B, o, none⟩, cap - m, by simp [hcm, hd2], by omega, fun hne => absurd ?_ hne⟩
              rw [← List.length_eq_zero_iff]
              omega
            · refine ⟨some ⟨B, o + m, none⟩, cap - m, by simp [hcm, hd2], by omega, fun _ => ⟨B, o + m, rfl, hBD, hBw, fun i hi => ?_⟩⟩
              rw [Nat.add_assoc, HCE.out (m + i) (by omega)]
              simp [List.getD, List.getElem?_drop]
        case measure => simp [lenV]; omega
end BlkI
end Go.Proofs.YtfmegeibnjmfpaaDoor
