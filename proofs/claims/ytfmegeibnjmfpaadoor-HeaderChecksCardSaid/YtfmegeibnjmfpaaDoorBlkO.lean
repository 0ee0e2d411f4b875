/-
  Which hash a text is, by package blake; and a state's Sum.
-/
import Derived.Test.YtfmegeibnjmfpaaDoorBlkL
import Derived.Stop.FmtRuneSmall
import Derived.Lib.BytesEntry
namespace Go.Proofs.YtfmegeibnjmfpaaDoor
namespace BlkO
open Go.RowKit
open BlkM BlkA BlkE BlkF BlkG BlkI BlkJ BlkK BlkL HexM

/-- What a func returns that keeps its first result in a row, its second in a slot. -/
theorem retRow2 {P : Program} {w : World} {g : Nat} {T : TypeId} {cs : List Value} (hg : At w g T cs) {fn : Func} {p u : Tmp} {ty : TypeId} (h : fn.results = #[.cell p ty, .tmp u]) (tmps : Array Value) (hp : tmps.getD p undef = .pointer (some ⟨g, 0, none⟩)) (v : Value) (hv : tmps.getD u undef = v)
    (d : TypeDesc) (n : Nat) (hu : P.underlying ty = some d) (hd : (match d with | .struct _ | .array _ _ => true | _ => false) = true) (hi : (P.info? ty).map (·.size) = some n) (hn : cs.length = n) :
    (results fn tmps).run P w = .ok (.tuple #[.agg cs.toArray, v]) w := by
  rw [results_cell_tmp h, hp, hv]
  simp only [asAddr, Sem.run_pure, Result.andThen]
  rw [run_loadVar_row w g T ty cs.toArray (0, 0) d hg hu hd (by rw [hi, ← hn]; simp)]

/-! ### The digits of a text -/
def hx (s : ByteArray) (i : Nat) : Nat := dN (s.data.toList.getD i 0)
def okS (s : ByteArray) : Prop := s.size = 64 ∧ ∀ i, i < 64 → hx s i < 16
theorem hx_at (s : ByteArray) (i : Nat) (h : i < s.size) : hx s i = dN (s[i]'h) := by
  unfold hx
  have hl : i < s.data.toList.length := by rw [Array.length_toList]; exact h
  rw [List.getD_eq_getElem?_getD, List.getElem?_eq_getElem hl]
  rfl
theorem valN (c : UInt8) : valI (c.toNat : Int) = if dN c < 16 then (dN c : Int) else -1 :=
  forall_byte (p := fun c => valI (c.toNat : Int) = if dN c < 16 then (dN c : Int) else -1) (by decide +kernel) c
theorem dN_high (c : UInt8) (h : 128 ≤ c.toNat) : ¬ dN c < 16 :=
  forall_byte (p := fun c => 128 ≤ c.toNat → ¬ dN c < 16) (by decide +kernel) c h
theorem or8 : ∀ a : Nat, a < 16 → ∀ d : Nat, d < 16 → bits .or .u8 ((a : Int) * 16) (d : Int) = (a : Int) * 16 + (d : Int) := by decide +kernel
/-- The hash, when some digits have come. -/
def rpv (s : ByteArray) (k i : Nat) : Int := if 2 * i + 2 ≤ k then ((hx s (2 * i) * 16 + hx s (2 * i + 1) : Nat) : Int) else if 2 * i + 1 ≤ k then (hx s (2 * i) : Int) else 0
def rp (s : ByteArray) (k : Nat) : List Int := (List.range 32).map (rpv s k)
theorem rp_len (s : ByteArray) (k : Nat) : (rp s k).length = 32 := by simp [rp]
theorem rp_get (s : ByteArray) (k i : Nat) (h : i < 32) : (rp s k).getD i 0 = rpv s k i := by
  simp [rp, List.getD, List.getElem?_range h]
theorem rp_zero (s : ByteArray) : rp s 0 = List.replicate 32 0 := by
  unfold rp
  have h : ∀ l : List Nat, l.map (rpv s 0) = List.replicate l.length 0 := by
    intro l
    induction l with
    | nil => rfl
    | cons i l ih =>
      have h0 : rpv s 0 i = 0 := by
        unfold rpv
        rw [if_neg (by omega), if_neg (by omega)]
      rw [List.map_cons, ih, h0]
      rfl
  rw [h, List.length_range]
theorem rp_half (s : ByteArray) (k : Nat) : rpv s k (k / 2) = if k % 2 = 0 then 0 else (hx s (k - 1) : Int) := by
  unfold rpv
  by_cases h : k % 2 = 0
  · rw [if_pos h, if_neg (by omega), if_neg (by omega)]
  · rw [if_neg h, if_neg (by omega), if_pos (by omega), show 2 * (k / 2) = k - 1 by omega]
theorem rp_step (s : ByteArray) (k : Nat) (hk : k < 64) : (rp s k).set (k / 2) (rpv s k (k / 2) * 16 + (hx s k : Int)) = rp s (k + 1) := by
  apply List.ext_getElem
  · rw [List.length_set, rp_len, rp_len]
  · intro i h1 h2
    have hi : i < 32 := by rw [rp_len] at h2; exact h2
    rw [List.getElem_set]
    have e2 : ∀ h, (rp s (k + 1))[i]'h = rpv s (k + 1) i := fun h => by simp [rp]
    refine Eq.trans ?_ (e2 h2).symm
    split
    · rename_i e
      subst e
      rw [rp_half]
      unfold rpv
      by_cases h : k % 2 = 0
      · rw [if_pos h, if_neg (by omega), if_pos (by omega), show 2 * (k / 2) = k by omega]; omega
      · rw [if_neg h, if_pos (by omega), show 2 * (k / 2) = k - 1 by omega, show k - 1 + 1 = k by omega]; omega
    · rename_i e
      have e3 : (rp s k)[i]'(by rw [rp_len]; exact hi) = rpv s k i := by simp [rp]
      rw [e3]
      unfold rpv
      by_cases h : 2 * i + 2 ≤ k
      · rw [if_pos h, if_pos (by omega)]
      · rw [if_neg h, if_neg (by omega), if_neg (by omega), if_neg (by omega)]
def rdL (s : ByteArray) : List Int := rp s 64
def zH : List Int := List.replicate 32 0
def tOk (s : ByteArray) : Value := .tuple #[.agg (b8 (rdL s)).toArray, .int .i64 0]
def tNo : Value := .tuple #[.agg (b8 zH).toArray, .int .i64 5]

def MidR (w : World) (s : ByteArray) (U : World) : Prop :=
  ∃ k : Nat, k ≤ 64 ∧ U.heap[w.heap.size + 2]? = some (.stringIter s k) ∧ At U (w.heap.size + 1) 26 (b8 (rp s k)) ∧ At U w.heap.size 26 (b8 zH) ∧ Below w.heap.size w U ∧ ∀ j, j < k → hx s j < 16
set_option maxRecDepth 10000 in
set_option maxHeartbeats 2000000 in
theorem read_any (w : World) (s : ByteArray) (v : Value) (hyes : okS s → v = tOk s) (hno : ¬ okS s → v = tNo) :
    Calls Tryd.prog 16 #[.string s] w fun e w' => e = .returned v ∧ Below w.heap.size w w' := by
  obtain ⟨W0, eW0⟩ : ∃ X, X = (w.alloc (.cells #[Value.int .u8 0, Value.int .u8 0, Value.int .u8 0, Value.int .u8 0, Value.int .u8 0, Value.int .u8 0, Value.int .u8 0, Value.int .u8 0, Value.int .u8 0, Value.int .u8 0, Value.int .u8 0, Value.int .u8 0, Value.int .u8 0, Value.int .u8 0, Value.int .u8 0, Value.int .u8 0, Value.int .u8 0, Value.int .u8 0, Value.int .u8 0, Value.int .u8 0, Value.int .u8 0, Value.int .u8 0, Value.int .u8 0, Value.int .u8 0, Value.int .u8 0, Value.int .u8 0, Value.int .u8 0, Value.int .u8 0, Value.int .u8 0, Value.int .u8 0, Value.int .u8 0, Value.int .u8 0] 26)).alloc (.cells #[Value.int .u8 0, Value.int .u8 0, Value.int .u8 0, Value.int .u8 0, Value.int .u8 0, Value.int .u8 0, Value.int .u8 0, Value.int .u8 0, Value.int .u8 0, Value.int .u8 0, Value.int .u8 0, Value.int .u8 0, Value.int .u8 0, Value.int .u8 0, Value.int .u8 0, Value.int .u8 0, Value.int .u8 0, Value.int .u8 0, Value.int .u8 0, Value.int .u8 0, Value.int .u8 0, Value.int .u8 0, Value.int .u8 0, Value.int .u8 0, Value.int .u8 0, Value.int .u8 0, Value.int .u8 0, Value.int .u8 0, Value.int .u8 0, Value.int .u8 0, Value.int .u8 0, Value.int .u8 0] 26) := ⟨_, rfl⟩
  have hR0 : At W0 w.heap.size 26 (b8 zH) := by rw [eW0]; exact At.alloc (At.new w 26 (b8 zH)) _
  have hH0 : At W0 (w.heap.size + 1) 26 (b8 zH) := by
    rw [eW0]
    have := At.new (w.alloc (.cells #[Value.int .u8 0, Value.int .u8 0, Value.int .u8 0, Value.int .u8 0, Value.int .u8 0, Value.int .u8 0, Value.int .u8 0, Value.int .u8 0, Value.int .u8 0, Value.int .u8 0, Value.int .u8 0, Value.int .u8 0, Value.int .u8 0, Value.int .u8 0, Value.int .u8 0, Value.int .u8 0, Value.int .u8 0, Value.int .u8 0, Value.int .u8 0, Value.int .u8 0, Value.int .u8 0, Value.int .u8 0, Value.int .u8 0, Value.int .u8 0, Value.int .u8 0, Value.int .u8 0, Value.int .u8 0, Value.int .u8 0, Value.int .u8 0, Value.int .u8 0, Value.int .u8 0, Value.int .u8 0] 26)) 26 (b8 zH)
    rw [World.size_alloc] at this
    exact this
  have hB0 : Below w.heap.size w W0 := by rw [eW0]; exact (by repeat (first | assumption | exact Below.refl _ _ | refine Below.setCell ?_ (by first | omega | (simp; done) | (simp; omega)) _ | refine below_drewN ?_ _ | refine Below.drew ?_ | refine Below.alloc ?_ (by first | omega | (simp; done) | (simp; omega)) _ | refine Below.trans ?_ (Below.mono (by assumption) (by first | omega | (simp; done) | (simp; omega)))))
  have hs0 : W0.heap.size = w.heap.size + 2 := by rw [eW0]; simp
  have E0 := hide eW0
  have HR0 := hide hR0
  have HH0 := hide hH0
  have HB0 := hide hB0
  have HS0 := hide hs0
  have HYES := hide hyes
  have HNO := hide hno
  clear eW0 hR0 hH0 hB0 hs0 hyes hno
  by_cases hs : s.size = 64
  · have t0 : ((s.size : Int) != 64) = false := by simp; omega
    have hst : MidR w s (W0.alloc (.stringIter s 0)) := by
      refine ⟨0, by omega, ?_, ?_, HR0.out.alloc _, HB0.out.alloc (by have := HS0.out; omega) _, fun j hj => by omega⟩
      · have h := heapNew W0 (.stringIter s 0)
        rw [HS0.out] at h
        exact h
      · rw [rp_zero]; exact HH0.out.alloc _
    have HST := hide hst
    have HSZ := hide hs
    clear hst hs
    go_enter Tryd.func16, Tryd.ntmps16
    go_upto_region 4 with (fail)
    rw [← E0.out]
    have hs0 := HS0.out
    go_wp2_with fail
    clear hs0
    go_loopw [] (fun wr => MidR w s wr) (fun wr => 64 - wr.iterPos (w.heap.size + 2))
    case atStart => exact HST.out
    case round =>
      obtain ⟨k, hk, hit, hm, hr, hB, hpre⟩ := hrel
      by_cases hlt : k < 64
      · have hks : k < s.size := by have := HSZ.out; omega
        by_cases hd : dN (s[k]'hks) < 16
        · have ha : (s[k]'hks).toNat < 128 := by
            rcases Nat.lt_or_ge (s[k]'hks).toNat 128 with h | h
            · exact h
            · exact absurd hd (dN_high _ h)
          have hnx := fun ty => next_at (P := Tryd.prog) wr _ s k ty hit hks ha
          have hvl := valN (s[k]'hks)
          rw [if_pos hd] at hvl
          have hxk := hx_at s k hks
          obtain ⟨d, hde⟩ : ∃ d, dN (s[k]'hks) = d := ⟨_, rfl⟩
          rw [hde] at hvl hd hxk
          obtain ⟨c, hc⟩ : ∃ c : Nat, (s[k]'hks).toNat = c := ⟨_, rfl⟩
          rw [hc] at ha hvl hnx
          obtain ⟨i, hi, hki⟩ : ∃ i, i < 32 ∧ k / 2 = i := ⟨k / 2, by omega, rfl⟩
          obtain ⟨a, ha16, hav⟩ : ∃ a : Nat, a < 16 ∧ rpv s k i = (a : Int) := by
            rw [← hki, rp_half]
            by_cases h : k % 2 = 0
            · rw [if_pos h]; exact ⟨0, by omega, rfl⟩
            · rw [if_neg h]; exact ⟨_, hpre (k - 1) (by omega), rfl⟩
          obtain ⟨W1, hW1⟩ : ∃ W1, W1 = setIter wr (w.heap.size + 2) s (k + 1) := ⟨_, rfl⟩
          rw [← hW1] at hnx
          have hit1 : W1.heap[w.heap.size + 2]? = some (.stringIter s (k + 1)) := by rw [hW1]; exact setIter_same _ _ _ _ _ hit
          have hm1 : At W1 (w.heap.size + 1) 26 (b8 (rp s k)) := by rw [hW1]; exact at_iter hm _ _ _ (by omega)
          have hr1 : At W1 w.heap.size 26 (b8 zH) := by rw [hW1]; exact at_iter hr _ _ _ (by omega)
          have hB1 : Below w.heap.size w W1 := by rw [hW1]; exact below_setIter hB (by omega) _ _
          have ci := hm1.cell i
          rw [b8_get _ i (by rw [rp_len]; exact hi), rp_get s k i hi, hav] at ci
          have fi := hm1.frozen i
          have q1 : (k : Int) / 2 = (i : Int) := by omega
          have q2 : (k : Int).tdiv 2 = (i : Int) := by rw [Int.tdiv_eq_ediv_of_nonneg (by omega)]; exact q1
          have g1 : (a : Int) * 16 % 256 = (a : Int) * 16 := by omega
          have g2 : (d : Int) % 256 = (d : Int) := by omega
          have g3 := or8 a ha16 d hd
          have hi2 : (i : Int) < 32 := by omega
          have hstp := rp_step s k hlt
          rw [hki, hav, hxk] at hstp
          have HSTP := hide hstp
          have HIT := hide hit
          have HIT1 := hide hit1
          have HM1 := hide hm1
          have HR1 := hide hr1
          have HB1 := hide hB1
          have HPRE := hide (show ∀ j, j < k + 1 → hx s j < 16 from fun j hj => by
            by_cases h : j = k
            · subst h; omega
            · exact hpre j (by omega))
          have HCV := hide hvl
          have HA := hide ha
          clear hit hm hr hB hpre hW1 hit1 hm1 hr1 hB1 hstp hvl hxk hde hc hav hki
          go_wp2_with ((go_at_call 46; refine (value_any _ _ (by omega) (by have := HA.out; omega)).mono ?_; rintro e w1 ⟨rfl, rfl⟩; rw [HCV.out]))
          have e0 := iterPos_at _ _ _ _ HIT.out
          go_roundw
          case rel =>
            refine ⟨k + 1, by omega, (heap_setCell_other _ _ _ _ (by simp)).trans HIT1.out, ?_, HR1.out.setCell_other (by omega) _ _, Below.setCell HB1.out (by simp) _, HPRE.out⟩
            rw [← HSTP.out, ← b8_set]
            exact HM1.out.setCell i _
          case measure =>
            have e1 := iterPos_at _ _ _ _ ((heap_setCell_other W1 ⟨w.heap.size + 1, i, none⟩ (w.heap.size + 2) (.int .u8 ((a : Int) * 16 + (d : Int))) (by simp)).trans HIT1.out)
            rw [e0, e1]
            omega
        · obtain ⟨r, pos', hnx, hr0, hr1x, hvl⟩ : ∃ (r : Nat) (pos' : Nat), (∀ ty, (Instr.next (.pointer (some ⟨w.heap.size + 2, 0, none⟩)) true ty).run Tryd.prog wr = .ok (.tuple #[.bool true, .int .i64 k, .int .i32 r]) (setIter wr (w.heap.size + 2) s pos')) ∧ 0 ≤ (r : Int) ∧ (r : Int) ≤ 1114111 ∧ valI (r : Int) = -1 := by
            by_cases ha : (s[k]'hks).toNat < 128
            · refine ⟨(s[k]'hks).toNat, k + 1, fun ty => next_at (P := Tryd.prog) wr _ s k ty hit hks ha, by omega, by omega, ?_⟩
              rw [valN, if_neg hd]
            · refine ⟨(Utf8.decode s k).1, k + (Utf8.decode s k).2, fun ty => next_any_at (P := Tryd.prog) wr _ s k ty hit hks, by omega, by have := decode_max s k; omega, ?_⟩
              have := (decode_high s k hks (by omega)).1
              unfold valI
              rw [if_neg (by omega), if_neg (by omega)]
          obtain ⟨W1, hW1⟩ : ∃ W1, W1 = setIter wr (w.heap.size + 2) s pos' := ⟨_, rfl⟩
          rw [← hW1] at hnx
          have hr1 : At W1 w.heap.size 26 (b8 zH) := by rw [hW1]; exact at_iter hr _ _ _ (by omega)
          have hB1 : Below w.heap.size w W1 := by rw [hW1]; exact below_setIter hB (by omega) _ _
          have hnok : ¬ okS s := fun h => hd (by rw [← hx_at s k hks]; exact h.2 k hlt)
          have HR1 := hide hr1
          have HR2 := hide (hr1.put (b8 zH))
          have HB2 := hide (Below.setRowOwn hB1 (Nat.le_refl w.heap.size) (b8 zH).toArray)
          have HCV := hide hvl
          have HV := hide (HNO.out hnok)
          clear hit hm hr hB hpre hW1 hr1 hB1 hvl hd hnok
          go_upto_region 9 with ((go_at_call 46; refine (value_any _ _ hr0 hr1x).mono ?_; rintro e w1 ⟨rfl, rfl⟩; rw [HCV.out]))
          refine wp_region_lit ?_
          refine stepVal (v := .agg (b8 zH).toArray) (w' := W1) (by rfl) (by kernel_rfl) ?_
          refine stepStore (by rfl) _ _ _ (by rfl) _ _ (by rfl) (by rfl) HR1.out 32 (by kernel_rfl) (by rw [b8_len]; rfl) (by rw [b8_len]; rfl) (oneCells_b8 _) ?_
          go_wp2_with fail
          exact bodyPost_ret (retRow2 HR2.out Tryd.results16 _ (by rfl) (.int .i64 5) (by rfl) _ 32 Tryd.underlying26 rfl (by kernel_rfl) (by rw [b8_len]; rfl)) rfl ⟨by rw [HV.out]; rfl, HB2.out⟩
      · obtain rfl : k = 64 := by omega
        have hnx := fun ty => next_end_at (P := Tryd.prog) wr _ s 64 ty hit (by have := HSZ.out; omega)
        have HM := hide hm
        have HR := hide hr
        have HR2 := hide (hr.put (b8 (rdL s)))
        have HB2 := hide (Below.setRowOwn hB (Nat.le_refl w.heap.size) (b8 (rdL s)).toArray)
        have HV := hide (HYES.out ⟨HSZ.out, hpre⟩)
        clear hit hm hr hB hpre
        go_upto_region 11 with (fail)
        refine wp_region_lit ?_
        refine stepLoad (by rfl) _ _ (by rfl) _ (by rfl) (show At wr (w.heap.size + 1) 26 (b8 (rdL s)) from HM.out) _ 32 Tryd.underlying26 rfl (by kernel_rfl) (by rw [b8_len]; exact rp_len s 64) ?_
        refine stepStore (by rfl) _ _ _ (by rfl) _ _ (by rfl) (by rfl) HR.out 32 (by kernel_rfl) (by rw [b8_len]; rfl) (by rw [b8_len]; exact rp_len s 64) (oneCells_b8 _) ?_
        go_wp2_with fail
        exact bodyPost_ret (retRow2 HR2.out Tryd.results16 _ (by rfl) (.int .i64 0) (by rfl) _ 32 Tryd.underlying26 rfl (by kernel_rfl) (by rw [b8_len]; exact rp_len s 64)) rfl ⟨by rw [HV.out]; rfl, HB2.out⟩
  · have t0 : ((s.size : Int) != 64) = true := by simp; omega
    have HV := hide (HNO.out (fun h => hs h.1))
    have HR2 := hide (HR0.out.put (b8 zH))
    have HB2 := hide (Below.setRowOwn HB0.out (Nat.le_refl w.heap.size) (b8 zH).toArray)
    clear hs
    go_enter Tryd.func16, Tryd.ntmps16
    go_upto_region 3 with (fail)
    rw [← E0.out]
    refine wp_region_lit ?_
    refine stepVal (v := .agg (b8 zH).toArray) (w' := W0) (by rfl) (by kernel_rfl) ?_
    refine stepStore (by rfl) _ _ _ (by rfl) _ _ (by rfl) (by rfl) HR0.out 32 (by kernel_rfl) (by rw [b8_len]; rfl) (by rw [b8_len]; rfl) (oneCells_b8 _) ?_
    go_wp2_with fail
    exact bodyPost_ret (retRow2 HR2.out Tryd.results16 _ (by rfl) (.int .i64 5) (by rfl) _ 32 Tryd.underlying26 rfl (by kernel_rfl) (by rw [b8_len]; rfl)) rfl ⟨by rw [HV.out]; rfl, HB2.out⟩

/-! ### A state's Sum -/
set_option maxRecDepth 10000 in
set_option maxHeartbeats 1000000 in
theorem ssum_any (w : World) (S : Nat) (l : List Int) (h : St w S l) (hg : Glob w) :
    Calls Tryd.prog 22 #[.pointer (some ⟨S, 0, none⟩)] w fun e w' => e = .returned (.tuple #[.agg (b8 (sumL l)).toArray, .int .i64 0]) ∧ Below w.heap.size w w' := by
  obtain ⟨W0, eW0⟩ : ∃ X, X = w.alloc (.cells #[Value.int .u8 0, Value.int .u8 0, Value.int .u8 0, Value.int .u8 0, Value.int .u8 0, Value.int .u8 0, Value.int .u8 0, Value.int .u8 0, Value.int .u8 0, Value.int .u8 0, Value.int .u8 0, Value.int .u8 0, Value.int .u8 0, Value.int .u8 0, Value.int .u8 0, Value.int .u8 0, Value.int .u8 0, Value.int .u8 0, Value.int .u8 0, Value.int .u8 0, Value.int .u8 0, Value.int .u8 0, Value.int .u8 0, Value.int .u8 0, Value.int .u8 0, Value.int .u8 0, Value.int .u8 0, Value.int .u8 0, Value.int .u8 0, Value.int .u8 0, Value.int .u8 0, Value.int .u8 0] 26) := ⟨_, rfl⟩
  have hB0 : Below w.heap.size w W0 := by rw [eW0]; exact (by repeat (first | assumption | exact Below.refl _ _ | refine Below.setCell ?_ (by first | omega | (simp; done) | (simp; omega)) _ | refine below_drewN ?_ _ | refine Below.drew ?_ | refine Below.alloc ?_ (by first | omega | (simp; done) | (simp; omega)) _ | refine Below.trans ?_ (Below.mono (by assumption) (by first | omega | (simp; done) | (simp; omega)))))
  have hz0 : At W0 w.heap.size 26 (b8 zH) := by rw [eW0]; exact At.new w 26 (b8 zH)
  have HV := hide (valid_yes W0 S l (h.below hB0 h.lt))
  obtain ⟨h0, c, hDg, hA⟩ := h
  have hA0 := hA.below hB0 hA.lt
  have hrg : W0.rangeAt S 1 c := fun j v hj => by
    rw [hA0.cell, Nat.add_comm 1 j]
    exact hj
  have E0 := hide eW0
  have HB0 := hide hB0
  have HZ0 := hide hz0
  have HRG := hide hrg
  have HG0 := hide (hg.below hB0 hg.1)
  have HSUM := hide (sum_any W0 l c hDg (hg.below hB0 hg.1))
  have HCL := hide (c_len hDg)
  clear eW0 hB0 hz0 hA hA0 hrg hDg hg
  go_enter Tryd.func22, Tryd.ntmps22
  go_upto_region 1 with (fail)
  rw [← E0.out]
  go_upto_region 3 with ((go_at_call 49; refine HV.out.mono ?_; rintro e w1 ⟨rfl, rfl⟩))
  refine wp_region_lit ?_
  refine stepVal (v := .pointer (some ⟨S, 0, none⟩)) (w' := W0) (by rfl) (by kernel_rfl) ?_
  refine stepVal (v := .pointer (some ⟨S, 0, none⟩)) (w' := W0) (by rfl) (by kernel_rfl) ?_
  refine stepVal (v := .pointer (some ⟨S, 1, none⟩)) (w' := W0) (by rfl) (by kernel_rfl) ?_
  refine wpList_load_mid (by rfl) _ _ (by rfl) S 1 (by rfl) c _ HRG.out Tryd.underlying44 (by rfl) (by rw [HCL.out]; kernel_rfl) ?_
  refine stepCall (by rfl) (by kernel_rfl) HSUM.out ?_
  intro w4 hb4
  have hz4 := HZ0.out.below hb4 HZ0.out.lt
  have hB4 : Below w.heap.size w w4 := HB0.out.trans (hb4.mono HB0.out.size)
  refine stepStore (by rfl) _ _ _ (by rfl) _ (b8 (sumL l)) (by rfl) (by rfl) hz4 32 (by kernel_rfl) (by rw [b8_len]; rfl) (by rw [b8_len, sumL_len]) (oneCells_b8 _) ?_
  have HZ5 := hide (hz4.put (b8 (sumL l)))
  have HB5 := hide (Below.setRowOwn hB4 (Nat.le_refl w.heap.size) (b8 (sumL l)).toArray)
  clear hz4 hB4 hb4
  go_wp2_with fail
  exact bodyPost_ret (retRow2 HZ5.out Tryd.results22 _ (by rfl) (.int .i64 0) (by rfl) _ 32 Tryd.underlying26 rfl (by kernel_rfl) (by rw [b8_len, sumL_len])) rfl ⟨rfl, HB5.out⟩
theorem NoSt.below {w w' : World} {p : Option Addr} {B : Nat} (h : NoSt w p) (hb : Below B w w') (hp : ∀ S, p = some ⟨S, 0, none⟩ → S < B) : NoSt w' p := by
  rcases h with h | ⟨S, h, hc⟩
  · exact .inl h
  · exact .inr ⟨S, h, (hb.cell (p := ⟨S, 0, none⟩) (hp S h)).trans hc⟩
set_option maxRecDepth 10000 in
set_option maxHeartbeats 1000000 in
theorem ssum_none (w : World) (p : Option Addr) (h : NoSt w p) (hp : ∀ S, p = some ⟨S, 0, none⟩ → S < w.heap.size) :
    Calls Tryd.prog 22 #[.pointer p] w fun e w' => e = .returned (.tuple #[.agg (b8 zH).toArray, .int .i64 1]) ∧ Below w.heap.size w w' := by
  obtain ⟨W0, eW0⟩ : ∃ X, X = w.alloc (.cells #[Value.int .u8 0, Value.int .u8 0, Value.int .u8 0, Value.int .u8 0, Value.int .u8 0, Value.int .u8 0, Value.int .u8 0, Value.int .u8 0, Value.int .u8 0, Value.int .u8 0, Value.int .u8 0, Value.int .u8 0, Value.int .u8 0, Value.int .u8 0, Value.int .u8 0, Value.int .u8 0, Value.int .u8 0, Value.int .u8 0, Value.int .u8 0, Value.int .u8 0, Value.int .u8 0, Value.int .u8 0, Value.int .u8 0, Value.int .u8 0, Value.int .u8 0, Value.int .u8 0, Value.int .u8 0, Value.int .u8 0, Value.int .u8 0, Value.int .u8 0, Value.int .u8 0, Value.int .u8 0] 26) := ⟨_, rfl⟩
  have hB0 : Below w.heap.size w W0 := by rw [eW0]; exact (by repeat (first | assumption | exact Below.refl _ _ | refine Below.setCell ?_ (by first | omega | (simp; done) | (simp; omega)) _ | refine below_drewN ?_ _ | refine Below.drew ?_ | refine Below.alloc ?_ (by first | omega | (simp; done) | (simp; omega)) _ | refine Below.trans ?_ (Below.mono (by assumption) (by first | omega | (simp; done) | (simp; omega)))))
  have hz0 : At W0 w.heap.size 26 (b8 zH) := by rw [eW0]; exact At.new w 26 (b8 zH)
  have HV := hide (valid_none W0 p (NoSt.below h hB0 hp))
  have E0 := hide eW0
  have HZ0 := hide hz0
  have HZ5 := hide (hz0.put (b8 zH))
  have HB5 := hide (Below.setRowOwn hB0 (Nat.le_refl w.heap.size) (b8 zH).toArray)
  clear eW0 hB0 hz0 h hp
  go_enter Tryd.func22, Tryd.ntmps22
  go_upto_region 1 with (fail)
  rw [← E0.out]
  go_upto_region 2 with ((go_at_call 49; refine HV.out.mono ?_; rintro e w1 ⟨rfl, rfl⟩))
  refine wp_region_lit ?_
  refine stepVal (v := .agg (b8 zH).toArray) (w' := W0) (by rfl) (by kernel_rfl) ?_
  refine stepStore (by rfl) _ _ _ (by rfl) _ _ (by rfl) (by rfl) HZ0.out 32 (by kernel_rfl) (by rw [b8_len]; rfl) (by rw [b8_len]; rfl) (oneCells_b8 _) ?_
  go_wp2_with fail
  exact bodyPost_ret (retRow2 HZ5.out Tryd.results22 _ (by rfl) (.int .i64 1) (by rfl) _ 32 Tryd.underlying26 rfl (by kernel_rfl) (by rw [b8_len]; rfl)) rfl ⟨rfl, HB5.out⟩
end BlkO
end Go.Proofs.YtfmegeibnjmfpaaDoor
