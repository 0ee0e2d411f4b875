/-
  Lists of keys; the kit's SameKeys; commit.Who; the statements' keys.
-/
import Derived.Test.YtplinpbmncccoaaCmQ
import Derived.Test.YtplinpbmncccoaaValA
namespace Go.Proofs.Ytplinpbmncccoaa
namespace CmS
open Go.RowKit
open BlkM WirM WirS CmA CmP CmI CmJ
open CmB (TV TC ccl ccl_len ccl_33 drop_get)
open WirX (Thg Bag)
open WirAA (box bag_box)
open WirAB (sCx)
open ValA (Vd VIn)

abbrev TK : TypeId := 101
abbrev TKE : TypeId := 36
def kcells (ks : List (List Int)) : List Value := ks.flatMap b8
theorem kcells_len : ∀ ks : List (List Int), (∀ k ∈ ks, k.length = 4) → (kcells ks).length = ks.length * 4
  | [], _ => rfl
  | x :: l, h => by
    have : kcells (x :: l) = b8 x ++ kcells l := by simp [kcells]
    rw [this, List.length_append, kcells_len l (fun k hk => h k (by simp [hk])), b8_len, h x (by simp), List.length_cons]
    omega
theorem kcells_app (a b : List (List Int)) : kcells (a ++ b) = kcells a ++ kcells b := by simp [kcells]
theorem kcells_get : ∀ (ks : List (List Int)) (_ : ∀ k ∈ ks, k.length = 4) (i : Nat) (x : List Int), ks[i]? = some x → ∀ j v, (b8 x)[j]? = some v → (kcells ks)[i * 4 + j]? = some v
  | [], _, i, x, h => by simp at h
  | y :: l, hk, 0, x, h => fun j v hj => by
    have e : kcells (y :: l) = b8 y ++ kcells l := by simp [kcells]
    simp at h
    subst h
    rw [e, Nat.zero_mul, Nat.zero_add, List.getElem?_append_left (List.getElem?_eq_some_iff.1 hj).1]
    exact hj
  | y :: l, hk, i + 1, x, h => fun j v hj => by
    have e : kcells (y :: l) = b8 y ++ kcells l := by simp [kcells]
    have h' : l[i]? = some x := by simpa using h
    have hy : (b8 y).length = 4 := by rw [b8_len]; exact hk y (by simp)
    rw [e, List.getElem?_append_right (by rw [hy]; omega), hy, show (i + 1) * 4 + j - 4 = i * 4 + j by omega]
    exact kcells_get l (fun k h => hk k (by simp [h])) i x h' j v hj
/-- A list of keys, as it lies. -/
structure KIn (w : World) (a : Option Addr) (n c : Nat) (ks : List (List Int)) : Prop where
  len : ks.length = n
  cap : n ≤ c
  small : c ≤ 9223372036854775807
  row : 0 < n → ∃ B o, a = some ⟨B, o, none⟩ ∧ B < w.heap.size ∧ ∀ (i : Nat) (x : List Int), ks[i]? = some x → w.rangeAt B (o + i * 4) (b8 x)
  four : ∀ k ∈ ks, k.length = 4
theorem KIn.below {w w' : World} {a : Option Addr} {n c : Nat} {ks : List (List Int)} (h : KIn w a n c ks) (hb : Below w.heap.size w w') : KIn w' a n c ks := by
  refine ⟨h.len, h.cap, h.small, fun hp => ?_, h.four⟩
  obtain ⟨B, o, e, hB, hr⟩ := h.row hp
  exact ⟨B, o, e, Nat.lt_of_lt_of_le hB hb.size, fun i x hx j v hj => (hb.cell (p := ⟨B, _, none⟩) hB).trans (hr i x hx j v hj)⟩
/-- Keys in memory of their own. -/
structure OwnK (w : World) (v : Value) (ks : List (List Int)) : Prop where
  own : w.ownsRow 0 TKE 4 v ks.length (kcells ks)
  four : ∀ k ∈ ks, k.length = 4
theorem OwnK.nil (w : World) : OwnK w (.slice none 0 0) [] := ⟨World.ownsRow_nil w 0 _ 4, fun _ h => by cases h⟩
theorem OwnK.lt {w : World} {v : Value} {ks : List (List Int)} (h : OwnK w v ks) : ∀ k, v.ownBlock = some k → k < w.heap.size := fun k hk => (World.ownsRow.lt h.own k hk).2
theorem OwnK.fr {X : Nat → Prop} {w w' : World} {v : Value} {ks : List (List Int)} (h : OwnK w v ks) (hf : Fr X w w') (ho : Off X v) : OwnK w' v ks := by
  have hlt := h.lt
  obtain ⟨⟨hl, ⟨rfl, h0⟩ | ⟨g, cap, cur, rfl, hb, hg, hr⟩⟩, hok⟩ := h
  · exact ⟨⟨hl, .inl ⟨rfl, h0⟩⟩, hok⟩
  · exact ⟨⟨hl, .inr ⟨g, cap, cur, rfl, hb, (hf.block g (hlt g rfl) (ho g rfl)).trans hg, hr⟩⟩, hok⟩
theorem OwnK.below {w w' : World} {v : Value} {ks : List (List Int)} (h : OwnK w v ks) (hb : Below w.heap.size w w') : OwnK w' v ks := h.fr (X := fun _ => False) (Fr.of_below hb) (fun _ _ h => h)
theorem OwnK.len_of {w : World} {v : Value} {ks : List (List Int)} (h : OwnK w v ks) : ∃ a cap, v = .slice a ks.length cap := by
  obtain ⟨⟨_, ⟨rfl, h0⟩ | ⟨g, cap, cur, rfl, _⟩⟩, _⟩ := h
  · exact ⟨none, 0, by rw [h0]⟩
  · exact ⟨_, _, rfl⟩
theorem OwnK.kin {w : World} {a : Option Addr} {n c : Nat} {ks : List (List Int)} (h : OwnK w (.slice a n c) ks) : KIn w a n c ks := by
  have hlt := h.lt
  have hc := fun g => World.ownsRow.cells (w := w) (base := 0) (e := TKE) (size := 4) (v := .slice a n c) (n := ks.length) (xs := kcells ks) h.own (g := g)
  obtain ⟨⟨hl, ⟨e, h0⟩ | ⟨g, cap, cur, e, hb, hg, h1, h2, h3, h4⟩⟩, hok⟩ := h
  · cases e
    obtain rfl : ks = [] := List.eq_nil_of_length_eq_zero h0
    exact ⟨rfl, Nat.le_refl _, by decide, fun h => absurd h (by decide), hok⟩
  · cases e
    refine ⟨rfl, h1, by unfold maxLen at h2; omega, fun hp => ⟨g, 0, rfl, hlt g rfl, fun i x hx j v hj => ?_⟩, hok⟩
    have h5 := kcells_get ks hok i x hx j v hj
    have h6 := hc g rfl _ _ h5
    rw [Addr.add_mid] at h6
    rw [show 0 + i * 4 + j = 0 + (i * 4 + j) by omega]
    exact h6
theorem app_key (w : World) (ty : TypeId) (v : Value) (olds : List (List Int)) (k : List Int) (hk : k.length = 4) (V : Nat) (hO : OwnK w v olds) (hV : At w V TKE (b8 k)) (hlen : olds.length ≤ 1000) :
    ∃ v' w', (Builtin.append_ #[TK, TK] ty #[v, .slice (some ⟨V, 0, none⟩) 1 1]).run Try.prog w = .ok v' w' ∧ OwnK w' v' (olds ++ [k]) ∧ Fr (fun k => v.ownBlock = some k) w w' ∧ NewOr w v v' := by
  obtain ⟨i0, hi, hz0, hz1, hz2⟩ := info_parts (show (Try.prog.info? TKE).map (fun i => (i.zero, i.size, i.bytes)) = some (some (.agg #[.int .u8 0, .int .u8 0, .int .u8 0, .int .u8 0]), 4, 4) by kernel_rfl)
  have hx : Src Try.prog 4 TK (.slice (some ⟨V, 0, none⟩) 1 1) 1 (b8 k) w := Src.ofSlice w Try.underlying101 ⟨V, 0, none⟩ 1 1 (b8 k) (by rw [b8_len, hk]) (fun j u hj => by rw [Addr.add_mid, Nat.zero_add, hV.cell]; exact hj) (fun u hu => one_b8 k u hu)
  obtain ⟨v', w', h1, h2, h3, h4⟩ := CmA.app_row (P := Try.prog) w TK TK ty TKE i0 _ Try.underlying101 hi hz0 4 hz1 (by omega) rfl v _ olds.length 1 (kcells olds) (b8 k) hO.own hx (by omega)
  refine ⟨v', w', h1, ⟨?_, fun y hy => ?_⟩, h3, h4⟩
  · rw [List.length_append, kcells_app, show kcells [k] = b8 k by simp [kcells]]
    exact h2
  · rcases List.mem_append.1 hy with hy | hy
    · exact hO.four y hy
    · rw [List.mem_singleton.1 hy]
      exact hk
theorem list4 (k : List Int) (h : k.length = 4) : ∃ a b c d, k = [a, b, c, d] := by
  obtain _ | ⟨a, _ | ⟨b, _ | ⟨c, _ | ⟨d, _ | ⟨e, l⟩⟩⟩⟩⟩ := k
  · simp at h
  · simp at h
  · simp at h
  · simp at h
  · exact ⟨a, b, c, d, rfl⟩
  · simp at h
def MidS (w : World) (n : Nat) (s i : Value) (U : World) : Prop := ∃ k : Nat, k ≤ n ∧ s = .bool true ∧ i = .int .i64 (k : Int) ∧ Below w.heap.size w U
set_option maxRecDepth 10000 in
set_option maxHeartbeats 2000000 in
theorem sk_any (w : World) (a b : Option Addr) (n c d : Nat) (ks : List (List Int)) (h : KIn w a n c ks) (h' : KIn w b n d ks) :
    Calls Try.prog 71 #[.slice a n c, .slice b n d] w fun e w' => e = .returned (.bool true) ∧ Below w.heap.size w w' := by
  have hns : n ≤ 9223372036854775807 := Nat.le_trans h.cap h.small
  have H := WirS.hide h
  have H' := WirS.hide h'
  clear h h'
  go_enter Try.func71, Try.ntmps71
  go_wp2_with fail
  go_loopw [5, 6] (fun s i wr => MidS w n s i wr) (fun _ i _ => n - (intOf i).toNat)
  case atStart => exact ⟨0, Nat.zero_le _, by simp, rfl, Below.refl _ _⟩
  case round =>
    obtain ⟨k, hk, rfl, rfl, hB⟩ := hrel
    by_cases hlt : k < n
    · obtain ⟨B, o, rfl, hBl, hr⟩ := (H.out.below hB).row (by omega)
      obtain ⟨B', o', rfl, hBl', hr'⟩ := (H'.out.below hB).row (by omega)
      obtain ⟨x, hx⟩ : ∃ x, ks[k]? = some x := ⟨_, List.getElem?_eq_getElem (by rw [H.out.len]; exact hlt)⟩
      obtain ⟨x0, x1, x2, x3, rfl⟩ := list4 x (H.out.four x (List.mem_of_getElem? hx))
      have r0 : wr.cell? ⟨B, o + k * 4, none⟩ = some (.int .u8 x0) := hr k _ hx 0 _ rfl
      have r1 : wr.cell? ⟨B, o + k * 4 + 1, none⟩ = some (.int .u8 x1) := hr k _ hx 1 _ rfl
      have r2 : wr.cell? ⟨B, o + k * 4 + 2, none⟩ = some (.int .u8 x2) := hr k _ hx 2 _ rfl
      have r3 : wr.cell? ⟨B, o + k * 4 + 3, none⟩ = some (.int .u8 x3) := hr k _ hx 3 _ rfl
      have s0 : wr.cell? ⟨B', o' + k * 4, none⟩ = some (.int .u8 x0) := hr' k _ hx 0 _ rfl
      have s1 : wr.cell? ⟨B', o' + k * 4 + 1, none⟩ = some (.int .u8 x1) := hr' k _ hx 1 _ rfl
      have s2 : wr.cell? ⟨B', o' + k * 4 + 2, none⟩ = some (.int .u8 x2) := hr' k _ hx 2 _ rfl
      have s3 : wr.cell? ⟨B', o' + k * 4 + 3, none⟩ = some (.int .u8 x3) := hr' k _ hx 3 _ rfl
      have hkl : (k : Int) < (n : Int) := by omega
      have HB := WirS.hide hB
      have hq : ∀ W, (binOp .eql TKE (.agg #[.int .u8 x0, .int .u8 x1, .int .u8 x2, .int .u8 x3]) (.agg #[.int .u8 x0, .int .u8 x1, .int .u8 x2, .int .u8 x3])).run Try.prog W = .ok (.bool true) W := fun W => by
        have h := WirBE.eqKg [x0, x1, x2, x3] [x0, x1, x2, x3] rfl rfl W
        rw [decide_eq_true rfl] at h
        exact h
      clear hr hx hB hr'
      go_upto_region 5 with fail
      go_quiet (fail)
      go_wp2_with fail
      go_roundw
      case rel => exact ⟨k + 1, by omega, rfl, by go_num, by first | exact below_drewN (below_drewN HB.out _) _ | exact below_drewN HB.out _⟩
      case measure => simp [intOf]; omega
    · have HB := WirS.hide hB
      clear hB
      go_wp2_with fail
      go_ret
      exact ⟨rfl, HB.out⟩
/-- Whose keys voted. -/
def keyAt (ls : List Vd) (v : Vt) : List Int := ((ls[v.at'.toNat]?).map Vd.key).getD [0, 0, 0, 0]
theorem keyAt_len (ls : List Vd) (v : Vt) : (keyAt ls v).length = 4 := by
  unfold keyAt
  cases ls[v.at'.toNat]? <;> rfl
def far (m : Nat) (vs : List Vt) : Bool := vs.any fun v => decide ((m : Int) ≤ v.at')
def whoE (ht : Int) (vs : List Vt) (m : Nat) : Int := if chk ht vs ≠ 0 then chk ht vs else if far m vs = true then 3 else 0
def whoL (ht : Int) (vs : List Vt) (ls : List Vd) : List (List Int) := if whoE ht vs ls.length = 0 then vs.map (keyAt ls) else []
def WP (w : World) (cd : Int) (ks : List (List Int)) (e : Ending) (w' : World) : Prop := ∃ a n c, e = .returned (.tuple #[.slice a n c, .int .i64 cd]) ∧ OwnK w' (.slice a n c) ks ∧ NewB w (.slice a n c) ∧ Below w.heap.size w w'
theorem wp_none {w w' : World} {cd : Int} {e : Ending} (he : e = .returned (.tuple #[.slice none 0 0, .int .i64 cd])) (hb : Below w.heap.size w w') : WP w cd [] e w' := ⟨none, 0, 0, he, OwnK.nil w', fun k hk => by simp [Value.ownBlock] at hk, hb⟩
theorem ixV (B o m d q : Nat) (hq : q < m) (W : World) : (Instr.indexAt 80 (.slice (some ⟨B, o, none⟩) m d) (.int .i64 (q : Int))).run Try.prog W = .ok (.pointer (some ⟨B, o + q * 5, none⟩)) W := by
  simp [Instr.indexAt, run_underlying Try.underlying80, asIntOf, go_sem]
  intro h
  omega
theorem opV (a : Operand → Value) (ob : Oper) (x y : Operand) (B o m d q : Nat) (ho : ob.op = Op.indexAddr 80 x y) (hx : a x = .slice (some ⟨B, o, none⟩) m d) (hy : a y = .int .i64 (q : Int)) (hq : q < m) (W : World) :
    (execOp a ob).run Try.prog W = .ok (.value (.pointer (some ⟨B, o + q * 5, none⟩))) W := by
  unfold execOp
  rw [ho]
  simp only [hx, hy]
  simp only [Sem.run_bind, ixV B o m d q hq W, Result.andThen_ok, Sem.run_pure]
def MidW (w : World) (vs : List Vt) (ls : List Vd) (n : Nat) (s i : Value) (U : World) : Prop :=
  ∃ (k : Nat) (sa : Option Addr) (sn sc : Nat), k ≤ n ∧ i = .int .i64 (k : Int) ∧ s = .slice sa sn sc ∧ OwnK U (.slice sa sn sc) ((vs.take k).map (keyAt ls)) ∧ NewB w (.slice sa sn sc) ∧ far ls.length vs = far ls.length (vs.drop k) ∧ Below w.heap.size w U
set_option maxRecDepth 10000 in
set_option maxHeartbeats 8000000 in
theorem who_any (w : World) (ht : Int) (h : List Int) (a b : Option Addr) (n c m d : Nat) (vs : List Vt) (ls : List Vd) (hl : h.length = 32) (hv : VtIn w a n c vs) (hw : VIn w b m d ls) (_hm : m ≤ 1000) :
    Calls Try.prog 69 #[.agg (ccl ht h (.slice a n c)).toArray, .slice b m d] w (WP w (whoE ht vs m) (whoL ht vs ls)) := by
  obtain ⟨W0, e0⟩ : ∃ X, X = w.alloc (.cells (ccl ht h (.slice a n c)).toArray TC) := ⟨_, rfl⟩
  have hA : At W0 w.heap.size TC (ccl ht h (.slice a n c)) := by rw [e0]; exact At.new w _ _
  have hB : Below w.heap.size w W0 := by rw [e0]; exact Below.alloc (Below.refl _ _) (Nat.le_refl _) _
  have HA := WirS.hide hA
  have HB := WirS.hide hB
  have HV := WirS.hide hv
  have HW := WirS.hide hw
  have HLN := WirS.hide hv.len
  have HLM := WirS.hide hw.len
  have HL := WirS.hide hl
  have E0 := WirS.hide e0
  have HCK := WirS.hide (CmB.check_any W0 ht h a n c vs hl (hv.below hB))
  have hXl := hA.lt
  clear hA hB e0
  by_cases hc : chk ht vs = 0
  · have hup := (chk_up ht vs).1 hc
    have hn64 : n ≤ 64 := by have := hup.2.1; have := hv.len; omega
    have HUP := WirS.hide hup.2.2
    have hwE : whoE ht vs m = if far m vs = true then 3 else 0 := by unfold whoE; rw [if_neg (by simpa using hc)]
    have hwL : whoL ht vs ls = if far m vs = true then [] else vs.map (keyAt ls) := by
      unfold whoL
      rw [hw.len, hwE]
      by_cases e : far m vs = true
      · rw [if_pos e, if_pos e, if_neg (by decide)]
      · rw [if_neg e, if_neg e, if_pos rfl]
    obtain ⟨rc, hrc⟩ : ∃ r : Int, (if far m vs = true then 3 else 0) = r := ⟨_, rfl⟩
    obtain ⟨rk, hrk⟩ : ∃ r : List (List Int), (if far m vs = true then [] else vs.map (keyAt ls)) = r := ⟨_, rfl⟩
    rw [hwE, hwL, hrc, hrk]
    have HRC := WirS.hide hrc
    have HRK := WirS.hide hrk
    rw [hc] at HCK
    clear hl hv hw hc hup hwE hwL hrc hrk
    go_enter Try.func69, Try.ntmps69
    go_upto_region 1 with fail
    rw [show w.alloc (.cells (ccl ht h (.slice a n c)).toArray TC) = W0 from E0.out.symm]
    clear E0
    refine wp_region_lit ?_
    refine sL (by kernel_rfl) _ _ (by rfl) _ (by kernel_rfl) HA.out _ _ CmJ.UC rfl (by kernel_rfl) (by rw [ccl_len _ _ _ HL.out]) ?_
    simp only [Act.put, List.setIfInBounds_toArray, List.set_cons_succ, List.set_cons_zero]
    refine sC (R := fun w' => Below W0.heap.size W0 w') (by kernel_rfl) (by kernel_rfl) HCK.out ?_
    rintro u0 hb
    simp only [Act.put, List.setIfInBounds_toArray, List.set_cons_succ, List.set_cons_zero]
    have k33 : u0.cell? ⟨w.heap.size, 33, none⟩ = some (.slice a n c) := (hb.cell (p := ⟨w.heap.size, 33, none⟩) hXl).trans ((HA.out.cell 33).trans (ccl_33 _ _ _ HL.out))
    have HB0 := WirS.hide (HB.out.trans (hb.mono HB.out.size))
    clear hb HCK
    have HST := WirS.hide (show MidW w vs ls n (.slice none 0 0) (.int .i64 0) u0 from ⟨0, none, 0, 0, Nat.zero_le _, rfl, rfl, OwnK.nil u0, (fun k hk => by simp [Value.ownBlock] at hk), rfl, HB0.out⟩)
    go_wp2_with fail
    go_loopw [7, 18] (fun s i wr => MidW w vs ls n s i wr) (fun _ i _ => n - (intOf i).toNat)
    case atStart => exact HST.out
    case round =>
      clear HST k33
      obtain ⟨k, sa, sn, sc, hk, rfl, rfl, hO, hNB, hE, hBw⟩ := hrel
      have HO := WirS.hide hO
      have HNB := WirS.hide hNB
      have HBW := WirS.hide hBw
      rw [HLM.out] at hE
      by_cases hlt : k < n
      · obtain ⟨x, Bx, ox, hx, hmem, rfl, hBl2, hr⟩ := (HV.out.below hBw).cell hlt
        have r0 : wr.cell? ⟨Bx, ox + k * 2, none⟩ = some (.int .i64 x.at') := hr 0 _ rfl
        have r1 : wr.cell? ⟨Bx, ox + k * 2 + 1, none⟩ = some (.int .u64 x.sg) := hr 1 _ rfl
        have hkl : (k : Int) < (n : Int) := by omega
        have hxp := HUP.out.rng x hmem
        have htk : vs.take k ++ [x] = vs.take (k + 1) := by rw [List.take_add_one, hx]; rfl
        rw [drop_get hx] at hE
        obtain ⟨W1, e1⟩ : ∃ X, X = wr.alloc (.cells #[.int .i64 x.at', .int .u64 x.sg] TV) := ⟨_, rfl⟩
        obtain ⟨Y, eY⟩ : ∃ Y, wr.heap.size = Y := ⟨_, rfl⟩
        have hA1 : At W1 Y TV x.cells := by rw [e1, ← eY]; exact At.new wr _ _
        have h01 : Below wr.heap.size wr W1 := by rw [e1]; exact Below.alloc (Below.refl _ _) (Nat.le_refl _) _
        have HB1 := WirS.hide (hBw.trans (h01.mono hBw.size))
        have HO1 := WirS.hide (hO.below h01)
        have HA1 := WirS.hide hA1
        have HTK := WirS.hide htk
        have E1 := WirS.hide e1
        obtain ⟨q, hq⟩ : ∃ q : Nat, x.at' = (q : Int) := ⟨x.at'.toNat, by omega⟩
        have HXQ := WirS.hide hq
        have y0 : W1.cell? ⟨Y, 0, none⟩ = some (.int .i64 (q : Int)) := by rw [← hq]; exact hA1.cell 0
        clear hr hx hmem hxp hA1 h01 hO hNB hBw htk e1
        by_cases hqm : (m : Int) ≤ (q : Int)
        · have hE2 : far m vs = true := by rw [hE]; simp [far, hq]; exact .inl (by omega)
          have HE := WirS.hide hE2
          have d1 : decide ((m : Int) ≤ (q : Int)) = true := by simpa using hqm
          clear hE hE2 hq
          go_upto_region 8 with fail
          rw [show wr.alloc (.cells #[.int .i64 x.at', .int .u64 x.sg] TV) = W1 from E1.out.symm]
          clear r0 r1 eY E1
          go_wp2_with fail
          refine bodyPost_ret (v := .tuple #[.slice none 0 0, .int .i64 3]) (by simp [results, Try.results69, go_sem]) rfl ?_
          rw [← HRC.out, ← HRK.out, if_pos HE.out, if_pos HE.out]
          exact wp_none rfl HB1.out
        · have hE2 : far m vs = far m (vs.drop (k + 1)) := by rw [hE]; simp [far, hq]; omega
          have HE := WirS.hide hE2
          have d1 : decide ((m : Int) ≤ (q : Int)) = false := by simpa using hqm
          have hqm2 : q < m := by omega
          obtain ⟨y, By, oy, hy, _, rfl, _, hyr⟩ := (HW.out.below HB1.out).cell hqm2
          have hky : keyAt ls x = y.key := by unfold keyAt; rw [hq, Int.toNat_natCast, hy]; rfl
          have HKR := WirS.hide (show W1.rangeAt By (oy + q * 5) (b8 y.key) from fun j v hj => hyr j v (by
            have hj4 : j < 4 := (List.getElem?_eq_some_iff.1 hj).1
            have : ∀ j, j < 4 → (b8 y.key)[j]? = y.cells[j]? := fun j h => by
              obtain rfl | rfl | rfl | rfl : j = 0 ∨ j = 1 ∨ j = 2 ∨ j = 3 := by omega
              all_goals rfl
            rw [← this j hj4]
            exact hj))
          have HKY := WirS.hide hky
          have hsl : sn = ((vs.take k).map (keyAt ls)).length := by obtain ⟨va, vc, e⟩ := HO.out.len_of; cases e; rfl
          have hal : Below W1.heap.size W1 (W1.alloc (.cells (b8 y.key).toArray TKE)) := Below.alloc (Below.refl _ _) (Nat.le_refl _) _
          obtain ⟨v', u9, hrun, ho, hf, hnw⟩ := app_key (W1.alloc (.cells (b8 y.key).toArray TKE)) TK (.slice sa sn sc) ((vs.take k).map (keyAt ls)) y.key rfl W1.heap.size (HO1.out.below hal) (At.new _ _ _) (by rw [List.length_map, List.length_take]; omega)
          obtain ⟨ia, ic, rfl⟩ := ho.len_of
          have HIO := WirS.hide (show OwnK u9 (.slice ia ((vs.take k).map (keyAt ls) ++ [y.key]).length ic) ((vs.take (k + 1)).map (keyAt ls)) from by rw [← HTK.out, List.map_append, List.map_cons, List.map_nil, hky]; exact ho)
          obtain ⟨im, him⟩ : ∃ i, ((vs.take k).map (keyAt ls) ++ [y.key]).length = i := ⟨_, rfl⟩
          rw [him] at HIO hrun hnw
          have HBF := WirS.hide (show Below w.heap.size w u9 from (HB1.out.trans (hal.mono HB1.out.size)).trans (hf.below (Nat.le_trans HB1.out.size hal.size) (fun q hq hx => by have := HNB.out q hx; omega)))
          have HNN := WirS.hide (show NewB w (.slice ia im ic) from fun q hq => by
            rcases hnw q hq with h | h
            · exact HNB.out q h
            · exact Nat.le_trans (Nat.le_trans HB1.out.size hal.size) h)
          have HRUN := WirS.hide hrun
          clear hE hE2 hy hyr hky hsl hal ho hf hnw hrun him hq
          go_upto_region 8 with fail
          rw [show wr.alloc (.cells #[.int .i64 x.at', .int .u64 x.sg] TV) = W1 from E1.out.symm]
          clear r0 r1 eY E1
          go_upto_region 10 with fail
          refine wp_region_lit ?_
          refine sV (.slice sa sn sc) (W1) (by kernel_rfl) (by kernel_rfl) ?_
          simp only [Act.put, List.setIfInBounds_toArray, List.set_cons_succ, List.set_cons_zero]
          refine sV (.slice (some ⟨By, oy, none⟩) m d) (W1) (by kernel_rfl) (by kernel_rfl) ?_
          simp only [Act.put, List.setIfInBounds_toArray, List.set_cons_succ, List.set_cons_zero]
          refine sV (.pointer (some ⟨Y, 0, none⟩)) (W1) (by kernel_rfl) (by kernel_rfl) ?_
          simp only [Act.put, List.setIfInBounds_toArray, List.set_cons_succ, List.set_cons_zero]
          refine sP (by kernel_rfl) _ _ (by rfl) ⟨Y, 0, none⟩ (by kernel_rfl) (.int .i64 (q : Int)) y0 (by kernel_rfl) ?_
          simp only [Act.put, List.setIfInBounds_toArray, List.set_cons_succ, List.set_cons_zero]
          refine sV (.pointer (some ⟨By, oy + q * 5, none⟩)) W1 (by kernel_rfl) (opV _ _ (.tmp 28) (.tmp 30) By oy m d q (by kernel_rfl) (by kernel_rfl) (by kernel_rfl) hqm2 W1) ?_
          simp only [Act.put, List.setIfInBounds_toArray, List.set_cons_succ, List.set_cons_zero]
          refine sV (.pointer (some ⟨By, oy + q * 5, none⟩)) (W1) (by kernel_rfl) (by kernel_rfl) ?_
          simp only [Act.put, List.setIfInBounds_toArray, List.set_cons_succ, List.set_cons_zero]
          refine wpList_load_mid (by rfl) _ _ (by rfl) By (oy + q * 5) (by kernel_rfl) (b8 y.key) _ HKR.out Try.underlying36 (by rfl) (by kernel_rfl) ?_
          simp only [Act.put, List.setIfInBounds_toArray, List.set_cons_succ, List.set_cons_zero]
          refine sV (.slice (some ⟨W1.heap.size, 0, none⟩) 1 1) (W1.alloc (.cells (b8 y.key).toArray TKE)) (by kernel_rfl) (by kernel_rfl) ?_
          simp only [Act.put, List.setIfInBounds_toArray, List.set_cons_succ, List.set_cons_zero]
          refine sA (by kernel_rfl) TK TK _ _ (by rfl) (.slice sa sn sc) (.slice (some ⟨W1.heap.size, 0, none⟩) 1 1) (by kernel_rfl) (by kernel_rfl) (.slice ia im ic) (u9) HRUN.out ?_
          simp only [Act.put, List.setIfInBounds_toArray, List.set_cons_succ, List.set_cons_zero]
          clear HRUN
          go_wp2_with fail
          go_roundw
          case rel => exact ⟨k + 1, ia, im, ic, by omega, by go_num, rfl, HIO.out, HNN.out, by rw [HLM.out]; exact HE.out, HBF.out⟩
          case measure => simp [intOf]; omega
      · have hkn : k = n := by omega
        have hE2 : ¬ far m vs = true := by
          rw [hE, List.drop_eq_nil_of_le (by rw [HLN.out]; omega)]
          simp [far]
        have HE := WirS.hide hE2
        have HOF : Hid (OwnK wr (.slice sa sn sc) (vs.map (keyAt ls))) := by
          have h := HO.out
          rw [List.take_of_length_le (by rw [HLN.out]; omega)] at h
          exact h
        clear hE hE2 hO hNB hBw hkn
        go_wp2_with fail
        refine bodyPost_ret (v := .tuple #[.slice sa sn sc, .int .i64 0]) (by simp [results, Try.results69, go_sem]) rfl ?_
        rw [← HRC.out, ← HRK.out, if_neg HE.out, if_neg HE.out]
        exact ⟨sa, sn, sc, rfl, HOF.out, HNB.out, HBW.out⟩
  · have hwE : whoE ht vs m = chk ht vs := by unfold whoE; rw [if_pos hc]
    have hwL : whoL ht vs ls = [] := by unfold whoL; rw [hw.len, hwE, if_neg hc]
    rw [hwE, hwL]
    generalize chk ht vs = cd at *
    have d1 : (cd != 0) = true := by simpa using hc
    clear hl hv hw hc hwE hwL
    go_enter Try.func69, Try.ntmps69
    go_upto_region 1 with fail
    rw [show w.alloc (.cells (ccl ht h (.slice a n c)).toArray TC) = W0 from E0.out.symm]
    clear E0
    refine wp_region_lit ?_
    refine sL (by kernel_rfl) _ _ (by rfl) _ (by kernel_rfl) HA.out _ _ CmJ.UC rfl (by kernel_rfl) (by rw [ccl_len _ _ _ HL.out]) ?_
    simp only [Act.put, List.setIfInBounds_toArray, List.set_cons_succ, List.set_cons_zero]
    refine sC (R := fun w' => Below W0.heap.size W0 w') (by kernel_rfl) (by kernel_rfl) HCK.out ?_
    rintro u0 hb
    simp only [Act.put, List.setIfInBounds_toArray, List.set_cons_succ, List.set_cons_zero]
    have HB0 := WirS.hide (HB.out.trans (hb.mono HB.out.size))
    clear hb HCK
    go_wp2_with fail
    refine bodyPost_ret (v := .tuple #[.slice none 0 0, .int .i64 cd]) (by simp [results, Try.results69, go_sem]) rfl ?_
    exact wp_none rfl HB0.out
end CmS
end Go.Proofs.Ytplinpbmncccoaa
