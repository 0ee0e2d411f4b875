/-
  ValW, ValBK, in one text.
-/
import Derived.Test.YtackcnncjeajpaaVal1
import Derived.Test.YtackcnncjeajpaaWirO1
import Derived.Test.YtackcnncjeajpaaVal4
namespace Go.Proofs.Ytackcnncjeajpaa
namespace ValW
open Go.RowKit Go.WideShapes Go.ChangeShapes Go.ChangeAt
open BlkM WirM WirS ValA
open WirO1 (row8)

theorem list_of {α : Type} {P : Nat → α → Prop} : ∀ n, (∀ i, i < n → ∃ x, P i x) → ∃ l : List α, l.length = n ∧ ∀ i x, l[i]? = some x → P i x
  | 0, _ => ⟨[], rfl, fun i x h => by simp at h⟩
  | n + 1, h => by
    obtain ⟨l, hl, hp⟩ := list_of n (fun i hi => h i (by omega))
    obtain ⟨x, hx⟩ := h n (by omega)
    refine ⟨l ++ [x], by simp [hl], fun i y hy => ?_⟩
    rcases Nat.lt_or_ge i n with hi | hi
    · rw [List.getElem?_append_left (by omega)] at hy
      exact hp i y hy
    · rw [List.getElem?_append_right (by omega), hl] at hy
      obtain rfl : i = n := by
        have := (List.getElem?_eq_some_iff.1 hy).1
        simp at this
        omega
      simp at hy
      subst hy
      exact hx
theorem add_two (a : Addr) (n m : Nat) : a.add (n + m) = (a.add n).add m := by
  unfold Addr.add
  by_cases h1 : n = 0
  · subst h1
    simp
  · by_cases h2 : m = 0
    · subst h2
      simp
    · have h3 : ¬ n + m = 0 := by omega
      simp [h1, h2, Nat.add_assoc]
section
variable {H : Type} {enc : TypeId × Value → H} {W : World}
theorem val_open {fuel : Nat} {cs : List Value} {x : DataW H × List MemPlace} (h : DataW.trod enc Try.prog W 0 (fun _ => true) true fuel 100 cs = some x) : ∃ v : Vd, cs = v.cells ∧ v.ok := by
  have cI : Try.prog.cellsOf 3 = 1 := by kernel_rfl
  have cK : Try.prog.cellsOf 36 = 4 := by kernel_rfl
  have cT : Try.prog.cellsOf 100 = 5 := by kernel_rfl
  obtain ⟨xs, n, _, _, hl, hlen, hf⟩ := DataW.trod_struct Try.underlying100 h
  rw [cT] at hl
  have e0 := hf 0 _ rfl
  have e1 := hf 1 _ rfl
  clear hf
  match xs, hlen with
  | [y0, y1], _ =>
  obtain ⟨lk, p0, hlk, rk⟩ := row8 (k := 4) Try.underlying36 cK e0
  obtain ⟨n1, p1, _, w1⟩ := DataW.trod_int Try.underlying3 e1
  have p0 : (cs.drop 0).take (Try.prog.cellsOf 36) = _ := p0
  have p1 : (cs.drop 4).take (Try.prog.cellsOf 3) = _ := p1
  rw [cK] at p0
  rw [cI] at p1
  have q0 := WirO1.part 0 4 4 p0 rfl
  have q1 := WirO1.part 4 1 5 p1 rfl
  have q2 : cs.drop 5 = [] := List.drop_eq_nil_of_le (by omega)
  rw [q1, q2, List.drop_zero] at q0
  simp [Lit.wf, IntKind.min, IntKind.max, IntKind.signed, IntKind.bits] at w1
  obtain _ | ⟨a, _ | ⟨b, _ | ⟨c, _ | ⟨d, _ | ⟨e, l⟩⟩⟩⟩⟩ := lk <;> simp at hlk
  refine ⟨⟨a, b, c, d, n1⟩, by simpa [Vd.cells, b8] using q0, ⟨rk a (by simp), rk b (by simp), rk c (by simp), rk d (by simp), ⟨by show _ ≤ n1; omega, by show n1 < _; omega⟩⟩⟩
theorem vals_in {fuel : Nat} {cs : List Value} {x : DataW H × List MemPlace} (h : DataW.trod enc Try.prog W 0 (fun _ => true) true fuel 80 cs = some x) :
    ∃ la ln lc vs, cs = [.slice la ln lc] ∧ VIn W la ln lc vs := by
  rcases DataW.trod_slice Try.underlying80 h with ⟨hcs, _⟩ | ⟨a, len, cap, elems, rest, n, _, hcs, _, _, hl, hm, hlen, hel, _, _⟩
  · exact ⟨none, 0, 0, [], hcs, VIn.nil W none 0 (by decide)⟩
  · have cT : Try.prog.cellsOf 100 = 5 := by kernel_rfl
    rw [cT] at hel
    have each : ∀ i, i < len → ∃ x : Vd, (∀ j v, x.cells[j]? = some v → W.cell? (a.add (i * 5 + j)) = some v) ∧ x.ok := by
      intro i hi
      have h1 := hel i hi
      rw [List.getElem?_eq_getElem (show i < elems.length by omega), Option.bind_eq_some_iff] at h1
      obtain ⟨cs', hc, ht⟩ := h1
      obtain ⟨_, hcl, hat⟩ := World.cells?_some hc
      obtain ⟨v, rfl, hok⟩ := val_open ht
      refine ⟨v, fun j u hj => ?_, hok⟩
      have hj2 : j < 5 := (List.getElem?_eq_some_iff.1 hj).1
      rw [add_two a, hat j hj2]
      exact hj
    obtain ⟨vs, hvs, hp⟩ := list_of len each
    refine ⟨some a, len, cap, vs, hcs, ⟨hvs, hl, by unfold maxLen at hm; omega, fun hpos => ?_, fun x hx => ?_⟩⟩
    · obtain ⟨b, off, spot⟩ := a
      obtain ⟨x0, hx0⟩ : ∃ x0, vs[0]? = some x0 := ⟨_, List.getElem?_eq_getElem (by omega)⟩
      have h0 := (hp 0 x0 hx0).1 0 _ rfl
      have hspot : spot = none := by simpa [Addr.add] using World.cell?_spot h0
      subst hspot
      refine ⟨b, off, rfl, ?_, fun i x hx j v hj => ?_⟩
      · rw [Go.WideShapes.add_plain] at h0
        unfold World.cell? at h0
        rcases Nat.lt_or_ge b W.heap.size with h | h
        · exact h
        · have : W.heap[b]? = none := by simp [h]
          simp [this] at h0
      · have h2 := (hp i x hx).1 j v hj
        rw [Go.WideShapes.add_plain] at h2
        rw [Nat.add_assoc]
        exact h2
    · obtain ⟨i, hi, rfl⟩ := List.getElem_of_mem hx
      exact (hp i _ (List.getElem?_eq_getElem hi)).2
end
end ValW
end Go.Proofs.Ytackcnncjeajpaa

namespace Go.Proofs.Ytackcnncjeajpaa
namespace ValBK
open Go.RowKit
open BlkM WirM WirS ValA ValB ValC ValD ValE ValH ValP ValI ValJ ValK ValL ValQ ValZ ValS ValT
open WirRT (rng)
open WirE (NewB)
open WideF (wRes_ok)

theorem fault_eqx (e a' f b' : Int) (W : World) : (binOp .eql 55 (.agg #[.int .i64 e, .int .i64 a']) (.agg #[.int .i64 f, .int .i64 b'])).run Try.prog W = .ok (.bool (e == f && a' == b')) W := WirX.fault_eq e a' f b' W
theorem fault_neqx (e a' f b' : Int) (W : World) : (binOp .neq 55 (.agg #[.int .i64 e, .int .i64 a']) (.agg #[.int .i64 f, .int .i64 b'])).run Try.prog W = .ok (.bool (!(e == f && a' == b'))) W := by
  have p0 : ∀ (x y : Int) (V : World), (part 26 #[.int .i64 x, .int .i64 y] 0).run Try.prog V = .ok (.int .i64 x) V := fun x y V => by kernel_rfl
  have p1 : ∀ (x y : Int) (V : World), (part 3 #[.int .i64 x, .int .i64 y] 1).run Try.prog V = .ok (.int .i64 y) V := fun x y V => by kernel_rfl
  have k1 : ∀ d : Nat, (Op.equalIn (d + 2) 55 (.agg #[.int .i64 e, .int .i64 a']) (.agg #[.int .i64 f, .int .i64 b'])).run Try.prog W = .ok (e == f && a' == b') W := fun d => by
    simp [Op.equalIn, run_underlying Try.underlying55, run_underlying Try.underlying26, run_underlying Try.underlying3, p0, p1]
    by_cases h1 : e = f <;> by_cases h2 : a' = b' <;> simp [h1, h2]
  simp only [binOp]
  simp [Op.equal, Op.maxDepth, k1 9998]
theorem wide_eqx (x y : Int) (W : World) : (binOp .eql 98 (.agg #[.int .u64 x, .int .u64 y]) (.agg #[.int .u64 x, .int .u64 y])).run Try.prog W = .ok (.bool true) W := by
  have p0 : ∀ (x y : Int) (V : World), (part 37 #[.int .u64 x, .int .u64 y] 0).run Try.prog V = .ok (.int .u64 x) V := fun x y V => by kernel_rfl
  have p1 : ∀ (x y : Int) (V : World), (part 37 #[.int .u64 x, .int .u64 y] 1).run Try.prog V = .ok (.int .u64 y) V := fun x y V => by kernel_rfl
  have k1 : ∀ d : Nat, (Op.equalIn (d + 2) 98 (.agg #[.int .u64 x, .int .u64 y]) (.agg #[.int .u64 x, .int .u64 y])).run Try.prog W = .ok true W := fun d => by
    simp [Op.equalIn, run_underlying Try.underlying98, run_underlying Try.underlying37, p0, p1]
  simp only [binOp]
  simp [Op.equal, Op.maxDepth, k1 9998]
theorem slB (a : Option Addr) (len cap m : Nat) (h : m ≤ cap) (Y : World) : (Instr.sliceAt 32 (.slice a len cap) none (some (.int .i64 (m : Int))) none).run Try.prog Y = .ok (.slice (WirH.sa a cap 0) m (cap - 0)) Y := by
  have hu : Try.prog.underlying 32 = some (.slice (Try.prog.elem 32)) := by kernel_rfl
  rw [run_sliceAt_slice Y 32 _ _ _ _ hu, run_slice_h Y 32 a len cap hu .i64 (m : Int) (by omega) (by omega)]
  have hs : (sizeOf (Try.prog.elem 32)).run Try.prog Y = .ok 1 Y := by kernel_rfl
  rw [hs]
  simp [sliced, WirH.sa]
/-- A slice cut at its end. -/
theorem sSh {P : Program} {ops : Array Oper} {rest : List Oper} {o : Oper} {a : Act} {w : World} {Q : Exit → Act → World → Prop} (hw : Region.wanted o (yielded ops a.tmps) = true) (ty : TypeId) (x y : Operand) (ho : o.op = .slice ty x none (some y) none) (p m v : Value) (hx : a.eval x = p) (hy : a.eval y = m)
    (hr : (Instr.sliceAt ty p none (some m) none).run P w = .ok v w) (h : wpList P ops Q rest (a.put o.dst v) w) : wpList P ops Q (o :: rest) a w :=
  sV v w hw (by
    unfold execOp
    simp only [ho, hx, hy, Option.map_none, Option.map_some, Sem.run_bind, hr, Result.andThen_ok, Sem.run_pure]) h
/-- What Decode answers, where it is known. -/
theorem d_ok (U : World) (b : Option Addr) (n c : Nat) (bs : List Int) (vs : List Vd) (m : Nat) (hb : BIn U (.slice b n c) bs) (hr : rng bs) (hn : n ≤ 1099511627776) (hd : dec bs = ((0, 0), vs)) (hm : vs.length = m) : Calls Try.prog 48 #[.slice b n c] U fun e w' => ∃ la lc, e = .returned (.tuple #[.slice la m lc, .agg #[.int .i64 0, .int .i64 0]]) ∧ VIn w' la m lc vs ∧ Below U.heap.size U w' := k_dec U b n c bs vs m hb hr hn hd hm
theorem d_bad (U : World) (b : Option Addr) (n c : Nat) (bs : List Int) (fe fa : Int) (hb : BIn U (.slice b n c) bs) (hr : rng bs) (hn : n ≤ 1099511627776) (hd : dec bs = ((fe, fa), [])) : Calls Try.prog 48 #[.slice b n c] U fun e w' => ∃ la lc, e = .returned (.tuple #[.slice la 0 lc, .agg #[.int .i64 fe, .int .i64 fa]]) ∧ VIn w' la 0 lc [] ∧ Below U.heap.size U w' := by
  refine (decode_any U b n c bs hb hr hn).mono ?_
  rintro e w' ⟨la, ln, lc, rfl, ho, _, hb⟩
  rw [hd] at ho ⊢
  have hv := ho.vin
  have hl := hv.len
  obtain rfl : ln = 0 := by simpa using hl.symm
  exact ⟨_, _, rfl, hv, hb⟩
theorem e_own (U : World) (va : Option Addr) (n vc : Nat) (vs : List Vd) (m : Nat) (h : VIn U va n vc vs) (hc : chk vs = 0) (hm : (enc vs).length = m) : Calls Try.prog 61 #[.slice va n vc] U fun e w' => ∃ ba bc, e = .returned (.tuple #[.slice ba m bc, .int .i64 0]) ∧ WirM.Own w' 5 (.slice ba m bc) (enc vs) ∧ Below U.heap.size U w' := by
  refine (encode_ok U va n vc vs h hc).mono ?_
  rintro e w' ⟨ba, bn, bc, rfl, ho, _, hb⟩
  have hbin := ho.bin
  obtain ⟨_, _, e2, _⟩ := id hbin
  cases e2
  rw [hm] at ho ⊢
  exact ⟨_, _, rfl, ho, hb⟩
theorem enc_len_le {vs : List Vd} (hok : ∀ x ∈ vs, x.ok) (h : vs.length ≤ 64) : (enc vs).length ≤ 900 := by
  have h1 := numB_le (vs.length : Int) (by omega)
  have h2 := items_len vs hok
  unfold enc
  rw [List.length_append]
  omega
theorem dg_rng (n : Int) : ∀ k, rng (WirRT.dg n k)
  | 0 => fun x hx => by cases hx
  | k + 1 => fun x hx => by
    rw [WirRT.dg] at hx
    rcases List.mem_cons.1 hx with rfl | hx
    · omega
    · exact dg_rng n k x hx
theorem enc_rng {vs : List Vd} (hok : ∀ x ∈ vs, x.ok) (hc : chk vs = 0) : rng (enc vs) := by
  have hn : ∀ n : Int, 0 ≤ n → n < 18446744073709551616 → rng (WirD.numB n) := fun n h0 h1 => by
    rw [WirBC.numB_dg n h1]
    intro x hx
    rcases List.mem_cons.1 hx with rfl | hx
    · have := WirD.nb_le n h1
      omega
    · exact dg_rng n _ x hx
  have hp := pw_of hc
  have h64 := ((chk_up vs).1 hc).2.1
  intro x hx
  unfold enc at hx
  rcases List.mem_append.1 hx with hx | hx
  · exact hn _ (by omega) (by omega) x hx
  · simp only [items, List.mem_flatMap] at hx
    obtain ⟨v, hv, hx⟩ := hx
    rcases List.mem_append.1 hx with hx | hx
    · obtain ⟨h1, h2, h3, h4, _⟩ := hok v hv
      simp only [Vd.key, List.mem_cons, List.not_mem_nil, or_false] at hx
      rcases hx with rfl | rfl | rfl | rfl <;> assumption
    · have := hp v hv
      exact hn _ (by omega) (by omega) x hx
theorem ixK_at : ∀ (vs : List Vd) (i j : Nat) (x : Vd), Up vs → vs[j]? = some x → (∀ y ∈ vs, y.ok) → ixK x.key vs i = ((i + j : Nat) : Int)
  | [], i, j, x, _, h, _ => by simp at h
  | y :: l, i, 0, x, _, h, _ => by
    simp at h
    subst h
    simp [ixK]
  | y :: l, i, j + 1, x, hu, h, hok => by
    obtain ⟨h1, h2⟩ := List.pairwise_cons.1 hu
    have hx : l[j]? = some x := by simpa using h
    have hlt := h1 x (List.mem_of_getElem? hx)
    rw [ixK, if_neg (fun e => by
      unfold Vd.key at e
      simp only [List.cons.injEq, and_true] at e
      unfold Vd.rk at hlt
      omega), ixK_at l (i + 1) j x h2 hx (fun z hz => hok z (by simp [hz]))]
    omega
open WideG (sumTo)
theorem sum_bd {vs : List Vd} (hc : chk vs = 0) (k : Nat) (_ : k ≤ vs.length) : 0 ≤ sumTo (vs.map Vd.p) k ∧ sumTo (vs.map Vd.p) k ≤ k * 9223372036854775807 := by
  refine WideG.sumTo_bd _ (fun j _ => ?_) k (fun j hj => ?_)
  all_goals
    by_cases h : j < vs.length
    · have := ((chk_up vs).1 hc).2.2.2 _ (List.getElem_mem h)
      rw [List.getD_eq_getElem?_getD, List.getElem?_map, List.getElem?_eq_getElem h]
      simp
      omega
    · rw [List.getD_eq_getElem?_getD, List.getElem?_eq_none (by simp; omega)]
      simp
def MidB (w : World) (vs : List Vd) (Z n : Nat) (i : Value) (U : World) : Prop :=
  ∃ k : Nat, k ≤ n ∧ i = .int .i64 (k : Int) ∧ At U Z 98 [.int .u64 (sumTo (vs.map Vd.p) k / 18446744073709551616), .int .u64 (sumTo (vs.map Vd.p) k % 18446744073709551616)] ∧ Below w.heap.size w U
set_option maxRecDepth 10000 in
set_option maxHeartbeats 20000000 in
theorem back_on (w : World) (la : Option Addr) (ln lc : Nat) (vs : List Vd) (hL : VIn w la ln lc vs) (q : Int) (b : Option Addr) (n c : Nat) (bs : List Int) (hb : BIn w (.slice b n c) bs) (hr : rng bs) (h64 : ln ≤ 64) (h1000 : n ≤ 1000) (hd : (dec bs).1 = (0, 0)) (cd : Int) (hck : chk vs = cd) (hcd : cd ≠ 0) :
    Calls Try.prog 12 #[.slice la ln lc, .int .i64 q, .slice b n c] w fun e w' => e = .returned (.bool true) ∧ Below w.heap.size w w' := by
  have g1 : ¬ (64 : Int) < (ln : Int) := by omega
  have g2 : ¬ (1000 : Int) < (n : Int) := by omega
  have HL := WirS.hide hL
  have HBI := WirS.hide hb
  have HR := WirS.hide hr
  have HHY := WirS.hide (And.intro h64 h1000)
  obtain ⟨hc1, hc2⟩ := enc_dec hr hd
  have HC2 := WirS.hide (And.intro hc1 hc2)
  have HD := WirS.hide (show dec bs = ((0, 0), (dec bs).2) by rw [← hd])
  clear hc1 hc2 hd
  have HCk := WirS.hide hck
  have hn0 : (cd == 0) = false := by simpa using hcd
  have hn1 : (cd != 0) = true := by simpa using hcd
  clear hck hcd
  clear hL hb hr h64 h1000
  go_enter Try.func12, Try.ntmps12
  go_upto_region 4 with ((go_at_call 11; refine (known_any w).mono ?_; rintro e u1 ⟨rfl, h1⟩; have H1 := WirS.hide h1; clear h1))
  go_upto_region 5 with (go_at_call 48; refine (d_ok _ b n c bs _ _ (BIn.below HBI.out H1.out) HR.out (by omega) HD.out rfl).mono ?_; rintro e u2 ⟨ma, mc, rfl, hv, hb⟩; have HV2 := WirS.hide hv; have H2 := WirS.hide (H1.out.trans (hb.mono H1.out.size)); clear hv hb)
  obtain ⟨mn, hmn⟩ : ∃ m, (dec bs).2.length = m := ⟨_, rfl⟩
  rw [hmn] at HV2
  rw [hmn]
  clear hmn
  obtain ⟨u3, e3⟩ : ∃ Y, Y = u2.alloc (.cells #[.int .i64 0, .int .i64 0] 55) := ⟨_, rfl⟩
  have hF := At.new u2 55 [.int .i64 0, .int .i64 0]
  rw [show u2.alloc (.cells [Value.int .i64 0, .int .i64 0].toArray 55) = u3 from e3.symm] at hF
  have h23 : Below u2.heap.size u2 u3 := by rw [e3]; exact Below.alloc (Below.refl _ _) (Nat.le_refl _) _
  have HV3 := WirS.hide (HV2.out.below h23)
  have H3 := WirS.hide (H2.out.trans (h23.mono H2.out.size))
  have HF := WirS.hide hF
  rw [← e3]
  clear e3 h23 HV2 hF
  generalize u2.heap.size = F1 at *
  have hnb : bs.length = n := by obtain ⟨_, _, e, _⟩ := HBI.out; cases e; rfl
  have HEn := WirS.hide (k_enc u3 ma mn mc (dec bs).2 bs n HV3.out HC2.out.1 HC2.out.2 hnb)
  clear hnb
  go_upto_region 6 with (go_at_call 61; refine (HEn.out).mono ?_; rintro e u4 ⟨ba, bc, rfl, hbn, hb⟩; have HBN := WirS.hide hbn; have H4 := WirS.hide (H3.out.trans (hb.mono H3.out.size)); have hF4 := at_new HF.out hb; have k0 : u4.cell? ⟨F1, 0, none⟩ = some (.int .i64 0) := hF4.cell 0; have k1 : u4.cell? ⟨F1, 1, none⟩ = some (.int .i64 0) := hF4.cell 1; clear hbn hb hF4)
  have he := fun U => fault_eqx 0 0 0 0 U
  have hne := fun U => fault_neqx 0 0 0 0 U
  simp at he hne
  have HSB := WirS.hide (k_sb u4 b ba n c n bc bs (BIn.below HBI.out H4.out) HBN.out HR.out)
  go_upto_region 8 with (go_at_call 26; refine (HSB.out).mono ?_; rintro e u5 ⟨rfl, rfl⟩)
  clear k0 k1 he hne
  go_wp2_with (go_at_call 58; refine (k_chk _ la ln lc vs cd (HL.out.below H4.out) HCk.out).mono ?_; rintro e u6 ⟨rfl, hb⟩; have H6 := WirS.hide (H4.out.trans (hb.mono H4.out.size)); clear hb)
  go_ret
  exact ⟨rfl, H6.out⟩
set_option maxRecDepth 10000 in
set_option maxHeartbeats 20000000 in
theorem back_oy (w : World) (la : Option Addr) (ln lc : Nat) (vs : List Vd) (hL : VIn w la ln lc vs) (q : Int) (b : Option Addr) (n c : Nat) (bs : List Int) (hb : BIn w (.slice b n c) bs) (hr : rng bs) (h64 : ln ≤ 64) (h1000 : n ≤ 1000) (hd : (dec bs).1 = (0, 0)) (hck : chk vs = 0) :
    Calls Try.prog 12 #[.slice la ln lc, .int .i64 q, .slice b n c] w fun e w' => e = .returned (.bool true) ∧ Below w.heap.size w w' := by
  have g1 : ¬ (64 : Int) < (ln : Int) := by omega
  have g2 : ¬ (1000 : Int) < (n : Int) := by omega
  have HL := WirS.hide hL
  have HBI := WirS.hide hb
  have HR := WirS.hide hr
  have HHY := WirS.hide (And.intro h64 h1000)
  obtain ⟨hc1, hc2⟩ := enc_dec hr hd
  have HC2 := WirS.hide (And.intro hc1 hc2)
  have HD := WirS.hide (show dec bs = ((0, 0), (dec bs).2) by rw [← hd])
  clear hc1 hc2 hd
  have HCk := WirS.hide hck
  clear hck
  clear hL hb hr h64 h1000
  go_enter Try.func12, Try.ntmps12
  go_upto_region 4 with ((go_at_call 11; refine (known_any w).mono ?_; rintro e u1 ⟨rfl, h1⟩; have H1 := WirS.hide h1; clear h1))
  go_upto_region 5 with (go_at_call 48; refine (d_ok _ b n c bs _ _ (BIn.below HBI.out H1.out) HR.out (by omega) HD.out rfl).mono ?_; rintro e u2 ⟨ma, mc, rfl, hv, hb⟩; have HV2 := WirS.hide hv; have H2 := WirS.hide (H1.out.trans (hb.mono H1.out.size)); clear hv hb)
  obtain ⟨mn, hmn⟩ : ∃ m, (dec bs).2.length = m := ⟨_, rfl⟩
  rw [hmn] at HV2
  rw [hmn]
  clear hmn
  obtain ⟨u3, e3⟩ : ∃ Y, Y = u2.alloc (.cells #[.int .i64 0, .int .i64 0] 55) := ⟨_, rfl⟩
  have hF := At.new u2 55 [.int .i64 0, .int .i64 0]
  rw [show u2.alloc (.cells [Value.int .i64 0, .int .i64 0].toArray 55) = u3 from e3.symm] at hF
  have h23 : Below u2.heap.size u2 u3 := by rw [e3]; exact Below.alloc (Below.refl _ _) (Nat.le_refl _) _
  have HV3 := WirS.hide (HV2.out.below h23)
  have H3 := WirS.hide (H2.out.trans (h23.mono H2.out.size))
  have HF := WirS.hide hF
  rw [← e3]
  clear e3 h23 HV2 hF
  generalize u2.heap.size = F1 at *
  have hnb : bs.length = n := by obtain ⟨_, _, e, _⟩ := HBI.out; cases e; rfl
  have HEn := WirS.hide (k_enc u3 ma mn mc (dec bs).2 bs n HV3.out HC2.out.1 HC2.out.2 hnb)
  clear hnb
  go_upto_region 6 with (go_at_call 61; refine (HEn.out).mono ?_; rintro e u4 ⟨ba, bc, rfl, hbn, hb⟩; have HBN := WirS.hide hbn; have H4 := WirS.hide (H3.out.trans (hb.mono H3.out.size)); have hF4 := at_new HF.out hb; have k0 : u4.cell? ⟨F1, 0, none⟩ = some (.int .i64 0) := hF4.cell 0; have k1 : u4.cell? ⟨F1, 1, none⟩ = some (.int .i64 0) := hF4.cell 1; clear hbn hb hF4)
  have he := fun U => fault_eqx 0 0 0 0 U
  have hne := fun U => fault_neqx 0 0 0 0 U
  simp at he hne
  have HSB := WirS.hide (k_sb u4 b ba n c n bc bs (BIn.below HBI.out H4.out) HBN.out HR.out)
  go_upto_region 8 with (go_at_call 26; refine (HSB.out).mono ?_; rintro e u5 ⟨rfl, rfl⟩)
  clear k0 k1 he hne
  go_upto_region 10 with (go_at_call 58; refine (k_chk _ la ln lc vs 0 (HL.out.below H4.out) HCk.out).mono ?_; rintro e u6 ⟨rfl, hb⟩; have H6 := WirS.hide (H4.out.trans (hb.mono H4.out.size)); clear hb)
  have hok := HL.out.ok
  have hvl := HL.out.len
  obtain ⟨dn, hdn⟩ : ∃ m, (enc vs).length = m := ⟨_, rfl⟩
  have hd9 : dn ≤ 900 := by rw [← hdn]; exact enc_len_le hok (by have := HHY.out.1; omega)
  have HERg := WirS.hide (enc_rng hok HCk.out)
  have HDN := WirS.hide hdn
  have hd0 : 0 < dn := by
    rw [← hdn]
    have h1 : 0 < vs.length := ((chk_up vs).1 HCk.out).1
    unfold enc
    rw [List.length_append, WirD.numB_len _ (by omega)]
    omega
  have HEn2 := WirS.hide (e_own u6 la ln lc vs dn (HL.out.below H6.out) HCk.out hdn)
  have HDW := WirS.hide (show dec (enc vs) = ((0, 0), vs) by have := dec_whole HCk.out hok []; rwa [List.append_nil, if_pos rfl] at this)
  have HDM := WirS.hide (show dec (enc vs ++ [1]) = ((4, (dn : Int)), []) by have := dec_whole HCk.out hok [1]; rwa [if_neg (by simp), hdn] at this)
  have HDC := WirS.hide (fun (k : Nat) (hk : k < dn) => dec_cut HCk.out hok (cut := k) (by rw [hdn]; exact hk))
  have HLN := WirS.hide hvl
  have HOK := WirS.hide hok
  clear hok hvl hdn
  go_upto_region 11 with (go_at_call 61; refine (HEn2.out).mono ?_; rintro e u7 ⟨da, dc, rfl, ho, hb⟩; have HO7 := WirS.hide ho; have H7 := WirS.hide (H6.out.trans (hb.mono H6.out.size)); clear ho hb)
  go_upto_region 12 with (go_at_call 48; refine (d_ok _ da dn dc (enc vs) vs ln HO7.out.bin HERg.out (by omega) HDW.out HLN.out).mono ?_; rintro e u8 ⟨xa, xc, rfl, hv, hb⟩; have HX8 := WirS.hide hv; have HO8 := WirS.hide (HO7.out.fr (X := fun _ => False) (Fr.of_below hb) (fun _ _ h => h)); have H8 := WirS.hide (H7.out.trans (hb.mono H7.out.size)); clear hv hb)
  obtain ⟨u9, eu9⟩ : ∃ Y, Y = u8.alloc (.cells #[.int .i64 0, .int .i64 0] 55) := ⟨_, rfl⟩
  have hF2 := At.new u8 55 [.int .i64 0, .int .i64 0]
  rw [show u8.alloc (.cells [Value.int .i64 0, .int .i64 0].toArray 55) = u9 from eu9.symm] at hF2
  have hst : Below u8.heap.size u8 u9 := by rw [eu9]; exact Below.alloc (Below.refl _ _) (Nat.le_refl _) _
  have HX9 := WirS.hide (HX8.out.below hst)
  have HO9 := WirS.hide (HO8.out.fr (X := fun _ => False) (Fr.of_below hst) (fun _ _ h => h))
  have H9 := WirS.hide (H8.out.trans (hst.mono H8.out.size))
  have HF2 := WirS.hide hF2
  rw [← eu9]
  clear eu9 hst hF2 HX8 HO8
  generalize u8.heap.size = F2 at *
  have hpk := KitB.pick_range q (dn : Int) (by omega)
  obtain ⟨p, hp⟩ : ∃ p : Nat, KitB.pick q (dn : Int) = (p : Int) := ⟨(KitB.pick q (dn : Int)).toNat, by omega⟩
  have HPk := WirS.hide (fun U => show Calls Try.prog 45 #[.int .i64 q, .int .i64 (dn : Int)] U (fun e w' => e = .returned (.int .i64 (p : Int)) ∧ U = w') from by have := KitB.pick_any U q (dn : Int) (by omega) (by omega); rwa [hp] at this)
  have hpd : p < dn := by omega
  have hdc : dn ≤ dc := by
    obtain ⟨_, _, e, hcap, _⟩ := HO9.out.bin
    cases e
    rw [HDN.out] at hcap
    exact hcap
  clear hpk hp
  go_upto_region 12 with fail
  refine wp_region_lit ?_
  refine sV (.slice da dn dc) (u9) (by kernel_rfl) (by kernel_rfl) ?_
  simp only [Act.put, List.setIfInBounds_toArray, List.set_cons_succ, List.set_cons_zero]
  refine sV (.int .i64 q) (u9) (by kernel_rfl) (by kernel_rfl) ?_
  simp only [Act.put, List.setIfInBounds_toArray, List.set_cons_succ, List.set_cons_zero]
  refine sV (.slice da dn dc) (u9) (by kernel_rfl) (by kernel_rfl) ?_
  simp only [Act.put, List.setIfInBounds_toArray, List.set_cons_succ, List.set_cons_zero]
  refine sV (.int .i64 (dn : Int)) (u9) (by kernel_rfl) (by kernel_rfl) ?_
  simp only [Act.put, List.setIfInBounds_toArray, List.set_cons_succ, List.set_cons_zero]
  refine sC (by kernel_rfl) (by kernel_rfl) (HPk.out u9) ?_
  rintro _ rfl
  simp only [Act.put, List.setIfInBounds_toArray, List.set_cons_succ, List.set_cons_zero]
  refine sSh (by kernel_rfl) _ _ _ (by rfl) (.slice da dn dc) (.int .i64 (p : Int)) (.slice (WirH.sa da dc 0) p (dc - 0)) (by kernel_rfl) (by kernel_rfl) (slB da dn dc p (by omega) u9) ?_
  simp only [Act.put, List.setIfInBounds_toArray, List.set_cons_succ, List.set_cons_zero]
  have hbc : BIn u9 (.slice (WirH.sa da dc 0) p (dc - 0)) ((enc vs).take p) := by
    have h5 := HO9.out.bin
    have := WirH.bin_sub (at' := 0) (n := p) (by rw [HDN.out]; exact h5) (by rw [HDN.out]; omega)
    rwa [List.drop_zero] at this
  obtain ⟨ce, ca, hce⟩ : ∃ ce ca, (dec ((enc vs).take p)).1 = (ce, ca) := ⟨_, _, rfl⟩
  have hne0 := HDC.out p hpd
  rw [hce] at hne0
  have hcf := dec_fault (bs := (enc vs).take p) (fun x hx => HERg.out x (List.mem_of_mem_take hx)) (by rw [hce]; intro h; cases h; exact hne0 rfl)
  refine sCx (by kernel_rfl) (by kernel_rfl) (d_bad u9 _ p _ ((enc vs).take p) ce ca hbc (fun x hx => HERg.out x (List.mem_of_mem_take hx)) (by omega) (by rw [← hce, ← hcf.1])) ?_
  rintro e u10 ⟨ya, yc, rfl, hv, hb⟩
  refine ⟨_, rfl, ?_⟩
  simp only [Act.put, List.setIfInBounds_toArray, List.set_cons_succ, List.set_cons_zero]
  have HX10 := WirS.hide (HX9.out.below hb)
  have HO10 := WirS.hide (HO9.out.fr (X := fun _ => False) (Fr.of_below hb) (fun _ _ h => h))
  have H10 := WirS.hide (H9.out.trans (hb.mono H9.out.size))
  have HF2b := WirS.hide (at_new HF2.out hb)
  have hce0 : (ce == 0) = false := by simpa using hne0
  refine sV (.tuple #[.slice ya 0 yc, .agg #[.int .i64 ce, .int .i64 ca]]) (u10) (by kernel_rfl) (by kernel_rfl) ?_
  simp only [Act.put, List.setIfInBounds_toArray, List.set_cons_succ, List.set_cons_zero]
  clear hv hb hbc hce hne0 hcf HX9 HO9 HF2
  go_upto_region 13 with fail
  obtain ⟨u11, eu11⟩ : ∃ Y, Y = u10.alloc (.cells #[.int .i64 ce, .int .i64 ca] 55) := ⟨_, rfl⟩
  have hF3 := At.new u10 55 [.int .i64 ce, .int .i64 ca]
  rw [show u10.alloc (.cells [Value.int .i64 ce, .int .i64 ca].toArray 55) = u11 from eu11.symm] at hF3
  have hst : Below u10.heap.size u10 u11 := by rw [eu11]; exact Below.alloc (Below.refl _ _) (Nat.le_refl _) _
  have HX11 := WirS.hide (HX10.out.below hst)
  have HO11 := WirS.hide (HO10.out.fr (X := fun _ => False) (Fr.of_below hst) (fun _ _ h => h))
  have H11 := WirS.hide (H10.out.trans (hst.mono H10.out.size))
  have HF2c := WirS.hide (at_new HF2b.out hst)
  have HF3 := WirS.hide hF3
  rw [← eu11]
  clear eu11 hst hF3 HX10 HO10 HF2b
  generalize u10.heap.size = F3 at *
  refine wp_region_lit ?_
  refine sV (.slice da dn dc) (u11) (by kernel_rfl) (by kernel_rfl) ?_
  simp only [Act.put, List.setIfInBounds_toArray, List.set_cons_succ, List.set_cons_zero]
  refine sCx (by kernel_rfl) (by kernel_rfl) (KitC.copy_any u11 da dn dc (enc vs) HO11.out.bin (by omega)) ?_
  rintro e u12 ⟨ca2, cn2, cc2, rfl, ho, hnw, hb⟩
  refine ⟨_, rfl, ?_⟩
  simp only [Act.put, List.setIfInBounds_toArray, List.set_cons_succ, List.set_cons_zero]
  have h13 : Below u12.heap.size u12 (u12.alloc (.cells #[.int .u8 1] 5)) := Below.alloc (Below.refl _ _) (Nat.le_refl _) _
  refine sV (.slice (some ⟨u12.heap.size, 0, none⟩) 1 1) (u12.alloc (.cells #[.int .u8 1] 5)) (by kernel_rfl) (by kernel_rfl) ?_
  simp only [Act.put, List.setIfInBounds_toArray, List.set_cons_succ, List.set_cons_zero]
  obtain ⟨i0, hi, hz0, hz1, hz2⟩ := info_parts (show (Try.prog.info? 5).map (fun i => (i.zero, i.size, i.bytes)) = some (some (.int .u8 0), 1, 1) by kernel_rfl)
  obtain ⟨v1, u13, r1, o1, f1, _⟩ := app_any (P := Try.prog) (u12.alloc (.cells #[.int .u8 1] 5)) 32 32 32 5 i0 _ Try.underlying32 hi hz0 hz1 hz2 rfl (.slice ca2 cn2 cc2) (.slice (some ⟨u12.heap.size, 0, none⟩) 1 1) (enc vs) [1] (ho.fr (X := fun _ => False) (Fr.of_below h13) (fun _ _ h => h)) ((BIn.new u12 5 [1] 1 1 (0, 0) (by decide) (by decide)).src Try.underlying32) (by rw [HDN.out]; simp; omega)
  refine sA (by kernel_rfl) 32 32 _ _ (by rfl) (.slice ca2 cn2 cc2) (.slice (some ⟨u12.heap.size, 0, none⟩) 1 1) (by kernel_rfl) (by kernel_rfl) (v1) (u13) r1 ?_
  simp only [Act.put, List.setIfInBounds_toArray, List.set_cons_succ, List.set_cons_zero]
  have hB13 : Below u11.heap.size u11 u13 := (hb.trans (h13.mono hb.size)).trans (f1.below (Nat.le_trans hb.size h13.size) (fun k hk hx => by
    have := hnw k hx
    omega))
  obtain ⟨ja, jc, rfl⟩ := KitC.len_of o1
  have hjl : (enc vs ++ [1]).length = dn + 1 := by rw [List.length_append, HDN.out]; rfl
  rw [hjl] at o1 ⊢
  clear r1 f1 ho hnw hb h13 hi hz0 hz1 hz2
  refine sCx (by kernel_rfl) (by kernel_rfl) (d_bad u13 ja (dn + 1) jc (enc vs ++ [1]) 4 (dn : Int) o1.bin (fun x hx => (List.mem_append.1 hx).elim (HERg.out x) (fun hx => by simp at hx; omega)) (by omega) HDM.out) ?_
  rintro e u14 ⟨za, zc, rfl, hv, hb14⟩
  refine ⟨_, rfl, ?_⟩
  simp only [Act.put, List.setIfInBounds_toArray, List.set_cons_succ, List.set_cons_zero]
  have hB14 := hB13.trans (hb14.mono hB13.size)
  have HX14 := WirS.hide (HX11.out.below hB14)
  have H14 := WirS.hide (H11.out.trans (hB14.mono H11.out.size))
  have HF2d := WirS.hide (at_new HF2c.out hB14)
  have HF3d := WirS.hide (at_new HF3.out hB14)
  clear hv hb14 hB13 hB14 o1 hjl HX11 HO11 HF2c HF3
  refine sV (.tuple #[.slice za 0 zc, .agg #[.int .i64 4, .int .i64 (dn : Int)]]) (u14) (by kernel_rfl) (by kernel_rfl) ?_
  simp only [Act.put, List.setIfInBounds_toArray, List.set_cons_succ, List.set_cons_zero]
  go_upto_region 14 with fail
  obtain ⟨u15, eu15⟩ : ∃ Y, Y = u14.alloc (.cells #[.int .i64 4, .int .i64 (dn : Int)] 55) := ⟨_, rfl⟩
  have hF4 := At.new u14 55 [.int .i64 4, .int .i64 (dn : Int)]
  rw [show u14.alloc (.cells [Value.int .i64 4, .int .i64 (dn : Int)].toArray 55) = u15 from eu15.symm] at hF4
  have hst : Below u14.heap.size u14 u15 := by rw [eu15]; exact Below.alloc (Below.refl _ _) (Nat.le_refl _) _
  have HX15 := WirS.hide (HX14.out.below hst)
  have H15 := WirS.hide (H14.out.trans (hst.mono H14.out.size))
  have a2 := at_new HF2d.out hst
  have a3 := at_new HF3d.out hst
  rw [← eu15]
  clear eu15 hst
  generalize u14.heap.size = F4 at *
  have k20 : u15.cell? ⟨F2, 0, none⟩ = some (.int .i64 0) := a2.cell 0
  have k21 : u15.cell? ⟨F2, 1, none⟩ = some (.int .i64 0) := a2.cell 1
  have k30 : u15.cell? ⟨F3, 0, none⟩ = some (.int .i64 ce) := a3.cell 0
  have HF3l := WirS.hide a3.lt
  have HF3c := WirS.hide k30
  have k40 : u15.cell? ⟨F4, 0, none⟩ = some (.int .i64 4) := hF4.cell 0
  have k41 : u15.cell? ⟨F4, 1, none⟩ = some (.int .i64 (dn : Int)) := hF4.cell 1
  have HF4 := WirS.hide hF4
  clear a2 a3 hF4 HF2d HF3d HX14
  have n2 := fun U => fault_neqx 0 0 0 0 U
  have n4 := fun U => fault_neqx 4 (dn : Int) 4 (dn : Int) U
  simp at n2 n4
  have HSV := WirS.hide (ValE.same_any u15 xa la ln xc lc vs HX15.out (HL.out.below H15.out))
  have HF4b := WirS.hide (fun (U : World) (hU : Below u15.heap.size u15 U) => (show U.cell? ⟨F4, 0, none⟩ = some (.int .i64 4) ∧ U.cell? ⟨F4, 1, none⟩ = some (.int .i64 (dn : Int)) ∧ U.cell? ⟨F3, 0, none⟩ = some (.int .i64 ce) from ⟨(at_new HF4.out hU).cell 0, (at_new HF4.out hU).cell 1, (hU.cell (p := ⟨F3, 0, none⟩) HF3l.out).trans HF3c.out⟩))
  go_upto_region 16 with (go_at_call 50; refine (HSV.out).mono ?_; rintro e u16 ⟨rfl, hb⟩; obtain ⟨j40, j41, j30⟩ := HF4b.out u16 hb; have H16 := WirS.hide (H15.out.trans (hb.mono H15.out.size)); clear hb)
  clear k20 k21 k30 k40 k41 n2 n4 j40 j41 j30 hce0
  have hst : MidB w vs u16.heap.size ln (.int .i64 0) (u16.alloc (.cells #[.int .u64 0, .int .u64 0] 98)) := ⟨0, Nat.zero_le _, rfl, At.new u16 _ _, H16.out.alloc H16.out.size _⟩
  have HST := WirS.hide hst
  have hZw : w.heap.size ≤ u16.heap.size := H16.out.size
  clear hst
  go_wp2_with fail
  generalize u16.heap.size = Z at *
  go_loopw [21] (fun i wr => MidB w vs Z ln i wr) (fun i _ => ln - (intOf i).toNat)
  case atStart => exact HST.out
  case round =>
    clear HST
    obtain ⟨k, hk, rfl, hZ, hB⟩ := hrel
    by_cases hlt : k < ln
    · obtain ⟨x, B, o, hx, hmem, rfl, hBl, hr⟩ := (HL.out.below hB).cell hlt
      have r0 : wr.cell? ⟨B, o + k * 5, none⟩ = some (.int .u8 x.a) := hr 0 _ rfl
      have r1 : wr.cell? ⟨B, o + k * 5 + 1, none⟩ = some (.int .u8 x.b) := hr 1 _ rfl
      have r2 : wr.cell? ⟨B, o + k * 5 + 2, none⟩ = some (.int .u8 x.c) := hr 2 _ rfl
      have r3 : wr.cell? ⟨B, o + k * 5 + 3, none⟩ = some (.int .u8 x.d) := hr 3 _ rfl
      have HRA := WirS.hide hr
      have HBL := WirS.hide hBl
      have hkl : (k : Int) < (ln : Int) := by omega
      have hln63 : ln ≤ 9223372036854775807 := by have := HHY.out.1; omega
      obtain ⟨_, hx64, hup, hpw⟩ := (chk_up vs).1 HCk.out
      have hxp := hpw x hmem
      have HFd := WirS.hide (k_find wr (some ⟨B, o, none⟩) ln lc vs x (k : Int) (HL.out.below hB) (by have := ixK_at vs 0 k x hup hx HOK.out; rw [this]; omega) (by omega))
      have hS1 : sumTo (vs.map Vd.p) (k + 1) = sumTo (vs.map Vd.p) k + x.p := by
        rw [sumTo, List.getD_eq_getElem?_getD, List.getElem?_map, hx]
        rfl
      have hb0 := sum_bd HCk.out k (by rw [HLN.out]; omega)
      have hb1 := sum_bd HCk.out (k + 1) (by rw [HLN.out]; omega)
      obtain ⟨S0, eS0⟩ : ∃ S, sumTo (vs.map Vd.p) k = S := ⟨_, rfl⟩
      obtain ⟨S1, eS1⟩ : ∃ S, sumTo (vs.map Vd.p) (k + 1) = S := ⟨_, rfl⟩
      rw [eS0] at hZ hS1 hb0
      rw [eS1] at hS1 hb1
      have HS1 := WirS.hide eS1
      have HOf := WirS.hide (fun U => WideB.of_pos x.p U (by omega) (by omega))
      have HPl := WirS.hide (fun U => show Calls Try.prog 64 #[.agg #[.int .u64 (S0 / 18446744073709551616), .int .u64 (S0 % 18446744073709551616)], .agg #[.int .u64 0, .int .u64 x.p]] U (fun e w' => e = .returned (.tuple #[.agg #[.int .u64 (S1 / 18446744073709551616), .int .u64 (S1 % 18446744073709551616)], .int .i64 0]) ∧ Below U.heap.size U w') from by
        have C := WideA.plus_any (S0 / 18446744073709551616) (S0 % 18446744073709551616) 0 x.p U (by omega) (by omega) (by omega) (by omega) (by omega) (by omega) (by omega) (by omega)
        rw [show S0 / 18446744073709551616 * 18446744073709551616 + S0 % 18446744073709551616 + (0 * 18446744073709551616 + x.p) = S1 by omega, wRes_ok hb1.1 (by omega)] at C
        exact C)
      obtain ⟨hi0, ehi0⟩ : ∃ y, S0 / 18446744073709551616 = y := ⟨_, rfl⟩
      obtain ⟨lo0, elo0⟩ : ∃ y, S0 % 18446744073709551616 = y := ⟨_, rfl⟩
      obtain ⟨hi1, ehi1⟩ : ∃ y, S1 / 18446744073709551616 = y := ⟨_, rfl⟩
      obtain ⟨lo1, elo1⟩ : ∃ y, S1 % 18446744073709551616 = y := ⟨_, rfl⟩
      rw [ehi0, elo0, ehi1, elo1] at HPl
      rw [ehi0, elo0] at hZ
      have HHI := WirS.hide (And.intro ehi1 elo1)
      have HZ := WirS.hide hZ
      have HB := WirS.hide hB
      clear hr hx hmem hpw hup hS1 hb0 hb1 eS0 eS1 ehi0 elo0 ehi1 elo1 hZ hB hBl hxp hx64
      go_wp2_with (first | (go_at_call 55; refine (HFd.out).mono ?_; rintro e a1 ⟨rfl, hb⟩; have d4 : a1.cell? ⟨B, o + k * 5 + 4, none⟩ = some (.int .i64 x.p) := (hb.cell (p := ⟨B, o + k * 5 + 4, none⟩) HBL.out).trans (HRA.out 4 _ rfl); have HZ1 := WirS.hide (at_new HZ.out hb); have HB1 := WirS.hide (HB.out.trans (hb.mono HB.out.size)); clear hb) | (go_at_call 63; refine (HOf.out _).mono ?_; rintro e a2 ⟨rfl, hb⟩; have hz2 := at_new HZ1.out hb; have z0 : a2.cell? ⟨Z, 0, none⟩ = some (.int .u64 hi0) := hz2.cell 0; have z1 : a2.cell? ⟨Z, 1, none⟩ = some (.int .u64 lo0) := hz2.cell 1; have zl := hz2.lt; have hal : Below a2.heap.size a2 (a2.alloc (.cells #[.int .u64 0, .int .u64 x.p] 98)) := Below.alloc (Below.refl _ _) (Nat.le_refl _) _; have HZ2 := WirS.hide (at_new hz2 hal); have HB2 := WirS.hide ((HB1.out.trans (hb.mono HB1.out.size)).trans (hal.mono (HB1.out.trans (hb.mono HB1.out.size)).size)); clear hb hz2 hal) | (go_at_call 64; refine (HPl.out _).mono ?_; rintro e a3 ⟨rfl, hb⟩; have hz3 := at_new HZ2.out hb; have y0 : a3.cell? ⟨Z, 0, none⟩ = some (.int .u64 hi0) := hz3.cell 0; have y1 : a3.cell? ⟨Z, 1, none⟩ = some (.int .u64 lo0) := hz3.cell 1; have f0 := hz3.frozen 0; have f1 := hz3.frozen 1; have yl := hz3.lt; have HZ3 := WirS.hide hz3; have HB3 := WirS.hide (HB2.out.trans (hb.mono HB2.out.size)); clear hb hz3))
      go_roundw
      case rel =>
        refine ⟨k + 1, by omega, by go_num, ?_, ?_⟩
        · rw [HS1.out, HHI.out.1, HHI.out.2]
          exact ((HZ3.out.setCell 0 _).setCell 1 _).alloc _
        · exact ((HB3.out.setCell (p := ⟨Z, 0, none⟩) hZw _).setCell (p := ⟨Z, 1, none⟩) hZw _).alloc (by simpa using HB3.out.size) _
      case measure => simp [intOf]; omega
    · obtain rfl : k = ln := by omega
      have hT := total_ok wr la k lc vs (HL.out.below hB) HCk.out
      unfold tell sumP at hT
      rw [HLN.out] at hT
      generalize sumTo (vs.map Vd.p) k / 18446744073709551616 = hi at *
      generalize sumTo (vs.map Vd.p) k % 18446744073709551616 = lo at *
      have HT := WirS.hide hT
      have HZ := WirS.hide hZ
      have HB := WirS.hide hB
      have hwe := fun U => wide_eqx hi lo U
      clear hT hZ hB
      go_wp2_with (go_at_call 65; refine (HT.out).mono ?_; rintro e a1 ⟨rfl, hb⟩; have hz1 := at_new HZ.out hb; have z0 : a1.cell? ⟨Z, 0, none⟩ = some (.int .u64 hi) := hz1.cell 0; have z1 : a1.cell? ⟨Z, 1, none⟩ = some (.int .u64 lo) := hz1.cell 1; have zl := hz1.lt; have HB1 := WirS.hide (HB.out.trans (hb.mono HB.out.size)); clear hb hz1)
      go_ret
      exact ⟨rfl, HB1.out.alloc HB1.out.size _⟩
set_option maxRecDepth 10000 in
set_option maxHeartbeats 20000000 in
theorem back_bn (w : World) (la : Option Addr) (ln lc : Nat) (vs : List Vd) (hL : VIn w la ln lc vs) (q : Int) (b : Option Addr) (n c : Nat) (bs : List Int) (hb : BIn w (.slice b n c) bs) (hr : rng bs) (h64 : ln ≤ 64) (h1000 : n ≤ 1000) (hd : (dec bs).1 ≠ (0, 0)) (cd : Int) (hck : chk vs = cd) (hcd : cd ≠ 0) :
    Calls Try.prog 12 #[.slice la ln lc, .int .i64 q, .slice b n c] w fun e w' => e = .returned (.bool true) ∧ Below w.heap.size w w' := by
  have g1 : ¬ (64 : Int) < (ln : Int) := by omega
  have g2 : ¬ (1000 : Int) < (n : Int) := by omega
  have HL := WirS.hide hL
  have HBI := WirS.hide hb
  have HR := WirS.hide hr
  have HHY := WirS.hide (And.intro h64 h1000)
  obtain ⟨hd2, hd3, hd4⟩ := dec_fault hr hd
  obtain ⟨fe, fa, hfe⟩ : ∃ fe fa, (dec bs).1 = (fe, fa) := ⟨_, _, rfl⟩
  rw [hfe] at hd3 hd4 hd
  have HD := WirS.hide (show dec bs = ((fe, fa), []) by rw [← hfe, ← hd2])
  have hz : (fe == 0 && fa == 0) = false := by
    cases hq : (fe == 0 && fa == 0)
    · rfl
    · simp at hq
      exact absurd (by rw [hq.1, hq.2]) hd
  have HZ := WirS.hide hz
  have hnb : bs.length = n := by obtain ⟨_, _, e, _⟩ := hb; cases e; rfl
  have HFA := WirS.hide (show 0 ≤ fa ∧ fa ≤ (n : Int) by rw [← hnb]; exact ⟨hd3, hd4⟩)
  clear hd2 hd3 hd4 hfe hd hz hnb
  have HCk := WirS.hide hck
  have hn0 : (cd == 0) = false := by simpa using hcd
  have hn1 : (cd != 0) = true := by simpa using hcd
  clear hck hcd
  clear hL hb hr h64 h1000
  go_enter Try.func12, Try.ntmps12
  go_upto_region 4 with ((go_at_call 11; refine (known_any w).mono ?_; rintro e u1 ⟨rfl, h1⟩; have H1 := WirS.hide h1; clear h1))
  go_upto_region 5 with (go_at_call 48; refine (d_bad _ b n c bs fe fa (BIn.below HBI.out H1.out) HR.out (by omega) HD.out).mono ?_; rintro e u2 ⟨ma, mc, rfl, hv, hb⟩; have HV2 := WirS.hide hv; have H2 := WirS.hide (H1.out.trans (hb.mono H1.out.size)); clear hv hb)
  obtain ⟨u3, e3⟩ : ∃ Y, Y = u2.alloc (.cells #[.int .i64 fe, .int .i64 fa] 55) := ⟨_, rfl⟩
  have hF := At.new u2 55 [.int .i64 fe, .int .i64 fa]
  rw [show u2.alloc (.cells [Value.int .i64 fe, .int .i64 fa].toArray 55) = u3 from e3.symm] at hF
  have h23 : Below u2.heap.size u2 u3 := by rw [e3]; exact Below.alloc (Below.refl _ _) (Nat.le_refl _) _
  have HV3 := WirS.hide (HV2.out.below h23)
  have H3 := WirS.hide (H2.out.trans (h23.mono H2.out.size))
  have HF := WirS.hide hF
  rw [← e3]
  clear e3 h23 HV2 hF
  generalize u2.heap.size = F1 at *
  have hEn := encode_bad u3 ma 0 mc [] HV3.out (by decide)
  rw [show chk [] = 6 by rfl] at hEn
  have HEn := WirS.hide hEn
  clear hEn
  go_upto_region 6 with (go_at_call 61; refine (HEn.out).mono ?_; rintro e u4 ⟨rfl, hb⟩; have H4 := WirS.hide (H3.out.trans (hb.mono H3.out.size)); have hF4 := at_new HF.out hb; have k0 : u4.cell? ⟨F1, 0, none⟩ = some (.int .i64 fe) := hF4.cell 0; have k1 : u4.cell? ⟨F1, 1, none⟩ = some (.int .i64 fa) := hF4.cell 1; clear hb hF4)
  have he := fun U => fault_eqx fe fa 0 0 U
  have hne := fun U => fault_neqx fe fa 0 0 U
  simp only [HZ.out] at he hne
  have hf0 : decide (fa < 0) = false := by have := HFA.out; simp; omega
  have hf1 : decide ((n : Int) < fa) = false := by have := HFA.out; simp; omega
  go_upto_region 8 with fail
  clear k0 k1 he hne hf0 hf1
  go_wp2_with (go_at_call 58; refine (k_chk _ la ln lc vs cd (HL.out.below H4.out) HCk.out).mono ?_; rintro e u6 ⟨rfl, hb⟩; have H6 := WirS.hide (H4.out.trans (hb.mono H4.out.size)); clear hb)
  go_ret
  exact ⟨rfl, H6.out⟩
set_option maxRecDepth 10000 in
set_option maxHeartbeats 20000000 in
theorem back_by (w : World) (la : Option Addr) (ln lc : Nat) (vs : List Vd) (hL : VIn w la ln lc vs) (q : Int) (b : Option Addr) (n c : Nat) (bs : List Int) (hb : BIn w (.slice b n c) bs) (hr : rng bs) (h64 : ln ≤ 64) (h1000 : n ≤ 1000) (hd : (dec bs).1 ≠ (0, 0)) (hck : chk vs = 0) :
    Calls Try.prog 12 #[.slice la ln lc, .int .i64 q, .slice b n c] w fun e w' => e = .returned (.bool true) ∧ Below w.heap.size w w' := by
  have g1 : ¬ (64 : Int) < (ln : Int) := by omega
  have g2 : ¬ (1000 : Int) < (n : Int) := by omega
  have HL := WirS.hide hL
  have HBI := WirS.hide hb
  have HR := WirS.hide hr
  have HHY := WirS.hide (And.intro h64 h1000)
  obtain ⟨hd2, hd3, hd4⟩ := dec_fault hr hd
  obtain ⟨fe, fa, hfe⟩ : ∃ fe fa, (dec bs).1 = (fe, fa) := ⟨_, _, rfl⟩
  rw [hfe] at hd3 hd4 hd
  have HD := WirS.hide (show dec bs = ((fe, fa), []) by rw [← hfe, ← hd2])
  have hz : (fe == 0 && fa == 0) = false := by
    cases hq : (fe == 0 && fa == 0)
    · rfl
    · simp at hq
      exact absurd (by rw [hq.1, hq.2]) hd
  have HZ := WirS.hide hz
  have hnb : bs.length = n := by obtain ⟨_, _, e, _⟩ := hb; cases e; rfl
  have HFA := WirS.hide (show 0 ≤ fa ∧ fa ≤ (n : Int) by rw [← hnb]; exact ⟨hd3, hd4⟩)
  clear hd2 hd3 hd4 hfe hd hz hnb
  have HCk := WirS.hide hck
  clear hck
  clear hL hb hr h64 h1000
  go_enter Try.func12, Try.ntmps12
  go_upto_region 4 with ((go_at_call 11; refine (known_any w).mono ?_; rintro e u1 ⟨rfl, h1⟩; have H1 := WirS.hide h1; clear h1))
  go_upto_region 5 with (go_at_call 48; refine (d_bad _ b n c bs fe fa (BIn.below HBI.out H1.out) HR.out (by omega) HD.out).mono ?_; rintro e u2 ⟨ma, mc, rfl, hv, hb⟩; have HV2 := WirS.hide hv; have H2 := WirS.hide (H1.out.trans (hb.mono H1.out.size)); clear hv hb)
  obtain ⟨u3, e3⟩ : ∃ Y, Y = u2.alloc (.cells #[.int .i64 fe, .int .i64 fa] 55) := ⟨_, rfl⟩
  have hF := At.new u2 55 [.int .i64 fe, .int .i64 fa]
  rw [show u2.alloc (.cells [Value.int .i64 fe, .int .i64 fa].toArray 55) = u3 from e3.symm] at hF
  have h23 : Below u2.heap.size u2 u3 := by rw [e3]; exact Below.alloc (Below.refl _ _) (Nat.le_refl _) _
  have HV3 := WirS.hide (HV2.out.below h23)
  have H3 := WirS.hide (H2.out.trans (h23.mono H2.out.size))
  have HF := WirS.hide hF
  rw [← e3]
  clear e3 h23 HV2 hF
  generalize u2.heap.size = F1 at *
  have hEn := encode_bad u3 ma 0 mc [] HV3.out (by decide)
  rw [show chk [] = 6 by rfl] at hEn
  have HEn := WirS.hide hEn
  clear hEn
  go_upto_region 6 with (go_at_call 61; refine (HEn.out).mono ?_; rintro e u4 ⟨rfl, hb⟩; have H4 := WirS.hide (H3.out.trans (hb.mono H3.out.size)); have hF4 := at_new HF.out hb; have k0 : u4.cell? ⟨F1, 0, none⟩ = some (.int .i64 fe) := hF4.cell 0; have k1 : u4.cell? ⟨F1, 1, none⟩ = some (.int .i64 fa) := hF4.cell 1; clear hb hF4)
  have he := fun U => fault_eqx fe fa 0 0 U
  have hne := fun U => fault_neqx fe fa 0 0 U
  simp only [HZ.out] at he hne
  have hf0 : decide (fa < 0) = false := by have := HFA.out; simp; omega
  have hf1 : decide ((n : Int) < fa) = false := by have := HFA.out; simp; omega
  go_upto_region 8 with fail
  clear k0 k1 he hne hf0 hf1
  go_upto_region 10 with (go_at_call 58; refine (k_chk _ la ln lc vs 0 (HL.out.below H4.out) HCk.out).mono ?_; rintro e u6 ⟨rfl, hb⟩; have H6 := WirS.hide (H4.out.trans (hb.mono H4.out.size)); clear hb)
  have hok := HL.out.ok
  have hvl := HL.out.len
  obtain ⟨dn, hdn⟩ : ∃ m, (enc vs).length = m := ⟨_, rfl⟩
  have hd9 : dn ≤ 900 := by rw [← hdn]; exact enc_len_le hok (by have := HHY.out.1; omega)
  have HERg := WirS.hide (enc_rng hok HCk.out)
  have HDN := WirS.hide hdn
  have hd0 : 0 < dn := by
    rw [← hdn]
    have h1 : 0 < vs.length := ((chk_up vs).1 HCk.out).1
    unfold enc
    rw [List.length_append, WirD.numB_len _ (by omega)]
    omega
  have HEn2 := WirS.hide (e_own u6 la ln lc vs dn (HL.out.below H6.out) HCk.out hdn)
  have HDW := WirS.hide (show dec (enc vs) = ((0, 0), vs) by have := dec_whole HCk.out hok []; rwa [List.append_nil, if_pos rfl] at this)
  have HDM := WirS.hide (show dec (enc vs ++ [1]) = ((4, (dn : Int)), []) by have := dec_whole HCk.out hok [1]; rwa [if_neg (by simp), hdn] at this)
  have HDC := WirS.hide (fun (k : Nat) (hk : k < dn) => dec_cut HCk.out hok (cut := k) (by rw [hdn]; exact hk))
  have HLN := WirS.hide hvl
  have HOK := WirS.hide hok
  clear hok hvl hdn
  go_upto_region 11 with (go_at_call 61; refine (HEn2.out).mono ?_; rintro e u7 ⟨da, dc, rfl, ho, hb⟩; have HO7 := WirS.hide ho; have H7 := WirS.hide (H6.out.trans (hb.mono H6.out.size)); clear ho hb)
  go_upto_region 12 with (go_at_call 48; refine (d_ok _ da dn dc (enc vs) vs ln HO7.out.bin HERg.out (by omega) HDW.out HLN.out).mono ?_; rintro e u8 ⟨xa, xc, rfl, hv, hb⟩; have HX8 := WirS.hide hv; have HO8 := WirS.hide (HO7.out.fr (X := fun _ => False) (Fr.of_below hb) (fun _ _ h => h)); have H8 := WirS.hide (H7.out.trans (hb.mono H7.out.size)); clear hv hb)
  obtain ⟨u9, eu9⟩ : ∃ Y, Y = u8.alloc (.cells #[.int .i64 0, .int .i64 0] 55) := ⟨_, rfl⟩
  have hF2 := At.new u8 55 [.int .i64 0, .int .i64 0]
  rw [show u8.alloc (.cells [Value.int .i64 0, .int .i64 0].toArray 55) = u9 from eu9.symm] at hF2
  have hst : Below u8.heap.size u8 u9 := by rw [eu9]; exact Below.alloc (Below.refl _ _) (Nat.le_refl _) _
  have HX9 := WirS.hide (HX8.out.below hst)
  have HO9 := WirS.hide (HO8.out.fr (X := fun _ => False) (Fr.of_below hst) (fun _ _ h => h))
  have H9 := WirS.hide (H8.out.trans (hst.mono H8.out.size))
  have HF2 := WirS.hide hF2
  rw [← eu9]
  clear eu9 hst hF2 HX8 HO8
  generalize u8.heap.size = F2 at *
  have hpk := KitB.pick_range q (dn : Int) (by omega)
  obtain ⟨p, hp⟩ : ∃ p : Nat, KitB.pick q (dn : Int) = (p : Int) := ⟨(KitB.pick q (dn : Int)).toNat, by omega⟩
  have HPk := WirS.hide (fun U => show Calls Try.prog 45 #[.int .i64 q, .int .i64 (dn : Int)] U (fun e w' => e = .returned (.int .i64 (p : Int)) ∧ U = w') from by have := KitB.pick_any U q (dn : Int) (by omega) (by omega); rwa [hp] at this)
  have hpd : p < dn := by omega
  have hdc : dn ≤ dc := by
    obtain ⟨_, _, e, hcap, _⟩ := HO9.out.bin
    cases e
    rw [HDN.out] at hcap
    exact hcap
  clear hpk hp
  go_upto_region 12 with fail
  refine wp_region_lit ?_
  refine sV (.slice da dn dc) (u9) (by kernel_rfl) (by kernel_rfl) ?_
  simp only [Act.put, List.setIfInBounds_toArray, List.set_cons_succ, List.set_cons_zero]
  refine sV (.int .i64 q) (u9) (by kernel_rfl) (by kernel_rfl) ?_
  simp only [Act.put, List.setIfInBounds_toArray, List.set_cons_succ, List.set_cons_zero]
  refine sV (.slice da dn dc) (u9) (by kernel_rfl) (by kernel_rfl) ?_
  simp only [Act.put, List.setIfInBounds_toArray, List.set_cons_succ, List.set_cons_zero]
  refine sV (.int .i64 (dn : Int)) (u9) (by kernel_rfl) (by kernel_rfl) ?_
  simp only [Act.put, List.setIfInBounds_toArray, List.set_cons_succ, List.set_cons_zero]
  refine sC (by kernel_rfl) (by kernel_rfl) (HPk.out u9) ?_
  rintro _ rfl
  simp only [Act.put, List.setIfInBounds_toArray, List.set_cons_succ, List.set_cons_zero]
  refine sSh (by kernel_rfl) _ _ _ (by rfl) (.slice da dn dc) (.int .i64 (p : Int)) (.slice (WirH.sa da dc 0) p (dc - 0)) (by kernel_rfl) (by kernel_rfl) (slB da dn dc p (by omega) u9) ?_
  simp only [Act.put, List.setIfInBounds_toArray, List.set_cons_succ, List.set_cons_zero]
  have hbc : BIn u9 (.slice (WirH.sa da dc 0) p (dc - 0)) ((enc vs).take p) := by
    have h5 := HO9.out.bin
    have := WirH.bin_sub (at' := 0) (n := p) (by rw [HDN.out]; exact h5) (by rw [HDN.out]; omega)
    rwa [List.drop_zero] at this
  obtain ⟨ce, ca, hce⟩ : ∃ ce ca, (dec ((enc vs).take p)).1 = (ce, ca) := ⟨_, _, rfl⟩
  have hne0 := HDC.out p hpd
  rw [hce] at hne0
  have hcf := dec_fault (bs := (enc vs).take p) (fun x hx => HERg.out x (List.mem_of_mem_take hx)) (by rw [hce]; intro h; cases h; exact hne0 rfl)
  refine sCx (by kernel_rfl) (by kernel_rfl) (d_bad u9 _ p _ ((enc vs).take p) ce ca hbc (fun x hx => HERg.out x (List.mem_of_mem_take hx)) (by omega) (by rw [← hce, ← hcf.1])) ?_
  rintro e u10 ⟨ya, yc, rfl, hv, hb⟩
  refine ⟨_, rfl, ?_⟩
  simp only [Act.put, List.setIfInBounds_toArray, List.set_cons_succ, List.set_cons_zero]
  have HX10 := WirS.hide (HX9.out.below hb)
  have HO10 := WirS.hide (HO9.out.fr (X := fun _ => False) (Fr.of_below hb) (fun _ _ h => h))
  have H10 := WirS.hide (H9.out.trans (hb.mono H9.out.size))
  have HF2b := WirS.hide (at_new HF2.out hb)
  have hce0 : (ce == 0) = false := by simpa using hne0
  refine sV (.tuple #[.slice ya 0 yc, .agg #[.int .i64 ce, .int .i64 ca]]) (u10) (by kernel_rfl) (by kernel_rfl) ?_
  simp only [Act.put, List.setIfInBounds_toArray, List.set_cons_succ, List.set_cons_zero]
  clear hv hb hbc hce hne0 hcf HX9 HO9 HF2
  go_upto_region 13 with fail
  obtain ⟨u11, eu11⟩ : ∃ Y, Y = u10.alloc (.cells #[.int .i64 ce, .int .i64 ca] 55) := ⟨_, rfl⟩
  have hF3 := At.new u10 55 [.int .i64 ce, .int .i64 ca]
  rw [show u10.alloc (.cells [Value.int .i64 ce, .int .i64 ca].toArray 55) = u11 from eu11.symm] at hF3
  have hst : Below u10.heap.size u10 u11 := by rw [eu11]; exact Below.alloc (Below.refl _ _) (Nat.le_refl _) _
  have HX11 := WirS.hide (HX10.out.below hst)
  have HO11 := WirS.hide (HO10.out.fr (X := fun _ => False) (Fr.of_below hst) (fun _ _ h => h))
  have H11 := WirS.hide (H10.out.trans (hst.mono H10.out.size))
  have HF2c := WirS.hide (at_new HF2b.out hst)
  have HF3 := WirS.hide hF3
  rw [← eu11]
  clear eu11 hst hF3 HX10 HO10 HF2b
  generalize u10.heap.size = F3 at *
  refine wp_region_lit ?_
  refine sV (.slice da dn dc) (u11) (by kernel_rfl) (by kernel_rfl) ?_
  simp only [Act.put, List.setIfInBounds_toArray, List.set_cons_succ, List.set_cons_zero]
  refine sCx (by kernel_rfl) (by kernel_rfl) (KitC.copy_any u11 da dn dc (enc vs) HO11.out.bin (by omega)) ?_
  rintro e u12 ⟨ca2, cn2, cc2, rfl, ho, hnw, hb⟩
  refine ⟨_, rfl, ?_⟩
  simp only [Act.put, List.setIfInBounds_toArray, List.set_cons_succ, List.set_cons_zero]
  have h13 : Below u12.heap.size u12 (u12.alloc (.cells #[.int .u8 1] 5)) := Below.alloc (Below.refl _ _) (Nat.le_refl _) _
  refine sV (.slice (some ⟨u12.heap.size, 0, none⟩) 1 1) (u12.alloc (.cells #[.int .u8 1] 5)) (by kernel_rfl) (by kernel_rfl) ?_
  simp only [Act.put, List.setIfInBounds_toArray, List.set_cons_succ, List.set_cons_zero]
  obtain ⟨i0, hi, hz0, hz1, hz2⟩ := info_parts (show (Try.prog.info? 5).map (fun i => (i.zero, i.size, i.bytes)) = some (some (.int .u8 0), 1, 1) by kernel_rfl)
  obtain ⟨v1, u13, r1, o1, f1, _⟩ := app_any (P := Try.prog) (u12.alloc (.cells #[.int .u8 1] 5)) 32 32 32 5 i0 _ Try.underlying32 hi hz0 hz1 hz2 rfl (.slice ca2 cn2 cc2) (.slice (some ⟨u12.heap.size, 0, none⟩) 1 1) (enc vs) [1] (ho.fr (X := fun _ => False) (Fr.of_below h13) (fun _ _ h => h)) ((BIn.new u12 5 [1] 1 1 (0, 0) (by decide) (by decide)).src Try.underlying32) (by rw [HDN.out]; simp; omega)
  refine sA (by kernel_rfl) 32 32 _ _ (by rfl) (.slice ca2 cn2 cc2) (.slice (some ⟨u12.heap.size, 0, none⟩) 1 1) (by kernel_rfl) (by kernel_rfl) (v1) (u13) r1 ?_
  simp only [Act.put, List.setIfInBounds_toArray, List.set_cons_succ, List.set_cons_zero]
  have hB13 : Below u11.heap.size u11 u13 := (hb.trans (h13.mono hb.size)).trans (f1.below (Nat.le_trans hb.size h13.size) (fun k hk hx => by
    have := hnw k hx
    omega))
  obtain ⟨ja, jc, rfl⟩ := KitC.len_of o1
  have hjl : (enc vs ++ [1]).length = dn + 1 := by rw [List.length_append, HDN.out]; rfl
  rw [hjl] at o1 ⊢
  clear r1 f1 ho hnw hb h13 hi hz0 hz1 hz2
  refine sCx (by kernel_rfl) (by kernel_rfl) (d_bad u13 ja (dn + 1) jc (enc vs ++ [1]) 4 (dn : Int) o1.bin (fun x hx => (List.mem_append.1 hx).elim (HERg.out x) (fun hx => by simp at hx; omega)) (by omega) HDM.out) ?_
  rintro e u14 ⟨za, zc, rfl, hv, hb14⟩
  refine ⟨_, rfl, ?_⟩
  simp only [Act.put, List.setIfInBounds_toArray, List.set_cons_succ, List.set_cons_zero]
  have hB14 := hB13.trans (hb14.mono hB13.size)
  have HX14 := WirS.hide (HX11.out.below hB14)
  have H14 := WirS.hide (H11.out.trans (hB14.mono H11.out.size))
  have HF2d := WirS.hide (at_new HF2c.out hB14)
  have HF3d := WirS.hide (at_new HF3.out hB14)
  clear hv hb14 hB13 hB14 o1 hjl HX11 HO11 HF2c HF3
  refine sV (.tuple #[.slice za 0 zc, .agg #[.int .i64 4, .int .i64 (dn : Int)]]) (u14) (by kernel_rfl) (by kernel_rfl) ?_
  simp only [Act.put, List.setIfInBounds_toArray, List.set_cons_succ, List.set_cons_zero]
  go_upto_region 14 with fail
  obtain ⟨u15, eu15⟩ : ∃ Y, Y = u14.alloc (.cells #[.int .i64 4, .int .i64 (dn : Int)] 55) := ⟨_, rfl⟩
  have hF4 := At.new u14 55 [.int .i64 4, .int .i64 (dn : Int)]
  rw [show u14.alloc (.cells [Value.int .i64 4, .int .i64 (dn : Int)].toArray 55) = u15 from eu15.symm] at hF4
  have hst : Below u14.heap.size u14 u15 := by rw [eu15]; exact Below.alloc (Below.refl _ _) (Nat.le_refl _) _
  have HX15 := WirS.hide (HX14.out.below hst)
  have H15 := WirS.hide (H14.out.trans (hst.mono H14.out.size))
  have a2 := at_new HF2d.out hst
  have a3 := at_new HF3d.out hst
  rw [← eu15]
  clear eu15 hst
  generalize u14.heap.size = F4 at *
  have k20 : u15.cell? ⟨F2, 0, none⟩ = some (.int .i64 0) := a2.cell 0
  have k21 : u15.cell? ⟨F2, 1, none⟩ = some (.int .i64 0) := a2.cell 1
  have k30 : u15.cell? ⟨F3, 0, none⟩ = some (.int .i64 ce) := a3.cell 0
  have HF3l := WirS.hide a3.lt
  have HF3c := WirS.hide k30
  have k40 : u15.cell? ⟨F4, 0, none⟩ = some (.int .i64 4) := hF4.cell 0
  have k41 : u15.cell? ⟨F4, 1, none⟩ = some (.int .i64 (dn : Int)) := hF4.cell 1
  have HF4 := WirS.hide hF4
  clear a2 a3 hF4 HF2d HF3d HX14
  have n2 := fun U => fault_neqx 0 0 0 0 U
  have n4 := fun U => fault_neqx 4 (dn : Int) 4 (dn : Int) U
  simp at n2 n4
  have HSV := WirS.hide (ValE.same_any u15 xa la ln xc lc vs HX15.out (HL.out.below H15.out))
  have HF4b := WirS.hide (fun (U : World) (hU : Below u15.heap.size u15 U) => (show U.cell? ⟨F4, 0, none⟩ = some (.int .i64 4) ∧ U.cell? ⟨F4, 1, none⟩ = some (.int .i64 (dn : Int)) ∧ U.cell? ⟨F3, 0, none⟩ = some (.int .i64 ce) from ⟨(at_new HF4.out hU).cell 0, (at_new HF4.out hU).cell 1, (hU.cell (p := ⟨F3, 0, none⟩) HF3l.out).trans HF3c.out⟩))
  go_upto_region 16 with (go_at_call 50; refine (HSV.out).mono ?_; rintro e u16 ⟨rfl, hb⟩; obtain ⟨j40, j41, j30⟩ := HF4b.out u16 hb; have H16 := WirS.hide (H15.out.trans (hb.mono H15.out.size)); clear hb)
  clear k20 k21 k30 k40 k41 n2 n4 j40 j41 j30 hce0
  have hst : MidB w vs u16.heap.size ln (.int .i64 0) (u16.alloc (.cells #[.int .u64 0, .int .u64 0] 98)) := ⟨0, Nat.zero_le _, rfl, At.new u16 _ _, H16.out.alloc H16.out.size _⟩
  have HST := WirS.hide hst
  have hZw : w.heap.size ≤ u16.heap.size := H16.out.size
  clear hst
  go_wp2_with fail
  generalize u16.heap.size = Z at *
  go_loopw [21] (fun i wr => MidB w vs Z ln i wr) (fun i _ => ln - (intOf i).toNat)
  case atStart => exact HST.out
  case round =>
    clear HST
    obtain ⟨k, hk, rfl, hZ, hB⟩ := hrel
    by_cases hlt : k < ln
    · obtain ⟨x, B, o, hx, hmem, rfl, hBl, hr⟩ := (HL.out.below hB).cell hlt
      have r0 : wr.cell? ⟨B, o + k * 5, none⟩ = some (.int .u8 x.a) := hr 0 _ rfl
      have r1 : wr.cell? ⟨B, o + k * 5 + 1, none⟩ = some (.int .u8 x.b) := hr 1 _ rfl
      have r2 : wr.cell? ⟨B, o + k * 5 + 2, none⟩ = some (.int .u8 x.c) := hr 2 _ rfl
      have r3 : wr.cell? ⟨B, o + k * 5 + 3, none⟩ = some (.int .u8 x.d) := hr 3 _ rfl
      have HRA := WirS.hide hr
      have HBL := WirS.hide hBl
      have hkl : (k : Int) < (ln : Int) := by omega
      have hln63 : ln ≤ 9223372036854775807 := by have := HHY.out.1; omega
      obtain ⟨_, hx64, hup, hpw⟩ := (chk_up vs).1 HCk.out
      have hxp := hpw x hmem
      have HFd := WirS.hide (k_find wr (some ⟨B, o, none⟩) ln lc vs x (k : Int) (HL.out.below hB) (by have := ixK_at vs 0 k x hup hx HOK.out; rw [this]; omega) (by omega))
      have hS1 : sumTo (vs.map Vd.p) (k + 1) = sumTo (vs.map Vd.p) k + x.p := by
        rw [sumTo, List.getD_eq_getElem?_getD, List.getElem?_map, hx]
        rfl
      have hb0 := sum_bd HCk.out k (by rw [HLN.out]; omega)
      have hb1 := sum_bd HCk.out (k + 1) (by rw [HLN.out]; omega)
      obtain ⟨S0, eS0⟩ : ∃ S, sumTo (vs.map Vd.p) k = S := ⟨_, rfl⟩
      obtain ⟨S1, eS1⟩ : ∃ S, sumTo (vs.map Vd.p) (k + 1) = S := ⟨_, rfl⟩
      rw [eS0] at hZ hS1 hb0
      rw [eS1] at hS1 hb1
      have HS1 := WirS.hide eS1
      have HOf := WirS.hide (fun U => WideB.of_pos x.p U (by omega) (by omega))
      have HPl := WirS.hide (fun U => show Calls Try.prog 64 #[.agg #[.int .u64 (S0 / 18446744073709551616), .int .u64 (S0 % 18446744073709551616)], .agg #[.int .u64 0, .int .u64 x.p]] U (fun e w' => e = .returned (.tuple #[.agg #[.int .u64 (S1 / 18446744073709551616), .int .u64 (S1 % 18446744073709551616)], .int .i64 0]) ∧ Below U.heap.size U w') from by
        have C := WideA.plus_any (S0 / 18446744073709551616) (S0 % 18446744073709551616) 0 x.p U (by omega) (by omega) (by omega) (by omega) (by omega) (by omega) (by omega) (by omega)
        rw [show S0 / 18446744073709551616 * 18446744073709551616 + S0 % 18446744073709551616 + (0 * 18446744073709551616 + x.p) = S1 by omega, wRes_ok hb1.1 (by omega)] at C
        exact C)
      obtain ⟨hi0, ehi0⟩ : ∃ y, S0 / 18446744073709551616 = y := ⟨_, rfl⟩
      obtain ⟨lo0, elo0⟩ : ∃ y, S0 % 18446744073709551616 = y := ⟨_, rfl⟩
      obtain ⟨hi1, ehi1⟩ : ∃ y, S1 / 18446744073709551616 = y := ⟨_, rfl⟩
      obtain ⟨lo1, elo1⟩ : ∃ y, S1 % 18446744073709551616 = y := ⟨_, rfl⟩
      rw [ehi0, elo0, ehi1, elo1] at HPl
      rw [ehi0, elo0] at hZ
      have HHI := WirS.hide (And.intro ehi1 elo1)
      have HZ := WirS.hide hZ
      have HB := WirS.hide hB
      clear hr hx hmem hpw hup hS1 hb0 hb1 eS0 eS1 ehi0 elo0 ehi1 elo1 hZ hB hBl hxp hx64
      go_wp2_with (first | (go_at_call 55; refine (HFd.out).mono ?_; rintro e a1 ⟨rfl, hb⟩; have d4 : a1.cell? ⟨B, o + k * 5 + 4, none⟩ = some (.int .i64 x.p) := (hb.cell (p := ⟨B, o + k * 5 + 4, none⟩) HBL.out).trans (HRA.out 4 _ rfl); have HZ1 := WirS.hide (at_new HZ.out hb); have HB1 := WirS.hide (HB.out.trans (hb.mono HB.out.size)); clear hb) | (go_at_call 63; refine (HOf.out _).mono ?_; rintro e a2 ⟨rfl, hb⟩; have hz2 := at_new HZ1.out hb; have z0 : a2.cell? ⟨Z, 0, none⟩ = some (.int .u64 hi0) := hz2.cell 0; have z1 : a2.cell? ⟨Z, 1, none⟩ = some (.int .u64 lo0) := hz2.cell 1; have zl := hz2.lt; have hal : Below a2.heap.size a2 (a2.alloc (.cells #[.int .u64 0, .int .u64 x.p] 98)) := Below.alloc (Below.refl _ _) (Nat.le_refl _) _; have HZ2 := WirS.hide (at_new hz2 hal); have HB2 := WirS.hide ((HB1.out.trans (hb.mono HB1.out.size)).trans (hal.mono (HB1.out.trans (hb.mono HB1.out.size)).size)); clear hb hz2 hal) | (go_at_call 64; refine (HPl.out _).mono ?_; rintro e a3 ⟨rfl, hb⟩; have hz3 := at_new HZ2.out hb; have y0 : a3.cell? ⟨Z, 0, none⟩ = some (.int .u64 hi0) := hz3.cell 0; have y1 : a3.cell? ⟨Z, 1, none⟩ = some (.int .u64 lo0) := hz3.cell 1; have f0 := hz3.frozen 0; have f1 := hz3.frozen 1; have yl := hz3.lt; have HZ3 := WirS.hide hz3; have HB3 := WirS.hide (HB2.out.trans (hb.mono HB2.out.size)); clear hb hz3))
      go_roundw
      case rel =>
        refine ⟨k + 1, by omega, by go_num, ?_, ?_⟩
        · rw [HS1.out, HHI.out.1, HHI.out.2]
          exact ((HZ3.out.setCell 0 _).setCell 1 _).alloc _
        · exact ((HB3.out.setCell (p := ⟨Z, 0, none⟩) hZw _).setCell (p := ⟨Z, 1, none⟩) hZw _).alloc (by simpa using HB3.out.size) _
      case measure => simp [intOf]; omega
    · obtain rfl : k = ln := by omega
      have hT := total_ok wr la k lc vs (HL.out.below hB) HCk.out
      unfold tell sumP at hT
      rw [HLN.out] at hT
      generalize sumTo (vs.map Vd.p) k / 18446744073709551616 = hi at *
      generalize sumTo (vs.map Vd.p) k % 18446744073709551616 = lo at *
      have HT := WirS.hide hT
      have HZ := WirS.hide hZ
      have HB := WirS.hide hB
      have hwe := fun U => wide_eqx hi lo U
      clear hT hZ hB
      go_wp2_with (go_at_call 65; refine (HT.out).mono ?_; rintro e a1 ⟨rfl, hb⟩; have hz1 := at_new HZ.out hb; have z0 : a1.cell? ⟨Z, 0, none⟩ = some (.int .u64 hi) := hz1.cell 0; have z1 : a1.cell? ⟨Z, 1, none⟩ = some (.int .u64 lo) := hz1.cell 1; have zl := hz1.lt; have HB1 := WirS.hide (HB.out.trans (hb.mono HB.out.size)); clear hb hz1)
      go_ret
      exact ⟨rfl, HB1.out.alloc HB1.out.size _⟩
set_option maxRecDepth 10000 in
theorem back_any (w : World) (la : Option Addr) (ln lc : Nat) (vs : List Vd) (hL : VIn w la ln lc vs) (q : Int) (b : Option Addr) (n c : Nat) (bs : List Int) (hb : BIn w (.slice b n c) bs) (hr : rng bs) :
    Calls Try.prog 12 #[.slice la ln lc, .int .i64 q, .slice b n c] w fun e w' => e = .returned (.bool true) ∧ Below w.heap.size w w' := by
  by_cases h64 : 64 < ln
  · have g1 : (64 : Int) < (ln : Int) := by omega
    clear hL hb
    go_enter Try.func12, Try.ntmps12
    go_wp2_with ((go_at_call 11; refine (known_any w).mono ?_; rintro e u1 ⟨rfl, h1⟩; have H1 := WirS.hide h1; clear h1))
    go_ret
    exact ⟨rfl, H1.out⟩
  by_cases h1000 : 1000 < n
  · have g1 : ¬ (64 : Int) < (ln : Int) := by omega
    have g2 : (1000 : Int) < (n : Int) := by omega
    clear hL hb
    go_enter Try.func12, Try.ntmps12
    go_wp2_with ((go_at_call 11; refine (known_any w).mono ?_; rintro e u1 ⟨rfl, h1⟩; have H1 := WirS.hide h1; clear h1))
    go_ret
    exact ⟨rfl, H1.out⟩
  by_cases hd : (dec bs).1 = (0, 0)
  · by_cases hck : chk vs = 0
    · exact back_oy w la ln lc vs hL q b n c bs hb hr (by omega) (by omega) hd hck
    · exact back_on w la ln lc vs hL q b n c bs hb hr (by omega) (by omega) hd _ rfl hck
  · by_cases hck : chk vs = 0
    · exact back_by w la ln lc vs hL q b n c bs hb hr (by omega) (by omega) hd hck
    · exact back_bn w la ln lc vs hL q b n c bs hb hr (by omega) (by omega) hd _ rfl hck
theorem back_row (w : World) (la : Option Addr) (ln lc : Nat) (vs : List Vd) (q : Int) (b : Option Addr) (n c : Nat) (bs : List Int) (hL : VIn w la ln lc vs) (_ : -9223372036854775808 ≤ q) (_ : q ≤ 9223372036854775807) (hb : BIn w (.slice b n c) bs ∧ rng bs) :
    Calls Try.prog 12 #[.slice la ln lc, .int .i64 q, .slice b n c] w fun e w' => e = .returned (.bool true) ∧ Below w.heap.size w w' := back_any w la ln lc vs hL q b n c bs hb.1 hb.2
end ValBK
end Go.Proofs.Ytackcnncjeajpaa

